/- The contract of addr.ReadPrefix: which prefix a text is, or that it is none. -/
import Derived.Test.YtfohjalgpcgfmaaDoorAddrRead

namespace Go.Proofs.YtfohjalgpcgfmaaDoor
open Go.RowKit

def pfV (l : List UInt8) : Value := .agg #[.int .u32 (((pfF l).getD (0, 0)).1 : Nat), .int .i64 (((pfF l).getD (0, 0)).2 : Nat)]
def pfB (l : List UInt8) : Bool := (pfF l).isSome
theorem pf_no {l : List UInt8} (h : pfF l = none) : pfV l = .agg #[.int .u32 0, .int .i64 0] ∧ pfB l = false := by unfold pfV pfB; rw [h]; exact ⟨rfl, rfl⟩
theorem pf_yes {l : List UInt8} {a b : Nat} (h : pfF l = some (a, b)) : pfV l = .agg #[.int .u32 (a : Int), .int .i64 (b : Int)] ∧ pfB l = true := by unfold pfV pfB; rw [h]; exact ⟨rfl, rfl⟩
theorem read_no (l : List UInt8) (w : World) (hs : l.length ≤ maxLen) (h : rdF l = none) :
    Calls Tryd.prog 8 #[.string (str l)] w fun e w' => e = .returned (.tuple #[.int .u32 0, .bool false]) ∧ Drew w w' := by
  have h2 := read_any (str l) w (by rw [str_size]; exact hs)
  rw [show (str l).data.toList = l by simp, (rd_no h).1, (rd_no h).2] at h2
  exact h2
theorem read_yes (l : List UInt8) (a : Nat) (w : World) (hs : l.length ≤ maxLen) (h : rdF l = some a) :
    Calls Tryd.prog 8 #[.string (str l)] w fun e w' => e = .returned (.tuple #[.int .u32 (a : Int), .bool true]) ∧ Drew w w' := by
  have h2 := read_any (str l) w (by rw [str_size]; exact hs)
  rw [show (str l).data.toList = l by simp, (rd_yes h).1, (rd_yes h).2] at h2
  exact h2
theorem headC_len (c : UInt8) (l : List UInt8) : (headC c l).length ≤ l.length ∧ (tailC c l).length ≤ l.length := by
  rcases index_cases l c with ⟨_, _, h3, h4⟩ | ⟨i, _, _, _, h4, h5⟩
  · rw [h3, h4]; simp
  · rw [h4, h5]; simp; omega
theorem below_alloc_draw (w : World) (o : Obj) (n : Nat) : Below w.heap.size w ((w.alloc o).drewN n) := below_drewN ((Below.refl _ _).alloc (Nat.le_refl _) _) n

set_option maxRecDepth 100000 in
set_option maxHeartbeats 1000000 in
theorem readPrefix_any (s : ByteArray) (w : World) (hs : s.size ≤ maxLen) :
    Calls Tryd.prog 10 #[.string s] w fun e w' => e = .returned (.tuple #[pfV s.data.toList, .bool (pfB s.data.toList)]) ∧ Below w.heap.size w w' := by
  have HS := Lib.hid hs
  have HL := Lib.hid (headC_len 47 s.data.toList)
  have H1 := Lib.hid (show (headC 47 s.data.toList).length ≤ maxLen by have := HL.out.1; rw [size_len] at this; exact Nat.le_trans this hs)
  have H2 := Lib.hid (show (tailC 47 s.data.toList).length ≤ maxLen by have := HL.out.2; rw [size_len] at this; exact Nat.le_trans this hs)
  clear hs
  cases hr : rdF (headC 47 s.data.toList) with
  | none =>
    have E := Lib.hid (pf_no (show pfF s.data.toList = none by unfold pfF; rw [show headS s.data.toList = headC 47 s.data.toList from rfl, hr]))
    have HR := Lib.hid hr
    clear hr
    rw [E.out.1, E.out.2]
    go_enter Tryd.func10, Tryd.ntmps10
    go_wp2_with (first
      | (go_at_call 29; refine (cut_any s 47 _ HS.out).mono ?_; rintro e w' ⟨rfl, n1, rfl⟩)
      | (go_at_call 8; refine (read_no _ _ H1.out HR.out).mono ?_; rintro e w' ⟨rfl, n2, rfl⟩))
    exact bodyPost_ret (v := .tuple #[.agg #[.int .u32 0, .int .i64 0], .bool false]) (by simp [results, Tryd.results10, go_sem]) rfl ⟨rfl, ((below_drewN ((Below.refl _ _).alloc (Nat.le_refl _) _) _).setCell (Nat.le_refl _) _).setCell (Nat.le_refl _) _⟩
  | some a =>
    have HR := Lib.hid hr
    cases hn : numF 32 (tailC 47 s.data.toList) with
    | none =>
      have E := Lib.hid (pf_no (show pfF s.data.toList = none by unfold pfF; rw [show headS s.data.toList = headC 47 s.data.toList from rfl, show tailS s.data.toList = tailC 47 s.data.toList from rfl, hr, hn]))
      have HN := Lib.hid hn
      clear hr hn
      rw [E.out.1, E.out.2]
      go_enter Tryd.func10, Tryd.ntmps10
      go_wp2_with (first
        | (go_at_call 29; refine (cut_any s 47 _ HS.out).mono ?_; rintro e w' ⟨rfl, n1, rfl⟩)
        | (go_at_call 8; refine (read_yes _ a _ H1.out HR.out).mono ?_; rintro e w' ⟨rfl, n2, rfl⟩)
        | (go_at_call 27; refine (number_no _ 32 _ (by omega) H2.out HN.out).mono ?_; rintro e w' ⟨rfl, n3, rfl⟩))
      exact bodyPost_ret (v := .tuple #[.agg #[.int .u32 0, .int .i64 0], .bool false]) (by simp [results, Tryd.results10, go_sem]) rfl ⟨rfl, ((below_drewN ((Below.refl _ _).alloc (Nat.le_refl _) _) _).setCell (Nat.le_refl _) _).setCell (Nat.le_refl _) _⟩
    | some q =>
      obtain ⟨b, r⟩ := q
      have hb := numF_len hn
      by_cases hr0 : r = []
      · subst hr0
        have E := Lib.hid (pf_yes (show pfF s.data.toList = some (a, b) by unfold pfF; rw [show headS s.data.toList = headC 47 s.data.toList from rfl, show tailS s.data.toList = tailC 47 s.data.toList from rfl, hr, hn]))
        have HN := Lib.hid hn
        clear hr hn
        rw [E.out.1, E.out.2]
        go_enter Tryd.func10, Tryd.ntmps10
        go_wp2_with (first
          | (go_at_call 29; refine (cut_any s 47 _ HS.out).mono ?_; rintro e w' ⟨rfl, n1, rfl⟩)
          | (go_at_call 8; refine (read_yes _ a _ H1.out HR.out).mono ?_; rintro e w' ⟨rfl, n2, rfl⟩)
          | (go_at_call 27; refine (number_yes _ 32 b [] _ (by omega) H2.out HN.out).mono ?_; rintro e w' ⟨rfl, n3, rfl⟩))
        exact bodyPost_ret (v := .tuple #[.agg #[.int .u32 a, .int .i64 b], .bool true]) (by simp [results, Tryd.results10, go_sem]) rfl ⟨rfl, ((below_drewN ((Below.refl _ _).alloc (Nat.le_refl _) _) _).setCell (Nat.le_refl _) _).setCell (Nat.le_refl _) _⟩
      · have E := Lib.hid (pf_no (show pfF s.data.toList = none by
          unfold pfF; rw [show headS s.data.toList = headC 47 s.data.toList from rfl, show tailS s.data.toList = tailC 47 s.data.toList from rfl, hr, hn]
          cases r with
          | nil => exact absurd rfl hr0
          | cons c r => rfl))
        have HN := Lib.hid hn
        have hne : r.isEmpty = false := by simpa using hr0
        clear hr hn hr0
        rw [E.out.1, E.out.2]
        go_enter Tryd.func10, Tryd.ntmps10
        go_wp2_with (first
          | (go_at_call 29; refine (cut_any s 47 _ HS.out).mono ?_; rintro e w' ⟨rfl, n1, rfl⟩)
          | (go_at_call 8; refine (read_yes _ a _ H1.out HR.out).mono ?_; rintro e w' ⟨rfl, n2, rfl⟩)
          | (go_at_call 27; refine (number_yes _ 32 b r _ (by omega) H2.out HN.out).mono ?_; rintro e w' ⟨rfl, n3, rfl⟩))
        exact bodyPost_ret (v := .tuple #[.agg #[.int .u32 0, .int .i64 0], .bool false]) (by simp [results, Tryd.results10, go_sem]) rfl ⟨rfl, ((below_drewN ((Below.refl _ _).alloc (Nat.le_refl _) _) _).setCell (Nat.le_refl _) _).setCell (Nat.le_refl _) _⟩
end Go.Proofs.YtfohjalgpcgfmaaDoor
