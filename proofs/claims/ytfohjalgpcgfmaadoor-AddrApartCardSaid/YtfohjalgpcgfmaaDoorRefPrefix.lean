/- The contract of palingref02.ReadPrefix: which prefix a text is, or that it is none. -/
import Derived.Test.YtfohjalgpcgfmaaDoorRefRead
import Derived.Test.YtfohjalgpcgfmaaDoorAddrPrefix
namespace Go.Proofs.YtfohjalgpcgfmaaDoor
open Go.RowKit
open Go.Lib (decDigits)

theorem cut_at {l : List UInt8} {k : Nat} (hk : k < l.length) (hn : ∀ c ∈ l.take k, c ≠ 47) (hc : l.getD k 0 = 47) : 47 ∈ l ∧ headS l = l.take k ∧ tailS l = l.drop (k + 1) := by
  have e : l = l.take k ++ 47 :: l.drop (k + 1) := by
    conv => lhs; rw [← List.take_append_drop k l, drop_more hk, hc]
  obtain ⟨h1, h2⟩ := cut_app (l.take k) (l.drop (k + 1)) (fun c hc => by simpa using hn c hc)
  rw [← e] at h1 h2
  refine ⟨?_, h1, h2⟩
  rw [e]
  simp
theorem no_slash {l : List UInt8} (hn : ∀ c ∈ l.take l.length, c ≠ 47) : pfF l = none := by
  rw [← pfR_eq]
  unfold pfR
  rw [if_neg]
  intro h
  rw [List.take_length] at hn
  exact hn 47 h rfl
theorem take_no {l : List UInt8} {k : Nat} (hk : k < l.length) (hn : ∀ c ∈ l.take k, c ≠ 47) (hc : l.getD k 0 ≠ 47) : ∀ c ∈ l.take (k + 1), c ≠ 47 := by
  rw [take_more hk]
  intro c h
  rcases List.mem_append.1 h with h | h
  · exact hn c h
  · rw [List.mem_singleton.1 h]; exact hc
theorem sb47 (l : List UInt8) (k : Nat) : l.getD k 0 = 47 ↔ sb (str l) k = 47 := by
  rw [sb_str]
  constructor
  · intro h; rw [h]; rfl
  · intro h
    have : (l.getD k 0).toNat = 47 := by omega
    rw [← ofNat_of _ _ this]; rfl
theorem refRead_no (l : List UInt8) (w : World) (hs : l.length < 4294967296) (h : rdF l = none) :
    Calls Tryd.prog 9 #[.string (str l)] w fun e w' => e = .returned (.tuple #[.int .u32 0, .bool false]) ∧ Below w.heap.size w w' := by
  have h2 := refRead_any l w hs
  rw [(rd_no h).1, (rd_no h).2] at h2
  exact h2
theorem refRead_yes (l : List UInt8) (a : Nat) (w : World) (hs : l.length < 4294967296) (h : rdF l = some a) :
    Calls Tryd.prog 9 #[.string (str l)] w fun e w' => e = .returned (.tuple #[.int .u32 (a : Int), .bool true]) ∧ Below w.heap.size w w' := by
  have h2 := refRead_any l w hs
  rw [(rd_yes h).1, (rd_yes h).2] at h2
  exact h2
theorem pfF_head {l : List UInt8} (h47 : 47 ∈ l) (h : rdF (headS l) = none) : pfF l = none := by rw [← pfR_eq]; unfold pfR; rw [if_pos h47, h]
theorem pfF_tail {l : List UInt8} {a : Nat} (h47 : 47 ∈ l) (h : rdF (headS l) = some a) : pfF l = if 32 < digF (tailS l) then none else some (a, digF (tailS l)) := by rw [← pfR_eq]; unfold pfR; rw [if_pos h47, h]
theorem set_below {w W : World} (h : Below w.heap.size w W) (x y : Value) (b : Nat) (hb : w.heap.size ≤ b) : Below w.heap.size w ((W.setCell ⟨b, 0, none⟩ x).setCell ⟨b, 1, none⟩ y) := (h.setCell hb _).setCell hb _

set_option maxRecDepth 100000 in
set_option maxHeartbeats 2000000 in
theorem refReadPrefix_any (l : List UInt8) (w : World) (hs : l.length < 4294967296) :
    Calls Tryd.prog 11 #[.string (str l)] w fun e w' => e = .returned (.tuple #[pfV l, .bool (pfB l)]) ∧ Below w.heap.size w w' := by
  go_enter Tryd.func11, Tryd.ntmps11
  go_wp2
  go_loop [4] (fun i => ∃ k : Nat, k ≤ l.length ∧ i = .int .i64 (k : Int) ∧ ∀ c ∈ l.take k, c ≠ 47) (fun i => l.length - (intOf i).toNat)
  case atStart => exact ⟨0, by omega, rfl, fun c h => by simp at h⟩
  case round =>
    obtain ⟨k, hk, rfl, hn⟩ := hrel
    have HN := Lib.hid hn
    clear hn
    by_cases hlt : k < l.length
    · have x0 := run_index_sb (str l) k k rfl (by rw [str_size]; exact hlt)
      by_cases hc : sb (str l) k = 47
      · have t1 : (sb (str l) k != 47) = false := by simpa using hc
        have CA := Lib.hid (cut_at hlt HN.out ((sb47 l k).2 hc))
        clear hc
        have z : ((k : Int) == (l.length : Int)) = false := by simp; omega
        have z2 : (k == l.length) = false := by simp; omega
        have c0 : (k : Int) ≤ (l.length : Int) := by omega
        have c1 : (k : Int) + 1 ≤ (l.length : Int) := by omega
        have c3 : (0 : Int) ≤ (k : Int) + 1 := by omega
        have c4 : ((k : Int) + 1).toNat = k + 1 := by omega
        have e1 : (str l).extract 0 k = str (l.take k) := extract_take (str l) k
        have e2 : (str l).extract (k + 1) l.length = str (l.drop (k + 1)) := by
          have := extract_str (str l) (k + 1)
          rw [str_size] at this
          exact this
        have l1 : (l.take k).length < 4294967296 := by rw [List.length_take]; omega
        have l2 : (l.drop (k + 1)).length ≤ maxLen := by rw [List.length_drop]; unfold maxLen; omega
        have L1 := Lib.hid l1
        have L2 := Lib.hid l2
        clear l1 l2
        cases hr : rdF (l.take k) with
        | none =>
          have E := Lib.hid (pf_no (pfF_head CA.out.1 (by rw [CA.out.2.1]; exact hr)))
          have HR := Lib.hid hr
          clear hr
          go_wp2_with (first
            | (go_at_call 9; refine (refRead_no _ _ L1.out HR.out).mono ?_; rintro e w1 ⟨rfl, hb1⟩; obtain ⟨hcc, hff⟩ := bcell hb1; have hz1 : w.heap.size < w1.heap.size := (by have := hb1.size; simp at this; omega))
            | (go_at_call 28; refine (refDigits_any _ _ L2.out).mono ?_; rintro e w2 ⟨rfl, hb2⟩; obtain ⟨hcc2, hff2⟩ := bcell hb2; have hz2 : w.heap.size < w2.heap.size := (by have := hb2.size; omega); have k0 : w2.cell? ⟨w.heap.size, 0, none⟩ = some (.int .u32 0) := (by rw [hcc2 _ _ hz1, hcc _ _ (by simp)]; simp); have k1 : w2.cell? ⟨w.heap.size, 1, none⟩ = some (.int .i64 0) := (by rw [hcc2 _ _ hz1, hcc _ _ (by simp)]; simp)))
          exact bodyPost_ret (v := .tuple #[.agg #[.int .u32 0, .int .i64 0], .bool false]) (by simp [results, Tryd.results11, go_sem, k0, k1]) rfl ⟨by rw [E.out.1, E.out.2], set_below (trans_below (one_below hb1) hb2) _ _ _ (Nat.le_refl _)⟩
        | some a =>
          have T := Lib.hid (pfF_tail CA.out.1 (by rw [CA.out.2.1]; exact hr))
          have HR := Lib.hid hr
          clear hr
          by_cases hd : 32 < digF (l.drop (k + 1))
          · have E := Lib.hid (pf_no (show pfF l = none by rw [T.out, CA.out.2.2, if_pos hd]))
            go_wp2_with (first
              | (go_at_call 9; refine (refRead_yes _ a _ L1.out HR.out).mono ?_; rintro e w1 ⟨rfl, hb1⟩; obtain ⟨hcc, hff⟩ := bcell hb1; have hz1 : w.heap.size < w1.heap.size := (by have := hb1.size; simp at this; omega))
              | (go_at_call 28; refine (refDigits_any _ _ L2.out).mono ?_; rintro e w2 ⟨rfl, hb2⟩; obtain ⟨hcc2, hff2⟩ := bcell hb2; have hz2 : w.heap.size < w2.heap.size := (by have := hb2.size; omega); have k0 : w2.cell? ⟨w.heap.size, 0, none⟩ = some (.int .u32 0) := (by rw [hcc2 _ _ hz1, hcc _ _ (by simp)]; simp); have k1 : w2.cell? ⟨w.heap.size, 1, none⟩ = some (.int .i64 0) := (by rw [hcc2 _ _ hz1, hcc _ _ (by simp)]; simp)))
            exact bodyPost_ret (v := .tuple #[.agg #[.int .u32 0, .int .i64 0], .bool false]) (by simp [results, Tryd.results11, go_sem, k0, k1]) rfl ⟨by rw [E.out.1, E.out.2], set_below (trans_below (one_below hb1) hb2) _ _ _ (Nat.le_refl _)⟩
          · have E := Lib.hid (pf_yes (show pfF l = some (a, digF (l.drop (k + 1))) by rw [T.out, CA.out.2.2, if_neg hd]))
            go_wp2_with (first
              | (go_at_call 9; refine (refRead_yes _ a _ L1.out HR.out).mono ?_; rintro e w1 ⟨rfl, hb1⟩; obtain ⟨hcc, hff⟩ := bcell hb1; have hz1 : w.heap.size < w1.heap.size := (by have := hb1.size; simp at this; omega))
              | (go_at_call 28; refine (refDigits_any _ _ L2.out).mono ?_; rintro e w2 ⟨rfl, hb2⟩; obtain ⟨hcc2, hff2⟩ := bcell hb2; have hz2 : w.heap.size < w2.heap.size := (by have := hb2.size; omega); have k0 : w2.cell? ⟨w.heap.size, 0, none⟩ = some (.int .u32 0) := (by rw [hcc2 _ _ hz1, hcc _ _ (by simp)]; simp); have k1 : w2.cell? ⟨w.heap.size, 1, none⟩ = some (.int .i64 0) := (by rw [hcc2 _ _ hz1, hcc _ _ (by simp)]; simp)))
            exact bodyPost_ret (v := .tuple #[.agg #[.int .u32 (a : Int), .int .i64 (digF (l.drop (k + 1)) : Nat)], .bool true]) (by simp [results, Tryd.results11, go_sem, k0, k1]) rfl ⟨by rw [E.out.1, E.out.2], set_below (trans_below (one_below hb1) hb2) _ _ _ (Nat.le_refl _)⟩
      · have t1 : (sb (str l) k != 47) = true := by simpa using hc
        have HN2 := Lib.hid (take_no hlt HN.out (fun h => hc ((sb47 l k).1 h)))
        clear hc
        go_wp2
        go_round
        case rel => exact ⟨k + 1, hlt, by go_num, HN2.out⟩
        case measure => simp [intOf]; omega
    · have hkl : k = l.length := by omega
      have E := Lib.hid (pf_no (no_slash (l := l) (by rw [← hkl]; exact HN.out)))
      have z : ((k : Int) == (l.length : Int)) = true := by rw [hkl]; simp
      have z2 : (k == l.length) = true := by simpa using hkl
      clear hkl
      go_wp2
      exact bodyPost_ret (v := .tuple #[.agg #[.int .u32 0, .int .i64 0], .bool false]) (by simp [results, Tryd.results11, go_sem]) rfl ⟨by rw [E.out.1, E.out.2], (Below.refl _ _).alloc (Nat.le_refl _) _⟩
end Go.Proofs.YtfohjalgpcgfmaaDoor
