/- The contracts of num.ReadList and num.ReadAddrs: which numbers, and which addresses, a text is, or that it is none. -/
import Derived.Test.YtjmbgfhjdmoflaaDoorNumRead
import Derived.Test.YtjmbgfhjdmoflaaDoorSlice
import Derived.Test.YtjmbgfhjdmoflaaDoorCut
import Derived.Test.YtjmbgfhjdmoflaaDoorAddrRead
namespace Go.Proofs.YtjmbgfhjdmoflaaDoor
open Go.RowKit
open Go.Lib (decDigits itoa atoiAll)

theorem own_slice {w : World} {B n : Nat} {e : TypeId} {v : Value} {xs : List Value} (h : w.ownsRow B e 1 v n xs) : ∃ A c, v = .slice A n c ∧ n ≤ c ∧ c ≤ maxLen := by
  rcases h.2 with ⟨rfl, rfl⟩ | ⟨g, cap, cur, rfl, _, _, h1, h2, _⟩
  · exact ⟨_, _, rfl, Nat.le_refl _, Nat.zero_le _⟩
  · exact ⟨_, _, rfl, h1, h2⟩
theorem own_keep {w w' : World} {B n : Nat} {e : TypeId} {v : Value} {xs : List Value} (h : w.ownsRow B e 1 v n xs) (hb : Below w.heap.size w w') : w'.ownsRow B e 1 v n xs :=
  h.kept (row := none) ⟨hb.os, hb.tape, hb.output, hb.size, fun k hk _ => hb.block k hk⟩ (by cases hx : v.ownBlock <;> simp)
theorem cut_l (r : List UInt8) (b : Bool) (h : hasC 44 r = b) (hs : r.length ≤ maxLen) (w : World) :
    Calls Tryd.prog 47 #[.string (str r), .string ⟨#[44]⟩] w fun e w' => e = .returned (.tuple #[.string (str (headC 44 r)), .string (str (tailC 44 r)), .bool b]) ∧ Below w.heap.size w w' := by
  have h2 := cut_any (str r) 44 w (by rw [str_size]; exact hs)
  rw [show (str r).data.toList = r by simp, h] at h2
  exact h2.mono fun e w' ⟨he, hd⟩ => ⟨he, hd.below⟩
theorem splitC_cut (r : List UInt8) : splitC r = if hasC 44 r = true then headC 44 r :: splitC (tailC 44 r) else [r] := by
  induction r with
  | nil => rfl
  | cons c r ih =>
    by_cases hc : c = 44
    · subst hc
      rw [splitC_comma, (headC_same 44 r).1, (headC_same 44 r).2, if_pos (by simp [hasC])]
    · have e1 := (headC_cons 44 c r hc).1
      have e2 := (headC_cons 44 c r hc).2
      have e3 : hasC 44 (c :: r) = hasC 44 r := by simp [hasC, Ne.symm hc]
      rw [e1, e2, e3]
      by_cases hh : hasC 44 r = true
      · rw [if_pos hh] at ih ⊢
        exact splitC_other c r _ _ hc ih
      · rw [if_neg hh] at ih ⊢
        exact splitC_other c r _ _ hc ih
theorem headC_none {r : List UInt8} (h : hasC 44 r = false) : headC 44 r = r ∧ splitC r = [r] := by
  have h2 : (44 : UInt8) ∉ r := by simpa [hasC] using h
  refine ⟨?_, splitC_one r h2⟩
  rcases index_cases r 44 with ⟨_, _, e, _⟩ | ⟨i, _, _, e, _, _⟩
  · exact e
  · exact absurd e h2
theorem tailC_less {r : List UInt8} (h : hasC 44 r = true) : (tailC 44 r).length < r.length := by
  have h2 : (44 : UInt8) ∈ r := by simpa [hasC] using h
  rcases index_cases r 44 with ⟨_, e, _, _⟩ | ⟨i, _, hi, _, _, e⟩
  · exact absurd h2 e
  · rw [e, List.length_drop]; omega
theorem headC_le (r : List UInt8) : (headC 44 r).length ≤ r.length := by
  rcases index_cases r 44 with ⟨_, _, e, _⟩ | ⟨i, _, _, _, e, _⟩
  · rw [e]; exact Nat.le_refl _
  · rw [e, List.length_take]; omega
theorem tailC_le (r : List UInt8) : (tailC 44 r).length ≤ r.length := by
  rcases index_cases r 44 with ⟨_, _, _, e⟩ | ⟨i, _, _, _, _, e⟩
  · rw [e]; simp
  · rw [e, List.length_drop]; omega
/-- how far a list has been read -/
structure RL (rd : List UInt8 → Option Int) (l r : List UInt8) (more : Bool) (xs : List Int) : Prop where
  bd : xs.length ≤ 17
  le : r.length ≤ l.length
  ps : ∃ ps, allRd rd ps = some xs ∧ splitC l = ps ++ (if more = true then splitC r else [])
theorem RL.start (rd : List UInt8 → Option Int) (l : List UInt8) : RL rd l l true [] := ⟨by simp, Nat.le_refl _, [], rfl, by simp⟩
theorem RL.next {rd : List UInt8 → Option Int} {l r : List UInt8} {xs : List Int} {x : Int} (h : RL rd l r true xs) (h16 : xs.length ≤ 16) (hx : rd (headC 44 r) = some x) : RL rd l (tailC 44 r) (hasC 44 r) (xs ++ [x]) := by
  obtain ⟨ps, h1, h2⟩ := h.ps
  rw [if_pos rfl] at h2
  refine ⟨by rw [List.length_append, List.length_singleton]; omega, Nat.le_trans (tailC_le r) h.le, ps ++ [headC 44 r], allRd_snoc h1 hx, ?_⟩
  cases hc : hasC 44 r with
  | true => rw [h2, splitC_cut, if_pos hc, if_pos rfl]; simp
  | false => rw [h2, (headC_none hc).2, (headC_none hc).1, if_neg (by simp)]; simp
theorem RL.bad {rd : List UInt8 → Option Int} {l r : List UInt8} {xs : List Int} (h : RL rd l r true xs) (hx : rd (headC 44 r) = none) : rlF rd l = none := by
  obtain ⟨ps, h1, h2⟩ := h.ps
  rw [if_pos rfl] at h2
  refine rlF_none ?_
  rw [h2]
  cases hc : hasC 44 r with
  | true => rw [splitC_cut, if_pos hc]; exact allRd_no hx
  | false => rw [(headC_none hc).2, ← (headC_none hc).1]; exact allRd_no hx
theorem RL.many {rd : List UInt8 → Option Int} {l r : List UInt8} {m : Bool} {xs : List Int} (h : RL rd l r m xs) (h17 : 16 < xs.length) : rlF rd l = none ∧ risB xs = false := by
  obtain ⟨ps, h1, h2⟩ := h.ps
  refine ⟨rlF_many ?_, risB_no _ (.inr h17)⟩
  rw [h2, List.length_append, ← allRd_len h1]
  omega
theorem RL.done {rd : List UInt8 → Option Int} {l r : List UInt8} {xs : List Int} (h : RL rd l r false xs) : rlF rd l = if risB xs = true then some xs else none := by
  obtain ⟨ps, h1, h2⟩ := h.ps
  rw [if_neg (by simp), List.append_nil] at h2
  unfold rlF
  rw [h2, h1]
def mMore : Value → Value → Nat
  | .string s, .bool true => s.size + 1
  | _, _ => 0
theorem mMore_true (r : List UInt8) : mMore (.string (str r)) (.bool true) = r.length + 1 := by simp [mMore, ByteArray.size]
theorem mMore_false (v : Value) : mMore v (.bool false) = 0 := by cases v <;> rfl

def lsV (rd : List UInt8 → Option Int) (l : List UInt8) : List Int := (rlF rd l).getD []
def lsB (rd : List UInt8 → Option Int) (l : List UInt8) : Bool := (rlF rd l).isSome
theorem ls_no {rd : List UInt8 → Option Int} {l : List UInt8} (h : rlF rd l = none) : lsV rd l = [] ∧ lsB rd l = false := by unfold lsV lsB; rw [h]; exact ⟨rfl, rfl⟩
theorem ls_yes {rd : List UInt8 → Option Int} {l : List UInt8} {xs : List Int} (h : rlF rd l = some xs) : lsV rd l = xs ∧ lsB rd l = true := by unfold lsV lsB; rw [h]; exact ⟨rfl, rfl⟩
/-- a list and whether there is one, as a call returns them -/
def GotL (k : IntKind) (xs : List Int) (b : Bool) (w : World) (e : Ending) (w' : World) : Prop :=
  ∃ A n c, e = .returned (.tuple #[.slice A n c, .bool b]) ∧ ISl w' k A n c xs ∧ Below w.heap.size w w'
theorem GotL.none_ {k : IntKind} {rd : List UInt8 → Option Int} {l : List UInt8} {w w' : World} {e : Ending} (h : rlF rd l = none) (hb : Below w.heap.size w w') (he : e = .returned (.tuple #[.slice none 0 0, .bool false])) : GotL k (lsV rd l) (lsB rd l) w e w' := by
  obtain ⟨h1, h2⟩ := ls_no h
  exact ⟨none, 0, 0, by rw [he, h2], by rw [h1]; exact ISl.nil, hb⟩
theorem GotL.some_ {k : IntKind} {rd : List UInt8 → Option Int} {l : List UInt8} {w w' : World} {e : Ending} {xs : List Int} {A : Option Addr} {n c : Nat} (h : rlF rd l = some xs) (hb : Below w.heap.size w w') (hi : ISl w' k A n c xs) (he : e = .returned (.tuple #[.slice A n c, .bool true])) : GotL k (lsV rd l) (lsB rd l) w e w' := by
  obtain ⟨h1, h2⟩ := ls_yes h
  exact ⟨A, n, c, by rw [he, h2], by rw [h1]; exact hi, hb⟩

/-! An item. -/
abbrev rdI (lo hi : Int) (l : List UInt8) : Option Int := nF l lo hi
def rdA (l : List UInt8) : Option Int := (rdF l).map fun n => (n : Int)
theorem rdA_no {l : List UInt8} (h : rdA l = none) : rdV l = 0 ∧ rdB l = false := by
  refine rd_no ?_
  cases hx : rdF l with
  | none => rfl
  | some n => unfold rdA at h; rw [hx] at h; cases h
theorem rdA_yes {l : List UInt8} {x : Int} (h : rdA l = some x) : rdV l = x ∧ rdB l = true := by
  cases hx : rdF l with
  | none => unfold rdA at h; rw [hx] at h; cases h
  | some n =>
    unfold rdA at h
    rw [hx] at h
    have : (n : Int) = x := by simpa using h
    rw [← this]
    exact rd_yes hx
theorem itemI_no (l : List UInt8) (lo hi : Int) (b1 b2 : Nat) (w : World) (hs : l.length ≤ maxLen) (hl : Lds w) (c1 : w.cell? ⟨b1, 0, none⟩ = some (.int .i64 lo)) (c2 : w.cell? ⟨b2, 0, none⟩ = some (.int .i64 hi)) (h : nF l lo hi = none) :
    Calls Tryd.prog 33 #[.string (str l), .pointer (some ⟨b1, 0, none⟩), .pointer (some ⟨b2, 0, none⟩)] w fun e w' => e = .returned (.tuple #[.int .i64 0, .bool false]) ∧ Below w.heap.size w w' := by
  have h2 := numRead_any l lo hi
  rw [(n_no h).1, (n_no h).2] at h2
  have H2 := Lib.hid h2
  have HL := Lib.hid hl
  clear h h2 hl
  go_enter Tryd.func33, Tryd.ntmps33
  go_wp2_with (go_at_call 8; (with_reducible refine (H2.out _ hs HL.out).mono ?_); rintro e w1 ⟨rfl, hb1⟩)
  go_ret2
  exact ⟨rfl, hb1⟩
theorem itemI_yes (l : List UInt8) (lo hi : Int) (b1 b2 : Nat) (w : World) (hs : l.length ≤ maxLen) (hl : Lds w) (c1 : w.cell? ⟨b1, 0, none⟩ = some (.int .i64 lo)) (c2 : w.cell? ⟨b2, 0, none⟩ = some (.int .i64 hi)) (x : Int) (h : nF l lo hi = some x) :
    Calls Tryd.prog 33 #[.string (str l), .pointer (some ⟨b1, 0, none⟩), .pointer (some ⟨b2, 0, none⟩)] w fun e w' => e = .returned (.tuple #[.int .i64 x, .bool true]) ∧ Below w.heap.size w w' := by
  have h2 := numRead_any l lo hi
  rw [(n_yes h).1, (n_yes h).2] at h2
  have H2 := Lib.hid h2
  have HL := Lib.hid hl
  clear h h2 hl
  go_enter Tryd.func33, Tryd.ntmps33
  go_wp2_with (go_at_call 8; (with_reducible refine (H2.out _ hs HL.out).mono ?_); rintro e w1 ⟨rfl, hb1⟩)
  go_ret2
  exact ⟨rfl, hb1⟩
theorem itemA_no (l : List UInt8) (w : World) (hs : l.length ≤ maxLen) (h : rdA l = none) :
    Calls Tryd.prog 36 #[.string (str l)] w fun e w' => e = .returned (.tuple #[.int .u32 0, .bool false]) ∧ Below w.heap.size w w' := by
  have h2 := read_any (str l) w (by rw [str_size]; exact hs)
  rw [show (str l).data.toList = l by simp, (rdA_no h).1, (rdA_no h).2] at h2
  exact h2.mono fun e w' ⟨he, hd⟩ => ⟨he, hd.below⟩
theorem itemA_yes (l : List UInt8) (w : World) (hs : l.length ≤ maxLen) (x : Int) (h : rdA l = some x) :
    Calls Tryd.prog 36 #[.string (str l)] w fun e w' => e = .returned (.tuple #[.int .u32 x, .bool true]) ∧ Below w.heap.size w w' := by
  have h2 := read_any (str l) w (by rw [str_size]; exact hs)
  rw [show (str l).data.toList = l by simp, (rdA_yes h).1, (rdA_yes h).2] at h2
  exact h2.mono fun e w' ⟨he, hd⟩ => ⟨he, hd.below⟩
theorem Tryd.info3 : (Tryd.prog.info? 3).map (fun i => (i.zero, i.size, i.bytes)) = some (some (.int .i64 0), 1, 8) := by kernel_rfl
theorem Tryd.info43 : (Tryd.prog.info? 43).map (fun i => (i.zero, i.size, i.bytes)) = some (some (.int .u32 0), 1, 4) := by kernel_rfl
theorem list_more {k : IntKind} {e : TypeId} {a w2 w3 : World} {xs : List Int} {x : Int} {u v : Value} {o1 : Obj} (hbb : Below a.heap.size a w2)
    (hown2 : w2.ownsRow a.heap.size e 1 u xs.length (xs.map (Value.int k)))
    (hown3 : w3.ownsRow a.heap.size e 1 v (xs.length + 1) (xs.map (Value.int k) ++ [.int k x]))
    (hg : (w2.alloc o1).grownBy w3 u.ownBlock) :
    w3.ownsRow a.heap.size e 1 v (xs ++ [x]).length ((xs ++ [x]).map (Value.int k)) ∧ Below a.heap.size a w3 :=
  ⟨by simpa using hown3, below_app (hbb.alloc hbb.size o1) (hown2.alloc o1) hg⟩

set_option maxRecDepth 100000 in
set_option maxHeartbeats 2000000 in
theorem readI_any (l : List UInt8) (lo hi : Int) (b1 b2 : Nat) (w : World) (hs : l.length ≤ 1000000) (hl : Lds w) (h1 : b1 < w.heap.size) (h2 : b2 < w.heap.size) (c1 : w.cell? ⟨b1, 0, none⟩ = some (.int .i64 lo)) (c2 : w.cell? ⟨b2, 0, none⟩ = some (.int .i64 hi)) :
    Calls Tryd.prog 32 #[.string (str l), .func (.func 33) #[] #[.pointer (some ⟨b1, 0, none⟩), .pointer (some ⟨b2, 0, none⟩)]] w (GotL .i64 (lsV (rdI lo hi) l) (lsB (rdI lo hi) l) w) := by
  obtain ⟨i0, hi, hz0, hz1, hz2⟩ := info_parts Tryd.info3
  have Hi := Lib.hid hi; have Hz0 := Lib.hid hz0; have Hz1 := Lib.hid hz1; have Hz2 := Lib.hid hz2
  have HL := Lib.hid hl; have C1 := Lib.hid c1; have C2 := Lib.hid c2
  clear hl c1 c2
  clear hi hz0 hz1 hz2
  go_enter Tryd.func32, Tryd.ntmps32
  go_wp2
  go_loopw [0, 6, 7] (fun s v m wr => ∃ (r : List UInt8) (xs : List Int) (more : Bool), s = .string (str r) ∧ m = .bool more ∧ wr.ownsRow w.heap.size 3 1 v xs.length (xs.map (Value.int .i64)) ∧ Below w.heap.size w wr ∧ RL (rdI lo hi) l r more xs) (fun s _ m _ => mMore s m)
  case atStart => exact ⟨l, [], true, rfl, rfl, World.ownsRow_nil _ _ _ _, Below.refl _ _, RL.start _ _⟩
  case round =>
    obtain ⟨r, xs, more, rfl, rfl, hown, hb, hrl⟩ := hrel
    obtain ⟨A, c, rfl, hnc, hcm⟩ := own_slice hown
    have h17 := hrl.bd
    have hrlen := hrl.le
    have R := Lib.hid hrl
    clear hrl
    by_cases hgo : more = true ∧ xs.length ≤ 16
    · obtain ⟨rfl, h16⟩ := hgo
      have hrs : r.length ≤ maxLen := by unfold maxLen; omega
      have hhs : (headC 44 r).length ≤ maxLen := Nat.le_trans (headC_le r) hrs
      have HRS := Lib.hid hrs
      have HHS := Lib.hid hhs
      clear hrs hhs
      cases hx : (rdI lo hi) (headC 44 r) with
      | none =>
        have E := Lib.hid (R.out.bad hx)
        have HX := Lib.hid hx
        clear hx
        go_wp2_with (first
          | (go_at_call 47; (with_reducible refine (cut_l r _ rfl HRS.out _).mono ?_); rintro e w1 ⟨rfl, hb1⟩)
          | (go_at_call 33; (with_reducible refine (itemI_no _ lo hi b1 b2 _ HHS.out (HL.out.below (hb.trans (hb1.mono hb.size))) (((hb.trans (hb1.mono hb.size)).cell (p := ⟨b1, 0, none⟩) h1).trans C1.out) (((hb.trans (hb1.mono hb.size)).cell (p := ⟨b2, 0, none⟩) h2).trans C2.out) HX.out).mono ?_); rintro e w2 ⟨rfl, hb2⟩))
        exact bodyPost_ret (v := .tuple #[.slice none 0 0, .bool false]) (by simp [results, Tryd.results32, go_sem]) rfl (GotL.none_ E.out (hb.trans ((trans_below hb1 hb2).mono hb.size)) rfl)
      | some x =>
        have HX := Lib.hid hx
        clear hx
        cases hc : hasC 44 r with
        | false =>
          have N := Lib.hid (R.out.next h16 HX.out)
          have HC := Lib.hid hc
          clear hc
          go_wp2_with (first
            | (go_at_call 47; (with_reducible refine (cut_l r false HC.out HRS.out _).mono ?_); rintro e w1 ⟨rfl, hb1⟩)
            | (go_at_call 33; (with_reducible refine (itemI_yes _ lo hi b1 b2 _ HHS.out (HL.out.below (hb.trans (hb1.mono hb.size))) (((hb.trans (hb1.mono hb.size)).cell (p := ⟨b1, 0, none⟩) h1).trans C1.out) (((hb.trans (hb1.mono hb.size)).cell (p := ⟨b2, 0, none⟩) h2).trans C2.out) x HX.out).mono ?_); rintro e w2 ⟨rfl, hb2⟩; have hown2 := own_keep (own_keep hown hb1) hb2; have hbb := hb.trans ((trans_below hb1 hb2).mono hb.size))
            | (at_builtin; refine wpList_append_lies _ rfl (.tmp 31) (.tmp 33) 28 rfl w.heap.size 3 i0 (.int .i64 0) 1 8 Tryd.underlying28 Hi.out Hz0.out Hz1.out Hz2.out rfl (by decide) _ _ _ (by rfl) (hown2.alloc _) ⟨w2.heap.size, 0, none⟩ 1 1 [.int .i64 x] (by rfl) rfl (World.news_of_block (heap_alloc_new w2 _)) (by simp [Value.oneCell']) (by omega) (by unfold maxLen; omega) (by omega) (by have := hbb.size; simp; omega) _ rfl ?_; intro g cap w3 hown3 hgrow3 _ _))
          have hend := list_more hbb hown2 hown3 hgrow3
          have N2 := Lib.hid (show RL (rdI lo hi) l (tailC 44 r) false (xs ++ [x]) by rw [← HC.out]; exact N.out)
          clear hown hown2 hown3 hgrow3 hb hb1 hb2 hbb
          go_roundw
          case rel => exact ⟨tailC 44 r, xs ++ [x], false, rfl, rfl, hend.1, hend.2, N2.out⟩
          case measure => rw [mMore_false, mMore_true]; omega
        | true =>
          have N := Lib.hid (R.out.next h16 HX.out)
          have HC := Lib.hid hc
          clear hc
          go_wp2_with (first
            | (go_at_call 47; (with_reducible refine (cut_l r true HC.out HRS.out _).mono ?_); rintro e w1 ⟨rfl, hb1⟩)
            | (go_at_call 33; (with_reducible refine (itemI_yes _ lo hi b1 b2 _ HHS.out (HL.out.below (hb.trans (hb1.mono hb.size))) (((hb.trans (hb1.mono hb.size)).cell (p := ⟨b1, 0, none⟩) h1).trans C1.out) (((hb.trans (hb1.mono hb.size)).cell (p := ⟨b2, 0, none⟩) h2).trans C2.out) x HX.out).mono ?_); rintro e w2 ⟨rfl, hb2⟩; have hown2 := own_keep (own_keep hown hb1) hb2; have hbb := hb.trans ((trans_below hb1 hb2).mono hb.size))
            | (at_builtin; refine wpList_append_lies _ rfl (.tmp 31) (.tmp 33) 28 rfl w.heap.size 3 i0 (.int .i64 0) 1 8 Tryd.underlying28 Hi.out Hz0.out Hz1.out Hz2.out rfl (by decide) _ _ _ (by rfl) (hown2.alloc _) ⟨w2.heap.size, 0, none⟩ 1 1 [.int .i64 x] (by rfl) rfl (World.news_of_block (heap_alloc_new w2 _)) (by simp [Value.oneCell']) (by omega) (by unfold maxLen; omega) (by omega) (by have := hbb.size; simp; omega) _ rfl ?_; intro g cap w3 hown3 hgrow3 _ _))
          have hend := list_more hbb hown2 hown3 hgrow3
          have N2 := Lib.hid (show RL (rdI lo hi) l (tailC 44 r) true (xs ++ [x]) by rw [← HC.out]; exact N.out)
          clear hown hown2 hown3 hgrow3 hb hb1 hb2 hbb
          go_roundw
          case rel => exact ⟨tailC 44 r, xs ++ [x], true, rfl, rfl, hend.1, hend.2, N2.out⟩
          case measure => rw [mMore_true, mMore_true]; have := tailC_less HC.out; omega
    · have hsl := Lib.hid (ISl.of_own hown)
      by_cases hm : more = true
      · subst hm
        have h16 : 16 < xs.length := by
          rcases Nat.lt_or_ge 16 xs.length with h | h
          · exact h
          · exact absurd ⟨rfl, h⟩ hgo
        clear hgo
        have E := Lib.hid (R.out.many h16)
        go_wp2_with (go_at_call 38; (with_reducible refine (rising_any A xs.length c xs _ hsl.out).mono ?_); rintro e w1 ⟨rfl, hd1⟩; rw [E.out.2])
        exact bodyPost_ret (v := .tuple #[.slice none 0 0, .bool false]) (by simp [results, Tryd.results32, go_sem]) rfl (GotL.none_ E.out.1 (hb.trans (hd1.below.mono hb.size)) rfl)
      · obtain rfl : more = false := by simpa using hm
        clear hgo hm
        have D := Lib.hid R.out.done
        cases hr : risB xs with
        | false =>
          have E := Lib.hid (show rlF (rdI lo hi) l = none by rw [D.out, if_neg (by rw [hr]; simp)])
          have HR := Lib.hid hr
          clear hr
          go_wp2_with (go_at_call 38; (with_reducible refine (rising_any A xs.length c xs _ hsl.out).mono ?_); rintro e w1 ⟨rfl, hd1⟩; rw [HR.out])
          exact bodyPost_ret (v := .tuple #[.slice none 0 0, .bool false]) (by simp [results, Tryd.results32, go_sem]) rfl (GotL.none_ E.out (hb.trans (hd1.below.mono hb.size)) rfl)
        | true =>
          have E := Lib.hid (show rlF (rdI lo hi) l = some xs by rw [D.out, if_pos hr])
          have HR := Lib.hid hr
          clear hr
          go_wp2_with (go_at_call 38; (with_reducible refine (rising_any A xs.length c xs _ hsl.out).mono ?_); rintro e w1 ⟨rfl, hd1⟩; rw [HR.out])
          exact bodyPost_ret (v := .tuple #[.slice A xs.length c, .bool true]) (by simp [results, Tryd.results32, go_sem]) rfl (GotL.some_ E.out (hb.trans (hd1.below.mono hb.size)) (hsl.out.drew hd1) rfl)

set_option maxRecDepth 100000 in
set_option maxHeartbeats 2000000 in
theorem readA_any (l : List UInt8) (w : World) (hs : l.length ≤ 1000000) :
    Calls Tryd.prog 35 #[.string (str l), .func (.func 36) #[] #[]] w (GotL .u32 (lsV rdA l) (lsB rdA l) w) := by
  obtain ⟨i0, hi, hz0, hz1, hz2⟩ := info_parts Tryd.info43
  have Hi := Lib.hid hi; have Hz0 := Lib.hid hz0; have Hz1 := Lib.hid hz1; have Hz2 := Lib.hid hz2
  clear hi hz0 hz1 hz2
  go_enter Tryd.func35, Tryd.ntmps35
  go_wp2
  go_loopw [0, 6, 7] (fun s v m wr => ∃ (r : List UInt8) (xs : List Int) (more : Bool), s = .string (str r) ∧ m = .bool more ∧ wr.ownsRow w.heap.size 43 1 v xs.length (xs.map (Value.int .u32)) ∧ Below w.heap.size w wr ∧ RL rdA l r more xs) (fun s _ m _ => mMore s m)
  case atStart => exact ⟨l, [], true, rfl, rfl, World.ownsRow_nil _ _ _ _, Below.refl _ _, RL.start _ _⟩
  case round =>
    obtain ⟨r, xs, more, rfl, rfl, hown, hb, hrl⟩ := hrel
    obtain ⟨A, c, rfl, hnc, hcm⟩ := own_slice hown
    have h17 := hrl.bd
    have hrlen := hrl.le
    have R := Lib.hid hrl
    clear hrl
    by_cases hgo : more = true ∧ xs.length ≤ 16
    · obtain ⟨rfl, h16⟩ := hgo
      have hrs : r.length ≤ maxLen := by unfold maxLen; omega
      have hhs : (headC 44 r).length ≤ maxLen := Nat.le_trans (headC_le r) hrs
      have HRS := Lib.hid hrs
      have HHS := Lib.hid hhs
      clear hrs hhs
      cases hx : rdA (headC 44 r) with
      | none =>
        have E := Lib.hid (R.out.bad hx)
        have HX := Lib.hid hx
        clear hx
        go_wp2_with (first
          | (go_at_call 47; (with_reducible refine (cut_l r _ rfl HRS.out _).mono ?_); rintro e w1 ⟨rfl, hb1⟩)
          | (go_at_call 36; (with_reducible refine (itemA_no _ _ HHS.out HX.out).mono ?_); rintro e w2 ⟨rfl, hb2⟩))
        exact bodyPost_ret (v := .tuple #[.slice none 0 0, .bool false]) (by simp [results, Tryd.results35, go_sem]) rfl (GotL.none_ E.out (hb.trans ((trans_below hb1 hb2).mono hb.size)) rfl)
      | some x =>
        have HX := Lib.hid hx
        clear hx
        cases hc : hasC 44 r with
        | false =>
          have N := Lib.hid (R.out.next h16 HX.out)
          have HC := Lib.hid hc
          clear hc
          go_wp2_with (first
            | (go_at_call 47; (with_reducible refine (cut_l r false HC.out HRS.out _).mono ?_); rintro e w1 ⟨rfl, hb1⟩)
            | (go_at_call 36; (with_reducible refine (itemA_yes _ _ HHS.out x HX.out).mono ?_); rintro e w2 ⟨rfl, hb2⟩; have hown2 := own_keep (own_keep hown hb1) hb2; have hbb := hb.trans ((trans_below hb1 hb2).mono hb.size))
            | (at_builtin; refine wpList_append_lies _ rfl (.tmp 31) (.tmp 33) 29 rfl w.heap.size 43 i0 (.int .u32 0) 1 4 Tryd.underlying29 Hi.out Hz0.out Hz1.out Hz2.out rfl (by decide) _ _ _ (by rfl) (hown2.alloc _) ⟨w2.heap.size, 0, none⟩ 1 1 [.int .u32 x] (by rfl) rfl (World.news_of_block (heap_alloc_new w2 _)) (by simp [Value.oneCell']) (by omega) (by unfold maxLen; omega) (by omega) (by have := hbb.size; simp; omega) _ rfl ?_; intro g cap w3 hown3 hgrow3 _ _))
          have hend := list_more hbb hown2 hown3 hgrow3
          have N2 := Lib.hid (show RL rdA l (tailC 44 r) false (xs ++ [x]) by rw [← HC.out]; exact N.out)
          clear hown hown2 hown3 hgrow3 hb hb1 hb2 hbb
          go_roundw
          case rel => exact ⟨tailC 44 r, xs ++ [x], false, rfl, rfl, hend.1, hend.2, N2.out⟩
          case measure => rw [mMore_false, mMore_true]; omega
        | true =>
          have N := Lib.hid (R.out.next h16 HX.out)
          have HC := Lib.hid hc
          clear hc
          go_wp2_with (first
            | (go_at_call 47; (with_reducible refine (cut_l r true HC.out HRS.out _).mono ?_); rintro e w1 ⟨rfl, hb1⟩)
            | (go_at_call 36; (with_reducible refine (itemA_yes _ _ HHS.out x HX.out).mono ?_); rintro e w2 ⟨rfl, hb2⟩; have hown2 := own_keep (own_keep hown hb1) hb2; have hbb := hb.trans ((trans_below hb1 hb2).mono hb.size))
            | (at_builtin; refine wpList_append_lies _ rfl (.tmp 31) (.tmp 33) 29 rfl w.heap.size 43 i0 (.int .u32 0) 1 4 Tryd.underlying29 Hi.out Hz0.out Hz1.out Hz2.out rfl (by decide) _ _ _ (by rfl) (hown2.alloc _) ⟨w2.heap.size, 0, none⟩ 1 1 [.int .u32 x] (by rfl) rfl (World.news_of_block (heap_alloc_new w2 _)) (by simp [Value.oneCell']) (by omega) (by unfold maxLen; omega) (by omega) (by have := hbb.size; simp; omega) _ rfl ?_; intro g cap w3 hown3 hgrow3 _ _))
          have hend := list_more hbb hown2 hown3 hgrow3
          have N2 := Lib.hid (show RL rdA l (tailC 44 r) true (xs ++ [x]) by rw [← HC.out]; exact N.out)
          clear hown hown2 hown3 hgrow3 hb hb1 hb2 hbb
          go_roundw
          case rel => exact ⟨tailC 44 r, xs ++ [x], true, rfl, rfl, hend.1, hend.2, N2.out⟩
          case measure => rw [mMore_true, mMore_true]; have := tailC_less HC.out; omega
    · have hsl := Lib.hid (ISl.of_own hown)
      by_cases hm : more = true
      · subst hm
        have h16 : 16 < xs.length := by
          rcases Nat.lt_or_ge 16 xs.length with h | h
          · exact h
          · exact absurd ⟨rfl, h⟩ hgo
        clear hgo
        have E := Lib.hid (R.out.many h16)
        go_wp2_with (go_at_call 48; (with_reducible refine (rising32_any A xs.length c xs _ hsl.out).mono ?_); rintro e w1 ⟨rfl, hd1⟩; rw [E.out.2])
        exact bodyPost_ret (v := .tuple #[.slice none 0 0, .bool false]) (by simp [results, Tryd.results35, go_sem]) rfl (GotL.none_ E.out.1 (hb.trans (hd1.below.mono hb.size)) rfl)
      · obtain rfl : more = false := by simpa using hm
        clear hgo hm
        have D := Lib.hid R.out.done
        cases hr : risB xs with
        | false =>
          have E := Lib.hid (show rlF rdA l = none by rw [D.out, if_neg (by rw [hr]; simp)])
          have HR := Lib.hid hr
          clear hr
          go_wp2_with (go_at_call 48; (with_reducible refine (rising32_any A xs.length c xs _ hsl.out).mono ?_); rintro e w1 ⟨rfl, hd1⟩; rw [HR.out])
          exact bodyPost_ret (v := .tuple #[.slice none 0 0, .bool false]) (by simp [results, Tryd.results35, go_sem]) rfl (GotL.none_ E.out (hb.trans (hd1.below.mono hb.size)) rfl)
        | true =>
          have E := Lib.hid (show rlF rdA l = some xs by rw [D.out, if_pos hr])
          have HR := Lib.hid hr
          clear hr
          go_wp2_with (go_at_call 48; (with_reducible refine (rising32_any A xs.length c xs _ hsl.out).mono ?_); rintro e w1 ⟨rfl, hd1⟩; rw [HR.out])
          exact bodyPost_ret (v := .tuple #[.slice A xs.length c, .bool true]) (by simp [results, Tryd.results35, go_sem]) rfl (GotL.some_ E.out (hb.trans (hd1.below.mono hb.size)) (hsl.out.drew hd1) rfl)

theorem readList_any (l : List UInt8) (lo hi : Int) (w : World) (hs : l.length ≤ 1000000) (hl : Lds w) :
    Calls Tryd.prog 14 #[.string (str l), .int .i64 lo, .int .i64 hi] w (GotL .i64 (lsV (rdI lo hi) l) (lsB (rdI lo hi) l) w) := by
  have HL := Lib.hid hl
  clear hl
  go_enter Tryd.func14, Tryd.ntmps14
  go_wp2_with (go_at_call 32; refine (readI_any l lo hi w.heap.size (w.heap.size + 1) _ hs (HL.out.below (((Below.refl _ _).alloc (Nat.le_refl _) _).alloc (by simp) _)) (by simp; omega) (by simp) (by go_simp) (by go_simp)).mono ?_; rintro e w1 ⟨A, n, c, rfl, hi1, hb1⟩)
  go_ret2
  exact ⟨A, n, c, rfl, hi1, two_below hb1⟩
theorem readAddrs_any (l : List UInt8) (w : World) (hs : l.length ≤ 1000000) :
    Calls Tryd.prog 16 #[.string (str l)] w (GotL .u32 (lsV rdA l) (lsB rdA l) w) := by
  go_enter Tryd.func16, Tryd.ntmps16
  go_wp2_with (go_at_call 35; refine (readA_any l _ hs).mono ?_; rintro e w1 ⟨A, n, c, rfl, hi1, hb1⟩)
  go_ret2
  exact ⟨A, n, c, rfl, hi1, hb1⟩
end Go.Proofs.YtjmbgfhjdmoflaaDoor
