/- The contract of palingref03.Split: what stands between commas. The contract of palingref03.Read: which number a text is, or that it is none. The contract of palingref02.Read: which address a text is, or that it is none. The contracts of palingref03's lists: Rising, ReadList, ReadAddrs, Ints, Addrs. The contracts of palingref03.ReadList and palingref03.ReadAddrs. The contract of palingref02.ReadPrefix: which prefix a text is, or that it is none. The contracts of palingref02's functions on prefixes: First, Last, Has, Within. The least and the greatest address of any prefix: the contracts, whole. -/
import Derived.Test.YtnpembgchmmbjaaCode3
import Derived.Test.YtnpembgchmmbjaaSsl
import Derived.StillTailTactics
import Derived.Lib.Builder
namespace Go.Proofs.Ytnpembgchmmbjaa
open Go.RowKit

/-- a store into a row of the call's own -/
theorem sown_set {w : World} {B g n cap : Nat} {e : TypeId} {xs : List Value} (h : w.ownsRow B e 1 (.slice (some ⟨g, 0, none⟩) n cap) n xs) (i : Nat) (u : Value) :
    (w.setCell ⟨g, i, none⟩ u).ownsRow B e 1 (.slice (some ⟨g, 0, none⟩) n cap) n (xs.set i u) := by
  refine ⟨by rw [List.length_set]; exact h.1, ?_⟩
  rcases h.2 with ⟨hv, _⟩ | ⟨g', cap', cur, hv, hB, hh, h1, h2, h3, h4⟩
  · cases hv
  · injection hv with e1 e2 e3
    injection e1 with e1
    injection e1 with e1
    subst e1 e3
    refine .inr ⟨g, cap, cur.setIfInBounds i u, rfl, hB, ?_, h1, h2, by simpa using h3, ?_⟩
    · simp [World.setCell, Array.getElem?_modify, hh]
    · rw [Array.toList_setIfInBounds, List.take_set, h4]
theorem sown_form {w : World} {B n : Nat} {e : TypeId} {v : Value} {xs : List Value} (h : w.ownsRow B e 1 v n xs) (hn : 0 < n) : ∃ g cap, v = .slice (some ⟨g, 0, none⟩) n cap ∧ g < w.heap.size ∧ n ≤ cap ∧ cap ≤ maxLen := by
  rcases h.2 with ⟨_, h0⟩ | ⟨g, cap, cur, rfl, _, hh, h1, h2, _⟩
  · omega
  · refine ⟨g, cap, rfl, ?_, h1, h2⟩
    rcases Nat.lt_or_ge g w.heap.size with h' | h'
    · exact h'
    · rw [Array.getElem?_eq_none h'] at hh; cases hh
theorem sown_free {w : World} {B g n cap : Nat} {e : TypeId} {xs : List Value} (h : w.ownsRow B e 1 (.slice (some ⟨g, 0, none⟩) n cap) n xs) (i : Nat) : w.frozen? ⟨g, i, none⟩ = false := by
  rcases h.2 with ⟨hv, _⟩ | ⟨g', cap', cur, hv, hB, hh, _⟩
  · cases hv
  · injection hv with e1 e2 e3
    injection e1 with e1
    injection e1 with e1
    subst e1
    exact Lib.frozen_of_heap hh i
theorem lastC_set (c : UInt8) (ps : List (List UInt8)) (h : ps ≠ []) : lastC c ps = ps.set (ps.length - 1) (ps.getD (ps.length - 1) [] ++ [c]) := by
  obtain ⟨qs, p, rfl⟩ : ∃ qs p, ps = qs ++ [p] := ⟨ps.dropLast, ps.getLast h, (List.dropLast_concat_getLast h).symm⟩
  simp [lastC]
theorem splitC_len (l : List UInt8) : 1 ≤ (splitC l).length ∧ (splitC l).length ≤ l.length + 1 := by
  induction l with
  | nil => simp [splitC]
  | cons c r ih =>
    by_cases hc : c = 44
    · subst hc; rw [splitC_comma]; simp; omega
    · cases hr : splitC r with
      | nil => exact absurd hr (splitC_ne r)
      | cons h t =>
        rw [splitC_other c r h t hc hr]
        rw [hr] at ih
        simp at ih ⊢
        omega
theorem splitC_part (l : List UInt8) : ∀ p ∈ splitC l, p.length ≤ l.length := by
  induction l with
  | nil => intro p hp; simp [splitC] at hp; subst hp; simp
  | cons c r ih =>
    intro p hp
    by_cases hc : c = 44
    · subst hc
      rw [splitC_comma] at hp
      rcases List.mem_cons.1 hp with rfl | hp
      · simp
      · have := ih p hp; simp; omega
    · cases hr : splitC r with
      | nil => exact absurd hr (splitC_ne r)
      | cons h t =>
        rw [splitC_other c r h t hc hr] at hp
        rw [hr] at ih
        rcases List.mem_cons.1 hp with rfl | hp
        · have := ih h (by simp); simp; omega
        · have := ih p (by simp [hp]); simp; omega
theorem txts_set (ps : List (List UInt8)) (i : Nat) (p : List UInt8) : (txts ps).set i (.string (str p)) = txts (ps.set i p) := by
  unfold txts; rw [List.map_set]

end Go.Proofs.Ytnpembgchmmbjaa

namespace Go.Proofs.Ytnpembgchmmbjaa
open Go.RowKit
open Go.Lib (decDigits itoa atoiAll)

/-- the digits up to j -/
def mid (l : List UInt8) (f j : Nat) : List UInt8 := (l.take j).drop f
theorem mid_more {l : List UInt8} {f j : Nat} (h : f ≤ j) (hj : j < l.length) : mid l f (j + 1) = mid l f j ++ [l.getD j 0] := by
  unfold mid
  rw [take_more hj, List.drop_append_of_le_length (by rw [List.length_take]; omega)]
theorem mid_len {l : List UInt8} {f j : Nat} (hj : j ≤ l.length) : (mid l f j).length = j - f := by
  unfold mid
  rw [List.length_drop, List.length_take]
  omega
theorem mid_first (l : List UInt8) (f : Nat) : mid l f f = [] := by
  unfold mid
  rw [List.drop_eq_nil_of_le (by rw [List.length_take]; omega)]
theorem mid_all (l : List UInt8) (f : Nat) : mid l f l.length = l.drop f := by unfold mid; rw [List.take_length]
theorem mid_mem {l : List UInt8} {f j : Nat} (h : f ≤ j) (hj : j < l.length) : l.getD j 0 ∈ l.drop f := by
  have e : l.getD j 0 = (l.drop f)[j - f]'(by rw [List.length_drop]; omega) := by
    rw [List.getElem_drop]
    simp [List.getD, List.getElem?_eq_getElem hj, show f + (j - f) = j by omega]
  rw [e]
  exact List.getElem_mem _
theorem ten_pow {k : Nat} (h : k ≤ 10) : 10 ^ k ≤ 10000000000 := by
  have : 10 ^ k ≤ 10 ^ 10 := Nat.pow_le_pow_right (by decide) h
  simpa using this

end Go.Proofs.Ytnpembgchmmbjaa

namespace Go.Proofs.Ytnpembgchmmbjaa
open Go.RowKit
open Go.Lib (decDigits)

structure RInv (l : List UInt8) (i a dots : Nat) (part : List UInt8) : Prop where
  hdots : dots ≤ 4
  bd : a < 256 ^ dots
  hpart : part.length ≤ 3
  le : i ≤ l.length
  eq : refF l = refGo (l.drop i) a dots part
structure REnd (l : List UInt8) (a dots : Nat) : Prop where
  hdots : dots ≤ 4
  bd : a < 256 ^ dots
  eq : refF l = if dots = 4 then some a else none
theorem drop_more {l : List UInt8} {i : Nat} (h : i < l.length) : l.drop i = l.getD i 0 :: l.drop (i + 1) := by
  rw [List.drop_eq_getElem_cons h]
  simp [List.getD, List.getElem?_eq_getElem h]
theorem RInv.start (l : List UInt8) : RInv l 0 0 0 [] := ⟨by omega, by decide, by simp, by omega, rfl⟩
theorem RInv.byte {l : List UInt8} {i a dots : Nat} {part : List UInt8} (h : RInv l i a dots part) (hi : i < l.length) (hc : l.getD i 0 ≠ 46) (hp : part.length < 3) : RInv l (i + 1) a dots (part ++ [l.getD i 0]) := by
  refine ⟨h.hdots, h.bd, by simp; omega, hi, ?_⟩
  rw [h.eq, drop_more hi, refGo, if_neg hc, if_neg (by omega)]
theorem RInv.long {l : List UInt8} {i a dots : Nat} {part : List UInt8} (h : RInv l i a dots part) (hi : i < l.length) (hc : l.getD i 0 ≠ 46) (hp : ¬ part.length < 3) : rdF l = none := by
  rw [← refF_eq, h.eq, drop_more hi, refGo, if_neg hc, if_pos (by omega)]
theorem RInv.bad {l : List UInt8} {i a dots : Nat} {part : List UInt8} (h : RInv l i a dots part) (hi : i < l.length → l.getD i 0 = 46) (hb : 255 < digF part ∨ 3 < dots) : rdF l = none := by
  rw [← refF_eq, h.eq]
  by_cases hl : i < l.length
  · rw [drop_more hl, refGo, if_pos (hi hl), if_pos hb]
  · rw [List.drop_eq_nil_of_le (by omega), refGo, if_pos hb]
theorem pow_more {a d dots : Nat} (h : a < 256 ^ dots) (hd : d ≤ 255) : a * 256 + d < 256 ^ (dots + 1) := by
  have e : 256 ^ (dots + 1) = 256 ^ dots * 256 := Nat.pow_succ ..
  rw [e]
  omega
theorem RInv.dot {l : List UInt8} {i a dots : Nat} {part : List UInt8} (h : RInv l i a dots part) (hi : i < l.length) (hc : l.getD i 0 = 46) (h1 : ¬ 255 < digF part) (h2 : ¬ 3 < dots) : RInv l (i + 1) (a * 256 + digF part) (dots + 1) [] := by
  refine ⟨by omega, pow_more h.bd (by omega), by simp, hi, ?_⟩
  rw [h.eq, drop_more hi, refGo, if_pos hc, if_neg (by omega)]
theorem RInv.last {l : List UInt8} {i a dots : Nat} {part : List UInt8} (h : RInv l i a dots part) (hi : i = l.length) (h1 : ¬ 255 < digF part) (h2 : ¬ 3 < dots) : REnd l (a * 256 + digF part) (dots + 1) := by
  refine ⟨by omega, pow_more h.bd (by omega), ?_⟩
  rw [h.eq, hi, List.drop_eq_nil_of_le (Nat.le_refl _), refGo, if_neg (by omega)]
theorem REnd.no {l : List UInt8} {a dots : Nat} (h : REnd l a dots) (hd : dots ≠ 4) : rdF l = none := by rw [← refF_eq, h.eq, if_neg hd]
theorem REnd.yes {l : List UInt8} {a dots : Nat} (h : REnd l a dots) (hd : dots = 4) : rdF l = some a ∧ a < 4294967296 := by
  have hb := h.bd
  rw [hd] at hb
  exact ⟨by rw [← refF_eq, h.eq, if_pos hd], hb⟩
/-- what the loop keeps -/
def RRel (l : List UInt8) (i a dots : Nat) (part : List UInt8) : Prop := RInv l i a dots part ∨ (i = l.length + 1 ∧ part = [] ∧ REnd l a dots)
theorem pow_dots {a dots : Nat} (h : a < 256 ^ dots) (hd : dots ≤ 4) : a < 4294967296 := Nat.lt_of_lt_of_le h (Nat.le_trans (Nat.pow_le_pow_right (by decide) hd) (by decide))
theorem sb46 (l : List UInt8) (k : Nat) : l.getD k 0 = 46 ↔ sb (str l) k = 46 := by
  rw [sb_str]
  constructor
  · intro h; rw [h]; rfl
  · intro h
    have : (l.getD k 0).toNat = 46 := by omega
    rw [← ofNat_of _ _ this]; rfl

end Go.Proofs.Ytnpembgchmmbjaa

namespace Go.Proofs.Ytnpembgchmmbjaa
open Go.RowKit

theorem risIn_no {xs : List Int} {lo hi : Int} (h : risB xs = false) : risIn xs lo hi = false := by simp [risIn, h]
theorem risIn_out {xs : List Int} {lo hi : Int} {k : Nat} (hk : k < xs.length) (h : xs.getD k 0 < lo ∨ hi < xs.getD k 0) : risIn xs lo hi = false := by
  have : inB xs lo hi = false := by
    cases hx : inB xs lo hi with
    | false => rfl
    | true => have := (inB_iff xs lo hi).1 hx _ (getD_mem hk); omega
  simp [risIn, this]
theorem risIn_yes {xs : List Int} {lo hi : Int} (h1 : 1 ≤ xs.length) (h2 : xs.length ≤ 16) (hup : Up xs xs.length) (h : ∀ j, j < xs.length → lo ≤ xs.getD j 0 ∧ xs.getD j 0 ≤ hi) : risIn xs lo hi = true := by
  have g1 : risB xs = true := (risB_iff xs).2 ⟨h1, h2, hup⟩
  have g2 : inB xs lo hi = true := (inB_iff xs lo hi).2 fun x hx => by
    obtain ⟨i, hi', rfl⟩ := mem_getD hx
    exact h i hi'
  simp [risIn, g1, g2]
set_option maxRecDepth 100000 in
set_option maxHeartbeats 2000000 in
theorem refRis_any (A : Option Addr) (n c : Nat) (xs : List Int) (lo hi : Int) (w : World) (h : ISl w .i64 A n c xs) :
    Calls Try.prog 72 #[.slice A n c, .int .i64 lo, .int .i64 hi] w fun e w' => e = .returned (.bool (risIn xs lo hi)) ∧ Drew w w' := by
  have hle := h.le
  have hcap := h.cap
  have H := Lib.hid h
  clear h
  by_cases h1 : n < 1
  · have E := Lib.hid (risIn_no (lo := lo) (hi := hi) (risB_no xs (.inl (by rw [H.out.len]; exact h1))))
    go_enter Try.func72, Try.ntmps72
    go_wp2
    go_ret
    exact ⟨by rw [E.out]; rfl, Drew.refl _⟩
  by_cases h2 : 16 < n
  · have E := Lib.hid (risIn_no (lo := lo) (hi := hi) (risB_no xs (.inr (by rw [H.out.len]; exact h2))))
    go_enter Try.func72, Try.ntmps72
    go_wp2
    go_ret
    exact ⟨by rw [E.out]; rfl, Drew.refl _⟩
  obtain ⟨b, off, rfl, hb, hc⟩ := H.out.2.2.2 (by omega)
  have HC := Lib.hid hc
  clear hc
  go_enter Try.func72, Try.ntmps72
  go_wp2
  go_loopw [7] (fun i wr => ∃ k : Nat, k ≤ n ∧ i = .int .i64 (k : Int) ∧ Up xs k ∧ (∀ j, j < k → lo ≤ xs.getD j 0 ∧ xs.getD j 0 ≤ hi) ∧ Drew w wr) (fun i _ => n - (intOf i).toNat)
  case atStart => exact ⟨0, by omega, rfl, Up.zero _, fun j hj => by omega, Drew.refl _⟩
  case round =>
    obtain ⟨k, hk, rfl, hup, hin, m, rfl⟩ := hrel
    have U := Lib.hid hup
    have IN := Lib.hid hin
    clear hup hin
    by_cases hlt : k < n
    · have c0 : w.cell? ⟨b, off + k, none⟩ = some (.int .i64 (xs.getD k 0)) := HC.out k hlt
      generalize hx : xs.getD k 0 = x at c0
      have HX := Lib.hid hx
      clear hx
      by_cases d1 : x < lo
      · have E := Lib.hid (risIn_out (xs := xs) (lo := lo) (hi := hi) (k := k) (by rw [H.out.len]; exact hlt) (.inl (by rw [HX.out]; exact d1)))
        have t1 : decide (x < lo) = true := by simpa using d1
        go_wp2
        go_quiet (fail)
        go_wp2
        go_ret
        exact ⟨by rw [E.out]; rfl, ⟨m + nq, by rw [drewN_add]⟩⟩
      have t1 : decide (x < lo) = false := by simpa using d1
      by_cases d2 : hi < x
      · have E := Lib.hid (risIn_out (xs := xs) (lo := lo) (hi := hi) (k := k) (by rw [H.out.len]; exact hlt) (.inr (by rw [HX.out]; exact d2)))
        have t2 : decide (hi < x) = true := by simpa using d2
        go_wp2
        go_quiet (fail)
        go_wp2
        go_ret
        exact ⟨by rw [E.out]; rfl, ⟨m + nq, by rw [drewN_add]⟩⟩
      have t2 : decide (hi < x) = false := by simpa using d2
      by_cases k0 : 0 < k
      · have c1 : w.cell? ⟨b, off + (k - 1), none⟩ = some (.int .i64 (xs.getD (k - 1) 0)) := HC.out (k - 1) (by omega)
        generalize hy : xs.getD (k - 1) 0 = y at c1
        have HY := Lib.hid hy
        clear hy
        have k1 : 1 ≤ k := k0
        have e1 : IntKind.i64.wrap ((k : Int) - 1) = (k : Int) - 1 := IntWalk.i64_in _ (by omega)
        have e2 : (0 : Int) ≤ (k : Int) - 1 := by omega
        have e3 : ((k : Int) - 1).toNat = k - 1 := by omega
        have e4 : (k : Int) - 1 < (n : Int) := by omega
        by_cases d3 : x ≤ y
        · have E := Lib.hid (risIn_no (lo := lo) (hi := hi) (risB_down (xs := xs) (k := k) k0 (by rw [H.out.len]; exact hlt) (by rw [HX.out, HY.out]; exact d3)))
          have t3 : decide (x ≤ y) = true := by simpa using d3
          go_wp2
          go_quiet (fail)
          go_wp2
          go_ret
          exact ⟨by rw [E.out]; rfl, ⟨m + nq, by rw [drewN_add]⟩⟩
        · have E := Lib.hid (U.out.next (by rw [HX.out, HY.out]; omega))
          have E2 := Lib.hid (show ∀ j, j < k + 1 → lo ≤ xs.getD j 0 ∧ xs.getD j 0 ≤ hi from fun j hj => by
            by_cases ej : j = k
            · subst ej; rw [HX.out]; exact ⟨by omega, by omega⟩
            · exact IN.out j (by omega))
          have t3 : decide (x ≤ y) = false := by simpa using d3
          go_wp2
          go_quiet (fail)
          clear e1 e2 e3 e4
          go_wp2
          go_roundw
          case rel => exact ⟨k + 1, by omega, by go_num, E.out, E2.out, ⟨m + nq, rfl⟩⟩
          case measure => simp [intOf]; omega
      · have E := Lib.hid (show Up xs (k + 1) from (Up.one xs).less (by omega))
        have E2 := Lib.hid (show ∀ j, j < k + 1 → lo ≤ xs.getD j 0 ∧ xs.getD j 0 ≤ hi from fun j hj => by
          obtain rfl : j = k := by omega
          rw [HX.out]; exact ⟨by omega, by omega⟩)
        go_wp2
        go_quiet (fail)
        go_wp2
        go_roundw
        case rel => exact ⟨k + 1, by omega, by go_num, E.out, E2.out, ⟨m + nq, rfl⟩⟩
        case measure => simp [intOf]; omega
    · obtain rfl : k = n := by omega
      have E := Lib.hid (show risIn xs lo hi = true from risIn_yes (by rw [H.out.len]; omega) (by rw [H.out.len]; omega) (by rw [H.out.len]; exact U.out) (by rw [H.out.len]; exact IN.out))
      go_wp2
      go_ret
      exact ⟨by rw [E.out]; rfl, ⟨m, rfl⟩⟩

end Go.Proofs.Ytnpembgchmmbjaa

namespace Go.Proofs.Ytnpembgchmmbjaa
open Go.RowKit

theorem allRd_next {rd : List UInt8 → Option Int} {P : List (List UInt8)} {xs : List Int} {k : Nat} {x : Int} (h : allRd rd (P.take k) = some xs) (hk : k < P.length) (hx : rd (P.getD k []) = some x) : allRd rd (P.take (k + 1)) = some (xs ++ [x]) := by
  rw [List.take_succ_eq_append_getElem hk]
  refine allRd_snoc h ?_
  rw [List.getD, List.getElem?_eq_getElem hk] at hx
  exact hx
theorem allRd_fail {rd : List UInt8 → Option Int} {P : List (List UInt8)} {k : Nat} (hk : k < P.length) (hx : rd (P.getD k []) = none) : allRd rd P = none := by
  have e : P = P.take k ++ P.getD k [] :: P.drop (k + 1) := by
    have h2 : P.drop k = P.getD k [] :: P.drop (k + 1) := by
      rw [List.drop_eq_getElem_cons hk, List.getD, List.getElem?_eq_getElem hk]; rfl
    rw [← h2, List.take_append_drop]
  rw [e]
  exact allRd_no hx
theorem allRd_pre {rd : List UInt8 → Option Int} {P : List (List UInt8)} {xs ys : List Int} {k : Nat} (h : allRd rd (P.take k) = some xs) (hp : allRd rd P = some ys) : ∃ zs, ys = xs ++ zs := by
  rw [← List.take_append_drop k P, allRd_app, h] at hp
  simp only [Option.bind_some, Option.map_eq_some_iff] at hp
  obtain ⟨zs, _, rfl⟩ := hp
  exact ⟨zs, rfl⟩
theorem getD_left {xs zs : List Int} {i : Nat} (h : i < xs.length) : (xs ++ zs).getD i 0 = xs.getD i 0 := by simp [List.getD, List.getElem?_append_left h]
theorem getD_right {xs zs : List Int} {i : Nat} (h : xs.length ≤ i) : (xs ++ zs).getD i 0 = zs.getD (i - xs.length) 0 := by simp [List.getD, List.getElem?_append_right h]
theorem rlF_down {rd : List UInt8 → Option Int} {l : List UInt8} {xs : List Int} {k : Nat} (h : allRd rd ((splitC l).take (k + 1)) = some xs) (hl : xs.length = k + 1) (h0 : 0 < k) (hd : xs.getD k 0 ≤ xs.getD (k - 1) 0) : rlF rd l = none := by
  cases hp : allRd rd (splitC l) with
  | none => exact rlF_none hp
  | some ys =>
    obtain ⟨zs, rfl⟩ := allRd_pre h hp
    refine rlF_no hp (risB_down h0 (by rw [List.length_append]; omega) ?_)
    rw [getD_left (by omega), getD_left (by omega)]
    exact hd
theorem inB_all {lo hi : Int} {a : List (List UInt8)} {xs : List Int} (h : allRd (rdI lo hi) a = some xs) : inB xs lo hi = true :=
  (inB_iff xs lo hi).2 fun x hx => by
    obtain ⟨p, hp⟩ := allRd_all h x hx
    have := nF_iff.1 hp
    exact ⟨this.2.2.1, this.2.2.2⟩
theorem part_len (l : List UInt8) (k : Nat) (h : k < (splitC l).length) : ((splitC l).getD k []).length ≤ l.length := by
  have := splitC_part l _ (List.getElem_mem h)
  rw [List.getD, List.getElem?_eq_getElem h]
  exact this
end Go.Proofs.Ytnpembgchmmbjaa

namespace Go.Proofs.Ytnpembgchmmbjaa
open Go.RowKit
open Go.Lib (decDigits)

theorem cut_at {l : List UInt8} {k : Nat} (hk : k < l.length) (hn : ∀ c ∈ l.take k, c ≠ 47) (hc : l.getD k 0 = 47) : 47 ∈ l ∧ headS l = l.take k ∧ tailS l = l.drop (k + 1) := by
  have e : l = l.take k ++ 47 :: l.drop (k + 1) := by
    conv => lhs; rw [← List.take_append_drop k l, drop_more hk, hc]
  obtain ⟨h1, h2⟩ := cut_app (l.take k) (l.drop (k + 1)) (fun c hc => by simpa using hn c hc)
  rw [← e] at h1 h2
  refine ⟨?_, h1, h2⟩
  rw [e]
  simp
theorem no_slash {l : List UInt8} (hn : ∀ c ∈ l.take l.length, c ≠ 47) : pfF l = none := by
  rw [← pfR_eq]
  unfold pfR
  rw [if_neg]
  intro h
  rw [List.take_length] at hn
  exact hn 47 h rfl
theorem take_no {l : List UInt8} {k : Nat} (hk : k < l.length) (hn : ∀ c ∈ l.take k, c ≠ 47) (hc : l.getD k 0 ≠ 47) : ∀ c ∈ l.take (k + 1), c ≠ 47 := by
  rw [take_more hk]
  intro c h
  rcases List.mem_append.1 h with h | h
  · exact hn c h
  · rw [List.mem_singleton.1 h]; exact hc
theorem sb47 (l : List UInt8) (k : Nat) : l.getD k 0 = 47 ↔ sb (str l) k = 47 := by
  rw [sb_str]
  constructor
  · intro h; rw [h]; rfl
  · intro h
    have : (l.getD k 0).toNat = 47 := by omega
    rw [← ofNat_of _ _ this]; rfl
theorem pfF_head {l : List UInt8} (h47 : 47 ∈ l) (h : rdF (headS l) = none) : pfF l = none := by rw [← pfR_eq]; unfold pfR; rw [if_pos h47, h]
theorem pfF_tail {l : List UInt8} {a : Nat} (h47 : 47 ∈ l) (h : rdF (headS l) = some a) : pfF l = if 32 < digF (tailS l) then none else some (a, digF (tailS l)) := by rw [← pfR_eq]; unfold pfR; rw [if_pos h47, h]
theorem set_below {w W : World} (h : Below w.heap.size w W) (x y : Value) (b : Nat) (hb : w.heap.size ≤ b) : Below w.heap.size w ((W.setCell ⟨b, 0, none⟩ x).setCell ⟨b, 1, none⟩ y) := (h.setCell hb _).setCell hb _

end Go.Proofs.Ytnpembgchmmbjaa

namespace Go.Proofs.Ytnpembgchmmbjaa
open Go.RowKit

theorem wrap32 (x : Nat) (h : x < 4294967296) : IntKind.u32.wrap (x : Int) = (x : Int) := by
  simp only [IntKind.wrap, IntKind.bits, IntKind.signed]
  have : (x : Int) % 2 ^ 32 = (x : Int) := Int.emod_eq_of_lt (by omega) (by omega)
  simpa using this
/-- between the least and the greatest: two tests -/
theorem HS_two (A b x : Nat) (hb : b ≤ 32) : HS (A : Int) (b : Int) (x : Int) = (decide (fsN A b ≤ x) && decide (x ≤ lsN A b)) := by
  have hr : RT (b : Int) = true := by rw [RT_iff]; omega
  unfold HS
  rw [hr, Bool.true_and, Bool.eq_iff_iff]
  simp only [Int.toNat_natCast, decide_eq_true_eq, Bool.and_eq_true]
  exact has_iff A b x
theorem WI_r2 (A B A2 B2 : Int) (h : RT B2 = false) : WI A B A2 B2 = false := by simp [WI, HS, h]
end Go.Proofs.Ytnpembgchmmbjaa

namespace Go.Proofs.Ytnpembgchmmbjaa
open Go.RowKit


theorem FS_no {A B : Int} (h : RT B = false) : FS A B = 0 := by simp [FS, h]
theorem LS_no {A B : Int} (h : RT B = false) : LS A B = 0 := by simp [LS, h]
theorem FS_yes (a b : Nat) (hb : b ≤ 32) : FS (a : Int) (b : Int) = (fsN a b : Nat) := by
  have hr : RT (b : Int) = true := by rw [RT_iff]; omega
  simp [FS, hr]
theorem LS_yes (a b : Nat) (hb : b ≤ 32) : LS (a : Int) (b : Int) = (lsN a b : Nat) := by
  have hr : RT (b : Int) = true := by rw [RT_iff]; omega
  simp [LS, hr]
end Go.Proofs.Ytnpembgchmmbjaa
