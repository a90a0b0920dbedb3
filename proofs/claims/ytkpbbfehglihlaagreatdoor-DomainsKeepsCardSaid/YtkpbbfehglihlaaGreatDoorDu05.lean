/- XRef3; XNtRef1; XSeqT -/
import Derived.Test.YtkpbbfehglihlaaGreatDoorDu04
import Derived.Test.YtkpbbfehglihlaaGreatDoorDu01
import Derived.Test.YtkpbbfehglihlaaGreatDoorDu02
import Derived.Test.YtkpbbfehglihlaaGreatDoorDu03
import Derived.StillTailTactics
import Derived.Lib.Builder
import Derived.Laws.AppendOwnNone
import Derived.SliceStrings
import Derived.SizedLaws
import Derived.StillTail
/- The contract of palingref03.Split: what stands between commas. The contract of palingref03.Read: which number a text is, or that it is none. The contract of palingref02.Read: which address a text is, or that it is none. The contracts of palingref03's lists: Rising, ReadList, ReadAddrs, Ints, Addrs. The contracts of palingref03.ReadList and palingref03.ReadAddrs. The contract of palingref02.ReadPrefix: which prefix a text is, or that it is none. The contracts of palingref02's functions on prefixes: First, Last, Has, Within. The least and the greatest address of any prefix: the contracts, whole. -/
namespace Go.Proofs.YtkpbbfehglihlaaGreatDoor
open Go.RowKit

end Go.Proofs.YtkpbbfehglihlaaGreatDoor

namespace Go.Proofs.YtkpbbfehglihlaaGreatDoor
open Go.RowKit
open Go.Lib (decDigits itoa atoiAll)

/-- the digits up to j -/
def mid (l : List UInt8) (f j : Nat) : List UInt8 := (l.take j).drop f
theorem mid_more {l : List UInt8} {f j : Nat} (h : f ≤ j) (hj : j < l.length) : mid l f (j + 1) = mid l f j ++ [l.getD j 0] := by
  unfold mid
  rw [take_more hj, List.drop_append_of_le_length (by rw [List.length_take]; omega)]
theorem mid_len {l : List UInt8} {f j : Nat} (hj : j ≤ l.length) : (mid l f j).length = j - f := by
  unfold mid
  rw [List.length_drop, List.length_take]
  omega
theorem mid_first (l : List UInt8) (f : Nat) : mid l f f = [] := by
  unfold mid
  rw [List.drop_eq_nil_of_le (by rw [List.length_take]; omega)]
theorem mid_all (l : List UInt8) (f : Nat) : mid l f l.length = l.drop f := by unfold mid; rw [List.take_length]
theorem mid_mem {l : List UInt8} {f j : Nat} (h : f ≤ j) (hj : j < l.length) : l.getD j 0 ∈ l.drop f := by
  have e : l.getD j 0 = (l.drop f)[j - f]'(by rw [List.length_drop]; omega) := by
    rw [List.getElem_drop]
    simp [List.getD, List.getElem?_eq_getElem hj, show f + (j - f) = j by omega]
  rw [e]
  exact List.getElem_mem _
theorem ten_pow {k : Nat} (h : k ≤ 10) : 10 ^ k ≤ 10000000000 := by
  have : 10 ^ k ≤ 10 ^ 10 := Nat.pow_le_pow_right (by decide) h
  simpa using this

set_option maxRecDepth 100000 in
set_option maxHeartbeats 2000000 in
theorem refNumRead_neg (l : List UInt8) (lo hi : Int) (w : World) (hs : l.length ≤ maxLen) (hd : l.head? = some 45) :
    Calls Tryz.prog 200 #[.string (str l), .int .i64 lo, .int .i64 hi] w fun e w' => e = .returned (.tuple #[.int .i64 (nV l lo hi), .bool (nB l lo hi)]) ∧ Below w.heap.size w w' := by
  unfold maxLen at hs
  have ht : trimM l = l.drop 1 := by unfold trimM; rw [if_pos hd]; cases l <;> rfl
  have hl0 : 0 < l.length := by
    cases l with
    | nil => cases hd
    | cons c r => simp
  have y0 := run_index_sb (str l) 0 0 rfl (by rw [str_size]; exact hl0)
  have y1 : (sb (str l) 0 == 45) = true := by
    cases l with
    | nil => cases hd
    | cons c r =>
      have : c = 45 := by simpa using hd
      subst this; rfl
  have HH := Lib.hid hd
  clear hd
  have HT := Lib.hid ht
  clear ht
  by_cases h1 : l.length < 1 + 1
  · have E := Lib.hid (n_no (nF_none_len (l := l) (lo := lo) (hi := hi) (.inl (by rw [HT.out, List.length_drop]; omega))))
    go_enter Tryz.func200, Tryz.ntmps200
    go_wp2
    go_ret2
    exact ⟨by rw [E.out.1, E.out.2]; rfl, Below.refl _ _⟩
  by_cases h2 : 10 + 1 < l.length
  · have E := Lib.hid (n_no (nF_none_len (l := l) (lo := lo) (hi := hi) (.inr (by rw [HT.out, List.length_drop]; omega))))
    go_enter Tryz.func200, Tryz.ntmps200
    go_wp2
    go_ret2
    exact ⟨by rw [E.out.1, E.out.2]; rfl, Below.refl _ _⟩
  go_enter Tryz.func200, Tryz.ntmps200
  go_wp2
  go_loop [9, 10] (fun v i => ∃ j n : Nat, 1 ≤ j ∧ j ≤ l.length ∧ i = .int .i64 (j : Int) ∧ v = .int .i64 (n : Int) ∧ n = valD (mid l 1 j) ∧ (∀ c ∈ mid l 1 j, isD c = true)) (fun _ i => l.length - (intOf i).toNat)
  case atStart => exact ⟨1, 0, by omega, by omega, rfl, rfl, by rw [mid_first]; rfl, fun c h => by rw [mid_first] at h; cases h⟩
  case round =>
    obtain ⟨j, n, hj0, hj, rfl, rfl, hv, hD⟩ := hrel
    have hlen := mid_len (f := 1) hj
    have hn : n < 10000000000 := by
      have g1 := valD_lt hD
      rw [← hv, hlen] at g1
      have g2 := ten_pow (k := j - 1) (by omega)
      omega
    clear hlen
    have HV := Lib.hid hv
    have HD := Lib.hid hD
    clear hv hD
    by_cases hlt : j < l.length
    · have x0 := run_index_sb (str l) j j rfl (by rw [str_size]; exact hlt)
      have l0 := sb_lo (str l) j
      have l1 := sb_hi (str l) j
      by_cases c1 : sb (str l) j < 48
      · have E := Lib.hid (n_no (nF_none_digit (l := l) (lo := lo) (hi := hi) (by rw [HT.out]; exact mid_mem hj0 hlt) (notD_sb (str l) j (by omega))))
        go_wp2
        go_ret2
        exact ⟨by rw [E.out.1, E.out.2]; rfl, Below.refl _ _⟩
      by_cases c2 : 57 < sb (str l) j
      · have E := Lib.hid (n_no (nF_none_digit (l := l) (lo := lo) (hi := hi) (by rw [HT.out]; exact mid_mem hj0 hlt) (notD_sb (str l) j (by omega))))
        go_wp2
        go_ret2
        exact ⟨by rw [E.out.1, E.out.2]; rfl, Below.refl _ _⟩
      have hdg := (isD_sb (str l) j).2 ⟨by omega, by omega⟩
      have N := Lib.hid (show ((n * 10 + ((l.getD j 0).toNat - 48) : Nat) : Int) = (n : Int) * 10 + sb (str l) j - 48 by rw [sb_str] at c1 ⊢; omega)
      have V := Lib.hid (show n * 10 + ((l.getD j 0).toNat - 48) = valD (mid l 1 (j + 1)) by rw [mid_more hj0 hlt, valD_snoc, ← HV.out])
      have D := Lib.hid (show ∀ c ∈ mid l 1 (j + 1), isD c = true by
        rw [mid_more hj0 hlt]
        intro c hc
        rcases List.mem_append.1 hc with hc | hc
        · exact HD.out c hc
        · rw [List.mem_singleton.1 hc]; exact hdg)
      clear hdg
      go_wp2
      go_round
      case rel => exact ⟨j + 1, n * 10 + ((l.getD j 0).toNat - 48), by omega, hlt, by go_num, by rw [N.out], V.out, D.out⟩
      case measure => simp [intOf]; omega
    · have hjl : j = l.length := by omega
      have EN := Lib.hid (show n = valD (trimM l) by rw [HV.out, hjl, mid_all, HT.out])
      have F := Lib.hid (nF_ref (l := l) (lo := lo) (hi := hi) (by rw [HT.out, List.length_drop]; omega) (by rw [HT.out, List.length_drop]; omega) (fun c hc => HD.out c (by rw [hjl, mid_all, ← HT.out]; exact hc)))
      have R := Lib.hid (show rN l = -(n : Int) by unfold rN; rw [if_pos HH.out, ← EN.out])
      clear hjl
      have hil := itoa_len (-(n : Int)) (by omega) (by omega)
      by_cases c1 : -(n : Int) < lo
      · have E := Lib.hid (n_no (show nF l lo hi = none by rw [F.out, R.out, if_neg (by omega)]))
        go_wp2
        go_ret2
        exact ⟨by rw [E.out.1, E.out.2]; rfl, Below.refl _ _⟩
      by_cases c2 : hi < -(n : Int)
      · have E := Lib.hid (n_no (show nF l lo hi = none by rw [F.out, R.out, if_neg (by omega)]))
        go_wp2
        go_ret2
        exact ⟨by rw [E.out.1, E.out.2]; rfl, Below.refl _ _⟩
      by_cases c3 : itoa (-(n : Int)) = l
      · have E := Lib.hid (n_yes (show nF l lo hi = some (-(n : Int)) by rw [F.out, R.out, if_pos ⟨by omega, by omega, c3⟩]))
        have t1 : (itoa (-(n : Int)) == l) = true := by simpa using c3
        have t2 : (itoa (-(n : Int)) != l) = false := by simpa using c3
        clear c3
        go_wp2_with (go_at_call 49; refine (refNumText_any (-(n : Int)) (by omega) (by omega) _).mono ?_; rintro e w1 ⟨rfl, hb1⟩)
        go_ret2
        exact ⟨by rw [E.out.1, E.out.2]; rfl, hb1⟩
      · have E := Lib.hid (n_no (show nF l lo hi = none by rw [F.out, R.out, if_neg (fun h => c3 h.2.2)]))
        have t1 : (itoa (-(n : Int)) == l) = false := by simpa using c3
        have t2 : (itoa (-(n : Int)) != l) = true := by simpa using c3
        clear c3
        go_wp2_with (go_at_call 49; refine (refNumText_any (-(n : Int)) (by omega) (by omega) _).mono ?_; rintro e w1 ⟨rfl, hb1⟩)
        go_ret2
        exact ⟨by rw [E.out.1, E.out.2]; rfl, hb1⟩

end Go.Proofs.YtkpbbfehglihlaaGreatDoor

namespace Go.Proofs.YtkpbbfehglihlaaGreatDoor
open Go.RowKit
open Go.Lib (decDigits)

end Go.Proofs.YtkpbbfehglihlaaGreatDoor

namespace Go.Proofs.YtkpbbfehglihlaaGreatDoor
open Go.RowKit

theorem risIn_no {xs : List Int} {lo hi : Int} (h : risB xs = false) : risIn xs lo hi = false := by simp [risIn, h]
theorem risIn_out {xs : List Int} {lo hi : Int} {k : Nat} (hk : k < xs.length) (h : xs.getD k 0 < lo ∨ hi < xs.getD k 0) : risIn xs lo hi = false := by
  have : inB xs lo hi = false := by
    cases hx : inB xs lo hi with
    | false => rfl
    | true => have := (inB_iff xs lo hi).1 hx _ (getD_mem hk); omega
  simp [risIn, this]
theorem risIn_yes {xs : List Int} {lo hi : Int} (h1 : 1 ≤ xs.length) (h2 : xs.length ≤ 16) (hup : Up xs xs.length) (h : ∀ j, j < xs.length → lo ≤ xs.getD j 0 ∧ xs.getD j 0 ≤ hi) : risIn xs lo hi = true := by
  have g1 : risB xs = true := (risB_iff xs).2 ⟨h1, h2, hup⟩
  have g2 : inB xs lo hi = true := (inB_iff xs lo hi).2 fun x hx => by
    obtain ⟨i, hi', rfl⟩ := mem_getD hx
    exact h i hi'
  simp [risIn, g1, g2]
set_option maxRecDepth 100000 in
set_option maxHeartbeats 2000000 in
theorem refRis_any (A : Option Addr) (n c : Nat) (xs : List Int) (lo hi : Int) (w : World) (h : ISl w .i64 A n c xs) :
    Calls Tryz.prog 171 #[.slice A n c, .int .i64 lo, .int .i64 hi] w fun e w' => e = .returned (.bool (risIn xs lo hi)) ∧ Drew w w' := by
  have hle := h.le
  have hcap := h.cap
  have H := Lib.hid h
  clear h
  by_cases h1 : n < 1
  · have E := Lib.hid (risIn_no (lo := lo) (hi := hi) (risB_no xs (.inl (by rw [H.out.len]; exact h1))))
    go_enter Tryz.func171, Tryz.ntmps171
    go_wp2
    go_ret
    exact ⟨by rw [E.out]; rfl, Drew.refl _⟩
  by_cases h2 : 16 < n
  · have E := Lib.hid (risIn_no (lo := lo) (hi := hi) (risB_no xs (.inr (by rw [H.out.len]; exact h2))))
    go_enter Tryz.func171, Tryz.ntmps171
    go_wp2
    go_ret
    exact ⟨by rw [E.out]; rfl, Drew.refl _⟩
  obtain ⟨b, off, rfl, hb, hc⟩ := H.out.2.2.2 (by omega)
  have HC := Lib.hid hc
  clear hc
  go_enter Tryz.func171, Tryz.ntmps171
  go_wp2
  go_loopw [7] (fun i wr => ∃ k : Nat, k ≤ n ∧ i = .int .i64 (k : Int) ∧ Up xs k ∧ (∀ j, j < k → lo ≤ xs.getD j 0 ∧ xs.getD j 0 ≤ hi) ∧ Drew w wr) (fun i _ => n - (intOf i).toNat)
  case atStart => exact ⟨0, by omega, rfl, Up.zero _, fun j hj => by omega, Drew.refl _⟩
  case round =>
    obtain ⟨k, hk, rfl, hup, hin, m, rfl⟩ := hrel
    have U := Lib.hid hup
    have IN := Lib.hid hin
    clear hup hin
    by_cases hlt : k < n
    · have c0 : w.cell? ⟨b, off + k, none⟩ = some (.int .i64 (xs.getD k 0)) := HC.out k hlt
      generalize hx : xs.getD k 0 = x at c0
      have HX := Lib.hid hx
      clear hx
      by_cases d1 : x < lo
      · have E := Lib.hid (risIn_out (xs := xs) (lo := lo) (hi := hi) (k := k) (by rw [H.out.len]; exact hlt) (.inl (by rw [HX.out]; exact d1)))
        have t1 : decide (x < lo) = true := by simpa using d1
        go_wp2
        go_quiet (fail)
        go_wp2
        go_ret
        exact ⟨by rw [E.out]; rfl, ⟨m + nq, by rw [drewN_add]⟩⟩
      have t1 : decide (x < lo) = false := by simpa using d1
      by_cases d2 : hi < x
      · have E := Lib.hid (risIn_out (xs := xs) (lo := lo) (hi := hi) (k := k) (by rw [H.out.len]; exact hlt) (.inr (by rw [HX.out]; exact d2)))
        have t2 : decide (hi < x) = true := by simpa using d2
        go_wp2
        go_quiet (fail)
        go_wp2
        go_ret
        exact ⟨by rw [E.out]; rfl, ⟨m + nq, by rw [drewN_add]⟩⟩
      have t2 : decide (hi < x) = false := by simpa using d2
      by_cases k0 : 0 < k
      · have c1 : w.cell? ⟨b, off + (k - 1), none⟩ = some (.int .i64 (xs.getD (k - 1) 0)) := HC.out (k - 1) (by omega)
        generalize hy : xs.getD (k - 1) 0 = y at c1
        have HY := Lib.hid hy
        clear hy
        have k1 : 1 ≤ k := k0
        have e1 : IntKind.i64.wrap ((k : Int) - 1) = (k : Int) - 1 := IntWalk.i64_in _ (by omega)
        have e2 : (0 : Int) ≤ (k : Int) - 1 := by omega
        have e3 : ((k : Int) - 1).toNat = k - 1 := by omega
        have e4 : (k : Int) - 1 < (n : Int) := by omega
        by_cases d3 : x ≤ y
        · have E := Lib.hid (risIn_no (lo := lo) (hi := hi) (risB_down (xs := xs) (k := k) k0 (by rw [H.out.len]; exact hlt) (by rw [HX.out, HY.out]; exact d3)))
          have t3 : decide (x ≤ y) = true := by simpa using d3
          go_wp2
          go_quiet (fail)
          go_wp2
          go_ret
          exact ⟨by rw [E.out]; rfl, ⟨m + nq, by rw [drewN_add]⟩⟩
        · have E := Lib.hid (U.out.next (by rw [HX.out, HY.out]; omega))
          have E2 := Lib.hid (show ∀ j, j < k + 1 → lo ≤ xs.getD j 0 ∧ xs.getD j 0 ≤ hi from fun j hj => by
            by_cases ej : j = k
            · subst ej; rw [HX.out]; exact ⟨by omega, by omega⟩
            · exact IN.out j (by omega))
          have t3 : decide (x ≤ y) = false := by simpa using d3
          go_wp2
          go_quiet (fail)
          clear e1 e2 e3 e4
          go_wp2
          go_roundw
          case rel => exact ⟨k + 1, by omega, by go_num, E.out, E2.out, ⟨m + nq, rfl⟩⟩
          case measure => simp [intOf]; omega
      · have E := Lib.hid (show Up xs (k + 1) from (Up.one xs).less (by omega))
        have E2 := Lib.hid (show ∀ j, j < k + 1 → lo ≤ xs.getD j 0 ∧ xs.getD j 0 ≤ hi from fun j hj => by
          obtain rfl : j = k := by omega
          rw [HX.out]; exact ⟨by omega, by omega⟩)
        go_wp2
        go_quiet (fail)
        go_wp2
        go_roundw
        case rel => exact ⟨k + 1, by omega, by go_num, E.out, E2.out, ⟨m + nq, rfl⟩⟩
        case measure => simp [intOf]; omega
    · obtain rfl : k = n := by omega
      have E := Lib.hid (show risIn xs lo hi = true from risIn_yes (by rw [H.out.len]; omega) (by rw [H.out.len]; omega) (by rw [H.out.len]; exact U.out) (by rw [H.out.len]; exact IN.out))
      go_wp2
      go_ret
      exact ⟨by rw [E.out]; rfl, ⟨m, rfl⟩⟩

end Go.Proofs.YtkpbbfehglihlaaGreatDoor

namespace Go.Proofs.YtkpbbfehglihlaaGreatDoor
open Go.RowKit

end Go.Proofs.YtkpbbfehglihlaaGreatDoor

namespace Go.Proofs.YtkpbbfehglihlaaGreatDoor
open Go.RowKit
open Go.Lib (decDigits)

end Go.Proofs.YtkpbbfehglihlaaGreatDoor

namespace Go.Proofs.YtkpbbfehglihlaaGreatDoor
open Go.RowKit

/-- between the least and the greatest: two tests -/
theorem HS_two (A b x : Nat) (hb : b ≤ 32) : HS (A : Int) (b : Int) (x : Int) = (decide (fsN A b ≤ x) && decide (x ≤ lsN A b)) := by
  have hr : RT (b : Int) = true := by rw [RT_iff]; omega
  unfold HS
  rw [hr, Bool.true_and, Bool.eq_iff_iff]
  simp only [Int.toNat_natCast, decide_eq_true_eq, Bool.and_eq_true]
  exact has_iff A b x
end Go.Proofs.YtkpbbfehglihlaaGreatDoor

namespace Go.Proofs.YtkpbbfehglihlaaGreatDoor
open Go.RowKit


theorem FS_no {A B : Int} (h : RT B = false) : FS A B = 0 := by simp [FS, h]
theorem LS_no {A B : Int} (h : RT B = false) : LS A B = 0 := by simp [LS, h]
theorem FS_yes (a b : Nat) (hb : b ≤ 32) : FS (a : Int) (b : Int) = (fsN a b : Nat) := by
  have hr : RT (b : Int) = true := by rw [RT_iff]; omega
  simp [FS, hr]
theorem LS_yes (a b : Nat) (hb : b ≤ 32) : LS (a : Int) (b : Int) = (lsN a b : Nat) := by
  have hr : RT (b : Int) = true := by rw [RT_iff]; omega
  simp [LS, hr]
theorem first_all (A B : Int) (h0 : 0 ≤ A) (h1 : A < 4294967296) (w : World) : Calls Tryz.prog 177 #[.agg #[.int .u32 A, .int .i64 B]] w fun e w' => e = .returned (.int .u32 (FS A B)) ∧ Below w.heap.size w w' := by
  cases hr : RT B with
  | false => rw [FS_no hr]; exact first_no A B hr w
  | true =>
    obtain ⟨b, rfl, hb⟩ := RT_nat hr
    obtain ⟨a, rfl⟩ := Int.eq_ofNat_of_zero_le h0
    rw [FS_yes a b hb]
    exact first_yes a b (by omega) hb w
theorem last_all (A B : Int) (h0 : 0 ≤ A) (h1 : A < 4294967296) (w : World) : Calls Tryz.prog 178 #[.agg #[.int .u32 A, .int .i64 B]] w fun e w' => e = .returned (.int .u32 (LS A B)) ∧ Below w.heap.size w w' := by
  cases hr : RT B with
  | false => rw [LS_no hr]; exact last_no A B hr w
  | true =>
    obtain ⟨b, rfl, hb⟩ := RT_nat hr
    obtain ⟨a, rfl⟩ := Int.eq_ofNat_of_zero_le h0
    rw [LS_yes a b hb]
    exact last_yes a b (by omega) hb w
end Go.Proofs.YtkpbbfehglihlaaGreatDoor

/- palingref15's small functions: Place, In, rising, Member, At; lists of numbers compared (Ints, Addrs of any two). -/
namespace Go.Proofs.YtkpbbfehglihlaaGreatDoor
open Go.RowKit

/-- a slice of numbers reads as numbers -/
theorem isl_rsl {k : IntKind} {w : World} {F : Nat → Prop} {A : Option Addr} {n c : Nat} {xs : List Int} (h : RSl (Rdr.int k) w F A n c xs) : ISl w k A n c xs :=
  ⟨h.1, h.2.1, h.2.2.1, fun hn => by
    obtain ⟨b, off, e, _, hl, hc⟩ := h.2.2.2.2 hn
    refine ⟨b, off, e, hl, fun j hj => ?_⟩
    have hlt : j < xs.length := by rw [h.1]; exact hj
    obtain ⟨vs, rfl, h2⟩ := hc j xs[j] (List.getElem?_eq_getElem hlt)
    have h3 := h2 0 (.int k xs[j]) rfl
    rw [show off + j * (Rdr.int k).n + 0 = off + j by show off + j * 1 + 0 = off + j; omega] at h3
    rw [h3]
    simp [List.getD, hlt]⟩
/-- a net's box -/
structure NBox (w : World) (q : Nat) (S : NSl3) : Prop where
  c0 : w.cell? ⟨q, 0, none⟩ = some (.slice S.dv.A S.dv.n S.dv.c)
  c1 : w.cell? ⟨q, 1, none⟩ = some (.slice S.pt.A S.pt.n S.pt.c)
  c2 : w.cell? ⟨q, 2, none⟩ = some (.slice S.lk.A S.lk.n S.lk.c)
  c3 : w.cell? ⟨q, 3, none⟩ = some (.slice S.dm.A S.dm.n S.dm.c)
  c4 : w.cell? ⟨q, 4, none⟩ = some (.slice S.st.A S.st.n S.st.c)
  c5 : w.cell? ⟨q, 5, none⟩ = some (.slice S.fl.A S.fl.n S.fl.c)
  c6 : w.cell? ⟨q, 6, none⟩ = some (.slice S.vr.A S.vr.n S.vr.c)
  c7 : w.cell? ⟨q, 7, none⟩ = some (.slice S.ir.A S.ir.n S.ir.c)
  lt : q < w.heap.size
theorem NBox.new (w : World) (S : NSl3) (T : TypeId) : NBox (w.alloc (.cells (nA S) T)) w.heap.size S := by
  constructor <;> simp
theorem NBox.below {w w' : World} {q : Nat} {S : NSl3} (h : NBox w q S) (hb : Below w.heap.size w w') : NBox w' q S :=
  ⟨(hb.cell (p := ⟨q, 0, none⟩) h.lt).trans h.c0, (hb.cell (p := ⟨q, 1, none⟩) h.lt).trans h.c1, (hb.cell (p := ⟨q, 2, none⟩) h.lt).trans h.c2, (hb.cell (p := ⟨q, 3, none⟩) h.lt).trans h.c3, (hb.cell (p := ⟨q, 4, none⟩) h.lt).trans h.c4, (hb.cell (p := ⟨q, 5, none⟩) h.lt).trans h.c5, (hb.cell (p := ⟨q, 6, none⟩) h.lt).trans h.c6, (hb.cell (p := ⟨q, 7, none⟩) h.lt).trans h.c7, Nat.lt_of_lt_of_le h.lt hb.size⟩

/-- is it a place of a list of so many? -/
def plB (i m : Int) : Bool := decide (0 ≤ i) && decide (i < m)
theorem plB_iff (i m : Int) : plB i m = true ↔ 0 ≤ i ∧ i < m := by unfold plB; simp
set_option maxRecDepth 20000 in
theorem rplace_any (i m : Int) (w : World) : Calls Tryz.prog 48 #[.int .i64 i, .int .i64 m] w fun e w' => e = .returned (.bool (plB i m)) ∧ w = w' := by
  unfold plB
  by_cases h0 : 0 ≤ i
  · by_cases h1 : i < m
    · have e : (decide (0 ≤ i) && decide (i < m)) = true := by simp; omega
      rw [e]
      go_enter Tryz.func48, Tryz.ntmps48
      go_wp2
      go_ret
      exact ⟨rfl, rfl⟩
    · have e : (decide (0 ≤ i) && decide (i < m)) = false := by simp; omega
      rw [e]
      go_enter Tryz.func48, Tryz.ntmps48
      go_wp2
      go_ret
      exact ⟨rfl, rfl⟩
  · have e : (decide (0 ≤ i) && decide (i < m)) = false := by simp; omega
    rw [e]
    go_enter Tryz.func48, Tryz.ntmps48
    go_wp2
    go_ret
    exact ⟨rfl, rfl⟩
/-- is a number in a list? -/
def memB (xs : List Int) (x : Int) : Bool := decide (x ∈ xs)
theorem memB_take {xs : List Int} {k : Nat} {x : Int} (h : k < xs.length) (ha : x ∉ xs.take k) (hx : xs.getD k 0 ≠ x) : x ∉ xs.take (k + 1) := by
  rw [List.take_succ_eq_append_getElem h]
  intro hm
  rcases List.mem_append.1 hm with hm | hm
  · exact ha hm
  · have := List.mem_singleton.1 hm
    exact hx (by rw [this]; simp [List.getD, h])
set_option maxRecDepth 20000 in
set_option maxHeartbeats 1000000 in
theorem rin_any (A : Option Addr) (n c : Nat) (xs : List Int) (x : Int) (w : World) (h : ISl w .i64 A n c xs) : Calls Tryz.prog 108 #[.slice A n c, .int .i64 x] w fun e w' => e = .returned (.bool (memB xs x)) ∧ w = w' := by
  have hle := h.le
  have hcap := h.cap
  have HL := Lib.hid h.len
  have H := Lib.hid h
  have E1 := Lib.hid (show x ∈ xs → memB xs x = true from fun hx => decide_eq_true hx)
  have E0 := Lib.hid (show x ∉ xs → memB xs x = false from fun hx => decide_eq_false hx)
  generalize memB xs x = V at *
  clear h
  go_enter Tryz.func108, Tryz.ntmps108
  go_wp2
  go_loopw [5] (fun i wr => ∃ k : Nat, i = .int .i64 k ∧ k ≤ n ∧ wr = w ∧ x ∉ xs.take k) (fun i _ => match i with | .int _ y => (n - y).toNat | _ => 0)
  case atStart => exact ⟨0, rfl, by omega, rfl, by simp⟩
  case round =>
    obtain ⟨k, rfl, hk, rfl, hx⟩ := hrel
    have HX := Lib.hid hx
    clear hx
    by_cases hlt : k < n
    · obtain ⟨b, off, rfl, hb, hc⟩ := H.out.2.2.2 (by omega)
      have c0 := hc k hlt
      have hk2 : k < xs.length := by rw [HL.out]; exact hlt
      have NX := Lib.hid (fun hy => memB_take hk2 HX.out hy)
      have YX := Lib.hid (show xs.getD k 0 = x → x ∈ xs from fun e => by rw [← e]; simp [List.getD, hk2])
      generalize xs.getD k 0 = y at *
      have lt2 : (k : Int) < (n : Int) := by omega
      clear hc hk2
      by_cases hy : y = x
      · have ev := E1.out (YX.out hy)
        have ey : (y == x) = true := by simpa using hy
        subst ev
        go_wp2
        go_ret
        exact ⟨rfl, rfl⟩
      · have ey : (y == x) = false := by simpa using hy
        have N2 := Lib.hid (NX.out hy)
        go_wp2
        go_roundw
        case rel => exact ⟨k + 1, by simp, by omega, (by first | rfl | trivial), N2.out⟩
        case measure => simp only []; omega
    · have ev := E0.out (by have := HX.out; rwa [List.take_of_length_le (by rw [HL.out]; omega)] at this)
      have lt2 : ¬ (k : Int) < (n : Int) := by omega
      subst ev
      go_wp2
      go_ret
      exact ⟨rfl, rfl⟩
/-- none, or rising from 1 on? -/
def rsB (xs : List Int) (hi : Int) : Bool := decide (xs = []) || risIn xs 1 hi
set_option maxRecDepth 20000 in
theorem rrising_any (A : Option Addr) (n c : Nat) (xs : List Int) (hi : Int) (w : World) (h : ISl w .i64 A n c xs) : Calls Tryz.prog 115 #[.slice A n c, .int .i64 hi] w fun e w' => e = .returned (.bool (rsB xs hi)) ∧ Drew w w' := by
  have hl := h.len
  by_cases hn : n = 0
  · subst hn
    obtain rfl : xs = [] := List.eq_nil_of_length_eq_zero hl
    rw [show rsB [] hi = true by unfold rsB; simp]
    clear h hl
    go_enter Tryz.func115, Tryz.ntmps115
    go_wp2
    go_ret
    exact ⟨rfl, Drew.refl _⟩
  · have ne : ((n : Int) == 0) = false := by simp; omega
    rw [show rsB xs hi = risIn xs 1 hi by unfold rsB; rw [decide_eq_false (fun e => by rw [e] at hl; exact hn hl.symm)]; rfl]
    have R := Lib.hid (refRis_any A n c xs 1 hi w h)
    clear h hl hn
    go_enter Tryz.func115, Tryz.ntmps115
    go_wp2_with (go_at_call 171; (with_reducible refine R.out.mono ?_); rintro e w1 ⟨rfl, hd⟩)
    go_ret
    exact ⟨rfl, hd⟩
/-- has a port a VLAN? -/
def mbrB (p : PortV) (v : Int) : Bool := decide (v ≠ 0) && (decide (p.native = v) || memB p.tagged v)
set_option maxRecDepth 20000 in
theorem rmember_any (p : PortV) (s : Sl3) (v : Int) (w : World) (F : Nat → Prop) (hF : ∀ b, F b → b < w.heap.size) (h : RSl (Rdr.int .i64) w F s.A s.n s.c p.tagged) : Calls Tryz.prog 35 #[.agg (portC p s).toArray, .int .i64 v] w fun e w' => e = .returned (.bool (mbrB p v)) ∧ Below w.heap.size w w' := by
  have IN := Lib.hid (fun (w' : World) (hb : Below w.heap.size w w') => rin_any s.A s.n s.c p.tagged v w' (isl_rsl (h.below hF hb)))
  unfold portC mbrB
  by_cases h0 : v = 0
  · have e : (decide (v ≠ 0) && (decide (p.native = v) || memB p.tagged v)) = false := by rw [decide_eq_false (by simpa using h0)]; rfl
    rw [e]
    have ne : (v != 0) = false := by simpa using h0
    clear h h0 e
    go_enter Tryz.func35, Tryz.ntmps35
    go_wp2
    go_ret
    exact ⟨rfl, (Below.refl _ _).alloc (Nat.le_refl _) _⟩
  · have ne : (v != 0) = true := by simpa using h0
    by_cases h1 : p.native = v
    · have e : (decide (v ≠ 0) && (decide (p.native = v) || memB p.tagged v)) = true := by rw [decide_eq_true h0, decide_eq_true h1]; rfl
      rw [e]
      have ne2 : (p.native == v) = true := by simpa using h1
      clear h h0 e h1
      go_enter Tryz.func35, Tryz.ntmps35
      go_wp2
      go_ret
      exact ⟨rfl, (Below.refl _ _).alloc (Nat.le_refl _) _⟩
    · have e : (decide (v ≠ 0) && (decide (p.native = v) || memB p.tagged v)) = memB p.tagged v := by rw [decide_eq_true h0, decide_eq_false h1]; rfl
      rw [e]
      have ne2 : (p.native == v) = false := by simpa using h1
      generalize memB p.tagged v = V at *
      clear h h0 e h1
      go_enter Tryz.func35, Tryz.ntmps35
      go_wp2_with (go_at_call 108; (with_reducible refine (IN.out _ ((Below.refl _ _).alloc (Nat.le_refl _) _)).mono ?_); rintro e w1 ⟨rfl, rfl⟩)
      go_ret
      exact ⟨rfl, (Below.refl _ _).alloc (Nat.le_refl _) _⟩
/-- the first domain of a device and a VLAN, from number k on -/
def atK : List DomV → Int → Int → Nat → Int
  | [], _, _, _ => -1
  | d :: r, dev, v, k => if d.dev = dev ∧ d.vlan = v then (k : Int) else atK r dev v (k + 1)
def atF (N : NV) (dev v : Int) : Int := atK N.domains dev v 0
theorem atK_at {xs : List DomV} {k : Nat} (h : k < xs.length) (dev v : Int) : atK (xs.drop k) dev v k = if (xs.getD k DomV.zero).dev = dev ∧ (xs.getD k DomV.zero).vlan = v then (k : Int) else atK (xs.drop (k + 1)) dev v (k + 1) := by
  rw [List.drop_eq_getElem_cons h, atK]
  simp [List.getD, h]
set_option maxRecDepth 20000 in
set_option maxHeartbeats 2000000 in
theorem rat_any (N : NV) (S : NSl3) (dev v : Int) (w : World) (h : NRead w (allB w) N S) : Calls Tryz.prog 34 #[netV S, .int .i64 dev, .int .i64 v] w fun e w' => e = .returned (.int .i64 (atF N dev v)) ∧ Below w.heap.size w w' := by
  have H := Lib.hid h.dm
  have hle := h.dm.le
  have hcap := h.dm.cap
  have HL := Lib.hid h.dm.len
  have E := Lib.hid (show atF N dev v = atK (N.domains.drop 0) dev v 0 from rfl)
  generalize atF N dev v = V at *
  have NB := Lib.hid (NBox.new w S 31)
  clear h
  unfold netV
  go_enter Tryz.func34, Tryz.ntmps34
  go_wp2
  obtain ⟨w1, hw1⟩ : ∃ w1, w.alloc (.cells (nA S) 31) = w1 := ⟨_, rfl⟩
  have B1 := Lib.hid (show Below w.heap.size w w1 by rw [← hw1]; exact (Below.refl _ _).alloc (Nat.le_refl _) _)
  rw [hw1] at NB ⊢
  clear hw1
  have c3 := NB.out.c3
  go_loopw [7] (fun i wr => ∃ k : Nat, i = .int .i64 k ∧ k ≤ S.dm.n ∧ wr = w1 ∧ V = atK (N.domains.drop k) dev v k) (fun i _ => match i with | .int _ y => (S.dm.n - y).toNat | _ => 0)
  case atStart => exact ⟨0, rfl, by omega, rfl, E.out⟩
  case round =>
    obtain ⟨k, rfl, hk, hwr, hv⟩ := hrel
    subst hwr
    have HV := Lib.hid hv
    clear hv
    by_cases hlt : k < S.dm.n
    · obtain ⟨b0, o0, vs, e0, _, hb0, ⟨s, rfl, _⟩, r0⟩ := rsl_at H.out k hlt DomV.zero
      have hk2 : k < N.domains.length := by rw [HL.out]; exact hlt
      have AT := Lib.hid (atK_at hk2 dev v)
      generalize N.domains.getD k DomV.zero = D at *
      have R1 := rangeAt_keep r0 (B1.out.block b0 hb0)
      have d0 := R1 0 _ rfl
      have d1 := R1 1 _ rfl
      simp only [Nat.add_zero] at d0
      rw [show o0 + k * domR.n = o0 + k * 6 from rfl] at d0 d1
      have lt2 : (k : Int) < (S.dm.n : Int) := by omega
      rw [e0] at c3 ⊢
      clear r0 R1 hk2
      by_cases hd : D.dev = dev
      · have x1 : (D.dev == dev) = true := by simpa using hd
        by_cases hv2 : D.vlan = v
        · have x2 : (D.vlan == v) = true := by simpa using hv2
          have EV := Lib.hid (show V = (k : Int) by rw [HV.out, AT.out, if_pos ⟨hd, hv2⟩])
          clear hd hv2
          go_wp2
          go_ret
          exact ⟨by rw [EV.out]; rfl, B1.out⟩
        · have x2 : (D.vlan == v) = false := by simpa using hv2
          have EV := Lib.hid (show V = atK (N.domains.drop (k + 1)) dev v (k + 1) by rw [HV.out, AT.out, if_neg (by intro g; exact hv2 g.2)])
          go_wp2
          go_roundw
          case rel => exact ⟨k + 1, by simp, by omega, (by first | rfl | trivial), EV.out⟩
          case measure => simp only []; omega
      · have x1 : (D.dev == dev) = false := by simpa using hd
        have EV := Lib.hid (show V = atK (N.domains.drop (k + 1)) dev v (k + 1) by rw [HV.out, AT.out, if_neg (by intro g; exact hd g.1)])
        go_wp2
        go_roundw
        case rel => exact ⟨k + 1, by simp, by omega, (by first | rfl | trivial), EV.out⟩
        case measure => simp only []; omega
    · have lt2 : ¬ (k : Int) < (S.dm.n : Int) := by omega
      have EV := Lib.hid (show V = -1 by rw [HV.out, List.drop_of_length_le (by rw [HL.out]; omega)]; rfl)
      go_wp2
      go_ret
      exact ⟨by rw [EV.out]; rfl, B1.out⟩
end Go.Proofs.YtkpbbfehglihlaaGreatDoor

/- A region that draws its order and ends in a forced tail ('f(g(x), h(y))': calls in whatever order, then what takes their results): the operations ahead of the tail walked once, in the text's order, as by XSeq; the tail as a plain list. -/
namespace Go.Proofs.YtkpbbfehglihlaaGreatDoor
open Go

section
variable {P : Program} {ops : Array Oper} {Q : Exit → Act → World → Prop} {md : Region.Mode} {S : World → Prop} {n : Nat} {L : Array Bool → Act → Prop}

/-- the operations ahead of number n are taken one by one; each may be taken first -/
def DerT (P : Program) (md : Region.Mode) (ops : Array Oper) (S : World → Prop) (n : Nat) (L : Array Bool → Act → Prop) : Nat → Array Bool → Act → Prop
  | 0, listed, a => L listed a
  | f + 1, listed, a => ∃ i oi v, ops[i]? = some oi ∧ i < n ∧ Region.free md ops listed i = true ∧ i ∈ Region.ready md ops listed ∧ StepS P ops S oi v a ∧ DerT P md ops S n L f (listed.setIfInBounds i true) (a.put oi.dst v)
theorem DerT.swap (hsel : ∀ (j : Nat) (o : Oper) cs b, ops[j]? = some o → o.op ≠ .select cs b) (hdone : ∀ listed a, L listed a → ∀ j ∈ Region.ready md ops listed, n ≤ j) : ∀ (fuel : Nat) (listed : Array Bool) (a : Act), DerT P md ops S n L (fuel + 1) listed a →
    ∀ (j : Nat) (oj : Oper), ops[j]? = some oj → j < n → j ∈ Region.ready md ops listed → ∃ v, StepS P ops S oj v a ∧ DerT P md ops S n L fuel (listed.setIfInBounds j true) (a.put oj.dst v) := by
  intro fuel
  induction fuel with
  | zero =>
    intro listed a D j oj hoj hjn hj
    obtain ⟨i, oi, v, hi, hin, hf, hr, hy, D'⟩ := D
    by_cases hij : j = i
    · subst hij
      rw [hi] at hoj
      cases hoj
      exact ⟨v, hy, D'⟩
    · have := hdone _ _ D' j (ready_mono hj hij)
      omega
  | succ fuel ih =>
    intro listed a D j oj hoj hjn hj
    obtain ⟨i, oi, v, hi, hin, hf, hr, hy, D'⟩ := D
    by_cases hij : j = i
    · subst hij
      rw [hi] at hoj
      cases hoj
      exact ⟨v, hy, D'⟩
    · obtain ⟨u, hyj, D2⟩ := ih _ _ D' j oj hoj hjn (ready_mono hj hij)
      obtain ⟨hjun, oj2, hoj2, hall⟩ := mem_ready.1 hj
      rw [hoj] at hoj2
      cases hoj2
      have hnot : ∀ e ∈ oj.after, Region.binds md e = true → e.on ≠ i := fun e he hb heq => by
        have h1 := hall e he hb
        have h0 := (mem_ready.1 hr).1
        rw [heq] at h1
        rcases Nat.lt_or_ge i listed.size with h' | h'
        · simp [h'] at h0 h1; rw [h0] at h1; cases h1
        · simp [Array.getElem?_eq_none h'] at h1
      obtain ⟨h1, h2, h3⟩ := Oper.apart_spec (Region.free_spec hi hf j oj hoj hij hjun hnot)
      refine ⟨u, (StepS.of_put (hsel j oj · · hoj) h1).1 hyj, i, oi, v, hi, hin, free_more hf, ready_mono hr (Ne.symm hij), (StepS.of_put (hsel i oi · · hi) h3).2 hy, ?_⟩
      rw [Array.setIfInBounds_comm _ _ hij, ← Act.put_comm a v u h2]
      exact D2
theorem DerT.any {g : Nat} (hsel : ∀ (j : Nat) (o : Oper) cs b, ops[j]? = some o → o.op ≠ .select cs b) (hs : Region.sinkB md ops n = true) (hc : Region.chainB md ops n = true) (hn : n < ops.size) (hdone : ∀ listed a, L listed a → ∀ j ∈ Region.ready md ops listed, n ≤ j) (hL : ∀ listed a, L listed a → ∀ w, S w → wpAny P md ops Q g listed a w) :
    ∀ (f : Nat) (listed : Array Bool) (a : Act), HeadInv md ops n listed → DerT P md ops S n L f listed a → ∀ w, S w → wpAny P md ops Q (f + g) listed a w := by
  intro f
  induction f with
  | zero => intro listed a _ D w hS; rw [Nat.zero_add]; exact hL _ _ D w hS
  | succ f ih =>
    intro listed a inv D w hS
    rw [show f + 1 + g = (f + g) + 1 by omega]
    have D0 := D
    obtain ⟨i, oi, v, hi, hin, hf, hr, hy, D'⟩ := D0
    refine ⟨fun h => (by rw [h] at hr; cases hr), fun j hj => ?_⟩
    have hjn : j < n := by
      rcases Nat.lt_or_ge j n with h | h
      · exact h
      · exact absurd hj (tail_waits hs hc hn inv _ i rfl hin (mem_ready.1 hr).1 j h)
    obtain ⟨_, oj, hoj, _⟩ := mem_ready.1 hj
    obtain ⟨u, hyj, D2⟩ := DerT.swap hsel hdone f listed a D j oj hoj hjn hj
    exact hyj.wpOp hoj hS (fun w' hS' => ih _ _ (inv.set hj hjn) D2 w' hS')
/-- the operations ahead of the tail, in the text's order; then the tail -/
def SeqT (P : Program) (ops : Array Oper) (Q : Exit → Act → World → Prop) (S : World → Prop) (tail : List Oper) : List Oper → Act → Prop
  | [], a => ∀ w, S w → wpList P ops Q tail a w
  | o :: rest, a => ∃ v, StepS P ops S o v a ∧ SeqT P ops Q S tail rest (a.put o.dst v)
section
variable {tail : List Oper}
theorem SeqT.run {o : Oper} {rest : List Oper} {a : Act} (v : Value) (hw : Region.wanted o (yielded ops a.tmps) = true) (hr : ∀ w, S w → StepRun P S v ((execOp a.eval o).run P w)) (h : SeqT P ops Q S tail rest (a.put o.dst v)) :
    SeqT P ops Q S tail (o :: rest) a := ⟨v, .inl ⟨hw, hr⟩, h⟩
theorem SeqT.pass {o : Oper} {rest : List Oper} {a : Act} (hw : Region.wanted o (yielded ops a.tmps) = false) (h : SeqT P ops Q S tail rest (a.put o.dst undef)) :
    SeqT P ops Q S tail (o :: rest) a := ⟨undef, .inr ⟨hw, rfl⟩, h⟩
theorem SeqT.last {a : Act} (h : ∀ w, S w → wpList P ops Q tail a w) : SeqT P ops Q S tail [] a := h
theorem SeqT.der {g : Nat} : ∀ (l : List Oper) (k : Nat) (listed : Array Bool) (a : Act), (∀ j, j < l.length → l[j]? = ops[k + j]?) → k + l.length = n →
    Region.lexHead md ops g l.length k listed = true → SeqT P ops Q S tail l a →
    DerT P md ops S n (fun listed' a' => Region.seqB md ops g n listed' = true ∧ ∀ w, S w → wpList P ops Q tail a' w) l.length listed a
  | [], k, listed, a, _, hk, hB, h => by
    have : k = n := by simpa using hk
    subst this
    exact ⟨by simpa [Region.lexHead] using hB, h⟩
  | o :: l, k, listed, a, hl, hk, hB, h => by
    have h0 : ops[k]? = some o := by simpa using (hl 0 (by simp)).symm
    simp only [List.length_cons, Region.lexHead, Bool.and_eq_true] at hB
    obtain ⟨⟨hr, hf⟩, hB'⟩ := hB
    obtain ⟨v, hy, hK⟩ := h
    exact ⟨k, o, v, h0, by simp only [List.length_cons] at hk; omega, hf, by simpa using hr, hy,
      SeqT.der l (k + 1) _ _ (fun j hj => by have := hl (j + 1) (by simp; omega); simpa [Nat.add_assoc, Nat.add_comm 1 j] using this) (by simp only [List.length_cons] at hk; omega) hB' hK⟩
end
theorem wp_region_tail {l : List Oper} {id : Nat} {a : Act} {w : World} (S : World → Prop) (n : Nat) (hm : P.follows .mixedOrders = true) (hB : Region.lexTailB .any l.toArray n = true) (hS : S w.drew) (h : SeqT P l.toArray Q S (l.drop n) (l.take n) a) : (Code.region id l.toArray true).wp P Q a w := by
  simp only [Region.lexTailB, Bool.and_eq_true, decide_eq_true_eq] at hB
  obtain ⟨⟨⟨⟨hsel, hn⟩, hs⟩, hc⟩, hlex⟩ := hB
  have hn' : n < l.length := by simpa using hn
  have htl : (l.take n).length = n := by simp; omega
  have hdl : (l.drop n).length = l.toArray.size - n := by simp
  have inv0 : HeadInv .any l.toArray n (Array.replicate l.toArray.size false) :=
    ⟨by simp, fun j oj _ hl => (by rw [getD_replicate_false] at hl; cases hl), fun t _ ht => getD_in (by simpa using ht) (getD_replicate_false _ _)⟩
  have D := SeqT.der (md := .any) (g := l.toArray.size - n) (n := n) (l.take n) 0 _ a (fun j hj => by
    have hj' : j < n := by rw [htl] at hj; exact hj
    simp [hj']) (by simpa using htl) (by rw [htl]; exact hlex) h
  refine wp_region_any hm ?_
  have := DerT.any (Q := Q) (g := l.toArray.size - n) (Region.noSelect_spec hsel) hs hc hn (fun listed' a' hL => seqB_ready hL.1) (fun listed a' hL w' hS' => by
    have := wpAny_of_seq (md := .any) (Q' := Q) (l.drop n) n listed a' w' (fun j => by simp [List.getElem?_drop]) (by rw [hdl]; exact hL.1) (hL.2 w' hS')
    rwa [hdl] at this) _ _ _ inv0 D w.drew hS
  rw [htl, show n + (l.toArray.size - n) = l.toArray.size by omega] at this
  exact this
end
end Go.Proofs.YtkpbbfehglihlaaGreatDoor

