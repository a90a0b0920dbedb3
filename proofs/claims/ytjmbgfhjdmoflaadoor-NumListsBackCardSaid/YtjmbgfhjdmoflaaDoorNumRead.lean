/- The contracts of num.Read and of palingref03.Read: which number a text is, or that it is none. -/
import Derived.Test.YtjmbgfhjdmoflaaDoorItoa
import Derived.Test.YtjmbgfhjdmoflaaDoorRefDigits
import Derived.Test.YtjmbgfhjdmoflaaDoorNumber
namespace Go.Proofs.YtjmbgfhjdmoflaaDoor
open Go.RowKit
open Go.Lib (decDigits itoa atoiAll)

def nV (l : List UInt8) (lo hi : Int) : Int := (nF l lo hi).getD 0
def nB (l : List UInt8) (lo hi : Int) : Bool := (nF l lo hi).isSome
theorem n_no {l : List UInt8} {lo hi : Int} (h : nF l lo hi = none) : nV l lo hi = 0 ∧ nB l lo hi = false := by unfold nV nB; rw [h]; exact ⟨rfl, rfl⟩
theorem n_yes {l : List UInt8} {lo hi n : Int} (h : nF l lo hi = some n) : nV l lo hi = n ∧ nB l lo hi = true := by unfold nV nB; rw [h]; exact ⟨rfl, rfl⟩
theorem nF_long {l : List UInt8} {lo hi : Int} (h : 10 < (trimM l).length) : nF l lo hi = none := nF_none_len (.inr h)
theorem nF_bad {l : List UInt8} {lo hi : Int} (h : ∀ n, atoiAll l ≠ .ok n) : nF l lo hi = none := by
  unfold nF
  split
  · rfl
  · cases hx : atoiAll l with
    | ok n => exact absurd hx (h n)
    | _ =>
               rfl
theorem nF_ok {l : List UInt8} {lo hi n : Int} (h : ¬ 10 < (trimM l).length) (ha : atoiAll l = .ok n) : nF l lo hi = if lo ≤ n ∧ n ≤ hi ∧ itoa n = l then some n else none := by
  unfold nF
  rw [if_neg h, ha]
theorem atoi_short_cases (l : List UInt8) (h : l.length ≤ 18) : (∃ n, atoiAll l = .ok n) ∨ atoiAll l = .syntax := by
  rw [Lib.atoiAll_short l h]
  cases hx : Lib.atoi l with
  | some n => exact .inl ⟨n, rfl⟩
  | none => exact .inr rfl
theorem lib_trim (l : List UInt8) : Lib.trimPrefix l [45] = trimM l := by
  unfold Lib.trimPrefix Lib.hasPrefix trimM
  cases l with
  | nil => rfl
  | cons c r =>
    by_cases h : c = 45
    · subst h; simp [List.isPrefixOf]
    · have h2 : ¬ (45 : UInt8) = c := fun e => h e.symm
      simp [List.isPrefixOf, h, h2]
theorem trim_any (l : List UInt8) (w : World) : Calls Tryd.prog 26 #[.string (str l), .string ⟨#[45]⟩] w fun e w' => e = .returned (.string (str (trimM l))) ∧ w = w' := by
  refine (Tryd.strings_TrimPrefix (str l) ⟨#[45]⟩ w).mono ?_
  rintro e w' ⟨rfl, rfl⟩
  refine ⟨?_, rfl⟩
  rw [show (str l).data.toList = l by simp, show (⟨#[45]⟩ : ByteArray).data.toList = [45] from rfl, lib_trim]
theorem atoi_ok (l : List UInt8) (hs : l.length ≤ 18) (n : Int) (h : atoiAll l = .ok n) (w : World) : Calls Tryd.prog 27 #[.string (str l)] w fun e w' => e = .returned (.tuple #[.int .i64 n, .nilIface]) ∧ Below w.heap.size w w' := by
  refine (Tryd.strconv_Atoi_ok (str l) (by rw [str_size]; omega) n (by rw [show (str l).data.toList = l by simp]; exact h) w).mono ?_
  rintro e w' ⟨rfl, hw⟩
  refine ⟨rfl, ?_⟩
  rcases hw with rfl | ⟨t, rfl⟩
  · exact Below.refl _ _
  · exact Lib.bytesWorld_below _ _ _
theorem atoi_no (l : List UInt8) (hs : l.length ≤ 18) (h : atoiAll l = .syntax) (w : World) (hl : Lds w) : Calls Tryd.prog 27 #[.string (str l)] w fun e w' => ∃ N, e = .returned (.tuple #[.int .i64 0, .iface 84 (.pointer (some ⟨N, 0, none⟩))]) ∧ Below w.heap.size w w' := by
  obtain ⟨_, tp, p, hv⟩ := hl
  refine (Tryd.strconv_Atoi_syntax_var (str l) (by rw [str_size]; omega) (by rw [show (str l).data.toList = l by simp]; exact h) tp p w hv).mono ?_
  rintro e w' ⟨N, rfl, _, _, hb⟩
  exact ⟨N, rfl, hb⟩

set_option maxRecDepth 100000 in
set_option maxHeartbeats 1000000 in
theorem numRead_any (l : List UInt8) (lo hi : Int) (w : World) (hs : l.length ≤ maxLen) (hl : Lds w) :
    Calls Tryd.prog 8 #[.string (str l), .int .i64 lo, .int .i64 hi] w fun e w' => e = .returned (.tuple #[.int .i64 (nV l lo hi), .bool (nB l lo hi)]) ∧ Below w.heap.size w w' := by
  unfold maxLen at hs
  have HL := Lib.hid hl
  clear hl
  have htl := trim_len l
  have htle := trim_le l
  by_cases h10 : 10 < (trimM l).length
  · have E := Lib.hid (n_no (nF_long (lo := lo) (hi := hi) h10))
    go_enter Tryd.func8, Tryd.ntmps8
    go_wp2_with (go_at_call 26; refine (trim_any l _).mono ?_; rintro e w' ⟨rfl, rfl⟩)
    go_ret2
    exact ⟨by rw [E.out.1, E.out.2]; rfl, Below.refl _ _⟩
  · have hl18 : l.length ≤ 18 := by omega
    rcases atoi_short_cases l hl18 with ⟨n, ha⟩ | ha
    · obtain ⟨b0, b1⟩ := Lib.atoiAll_bounds ha
      have F := Lib.hid (nF_ok (lo := lo) (hi := hi) h10 ha)
      have HA := Lib.hid ha
      clear ha
      have hil := itoa_len n b0 b1
      by_cases c1 : n < lo
      · have E := Lib.hid (n_no (show nF l lo hi = none by rw [F.out, if_neg (by omega)]))
        go_enter Tryd.func8, Tryd.ntmps8
        go_wp2_with (first
          | (go_at_call 26; refine (trim_any l _).mono ?_; rintro e w' ⟨rfl, rfl⟩)
          | (go_at_call 27; refine (atoi_ok l hl18 n HA.out _).mono ?_; rintro e w1 ⟨rfl, hb1⟩))
        go_ret2
        exact ⟨by rw [E.out.1, E.out.2]; rfl, hb1⟩
      by_cases c2 : hi < n
      · have E := Lib.hid (n_no (show nF l lo hi = none by rw [F.out, if_neg (by omega)]))
        go_enter Tryd.func8, Tryd.ntmps8
        go_wp2_with (first
          | (go_at_call 26; refine (trim_any l _).mono ?_; rintro e w' ⟨rfl, rfl⟩)
          | (go_at_call 27; refine (atoi_ok l hl18 n HA.out _).mono ?_; rintro e w1 ⟨rfl, hb1⟩))
        go_ret2
        exact ⟨by rw [E.out.1, E.out.2]; rfl, hb1⟩
      by_cases c3 : itoa n = l
      · have E := Lib.hid (n_yes (show nF l lo hi = some n by rw [F.out, if_pos ⟨by omega, by omega, c3⟩]))
        have t1 : (itoa n == l) = true := by simpa using c3
        have t2 : (itoa n != l) = false := by simpa using c3
        clear c3
        go_enter Tryd.func8, Tryd.ntmps8
        go_wp2_with (first
          | (go_at_call 26; refine (trim_any l _).mono ?_; rintro e w' ⟨rfl, rfl⟩)
          | (go_at_call 27; refine (atoi_ok l hl18 n HA.out _).mono ?_; rintro e w1 ⟨rfl, hb1⟩)
          | (go_at_call 10; refine (numText_any n b0 b1 _ (HL.out.below hb1)).mono ?_; rintro e w2 ⟨rfl, hb2⟩))
        go_ret2
        exact ⟨by rw [E.out.1, E.out.2]; rfl, trans_below hb1 hb2⟩
      · have E := Lib.hid (n_no (show nF l lo hi = none by rw [F.out, if_neg (fun h => c3 h.2.2)]))
        have t1 : (itoa n == l) = false := by simpa using c3
        have t2 : (itoa n != l) = true := by simpa using c3
        clear c3
        go_enter Tryd.func8, Tryd.ntmps8
        go_wp2_with (first
          | (go_at_call 26; refine (trim_any l _).mono ?_; rintro e w' ⟨rfl, rfl⟩)
          | (go_at_call 27; refine (atoi_ok l hl18 n HA.out _).mono ?_; rintro e w1 ⟨rfl, hb1⟩)
          | (go_at_call 10; refine (numText_any n b0 b1 _ (HL.out.below hb1)).mono ?_; rintro e w2 ⟨rfl, hb2⟩))
        go_ret2
        exact ⟨by rw [E.out.1, E.out.2]; rfl, trans_below hb1 hb2⟩
    · have E := Lib.hid (n_no (nF_bad (l := l) (lo := lo) (hi := hi) (fun n h => by rw [ha] at h; cases h)))
      have HA := Lib.hid ha
      clear ha
      go_enter Tryd.func8, Tryd.ntmps8
      go_wp2_with (first
        | (go_at_call 26; refine (trim_any l _).mono ?_; rintro e w' ⟨rfl, rfl⟩)
        | (go_at_call 27; refine (atoi_no l hl18 HA.out _ HL.out).mono ?_; rintro e w1 ⟨N, rfl, hb1⟩))
      go_ret2
      exact ⟨by rw [E.out.1, E.out.2]; rfl, hb1⟩
end Go.Proofs.YtjmbgfhjdmoflaaDoor
