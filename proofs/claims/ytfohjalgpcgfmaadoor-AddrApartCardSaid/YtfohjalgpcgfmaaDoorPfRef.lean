/- The contracts of palingref02's functions on prefixes: First, Last, Has, Within. -/
import Derived.Test.YtfohjalgpcgfmaaDoorPfWithin
namespace Go.Proofs.YtfohjalgpcgfmaaDoor
open Go.RowKit

theorem refFirst_no (A B : Int) (hr : RT B = false) (w : World) : Calls Tryd.prog 19 #[.agg #[.int .u32 A, .int .i64 B]] w fun e w' => e = .returned (.int .u32 0) ∧ Below w.heap.size w w' := by
  go_enter Tryd.func19, Tryd.ntmps19
  go_wp2_with (go_at_call 17; refine (refRight_is A B false hr _).mono ?_; rintro e w1 ⟨rfl, hb1⟩)
  go_ret
  exact ⟨rfl, one_below hb1⟩
theorem wrap32 (x : Nat) (h : x < 4294967296) : IntKind.u32.wrap (x : Int) = (x : Int) := by
  simp only [IntKind.wrap, IntKind.bits, IntKind.signed]
  have : (x : Int) % 2 ^ 32 = (x : Int) := Int.emod_eq_of_lt (by omega) (by omega)
  simpa using this
set_option maxHeartbeats 1000000 in
theorem refFirst_yes (A b : Nat) (hA : A < 4294967296) (hb : b ≤ 32) (w : World) : Calls Tryd.prog 19 #[.agg #[.int .u32 (A : Int), .int .i64 (b : Int)]] w fun e w' => e = .returned (.int .u32 (fsN A b : Nat)) ∧ Below w.heap.size w w' := by
  have hr : RT (b : Int) = true := by rw [RT_iff]; omega
  have hsz := sz_le b
  have hsp := sz_pos b
  have hq : A / sz b ≤ A := Nat.div_le_self _ _
  have hf : fsN A b ≤ A := fsN_le A b
  obtain ⟨q, hqe⟩ : ∃ q : Nat, q = A / sz b := ⟨_, rfl⟩
  have q1 : IntKind.i64.wrap ((A : Int) / ((sz b : Nat) : Int)) = (q : Int) := by
    rw [← Int.natCast_ediv, ← hqe]
    exact IntWalk.i64_in _ (by omega)
  have q2 : IntKind.i64.wrap ((q : Int) * ((sz b : Nat) : Int)) = ((fsN A b : Nat) : Int) := by
    rw [← Int.natCast_mul, hqe]
    exact IntWalk.i64_in _ (by unfold fsN at hf; omega)
  have q3 : IntKind.u32.wrap ((fsN A b : Nat) : Int) = ((fsN A b : Nat) : Int) := wrap32 _ (by omega)
  have q0 : IntKind.i64.wrap (A : Int) = (A : Int) := IntWalk.i64_in _ (by omega)
  have hs1 : (1 : Int) ≤ ((sz b : Nat) : Int) := by omega
  have hs0 : sz b ≠ 0 := by omega
  clear hq hf hqe
  go_enter Tryd.func19, Tryd.ntmps19
  go_wp2_with (go_at_call 17; refine (refRight_is A b true hr _).mono ?_; rintro e w1 ⟨rfl, hb1⟩; obtain ⟨hc0, hc1, hB1, hl1⟩ := boxed_first hb1)
  go_region_held3 (fun w' => w'.cell? ⟨w.heap.size, 0, none⟩ = some (.int .u32 (A : Int)) ∧ w'.cell? ⟨w.heap.size, 1, none⟩ = some (.int .i64 (b : Int)) ∧ Below w.heap.size w w' ∧ w.heap.size < w'.heap.size) (first | exact boxed_keep (by assumption) (by assumption) | exact boxed_drew hc0 hc1 hB1 hl1)
    (first | (go_at_call 34; refine (refSize_any A b hb _).mono ?_; rintro e w2 ⟨rfl, hb2⟩))
  all_goals
    go_wp2
    go_ret
    refine ⟨?_, (boxed_keep (by assumption) (boxed_keep (by assumption) (boxed_drew hc0 hc1 hB1 hl1))).2.2.1⟩
    rfl
theorem refLast_no (A B : Int) (hr : RT B = false) (w : World) : Calls Tryd.prog 21 #[.agg #[.int .u32 A, .int .i64 B]] w fun e w' => e = .returned (.int .u32 0) ∧ Below w.heap.size w w' := by
  go_enter Tryd.func21, Tryd.ntmps21
  go_wp2_with (go_at_call 17; refine (refRight_is A B false hr _).mono ?_; rintro e w1 ⟨rfl, hb1⟩)
  go_ret
  exact ⟨rfl, one_below hb1⟩
set_option maxHeartbeats 1000000 in
theorem refLast_yes (A b : Nat) (hA : A < 4294967296) (hb : b ≤ 32) (w : World) : Calls Tryd.prog 21 #[.agg #[.int .u32 (A : Int), .int .i64 (b : Int)]] w fun e w' => e = .returned (.int .u32 (lsN A b : Nat)) ∧ Below w.heap.size w w' := by
  have hr : RT (b : Int) = true := by rw [RT_iff]; omega
  have hsz := sz_le b
  have hsp := sz_pos b
  have hf : fsN A b ≤ A := fsN_le A b
  have hl := lsN_lt A b hA
  have hfl : lsN A b = fsN A b + (sz b - 1) := rfl
  have q1 : IntKind.i64.wrap (((fsN A b : Nat) : Int) + ((sz b : Nat) : Int)) = ((fsN A b : Nat) : Int) + ((sz b : Nat) : Int) := IntWalk.i64_in _ (by omega)
  have q2 : IntKind.i64.wrap (((fsN A b : Nat) : Int) + ((sz b : Nat) : Int) - 1) = ((lsN A b : Nat) : Int) := by
    rw [show ((fsN A b : Nat) : Int) + ((sz b : Nat) : Int) - 1 = ((lsN A b : Nat) : Int) by omega]
    exact IntWalk.i64_in _ (by omega)
  have q3 : IntKind.u32.wrap ((lsN A b : Nat) : Int) = ((lsN A b : Nat) : Int) := wrap32 _ hl
  have q0 : IntKind.i64.wrap ((fsN A b : Nat) : Int) = ((fsN A b : Nat) : Int) := IntWalk.i64_in _ (by omega)
  have HF := Lib.hid hfl
  clear hfl
  go_enter Tryd.func21, Tryd.ntmps21
  go_wp2_with (go_at_call 17; refine (refRight_is A b true hr _).mono ?_; rintro e w1 ⟨rfl, hb1⟩; obtain ⟨hc0, hc1, hB1, hl1⟩ := boxed_first hb1)
  go_region_held3 (fun w' => w'.cell? ⟨w.heap.size, 0, none⟩ = some (.int .u32 (A : Int)) ∧ w'.cell? ⟨w.heap.size, 1, none⟩ = some (.int .i64 (b : Int)) ∧ Below w.heap.size w w' ∧ w.heap.size < w'.heap.size) (first | exact boxed_keep (by assumption) (by assumption) | exact boxed_drew hc0 hc1 hB1 hl1)
    (first | (go_at_call 19; refine (refFirst_yes A b hA hb _).mono ?_; rintro e w2 ⟨rfl, hb2⟩) | (go_at_call 34; refine (refSize_any A b hb _).mono ?_; rintro e w3 ⟨rfl, hb3⟩))
  all_goals
    go_wp2
    go_ret
    refine ⟨?_, (boxed_keep (by assumption) (boxed_keep (by assumption) (boxed_drew hc0 hc1 hB1 hl1))).2.2.1⟩
    rfl

/-- between the least and the greatest: two tests -/
theorem HS_two (A b x : Nat) (hb : b ≤ 32) : HS (A : Int) (b : Int) (x : Int) = (decide (fsN A b ≤ x) && decide (x ≤ lsN A b)) := by
  have hr : RT (b : Int) = true := by rw [RT_iff]; omega
  unfold HS
  rw [hr, Bool.true_and, Bool.eq_iff_iff]
  simp only [Int.toNat_natCast, decide_eq_true_eq, Bool.and_eq_true]
  exact has_iff A b x
set_option maxHeartbeats 1000000 in
theorem refHas_any (A B x : Int) (hA0 : 0 ≤ A) (hA1 : A < 4294967296) (hx0 : 0 ≤ x) (hx1 : x < 4294967296) (w : World) : Calls Tryd.prog 23 #[.agg #[.int .u32 A, .int .i64 B], .int .u32 x] w fun e w' => e = .returned (.bool (HS A B x)) ∧ Below w.heap.size w w' := by
  cases hr : RT B with
  | false =>
    have e := Lib.hid (HS_no A B x hr)
    go_enter Tryd.func23, Tryd.ntmps23
    go_wp2_with (go_at_call 17; refine (refRight_is A B false hr _).mono ?_; rintro e w1 ⟨rfl, hb1⟩; obtain ⟨hc, hf⟩ := bcell hb1)
    go_ret
    exact ⟨by rw [e.out]; rfl, one_below hb1⟩
  | true =>
    obtain ⟨b, rfl, hb⟩ := RT_nat hr
    obtain ⟨a, rfl⟩ := Int.eq_ofNat_of_zero_le hA0
    obtain ⟨y, rfl⟩ := Int.eq_ofNat_of_zero_le hx0
    have ha : a < 4294967296 := by omega
    have E := Lib.hid (HS_two a b y hb)
    by_cases h1 : fsN a b ≤ y
    · by_cases h2 : y ≤ lsN a b
      · have F := Lib.hid (show HS (a : Int) (b : Int) (y : Int) = true by rw [E.out]; simp [h1, h2])
        have d1 : decide (fsN a b ≤ y) = true := by simpa using h1
        have d2 : decide (y ≤ lsN a b) = true := by simpa using h2
        clear h1 h2
        go_enter Tryd.func23, Tryd.ntmps23
        go_wp2_with (first
          | (go_at_call 17; refine (refRight_is a b true hr _).mono ?_; rintro e w1 ⟨rfl, hb1⟩; obtain ⟨hc, hf⟩ := bcell hb1; have hz1 : w.heap.size < w1.heap.size := by have := hb1.size; simp at this; omega)
          | (go_at_call 19; refine (refFirst_yes a b ha hb _).mono ?_; rintro e w2 ⟨rfl, hb2⟩; obtain ⟨hc2, hf2⟩ := bcell hb2)
          | (go_at_call 21; refine (refLast_yes a b ha hb _).mono ?_; rintro e w3 ⟨rfl, hb3⟩))
        go_ret
        exact ⟨by rw [F.out]; rfl, trans_below (trans_below (one_below hb1) hb2) hb3⟩
      · have F := Lib.hid (show HS (a : Int) (b : Int) (y : Int) = false by rw [E.out]; simp [h2])
        have d1 : decide (fsN a b ≤ y) = true := by simpa using h1
        have d2 : decide (y ≤ lsN a b) = false := by simpa using h2
        clear h1 h2
        go_enter Tryd.func23, Tryd.ntmps23
        go_wp2_with (first
          | (go_at_call 17; refine (refRight_is a b true hr _).mono ?_; rintro e w1 ⟨rfl, hb1⟩; obtain ⟨hc, hf⟩ := bcell hb1; have hz1 : w.heap.size < w1.heap.size := by have := hb1.size; simp at this; omega)
          | (go_at_call 19; refine (refFirst_yes a b ha hb _).mono ?_; rintro e w2 ⟨rfl, hb2⟩; obtain ⟨hc2, hf2⟩ := bcell hb2)
          | (go_at_call 21; refine (refLast_yes a b ha hb _).mono ?_; rintro e w3 ⟨rfl, hb3⟩))
        go_ret
        exact ⟨by rw [F.out]; rfl, trans_below (trans_below (one_below hb1) hb2) hb3⟩
    · have F := Lib.hid (show HS (a : Int) (b : Int) (y : Int) = false by rw [E.out]; simp [h1])
      have d1 : decide (fsN a b ≤ y) = false := by simpa using h1
      clear h1
      go_enter Tryd.func23, Tryd.ntmps23
      go_wp2_with (first
        | (go_at_call 17; refine (refRight_is a b true hr _).mono ?_; rintro e w1 ⟨rfl, hb1⟩; obtain ⟨hc, hf⟩ := bcell hb1; have hz1 : w.heap.size < w1.heap.size := by have := hb1.size; simp at this; omega)
        | (go_at_call 19; refine (refFirst_yes a b ha hb _).mono ?_; rintro e w2 ⟨rfl, hb2⟩))
      go_ret
      exact ⟨by rw [F.out]; rfl, trans_below (one_below hb1) hb2⟩
theorem refHas_is (A B x : Int) (hA0 : 0 ≤ A) (hA1 : A < 4294967296) (hx0 : 0 ≤ x) (hx1 : x < 4294967296) (v : Bool) (h : HS A B x = v) (w : World) : Calls Tryd.prog 23 #[.agg #[.int .u32 A, .int .i64 B], .int .u32 x] w fun e w' => e = .returned (.bool v) ∧ Below w.heap.size w w' := by
  have := refHas_any A B x hA0 hA1 hx0 hx1 w
  rw [h] at this
  exact this
theorem WI_r2 (A B A2 B2 : Int) (h : RT B2 = false) : WI A B A2 B2 = false := by simp [WI, HS, h]
set_option maxHeartbeats 1000000 in
theorem refWithin_any (A B A2 B2 : Int) (hA0 : 0 ≤ A) (hA1 : A < 4294967296) (hA20 : 0 ≤ A2) (hA21 : A2 < 4294967296) (w : World) :
    Calls Tryd.prog 25 #[.agg #[.int .u32 A, .int .i64 B], .agg #[.int .u32 A2, .int .i64 B2]] w fun e w' => e = .returned (.bool (WI A B A2 B2)) ∧ Below w.heap.size w w' := by
  cases hr : RT B with
  | false =>
    have e := Lib.hid (show WI A B A2 B2 = false by simp [WI, hr])
    go_enter Tryd.func25, Tryd.ntmps25
    go_wp2_with (go_at_call 17; refine (refRight_is A B false hr _).mono ?_; rintro e w1 ⟨rfl, hb1⟩; obtain ⟨hc, hf⟩ := bcell hb1)
    go_ret
    exact ⟨by rw [e.out]; rfl, two_below hb1⟩
  | true =>
    cases hr2 : RT B2 with
    | false =>
      have e := Lib.hid (WI_r2 A B A2 B2 hr2)
      go_enter Tryd.func25, Tryd.ntmps25
      go_wp2_with (first
        | (go_at_call 17; (with_reducible refine (refRight_is A B true hr _).mono ?_); rintro e w1 ⟨rfl, hb1⟩; obtain ⟨hc, hf⟩ := bcell hb1; have hz0 : w.heap.size < w1.heap.size := (by have := hb1.size; simp at this; omega); have hz1 : w.heap.size + 1 < w1.heap.size := (by have := hb1.size; simp at this; omega))
        | (go_at_call 17; (with_reducible refine (refRight_is A2 B2 false hr2 _).mono ?_); rintro e w2 ⟨rfl, hb2⟩))
      go_ret
      exact ⟨by rw [e.out]; rfl, trans_below (two_below hb1) hb2⟩
    | true =>
      by_cases hl : B2 ≤ B
      · cases hh : HS A2 B2 A with
        | false =>
          have e := Lib.hid (show WI A B A2 B2 = false by simp [WI, hh])
          go_enter Tryd.func25, Tryd.ntmps25
          go_wp2_with (first
            | (go_at_call 17; (with_reducible refine (refRight_is A B true hr _).mono ?_); rintro e w1 ⟨rfl, hb1⟩; obtain ⟨hc, hf⟩ := bcell hb1; have hz0 : w.heap.size < w1.heap.size := (by have := hb1.size; simp at this; omega); have hz1 : w.heap.size + 1 < w1.heap.size := (by have := hb1.size; simp at this; omega))
            | (go_at_call 17; (with_reducible refine (refRight_is A2 B2 true hr2 _).mono ?_); rintro e w2 ⟨rfl, hb2⟩; obtain ⟨hc2, hf2⟩ := bcell hb2)
            | (go_at_call 23; refine (refHas_is A2 B2 A hA20 hA21 hA0 hA1 false hh _).mono ?_; rintro e w3 ⟨rfl, hb3⟩))
          go_ret
          exact ⟨by rw [e.out]; rfl, trans_below (trans_below (two_below hb1) hb2) hb3⟩
        | true =>
          have e := Lib.hid (show WI A B A2 B2 = true by simp [WI, hh, hr, hl])
          go_enter Tryd.func25, Tryd.ntmps25
          go_wp2_with (first
            | (go_at_call 17; (with_reducible refine (refRight_is A B true hr _).mono ?_); rintro e w1 ⟨rfl, hb1⟩; obtain ⟨hc, hf⟩ := bcell hb1; have hz0 : w.heap.size < w1.heap.size := (by have := hb1.size; simp at this; omega); have hz1 : w.heap.size + 1 < w1.heap.size := (by have := hb1.size; simp at this; omega))
            | (go_at_call 17; (with_reducible refine (refRight_is A2 B2 true hr2 _).mono ?_); rintro e w2 ⟨rfl, hb2⟩; obtain ⟨hc2, hf2⟩ := bcell hb2)
            | (go_at_call 23; refine (refHas_is A2 B2 A hA20 hA21 hA0 hA1 true hh _).mono ?_; rintro e w3 ⟨rfl, hb3⟩))
          go_ret
          exact ⟨by rw [e.out]; rfl, trans_below (trans_below (two_below hb1) hb2) hb3⟩
      · have e := Lib.hid (show WI A B A2 B2 = false by simp [WI, hl])
        go_enter Tryd.func25, Tryd.ntmps25
        go_wp2_with (first
          | (go_at_call 17; (with_reducible refine (refRight_is A B true hr _).mono ?_); rintro e w1 ⟨rfl, hb1⟩; obtain ⟨hc, hf⟩ := bcell hb1; have hz0 : w.heap.size < w1.heap.size := (by have := hb1.size; simp at this; omega); have hz1 : w.heap.size + 1 < w1.heap.size := (by have := hb1.size; simp at this; omega))
          | (go_at_call 17; (with_reducible refine (refRight_is A2 B2 true hr2 _).mono ?_); rintro e w2 ⟨rfl, hb2⟩; obtain ⟨hc2, hf2⟩ := bcell hb2))
        go_ret
        exact ⟨by rw [e.out]; rfl, trans_below (two_below hb1) hb2⟩
end Go.Proofs.YtfohjalgpcgfmaaDoor
