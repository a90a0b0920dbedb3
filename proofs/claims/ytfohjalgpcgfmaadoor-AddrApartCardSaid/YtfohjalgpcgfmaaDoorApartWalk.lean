/- The walk of the statement AddrApart. -/
import Derived.Test.YtfohjalgpcgfmaaDoorTextsWalk2
namespace Go.Proofs.YtfohjalgpcgfmaaDoor
open Go.RowKit
open Go.Lib (decDigits byteCells)

theorem HS_iff (A B x : Int) (hr : RT B = true) : HS A B x = true ↔ x.toNat / sz B.toNat = A.toNat / sz B.toNat := by simp [HS, hr]
theorem HS_own (A B : Int) (hr : RT B = true) : HS A B A = true := (HS_iff A B A hr).2 rfl
theorem WI_iff (A B A2 B2 : Int) (hr : RT B = true) (hr2 : RT B2 = true) : WI A B A2 B2 = true ↔ B2 ≤ B ∧ A.toNat / sz B2.toNat = A2.toNat / sz B2.toNat := by
  simp [WI, hr, HS, hr2]
theorem within_has (A B A2 B2 x : Int) (hr : RT B = true) (hr2 : RT B2 = true) (hw : WI A B A2 B2 = true) (hp : HS A B x = true) : HS A2 B2 x = true := by
  obtain ⟨b, rfl, hb⟩ := RT_nat hr
  obtain ⟨c, rfl, hc⟩ := RT_nat hr2
  obtain ⟨h1, h2⟩ := (WI_iff _ _ _ _ hr hr2).1 hw
  have h3 := (HS_iff _ _ _ hr).1 hp
  rw [HS_iff _ _ _ hr2, ← h2]
  simp only [Int.toNat_natCast] at h2 h3 ⊢
  have hle : c ≤ b := by omega
  rw [div_more_pf _ c b hle hb, div_more_pf A.toNat c b hle hb, h3]
theorem both_within (A B A2 B2 x : Int) (hr : RT B = true) (hr2 : RT B2 = true) (hp : HS A B x = true) (hq : HS A2 B2 x = true) : WI A B A2 B2 = true ∨ WI A2 B2 A B = true := by
  obtain ⟨b, rfl, hb⟩ := RT_nat hr
  obtain ⟨c, rfl, hc⟩ := RT_nat hr2
  rw [WI_iff _ _ _ _ hr hr2, WI_iff _ _ _ _ hr2 hr]
  have h1 := (HS_iff _ _ _ hr).1 hp
  have h2 := (HS_iff _ _ _ hr2).1 hq
  simp only [Int.toNat_natCast] at h1 h2 ⊢
  rcases Nat.le_total c b with h | h
  · left
    refine ⟨by omega, ?_⟩
    rw [← h2, div_more_pf A.toNat c b h hb, ← h1, ← div_more_pf x.toNat c b h hb]
  · right
    refine ⟨by omega, ?_⟩
    rw [← h1, div_more_pf A2.toNat b c h hc, ← h2, ← div_more_pf x.toNat b c h hc]
theorem HS_between (A B x : Int) (hA0 : 0 ≤ A) (hx0 : 0 ≤ x) (hr : RT B = true) : HS A B x = (decide (FS A B ≤ x) && decide (x ≤ LS A B)) := by
  obtain ⟨b, rfl, hb⟩ := RT_nat hr
  obtain ⟨a, rfl⟩ := Int.eq_ofNat_of_zero_le hA0
  obtain ⟨y, rfl⟩ := Int.eq_ofNat_of_zero_le hx0
  rw [HS_two a b y hb, FS_yes a b hb, LS_yes a b hb]
  congr 1
  · rw [Bool.eq_iff_iff]; simp
  · rw [Bool.eq_iff_iff]; simp
theorem within_is (A B A2 B2 : Int) (hA0 : 0 ≤ A) (hA1 : A < 4294967296) (hA20 : 0 ≤ A2) (hA21 : A2 < 4294967296) (v : Bool) (h : WI A B A2 B2 = v) (w : World) :
    Calls Tryd.prog 24 #[.agg #[.int .u32 A, .int .i64 B], .agg #[.int .u32 A2, .int .i64 B2]] w fun e w' => e = .returned (.bool v) ∧ Below w.heap.size w w' := by
  have := within_any A B A2 B2 hA0 hA1 hA20 hA21 w
  rw [h] at this
  exact this
theorem apart_no1 (A B A2 B2 x : Int) (hr : RT B = false) (w : World) (htab : Lib.TabIs Tryd.prog w pow10 .u64 Lib.pow10Tab) :
    Calls Tryd.prog 6 #[.agg #[.int .u32 A, .int .i64 B], .agg #[.int .u32 A2, .int .i64 B2], .int .u32 x] w fun e w' => e = .returned (.bool true) ∧ Below w.heap.size w w' := by
  have HT := Lib.hid htab
  have t0 := Two.start w A B A2 B2 24
  have HB := Lib.hid t0.2.2.2.2.1
  clear htab t0
  go_enter Tryd.func6, Tryd.ntmps6
  go_wp2_with (first
    | (go_at_call 7; refine (works_any _ (tab_below HT.out HB.out)).mono ?_; rintro e w1 ⟨rfl, hb1⟩; obtain ⟨hc1, hf1⟩ := bcell hb1; have z1 : w.heap.size < w1.heap.size := (by have := hb1.size; simp at this; omega); have z11 : w.heap.size + 1 < w1.heap.size := (by have := hb1.size; simp at this; omega))
    | (go_at_call 16; refine (right_is A B false hr _).mono ?_; rintro e w2 ⟨rfl, hb2⟩))
  go_ret
  exact ⟨rfl, trans_below (two_below hb1) hb2⟩
theorem apart_no2 (A B A2 B2 x : Int) (hr : RT B = true) (hr2 : RT B2 = false) (w : World) (htab : Lib.TabIs Tryd.prog w pow10 .u64 Lib.pow10Tab) :
    Calls Tryd.prog 6 #[.agg #[.int .u32 A, .int .i64 B], .agg #[.int .u32 A2, .int .i64 B2], .int .u32 x] w fun e w' => e = .returned (.bool true) ∧ Below w.heap.size w w' := by
  have HT := Lib.hid htab
  have t0 := Two.start w A B A2 B2 24
  have HB := Lib.hid t0.2.2.2.2.1
  clear htab t0
  go_enter Tryd.func6, Tryd.ntmps6
  go_wp2_with (first
    | (go_at_call 7; refine (works_any _ (tab_below HT.out HB.out)).mono ?_; rintro e w1 ⟨rfl, hb1⟩; obtain ⟨hc1, hf1⟩ := bcell hb1; have z1 : w.heap.size < w1.heap.size := (by have := hb1.size; simp at this; omega); have z11 : w.heap.size + 1 < w1.heap.size := (by have := hb1.size; simp at this; omega))
    | (go_at_call 16; (with_reducible refine (right_is A B true hr _).mono ?_); rintro e w2 ⟨rfl, hb2⟩; obtain ⟨hc2, hf2⟩ := bcell hb2)
    | (go_at_call 16; (with_reducible refine (right_is A2 B2 false hr2 _).mono ?_); rintro e w3 ⟨rfl, hb3⟩))
  go_ret
  exact ⟨rfl, trans_below (trans_below (two_below hb1) hb2) hb3⟩

set_option maxRecDepth 100000 in
set_option maxHeartbeats 8000000 in
theorem apart_yes (A B A2 B2 x : Int) (hA0 : 0 ≤ A) (hA1 : A < 4294967296) (hA20 : 0 ≤ A2) (hA21 : A2 < 4294967296) (hx0 : 0 ≤ x) (hx1 : x < 4294967296) (hr : RT B = true) (hr2 : RT B2 = true)
    (P Q R T : Bool) (hp : HS A B x = P) (hq : HS A2 B2 x = Q) (hpq : WI A B A2 B2 = R) (hqp : WI A2 B2 A B = T) (c1 : P = true → Q = true → R = true ∨ T = true) (c2 : R = true → P = true → Q = true)
    (w : World) (htab : Lib.TabIs Tryd.prog w pow10 .u64 Lib.pow10Tab) :
    Calls Tryd.prog 6 #[.agg #[.int .u32 A, .int .i64 B], .agg #[.int .u32 A2, .int .i64 B2], .int .u32 x] w fun e w' => e = .returned (.bool true) ∧ Below w.heap.size w w' := by
  have HT := Lib.hid htab
  have t0 := Two.start w A B A2 B2 24
  have HB := Lib.hid t0.2.2.2.2.1
  have T0 := Lib.hid t0
  have own := HS_own A B hr
  have hbt := HS_between A B x hA0 hx0 hr
  rw [hp] at hbt
  clear htab t0
  have cases7 : (P = false ∧ ¬ FS A B ≤ x) ∨ (P = false ∧ FS A B ≤ x ∧ ¬ x ≤ LS A B) ∨ (P = true ∧ FS A B ≤ x ∧ x ≤ LS A B ∧ ((Q = false ∧ R = false) ∨ (Q = true ∧ R = true) ∨ (Q = true ∧ R = false ∧ T = true))) := by
    cases P with
    | false =>
      by_cases g1 : FS A B ≤ x
      · right; left
        refine ⟨rfl, g1, fun g2 => ?_⟩
        simp [g1, g2] at hbt
      · exact .inl ⟨rfl, g1⟩
    | true =>
      right; right
      have hb2 : FS A B ≤ x ∧ x ≤ LS A B := by simpa using hbt.symm
      refine ⟨rfl, hb2.1, hb2.2, ?_⟩
      cases Q with
      | false =>
        left
        refine ⟨rfl, ?_⟩
        cases R with
        | false => rfl
        | true => have := c2 rfl rfl; cases this
      | true =>
        right
        cases R with
        | true => exact .inl ⟨rfl, rfl⟩
        | false =>
          right
          refine ⟨rfl, rfl, ?_⟩
          rcases c1 rfl rfl with h | h
          · cases h
          · exact h
  clear c1 c2 hbt
  have casesR : R = true ∨ R = false := by cases R <;> simp
  rcases cases7 with ⟨rfl, g1⟩ | ⟨rfl, g1, g2⟩ | ⟨rfl, g1, g2, ⟨rfl, rfl⟩ | ⟨rfl, rfl⟩ | ⟨rfl, rfl, rfl⟩⟩
  all_goals
    (try (rcases casesR with rfl | rfl))
  all_goals
    (try clear casesR)
  all_goals
    (try (have d1 : decide (FS A B ≤ x) = true := by simpa using g1))
    (try (have d1 : decide (FS A B ≤ x) = false := by simpa using g1))
    (try (have d2 : decide (x ≤ LS A B) = true := by simpa using g2))
    (try (have d2 : decide (x ≤ LS A B) = false := by simpa using g2))
    (try clear g1)
    (try clear g2)
  all_goals
    go_enter Tryd.func6, Tryd.ntmps6
    go_wp2_with (first
      | (go_at_call 7; refine (works_any _ (tab_below HT.out HB.out)).mono ?_; rintro e w1 ⟨rfl, hb1⟩; obtain ⟨hc1, hf1⟩ := bcell hb1; have z1 : w.heap.size < w1.heap.size := (by have := hb1.size; simp at this; omega); have z11 : w.heap.size + 1 < w1.heap.size := (by have := hb1.size; simp at this; omega))
      | (go_at_call 16; (with_reducible refine (right_is A B true hr _).mono ?_); rintro e w2 ⟨rfl, hb2⟩; obtain ⟨hc2, hf2⟩ := bcell hb2; have z2 : w.heap.size < w2.heap.size := (by have := hb2.size; omega); have z12 : w.heap.size + 1 < w2.heap.size := (by have := hb2.size; omega))
      | (go_at_call 16; (with_reducible refine (right_is A2 B2 true hr2 _).mono ?_); rintro e w3 ⟨rfl, hb3⟩; obtain ⟨hc3, hf3⟩ := bcell hb3; have z3 : w.heap.size < w3.heap.size := (by have := hb3.size; omega); have z13 : w.heap.size + 1 < w3.heap.size := (by have := hb3.size; omega))
      | (go_at_call 22; (with_reducible refine (has_is A B x hA0 hA1 hx0 hx1 _ hp _).mono ?_); rintro e w4 ⟨rfl, hb4⟩; obtain ⟨hc4, hf4⟩ := bcell hb4; have z4 : w.heap.size < w4.heap.size := (by have := hb4.size; omega); have z14 : w.heap.size + 1 < w4.heap.size := (by have := hb4.size; omega); have t4 := Lib.hid ((((T0.out.keep hb1).keep hb2).keep hb3).keep hb4))
      | (go_at_call 22; (with_reducible refine (has_is A2 B2 x hA20 hA21 hx0 hx1 _ hq _).mono ?_); rintro e w5 ⟨rfl, hb5⟩; have t5 := Lib.hid (t4.out.keep hb5)))
    refine wp_region_text (Two w A B A2 B2) (by kernel_rfl) (by kernel_rfl) (by first | exact t5.out.drew | exact t4.out.drew) ?_
    repeat
      first
        | (refine Seq.pass rfl ?_; simp only [Act.put, List.setIfInBounds_toArray, List.set_cons_zero, List.set_cons_succ])
        | (refine Seq.run ?_ rfl (fun wx hx => ?_) ?_
           rotate_left
           · have hx2 := hx
             obtain ⟨h0, h1, h2, h3, hB, hl⟩ := hx2
             go_simp
             first
               | (refine StepRun.val ?_; exact hx)
               | (refine StepRun.call (v := .bool true) ?_; (with_reducible refine Calls.mono (has_is A B x hA0 hA1 hx0 hx1 true hp _) ?_); rintro e w' ⟨rfl, hb⟩; exact ⟨rfl, hx.keep hb⟩)
               | (refine StepRun.call (v := .bool true) ?_; (with_reducible refine Calls.mono (has_is A2 B2 x hA20 hA21 hx0 hx1 true hq _) ?_); rintro e w' ⟨rfl, hb⟩; exact ⟨rfl, hx.keep hb⟩)
               | (refine StepRun.call (v := .bool true) ?_; (with_reducible refine Calls.mono (within_is A B A2 B2 hA0 hA1 hA20 hA21 true hpq _) ?_); rintro e w' ⟨rfl, hb⟩; exact ⟨rfl, hx.keep hb⟩)
               | (refine StepRun.call (v := .bool true) ?_; (with_reducible refine Calls.mono (within_is A2 B2 A B hA20 hA21 hA0 hA1 true hqp _) ?_); rintro e w' ⟨rfl, hb⟩; exact ⟨rfl, hx.keep hb⟩)
               | (refine StepRun.call (v := .bool false) ?_; (with_reducible refine Calls.mono (has_is A B x hA0 hA1 hx0 hx1 false hp _) ?_); rintro e w' ⟨rfl, hb⟩; exact ⟨rfl, hx.keep hb⟩)
               | (refine StepRun.call (v := .bool false) ?_; (with_reducible refine Calls.mono (has_is A2 B2 x hA20 hA21 hx0 hx1 false hq _) ?_); rintro e w' ⟨rfl, hb⟩; exact ⟨rfl, hx.keep hb⟩)
               | (refine StepRun.call (v := .bool false) ?_; (with_reducible refine Calls.mono (within_is A B A2 B2 hA0 hA1 hA20 hA21 false hpq _) ?_); rintro e w' ⟨rfl, hb⟩; exact ⟨rfl, hx.keep hb⟩)
               | (refine StepRun.call (v := .bool false) ?_; (with_reducible refine Calls.mono (within_is A2 B2 A B hA20 hA21 hA0 hA1 false hqp _) ?_); rintro e w' ⟨rfl, hb⟩; exact ⟨rfl, hx.keep hb⟩)
               | (refine StepRun.call (v := .bool true) ?_; (with_reducible refine Calls.mono (has_is A B A hA0 hA1 hA0 hA1 true own _) ?_); rintro e w' ⟨rfl, hb⟩; exact ⟨rfl, hx.keep hb⟩)
               | (refine StepRun.call (v := .int .u32 (FS A B)) ?_; (with_reducible refine Calls.mono (first_all A B hA0 hA1 _) ?_); rintro e w' ⟨rfl, hb⟩; exact ⟨rfl, hx.keep hb⟩)
               | (refine StepRun.call (v := .int .u32 (LS A B)) ?_; (with_reducible refine Calls.mono (last_all A B hA0 hA1 _) ?_); rintro e w' ⟨rfl, hb⟩; exact ⟨rfl, hx.keep hb⟩)
           simp only [Act.put, List.setIfInBounds_toArray, List.set_cons_zero, List.set_cons_succ])
    refine Seq.last (fun wx hx => ?_)
    go_wp2
    go_ret
    exact ⟨rfl, hx.2.2.2.2.1⟩
theorem apart_walk (A B A2 B2 x : Int) (hA0 : 0 ≤ A) (hA1 : A < 4294967296) (hA20 : 0 ≤ A2) (hA21 : A2 < 4294967296) (hx0 : 0 ≤ x) (hx1 : x < 4294967296) (w : World) (htab : Lib.TabIs Tryd.prog w pow10 .u64 Lib.pow10Tab) :
    Calls Tryd.prog 6 #[.agg #[.int .u32 A, .int .i64 B], .agg #[.int .u32 A2, .int .i64 B2], .int .u32 x] w fun e w' => e = .returned (.bool true) ∧ Below w.heap.size w w' := by
  cases hr : RT B with
  | false => exact apart_no1 A B A2 B2 x hr w htab
  | true =>
    cases hr2 : RT B2 with
    | false => exact apart_no2 A B A2 B2 x hr hr2 w htab
    | true => exact apart_yes A B A2 B2 x hA0 hA1 hA20 hA21 hx0 hx1 hr hr2 _ _ _ _ rfl rfl rfl rfl (both_within A B A2 B2 x hr hr2) (within_has A B A2 B2 x hr hr2) w htab
end Go.Proofs.YtfohjalgpcgfmaaDoor
