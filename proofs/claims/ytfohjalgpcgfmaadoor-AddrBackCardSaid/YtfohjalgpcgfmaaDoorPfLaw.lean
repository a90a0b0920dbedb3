/- The walk of the statement AddrPrefixes. -/
import Derived.Test.YtfohjalgpcgfmaaDoorWorks2
namespace Go.Proofs.YtfohjalgpcgfmaaDoor
open Go.RowKit
open Go.Lib (decDigits byteCells)

theorem FS_no {A B : Int} (h : RT B = false) : FS A B = 0 := by simp [FS, h]
theorem LS_no {A B : Int} (h : RT B = false) : LS A B = 0 := by simp [LS, h]
theorem FS_yes (a b : Nat) (hb : b ≤ 32) : FS (a : Int) (b : Int) = (fsN a b : Nat) := by
  have hr : RT (b : Int) = true := by rw [RT_iff]; omega
  simp [FS, hr]
theorem LS_yes (a b : Nat) (hb : b ≤ 32) : LS (a : Int) (b : Int) = (lsN a b : Nat) := by
  have hr : RT (b : Int) = true := by rw [RT_iff]; omega
  simp [LS, hr]
theorem first_all (A B : Int) (h0 : 0 ≤ A) (h1 : A < 4294967296) (w : World) : Calls Tryd.prog 18 #[.agg #[.int .u32 A, .int .i64 B]] w fun e w' => e = .returned (.int .u32 (FS A B)) ∧ Below w.heap.size w w' := by
  cases hr : RT B with
  | false => rw [FS_no hr]; exact first_no A B hr w
  | true =>
    obtain ⟨b, rfl, hb⟩ := RT_nat hr
    obtain ⟨a, rfl⟩ := Int.eq_ofNat_of_zero_le h0
    rw [FS_yes a b hb]
    exact first_yes a b (by omega) hb w
theorem last_all (A B : Int) (h0 : 0 ≤ A) (h1 : A < 4294967296) (w : World) : Calls Tryd.prog 20 #[.agg #[.int .u32 A, .int .i64 B]] w fun e w' => e = .returned (.int .u32 (LS A B)) ∧ Below w.heap.size w w' := by
  cases hr : RT B with
  | false => rw [LS_no hr]; exact last_no A B hr w
  | true =>
    obtain ⟨b, rfl, hb⟩ := RT_nat hr
    obtain ⟨a, rfl⟩ := Int.eq_ofNat_of_zero_le h0
    rw [LS_yes a b hb]
    exact last_yes a b (by omega) hb w
theorem refFirst_all (A B : Int) (h0 : 0 ≤ A) (h1 : A < 4294967296) (w : World) : Calls Tryd.prog 19 #[.agg #[.int .u32 A, .int .i64 B]] w fun e w' => e = .returned (.int .u32 (FS A B)) ∧ Below w.heap.size w w' := by
  cases hr : RT B with
  | false => rw [FS_no hr]; exact refFirst_no A B hr w
  | true =>
    obtain ⟨b, rfl, hb⟩ := RT_nat hr
    obtain ⟨a, rfl⟩ := Int.eq_ofNat_of_zero_le h0
    rw [FS_yes a b hb]
    exact refFirst_yes a b (by omega) hb w
theorem refLast_all (A B : Int) (h0 : 0 ≤ A) (h1 : A < 4294967296) (w : World) : Calls Tryd.prog 21 #[.agg #[.int .u32 A, .int .i64 B]] w fun e w' => e = .returned (.int .u32 (LS A B)) ∧ Below w.heap.size w w' := by
  cases hr : RT B with
  | false => rw [LS_no hr]; exact refLast_no A B hr w
  | true =>
    obtain ⟨b, rfl, hb⟩ := RT_nat hr
    obtain ⟨a, rfl⟩ := Int.eq_ofNat_of_zero_le h0
    rw [LS_yes a b hb]
    exact refLast_yes a b (by omega) hb w

/-- two prefixes' boxes, and what was there is as it was -/
def Two (w : World) (A B A2 B2 : Int) (w' : World) : Prop :=
  w'.cell? ⟨w.heap.size, 0, none⟩ = some (.int .u32 A) ∧ w'.cell? ⟨w.heap.size, 1, none⟩ = some (.int .i64 B) ∧ w'.cell? ⟨w.heap.size + 1, 0, none⟩ = some (.int .u32 A2) ∧ w'.cell? ⟨w.heap.size + 1, 1, none⟩ = some (.int .i64 B2) ∧
    Below w.heap.size w w' ∧ w.heap.size + 1 < w'.heap.size
theorem Two.keep {w W w' : World} {A B A2 B2 : Int} (h : Two w A B A2 B2 W) (hb : Below W.heap.size W w') : Two w A B A2 B2 w' := by
  obtain ⟨h0, h1, h2, h3, hB, hl⟩ := h
  have hl0 : w.heap.size < W.heap.size := by omega
  exact ⟨(hb.cell (p := ⟨w.heap.size, 0, none⟩) hl0).trans h0, (hb.cell (p := ⟨w.heap.size, 1, none⟩) hl0).trans h1, (hb.cell (p := ⟨w.heap.size + 1, 0, none⟩) hl).trans h2, (hb.cell (p := ⟨w.heap.size + 1, 1, none⟩) hl).trans h3,
    hB.trans (hb.mono hB.size), Nat.lt_of_lt_of_le hl hb.size⟩
theorem Two.drew {w W : World} {A B A2 B2 : Int} (h : Two w A B A2 B2 W) : Two w A B A2 B2 W.drew := by
  obtain ⟨h0, h1, h2, h3, hB, hl⟩ := h
  exact ⟨h0, h1, h2, h3, ⟨hB.os, hB.tape, hB.output, hB.size, hB.block⟩, hl⟩
theorem Two.start (w : World) (A B A2 B2 : Int) (T : TypeId) : Two w A B A2 B2 ((w.alloc (.cells #[.int .u32 A, .int .i64 B] T)).alloc (.cells #[.int .u32 A2, .int .i64 B2] T)) := by
  refine ⟨by simp, by simp, ?_, ?_, ((Below.refl _ _).alloc (Nat.le_refl _) _).alloc (by simp) _, by simp⟩
  · have := heap_alloc_new (w.alloc (.cells #[.int .u32 A, .int .i64 B] T)) (.cells #[.int .u32 A2, .int .i64 B2] T)
    simp
  · simp

set_option maxRecDepth 100000 in
set_option maxHeartbeats 4000000 in
theorem prefixes_walk (A B A2 B2 x : Int) (hA0 : 0 ≤ A) (hA1 : A < 4294967296) (hA20 : 0 ≤ A2) (hA21 : A2 < 4294967296) (hx0 : 0 ≤ x) (hx1 : x < 4294967296) (w : World) (htab : Lib.TabIs Tryd.prog w pow10 .u64 Lib.pow10Tab) :
    Calls Tryd.prog 4 #[.agg #[.int .u32 A, .int .i64 B], .agg #[.int .u32 A2, .int .i64 B2], .int .u32 x] w fun e w' => e = .returned (.bool true) ∧ Below w.heap.size w w' := by
  have HT := Lib.hid htab
  clear htab
  go_enter Tryd.func4, Tryd.ntmps4
  go_wp2
  refine wp_region_text (Two w A B A2 B2) (by kernel_rfl) (by kernel_rfl) (Two.start w A B A2 B2 _).drew ?_
  repeat
    first
      | (refine Seq.pass rfl ?_; simp only [Act.put, List.setIfInBounds_toArray, List.set_cons_zero, List.set_cons_succ])
      | (refine Seq.run ?_ rfl (fun wx hx => ?_) ?_
         rotate_left
         · have hx2 := hx
           obtain ⟨h0, h1, h2, h3, hB, hl⟩ := hx2
           go_simp
           first
             | (refine StepRun.val ?_; exact hx)
             | (refine StepRun.call (v := .bool (RT B)) ?_; (with_reducible refine Calls.mono (right_any A B _) ?_); rintro e w' ⟨rfl, hb⟩; exact ⟨rfl, hx.keep hb⟩)
             | (refine StepRun.call (v := .bool (RT B)) ?_; (with_reducible refine Calls.mono (refRight_any A B _) ?_); rintro e w' ⟨rfl, hb⟩; exact ⟨rfl, hx.keep hb⟩)
             | (refine StepRun.call (v := .int .u32 (FS A B)) ?_; (with_reducible refine Calls.mono (first_all A B hA0 hA1 _) ?_); rintro e w' ⟨rfl, hb⟩; exact ⟨rfl, hx.keep hb⟩)
             | (refine StepRun.call (v := .int .u32 (FS A B)) ?_; (with_reducible refine Calls.mono (refFirst_all A B hA0 hA1 _) ?_); rintro e w' ⟨rfl, hb⟩; exact ⟨rfl, hx.keep hb⟩)
             | (refine StepRun.call (v := .int .u32 (LS A B)) ?_; (with_reducible refine Calls.mono (last_all A B hA0 hA1 _) ?_); rintro e w' ⟨rfl, hb⟩; exact ⟨rfl, hx.keep hb⟩)
             | (refine StepRun.call (v := .int .u32 (LS A B)) ?_; (with_reducible refine Calls.mono (refLast_all A B hA0 hA1 _) ?_); rintro e w' ⟨rfl, hb⟩; exact ⟨rfl, hx.keep hb⟩)
             | (refine StepRun.call (v := .bool (HS A B x)) ?_; (with_reducible refine Calls.mono (has_is A B x hA0 hA1 hx0 hx1 _ rfl _) ?_); rintro e w' ⟨rfl, hb⟩; exact ⟨rfl, hx.keep hb⟩)
             | (refine StepRun.call (v := .bool (HS A B x)) ?_; (with_reducible refine Calls.mono (refHas_any A B x hA0 hA1 hx0 hx1 _) ?_); rintro e w' ⟨rfl, hb⟩; exact ⟨rfl, hx.keep hb⟩)
             | (refine StepRun.call (v := .bool (WI A B A2 B2)) ?_; (with_reducible refine Calls.mono (within_any A B A2 B2 hA0 hA1 hA20 hA21 _) ?_); rintro e w' ⟨rfl, hb⟩; exact ⟨rfl, hx.keep hb⟩)
             | (refine StepRun.call (v := .bool (WI A B A2 B2)) ?_; (with_reducible refine Calls.mono (refWithin_any A B A2 B2 hA0 hA1 hA20 hA21 _) ?_); rintro e w' ⟨rfl, hb⟩; exact ⟨rfl, hx.keep hb⟩)
             | (refine StepRun.call (v := .bool true) ?_; (with_reducible refine Calls.mono (works_any _ (tab_below HT.out hB)) ?_); rintro e w' ⟨rfl, hb⟩; exact ⟨rfl, hx.keep hb⟩)
         simp only [Act.put, List.setIfInBounds_toArray, List.set_cons_zero, List.set_cons_succ])
  refine Seq.last (fun wx hx => ?_)
  go_wp2
  go_ret
  exact ⟨rfl, hx.2.2.2.2.1⟩
end Go.Proofs.YtfohjalgpcgfmaaDoor
