/- The contracts of addr's functions on prefixes. -/
import Derived.Test.YtfohjalgpcgfmaaDoorPfMath
import Derived.Test.YtfohjalgpcgfmaaDoorSeq
namespace Go.Proofs.YtfohjalgpcgfmaaDoor
open Go.RowKit

/-- the two cells of a prefix in a block of the call's own, and what was there is as it was -/
theorem boxed_keep {w W w' : World} {b : Nat} {x y : Value} (hb : Below W.heap.size W w') (h : W.cell? ⟨b, 0, none⟩ = some x ∧ W.cell? ⟨b, 1, none⟩ = some y ∧ Below w.heap.size w W ∧ b < W.heap.size) :
    w'.cell? ⟨b, 0, none⟩ = some x ∧ w'.cell? ⟨b, 1, none⟩ = some y ∧ Below w.heap.size w w' ∧ b < w'.heap.size :=
  ⟨(hb.cell (p := ⟨b, 0, none⟩) h.2.2.2).trans h.1, (hb.cell (p := ⟨b, 1, none⟩) h.2.2.2).trans h.2.1, h.2.2.1.trans (hb.mono h.2.2.1.size), Nat.lt_of_lt_of_le h.2.2.2 hb.size⟩
theorem boxed_drew {w W : World} {b : Nat} {x y : Value} (h0 : W.cell? ⟨b, 0, none⟩ = some x) (h1 : W.cell? ⟨b, 1, none⟩ = some y) (hB : Below w.heap.size w W) (hl : b < W.heap.size) :
    W.drew.cell? ⟨b, 0, none⟩ = some x ∧ W.drew.cell? ⟨b, 1, none⟩ = some y ∧ Below w.heap.size w W.drew ∧ b < W.drew.heap.size :=
  ⟨h0, h1, ⟨hB.os, hB.tape, hB.output, hB.size, hB.block⟩, hl⟩
/-- behind a first call: the box of a prefix is as it was -/
theorem boxed_first {w w1 : World} {x y : Value} {T : TypeId} (hb1 : Below (w.alloc (.cells #[x, y] T)).heap.size (w.alloc (.cells #[x, y] T)) w1) :
    w1.cell? ⟨w.heap.size, 0, none⟩ = some x ∧ w1.cell? ⟨w.heap.size, 1, none⟩ = some y ∧ Below w.heap.size w w1 ∧ w.heap.size < w1.heap.size := by
  have hz : w.heap.size < (w.alloc (.cells #[x, y] T)).heap.size := by simp
  have h0 := hb1.cell (p := ⟨w.heap.size, 0, none⟩) hz
  have h1 := hb1.cell (p := ⟨w.heap.size, 1, none⟩) hz
  refine ⟨by rw [h0]; simp, by rw [h1]; simp, ((Below.refl w.heap.size w).alloc (Nat.le_refl _) _).trans (hb1.mono (by simp)), Nat.lt_of_lt_of_le hz hb1.size⟩

theorem right_any (A B : Int) (w : World) : Calls Tryd.prog 16 #[.agg #[.int .u32 A, .int .i64 B]] w fun e w' => e = .returned (.bool (RT B)) ∧ Below w.heap.size w w' := by
  by_cases h0 : 0 ≤ B
  · by_cases h1 : B ≤ 32
    · have e := Lib.hid (show RT B = true by simp [RT]; omega)
      go_enter Tryd.func16, Tryd.ntmps16
      go_wp2
      go_ret
      exact ⟨by rw [e.out]; rfl, (Below.refl _ _).alloc (Nat.le_refl _) _⟩
    · have e := Lib.hid (show RT B = false by simp [RT]; omega)
      go_enter Tryd.func16, Tryd.ntmps16
      go_wp2
      go_ret
      exact ⟨by rw [e.out]; rfl, (Below.refl _ _).alloc (Nat.le_refl _) _⟩
  · have e := Lib.hid (show RT B = false by simp [RT]; omega)
    go_enter Tryd.func16, Tryd.ntmps16
    go_wp2
    go_ret
    exact ⟨by rw [e.out]; rfl, (Below.refl _ _).alloc (Nat.le_refl _) _⟩
theorem right_is (A B : Int) (v : Bool) (h : RT B = v) (w : World) : Calls Tryd.prog 16 #[.agg #[.int .u32 A, .int .i64 B]] w fun e w' => e = .returned (.bool v) ∧ Below w.heap.size w w' := by
  have := right_any A B w
  rw [h] at this
  exact this
theorem free_any (A : Int) (b : Nat) (hb : b ≤ 32) (w : World) : Calls Tryd.prog 33 #[.agg #[.int .u32 A, .int .i64 (b : Int)]] w fun e w' => e = .returned (.int .u32 ((sz b - 1 : Nat) : Int)) ∧ Below w.heap.size w w' := by
  have e := Lib.hid (free_eq b hb)
  go_enter Tryd.func33, Tryd.ntmps33
  go_wp2
  go_ret
  exact ⟨by rw [← e.out]; simp, (Below.refl _ _).alloc (Nat.le_refl _) _⟩
theorem first_no (A B : Int) (hr : RT B = false) (w : World) : Calls Tryd.prog 18 #[.agg #[.int .u32 A, .int .i64 B]] w fun e w' => e = .returned (.int .u32 0) ∧ Below w.heap.size w w' := by
  go_enter Tryd.func18, Tryd.ntmps18
  go_wp2_with (go_at_call 16; refine (right_is A B false hr _).mono ?_; rintro e w1 ⟨rfl, hb1⟩)
  go_ret
  exact ⟨rfl, ((Below.refl _ _).alloc (Nat.le_refl _) _).trans (hb1.mono (by simp))⟩
set_option maxHeartbeats 1000000 in
theorem first_yes (A b : Nat) (hA : A < 4294967296) (hb : b ≤ 32) (w : World) : Calls Tryd.prog 18 #[.agg #[.int .u32 (A : Int), .int .i64 (b : Int)]] w fun e w' => e = .returned (.int .u32 (fsN A b : Nat)) ∧ Below w.heap.size w w' := by
  have hr : RT (b : Int) = true := by rw [RT_iff]; omega
  have hsz := sz_le b
  have hsp := sz_pos b
  have e1 := u32_andNot (A : Int) ((sz b - 1 : Nat) : Int) (by omega) (by omega) (by omega) (by omega)
  have e2 := Lib.hid (show (((A : Int).toNat &&& (4294967295 - ((sz b - 1 : Nat) : Int).toNat) : Nat) : Int) = ((fsN A b : Nat) : Int) by
    have := and_high A (32 - b) hA (by omega)
    rw [show (A : Int).toNat = A by omega, show ((sz b - 1 : Nat) : Int).toNat = sz b - 1 by omega]
    unfold fsN sz
    rw [this])
  rw [e2.out] at e1
  go_enter Tryd.func18, Tryd.ntmps18
  go_wp2_with (go_at_call 16; refine (right_is A b true hr _).mono ?_; rintro e w1 ⟨rfl, hb1⟩; obtain ⟨hc0, hc1, hB1, hl1⟩ := boxed_first hb1)
  go_region_held3 (fun w' => w'.cell? ⟨w.heap.size, 0, none⟩ = some (.int .u32 (A : Int)) ∧ w'.cell? ⟨w.heap.size, 1, none⟩ = some (.int .i64 (b : Int)) ∧ Below w.heap.size w w' ∧ w.heap.size < w'.heap.size) (first | exact boxed_keep (by assumption) (by assumption) | exact boxed_drew hc0 hc1 hB1 hl1)
    (first | (go_at_call 33; refine (free_any A b hb _).mono ?_; rintro e w2 ⟨rfl, hb2⟩))
  all_goals
    go_wp2
    go_ret
    exact ⟨rfl, (boxed_keep (by assumption) (boxed_drew hc0 hc1 hB1 hl1)).2.2.1⟩
theorem last_no (A B : Int) (hr : RT B = false) (w : World) : Calls Tryd.prog 20 #[.agg #[.int .u32 A, .int .i64 B]] w fun e w' => e = .returned (.int .u32 0) ∧ Below w.heap.size w w' := by
  go_enter Tryd.func20, Tryd.ntmps20
  go_wp2_with (go_at_call 16; refine (right_is A B false hr _).mono ?_; rintro e w1 ⟨rfl, hb1⟩)
  go_ret
  exact ⟨rfl, ((Below.refl _ _).alloc (Nat.le_refl _) _).trans (hb1.mono (by simp))⟩
set_option maxHeartbeats 1000000 in
theorem last_yes (A b : Nat) (hA : A < 4294967296) (hb : b ≤ 32) (w : World) : Calls Tryd.prog 20 #[.agg #[.int .u32 (A : Int), .int .i64 (b : Int)]] w fun e w' => e = .returned (.int .u32 (lsN A b : Nat)) ∧ Below w.heap.size w w' := by
  have hr : RT (b : Int) = true := by rw [RT_iff]; omega
  have hsz := sz_le b
  have hsp := sz_pos b
  have e1 := u32_or (A : Int) ((sz b - 1 : Nat) : Int) (by omega) (by omega) (by omega) (by omega)
  have e2 := Lib.hid (show (((A : Int).toNat ||| ((sz b - 1 : Nat) : Int).toNat : Nat) : Int) = ((lsN A b : Nat) : Int) by
    have := or_low A (32 - b)
    rw [show (A : Int).toNat = A by omega, show ((sz b - 1 : Nat) : Int).toNat = sz b - 1 by omega]
    unfold lsN sz
    rw [this])
  rw [e2.out] at e1
  go_enter Tryd.func20, Tryd.ntmps20
  go_wp2_with (go_at_call 16; refine (right_is A b true hr _).mono ?_; rintro e w1 ⟨rfl, hb1⟩; obtain ⟨hc0, hc1, hB1, hl1⟩ := boxed_first hb1)
  go_region_held3 (fun w' => w'.cell? ⟨w.heap.size, 0, none⟩ = some (.int .u32 (A : Int)) ∧ w'.cell? ⟨w.heap.size, 1, none⟩ = some (.int .i64 (b : Int)) ∧ Below w.heap.size w w' ∧ w.heap.size < w'.heap.size) (first | exact boxed_keep (by assumption) (by assumption) | exact boxed_drew hc0 hc1 hB1 hl1)
    (first | (go_at_call 33; refine (free_any A b hb _).mono ?_; rintro e w2 ⟨rfl, hb2⟩))
  all_goals
    go_wp2
    go_ret
    exact ⟨rfl, (boxed_keep (by assumption) (boxed_drew hc0 hc1 hB1 hl1)).2.2.1⟩
theorem boxed_new (w : World) (x y : Value) (T : TypeId) : (w.alloc (.cells #[x, y] T)).drew.cell? ⟨w.heap.size, 0, none⟩ = some x ∧ (w.alloc (.cells #[x, y] T)).drew.cell? ⟨w.heap.size, 1, none⟩ = some y ∧
    Below w.heap.size w (w.alloc (.cells #[x, y] T)).drew ∧ w.heap.size < (w.alloc (.cells #[x, y] T)).drew.heap.size := by
  refine ⟨by simp, by simp, ?_, by simp⟩
  have h := (Below.refl w.heap.size w).alloc (Nat.le_refl _) (.cells #[x, y] T)
  exact ⟨h.os, h.tape, h.output, h.size, h.block⟩
theorem HS_no (A B x : Int) (hr : RT B = false) : HS A B x = false := by simp [HS, hr]
set_option maxHeartbeats 1000000 in
theorem has_no (A B x : Int) (hr : RT B = false) (w : World) : Calls Tryd.prog 22 #[.agg #[.int .u32 A, .int .i64 B], .int .u32 x] w fun e w' => e = .returned (.bool false) ∧ Below w.heap.size w w' := by
  go_enter Tryd.func22, Tryd.ntmps22
  go_wp2
  refine wp_region_text (fun w' => w'.cell? ⟨w.heap.size, 0, none⟩ = some (.int .u32 A) ∧ w'.cell? ⟨w.heap.size, 1, none⟩ = some (.int .i64 B) ∧ Below w.heap.size w w' ∧ w.heap.size < w'.heap.size) (by kernel_rfl) (by kernel_rfl) (boxed_new _ _ _ _) ?_
  repeat
    first
      | (refine Seq.pass rfl ?_; simp only [Act.put, List.setIfInBounds_toArray, List.set_cons_zero, List.set_cons_succ])
      | (refine Seq.run ?_ rfl (fun wx hx => ?_) ?_
         rotate_left
         · have hx2 := hx
           obtain ⟨h0, h1, hB, hl⟩ := hx2
           go_simp
           first
             | (refine StepRun.val ?_; exact hx)
             | (refine StepRun.call (v := .bool false) ?_; (with_reducible refine Calls.mono (right_is A B false hr _) ?_); rintro e w' ⟨rfl, hb⟩; exact ⟨rfl, boxed_keep hb hx⟩)
         simp only [Act.put, List.setIfInBounds_toArray, List.set_cons_zero, List.set_cons_succ])
  refine Seq.last (fun wx hx => ?_)
  go_wp2
  go_ret
  exact ⟨rfl, hx.2.2.1⟩
theorem has_bits (A b x : Nat) (hA : A < 4294967296) (hx : x < 4294967296) (hb : b ≤ 32) :
    ∃ y z : Nat, y < 4294967296 ∧ bits .xor .u32 (x : Int) (A : Int) = (y : Int) ∧ bits .andNot .u32 (y : Int) ((sz b - 1 : Nat) : Int) = (z : Int) ∧ ((z : Int) == 0) = HS (A : Int) (b : Int) (x : Int) := by
  have hsz := sz_le b
  have hsp := sz_pos b
  have hy : x ^^^ A < 4294967296 := Nat.xor_lt_two_pow (n := 32) hx hA
  refine ⟨x ^^^ A, (x ^^^ A) &&& (4294967295 - (sz b - 1)), hy, ?_, ?_, ?_⟩
  · have := u32_xor (x : Int) (A : Int) (by omega) (by omega) (by omega) (by omega)
    simpa using this
  · have := u32_andNot ((x ^^^ A : Nat) : Int) ((sz b - 1 : Nat) : Int) (by omega) (by omega) (by omega) (by omega)
    rw [this]
    congr 1
  · have h := xor_high x A (32 - b) hx hA (by omega)
    have hr : RT (b : Int) = true := by rw [RT_iff]; omega
    unfold HS
    rw [hr, Bool.true_and, Bool.eq_iff_iff]
    simp only [beq_iff_eq, decide_eq_true_eq, Int.toNat_natCast]
    unfold sz at h ⊢
    rw [← h]
    omega
set_option maxHeartbeats 1000000 in
theorem has_yes (A b x : Nat) (hA : A < 4294967296) (hx : x < 4294967296) (hb : b ≤ 32) (w : World) : Calls Tryd.prog 22 #[.agg #[.int .u32 (A : Int), .int .i64 (b : Int)], .int .u32 (x : Int)] w fun e w' => e = .returned (.bool (HS A b x)) ∧ Below w.heap.size w w' := by
  have hr : RT (b : Int) = true := by rw [RT_iff]; omega
  obtain ⟨y, z, hy, e1, e2, e3⟩ := has_bits A b x hA hx hb
  have E := Lib.hid e3
  clear e3
  go_enter Tryd.func22, Tryd.ntmps22
  go_wp2
  first | go_region_held3 (fun w' => w'.cell? ⟨w.heap.size, 0, none⟩ = some (.int .u32 (A : Int)) ∧ w'.cell? ⟨w.heap.size, 1, none⟩ = some (.int .i64 (b : Int)) ∧ Below w.heap.size w w' ∧ w.heap.size < w'.heap.size) (first | exact boxed_keep (by assumption) (by assumption) | exact boxed_new _ _ _ _)
    (first | (go_at_call 16; refine (right_is A b true hr _).mono ?_; rintro e w2 ⟨rfl, hb2⟩) | (go_at_call 33; refine (free_any A b hb _).mono ?_; rintro e w3 ⟨rfl, hb3⟩)) | fail
  all_goals
    go_wp2
    go_ret
    exact ⟨by rw [E.out]; rfl, (boxed_keep (by assumption) (boxed_keep (by assumption) (boxed_new _ _ _ _))).2.2.1⟩
end Go.Proofs.YtfohjalgpcgfmaaDoor
