/- The contract of addr.Within, and those of palingref02's functions on prefixes. -/
import Derived.Test.YtfohjalgpcgfmaaDoorPf
namespace Go.Proofs.YtfohjalgpcgfmaaDoor
open Go.RowKit

theorem bcell {W w1 : World} (hb : Below W.heap.size W w1) : (∀ b o, b < W.heap.size → w1.cell? ⟨b, o, none⟩ = W.cell? ⟨b, o, none⟩) ∧ (∀ b o, b < W.heap.size → w1.frozen? ⟨b, o, none⟩ = W.frozen? ⟨b, o, none⟩) :=
  ⟨fun b o h => hb.cell (p := ⟨b, o, none⟩) h, fun b o h => hb.frozen (p := ⟨b, o, none⟩) h⟩
theorem two_below {w w1 : World} {o1 o2 : Obj} (hb : Below ((w.alloc o1).alloc o2).heap.size ((w.alloc o1).alloc o2) w1) : Below w.heap.size w w1 :=
  (((Below.refl _ _).alloc (Nat.le_refl _) _).alloc (by simp) _).trans (hb.mono (by simp; omega))
theorem one_below {w w1 : World} {o1 : Obj} (hb : Below (w.alloc o1).heap.size (w.alloc o1) w1) : Below w.heap.size w w1 :=
  ((Below.refl _ _).alloc (Nat.le_refl _) _).trans (hb.mono (by simp))
theorem trans_below {w w1 w2 : World} (h : Below w.heap.size w w1) (g : Below w1.heap.size w1 w2) : Below w.heap.size w w2 := h.trans (g.mono h.size)
theorem has_is (A B x : Int) (hA0 : 0 ≤ A) (hA1 : A < 4294967296) (hx0 : 0 ≤ x) (hx1 : x < 4294967296) (v : Bool) (h : HS A B x = v) (w : World) :
    Calls Tryd.prog 22 #[.agg #[.int .u32 A, .int .i64 B], .int .u32 x] w fun e w' => e = .returned (.bool v) ∧ Below w.heap.size w w' := by
  cases hr : RT B with
  | false =>
    rw [HS_no A B x hr] at h
    subst h
    exact has_no A B x hr w
  | true =>
    obtain ⟨b, rfl, hb⟩ := RT_nat hr
    obtain ⟨a, rfl⟩ := Int.eq_ofNat_of_zero_le hA0
    obtain ⟨y, rfl⟩ := Int.eq_ofNat_of_zero_le hx0
    have := has_yes a b y (by omega) (by omega) hb w
    rw [h] at this
    exact this

set_option maxHeartbeats 1000000 in
theorem within_any (A B A2 B2 : Int) (hA0 : 0 ≤ A) (hA1 : A < 4294967296) (hA20 : 0 ≤ A2) (hA21 : A2 < 4294967296) (w : World) :
    Calls Tryd.prog 24 #[.agg #[.int .u32 A, .int .i64 B], .agg #[.int .u32 A2, .int .i64 B2]] w fun e w' => e = .returned (.bool (WI A B A2 B2)) ∧ Below w.heap.size w w' := by
  cases hr : RT B with
  | false =>
    have e := Lib.hid (show WI A B A2 B2 = false by simp [WI, hr])
    go_enter Tryd.func24, Tryd.ntmps24
    go_wp2_with (go_at_call 16; refine (right_is A B false hr _).mono ?_; rintro e w1 ⟨rfl, hb1⟩; obtain ⟨hc, hf⟩ := bcell hb1)
    go_ret
    exact ⟨by rw [e.out]; rfl, two_below hb1⟩
  | true =>
    by_cases hl : B2 ≤ B
    · cases hh : HS A2 B2 A with
      | false =>
        have e := Lib.hid (show WI A B A2 B2 = false by simp [WI, hh])
        go_enter Tryd.func24, Tryd.ntmps24
        go_wp2_with (first
          | (go_at_call 16; refine (right_is A B true hr _).mono ?_; rintro e w1 ⟨rfl, hb1⟩; obtain ⟨hc, hf⟩ := bcell hb1)
          | (go_at_call 22; refine (has_is A2 B2 A hA20 hA21 hA0 hA1 false hh _).mono ?_; rintro e w2 ⟨rfl, hb2⟩))
        go_ret
        exact ⟨by rw [e.out]; rfl, trans_below (two_below hb1) hb2⟩
      | true =>
        have e := Lib.hid (show WI A B A2 B2 = true by simp [WI, hh, hr, hl])
        go_enter Tryd.func24, Tryd.ntmps24
        go_wp2_with (first
          | (go_at_call 16; refine (right_is A B true hr _).mono ?_; rintro e w1 ⟨rfl, hb1⟩; obtain ⟨hc, hf⟩ := bcell hb1)
          | (go_at_call 22; refine (has_is A2 B2 A hA20 hA21 hA0 hA1 true hh _).mono ?_; rintro e w2 ⟨rfl, hb2⟩))
        go_ret
        exact ⟨by rw [e.out]; rfl, trans_below (two_below hb1) hb2⟩
    · have e := Lib.hid (show WI A B A2 B2 = false by simp [WI, hl])
      go_enter Tryd.func24, Tryd.ntmps24
      go_wp2_with (go_at_call 16; refine (right_is A B true hr _).mono ?_; rintro e w1 ⟨rfl, hb1⟩; obtain ⟨hc, hf⟩ := bcell hb1)
      go_ret
      exact ⟨by rw [e.out]; rfl, two_below hb1⟩

/-! palingref02 -/
theorem refRight_any (A B : Int) (w : World) : Calls Tryd.prog 17 #[.agg #[.int .u32 A, .int .i64 B]] w fun e w' => e = .returned (.bool (RT B)) ∧ Below w.heap.size w w' := by
  by_cases h0 : 0 ≤ B
  · by_cases h1 : B ≤ 32
    · have e := Lib.hid (show RT B = true by simp [RT]; omega)
      go_enter Tryd.func17, Tryd.ntmps17
      go_wp2
      go_ret
      exact ⟨by rw [e.out]; rfl, (Below.refl _ _).alloc (Nat.le_refl _) _⟩
    · have e := Lib.hid (show RT B = false by simp [RT]; omega)
      go_enter Tryd.func17, Tryd.ntmps17
      go_wp2
      go_ret
      exact ⟨by rw [e.out]; rfl, (Below.refl _ _).alloc (Nat.le_refl _) _⟩
  · have e := Lib.hid (show RT B = false by simp [RT]; omega)
    go_enter Tryd.func17, Tryd.ntmps17
    go_wp2
    go_ret
    exact ⟨by rw [e.out]; rfl, (Below.refl _ _).alloc (Nat.le_refl _) _⟩
theorem refRight_is (A B : Int) (v : Bool) (h : RT B = v) (w : World) : Calls Tryd.prog 17 #[.agg #[.int .u32 A, .int .i64 B]] w fun e w' => e = .returned (.bool v) ∧ Below w.heap.size w w' := by
  have := refRight_any A B w
  rw [h] at this
  exact this
theorem refSize_any (A : Int) (b : Nat) (hb : b ≤ 32) (w : World) : Calls Tryd.prog 34 #[.agg #[.int .u32 A, .int .i64 (b : Int)]] w fun e w' => e = .returned (.int .i64 (sz b : Nat)) ∧ Below w.heap.size w w' := by
  have hpow : ∀ k, k ≤ 32 → (2 ^ k : Nat) ≤ 4294967296 := fun k hk => Nat.pow_le_pow_right (n := 2) (by decide) hk
  have HP := Lib.hid hpow
  clear hpow
  go_enter Tryd.func34, Tryd.ntmps34
  go_wp2
  go_loop [3, 4] (fun n i => ∃ k p : Nat, b + k ≤ 32 ∧ i = .int .i64 ((b + k : Nat) : Int) ∧ p = 2 ^ k ∧ n = .int .i64 (p : Int)) (fun _ i => 32 - (intOf i).toNat)
  case atStart => exact ⟨0, 1, by omega, rfl, rfl, rfl⟩
  case round =>
    obtain ⟨k, p, hk, rfl, hp, rfl⟩ := hrel
    have hle := HP.out k (by omega)
    rw [← hp] at hle
    have P := Lib.hid hp
    clear hp
    by_cases hlt : b + k < 32
    · have h2 : ((b + k : Nat) : Int) < 32 := by omega
      go_wp2
      go_round
      case rel => exact ⟨k + 1, p * 2, by omega, by go_num, by rw [P.out, Nat.pow_succ], by go_num⟩
      case measure => simp [intOf]; omega
    · have h2 : ¬ ((b + k : Nat) : Int) < 32 := by omega
      have E := Lib.hid (show p = sz b by rw [P.out]; unfold sz; congr 1; omega)
      go_wp2
      go_ret
      exact ⟨by rw [E.out]; rfl, (Below.refl _ _).alloc (Nat.le_refl _) _⟩
end Go.Proofs.YtfohjalgpcgfmaaDoor
