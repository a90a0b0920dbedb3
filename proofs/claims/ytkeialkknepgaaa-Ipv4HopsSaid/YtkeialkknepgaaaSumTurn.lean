/- The contract of sum.Turn. -/
import Derived.Test.YtkeialkknepgaaaSumBy
namespace Go.Proofs.Ytkeialkknepgaaa
open Go.RowKit
open Go.Lib (byteCells)

theorem turn_any (s o y : Int) (w : World) :
    Calls Try.prog 18 #[.int .i64 s, .int .i64 o, .int .i64 y] w fun e w' => e = .returned (.int .i64 (tF s o y)) ∧ Below w.heap.size w w' := by
  by_cases hs : 0 ≤ s ∧ s ≤ 65535
  · by_cases ho : 0 ≤ o ∧ o ≤ 65535
    · by_cases hy : 0 ≤ y ∧ y ≤ 65535
      · obtain ⟨s0, s1⟩ := hs
        obtain ⟨o0, o1⟩ := ho
        obtain ⟨y0, y1⟩ := hy
        have E := Lib.hid (tF_ok ⟨s0, s1, o0, o1, y0, y1⟩)
        have e0 : dn 0 (65535 - s) = 65535 - s := by unfold dn; rw [if_neg (by omega)]; omega
        obtain ⟨g0, g1⟩ := dn_bd (s := 65535 - s) (n := 65535 - o) (by omega) (by omega) (by omega) (by omega)
        obtain ⟨k0, k1⟩ := dn_bd g0 g1 y0 y1
        generalize hP : dn (65535 - s) (65535 - o) = P at *
        generalize hQ : dn P y = Q at *
        have HP := Lib.hid hP
        have HQ := Lib.hid hQ
        have E0 := Lib.hid e0
        clear hP hQ e0
        go_enter Try.func18, Try.ntmps18
        go_wp2_with (first
          | (go_at_call 32; (with_reducible refine (fits_yes s _ s0 s1).mono ?_); rintro e w1 ⟨rfl, rfl⟩)
          | (go_at_call 32; (with_reducible refine (fits_yes o _ o0 o1).mono ?_); rintro e w1 ⟨rfl, rfl⟩)
          | (go_at_call 32; (with_reducible refine (fits_yes y _ y0 y1).mono ?_); rintro e w1 ⟨rfl, rfl⟩)
          | (go_at_call 33; (with_reducible refine (adder_any _).mono ?_); rintro e w2 ⟨rfl, a2, z2, b2⟩)
          | (go_at_call 38; (with_reducible refine (add_any _ _ 0 (65535 - s) _ (Nat.le_refl _) b2 a2 (by omega) (by omega) (by omega) (by omega)).mono ?_); rintro e w3 ⟨rfl, a3, b3⟩; rw [E0.out] at a3)
          | (go_at_call 38; (with_reducible refine (add_any _ _ (65535 - s) (65535 - o) _ (Nat.le_refl _) b3 a3 (by omega) (by omega) (by omega) (by omega)).mono ?_); rintro e w4 ⟨rfl, a4, b4⟩; rw [HP.out] at a4)
          | (go_at_call 38; (with_reducible refine (add_any _ _ P y _ (Nat.le_refl _) b4 a4 (by omega) (by omega) (by omega) (by omega)).mono ?_); rintro e w5 ⟨rfl, a5, b5⟩; rw [HQ.out]))
        go_ret
        exact ⟨by rw [E.out]; rfl, b5⟩
      · rw [tF_no (by omega)]
        go_enter Try.func18, Try.ntmps18
        go_wp2_with (first
          | (go_at_call 32; (with_reducible refine (fits_yes s _ hs.1 hs.2).mono ?_); rintro e w1 ⟨rfl, rfl⟩)
          | (go_at_call 32; (with_reducible refine (fits_yes o _ ho.1 ho.2).mono ?_); rintro e w1 ⟨rfl, rfl⟩)
          | (go_at_call 32; (with_reducible refine (fits_no y _ hy).mono ?_); rintro e w1 ⟨rfl, rfl⟩))
        go_ret
        exact ⟨rfl, Below.refl _ _⟩
    · rw [tF_no (by omega)]
      go_enter Try.func18, Try.ntmps18
      go_wp2_with (first
        | (go_at_call 32; (with_reducible refine (fits_yes s _ hs.1 hs.2).mono ?_); rintro e w1 ⟨rfl, rfl⟩)
        | (go_at_call 32; (with_reducible refine (fits_no o _ ho).mono ?_); rintro e w1 ⟨rfl, rfl⟩))
      go_ret
      exact ⟨rfl, Below.refl _ _⟩
  · rw [tF_no (by omega)]
    go_enter Try.func18, Try.ntmps18
    go_wp2_with (first
      | (go_at_call 32; (with_reducible refine (fits_no s _ hs).mono ?_); rintro e w1 ⟨rfl, rfl⟩))
    go_ret
    exact ⟨rfl, Below.refl _ _⟩
end Go.Proofs.Ytkeialkknepgaaa
