/- The contract of palinglaw06.works, the chapter's example: it holds; the walks of SumTells and SumTurns. -/
import Derived.Test.YtcilbnfbmnfknaaSumOf
import Derived.Test.YtcilbnfbmnfknaaSumTurn
import Derived.Test.YtcilbnfbmnfknaaRefSum
namespace Go.Proofs.Ytcilbnfbmnfknaa
open Go.RowKit
open Go.Lib (byteCells)

/-- three bytes laid out -/
theorem bsl_three (w : World) (a b c : Int) (ha : 0 ≤ a ∧ a < 256) (hb : 0 ≤ b ∧ b < 256) (hc : 0 ≤ c ∧ c < 256) : BSl (w.alloc (.cells #[.int .u8 a, .int .u8 b, .int .u8 c] 5)) (some ⟨w.heap.size, 0, none⟩) 3 3 [u8 a, u8 b, u8 c] := by
  have e : nums [u8 a, u8 b, u8 c] = [a, b, c] := nums_u8 [a, b, c] (by simp; exact ⟨ha, hb, hc⟩)
  refine ⟨?_, fun e => by cases e⟩
  rw [e]
  refine ⟨rfl, Nat.le_refl _, by unfold maxLen; omega, fun _ => ⟨w.heap.size, 0, rfl, by simp, fun j hj => ?_⟩⟩
  match j, hj with
  | 0, _ | 1, _ | 2, _ => simp

theorem works06_any (w : World) : Calls Try.prog 11 #[] w fun e w' => e = .returned (.bool true) ∧ Below w.heap.size w w' := by
  have L0 := Lib.hid (fun w : World => bsl_three w 1 2 3 ⟨by decide, by decide⟩ ⟨by decide, by decide⟩ ⟨by decide, by decide⟩)
  have L1 := Lib.hid (fun w : World => bsl_two w 255 255 ⟨by decide, by decide⟩ ⟨by decide, by decide⟩)
  have T := Lib.hid (show tF (-1) 0 0 = -1 by decide)
  go_enter Try.func11, Try.ntmps11
  go_wp2_with (first
    | (go_at_call 7; (with_reducible refine (of_any _ _ _ _ _ (L0.out _) 64509 (by decide +kernel)).mono ?_); rintro e w1 ⟨rfl, hb1⟩)
    | (go_at_call 9; (with_reducible refine (right_any _ _ _ _ _ (L1.out _) true (by decide +kernel)).mono ?_); rintro e w2 ⟨rfl, hb2⟩)
    | (go_at_call 9; (with_reducible refine (right_any none 0 0 [] _ BSl.nil false (by decide +kernel)).mono ?_); rintro e w3 ⟨rfl, hb3⟩)
    | (go_at_call 12; (with_reducible refine (turn_any (-1) 0 0 _).mono ?_); rintro e w4 ⟨rfl, hb4⟩; rw [T.out]))
  go_ret
  exact ⟨rfl, trans_below (one_below hb1) (trans_below (one_below hb2) (trans_below hb3 hb4))⟩

theorem tells_walk (A : Option Addr) (n c : Nat) (l : List UInt8) (w : World) (h : BSl w A n c l) :
    Calls Try.prog 3 #[.slice A n c] w fun e w' => e = .returned (.bool true) ∧ Below w.heap.size w w' := by
  by_cases hn : 4000 < n
  · go_enter Try.func3, Try.ntmps3
    go_wp2
    go_ret
    exact ⟨by simp, Below.refl _ _⟩
  · have HS := Lib.hid h
    have hn2 : n ≤ 1000000 := by omega
    have i1 : (n : Int) ≤ 4000 := by omega
    obtain ⟨s, hs⟩ : ∃ s, 65535 - sumF 0 l = s := ⟨_, rfl⟩
    obtain ⟨v, hv⟩ : ∃ v, (sumF 0 l == 65535) = v := ⟨_, rfl⟩
    have S := Lib.hid hs
    have V := Lib.hid hv
    clear h hs hv
    go_enter Try.func3, Try.ntmps3
    go_wp2_with (first
      | (go_at_call 7; (with_reducible refine (of_any A n c l _ HS.out s S.out).mono ?_); rintro e w1 ⟨rfl, hb1⟩; have S1 := Lib.hid (HS.out.below hb1))
      | (go_at_call 8; (with_reducible refine (rof_any A n c l _ S1.out hn2 s S.out).mono ?_); rintro e w2 ⟨rfl, rfl⟩)
      | (go_at_call 9; (with_reducible refine (right_any A n c l _ S1.out v V.out).mono ?_); rintro e w3 ⟨rfl, hb3⟩; have S3 := Lib.hid (S1.out.below hb3))
      | (go_at_call 10; (with_reducible refine (rright_any A n c l _ S3.out hn2 v V.out).mono ?_); rintro e w4 ⟨rfl, rfl⟩)
      | (go_at_call 11; (with_reducible refine (works06_any _).mono ?_); rintro e w5 ⟨rfl, hb5⟩))
    go_ret
    exact ⟨by simp, trans_below hb1 (trans_below hb3 hb5)⟩

theorem turns_walk (s o y : Int) (w : World) :
    Calls Try.prog 4 #[.int .i64 s, .int .i64 o, .int .i64 y] w fun e w' => e = .returned (.bool true) ∧ Below w.heap.size w w' := by
  have HT := Lib.hid (turn_any s o y)
  have HR := Lib.hid (rturn_any s o y)
  generalize tF s o y = t at *
  go_enter Try.func4, Try.ntmps4
  go_wp2_with (first
    | (go_at_call 12; (with_reducible refine (HT.out _).mono ?_); rintro e w1 ⟨rfl, hb1⟩)
    | (go_at_call 13; (with_reducible refine (HR.out _).mono ?_); rintro e w2 ⟨rfl, rfl⟩)
    | (go_at_call 11; (with_reducible refine (works06_any _).mono ?_); rintro e w3 ⟨rfl, hb3⟩))
  go_ret
  exact ⟨by simp, trans_below hb1 hb3⟩
end Go.Proofs.Ytcilbnfbmnfknaa
