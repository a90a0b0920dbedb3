/- The walks of the statements NumNumbers and NumBack. -/
import Derived.Test.YtjmbgfhjdmoflaaDoorWorks3
import Derived.Test.YtjmbgfhjdmoflaaDoorNumRef
namespace Go.Proofs.YtjmbgfhjdmoflaaDoor
open Go.RowKit
open Go.Lib (decDigits itoa)

set_option maxRecDepth 100000 in
set_option maxHeartbeats 2000000 in
theorem numbers_walk (l : List UInt8) (lo hi n : Int) (h0 : -9223372036854775808 ≤ n) (h1 : n ≤ 9223372036854775807) (hs : l.length ≤ maxLen) (w : World) (hl : Lds w) :
    Calls Tryd.prog 3 #[.string (str l), .int .i64 lo, .int .i64 hi, .int .i64 n] w fun e w' => e = .returned (.bool true) ∧ Below w.heap.size w w' := by
  have HL := Lib.hid hl
  clear hl
  obtain ⟨v, hv⟩ : ∃ v : Bool, v = true ↔ NameOk (str l) := by
    by_cases h : NameOk (str l)
    · exact ⟨true, by simp [h]⟩
    · exact ⟨false, by simp [h]⟩
  have HV := Lib.hid hv
  have HS := Lib.hid (show (str l).size ≤ maxLen by rw [str_size]; exact hs)
  have HS2 := Lib.hid hs
  clear hv
  unfold maxLen at hs
  by_cases hk : 1000 < l.length
  · have hki : (1000 : Int) < (l.length : Int) := by omega
    go_enter Tryd.func3, Tryd.ntmps3
    go_wp2_with (go_at_call 7; refine (works_any _ HL.out).mono ?_; rintro e w1 ⟨rfl, hb1⟩)
    go_ret
    exact ⟨rfl, hb1⟩
  · have hki : ¬ (1000 : Int) < (l.length : Int) := by omega
    generalize ha : nV l lo hi = a
    generalize hb : nB l lo hi = b
    have R1 := Lib.hid (fun w hl => numRead_any l lo hi w HS2.out hl)
    have R2 := Lib.hid (fun w => refNumRead_any l lo hi w HS2.out)
    rw [ha, hb] at R1 R2
    clear ha hb
    go_enter Tryd.func3, Tryd.ntmps3
    go_wp2_with (first
      | (go_at_call 8; (with_reducible refine (R1.out _ HL.out).mono ?_); rintro e w1 ⟨rfl, hb1⟩)
      | (go_at_call 9; (with_reducible refine (R2.out _).mono ?_); rintro e w2 ⟨rfl, hb2⟩; have hB2 := trans_below hb1 hb2)
      | (go_at_call 10; (with_reducible refine (numText_any n h0 h1 _ (HL.out.below hB2)).mono ?_); rintro e w3 ⟨rfl, hb3⟩; have hB3 := trans_below hB2 hb3)
      | (go_at_call 11; (with_reducible refine (refNumText_any n h0 h1 _).mono ?_); rintro e w4 ⟨rfl, hb4⟩; have hB4 := trans_below hB3 hb4)
      | (go_at_call 12; (with_reducible refine (name_any (str l) _ HS.out v HV.out).mono ?_); rintro e w' ⟨rfl, rfl⟩)
      | (go_at_call 13; (with_reducible refine (refName_any (str l) _ HS.out v HV.out).mono ?_); rintro e w' ⟨rfl, rfl⟩)
      | (go_at_call 7; (with_reducible refine (works_any _ (HL.out.below hB4)).mono ?_); rintro e w5 ⟨rfl, hb5⟩; have hB5 := trans_below hB4 hb5))
    go_ret
    exact ⟨rfl, hB5⟩

theorem read_is (l : List UInt8) (lo hi : Int) (x : Int) (b : Bool) (h : nV l lo hi = x ∧ nB l lo hi = b) (hs : l.length ≤ maxLen) (w : World) (hl : Lds w) :
    Calls Tryd.prog 8 #[.string (str l), .int .i64 lo, .int .i64 hi] w fun e w' => e = .returned (.tuple #[.int .i64 x, .bool b]) ∧ Below w.heap.size w w' := by
  have h2 := numRead_any l lo hi w hs hl
  rw [h.1, h.2] at h2
  exact h2
set_option maxRecDepth 100000 in
set_option maxHeartbeats 2000000 in
theorem back_walk (n b : Int) (h0 : -2147483648 ≤ n) (h1 : n ≤ 2147483647) (b0 : 0 ≤ b) (b1 : b ≤ 65535) (w : World) (hl : Lds w) :
    Calls Tryd.prog 5 #[.int .i32 n, .int .u16 b] w fun e w' => e = .returned (.bool true) ∧ Below w.heap.size w w' := by
  have HL := Lib.hid hl
  have hil := itoa_len n (by omega) (by omega)
  have HS := Lib.hid (show (itoa n).length ≤ maxLen by unfold maxLen; omega)
  have HS2 := Lib.hid (show (48 :: itoa n).length ≤ maxLen by unfold maxLen; rw [List.length_cons]; omega)
  have r1 := Lib.hid (n_yes (show nF (itoa n) (n - b) (n + b) = some n by rw [nF_back n _ _ (by omega), if_pos ⟨by omega, by omega⟩]))
  have r2 := Lib.hid (n_no (show nF (itoa n) (n + 1) (n + 1 + b) = none by rw [nF_back n _ _ (by omega), if_neg (by omega)]))
  have r3 := Lib.hid (n_no (nF_nought n (-1099511627776) 1099511627776))
  clear hl
  go_enter Tryd.func5, Tryd.ntmps5
  go_wp2_with (first
    | (go_at_call 7; (with_reducible refine (works_any _ HL.out).mono ?_); rintro e w1 ⟨rfl, hB⟩)
    | (go_at_call 10; (with_reducible refine (numText_any n (by omega) (by omega) _ (HL.out.below hB)).mono ?_); rintro e w2 ⟨rfl, hb2⟩; replace hB := trans_below hB hb2)
    | (go_at_call 8; (with_reducible refine (read_is (itoa n) (n - b) (n + b) n true r1.out HS.out _ (HL.out.below hB)).mono ?_); rintro e w3 ⟨rfl, hb3⟩; replace hB := trans_below hB hb3)
    | (go_at_call 8; (with_reducible refine (read_is (itoa n) (n + 1) (n + 1 + b) 0 false r2.out HS.out _ (HL.out.below hB)).mono ?_); rintro e w3 ⟨rfl, hb3⟩; replace hB := trans_below hB hb3)
    | (go_at_call 8; (refine (read_is (48 :: itoa n) (-1099511627776) 1099511627776 0 false r3.out HS2.out _ (HL.out.below hB)).mono ?_); rintro e w3 ⟨rfl, hb3⟩; replace hB := trans_below hB hb3))
  go_ret
  exact ⟨rfl, hB⟩
end Go.Proofs.YtjmbgfhjdmoflaaDoor
