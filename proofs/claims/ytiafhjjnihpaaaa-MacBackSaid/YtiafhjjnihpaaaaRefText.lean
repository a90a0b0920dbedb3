/- The contract of palingref01.Text: it writes the text that mac.Text writes. -/
import Derived.Test.YtiafhjjnihpaaaaBytes
import Derived.Deep.QuietTactic
import Derived.BigQuiet
namespace Go.Proofs.Ytiafhjjnihpaaaa
open Go.RowKit

theorem slice_dig (d : Int) (h0 : 0 ≤ d) (h1 : d < 16) (w : World) : (Instr.sliceAt 9 (.string digs) (some (.int .u8 d)) (some (.int .u8 (d + 1))) none).run Try.prog w = .ok (.string (strOf [hx d])) w := by
  have : d = 0 ∨ d = 1 ∨ d = 2 ∨ d = 3 ∨ d = 4 ∨ d = 5 ∨ d = 6 ∨ d = 7 ∨ d = 8 ∨ d = 9 ∨ d = 10 ∨ d = 11 ∨ d = 12 ∨ d = 13 ∨ d = 14 ∨ d = 15 := by omega
  rcases this with rfl | rfl | rfl | rfl | rfl | rfl | rfl | rfl | rfl | rfl | rfl | rfl | rfl | rfl | rfl | rfl <;> (show Sem.run _ _ _ = Result.ok _ _; kernel_rfl)

theorem strOf_append (a b : List Int) : strOf (a ++ b) = strOf a ++ strOf b := by
  unfold strOf
  rw [List.map_append, ByteArray.mk_append_mk]
theorem strOf_size (a : List Int) : (strOf a).size = a.length := by simp [strOf, ByteArray.size]
abbrev colonS : ByteArray := ⟨#[58]⟩
theorem colonS_of : colonS = strOf [58] := by decide +kernel

theorem below_drewN {B : Nat} {a w : World} (h : Below B a w) (n : Nat) : Below B a (w.drewN n) := ⟨h.os, h.tape, h.output, h.size, h.block⟩
theorem text_next (m : Int) (k : Nat) (h : 0 < k) : strOf (textPre m (k + 1)) = strOf (textPre m k) ++ ⟨#[58]⟩ ++ strOf [hx (byt m k / 16)] ++ strOf [hx (byt m k % 16)] := by
  rw [show (⟨#[58]⟩ : ByteArray) = strOf [58] from colonS_of, ← strOf_append, ← strOf_append, ← strOf_append]
  simp [textPre, h]
theorem text_next0 (m : Int) (k : Nat) (h : ¬ 0 < k) : strOf (textPre m (k + 1)) = strOf (textPre m k) ++ strOf [hx (byt m k / 16)] ++ strOf [hx (byt m k % 16)] := by
  rw [← strOf_append, ← strOf_append]
  simp [textPre, h]

set_option maxHeartbeats 1000000 in
theorem refText_any (m : Int) (w : World) (h0 : 0 ≤ m) (h1 : m < 18446744073709551616) :
    Calls Try.prog 11 #[.int .u64 m] w fun e w' => e = .returned (.string (strOf (textPre m 6))) ∧ Below w.heap.size w w' := by
  go_enter Try.func11, Try.ntmps11
  go_wp2_with (go_at_call 25; refine (refBytes_cells m _ h0 h1).mono ?_; rintro e w1 ⟨g, cap, rfl, hc6, hcm, hg, hown, hcell, hb⟩; have H := Lib.hid hcell; clear hcell; unfold maxLen at hcm)
  go_loopw [5, 6] (fun v i wr => ∃ k : Nat, k ≤ 6 ∧ i = .int .i64 k ∧ v = .string (strOf (textPre m k)) ∧ ∃ n, wr = w1.drewN n) (fun _ i _ => 6 - (intOf i).toNat)
  case atStart => exact ⟨0, by omega, rfl, rfl, 0, rfl⟩
  case round =>
    obtain ⟨k, hk, rfl, rfl, nn, rfl⟩ := hrel
    by_cases hlt : k < 6
    · have hlt2 : (k : Int) < 6 := by omega
      have b0 := byt_lo m k
      have b1 := byt_hi m k
      have c0 := H.out k hlt
      have S1 := slice_dig (byt m k / 16) (by omega) (by omega)
      have S2 := slice_dig (byt m k % 16) (by omega) (by omega)
      have z1 : (strOf (textPre m k)).size ≤ 18 := by rw [strOf_size]; have := textPre_len m k; omega
      have z2 : (strOf [hx (byt m k / 16)]).size ≤ 1 := by rw [strOf_size]; simp
      have z3 : (strOf [hx (byt m k % 16)]).size ≤ 1 := by rw [strOf_size]; simp
      by_cases hk0 : 0 < k
      · have HN := Lib.hid (text_next m k hk0)
        go_wp2
        go_quiet (fail)
        go_wp2
        go_roundw
        case rel => exact ⟨k + 1, by omega, by go_num, by rw [HN.out], _, rfl⟩
        case measure => simp [intOf]; omega
      · have HN := Lib.hid (text_next0 m k hk0)
        go_wp2
        go_quiet (fail)
        go_wp2
        go_roundw
        case rel => exact ⟨k + 1, by omega, by go_num, by rw [HN.out], _, rfl⟩
        case measure => simp [intOf]; omega
    · obtain rfl : k = 6 := by omega
      go_wp2
      go_ret
      exact ⟨rfl, below_drewN hb nn⟩
end Go.Proofs.Ytiafhjjnihpaaaa
