/- The contract of palinglaw05.works, the chapter's example: it holds. -/
import Derived.Test.YtojkcejpihomhaaTagMath
namespace Go.Proofs.Ytojkcejpihomhaa
open Go.RowKit
open Go.Lib (byteCells)

/-- the example's body -/
def exT : List UInt8 := [0, 10, 8, 0, 120]
theorem ex_add (A : Option Addr) (c : Nat) (w : World) (h : BSl w A 1 c [120]) :
    Calls Try.prog 12 #[.agg #[.int .u64 0, .int .u64 0, .int .i64 2048, .slice A 1 c], .int .i64 10, .int .i64 0] w (GotF w 0 0 33024 exT 0) := by
  have := add_any 0 0 2048 A 1 c [120] 10 0 w h
  have e : aE 2048 10 0 ([120] : List UInt8).length = 0 := by decide
  have e2 : tbs 10 0 2048 [120] = exT := by decide +kernel
  unfold GotAdd at this
  rw [e, oi_ok, oi_ok, ol_ok, e2] at this
  exact this

set_option maxHeartbeats 1000000 in
theorem works05_any (w : World) : Calls Try.prog 7 #[] w fun e w' => e = .returned (.bool true) ∧ Below w.heap.size w w' := by
  have L0 := Lib.hid (show BSl (w.alloc (.cells #[.int .u8 120] 5 (1, 2))) (some ⟨w.heap.size, 0, none⟩) 1 1 [120] from bsl_one w 120 (1, 2) ⟨by decide, by decide⟩)
  have hcv := Joins.run_convert_bytes_const_at (P := Try.prog) w 23 5 #[.int .u8 120] 1 1 w.heap.size rfl Try.underlying23 Try.underlying5
  have hq : ((str exT).toList == (⟨#[0, 10, 8, 0, 120]⟩ : ByteArray).toList) = true := by rw [show (⟨#[0, 10, 8, 0, 120]⟩ : ByteArray) = str exT from rfl]; exact beq_self_eq_true _
  go_enter Try.func7, Try.ntmps7
  go_wp2_with (first
    | (go_at_call 12; (with_reducible refine (ex_add _ _ _ L0.out).mono ?_); rintro e w1 ⟨A1, n1, c1, rfl, s1, hb1⟩)
    | (go_at_call 8; (with_reducible refine (strip_form 0 0 0 none 0 0 _ (by decide)).mono ?_); rintro e w2 ⟨A2, n2, c2, rfl, s2, hb2⟩; obtain ⟨p2, q2⟩ := bcell hb2; have z2 : w1.heap.size < w2.heap.size := by { have := hb2.size; simp at this; omega }; have hx := run_string_bsl (w2.alloc (.cells #[.int .u64 0, .int .u64 0, .int .i64 0, .slice A2 n2 c2] 25)) A1 n1 c1 exT (((s1.alloc _).below hb2).alloc _))
    | (go_at_call 11; (with_reducible refine (is_as _ _ _ A1 n1 c1 _ true rfl).mono ?_); rintro e w3 ⟨rfl, hb3⟩))
  go_ret
  exact ⟨rfl, trans_below (one_below hb1) (trans_below (one_below hb2) (one_below hb3))⟩
end Go.Proofs.Ytojkcejpihomhaa
