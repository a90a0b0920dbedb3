/- The contract of palinglaw04.works, the chapter's example: it holds. -/
import Derived.Test.YtodjgodbkhdglaaFmath
namespace Go.Proofs.Ytodjgodbkhdglaa
open Go.RowKit
open Go.Lib (byteCells)

theorem fbs_ex : fbs 281474976710655 1 2048 [97] = [255, 255, 255, 255, 255, 255, 0, 0, 0, 0, 0, 1, 8, 0, 97] := by decide +kernel
theorem fok_ex : fok 281474976710655 1 2048 := by decide
/-- the example's bytes -/
def exL : List UInt8 := [255, 255, 255, 255, 255, 255, 0, 0, 0, 0, 0, 1, 8, 0, 97]
theorem exL_len : exL.length = 15 := rfl
theorem ex_put (A : Option Addr) (c : Nat) (w : World) (h : BSl w A 1 c [97]) :
    Calls Try.prog 11 #[.agg #[.int .u64 281474976710655, .int .u64 1, .int .i64 2048, .slice A 1 c]] w (GotB w exL 0) := by
  have := fput_any 281474976710655 1 2048 A 1 c [97] w h
  have e : pE 281474976710655 1 2048 ([97] : List UInt8).length = 0 := by decide
  have e2 : pL 281474976710655 1 2048 [97] = exL := by unfold pL; rw [e]; exact fbs_ex
  rw [e, e2] at this
  exact this
theorem ex_take (A : Option Addr) (n c : Nat) (w : World) (h : BSl w A n c exL) :
    Calls Try.prog 8 #[.slice A n c] w (GotF w 281474976710655 1 2048 [97] 0) := by
  have := ftake_any A n c exL w h
  have e : tE exL = 0 := by decide
  obtain ⟨e1, e2, e3, e4⟩ := t_some e
  have f1 : mbAt exL 0 = 281474976710655 := by decide +kernel
  have f2 : mbAt exL 6 = 1 := by decide +kernel
  have f3 : two exL 12 = 2048 := by decide +kernel
  have f4 : exL.drop 14 = [97] := rfl
  rw [e, e1, e2, e3, e4, f1, f2, f3, f4] at this
  exact this
theorem ex_same (A : Option Addr) (n c : Nat) (B : Option Addr) (m d : Nat) (w : World) (h : BSl w A n c [97]) (g : BSl w B m d [97]) :
    Calls Try.prog 13 #[.agg #[.int .u64 281474976710655, .int .u64 1, .int .i64 2048, .slice A n c], .agg #[.int .u64 281474976710655, .int .u64 1, .int .i64 2048, .slice B m d]] w fun e w' => e = .returned (.bool true) ∧ Below w.heap.size w w' := by
  have := same_any 281474976710655 1 2048 A n c [97] 281474976710655 1 2048 B m d [97] w h g
  rw [smB_self] at this
  exact this

set_option maxHeartbeats 1000000 in
theorem works04_any (w : World) : Calls Try.prog 7 #[] w fun e w' => e = .returned (.bool true) ∧ Below w.heap.size w w' := by
  have L0 := Lib.hid (show BSl (w.alloc (.cells #[.int .u8 97] 5 (1, 2))) (some ⟨w.heap.size, 0, none⟩) 1 1 [97] from bsl_one w 97 (1, 2) ⟨by decide, by decide⟩)
  have hcv := Joins.run_convert_bytes_const_at (P := Try.prog) w 22 5 #[.int .u8 97] 1 1 w.heap.size rfl Try.underlying22 Try.underlying5
  go_enter Try.func7, Try.ntmps7
  have hq : ((str exL).toList == (⟨#[255, 255, 255, 255, 255, 255, 0, 0, 0, 0, 0, 1, 8, 0, 97]⟩ : ByteArray).toList) = true := by rw [show (⟨#[255, 255, 255, 255, 255, 255, 0, 0, 0, 0, 0, 1, 8, 0, 97]⟩ : ByteArray) = str exL from rfl]; exact beq_self_eq_true _
  go_wp2_with (first
    | (go_at_call 11; (with_reducible refine (ex_put _ _ _ (L0.out.alloc _)).mono ?_); rintro e w1 ⟨A1, n1, c1, rfl, s1, hb1⟩; obtain ⟨p1, q1⟩ := bcell hb1; have z1 : w.heap.size + 1 < w1.heap.size := by { have := hb1.size; simp at this; omega })
    | (go_at_call 8; (with_reducible refine (ex_take A1 n1 c1 _ s1).mono ?_); rintro e w2 ⟨A2, n2, c2, rfl, s2, hb2⟩; obtain ⟨p2, q2⟩ := bcell hb2; have z2 : w.heap.size + 1 < w2.heap.size := Nat.lt_of_lt_of_le z1 hb2.size; have hx := run_string_bsl (w2.alloc (.cells #[.int .u64 281474976710655, .int .u64 1, .int .i64 2048, .slice A2 n2 c2] 26)) A1 n1 c1 exL ((s1.below hb2).alloc _))
    | (go_at_call 13; (with_reducible refine (ex_same _ _ _ A2 n2 c2 _ ((((L0.out.alloc _).below hb1).below hb2).alloc _) (s2.alloc _)).mono ?_); rintro e w3 ⟨rfl, hb3⟩))
  go_ret
  exact ⟨rfl, trans_below (two_below hb1) (trans_below hb2 (one_below hb3))⟩
end Go.Proofs.Ytodjgodbkhdglaa
