/- The walk of the statement EtherTakes. -/
import Derived.Test.YtodjgodbkhdglaaFworks
namespace Go.Proofs.Ytodjgodbkhdglaa
open Go.RowKit
open Go.Lib (byteCells)

theorem refSame_self (D S T : Int) (l : List UInt8) (A : Option Addr) (n c : Nat) (B : Option Addr) (m d : Nat) (w : World) (h : BSl w A n c l) (g : BSl w B m d l) :
    Calls Try.prog 10 #[.agg #[.int .u64 D, .int .u64 S, .int .i64 T, .slice A n c], .agg #[.int .u64 D, .int .u64 S, .int .i64 T, .slice B m d]] w fun e w' => e = .returned (.bool true) ∧ Below w.heap.size w w' := by
  have := refSame_any D S T A n c l D S T B m d l w h g
  rw [smB_self] at this
  exact this

set_option maxHeartbeats 2000000 in
theorem takes_walk (A : Option Addr) (n c : Nat) (l : List UInt8) (w : World) (h : BSl w A n c l) :
    Calls Try.prog 3 #[.slice A n c] w fun e w' => e = .returned (.bool true) ∧ Below w.heap.size w w' := by
  by_cases h4 : 4000 < n
  · go_enter Try.func3, Try.ntmps3
    go_wp2_with (go_at_call 7; (with_reducible refine (works04_any _).mono ?_); rintro e w1 ⟨rfl, hb1⟩)
    go_ret
    exact ⟨rfl, hb1⟩
  · have HS := Lib.hid h
    have h5 : (n : Int) ≤ 4000 := by omega
    clear h
    go_enter Try.func3, Try.ntmps3
    go_wp2_with (first
      | (go_at_call 8; (with_reducible refine (ftake_any A n c l _ HS.out).mono ?_); rintro e w1 ⟨A1, n1, c1, rfl, s1, hb1⟩)
      | (go_at_call 9; (with_reducible refine (rtake_any A n c l _ ((HS.out.below hb1).alloc _)).mono ?_); rintro e w2 ⟨A2, n2, c2, rfl, s2, hb2⟩; obtain ⟨p2, q2⟩ := bcell hb2; have z2 : w1.heap.size < w2.heap.size := by { have := hb2.size; simp at this; omega })
      | (go_at_call 10; (with_reducible refine (refSame_self _ _ _ (tL l) A1 n1 c1 A2 n2 c2 _ (((s1.alloc _).below hb2).alloc _) (s2.alloc _)).mono ?_); rintro e w3 ⟨rfl, hb3⟩)
      | (go_at_call 7; (with_reducible refine (works04_any _).mono ?_); rintro e w4 ⟨rfl, hb4⟩))
    go_ret
    exact ⟨by simp, trans_below hb1 (trans_below (one_below hb2) (trans_below (one_below hb3) hb4))⟩
end Go.Proofs.Ytodjgodbkhdglaa
