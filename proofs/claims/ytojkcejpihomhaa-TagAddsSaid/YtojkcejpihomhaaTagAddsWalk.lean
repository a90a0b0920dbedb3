/- The walk of the statement TagAdds. -/
import Derived.Test.YtojkcejpihomhaaTagWorks
namespace Go.Proofs.Ytojkcejpihomhaa
open Go.RowKit
open Go.Lib (byteCells)

theorem adds_long (D S T : Int) (A : Option Addr) (n c : Nat) (v p : Int) (w : World) (h : 4000 < n) :
    Calls Try.prog 4 #[.agg #[.int .u64 D, .int .u64 S, .int .i64 T, .slice A n c], .int .i64 v, .int .i64 p] w fun e w' => e = .returned (.bool true) ∧ Below w.heap.size w w' := by
  go_enter Try.func4, Try.ntmps4
  go_wp2_with (go_at_call 7; (with_reducible refine (works05_any _).mono ?_); rintro e w1 ⟨rfl, hb1⟩)
  go_ret
  exact ⟨rfl, one_below hb1⟩

set_option maxHeartbeats 4000000 in
theorem adds_main (D S T : Int) (A : Option Addr) (n c : Nat) (l : List UInt8) (v p : Int) (w : World) (h : BSl w A n c l) (hn : n ≤ 4000) :
    Calls Try.prog 4 #[.agg #[.int .u64 D, .int .u64 S, .int .i64 T, .slice A n c], .int .i64 v, .int .i64 p] w fun e w' => e = .returned (.bool true) ∧ Below w.heap.size w w' := by
  have H1 : ∀ w : World, BSl w A n c l → Calls Try.prog 12 #[.agg #[.int .u64 D, .int .u64 S, .int .i64 T, .slice A n c], .int .i64 v, .int .i64 p] w (GotAdd w D S T l v p) := fun w h => add_any D S T A n c l v p w h
  have H2 : ∀ w : World, BSl w A n c l → Calls Try.prog 13 #[.agg #[.int .u64 D, .int .u64 S, .int .i64 T, .slice A n c], .int .i64 v, .int .i64 p] w (GotAdd w D S T l v p) := fun w h => radd_any D S T A n c l v p w h
  unfold GotAdd at H1 H2
  generalize oi (aE T v p l.length) D = D' at H1 H2
  generalize oi (aE T v p l.length) S = S' at H1 H2
  generalize oi (aE T v p l.length) 33024 = T' at H1 H2
  generalize ol (aE T v p l.length) (tbs v p T l) = l' at H1 H2
  generalize aE T v p l.length = E' at H1 H2
  have H1 := Lib.hid H1
  have H2 := Lib.hid H2
  have HS := Lib.hid h
  have i1 : (n : Int) ≤ 4000 := by omega
  clear h
  go_enter Try.func4, Try.ntmps4
  go_wp2_with (first
    | (go_at_call 12; (with_reducible refine (H1.out _ (HS.out.alloc _)).mono ?_); rintro e w1 ⟨A1, n1, c1, rfl, s1, hb1⟩; obtain ⟨p1, q1⟩ := bcell hb1; have z1 : w.heap.size < w1.heap.size := by { have := hb1.size; simp at this; omega })
    | (go_at_call 13; (with_reducible refine (H2.out _ (((HS.out.alloc _).below hb1).alloc _)).mono ?_); rintro e w2 ⟨A2, n2, c2, rfl, s2, hb2⟩; obtain ⟨p2, q2⟩ := bcell hb2; have z2 : w1.heap.size < w2.heap.size := by { have := hb2.size; simp at this; omega })
    | (go_at_call 10; (with_reducible refine (refSame_self D' S' T' l' A1 n1 c1 A2 n2 c2 _ (((s1.alloc _).below hb2).alloc _) (s2.alloc _)).mono ?_); rintro e w3 ⟨rfl, hb3⟩)
    | (go_at_call 7; (with_reducible refine (works05_any _).mono ?_); rintro e w4 ⟨rfl, hb4⟩))
  go_ret
  exact ⟨by simp, trans_below (one_below hb1) (trans_below (one_below hb2) (trans_below (one_below hb3) hb4))⟩

theorem adds_walk (D S T : Int) (A : Option Addr) (n c : Nat) (l : List UInt8) (v p : Int) (w : World) (h : BSl w A n c l) :
    Calls Try.prog 4 #[.agg #[.int .u64 D, .int .u64 S, .int .i64 T, .slice A n c], .int .i64 v, .int .i64 p] w fun e w' => e = .returned (.bool true) ∧ Below w.heap.size w w' := by
  by_cases hn : 4000 < n
  · exact adds_long D S T A n c v p w hn
  · exact adds_main D S T A n c l v p w h (by omega)
end Go.Proofs.Ytojkcejpihomhaa
