/- The walk of the statement TagStrips. -/
import Derived.Test.YtojkcejpihomhaaTagWorks
namespace Go.Proofs.Ytojkcejpihomhaa
open Go.RowKit
open Go.Lib (byteCells)

/-- three frames' boxes, wherever what was there is as it was -/
theorem strips_keep {w w1 w2 w' : World} {D S T D' S' T' : Int} {A A1 A2 : Option Addr} {n c n1 c1 n2 c2 : Nat}
    (hb1 : Below (w.alloc (.cells #[.int .u64 D, .int .u64 S, .int .i64 T, .slice A n c] 25)).heap.size (w.alloc (.cells #[.int .u64 D, .int .u64 S, .int .i64 T, .slice A n c] 25)) w1)
    (hb2 : Below (w1.alloc (.cells #[.int .u64 D', .int .u64 S', .int .i64 T', .slice A1 n1 c1] 25)).heap.size (w1.alloc (.cells #[.int .u64 D', .int .u64 S', .int .i64 T', .slice A1 n1 c1] 25)) w2)
    (h : Below (w2.alloc (.cells #[.int .u64 D', .int .u64 S', .int .i64 T', .slice A2 n2 c2] 25)).heap.size (w2.alloc (.cells #[.int .u64 D', .int .u64 S', .int .i64 T', .slice A2 n2 c2] 25)) w') :
    w'.cell? ⟨w.heap.size, 0, none⟩ = some (.int .u64 D) ∧ w'.cell? ⟨w.heap.size, 1, none⟩ = some (.int .u64 S) ∧ w'.cell? ⟨w.heap.size, 2, none⟩ = some (.int .i64 T) ∧ w'.cell? ⟨w.heap.size, 3, none⟩ = some (.slice A n c) ∧
    w'.cell? ⟨w1.heap.size, 0, none⟩ = some (.int .u64 D') ∧ w'.cell? ⟨w1.heap.size, 1, none⟩ = some (.int .u64 S') ∧ w'.cell? ⟨w1.heap.size, 2, none⟩ = some (.int .i64 T') ∧ w'.cell? ⟨w1.heap.size, 3, none⟩ = some (.slice A1 n1 c1) ∧
    w'.cell? ⟨w2.heap.size, 0, none⟩ = some (.int .u64 D') ∧ w'.cell? ⟨w2.heap.size, 1, none⟩ = some (.int .u64 S') ∧ w'.cell? ⟨w2.heap.size, 2, none⟩ = some (.int .i64 T') ∧ w'.cell? ⟨w2.heap.size, 3, none⟩ = some (.slice A2 n2 c2) ∧
    Below (w2.alloc (.cells #[.int .u64 D', .int .u64 S', .int .i64 T', .slice A2 n2 c2] 25)).heap.size (w2.alloc (.cells #[.int .u64 D', .int .u64 S', .int .i64 T', .slice A2 n2 c2] 25)) w' := by
  obtain ⟨h0, h1, h2, h3, _⟩ := box_keep h
  have g := trans_below hb2 (one_below h)
  obtain ⟨g0, g1, g2, g3, _⟩ := box_keep g
  obtain ⟨f0, f1, f2, f3, _⟩ := box_keep (trans_below hb1 (one_below g))
  exact ⟨f0, f1, f2, f3, g0, g1, g2, g3, h0, h1, h2, h3, h⟩

theorem strips_long (D S T : Int) (A : Option Addr) (n c : Nat) (w : World) (h : 4000 < n) :
    Calls Try.prog 3 #[.agg #[.int .u64 D, .int .u64 S, .int .i64 T, .slice A n c]] w fun e w' => e = .returned (.bool true) ∧ Below w.heap.size w w' := by
  go_enter Try.func3, Try.ntmps3
  go_wp2_with (go_at_call 7; (with_reducible refine (works05_any _).mono ?_); rintro e w1 ⟨rfl, hb1⟩)
  go_ret
  exact ⟨rfl, one_below hb1⟩

set_option maxHeartbeats 4000000 in
theorem strips_main (D S T : Int) (A : Option Addr) (n c : Nat) (l : List UInt8) (w : World) (h : BSl w A n c l) (hn : n ≤ 4000) :
    Calls Try.prog 3 #[.agg #[.int .u64 D, .int .u64 S, .int .i64 T, .slice A n c]] w fun e w' => e = .returned (.bool true) ∧ Below w.heap.size w w' := by
  have H1 : ∀ w : World, BSl w A n c l → Calls Try.prog 8 #[.agg #[.int .u64 D, .int .u64 S, .int .i64 T, .slice A n c]] w (GotStrip w D S T l) := fun w h => strip_any D S T A n c l w h (by omega)
  have H2 : ∀ w : World, BSl w A n c l → Calls Try.prog 9 #[.agg #[.int .u64 D, .int .u64 S, .int .i64 T, .slice A n c]] w (GotStrip w D S T l) := fun w h => rstrip_any D S T A n c l w h (by omega)
  unfold GotStrip at H1 H2
  generalize oi (sE T l) D = D' at H1 H2
  generalize oi (sE T l) S = S' at H1 H2
  generalize oi (sE T l) (two l 2) = T' at H1 H2
  generalize ol (sE T l) (l.drop 4) = l' at H1 H2
  generalize oi (sE T l) (two l 0 % 4096) = v' at H1 H2
  generalize oi (sE T l) (two l 0 / 4096) = p' at H1 H2
  generalize sE T l = E' at H1 H2
  have H1 := Lib.hid H1
  have H2 := Lib.hid H2
  have HS := Lib.hid h
  have i1 : (n : Int) ≤ 4000 := by omega
  obtain ⟨v, hv⟩ : ∃ v, (T == 33024) = v := ⟨_, rfl⟩
  have HV := Lib.hid hv
  clear h
  go_enter Try.func3, Try.ntmps3
  go_wp2_with (first
    | (go_at_call 8; (with_reducible refine (H1.out _ (HS.out.alloc _)).mono ?_); rintro e w1 ⟨A1, n1, c1, rfl, s1, hb1⟩; obtain ⟨p1, q1⟩ := bcell hb1; have z1 : w.heap.size < w1.heap.size := by { have := hb1.size; simp at this; omega })
    | (go_at_call 9; (with_reducible refine (H2.out _ (((HS.out.alloc _).below hb1).alloc _)).mono ?_); rintro e w2 ⟨A2, n2, c2, rfl, s2, hb2⟩; have S1 := Lib.hid ((s1.alloc _).below hb2)))
  have S2 := Lib.hid s2
  have HK := Lib.hid (fun w' h => strips_keep (w' := w') (A2 := A2) (n2 := n2) (c2 := c2) hb1 hb2 h)
  have R0 := Lib.hid (show Below (w2.alloc (.cells #[.int .u64 D', .int .u64 S', .int .i64 T', .slice A2 n2 c2] 25)).heap.size (w2.alloc (.cells #[.int .u64 D', .int .u64 S', .int .i64 T', .slice A2 n2 c2] 25)) (w2.alloc (.cells #[.int .u64 D', .int .u64 S', .int .i64 T', .slice A2 n2 c2] 25)).drew from below_drewN (Below.refl _ _) 1)
  have HE := Lib.hid (show ∀ w', Below (w2.alloc (.cells #[.int .u64 D', .int .u64 S', .int .i64 T', .slice A2 n2 c2] 25)).heap.size (w2.alloc (.cells #[.int .u64 D', .int .u64 S', .int .i64 T', .slice A2 n2 c2] 25)) w' → Below w.heap.size w w' from fun w' h => one_below (trans_below hb1 (one_below (trans_below hb2 (one_below h)))))
  clear p1 q1 s1 s2 hb1 hb2
  go_region_held_law (fun w' => w'.cell? ⟨w.heap.size, 0, none⟩ = some (.int .u64 D) ∧ w'.cell? ⟨w.heap.size, 1, none⟩ = some (.int .u64 S) ∧ w'.cell? ⟨w.heap.size, 2, none⟩ = some (.int .i64 T) ∧ w'.cell? ⟨w.heap.size, 3, none⟩ = some (.slice A n c) ∧
    w'.cell? ⟨w1.heap.size, 0, none⟩ = some (.int .u64 D') ∧ w'.cell? ⟨w1.heap.size, 1, none⟩ = some (.int .u64 S') ∧ w'.cell? ⟨w1.heap.size, 2, none⟩ = some (.int .i64 T') ∧ w'.cell? ⟨w1.heap.size, 3, none⟩ = some (.slice A1 n1 c1) ∧
    w'.cell? ⟨w2.heap.size, 0, none⟩ = some (.int .u64 D') ∧ w'.cell? ⟨w2.heap.size, 1, none⟩ = some (.int .u64 S') ∧ w'.cell? ⟨w2.heap.size, 2, none⟩ = some (.int .i64 T') ∧ w'.cell? ⟨w2.heap.size, 3, none⟩ = some (.slice A2 n2 c2) ∧
    Below (w2.alloc (.cells #[.int .u64 D', .int .u64 S', .int .i64 T', .slice A2 n2 c2] 25)).heap.size (w2.alloc (.cells #[.int .u64 D', .int .u64 S', .int .i64 T', .slice A2 n2 c2] 25)) w')
    (first | exact HK.out _ B5 | exact HK.out _ B4 | exact HK.out _ B3 | exact HK.out _ R0.out | fail)
    (first
      | (go_at_call 10; (with_reducible refine (refSame_self D' S' T' l' A1 n1 c1 A2 n2 c2 _ ((S1.out.alloc _).drew1) ((S2.out.alloc _).drew1)).mono ?_); rintro e w3 ⟨rfl, hb3⟩; have B3 := trans_below R0.out hb3)
      | (go_at_call 11; (with_reducible refine (is_as D S T A n c _ v HV.out).mono ?_); rintro e w4 ⟨rfl, hb4⟩; have B4 := trans_below B3 hb4)
      | (go_at_call 7; (with_reducible refine (works05_any _).mono ?_); rintro e w5 ⟨rfl, hb5⟩; have B5 := trans_below B4 hb5))
  go_wp2
  go_ret
  exact ⟨by simp, HE.out _ B5⟩

theorem strips_walk (D S T : Int) (A : Option Addr) (n c : Nat) (l : List UInt8) (w : World) (h : BSl w A n c l) :
    Calls Try.prog 3 #[.agg #[.int .u64 D, .int .u64 S, .int .i64 T, .slice A n c]] w fun e w' => e = .returned (.bool true) ∧ Below w.heap.size w w' := by
  by_cases hn : 4000 < n
  · exact strips_long D S T A n c w hn
  · exact strips_main D S T A n c l w h (by omega)
end Go.Proofs.Ytojkcejpihomhaa
