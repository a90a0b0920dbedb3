/- The walk of the statement EtherPuts. -/
import Derived.Test.YtodjgodbkhdglaaFworks
import Derived.Test.YtodjgodbkhdglaaTakesWalk
namespace Go.Proofs.Ytodjgodbkhdglaa
open Go.RowKit
open Go.Lib (byteCells)

/-- two frames' boxes, and two slices of bytes, wherever what was there is as it was -/
theorem puts_keep {w w0 w' : World} {D S T D' S' T' : Int} {A B A1 A2 : Option Addr} {n c m d n1 c1 n2 c2 : Nat} {l1 l2 : List UInt8}
    (h0 : Below ((w.alloc (.cells #[.int .u64 D, .int .u64 S, .int .i64 T, .slice A n c] 26)).alloc (.cells #[.int .u64 D', .int .u64 S', .int .i64 T', .slice B m d] 26)).heap.size
      ((w.alloc (.cells #[.int .u64 D, .int .u64 S, .int .i64 T, .slice A n c] 26)).alloc (.cells #[.int .u64 D', .int .u64 S', .int .i64 T', .slice B m d] 26)) w0)
    (s1 : BSl w0 A1 n1 c1 l1) (s2 : BSl w0 A2 n2 c2 l2) (h : Below w0.heap.size w0 w') :
    w'.cell? ⟨w.heap.size, 0, none⟩ = some (.int .u64 D) ∧ w'.cell? ⟨w.heap.size, 1, none⟩ = some (.int .u64 S) ∧ w'.cell? ⟨w.heap.size, 2, none⟩ = some (.int .i64 T) ∧ w'.cell? ⟨w.heap.size, 3, none⟩ = some (.slice A n c) ∧
    w'.cell? ⟨w.heap.size + 1, 0, none⟩ = some (.int .u64 D') ∧ w'.cell? ⟨w.heap.size + 1, 1, none⟩ = some (.int .u64 S') ∧ w'.cell? ⟨w.heap.size + 1, 2, none⟩ = some (.int .i64 T') ∧ w'.cell? ⟨w.heap.size + 1, 3, none⟩ = some (.slice B m d) ∧
    (convert 22 9 (.slice A1 n1 c1)).run Try.prog w' = .ok (.string (str l1)) w' ∧ (convert 22 9 (.slice A2 n2 c2)).run Try.prog w' = .ok (.string (str l2)) w' ∧
    Below w0.heap.size w0 w' := by
  have h1 := trans_below h0 h
  have z0 : w.heap.size < ((w.alloc (.cells #[.int .u64 D, .int .u64 S, .int .i64 T, .slice A n c] 26)).alloc (.cells #[.int .u64 D', .int .u64 S', .int .i64 T', .slice B m d] 26)).heap.size := by simp; omega
  have z1 : w.heap.size + 1 < ((w.alloc (.cells #[.int .u64 D, .int .u64 S, .int .i64 T, .slice A n c] 26)).alloc (.cells #[.int .u64 D', .int .u64 S', .int .i64 T', .slice B m d] 26)).heap.size := by simp
  have k0 := fun j => h1.cell (p := ⟨w.heap.size, j, none⟩) z0
  have k1 := fun j => h1.cell (p := ⟨w.heap.size + 1, j, none⟩) z1
  refine ⟨?_, ?_, ?_, ?_, ?_, ?_, ?_, ?_, run_string_bsl w' A1 n1 c1 l1 (s1.below h), run_string_bsl w' A2 n2 c2 l2 (s2.below h), h⟩
  · rw [k0]; simp
  · rw [k0]; simp
  · rw [k0]; simp
  · rw [k0]; simp
  · rw [k1]; simp
  · rw [k1]; simp
  · rw [k1]; simp
  · rw [k1]; simp

theorem puts_long (D S T : Int) (A : Option Addr) (n c : Nat) (D' S' T' : Int) (B : Option Addr) (m d : Nat) (w : World) (h : 4000 < n ∨ 4000 < m) :
    Calls Try.prog 4 #[.agg #[.int .u64 D, .int .u64 S, .int .i64 T, .slice A n c], .agg #[.int .u64 D', .int .u64 S', .int .i64 T', .slice B m d]] w fun e w' => e = .returned (.bool true) ∧ Below w.heap.size w w' := by
  have hz : w.heap.size < w.heap.size + 1 + 1 := by omega
  by_cases h1 : 4000 < n
  · clear h
    go_enter Try.func4, Try.ntmps4
    go_wp2_with (go_at_call 7; (with_reducible refine (works04_any _).mono ?_); rintro e w1 ⟨rfl, hb1⟩)
    go_ret
    exact ⟨rfl, two_below hb1⟩
  · have h2 : 4000 < m := by omega
    have h3 : (n : Int) ≤ 4000 := by omega
    clear h h1
    go_enter Try.func4, Try.ntmps4
    go_wp2_with (go_at_call 7; (with_reducible refine (works04_any _).mono ?_); rintro e w1 ⟨rfl, hb1⟩)
    go_ret
    exact ⟨rfl, two_below hb1⟩

set_option maxHeartbeats 4000000 in
theorem puts_main (D S T : Int) (A : Option Addr) (n c : Nat) (l : List UInt8) (D' S' T' : Int) (B : Option Addr) (m d : Nat) (k : List UInt8) (w : World) (hA : BSl w A n c l) (hB : BSl w B m d k) (hn : n ≤ 4000) (hm : m ≤ 4000) (hD : 0 ≤ D) (hS : 0 ≤ S) :
    Calls Try.prog 4 #[.agg #[.int .u64 D, .int .u64 S, .int .i64 T, .slice A n c], .agg #[.int .u64 D', .int .u64 S', .int .i64 T', .slice B m d]] w fun e w' => e = .returned (.bool true) ∧ Below w.heap.size w w' := by
  have HA := Lib.hid (show BSl ((w.alloc (.cells #[.int .u64 D, .int .u64 S, .int .i64 T, .slice A n c] 26)).alloc (.cells #[.int .u64 D', .int .u64 S', .int .i64 T', .slice B m d] 26)) A n c l from (hA.alloc _).alloc _)
  have HB := Lib.hid (show BSl ((w.alloc (.cells #[.int .u64 D, .int .u64 S, .int .i64 T, .slice A n c] 26)).alloc (.cells #[.int .u64 D', .int .u64 S', .int .i64 T', .slice B m d] 26)) B m d k from (hB.alloc _).alloc _)
  have i1 : (n : Int) ≤ 4000 := by omega
  have i2 : (m : Int) ≤ 4000 := by omega
  have hz : w.heap.size < w.heap.size + 1 + 1 := by omega
  clear hA hB
  go_enter Try.func4, Try.ntmps4
  go_wp2_with (first
    | (go_at_call 11; (with_reducible refine (fput_any D S T A n c l _ HA.out).mono ?_); rintro e w1 ⟨A1, n1, c1, rfl, s1, hb1⟩; obtain ⟨p1, q1⟩ := bcell hb1; have z1 : w.heap.size < w1.heap.size := by { have := hb1.size; simp at this; omega })
    | (go_at_call 12; (with_reducible refine (rput_any D S T A n c l _ (HA.out.below hb1) hD hS).mono ?_); rintro e w2 ⟨A2, n2, c2, rfl, s2, hb2⟩; have HC := Lib.hid (trans_below hb1 hb2); have S1 := Lib.hid (s1.below hb2); have S2 := Lib.hid s2; clear p1 q1 s1 s2 hb1 hb2))
  have HK := Lib.hid (fun w' h => puts_keep (w' := w') HC.out S1.out S2.out h)
  have HA3 := Lib.hid (show ∀ w', Below w2.heap.size w2 w' → BSl w' A n c l from fun w' h => (HA.out.below HC.out).below h)
  have HB3 := Lib.hid (show ∀ w', Below w2.heap.size w2 w' → BSl w' B m d k from fun w' h => (HB.out.below HC.out).below h)
  have R0 := Lib.hid (show Below w2.heap.size w2 w2.drew from below_drewN (Below.refl w2.heap.size w2) 1)
  go_region_held_law (fun w' => w'.cell? ⟨w.heap.size, 0, none⟩ = some (.int .u64 D) ∧ w'.cell? ⟨w.heap.size, 1, none⟩ = some (.int .u64 S) ∧ w'.cell? ⟨w.heap.size, 2, none⟩ = some (.int .i64 T) ∧ w'.cell? ⟨w.heap.size, 3, none⟩ = some (.slice A n c) ∧
    w'.cell? ⟨w.heap.size + 1, 0, none⟩ = some (.int .u64 D') ∧ w'.cell? ⟨w.heap.size + 1, 1, none⟩ = some (.int .u64 S') ∧ w'.cell? ⟨w.heap.size + 1, 2, none⟩ = some (.int .i64 T') ∧ w'.cell? ⟨w.heap.size + 1, 3, none⟩ = some (.slice B m d) ∧
    (convert 22 9 (.slice A1 n1 c1)).run Try.prog w' = .ok (.string (str (pL D S T l))) w' ∧ (convert 22 9 (.slice A2 n2 c2)).run Try.prog w' = .ok (.string (str (pL D S T l))) w' ∧ Below w2.heap.size w2 w')
    (first | exact HK.out _ B7 | exact HK.out _ B6 | exact HK.out _ B5 | exact HK.out _ B4 | exact HK.out _ B3 | exact HK.out _ R0.out | fail)
    (first
      | (go_at_call 13; (with_reducible refine (same_any D S T A n c l D' S' T' B m d k _ (HA3.out _ R0.out) (HB3.out _ R0.out)).mono ?_); rintro e w3 ⟨rfl, hb3⟩; have B3 := trans_below R0.out hb3)
      | (go_at_call 10; (with_reducible refine (refSame_any D S T A n c l D' S' T' B m d k _ (HA3.out _ B3) (HB3.out _ B3)).mono ?_); rintro e w4 ⟨rfl, hb4⟩; have B4 := trans_below B3 hb4)
      | (go_at_call 14; (with_reducible refine (copy_any D S T A n c l _ (by omega) (HA3.out _ B4)).mono ?_); rintro e w5 ⟨A5, c5, rfl, ho5, hb5⟩; have B5 := trans_below B4 hb5)
      | (go_at_call 10; (with_reducible refine (refSame_self D S T l A5 n c5 A n c _ (BSl.of_own ho5) (HA3.out _ B5)).mono ?_); rintro e w6 ⟨rfl, hb6⟩; have B6 := trans_below B5 hb6)
      | (go_at_call 7; (with_reducible refine (works04_any _).mono ?_); rintro e w7 ⟨rfl, hb7⟩; have B7 := trans_below B6 hb7))
  go_wp2
  go_ret
  exact ⟨by simp, two_below (trans_below HC.out B7)⟩

theorem puts_walk (D S T : Int) (A : Option Addr) (n c : Nat) (l : List UInt8) (D' S' T' : Int) (B : Option Addr) (m d : Nat) (k : List UInt8) (w : World) (hA : BSl w A n c l) (hB : BSl w B m d k) (hD : 0 ≤ D) (hS : 0 ≤ S) :
    Calls Try.prog 4 #[.agg #[.int .u64 D, .int .u64 S, .int .i64 T, .slice A n c], .agg #[.int .u64 D', .int .u64 S', .int .i64 T', .slice B m d]] w fun e w' => e = .returned (.bool true) ∧ Below w.heap.size w w' := by
  by_cases hn : 4000 < n ∨ 4000 < m
  · exact puts_long D S T A n c D' S' T' B m d w hn
  · exact puts_main D S T A n c l D' S' T' B m d k w hA hB (by omega) (by omega) hD hS
end Go.Proofs.Ytodjgodbkhdglaa
