/- Stores of ints over ints, behind the blocks ahead of B: what stays. -/
import Derived.Test.YtocobjekcdabgaaNtWorks
namespace Go.Proofs.Ytocobjekcdabgaa
open Go.RowKit

/-- ints were stored over ints, in blocks from B on; the blocks that F names are not frozen -/
structure IntSt (B : Nat) (F : Nat → Prop) (w3 wr : World) : Prop where
  low : Below B w3 wr
  ints : ∀ b o v, w3.cell? ⟨b, o, none⟩ = some v → wr.cell? ⟨b, o, none⟩ = some v ∨ ((∃ x, v = .int .i64 x) ∧ ∃ y, wr.cell? ⟨b, o, none⟩ = some (.int .i64 y))
  free : ∀ b o, F b → wr.frozen? ⟨b, o, none⟩ = false
theorem IntSt.int {B : Nat} {F : Nat → Prop} {w3 wr : World} (h : IntSt B F w3 wr) {b o : Nat} {x : Int} (hc : w3.cell? ⟨b, o, none⟩ = some (.int .i64 x)) : ∃ y, wr.cell? ⟨b, o, none⟩ = some (.int .i64 y) := by
  rcases h.ints b o _ hc with h1 | ⟨_, h1⟩
  · exact ⟨x, h1⟩
  · exact h1
theorem IntSt.sl {B : Nat} {F : Nat → Prop} {w3 wr : World} (h : IntSt B F w3 wr) {b o : Nat} {A : Option Addr} {n c : Nat} (hc : w3.cell? ⟨b, o, none⟩ = some (.slice A n c)) : wr.cell? ⟨b, o, none⟩ = some (.slice A n c) := by
  rcases h.ints b o _ hc with h1 | ⟨⟨x, hx⟩, _⟩
  · exact h1
  · cases hx
theorem IntSt.set {B : Nat} {F : Nat → Prop} {w3 wr : World} (h : IntSt B F w3 wr) {b o : Nat} (hb : B ≤ b) {y : Int} (hc : wr.cell? ⟨b, o, none⟩ = some (.int .i64 y)) (z : Int) : IntSt B F w3 (wr.setCell ⟨b, o, none⟩ (.int .i64 z)) := by
  refine ⟨h.low.setCell hb _, ?_, fun b' o' hF => (World.frozen?_setCell _ _ _ _).trans (h.free b' o' hF)⟩
  intro b' o' v hv
  by_cases e : (⟨b, o, none⟩ : Addr) = ⟨b', o', none⟩
  · injection e with e1 e2
    subst e1
    subst e2
    right
    refine ⟨?_, z, World.cell?_setCell_same _ _ _ hc⟩
    rcases h.ints b o _ hv with h1 | ⟨h1, _⟩
    · rw [hc] at h1
      injection h1 with h1
      exact ⟨y, h1.symm⟩
    · exact h1
  · rw [World.cell?_setCell_other _ _ _ _ (by first | exact e | exact fun h => e h.symm)]
    exact h.ints b' o' v hv
end Go.Proofs.Ytocobjekcdabgaa
