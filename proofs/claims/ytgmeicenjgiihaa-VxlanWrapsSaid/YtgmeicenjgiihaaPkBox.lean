/- A packet's box, written whole: seven cells. -/
import Derived.Test.YtgmeicenjgiihaaBsl
namespace Go.Proofs.Ytgmeicenjgiihaa
open Go.RowKit
open Go.Lib (byteCells)

/-- seven cells of a block written, one behind the other -/
def put7 (w : World) (q : Nat) (v0 v1 v2 v3 v4 v5 v6 : Value) : World :=
  ((((((w.setCell ⟨q, 0, none⟩ v0).setCell ⟨q, 1, none⟩ v1).setCell ⟨q, 2, none⟩ v2).setCell ⟨q, 3, none⟩ v3).setCell ⟨q, 4, none⟩ v4).setCell ⟨q, 5, none⟩ v5).setCell ⟨q, 6, none⟩ v6
theorem set_other {w : World} {q i j : Nat} {v u : Value} (h : w.cell? ⟨q, i, none⟩ = some u) (hij : i ≠ j) : (w.setCell ⟨q, j, none⟩ v).cell? ⟨q, i, none⟩ = some u := by
  rw [World.cell?_setCell_other _ _ _ _ (by intro e; injection e with _ e2; exact hij e2.symm)]
  exact h
theorem set_kept {w : World} {q i j : Nat} {v : Value} (h : ∃ u, w.cell? ⟨q, i, none⟩ = some u) : ∃ u, (w.setCell ⟨q, j, none⟩ v).cell? ⟨q, i, none⟩ = some u := by
  obtain ⟨u, h⟩ := h
  by_cases hij : i = j
  · subst hij
    exact ⟨v, World.cell?_setCell_same _ _ _ h⟩
  · exact ⟨u, set_other h hij⟩
theorem put7_cells {w : World} {q : Nat} (v0 v1 v2 v3 v4 v5 v6 : Value) (h : ∀ i, i < 7 → ∃ u, w.cell? ⟨q, i, none⟩ = some u) :
    (put7 w q v0 v1 v2 v3 v4 v5 v6).cell? ⟨q, 0, none⟩ = some v0 ∧ (put7 w q v0 v1 v2 v3 v4 v5 v6).cell? ⟨q, 1, none⟩ = some v1 ∧ (put7 w q v0 v1 v2 v3 v4 v5 v6).cell? ⟨q, 2, none⟩ = some v2 ∧
    (put7 w q v0 v1 v2 v3 v4 v5 v6).cell? ⟨q, 3, none⟩ = some v3 ∧ (put7 w q v0 v1 v2 v3 v4 v5 v6).cell? ⟨q, 4, none⟩ = some v4 ∧ (put7 w q v0 v1 v2 v3 v4 v5 v6).cell? ⟨q, 5, none⟩ = some v5 ∧
    (put7 w q v0 v1 v2 v3 v4 v5 v6).cell? ⟨q, 6, none⟩ = some v6 := by
  unfold put7
  have same : ∀ {w : World} {i : Nat} {v : Value}, (∃ u, w.cell? ⟨q, i, none⟩ = some u) → (w.setCell ⟨q, i, none⟩ v).cell? ⟨q, i, none⟩ = some v := fun ⟨u, h⟩ => World.cell?_setCell_same _ _ _ h
  refine ⟨?_, ?_, ?_, ?_, ?_, ?_, ?_⟩
  · exact set_other (set_other (set_other (set_other (set_other (set_other (same (h 0 (by omega))) (by omega)) (by omega)) (by omega)) (by omega)) (by omega)) (by omega)
  · exact set_other (set_other (set_other (set_other (set_other (same (set_kept (h 1 (by omega)))) (by omega)) (by omega)) (by omega)) (by omega)) (by omega)
  · exact set_other (set_other (set_other (set_other (same (set_kept (set_kept (h 2 (by omega))))) (by omega)) (by omega)) (by omega)) (by omega)
  · exact set_other (set_other (set_other (same (set_kept (set_kept (set_kept (h 3 (by omega)))))) (by omega)) (by omega)) (by omega)
  · exact set_other (set_other (same (set_kept (set_kept (set_kept (set_kept (h 4 (by omega))))))) (by omega)) (by omega)
  · exact set_other (same (set_kept (set_kept (set_kept (set_kept (set_kept (h 5 (by omega)))))))) (by omega)
  · exact same (set_kept (set_kept (set_kept (set_kept (set_kept (set_kept (h 6 (by omega))))))))
theorem put7_below {B : Nat} {a w : World} {q : Nat} (v0 v1 v2 v3 v4 v5 v6 : Value) (h : Below B a w) (hq : B ≤ q) : Below B a (put7 w q v0 v1 v2 v3 v4 v5 v6) :=
  (((((((h.setCell hq _).setCell hq _).setCell hq _).setCell hq _).setCell hq _).setCell hq _).setCell hq _)
theorem put7_far {w : World} {B q n : Nat} {e : TypeId} {v : Value} {xs : List Value} (v0 v1 v2 v3 v4 v5 v6 : Value) (h : w.ownsRow B e 1 v n xs) (hq : q < B) : (put7 w q v0 v1 v2 v3 v4 v5 v6).ownsRow B e 1 v n xs :=
  own_far (own_far (own_far (own_far (own_far (own_far (own_far h hq _) hq _) hq _) hq _) hq _) hq _) hq _
/-- a packet and a number, as a call returns them -/
def GotP (w : World) (T I L R S D : Int) (l : List UInt8) (E : Int) (e : Ending) (w' : World) : Prop :=
  ∃ A n c, e = .returned (.tuple #[.agg #[.int .i64 T, .int .i64 I, .int .i64 L, .int .i64 R, .int .u32 S, .int .u32 D, .slice A n c], .int .i64 E]) ∧ BSl w' A n c l ∧ Below w.heap.size w w'

theorem pk_free {w w' : World} {T I L R S D : Int} {A : Option Addr} {n c : Nat}
    (h : Below (w.alloc (.cells #[.int .i64 T, .int .i64 I, .int .i64 L, .int .i64 R, .int .u32 S, .int .u32 D, .slice A n c] 61)).heap.size (w.alloc (.cells #[.int .i64 T, .int .i64 I, .int .i64 L, .int .i64 R, .int .u32 S, .int .u32 D, .slice A n c] 61)) w') :
    ∀ o, w'.frozen? ⟨w.heap.size, o, none⟩ = false := fun o => by
  have hz : w.heap.size < (w.alloc (.cells #[.int .i64 T, .int .i64 I, .int .i64 L, .int .i64 R, .int .u32 S, .int .u32 D, .slice A n c] 61)).heap.size := by simp
  rw [h.frozen (p := ⟨w.heap.size, o, none⟩) hz]; simp
theorem seven {w : World} {q : Nat} {v0 v1 v2 v3 v4 v5 v6 : Value} (h0 : w.cell? ⟨q, 0, none⟩ = some v0) (h1 : w.cell? ⟨q, 1, none⟩ = some v1) (h2 : w.cell? ⟨q, 2, none⟩ = some v2) (h3 : w.cell? ⟨q, 3, none⟩ = some v3)
    (h4 : w.cell? ⟨q, 4, none⟩ = some v4) (h5 : w.cell? ⟨q, 5, none⟩ = some v5) (h6 : w.cell? ⟨q, 6, none⟩ = some v6) : ∀ i, i < 7 → ∃ u, w.cell? ⟨q, i, none⟩ = some u := fun i hi =>
  match i, hi with
  | 0, _ => ⟨_, h0⟩ | 1, _ => ⟨_, h1⟩ | 2, _ => ⟨_, h2⟩ | 3, _ => ⟨_, h3⟩ | 4, _ => ⟨_, h4⟩ | 5, _ => ⟨_, h5⟩ | 6, _ => ⟨_, h6⟩
/-- a block of seven cells, none of them frozen -/
def Box7 (w : World) (q : Nat) (v0 v1 v2 v3 v4 v5 v6 : Value) : Prop :=
  w.cell? ⟨q, 0, none⟩ = some v0 ∧ w.cell? ⟨q, 1, none⟩ = some v1 ∧ w.cell? ⟨q, 2, none⟩ = some v2 ∧ w.cell? ⟨q, 3, none⟩ = some v3 ∧ w.cell? ⟨q, 4, none⟩ = some v4 ∧ w.cell? ⟨q, 5, none⟩ = some v5 ∧ w.cell? ⟨q, 6, none⟩ = some v6 ∧ ∀ o, w.frozen? ⟨q, o, none⟩ = false
section
variable {w w' : World} {q : Nat} {v0 v1 v2 v3 v4 v5 v6 x : Value}
theorem Box7.lt (h : Box7 w q v0 v1 v2 v3 v4 v5 v6) : q < w.heap.size := World.block_lt_of_cell? w _ h.1
theorem Box7.same (h : Box7 w q v0 v1 v2 v3 v4 v5 v6) (hc : ∀ o, w'.cell? ⟨q, o, none⟩ = w.cell? ⟨q, o, none⟩) (hf : ∀ o, w'.frozen? ⟨q, o, none⟩ = w.frozen? ⟨q, o, none⟩) : Box7 w' q v0 v1 v2 v3 v4 v5 v6 := by
  obtain ⟨h0, h1, h2, h3, h4, h5, h6, hz⟩ := h
  exact ⟨(hc 0).trans h0, (hc 1).trans h1, (hc 2).trans h2, (hc 3).trans h3, (hc 4).trans h4, (hc 5).trans h5, (hc 6).trans h6, fun o => (hf o).trans (hz o)⟩
theorem Box7.below (h : Box7 w q v0 v1 v2 v3 v4 v5 v6) (g : Below w.heap.size w w') : Box7 w' q v0 v1 v2 v3 v4 v5 v6 :=
  h.same (fun o => g.cell (p := ⟨q, o, none⟩) h.lt) (fun o => g.frozen (p := ⟨q, o, none⟩) h.lt)
theorem Box7.drewN (h : Box7 w q v0 v1 v2 v3 v4 v5 v6) (m : Nat) : Box7 (w.drewN m) q v0 v1 v2 v3 v4 v5 v6 := h
theorem Box7.alloc (h : Box7 w q v0 v1 v2 v3 v4 v5 v6) (o : Obj) : Box7 (w.alloc o) q v0 v1 v2 v3 v4 v5 v6 := h.below ((Below.refl _ _).alloc (Nat.le_refl _) o)
theorem Box7.far (h : Box7 w q v0 v1 v2 v3 v4 v5 v6) {p : Addr} (hp : p.block ≠ q) (u : Value) : Box7 (w.setCell p u) q v0 v1 v2 v3 v4 v5 v6 :=
  h.same (fun o => World.cell?_setCell_other _ _ _ _ (by intro e; exact hp (by rw [e]))) (fun o => World.frozen?_setCell _ _ _ _)
theorem Box7.set4 (h : Box7 w q v0 v1 v2 v3 v4 v5 v6) : Box7 (w.setCell ⟨q, 4, none⟩ x) q v0 v1 v2 v3 x v5 v6 := by
  obtain ⟨h0, h1, h2, h3, h4, h5, h6, hz⟩ := h
  exact ⟨set_other h0 (by omega), set_other h1 (by omega), set_other h2 (by omega), set_other h3 (by omega), World.cell?_setCell_same _ _ _ h4, set_other h5 (by omega), set_other h6 (by omega), fun o => (World.frozen?_setCell _ _ _ _).trans (hz o)⟩
theorem Box7.set5 (h : Box7 w q v0 v1 v2 v3 v4 v5 v6) : Box7 (w.setCell ⟨q, 5, none⟩ x) q v0 v1 v2 v3 v4 x v6 := by
  obtain ⟨h0, h1, h2, h3, h4, h5, h6, hz⟩ := h
  exact ⟨set_other h0 (by omega), set_other h1 (by omega), set_other h2 (by omega), set_other h3 (by omega), set_other h4 (by omega), World.cell?_setCell_same _ _ _ h5, set_other h6 (by omega), fun o => (World.frozen?_setCell _ _ _ _).trans (hz o)⟩
theorem Box7.set6 (h : Box7 w q v0 v1 v2 v3 v4 v5 v6) : Box7 (w.setCell ⟨q, 6, none⟩ x) q v0 v1 v2 v3 v4 v5 x := by
  obtain ⟨h0, h1, h2, h3, h4, h5, h6, hz⟩ := h
  exact ⟨set_other h0 (by omega), set_other h1 (by omega), set_other h2 (by omega), set_other h3 (by omega), set_other h4 (by omega), set_other h5 (by omega), World.cell?_setCell_same _ _ _ h6, fun o => (World.frozen?_setCell _ _ _ _).trans (hz o)⟩
theorem Box7.put (u0 u1 u2 u3 u4 u5 u6 : Value) (h : Box7 w q v0 v1 v2 v3 v4 v5 v6) : Box7 (put7 w q u0 u1 u2 u3 u4 u5 u6) q u0 u1 u2 u3 u4 u5 u6 := by
  obtain ⟨h0, h1, h2, h3, h4, h5, h6, hz⟩ := h
  obtain ⟨e0, e1, e2, e3, e4, e5, e6⟩ := put7_cells u0 u1 u2 u3 u4 u5 u6 (seven h0 h1 h2 h3 h4 h5 h6)
  refine ⟨e0, e1, e2, e3, e4, e5, e6, fun o => ?_⟩
  unfold put7
  rw [World.frozen?_setCell, World.frozen?_setCell, World.frozen?_setCell, World.frozen?_setCell, World.frozen?_setCell, World.frozen?_setCell, World.frozen?_setCell]
  exact hz o
theorem Box7.new (w : World) (v0 v1 v2 v3 v4 v5 v6 : Value) (e : TypeId) (q : Nat) (hq : q = w.heap.size) : Box7 (w.alloc (.cells #[v0, v1, v2, v3, v4, v5, v6] e)) q v0 v1 v2 v3 v4 v5 v6 := by
  subst hq
  exact ⟨by simp, by simp, by simp, by simp, by simp, by simp, by simp, fun o => by simp⟩
theorem Box7.far7 (h : Box7 w q v0 v1 v2 v3 v4 v5 v6) {p : Nat} (hp : p ≠ q) (u0 u1 u2 u3 u4 u5 u6 : Value) : Box7 (put7 w p u0 u1 u2 u3 u4 u5 u6) q v0 v1 v2 v3 v4 v5 v6 :=
  ((((((h.far (p := ⟨p, 0, none⟩) hp _).far (p := ⟨p, 1, none⟩) hp _).far (p := ⟨p, 2, none⟩) hp _).far (p := ⟨p, 3, none⟩) hp _).far (p := ⟨p, 4, none⟩) hp _).far (p := ⟨p, 5, none⟩) hp _).far (p := ⟨p, 6, none⟩) hp _
end
end Go.Proofs.Ytgmeicenjgiihaa
