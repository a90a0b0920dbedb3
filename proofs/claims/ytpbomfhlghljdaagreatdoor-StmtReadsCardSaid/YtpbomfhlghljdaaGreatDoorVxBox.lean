/- A block of nine cells, not frozen, none of them a byte; what leaves all blocks but one. -/
import Derived.Test.YtpbomfhlghljdaaGreatDoorBsl
namespace Go.Proofs.YtpbomfhlghljdaaGreatDoor
open Go.RowKit
open Go.Lib (byteCells)

/-- no byte -/
def NoByte (v : Value) : Prop := ∀ x, v ≠ .int .u8 x
/-- a block none of whose cells is a byte -/
def Odd (w : World) (q : Nat) : Prop := ∀ o u, w.cell? ⟨q, o, none⟩ = some u → NoByte u
theorem Odd.set {w : World} {q : Nat} (h : Odd w q) {j : Nat} {y : Value} (hy : w.cell? ⟨q, j, none⟩ = some y) {v : Value} (hv : NoByte v) : Odd (w.setCell ⟨q, j, none⟩ v) q := by
  intro o u hu
  by_cases hj : o = j
  · subst hj
    rw [World.cell?_setCell_same _ _ _ hy] at hu
    cases hu
    exact hv
  · rw [World.cell?_setCell_other _ _ _ _ (by intro e; injection e with _ e2; exact hj e2.symm)] at hu
    exact h o u hu
/-- bytes lie in no such block -/
theorem BSl.odd {w : World} {A : Option Addr} {n c q : Nat} {l : List UInt8} (h : BSl w A n c l) (hq : Odd w q) (j : Nat) (v : Value) : BSl (w.setCell ⟨q, j, none⟩ v) A n c l := by
  refine ⟨⟨h.1.1, h.1.2.1, h.1.2.2.1, fun hn => ?_⟩, h.2⟩
  obtain ⟨b, off, e, hb, hc⟩ := h.1.2.2.2 hn
  refine ⟨b, off, e, by simpa using hb, fun i hi => ?_⟩
  have hne : b ≠ q := by
    intro e
    subst e
    exact hq _ _ (hc i hi) _ rfl
  rw [World.cell?_setCell_other _ _ _ _ (by intro e; injection e with e1 _; exact hne e1.symm)]
  exact hc i hi

/-- all blocks but one are as they were -/
def Ex (q : Nat) (w w' : World) : Prop := w'.os = w.os ∧ w'.tape = w.tape ∧ w'.output = w.output ∧ w.heap.size ≤ w'.heap.size ∧ ∀ k, k ≠ q → k < w.heap.size → w'.heap[k]? = w.heap[k]?
section
variable {q : Nat} {w w' w'' : World}
theorem Ex.of_below (h : Below w.heap.size w w') : Ex q w w' := ⟨h.os, h.tape, h.output, h.size, fun k _ hk => h.block k hk⟩
theorem Ex.refl (q : Nat) (w : World) : Ex q w w := Ex.of_below (Below.refl _ _)
theorem Ex.trans (h : Ex q w w') (g : Ex q w' w'') : Ex q w w'' := by
  obtain ⟨h0, h1, h2, h3, h4⟩ := h
  obtain ⟨g0, g1, g2, g3, g4⟩ := g
  exact ⟨g0.trans h0, g1.trans h1, g2.trans h2, Nat.le_trans h3 g3, fun k hq hk => (g4 k hq (by omega)).trans (h4 k hq hk)⟩
theorem Ex.set (h : Ex q w w') (j : Nat) (v : Value) : Ex q w (w'.setCell ⟨q, j, none⟩ v) :=
  h.trans ⟨rfl, rfl, rfl, by simp [World.setCell], fun k hk _ => Below.heap_setCell _ _ _ _ hk⟩
theorem Ex.alloc (h : Ex q w w') (o : Obj) : Ex q w (w'.alloc o) := h.trans (Ex.of_below ((Below.refl _ _).alloc (Nat.le_refl _) o))
theorem Ex.drewN (h : Ex q w w') (m : Nat) : Ex q w (w'.drewN m) := h
theorem Ex.size (h : Ex q w w') : w.heap.size ≤ w'.heap.size := h.2.2.2.1
theorem Ex.cell (h : Ex q w w') {b : Nat} (o : Nat) (hb : b < w.heap.size) (hq : b ≠ q) : w'.cell? ⟨b, o, none⟩ = w.cell? ⟨b, o, none⟩ := World.cell?_of_block (w := w) (h.2.2.2.2 b hq hb)
theorem Ex.frozen (h : Ex q w w') {b : Nat} (o : Nat) (hb : b < w.heap.size) (hq : b ≠ q) : w'.frozen? ⟨b, o, none⟩ = w.frozen? ⟨b, o, none⟩ := World.frozen?_of_block (w := w) (h.2.2.2.2 b hq hb)
theorem Below.ex {B : Nat} {a : World} (g : Below B a w) (h : Ex q w w') (hB : B ≤ q) (hs : B ≤ w.heap.size) : Below B a w' :=
  g.trans ⟨h.1, h.2.1, h.2.2.1, h.2.2.2.1, fun k hk => h.2.2.2.2 k (by omega) (by omega)⟩
theorem Box4.ex {p : Nat} {v0 v1 v2 v3 : Value} (h : Box4 w p v0 v1 v2 v3) (g : Ex q w w') (hp : p ≠ q) : Box4 w' p v0 v1 v2 v3 :=
  h.same (fun o => g.cell o h.lt hp) (fun o => g.frozen o h.lt hp)
end

/-- a block of nine cells, none of them frozen, none a byte -/
def Box9 (w : World) (q : Nat) (v0 v1 v2 v3 v4 v5 v6 v7 v8 : Value) : Prop :=
  w.cell? ⟨q, 0, none⟩ = some v0 ∧ w.cell? ⟨q, 1, none⟩ = some v1 ∧ w.cell? ⟨q, 2, none⟩ = some v2 ∧ w.cell? ⟨q, 3, none⟩ = some v3 ∧ w.cell? ⟨q, 4, none⟩ = some v4 ∧ w.cell? ⟨q, 5, none⟩ = some v5 ∧ w.cell? ⟨q, 6, none⟩ = some v6 ∧ w.cell? ⟨q, 7, none⟩ = some v7 ∧ w.cell? ⟨q, 8, none⟩ = some v8 ∧ (∀ o, w.frozen? ⟨q, o, none⟩ = false) ∧ Odd w q
section
variable {w w' : World} {q : Nat} {v0 v1 v2 v3 v4 v5 v6 v7 v8 x : Value}
theorem Box9.lt (h : Box9 w q v0 v1 v2 v3 v4 v5 v6 v7 v8) : q < w.heap.size := World.block_lt_of_cell? w _ h.1
theorem Box9.odd (h : Box9 w q v0 v1 v2 v3 v4 v5 v6 v7 v8) : Odd w q := by
  obtain ⟨_, _, _, _, _, _, _, _, _, _, ho⟩ := h
  exact ho
theorem Box9.same (h : Box9 w q v0 v1 v2 v3 v4 v5 v6 v7 v8) (hc : ∀ o, w'.cell? ⟨q, o, none⟩ = w.cell? ⟨q, o, none⟩) (hf : ∀ o, w'.frozen? ⟨q, o, none⟩ = w.frozen? ⟨q, o, none⟩) : Box9 w' q v0 v1 v2 v3 v4 v5 v6 v7 v8 := by
  obtain ⟨h0, h1, h2, h3, h4, h5, h6, h7, h8, hz, ho⟩ := h
  exact ⟨(hc 0).trans h0, (hc 1).trans h1, (hc 2).trans h2, (hc 3).trans h3, (hc 4).trans h4, (hc 5).trans h5, (hc 6).trans h6, (hc 7).trans h7, (hc 8).trans h8, fun o => (hf o).trans (hz o), fun o u hu => ho o u ((hc o).symm.trans hu)⟩
theorem Box9.below (h : Box9 w q v0 v1 v2 v3 v4 v5 v6 v7 v8) (g : Below w.heap.size w w') : Box9 w' q v0 v1 v2 v3 v4 v5 v6 v7 v8 :=
  h.same (fun o => g.cell (p := ⟨q, o, none⟩) h.lt) (fun o => g.frozen (p := ⟨q, o, none⟩) h.lt)
theorem Box9.drewN (h : Box9 w q v0 v1 v2 v3 v4 v5 v6 v7 v8) (m : Nat) : Box9 (w.drewN m) q v0 v1 v2 v3 v4 v5 v6 v7 v8 := h
theorem Box9.alloc (h : Box9 w q v0 v1 v2 v3 v4 v5 v6 v7 v8) (o : Obj) : Box9 (w.alloc o) q v0 v1 v2 v3 v4 v5 v6 v7 v8 := h.below ((Below.refl _ _).alloc (Nat.le_refl _) o)
theorem Box9.set0 (h : Box9 w q v0 v1 v2 v3 v4 v5 v6 v7 v8) (hx : NoByte x) : Box9 (w.setCell ⟨q, 0, none⟩ x) q x v1 v2 v3 v4 v5 v6 v7 v8 := by
  obtain ⟨h0, h1, h2, h3, h4, h5, h6, h7, h8, hz, ho⟩ := h
  exact ⟨cell_same h0, cell_other h1 (by omega), cell_other h2 (by omega), cell_other h3 (by omega), cell_other h4 (by omega), cell_other h5 (by omega), cell_other h6 (by omega), cell_other h7 (by omega), cell_other h8 (by omega), fun o => (World.frozen?_setCell _ _ _ _).trans (hz o), ho.set h0 hx⟩
theorem Box9.set1 (h : Box9 w q v0 v1 v2 v3 v4 v5 v6 v7 v8) (hx : NoByte x) : Box9 (w.setCell ⟨q, 1, none⟩ x) q v0 x v2 v3 v4 v5 v6 v7 v8 := by
  obtain ⟨h0, h1, h2, h3, h4, h5, h6, h7, h8, hz, ho⟩ := h
  exact ⟨cell_other h0 (by omega), cell_same h1, cell_other h2 (by omega), cell_other h3 (by omega), cell_other h4 (by omega), cell_other h5 (by omega), cell_other h6 (by omega), cell_other h7 (by omega), cell_other h8 (by omega), fun o => (World.frozen?_setCell _ _ _ _).trans (hz o), ho.set h1 hx⟩
theorem Box9.set2 (h : Box9 w q v0 v1 v2 v3 v4 v5 v6 v7 v8) (hx : NoByte x) : Box9 (w.setCell ⟨q, 2, none⟩ x) q v0 v1 x v3 v4 v5 v6 v7 v8 := by
  obtain ⟨h0, h1, h2, h3, h4, h5, h6, h7, h8, hz, ho⟩ := h
  exact ⟨cell_other h0 (by omega), cell_other h1 (by omega), cell_same h2, cell_other h3 (by omega), cell_other h4 (by omega), cell_other h5 (by omega), cell_other h6 (by omega), cell_other h7 (by omega), cell_other h8 (by omega), fun o => (World.frozen?_setCell _ _ _ _).trans (hz o), ho.set h2 hx⟩
theorem Box9.set3 (h : Box9 w q v0 v1 v2 v3 v4 v5 v6 v7 v8) (hx : NoByte x) : Box9 (w.setCell ⟨q, 3, none⟩ x) q v0 v1 v2 x v4 v5 v6 v7 v8 := by
  obtain ⟨h0, h1, h2, h3, h4, h5, h6, h7, h8, hz, ho⟩ := h
  exact ⟨cell_other h0 (by omega), cell_other h1 (by omega), cell_other h2 (by omega), cell_same h3, cell_other h4 (by omega), cell_other h5 (by omega), cell_other h6 (by omega), cell_other h7 (by omega), cell_other h8 (by omega), fun o => (World.frozen?_setCell _ _ _ _).trans (hz o), ho.set h3 hx⟩
theorem Box9.set4 (h : Box9 w q v0 v1 v2 v3 v4 v5 v6 v7 v8) (hx : NoByte x) : Box9 (w.setCell ⟨q, 4, none⟩ x) q v0 v1 v2 v3 x v5 v6 v7 v8 := by
  obtain ⟨h0, h1, h2, h3, h4, h5, h6, h7, h8, hz, ho⟩ := h
  exact ⟨cell_other h0 (by omega), cell_other h1 (by omega), cell_other h2 (by omega), cell_other h3 (by omega), cell_same h4, cell_other h5 (by omega), cell_other h6 (by omega), cell_other h7 (by omega), cell_other h8 (by omega), fun o => (World.frozen?_setCell _ _ _ _).trans (hz o), ho.set h4 hx⟩
theorem Box9.set5 (h : Box9 w q v0 v1 v2 v3 v4 v5 v6 v7 v8) (hx : NoByte x) : Box9 (w.setCell ⟨q, 5, none⟩ x) q v0 v1 v2 v3 v4 x v6 v7 v8 := by
  obtain ⟨h0, h1, h2, h3, h4, h5, h6, h7, h8, hz, ho⟩ := h
  exact ⟨cell_other h0 (by omega), cell_other h1 (by omega), cell_other h2 (by omega), cell_other h3 (by omega), cell_other h4 (by omega), cell_same h5, cell_other h6 (by omega), cell_other h7 (by omega), cell_other h8 (by omega), fun o => (World.frozen?_setCell _ _ _ _).trans (hz o), ho.set h5 hx⟩
theorem Box9.set6 (h : Box9 w q v0 v1 v2 v3 v4 v5 v6 v7 v8) (hx : NoByte x) : Box9 (w.setCell ⟨q, 6, none⟩ x) q v0 v1 v2 v3 v4 v5 x v7 v8 := by
  obtain ⟨h0, h1, h2, h3, h4, h5, h6, h7, h8, hz, ho⟩ := h
  exact ⟨cell_other h0 (by omega), cell_other h1 (by omega), cell_other h2 (by omega), cell_other h3 (by omega), cell_other h4 (by omega), cell_other h5 (by omega), cell_same h6, cell_other h7 (by omega), cell_other h8 (by omega), fun o => (World.frozen?_setCell _ _ _ _).trans (hz o), ho.set h6 hx⟩
theorem Box9.set7 (h : Box9 w q v0 v1 v2 v3 v4 v5 v6 v7 v8) (hx : NoByte x) : Box9 (w.setCell ⟨q, 7, none⟩ x) q v0 v1 v2 v3 v4 v5 v6 x v8 := by
  obtain ⟨h0, h1, h2, h3, h4, h5, h6, h7, h8, hz, ho⟩ := h
  exact ⟨cell_other h0 (by omega), cell_other h1 (by omega), cell_other h2 (by omega), cell_other h3 (by omega), cell_other h4 (by omega), cell_other h5 (by omega), cell_other h6 (by omega), cell_same h7, cell_other h8 (by omega), fun o => (World.frozen?_setCell _ _ _ _).trans (hz o), ho.set h7 hx⟩
theorem Box9.set8 (h : Box9 w q v0 v1 v2 v3 v4 v5 v6 v7 v8) (hx : NoByte x) : Box9 (w.setCell ⟨q, 8, none⟩ x) q v0 v1 v2 v3 v4 v5 v6 v7 x := by
  obtain ⟨h0, h1, h2, h3, h4, h5, h6, h7, h8, hz, ho⟩ := h
  exact ⟨cell_other h0 (by omega), cell_other h1 (by omega), cell_other h2 (by omega), cell_other h3 (by omega), cell_other h4 (by omega), cell_other h5 (by omega), cell_other h6 (by omega), cell_other h7 (by omega), cell_same h8, fun o => (World.frozen?_setCell _ _ _ _).trans (hz o), ho.set h8 hx⟩
theorem Box9.new (w : World) (v0 v1 v2 v3 v4 v5 v6 v7 v8 : Value) (e : TypeId) (q : Nat) (hq : q = w.heap.size) (hn : NoByte v0 ∧ NoByte v1 ∧ NoByte v2 ∧ NoByte v3 ∧ NoByte v4 ∧ NoByte v5 ∧ NoByte v6 ∧ NoByte v7 ∧ NoByte v8) : Box9 (w.alloc (.cells #[v0, v1, v2, v3, v4, v5, v6, v7, v8] e)) q v0 v1 v2 v3 v4 v5 v6 v7 v8 := by
  subst hq
  obtain ⟨n0, n1, n2, n3, n4, n5, n6, n7, n8⟩ := hn
  refine ⟨by simp, by simp, by simp, by simp, by simp, by simp, by simp, by simp, by simp, fun o => by simp, fun o u hu => ?_⟩
  match o, hu with
  | 0, hu =>
    have : v0 = u := by simpa using hu
    exact this ▸ n0
  | 1, hu =>
    have : v1 = u := by simpa using hu
    exact this ▸ n1
  | 2, hu =>
    have : v2 = u := by simpa using hu
    exact this ▸ n2
  | 3, hu =>
    have : v3 = u := by simpa using hu
    exact this ▸ n3
  | 4, hu =>
    have : v4 = u := by simpa using hu
    exact this ▸ n4
  | 5, hu =>
    have : v5 = u := by simpa using hu
    exact this ▸ n5
  | 6, hu =>
    have : v6 = u := by simpa using hu
    exact this ▸ n6
  | 7, hu =>
    have : v7 = u := by simpa using hu
    exact this ▸ n7
  | 8, hu =>
    have : v8 = u := by simpa using hu
    exact this ▸ n8
  | o + 9, hu => simp at hu
end
theorem noByte_slice (A : Option Addr) (n c : Nat) : NoByte (.slice A n c) := fun x e => by cases e
theorem noByte_i64 (z : Int) : NoByte (.int .i64 z) := fun x e => by injection e with e1 _; cases e1
theorem noByte_u32 (z : Int) : NoByte (.int .u32 z) := fun x e => by injection e with e1 _; cases e1
theorem noByte_u64 (z : Int) : NoByte (.int .u64 z) := fun x e => by injection e with e1 _; cases e1
end Go.Proofs.YtpbomfhlghljdaaGreatDoor
