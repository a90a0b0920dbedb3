/- A block of nine cells, not frozen, none of them a byte; what leaves all blocks but one. A line as a value; the box that a line lies in; a store into it. A struct of many cells stored whole, and loaded whole: one step each. A line stored whole into a box, and a line's box loaded whole. -/
import Derived.Test.YtnpembgchmmbjaaBsl
import Derived.Deep.MidRow
import Derived.Great.Walk
namespace Go.Proofs.Ytnpembgchmmbjaa
open Go.RowKit
open Go.Lib (byteCells)

/-- no byte -/
def NoByte (v : Value) : Prop := ∀ x, v ≠ .int .u8 x
/-- a block none of whose cells is a byte -/
def Odd (w : World) (q : Nat) : Prop := ∀ o u, w.cell? ⟨q, o, none⟩ = some u → NoByte u
theorem Odd.set {w : World} {q : Nat} (h : Odd w q) {j : Nat} {y : Value} (hy : w.cell? ⟨q, j, none⟩ = some y) {v : Value} (hv : NoByte v) : Odd (w.setCell ⟨q, j, none⟩ v) q := by
  intro o u hu
  by_cases hj : o = j
  · subst hj
    rw [World.cell?_setCell_same _ _ _ hy] at hu
    cases hu
    exact hv
  · rw [World.cell?_setCell_other _ _ _ _ (by intro e; injection e with _ e2; exact hj e2.symm)] at hu
    exact h o u hu
/-- bytes lie in no such block -/
theorem BSl.odd {w : World} {A : Option Addr} {n c q : Nat} {l : List UInt8} (h : BSl w A n c l) (hq : Odd w q) (j : Nat) (v : Value) : BSl (w.setCell ⟨q, j, none⟩ v) A n c l := by
  refine ⟨⟨h.1.1, h.1.2.1, h.1.2.2.1, fun hn => ?_⟩, h.2⟩
  obtain ⟨b, off, e, hb, hc⟩ := h.1.2.2.2 hn
  refine ⟨b, off, e, by simpa using hb, fun i hi => ?_⟩
  have hne : b ≠ q := by
    intro e
    subst e
    exact hq _ _ (hc i hi) _ rfl
  rw [World.cell?_setCell_other _ _ _ _ (by intro e; injection e with e1 _; exact hne e1.symm)]
  exact hc i hi

/-- all blocks but one are as they were -/
def Ex (q : Nat) (w w' : World) : Prop := w'.os = w.os ∧ w'.tape = w.tape ∧ w'.output = w.output ∧ w.heap.size ≤ w'.heap.size ∧ ∀ k, k ≠ q → k < w.heap.size → w'.heap[k]? = w.heap[k]?
section
variable {q : Nat} {w w' w'' : World}
theorem Ex.of_below (h : Below w.heap.size w w') : Ex q w w' := ⟨h.os, h.tape, h.output, h.size, fun k _ hk => h.block k hk⟩
theorem Ex.refl (q : Nat) (w : World) : Ex q w w := Ex.of_below (Below.refl _ _)
theorem Ex.trans (h : Ex q w w') (g : Ex q w' w'') : Ex q w w'' := by
  obtain ⟨h0, h1, h2, h3, h4⟩ := h
  obtain ⟨g0, g1, g2, g3, g4⟩ := g
  exact ⟨g0.trans h0, g1.trans h1, g2.trans h2, Nat.le_trans h3 g3, fun k hq hk => (g4 k hq (by omega)).trans (h4 k hq hk)⟩
theorem Ex.set (h : Ex q w w') (j : Nat) (v : Value) : Ex q w (w'.setCell ⟨q, j, none⟩ v) :=
  h.trans ⟨rfl, rfl, rfl, by simp [World.setCell], fun k hk _ => Below.heap_setCell _ _ _ _ hk⟩
theorem Ex.alloc (h : Ex q w w') (o : Obj) : Ex q w (w'.alloc o) := h.trans (Ex.of_below ((Below.refl _ _).alloc (Nat.le_refl _) o))
theorem Ex.drewN (h : Ex q w w') (m : Nat) : Ex q w (w'.drewN m) := h
theorem Ex.size (h : Ex q w w') : w.heap.size ≤ w'.heap.size := h.2.2.2.1
theorem Ex.cell (h : Ex q w w') {b : Nat} (o : Nat) (hb : b < w.heap.size) (hq : b ≠ q) : w'.cell? ⟨b, o, none⟩ = w.cell? ⟨b, o, none⟩ := World.cell?_of_block (w := w) (h.2.2.2.2 b hq hb)
theorem Ex.frozen (h : Ex q w w') {b : Nat} (o : Nat) (hb : b < w.heap.size) (hq : b ≠ q) : w'.frozen? ⟨b, o, none⟩ = w.frozen? ⟨b, o, none⟩ := World.frozen?_of_block (w := w) (h.2.2.2.2 b hq hb)
theorem Below.ex {B : Nat} {a : World} (g : Below B a w) (h : Ex q w w') (hB : B ≤ q) (hs : B ≤ w.heap.size) : Below B a w' :=
  g.trans ⟨h.1, h.2.1, h.2.2.1, h.2.2.2.1, fun k hk => h.2.2.2.2 k (by omega) (by omega)⟩
theorem Box4.ex {p : Nat} {v0 v1 v2 v3 : Value} (h : Box4 w p v0 v1 v2 v3) (g : Ex q w w') (hp : p ≠ q) : Box4 w' p v0 v1 v2 v3 :=
  h.same (fun o => g.cell o h.lt hp) (fun o => g.frozen o h.lt hp)
end

/-- a block of nine cells, none of them frozen, none a byte -/
def Box9 (w : World) (q : Nat) (v0 v1 v2 v3 v4 v5 v6 v7 v8 : Value) : Prop :=
  w.cell? ⟨q, 0, none⟩ = some v0 ∧ w.cell? ⟨q, 1, none⟩ = some v1 ∧ w.cell? ⟨q, 2, none⟩ = some v2 ∧ w.cell? ⟨q, 3, none⟩ = some v3 ∧ w.cell? ⟨q, 4, none⟩ = some v4 ∧ w.cell? ⟨q, 5, none⟩ = some v5 ∧ w.cell? ⟨q, 6, none⟩ = some v6 ∧ w.cell? ⟨q, 7, none⟩ = some v7 ∧ w.cell? ⟨q, 8, none⟩ = some v8 ∧ (∀ o, w.frozen? ⟨q, o, none⟩ = false) ∧ Odd w q
section
variable {w w' : World} {q : Nat} {v0 v1 v2 v3 v4 v5 v6 v7 v8 x : Value}
theorem Box9.lt (h : Box9 w q v0 v1 v2 v3 v4 v5 v6 v7 v8) : q < w.heap.size := World.block_lt_of_cell? w _ h.1
theorem Box9.odd (h : Box9 w q v0 v1 v2 v3 v4 v5 v6 v7 v8) : Odd w q := by
  obtain ⟨_, _, _, _, _, _, _, _, _, _, ho⟩ := h
  exact ho
theorem Box9.same (h : Box9 w q v0 v1 v2 v3 v4 v5 v6 v7 v8) (hc : ∀ o, w'.cell? ⟨q, o, none⟩ = w.cell? ⟨q, o, none⟩) (hf : ∀ o, w'.frozen? ⟨q, o, none⟩ = w.frozen? ⟨q, o, none⟩) : Box9 w' q v0 v1 v2 v3 v4 v5 v6 v7 v8 := by
  obtain ⟨h0, h1, h2, h3, h4, h5, h6, h7, h8, hz, ho⟩ := h
  exact ⟨(hc 0).trans h0, (hc 1).trans h1, (hc 2).trans h2, (hc 3).trans h3, (hc 4).trans h4, (hc 5).trans h5, (hc 6).trans h6, (hc 7).trans h7, (hc 8).trans h8, fun o => (hf o).trans (hz o), fun o u hu => ho o u ((hc o).symm.trans hu)⟩
theorem Box9.below (h : Box9 w q v0 v1 v2 v3 v4 v5 v6 v7 v8) (g : Below w.heap.size w w') : Box9 w' q v0 v1 v2 v3 v4 v5 v6 v7 v8 :=
  h.same (fun o => g.cell (p := ⟨q, o, none⟩) h.lt) (fun o => g.frozen (p := ⟨q, o, none⟩) h.lt)
theorem Box9.drewN (h : Box9 w q v0 v1 v2 v3 v4 v5 v6 v7 v8) (m : Nat) : Box9 (w.drewN m) q v0 v1 v2 v3 v4 v5 v6 v7 v8 := h
theorem Box9.alloc (h : Box9 w q v0 v1 v2 v3 v4 v5 v6 v7 v8) (o : Obj) : Box9 (w.alloc o) q v0 v1 v2 v3 v4 v5 v6 v7 v8 := h.below ((Below.refl _ _).alloc (Nat.le_refl _) o)
theorem Box9.set0 (h : Box9 w q v0 v1 v2 v3 v4 v5 v6 v7 v8) (hx : NoByte x) : Box9 (w.setCell ⟨q, 0, none⟩ x) q x v1 v2 v3 v4 v5 v6 v7 v8 := by
  obtain ⟨h0, h1, h2, h3, h4, h5, h6, h7, h8, hz, ho⟩ := h
  exact ⟨cell_same h0, cell_other h1 (by omega), cell_other h2 (by omega), cell_other h3 (by omega), cell_other h4 (by omega), cell_other h5 (by omega), cell_other h6 (by omega), cell_other h7 (by omega), cell_other h8 (by omega), fun o => (World.frozen?_setCell _ _ _ _).trans (hz o), ho.set h0 hx⟩
theorem Box9.set1 (h : Box9 w q v0 v1 v2 v3 v4 v5 v6 v7 v8) (hx : NoByte x) : Box9 (w.setCell ⟨q, 1, none⟩ x) q v0 x v2 v3 v4 v5 v6 v7 v8 := by
  obtain ⟨h0, h1, h2, h3, h4, h5, h6, h7, h8, hz, ho⟩ := h
  exact ⟨cell_other h0 (by omega), cell_same h1, cell_other h2 (by omega), cell_other h3 (by omega), cell_other h4 (by omega), cell_other h5 (by omega), cell_other h6 (by omega), cell_other h7 (by omega), cell_other h8 (by omega), fun o => (World.frozen?_setCell _ _ _ _).trans (hz o), ho.set h1 hx⟩
theorem Box9.set2 (h : Box9 w q v0 v1 v2 v3 v4 v5 v6 v7 v8) (hx : NoByte x) : Box9 (w.setCell ⟨q, 2, none⟩ x) q v0 v1 x v3 v4 v5 v6 v7 v8 := by
  obtain ⟨h0, h1, h2, h3, h4, h5, h6, h7, h8, hz, ho⟩ := h
  exact ⟨cell_other h0 (by omega), cell_other h1 (by omega), cell_same h2, cell_other h3 (by omega), cell_other h4 (by omega), cell_other h5 (by omega), cell_other h6 (by omega), cell_other h7 (by omega), cell_other h8 (by omega), fun o => (World.frozen?_setCell _ _ _ _).trans (hz o), ho.set h2 hx⟩
theorem Box9.set3 (h : Box9 w q v0 v1 v2 v3 v4 v5 v6 v7 v8) (hx : NoByte x) : Box9 (w.setCell ⟨q, 3, none⟩ x) q v0 v1 v2 x v4 v5 v6 v7 v8 := by
  obtain ⟨h0, h1, h2, h3, h4, h5, h6, h7, h8, hz, ho⟩ := h
  exact ⟨cell_other h0 (by omega), cell_other h1 (by omega), cell_other h2 (by omega), cell_same h3, cell_other h4 (by omega), cell_other h5 (by omega), cell_other h6 (by omega), cell_other h7 (by omega), cell_other h8 (by omega), fun o => (World.frozen?_setCell _ _ _ _).trans (hz o), ho.set h3 hx⟩
theorem Box9.set4 (h : Box9 w q v0 v1 v2 v3 v4 v5 v6 v7 v8) (hx : NoByte x) : Box9 (w.setCell ⟨q, 4, none⟩ x) q v0 v1 v2 v3 x v5 v6 v7 v8 := by
  obtain ⟨h0, h1, h2, h3, h4, h5, h6, h7, h8, hz, ho⟩ := h
  exact ⟨cell_other h0 (by omega), cell_other h1 (by omega), cell_other h2 (by omega), cell_other h3 (by omega), cell_same h4, cell_other h5 (by omega), cell_other h6 (by omega), cell_other h7 (by omega), cell_other h8 (by omega), fun o => (World.frozen?_setCell _ _ _ _).trans (hz o), ho.set h4 hx⟩
theorem Box9.set5 (h : Box9 w q v0 v1 v2 v3 v4 v5 v6 v7 v8) (hx : NoByte x) : Box9 (w.setCell ⟨q, 5, none⟩ x) q v0 v1 v2 v3 v4 x v6 v7 v8 := by
  obtain ⟨h0, h1, h2, h3, h4, h5, h6, h7, h8, hz, ho⟩ := h
  exact ⟨cell_other h0 (by omega), cell_other h1 (by omega), cell_other h2 (by omega), cell_other h3 (by omega), cell_other h4 (by omega), cell_same h5, cell_other h6 (by omega), cell_other h7 (by omega), cell_other h8 (by omega), fun o => (World.frozen?_setCell _ _ _ _).trans (hz o), ho.set h5 hx⟩
theorem Box9.set6 (h : Box9 w q v0 v1 v2 v3 v4 v5 v6 v7 v8) (hx : NoByte x) : Box9 (w.setCell ⟨q, 6, none⟩ x) q v0 v1 v2 v3 v4 v5 x v7 v8 := by
  obtain ⟨h0, h1, h2, h3, h4, h5, h6, h7, h8, hz, ho⟩ := h
  exact ⟨cell_other h0 (by omega), cell_other h1 (by omega), cell_other h2 (by omega), cell_other h3 (by omega), cell_other h4 (by omega), cell_other h5 (by omega), cell_same h6, cell_other h7 (by omega), cell_other h8 (by omega), fun o => (World.frozen?_setCell _ _ _ _).trans (hz o), ho.set h6 hx⟩
theorem Box9.set7 (h : Box9 w q v0 v1 v2 v3 v4 v5 v6 v7 v8) (hx : NoByte x) : Box9 (w.setCell ⟨q, 7, none⟩ x) q v0 v1 v2 v3 v4 v5 v6 x v8 := by
  obtain ⟨h0, h1, h2, h3, h4, h5, h6, h7, h8, hz, ho⟩ := h
  exact ⟨cell_other h0 (by omega), cell_other h1 (by omega), cell_other h2 (by omega), cell_other h3 (by omega), cell_other h4 (by omega), cell_other h5 (by omega), cell_other h6 (by omega), cell_same h7, cell_other h8 (by omega), fun o => (World.frozen?_setCell _ _ _ _).trans (hz o), ho.set h7 hx⟩
theorem Box9.set8 (h : Box9 w q v0 v1 v2 v3 v4 v5 v6 v7 v8) (hx : NoByte x) : Box9 (w.setCell ⟨q, 8, none⟩ x) q v0 v1 v2 v3 v4 v5 v6 v7 x := by
  obtain ⟨h0, h1, h2, h3, h4, h5, h6, h7, h8, hz, ho⟩ := h
  exact ⟨cell_other h0 (by omega), cell_other h1 (by omega), cell_other h2 (by omega), cell_other h3 (by omega), cell_other h4 (by omega), cell_other h5 (by omega), cell_other h6 (by omega), cell_other h7 (by omega), cell_same h8, fun o => (World.frozen?_setCell _ _ _ _).trans (hz o), ho.set h8 hx⟩
theorem Box9.new (w : World) (v0 v1 v2 v3 v4 v5 v6 v7 v8 : Value) (e : TypeId) (q : Nat) (hq : q = w.heap.size) (hn : NoByte v0 ∧ NoByte v1 ∧ NoByte v2 ∧ NoByte v3 ∧ NoByte v4 ∧ NoByte v5 ∧ NoByte v6 ∧ NoByte v7 ∧ NoByte v8) : Box9 (w.alloc (.cells #[v0, v1, v2, v3, v4, v5, v6, v7, v8] e)) q v0 v1 v2 v3 v4 v5 v6 v7 v8 := by
  subst hq
  obtain ⟨n0, n1, n2, n3, n4, n5, n6, n7, n8⟩ := hn
  refine ⟨by simp, by simp, by simp, by simp, by simp, by simp, by simp, by simp, by simp, fun o => by simp, fun o u hu => ?_⟩
  match o, hu with
  | 0, hu =>
    have : v0 = u := by simpa using hu
    exact this ▸ n0
  | 1, hu =>
    have : v1 = u := by simpa using hu
    exact this ▸ n1
  | 2, hu =>
    have : v2 = u := by simpa using hu
    exact this ▸ n2
  | 3, hu =>
    have : v3 = u := by simpa using hu
    exact this ▸ n3
  | 4, hu =>
    have : v4 = u := by simpa using hu
    exact this ▸ n4
  | 5, hu =>
    have : v5 = u := by simpa using hu
    exact this ▸ n5
  | 6, hu =>
    have : v6 = u := by simpa using hu
    exact this ▸ n6
  | 7, hu =>
    have : v7 = u := by simpa using hu
    exact this ▸ n7
  | 8, hu =>
    have : v8 = u := by simpa using hu
    exact this ▸ n8
  | o + 9, hu => simp at hu
end
theorem noByte_slice (A : Option Addr) (n c : Nat) : NoByte (.slice A n c) := fun x e => by cases e
theorem noByte_i64 (z : Int) : NoByte (.int .i64 z) := fun x e => by injection e with e1 _; cases e1
theorem noByte_u32 (z : Int) : NoByte (.int .u32 z) := fun x e => by injection e with e1 _; cases e1
theorem noByte_u64 (z : Int) : NoByte (.int .u64 z) := fun x e => by injection e with e1 _; cases e1
end Go.Proofs.Ytnpembgchmmbjaa

namespace Go.Proofs.Ytnpembgchmmbjaa
open Go.RowKit

/-- a line -/
structure LV where
  row : Int
  kind : Int
  dev : List UInt8
  port : List UInt8
  peer : List UInt8
  far : List UInt8
  name : List UInt8
  mac : Int
  addr : Int
  bits : Int
  vlan : Int
  num : Int
  cost : Int
  tagged : List Int
  imports : List Int
  exports : List Int
  addrs : List Int
/-- a slice as its three numbers -/
structure SlV where
  A : Option Addr
  n : Nat
  c : Nat
def SlV.val (s : SlV) : Value := .slice s.A s.n s.c
def SlV.nil : SlV := ⟨none, 0, 0⟩
/-- a list that lies behind block q, or nil -/
def FSl (w : World) (q : Nat) (k : IntKind) (s : SlV) (xs : List Int) : Prop := ISl w k s.A s.n s.c xs ∧ ∀ ad, s.A = some ad → q < ad.block
section
variable {w w' : World} {q : Nat} {k : IntKind} {s : SlV} {xs : List Int}
theorem FSl.nil : FSl w q k SlV.nil [] := ⟨ISl.nil, fun _ h => by cases h⟩
theorem FSl.mono {p : Nat} (h : FSl w q k s xs) (hp : p ≤ q) : FSl w p k s xs := ⟨h.1, fun ad g => Nat.lt_of_le_of_lt hp (h.2 ad g)⟩
theorem FSl.below (h : FSl w q k s xs) (hb : Below w.heap.size w w') : FSl w' q k s xs := ⟨h.1.below hb, h.2⟩
theorem FSl.set (h : FSl w q k s xs) (j : Nat) (v : Value) : FSl (w.setCell ⟨q, j, none⟩ v) q k s xs := by
  refine ⟨⟨h.1.1, h.1.2.1, h.1.2.2.1, fun hn => ?_⟩, h.2⟩
  obtain ⟨b, off, e, hb, hc⟩ := h.1.2.2.2 hn
  refine ⟨b, off, e, by simpa using hb, fun i hi => ?_⟩
  rw [World.cell?_setCell_other _ _ _ _ (by intro e1; injection e1 with e2 _; have h2 : q < b := h.2 _ e; omega)]
  exact hc i hi
theorem FSl.ex (h : FSl w q k s xs) (g : Ex q w w') : FSl w' q k s xs := by
  refine ⟨⟨h.1.1, h.1.2.1, h.1.2.2.1, fun hn => ?_⟩, h.2⟩
  obtain ⟨b, off, e, hb, hc⟩ := h.1.2.2.2 hn
  exact ⟨b, off, e, Nat.lt_of_lt_of_le hb g.size, fun i hi => (g.cell (off + i) hb (by have h2 : q < b := h.2 _ e; omega)).trans (hc i hi)⟩
end

/-- a block of n cells, none of them frozen -/
def BoxF (w : World) (q n : Nat) (f : Nat → Value) : Prop := (∀ j, j < n → w.cell? ⟨q, j, none⟩ = some (f j)) ∧ ∀ o, w.frozen? ⟨q, o, none⟩ = false
section
variable {w w' : World} {q n : Nat} {f g : Nat → Value}
theorem BoxF.cell (h : BoxF w q n f) (j : Nat) (hj : j < n) : w.cell? ⟨q, j, none⟩ = some (f j) := h.1 j hj
theorem BoxF.lt (h : BoxF w q n f) (hn : 0 < n) : q < w.heap.size := World.block_lt_of_cell? w _ (h.1 0 hn)
theorem BoxF.same (h : BoxF w q n f) (hc : ∀ o, w'.cell? ⟨q, o, none⟩ = w.cell? ⟨q, o, none⟩) (hf : ∀ o, w'.frozen? ⟨q, o, none⟩ = w.frozen? ⟨q, o, none⟩) : BoxF w' q n f :=
  ⟨fun j hj => (hc j).trans (h.1 j hj), fun o => (hf o).trans (h.2 o)⟩
theorem BoxF.below (h : BoxF w q n f) (hn : 0 < n) (b : Below w.heap.size w w') : BoxF w' q n f :=
  h.same (fun o => b.cell (p := ⟨q, o, none⟩) (h.lt hn)) (fun o => b.frozen (p := ⟨q, o, none⟩) (h.lt hn))
theorem BoxF.set (h : BoxF w q n f) (j : Nat) (hj : j < n) (v : Value) : BoxF (w.setCell ⟨q, j, none⟩ v) q n (fun i => if i = j then v else f i) := by
  refine ⟨fun i hi => ?_, fun o => (World.frozen?_setCell _ _ _ _).trans (h.2 o)⟩
  show _ = some (if i = j then v else f i)
  by_cases e : i = j
  · subst e
    rw [if_pos rfl]
    exact World.cell?_setCell_same _ _ _ (h.1 i hi)
  · rw [if_neg e, World.cell?_setCell_other _ _ _ _ (by intro e1; injection e1 with _ e2; exact e e2.symm)]
    exact h.1 i hi
theorem BoxF.is (h : BoxF w q n f) (e : ∀ i, i < n → f i = g i) : BoxF w q n g := ⟨fun j hj => by rw [← e j hj]; exact h.1 j hj, h.2⟩
end

/-- a line's cells -/
def lc (L : LV) (s1 s2 s3 s4 : SlV) : Nat → Value
  | 0 => .int .i64 L.row
  | 1 => .int .i64 L.kind
  | 2 => .string (str L.dev)
  | 3 => .string (str L.port)
  | 4 => .string (str L.peer)
  | 5 => .string (str L.far)
  | 6 => .string (str L.name)
  | 7 => .int .u64 L.mac
  | 8 => .int .u32 L.addr
  | 9 => .int .i64 L.bits
  | 10 => .int .i64 L.vlan
  | 11 => .int .i64 L.num
  | 12 => .int .i64 L.cost
  | 13 => s1.val
  | 14 => s2.val
  | 15 => s3.val
  | _ => s4.val
/-- a line in a box, its lists elsewhere -/
def LBox (w : World) (q : Nat) (L : LV) (s1 s2 s3 s4 : SlV) : Prop :=
  BoxF w q 17 (lc L s1 s2 s3 s4) ∧ FSl w q .i64 s1 L.tagged ∧ FSl w q .i64 s2 L.imports ∧ FSl w q .i64 s3 L.exports ∧ FSl w q .u32 s4 L.addrs
section
variable {w w' : World} {q : Nat} {L : LV} {s1 s2 s3 s4 : SlV}
theorem LBox.lt (h : LBox w q L s1 s2 s3 s4) : q < w.heap.size := h.1.lt (by omega)
theorem LBox.below (h : LBox w q L s1 s2 s3 s4) (b : Below w.heap.size w w') : LBox w' q L s1 s2 s3 s4 := ⟨h.1.below (by omega) b, h.2.1.below b, h.2.2.1.below b, h.2.2.2.1.below b, h.2.2.2.2.below b⟩
theorem LBox.alloc (h : LBox w q L s1 s2 s3 s4) (o : Obj) : LBox (w.alloc o) q L s1 s2 s3 s4 := h.below ((Below.refl _ _).alloc (Nat.le_refl _) o)
theorem LBox.drewN (h : LBox w q L s1 s2 s3 s4) (m : Nat) : LBox (w.drewN m) q L s1 s2 s3 s4 := h
theorem LBox.frozen (h : LBox w q L s1 s2 s3 s4) : ∀ o, w.frozen? ⟨q, o, none⟩ = false := h.1.2
theorem LBox.cells (h : LBox w q L s1 s2 s3 s4) : w.cell? ⟨q, 0, none⟩ = some (.int .i64 L.row) ∧ w.cell? ⟨q, 1, none⟩ = some (.int .i64 L.kind) ∧ w.cell? ⟨q, 2, none⟩ = some (.string (str L.dev)) ∧ w.cell? ⟨q, 3, none⟩ = some (.string (str L.port)) ∧ w.cell? ⟨q, 4, none⟩ = some (.string (str L.peer)) ∧ w.cell? ⟨q, 5, none⟩ = some (.string (str L.far)) ∧ w.cell? ⟨q, 6, none⟩ = some (.string (str L.name)) ∧ w.cell? ⟨q, 7, none⟩ = some (.int .u64 L.mac) ∧ w.cell? ⟨q, 8, none⟩ = some (.int .u32 L.addr) ∧ w.cell? ⟨q, 9, none⟩ = some (.int .i64 L.bits) ∧ w.cell? ⟨q, 10, none⟩ = some (.int .i64 L.vlan) ∧ w.cell? ⟨q, 11, none⟩ = some (.int .i64 L.num) ∧ w.cell? ⟨q, 12, none⟩ = some (.int .i64 L.cost) ∧ w.cell? ⟨q, 13, none⟩ = some (.slice s1.A s1.n s1.c) ∧ w.cell? ⟨q, 14, none⟩ = some (.slice s2.A s2.n s2.c) ∧ w.cell? ⟨q, 15, none⟩ = some (.slice s3.A s3.n s3.c) ∧ w.cell? ⟨q, 16, none⟩ = some (.slice s4.A s4.n s4.c) := ⟨h.1.cell 0 (by omega), h.1.cell 1 (by omega), h.1.cell 2 (by omega), h.1.cell 3 (by omega), h.1.cell 4 (by omega), h.1.cell 5 (by omega), h.1.cell 6 (by omega), h.1.cell 7 (by omega), h.1.cell 8 (by omega), h.1.cell 9 (by omega), h.1.cell 10 (by omega), h.1.cell 11 (by omega), h.1.cell 12 (by omega), h.1.cell 13 (by omega), h.1.cell 14 (by omega), h.1.cell 15 (by omega), h.1.cell 16 (by omega)⟩
theorem LBox.set_dev (h : LBox w q L s1 s2 s3 s4) (x : List UInt8) : LBox (w.setCell ⟨q, 2, none⟩ (.string (str x))) q { L with dev := x } s1 s2 s3 s4 :=
  ⟨(h.1.set 2 (by omega) _).is (fun i hi => match i, hi with | 0, _ | 1, _ | 2, _ | 3, _ | 4, _ | 5, _ | 6, _ | 7, _ | 8, _ | 9, _ | 10, _ | 11, _ | 12, _ | 13, _ | 14, _ | 15, _ | 16, _ => rfl | i + 17, h => absurd h (by omega)), h.2.1.set _ _, h.2.2.1.set _ _, h.2.2.2.1.set _ _, h.2.2.2.2.set _ _⟩
theorem LBox.set_port (h : LBox w q L s1 s2 s3 s4) (x : List UInt8) : LBox (w.setCell ⟨q, 3, none⟩ (.string (str x))) q { L with port := x } s1 s2 s3 s4 :=
  ⟨(h.1.set 3 (by omega) _).is (fun i hi => match i, hi with | 0, _ | 1, _ | 2, _ | 3, _ | 4, _ | 5, _ | 6, _ | 7, _ | 8, _ | 9, _ | 10, _ | 11, _ | 12, _ | 13, _ | 14, _ | 15, _ | 16, _ => rfl | i + 17, h => absurd h (by omega)), h.2.1.set _ _, h.2.2.1.set _ _, h.2.2.2.1.set _ _, h.2.2.2.2.set _ _⟩
theorem LBox.set_peer (h : LBox w q L s1 s2 s3 s4) (x : List UInt8) : LBox (w.setCell ⟨q, 4, none⟩ (.string (str x))) q { L with peer := x } s1 s2 s3 s4 :=
  ⟨(h.1.set 4 (by omega) _).is (fun i hi => match i, hi with | 0, _ | 1, _ | 2, _ | 3, _ | 4, _ | 5, _ | 6, _ | 7, _ | 8, _ | 9, _ | 10, _ | 11, _ | 12, _ | 13, _ | 14, _ | 15, _ | 16, _ => rfl | i + 17, h => absurd h (by omega)), h.2.1.set _ _, h.2.2.1.set _ _, h.2.2.2.1.set _ _, h.2.2.2.2.set _ _⟩
theorem LBox.set_far (h : LBox w q L s1 s2 s3 s4) (x : List UInt8) : LBox (w.setCell ⟨q, 5, none⟩ (.string (str x))) q { L with far := x } s1 s2 s3 s4 :=
  ⟨(h.1.set 5 (by omega) _).is (fun i hi => match i, hi with | 0, _ | 1, _ | 2, _ | 3, _ | 4, _ | 5, _ | 6, _ | 7, _ | 8, _ | 9, _ | 10, _ | 11, _ | 12, _ | 13, _ | 14, _ | 15, _ | 16, _ => rfl | i + 17, h => absurd h (by omega)), h.2.1.set _ _, h.2.2.1.set _ _, h.2.2.2.1.set _ _, h.2.2.2.2.set _ _⟩
theorem LBox.set_name (h : LBox w q L s1 s2 s3 s4) (x : List UInt8) : LBox (w.setCell ⟨q, 6, none⟩ (.string (str x))) q { L with name := x } s1 s2 s3 s4 :=
  ⟨(h.1.set 6 (by omega) _).is (fun i hi => match i, hi with | 0, _ | 1, _ | 2, _ | 3, _ | 4, _ | 5, _ | 6, _ | 7, _ | 8, _ | 9, _ | 10, _ | 11, _ | 12, _ | 13, _ | 14, _ | 15, _ | 16, _ => rfl | i + 17, h => absurd h (by omega)), h.2.1.set _ _, h.2.2.1.set _ _, h.2.2.2.1.set _ _, h.2.2.2.2.set _ _⟩
theorem LBox.set_mac (h : LBox w q L s1 s2 s3 s4) (x : Int) : LBox (w.setCell ⟨q, 7, none⟩ (.int .u64 x)) q { L with mac := x } s1 s2 s3 s4 :=
  ⟨(h.1.set 7 (by omega) _).is (fun i hi => match i, hi with | 0, _ | 1, _ | 2, _ | 3, _ | 4, _ | 5, _ | 6, _ | 7, _ | 8, _ | 9, _ | 10, _ | 11, _ | 12, _ | 13, _ | 14, _ | 15, _ | 16, _ => rfl | i + 17, h => absurd h (by omega)), h.2.1.set _ _, h.2.2.1.set _ _, h.2.2.2.1.set _ _, h.2.2.2.2.set _ _⟩
theorem LBox.set_addr (h : LBox w q L s1 s2 s3 s4) (x : Int) : LBox (w.setCell ⟨q, 8, none⟩ (.int .u32 x)) q { L with addr := x } s1 s2 s3 s4 :=
  ⟨(h.1.set 8 (by omega) _).is (fun i hi => match i, hi with | 0, _ | 1, _ | 2, _ | 3, _ | 4, _ | 5, _ | 6, _ | 7, _ | 8, _ | 9, _ | 10, _ | 11, _ | 12, _ | 13, _ | 14, _ | 15, _ | 16, _ => rfl | i + 17, h => absurd h (by omega)), h.2.1.set _ _, h.2.2.1.set _ _, h.2.2.2.1.set _ _, h.2.2.2.2.set _ _⟩
theorem LBox.set_bits (h : LBox w q L s1 s2 s3 s4) (x : Int) : LBox (w.setCell ⟨q, 9, none⟩ (.int .i64 x)) q { L with bits := x } s1 s2 s3 s4 :=
  ⟨(h.1.set 9 (by omega) _).is (fun i hi => match i, hi with | 0, _ | 1, _ | 2, _ | 3, _ | 4, _ | 5, _ | 6, _ | 7, _ | 8, _ | 9, _ | 10, _ | 11, _ | 12, _ | 13, _ | 14, _ | 15, _ | 16, _ => rfl | i + 17, h => absurd h (by omega)), h.2.1.set _ _, h.2.2.1.set _ _, h.2.2.2.1.set _ _, h.2.2.2.2.set _ _⟩
theorem LBox.set_vlan (h : LBox w q L s1 s2 s3 s4) (x : Int) : LBox (w.setCell ⟨q, 10, none⟩ (.int .i64 x)) q { L with vlan := x } s1 s2 s3 s4 :=
  ⟨(h.1.set 10 (by omega) _).is (fun i hi => match i, hi with | 0, _ | 1, _ | 2, _ | 3, _ | 4, _ | 5, _ | 6, _ | 7, _ | 8, _ | 9, _ | 10, _ | 11, _ | 12, _ | 13, _ | 14, _ | 15, _ | 16, _ => rfl | i + 17, h => absurd h (by omega)), h.2.1.set _ _, h.2.2.1.set _ _, h.2.2.2.1.set _ _, h.2.2.2.2.set _ _⟩
theorem LBox.set_num (h : LBox w q L s1 s2 s3 s4) (x : Int) : LBox (w.setCell ⟨q, 11, none⟩ (.int .i64 x)) q { L with num := x } s1 s2 s3 s4 :=
  ⟨(h.1.set 11 (by omega) _).is (fun i hi => match i, hi with | 0, _ | 1, _ | 2, _ | 3, _ | 4, _ | 5, _ | 6, _ | 7, _ | 8, _ | 9, _ | 10, _ | 11, _ | 12, _ | 13, _ | 14, _ | 15, _ | 16, _ => rfl | i + 17, h => absurd h (by omega)), h.2.1.set _ _, h.2.2.1.set _ _, h.2.2.2.1.set _ _, h.2.2.2.2.set _ _⟩
theorem LBox.set_cost (h : LBox w q L s1 s2 s3 s4) (x : Int) : LBox (w.setCell ⟨q, 12, none⟩ (.int .i64 x)) q { L with cost := x } s1 s2 s3 s4 :=
  ⟨(h.1.set 12 (by omega) _).is (fun i hi => match i, hi with | 0, _ | 1, _ | 2, _ | 3, _ | 4, _ | 5, _ | 6, _ | 7, _ | 8, _ | 9, _ | 10, _ | 11, _ | 12, _ | 13, _ | 14, _ | 15, _ | 16, _ => rfl | i + 17, h => absurd h (by omega)), h.2.1.set _ _, h.2.2.1.set _ _, h.2.2.2.1.set _ _, h.2.2.2.2.set _ _⟩
theorem LBox.set_tagged (h : LBox w q L s1 s2 s3 s4) (t : SlV) (xs : List Int) (ht : FSl w q .i64 t xs) : LBox (w.setCell ⟨q, 13, none⟩ (.slice t.A t.n t.c)) q { L with tagged := xs } t s2 s3 s4 :=
  ⟨(h.1.set 13 (by omega) _).is (fun i hi => match i, hi with | 0, _ | 1, _ | 2, _ | 3, _ | 4, _ | 5, _ | 6, _ | 7, _ | 8, _ | 9, _ | 10, _ | 11, _ | 12, _ | 13, _ | 14, _ | 15, _ | 16, _ => rfl | i + 17, h => absurd h (by omega)), ht.set _ _, h.2.2.1.set _ _, h.2.2.2.1.set _ _, h.2.2.2.2.set _ _⟩
theorem LBox.set_imports (h : LBox w q L s1 s2 s3 s4) (t : SlV) (xs : List Int) (ht : FSl w q .i64 t xs) : LBox (w.setCell ⟨q, 14, none⟩ (.slice t.A t.n t.c)) q { L with imports := xs } s1 t s3 s4 :=
  ⟨(h.1.set 14 (by omega) _).is (fun i hi => match i, hi with | 0, _ | 1, _ | 2, _ | 3, _ | 4, _ | 5, _ | 6, _ | 7, _ | 8, _ | 9, _ | 10, _ | 11, _ | 12, _ | 13, _ | 14, _ | 15, _ | 16, _ => rfl | i + 17, h => absurd h (by omega)), h.2.1.set _ _, ht.set _ _, h.2.2.2.1.set _ _, h.2.2.2.2.set _ _⟩
theorem LBox.set_exports (h : LBox w q L s1 s2 s3 s4) (t : SlV) (xs : List Int) (ht : FSl w q .i64 t xs) : LBox (w.setCell ⟨q, 15, none⟩ (.slice t.A t.n t.c)) q { L with exports := xs } s1 s2 t s4 :=
  ⟨(h.1.set 15 (by omega) _).is (fun i hi => match i, hi with | 0, _ | 1, _ | 2, _ | 3, _ | 4, _ | 5, _ | 6, _ | 7, _ | 8, _ | 9, _ | 10, _ | 11, _ | 12, _ | 13, _ | 14, _ | 15, _ | 16, _ => rfl | i + 17, h => absurd h (by omega)), h.2.1.set _ _, h.2.2.1.set _ _, ht.set _ _, h.2.2.2.2.set _ _⟩
theorem LBox.set_addrs (h : LBox w q L s1 s2 s3 s4) (t : SlV) (xs : List Int) (ht : FSl w q .u32 t xs) : LBox (w.setCell ⟨q, 16, none⟩ (.slice t.A t.n t.c)) q { L with addrs := xs } s1 s2 s3 t :=
  ⟨(h.1.set 16 (by omega) _).is (fun i hi => match i, hi with | 0, _ | 1, _ | 2, _ | 3, _ | 4, _ | 5, _ | 6, _ | 7, _ | 8, _ | 9, _ | 10, _ | 11, _ | 12, _ | 13, _ | 14, _ | 15, _ | 16, _ => rfl | i + 17, h => absurd h (by omega)), h.2.1.set _ _, h.2.2.1.set _ _, h.2.2.2.1.set _ _, ht.set _ _⟩
end
/-- a line's cells; a line as a value -/
abbrev lA (L : LV) (s1 s2 s3 s4 : SlV) : Array Value := #[.int .i64 L.row, .int .i64 L.kind, .string (str L.dev), .string (str L.port), .string (str L.peer), .string (str L.far), .string (str L.name), .int .u64 L.mac, .int .u32 L.addr, .int .i64 L.bits, .int .i64 L.vlan, .int .i64 L.num, .int .i64 L.cost, .slice s1.A s1.n s1.c, .slice s2.A s2.n s2.c, .slice s3.A s3.n s3.c, .slice s4.A s4.n s4.c]
def lineV (L : LV) (s1 s2 s3 s4 : SlV) : Value := .agg #[.int .i64 L.row, .int .i64 L.kind, .string (str L.dev), .string (str L.port), .string (str L.peer), .string (str L.far), .string (str L.name), .int .u64 L.mac, .int .u32 L.addr, .int .i64 L.bits, .int .i64 L.vlan, .int .i64 L.num, .int .i64 L.cost, .slice s1.A s1.n s1.c, .slice s2.A s2.n s2.c, .slice s3.A s3.n s3.c, .slice s4.A s4.n s4.c]
/-- a line's value reads as the line -/
def LRead (w : World) (L : LV) (s1 s2 s3 s4 : SlV) : Prop := ISl w .i64 s1.A s1.n s1.c L.tagged ∧ ISl w .i64 s2.A s2.n s2.c L.imports ∧ ISl w .i64 s3.A s3.n s3.c L.exports ∧ ISl w .u32 s4.A s4.n s4.c L.addrs
def LV.zero : LV := ⟨0, 0, [], [], [], [], [], 0, 0, 0, 0, 0, 0, [], [], [], []⟩
theorem LRead.zero {w : World} : LRead w LV.zero SlV.nil SlV.nil SlV.nil SlV.nil := ⟨ISl.nil, ISl.nil, ISl.nil, ISl.nil⟩
theorem LBox.read {w : World} {q : Nat} {L : LV} {s1 s2 s3 s4 : SlV} (h : LBox w q L s1 s2 s3 s4) : LRead w L s1 s2 s3 s4 := ⟨h.2.1.1, h.2.2.1.1, h.2.2.2.1.1, h.2.2.2.2.1⟩
end Go.Proofs.Ytnpembgchmmbjaa

namespace Go.Proofs.Ytnpembgchmmbjaa
open Go.RowKit

theorem Ex.cells {q : Nat} : ∀ (vs : List Value) (o : Nat) (w w' : World), Ex q w w' → Ex q w (w'.setCells q o vs)
  | [], _, _, _, h => h
  | v :: r, o, w, _, h => Ex.cells r (o + 1) w _ (h.set o v)
/-- a block of n cells, none of them frozen, that may be stored into -/
theorem there_all {w : World} {q n : Nat} (hc : ∀ j, j < n → (w.cell? ⟨q, j, none⟩).isSome = true) (hf : ∀ o, w.frozen? ⟨q, o, none⟩ = false) : w.there q 0 n := fun j hj => by
  rw [Nat.zero_add]
  exact ⟨hc j hj, hf j⟩
/-- a store of a whole struct into a block: the block's cells are the struct's, all other blocks are as they were -/
theorem wpList_put {P : Program} {ops : Array Oper} {rest : List Oper} {op : Oper} {a : Act} {w : World} {Q : Exit → Act → World → Prop} (hgd : op.guard = none) (ty : TypeId) (x y : Operand) (ho : op.op = .store ty x y)
    (p : Nat) (hx : a.eval x = .pointer (some ⟨p, 0, none⟩)) (cells : Array Value) (hy : a.eval y = .agg cells) (hc : ∀ j, j < cells.size → (w.cell? ⟨p, j, none⟩).isSome = true) (hf : ∀ o, w.frozen? ⟨p, o, none⟩ = false)
    (hi : (P.info? ty).map (·.size) = some cells.size) (h1 : cells.all (·.oneCell') = true)
    (h : ∀ w9, (∀ (j : Nat) (v : Value), cells.toList[j]? = some v → w9.cell? ⟨p, j, none⟩ = some v) → (∀ o, w9.frozen? ⟨p, o, none⟩ = false) → Ex p w w9 → wpList P ops Q rest (a.put op.dst undef) w9) : wpList P ops Q (op :: rest) a w := by
  have ht : w.there p 0 cells.size := there_all hc hf
  refine wpList_store_mid hgd ty x y ho p 0 cells hx hy ht hi h1 (h _ (fun j v hv => ?_) (fun o => by rw [World.frozen?_setCells]; exact hf o) (Ex.cells _ 0 w w (Ex.refl _ _)))
  have := World.rangeAt_setCells_same w p 0 cells.toList (by simpa using ht) j v hv
  rwa [Nat.zero_add] at this
end Go.Proofs.Ytnpembgchmmbjaa

namespace Go.Proofs.Ytnpembgchmmbjaa
open Go.RowKit

theorem BoxF.ex {w w' : World} {q p n : Nat} {f : Nat → Value} (h : BoxF w p n f) (hn : 0 < n) (g : Ex q w w') (hp : p ≠ q) : BoxF w' p n f :=
  h.same (fun o => g.cell o (h.lt hn) hp) (fun o => g.frozen o (h.lt hn) hp)
theorem LBox.ex {w w' : World} {q p : Nat} {L : LV} {s1 s2 s3 s4 : SlV} (h : LBox w q L s1 s2 s3 s4) (g : Ex p w w') (hp : p < q) : LBox w' q L s1 s2 s3 s4 := by
  have key : ∀ (k : IntKind) (s : SlV) (xs : List Int), FSl w q k s xs → FSl w' q k s xs := fun k s xs f => ⟨((f.mono (Nat.le_of_lt hp)).ex g).1, f.2⟩
  exact ⟨h.1.ex (by omega) g (by omega), key _ _ _ h.2.1, key _ _ _ h.2.2.1, key _ _ _ h.2.2.2.1, key _ _ _ h.2.2.2.2⟩
theorem LRead.ex {w w' : World} {q p : Nat} {L : LV} {s1 s2 s3 s4 : SlV} (h : LBox w q L s1 s2 s3 s4) (g : Ex p w w') (hp : p < q) : LRead w' L s1 s2 s3 s4 := (h.ex g hp).read
theorem line_cells (L : LV) (s1 s2 s3 s4 : SlV) : ∃ C : Array Value, lineV L s1 s2 s3 s4 = .agg C ∧ C.size = 17 := ⟨_, rfl, rfl⟩
/-- the cells of a line -/
theorem lc_list (L : LV) (s1 s2 s3 s4 : SlV) (j : Nat) (hj : j < 17) (C : Array Value) (hC : lineV L s1 s2 s3 s4 = .agg C) : C.toList[j]? = some (lc L s1 s2 s3 s4 j) := by
  injection hC with hC
  subst hC
  match j, hj with
  | 0, _ | 1, _ | 2, _ | 3, _ | 4, _ | 5, _ | 6, _ | 7, _ | 8, _ | 9, _ | 10, _ | 11, _ | 12, _ | 13, _ | 14, _ | 15, _ | 16, _ => rfl
  | j + 17, h => exact absurd h (by omega)
/-- the box that a line without anything lies in -/
theorem zero_box (w : World) (T : TypeId) : BoxF (w.alloc (.cells #[.int .i64 0, .int .i64 0, .string ⟨#[]⟩, .string ⟨#[]⟩, .string ⟨#[]⟩, .string ⟨#[]⟩, .string ⟨#[]⟩, .int .u64 0, .int .u32 0, .int .i64 0, .int .i64 0, .int .i64 0, .int .i64 0, .slice none 0 0, .slice none 0 0, .slice none 0 0, .slice none 0 0] T)) w.heap.size 17 (lc LV.zero SlV.nil SlV.nil SlV.nil SlV.nil) := by
  refine ⟨fun j hj => ?_, fun o => by simp⟩
  match j, hj with
  | 0, _ | 1, _ | 2, _ | 3, _ | 4, _ | 5, _ | 6, _ | 7, _ | 8, _ | 9, _ | 10, _ | 11, _ | 12, _ | 13, _ | 14, _ | 15, _ | 16, _ => simp [lc, LV.zero, SlV.nil, SlV.val, str]
  | j + 17, h => exact absurd h (by omega)
theorem LRead.below {w w' : World} {L : LV} {s1 s2 s3 s4 : SlV} (h : LRead w L s1 s2 s3 s4) (b : Below w.heap.size w w') : LRead w' L s1 s2 s3 s4 := ⟨h.1.below b, h.2.1.below b, h.2.2.1.below b, h.2.2.2.below b⟩
end Go.Proofs.Ytnpembgchmmbjaa
