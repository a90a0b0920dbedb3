/- A line as a value; the box that a line lies in; a store into it. -/
import Derived.Test.YtpbomfhlghljdaaGreatDoorVxBox
namespace Go.Proofs.YtpbomfhlghljdaaGreatDoor
open Go.RowKit

/-- a line -/
structure LV where
  row : Int
  kind : Int
  dev : List UInt8
  port : List UInt8
  peer : List UInt8
  far : List UInt8
  name : List UInt8
  mac : Int
  addr : Int
  bits : Int
  vlan : Int
  num : Int
  cost : Int
  tagged : List Int
  imports : List Int
  exports : List Int
  addrs : List Int
/-- a slice as its three numbers -/
structure SlV where
  A : Option Addr
  n : Nat
  c : Nat
def SlV.val (s : SlV) : Value := .slice s.A s.n s.c
def SlV.nil : SlV := ⟨none, 0, 0⟩
/-- a list that lies behind block q, or nil -/
def FSl (w : World) (q : Nat) (k : IntKind) (s : SlV) (xs : List Int) : Prop := ISl w k s.A s.n s.c xs ∧ ∀ ad, s.A = some ad → q < ad.block
section
variable {w w' : World} {q : Nat} {k : IntKind} {s : SlV} {xs : List Int}
theorem FSl.nil : FSl w q k SlV.nil [] := ⟨ISl.nil, fun _ h => by cases h⟩
theorem FSl.mono {p : Nat} (h : FSl w q k s xs) (hp : p ≤ q) : FSl w p k s xs := ⟨h.1, fun ad g => Nat.lt_of_le_of_lt hp (h.2 ad g)⟩
theorem FSl.below (h : FSl w q k s xs) (hb : Below w.heap.size w w') : FSl w' q k s xs := ⟨h.1.below hb, h.2⟩
theorem FSl.set (h : FSl w q k s xs) (j : Nat) (v : Value) : FSl (w.setCell ⟨q, j, none⟩ v) q k s xs := by
  refine ⟨⟨h.1.1, h.1.2.1, h.1.2.2.1, fun hn => ?_⟩, h.2⟩
  obtain ⟨b, off, e, hb, hc⟩ := h.1.2.2.2 hn
  refine ⟨b, off, e, by simpa using hb, fun i hi => ?_⟩
  rw [World.cell?_setCell_other _ _ _ _ (by intro e1; injection e1 with e2 _; have h2 : q < b := h.2 _ e; omega)]
  exact hc i hi
theorem FSl.ex (h : FSl w q k s xs) (g : Ex q w w') : FSl w' q k s xs := by
  refine ⟨⟨h.1.1, h.1.2.1, h.1.2.2.1, fun hn => ?_⟩, h.2⟩
  obtain ⟨b, off, e, hb, hc⟩ := h.1.2.2.2 hn
  exact ⟨b, off, e, Nat.lt_of_lt_of_le hb g.size, fun i hi => (g.cell (off + i) hb (by have h2 : q < b := h.2 _ e; omega)).trans (hc i hi)⟩
end

/-- a block of n cells, none of them frozen -/
def BoxF (w : World) (q n : Nat) (f : Nat → Value) : Prop := (∀ j, j < n → w.cell? ⟨q, j, none⟩ = some (f j)) ∧ ∀ o, w.frozen? ⟨q, o, none⟩ = false
section
variable {w w' : World} {q n : Nat} {f g : Nat → Value}
theorem BoxF.cell (h : BoxF w q n f) (j : Nat) (hj : j < n) : w.cell? ⟨q, j, none⟩ = some (f j) := h.1 j hj
theorem BoxF.lt (h : BoxF w q n f) (hn : 0 < n) : q < w.heap.size := World.block_lt_of_cell? w _ (h.1 0 hn)
theorem BoxF.same (h : BoxF w q n f) (hc : ∀ o, w'.cell? ⟨q, o, none⟩ = w.cell? ⟨q, o, none⟩) (hf : ∀ o, w'.frozen? ⟨q, o, none⟩ = w.frozen? ⟨q, o, none⟩) : BoxF w' q n f :=
  ⟨fun j hj => (hc j).trans (h.1 j hj), fun o => (hf o).trans (h.2 o)⟩
theorem BoxF.below (h : BoxF w q n f) (hn : 0 < n) (b : Below w.heap.size w w') : BoxF w' q n f :=
  h.same (fun o => b.cell (p := ⟨q, o, none⟩) (h.lt hn)) (fun o => b.frozen (p := ⟨q, o, none⟩) (h.lt hn))
theorem BoxF.set (h : BoxF w q n f) (j : Nat) (hj : j < n) (v : Value) : BoxF (w.setCell ⟨q, j, none⟩ v) q n (fun i => if i = j then v else f i) := by
  refine ⟨fun i hi => ?_, fun o => (World.frozen?_setCell _ _ _ _).trans (h.2 o)⟩
  show _ = some (if i = j then v else f i)
  by_cases e : i = j
  · subst e
    rw [if_pos rfl]
    exact World.cell?_setCell_same _ _ _ (h.1 i hi)
  · rw [if_neg e, World.cell?_setCell_other _ _ _ _ (by intro e1; injection e1 with _ e2; exact e e2.symm)]
    exact h.1 i hi
theorem BoxF.is (h : BoxF w q n f) (e : ∀ i, i < n → f i = g i) : BoxF w q n g := ⟨fun j hj => by rw [← e j hj]; exact h.1 j hj, h.2⟩
end

/-- a line's cells -/
def lc (L : LV) (s1 s2 s3 s4 : SlV) : Nat → Value
  | 0 => .int .i64 L.row
  | 1 => .int .i64 L.kind
  | 2 => .string (str L.dev)
  | 3 => .string (str L.port)
  | 4 => .string (str L.peer)
  | 5 => .string (str L.far)
  | 6 => .string (str L.name)
  | 7 => .int .u64 L.mac
  | 8 => .int .u32 L.addr
  | 9 => .int .i64 L.bits
  | 10 => .int .i64 L.vlan
  | 11 => .int .i64 L.num
  | 12 => .int .i64 L.cost
  | 13 => s1.val
  | 14 => s2.val
  | 15 => s3.val
  | _ => s4.val
/-- a line in a box, its lists elsewhere -/
def LBox (w : World) (q : Nat) (L : LV) (s1 s2 s3 s4 : SlV) : Prop :=
  BoxF w q 17 (lc L s1 s2 s3 s4) ∧ FSl w q .i64 s1 L.tagged ∧ FSl w q .i64 s2 L.imports ∧ FSl w q .i64 s3 L.exports ∧ FSl w q .u32 s4 L.addrs
section
variable {w w' : World} {q : Nat} {L : LV} {s1 s2 s3 s4 : SlV}
theorem LBox.lt (h : LBox w q L s1 s2 s3 s4) : q < w.heap.size := h.1.lt (by omega)
theorem LBox.below (h : LBox w q L s1 s2 s3 s4) (b : Below w.heap.size w w') : LBox w' q L s1 s2 s3 s4 := ⟨h.1.below (by omega) b, h.2.1.below b, h.2.2.1.below b, h.2.2.2.1.below b, h.2.2.2.2.below b⟩
theorem LBox.alloc (h : LBox w q L s1 s2 s3 s4) (o : Obj) : LBox (w.alloc o) q L s1 s2 s3 s4 := h.below ((Below.refl _ _).alloc (Nat.le_refl _) o)
theorem LBox.drewN (h : LBox w q L s1 s2 s3 s4) (m : Nat) : LBox (w.drewN m) q L s1 s2 s3 s4 := h
theorem LBox.frozen (h : LBox w q L s1 s2 s3 s4) : ∀ o, w.frozen? ⟨q, o, none⟩ = false := h.1.2
theorem LBox.cells (h : LBox w q L s1 s2 s3 s4) : w.cell? ⟨q, 0, none⟩ = some (.int .i64 L.row) ∧ w.cell? ⟨q, 1, none⟩ = some (.int .i64 L.kind) ∧ w.cell? ⟨q, 2, none⟩ = some (.string (str L.dev)) ∧ w.cell? ⟨q, 3, none⟩ = some (.string (str L.port)) ∧ w.cell? ⟨q, 4, none⟩ = some (.string (str L.peer)) ∧ w.cell? ⟨q, 5, none⟩ = some (.string (str L.far)) ∧ w.cell? ⟨q, 6, none⟩ = some (.string (str L.name)) ∧ w.cell? ⟨q, 7, none⟩ = some (.int .u64 L.mac) ∧ w.cell? ⟨q, 8, none⟩ = some (.int .u32 L.addr) ∧ w.cell? ⟨q, 9, none⟩ = some (.int .i64 L.bits) ∧ w.cell? ⟨q, 10, none⟩ = some (.int .i64 L.vlan) ∧ w.cell? ⟨q, 11, none⟩ = some (.int .i64 L.num) ∧ w.cell? ⟨q, 12, none⟩ = some (.int .i64 L.cost) ∧ w.cell? ⟨q, 13, none⟩ = some (.slice s1.A s1.n s1.c) ∧ w.cell? ⟨q, 14, none⟩ = some (.slice s2.A s2.n s2.c) ∧ w.cell? ⟨q, 15, none⟩ = some (.slice s3.A s3.n s3.c) ∧ w.cell? ⟨q, 16, none⟩ = some (.slice s4.A s4.n s4.c) := ⟨h.1.cell 0 (by omega), h.1.cell 1 (by omega), h.1.cell 2 (by omega), h.1.cell 3 (by omega), h.1.cell 4 (by omega), h.1.cell 5 (by omega), h.1.cell 6 (by omega), h.1.cell 7 (by omega), h.1.cell 8 (by omega), h.1.cell 9 (by omega), h.1.cell 10 (by omega), h.1.cell 11 (by omega), h.1.cell 12 (by omega), h.1.cell 13 (by omega), h.1.cell 14 (by omega), h.1.cell 15 (by omega), h.1.cell 16 (by omega)⟩
theorem LBox.set_dev (h : LBox w q L s1 s2 s3 s4) (x : List UInt8) : LBox (w.setCell ⟨q, 2, none⟩ (.string (str x))) q { L with dev := x } s1 s2 s3 s4 :=
  ⟨(h.1.set 2 (by omega) _).is (fun i hi => match i, hi with | 0, _ | 1, _ | 2, _ | 3, _ | 4, _ | 5, _ | 6, _ | 7, _ | 8, _ | 9, _ | 10, _ | 11, _ | 12, _ | 13, _ | 14, _ | 15, _ | 16, _ => rfl | i + 17, h => absurd h (by omega)), h.2.1.set _ _, h.2.2.1.set _ _, h.2.2.2.1.set _ _, h.2.2.2.2.set _ _⟩
theorem LBox.set_port (h : LBox w q L s1 s2 s3 s4) (x : List UInt8) : LBox (w.setCell ⟨q, 3, none⟩ (.string (str x))) q { L with port := x } s1 s2 s3 s4 :=
  ⟨(h.1.set 3 (by omega) _).is (fun i hi => match i, hi with | 0, _ | 1, _ | 2, _ | 3, _ | 4, _ | 5, _ | 6, _ | 7, _ | 8, _ | 9, _ | 10, _ | 11, _ | 12, _ | 13, _ | 14, _ | 15, _ | 16, _ => rfl | i + 17, h => absurd h (by omega)), h.2.1.set _ _, h.2.2.1.set _ _, h.2.2.2.1.set _ _, h.2.2.2.2.set _ _⟩
theorem LBox.set_peer (h : LBox w q L s1 s2 s3 s4) (x : List UInt8) : LBox (w.setCell ⟨q, 4, none⟩ (.string (str x))) q { L with peer := x } s1 s2 s3 s4 :=
  ⟨(h.1.set 4 (by omega) _).is (fun i hi => match i, hi with | 0, _ | 1, _ | 2, _ | 3, _ | 4, _ | 5, _ | 6, _ | 7, _ | 8, _ | 9, _ | 10, _ | 11, _ | 12, _ | 13, _ | 14, _ | 15, _ | 16, _ => rfl | i + 17, h => absurd h (by omega)), h.2.1.set _ _, h.2.2.1.set _ _, h.2.2.2.1.set _ _, h.2.2.2.2.set _ _⟩
theorem LBox.set_far (h : LBox w q L s1 s2 s3 s4) (x : List UInt8) : LBox (w.setCell ⟨q, 5, none⟩ (.string (str x))) q { L with far := x } s1 s2 s3 s4 :=
  ⟨(h.1.set 5 (by omega) _).is (fun i hi => match i, hi with | 0, _ | 1, _ | 2, _ | 3, _ | 4, _ | 5, _ | 6, _ | 7, _ | 8, _ | 9, _ | 10, _ | 11, _ | 12, _ | 13, _ | 14, _ | 15, _ | 16, _ => rfl | i + 17, h => absurd h (by omega)), h.2.1.set _ _, h.2.2.1.set _ _, h.2.2.2.1.set _ _, h.2.2.2.2.set _ _⟩
theorem LBox.set_name (h : LBox w q L s1 s2 s3 s4) (x : List UInt8) : LBox (w.setCell ⟨q, 6, none⟩ (.string (str x))) q { L with name := x } s1 s2 s3 s4 :=
  ⟨(h.1.set 6 (by omega) _).is (fun i hi => match i, hi with | 0, _ | 1, _ | 2, _ | 3, _ | 4, _ | 5, _ | 6, _ | 7, _ | 8, _ | 9, _ | 10, _ | 11, _ | 12, _ | 13, _ | 14, _ | 15, _ | 16, _ => rfl | i + 17, h => absurd h (by omega)), h.2.1.set _ _, h.2.2.1.set _ _, h.2.2.2.1.set _ _, h.2.2.2.2.set _ _⟩
theorem LBox.set_mac (h : LBox w q L s1 s2 s3 s4) (x : Int) : LBox (w.setCell ⟨q, 7, none⟩ (.int .u64 x)) q { L with mac := x } s1 s2 s3 s4 :=
  ⟨(h.1.set 7 (by omega) _).is (fun i hi => match i, hi with | 0, _ | 1, _ | 2, _ | 3, _ | 4, _ | 5, _ | 6, _ | 7, _ | 8, _ | 9, _ | 10, _ | 11, _ | 12, _ | 13, _ | 14, _ | 15, _ | 16, _ => rfl | i + 17, h => absurd h (by omega)), h.2.1.set _ _, h.2.2.1.set _ _, h.2.2.2.1.set _ _, h.2.2.2.2.set _ _⟩
theorem LBox.set_addr (h : LBox w q L s1 s2 s3 s4) (x : Int) : LBox (w.setCell ⟨q, 8, none⟩ (.int .u32 x)) q { L with addr := x } s1 s2 s3 s4 :=
  ⟨(h.1.set 8 (by omega) _).is (fun i hi => match i, hi with | 0, _ | 1, _ | 2, _ | 3, _ | 4, _ | 5, _ | 6, _ | 7, _ | 8, _ | 9, _ | 10, _ | 11, _ | 12, _ | 13, _ | 14, _ | 15, _ | 16, _ => rfl | i + 17, h => absurd h (by omega)), h.2.1.set _ _, h.2.2.1.set _ _, h.2.2.2.1.set _ _, h.2.2.2.2.set _ _⟩
theorem LBox.set_bits (h : LBox w q L s1 s2 s3 s4) (x : Int) : LBox (w.setCell ⟨q, 9, none⟩ (.int .i64 x)) q { L with bits := x } s1 s2 s3 s4 :=
  ⟨(h.1.set 9 (by omega) _).is (fun i hi => match i, hi with | 0, _ | 1, _ | 2, _ | 3, _ | 4, _ | 5, _ | 6, _ | 7, _ | 8, _ | 9, _ | 10, _ | 11, _ | 12, _ | 13, _ | 14, _ | 15, _ | 16, _ => rfl | i + 17, h => absurd h (by omega)), h.2.1.set _ _, h.2.2.1.set _ _, h.2.2.2.1.set _ _, h.2.2.2.2.set _ _⟩
theorem LBox.set_vlan (h : LBox w q L s1 s2 s3 s4) (x : Int) : LBox (w.setCell ⟨q, 10, none⟩ (.int .i64 x)) q { L with vlan := x } s1 s2 s3 s4 :=
  ⟨(h.1.set 10 (by omega) _).is (fun i hi => match i, hi with | 0, _ | 1, _ | 2, _ | 3, _ | 4, _ | 5, _ | 6, _ | 7, _ | 8, _ | 9, _ | 10, _ | 11, _ | 12, _ | 13, _ | 14, _ | 15, _ | 16, _ => rfl | i + 17, h => absurd h (by omega)), h.2.1.set _ _, h.2.2.1.set _ _, h.2.2.2.1.set _ _, h.2.2.2.2.set _ _⟩
theorem LBox.set_num (h : LBox w q L s1 s2 s3 s4) (x : Int) : LBox (w.setCell ⟨q, 11, none⟩ (.int .i64 x)) q { L with num := x } s1 s2 s3 s4 :=
  ⟨(h.1.set 11 (by omega) _).is (fun i hi => match i, hi with | 0, _ | 1, _ | 2, _ | 3, _ | 4, _ | 5, _ | 6, _ | 7, _ | 8, _ | 9, _ | 10, _ | 11, _ | 12, _ | 13, _ | 14, _ | 15, _ | 16, _ => rfl | i + 17, h => absurd h (by omega)), h.2.1.set _ _, h.2.2.1.set _ _, h.2.2.2.1.set _ _, h.2.2.2.2.set _ _⟩
theorem LBox.set_cost (h : LBox w q L s1 s2 s3 s4) (x : Int) : LBox (w.setCell ⟨q, 12, none⟩ (.int .i64 x)) q { L with cost := x } s1 s2 s3 s4 :=
  ⟨(h.1.set 12 (by omega) _).is (fun i hi => match i, hi with | 0, _ | 1, _ | 2, _ | 3, _ | 4, _ | 5, _ | 6, _ | 7, _ | 8, _ | 9, _ | 10, _ | 11, _ | 12, _ | 13, _ | 14, _ | 15, _ | 16, _ => rfl | i + 17, h => absurd h (by omega)), h.2.1.set _ _, h.2.2.1.set _ _, h.2.2.2.1.set _ _, h.2.2.2.2.set _ _⟩
theorem LBox.set_tagged (h : LBox w q L s1 s2 s3 s4) (t : SlV) (xs : List Int) (ht : FSl w q .i64 t xs) : LBox (w.setCell ⟨q, 13, none⟩ (.slice t.A t.n t.c)) q { L with tagged := xs } t s2 s3 s4 :=
  ⟨(h.1.set 13 (by omega) _).is (fun i hi => match i, hi with | 0, _ | 1, _ | 2, _ | 3, _ | 4, _ | 5, _ | 6, _ | 7, _ | 8, _ | 9, _ | 10, _ | 11, _ | 12, _ | 13, _ | 14, _ | 15, _ | 16, _ => rfl | i + 17, h => absurd h (by omega)), ht.set _ _, h.2.2.1.set _ _, h.2.2.2.1.set _ _, h.2.2.2.2.set _ _⟩
theorem LBox.set_imports (h : LBox w q L s1 s2 s3 s4) (t : SlV) (xs : List Int) (ht : FSl w q .i64 t xs) : LBox (w.setCell ⟨q, 14, none⟩ (.slice t.A t.n t.c)) q { L with imports := xs } s1 t s3 s4 :=
  ⟨(h.1.set 14 (by omega) _).is (fun i hi => match i, hi with | 0, _ | 1, _ | 2, _ | 3, _ | 4, _ | 5, _ | 6, _ | 7, _ | 8, _ | 9, _ | 10, _ | 11, _ | 12, _ | 13, _ | 14, _ | 15, _ | 16, _ => rfl | i + 17, h => absurd h (by omega)), h.2.1.set _ _, ht.set _ _, h.2.2.2.1.set _ _, h.2.2.2.2.set _ _⟩
theorem LBox.set_exports (h : LBox w q L s1 s2 s3 s4) (t : SlV) (xs : List Int) (ht : FSl w q .i64 t xs) : LBox (w.setCell ⟨q, 15, none⟩ (.slice t.A t.n t.c)) q { L with exports := xs } s1 s2 t s4 :=
  ⟨(h.1.set 15 (by omega) _).is (fun i hi => match i, hi with | 0, _ | 1, _ | 2, _ | 3, _ | 4, _ | 5, _ | 6, _ | 7, _ | 8, _ | 9, _ | 10, _ | 11, _ | 12, _ | 13, _ | 14, _ | 15, _ | 16, _ => rfl | i + 17, h => absurd h (by omega)), h.2.1.set _ _, h.2.2.1.set _ _, ht.set _ _, h.2.2.2.2.set _ _⟩
theorem LBox.set_addrs (h : LBox w q L s1 s2 s3 s4) (t : SlV) (xs : List Int) (ht : FSl w q .u32 t xs) : LBox (w.setCell ⟨q, 16, none⟩ (.slice t.A t.n t.c)) q { L with addrs := xs } s1 s2 s3 t :=
  ⟨(h.1.set 16 (by omega) _).is (fun i hi => match i, hi with | 0, _ | 1, _ | 2, _ | 3, _ | 4, _ | 5, _ | 6, _ | 7, _ | 8, _ | 9, _ | 10, _ | 11, _ | 12, _ | 13, _ | 14, _ | 15, _ | 16, _ => rfl | i + 17, h => absurd h (by omega)), h.2.1.set _ _, h.2.2.1.set _ _, h.2.2.2.1.set _ _, ht.set _ _⟩
end
/-- a line as a value -/
def lineV (L : LV) (s1 s2 s3 s4 : SlV) : Value := .agg #[.int .i64 L.row, .int .i64 L.kind, .string (str L.dev), .string (str L.port), .string (str L.peer), .string (str L.far), .string (str L.name), .int .u64 L.mac, .int .u32 L.addr, .int .i64 L.bits, .int .i64 L.vlan, .int .i64 L.num, .int .i64 L.cost, .slice s1.A s1.n s1.c, .slice s2.A s2.n s2.c, .slice s3.A s3.n s3.c, .slice s4.A s4.n s4.c]
/-- a line's value reads as the line -/
def LRead (w : World) (L : LV) (s1 s2 s3 s4 : SlV) : Prop := ISl w .i64 s1.A s1.n s1.c L.tagged ∧ ISl w .i64 s2.A s2.n s2.c L.imports ∧ ISl w .i64 s3.A s3.n s3.c L.exports ∧ ISl w .u32 s4.A s4.n s4.c L.addrs
def LV.zero : LV := ⟨0, 0, [], [], [], [], [], 0, 0, 0, 0, 0, 0, [], [], [], []⟩
theorem LRead.zero {w : World} : LRead w LV.zero SlV.nil SlV.nil SlV.nil SlV.nil := ⟨ISl.nil, ISl.nil, ISl.nil, ISl.nil⟩
theorem LBox.read {w : World} {q : Nat} {L : LV} {s1 s2 s3 s4 : SlV} (h : LBox w q L s1 s2 s3 s4) : LRead w L s1 s2 s3 s4 := ⟨h.2.1.1, h.2.2.1.1, h.2.2.2.1.1, h.2.2.2.2.1⟩
end Go.Proofs.YtpbomfhlghljdaaGreatDoor
