/- XBsl; XStPut; XStLib; XNnDyn -/
import Derived.Test.YtgmflecelnefcaaGreatOk01
import Derived.Test.YtgmflecelnefcaaGreatOk03
import Derived.Laws.AppendOwnNone
import Derived.Laws.CopyOwn
import Derived.Deep.RegionHeldLaw
import Derived.Lib.SmallJoins
import Derived.Lib.SliceRun
import Derived.Deep.MidRow
import Derived.Great.Walk
import Derived.WalkSpells
import Derived.Test.YtgmflecelnefcaaGreatShelf
/- Slices of bytes that read as a list of bytes, nil or not; appending them. Two bytes as a number; a frame, or bytes, with a number, as calls return them. Bytes as a text, the block of an owned row. Pieces of a row; the contract of bytes.Clone. The contract of bytes.Equal. A store into a row of the call's own, of any values and of bytes. A block of four cells, not frozen; written whole. -/
namespace Go.Proofs.YtgmflecelnefcaaGreat
open Go.RowKit
open Go.Lib (byteCells)

/-- a number as a byte -/
def u8 (x : Int) : UInt8 := UInt8.ofNat x.toNat
section
variable {w w' : World} {A : Option Addr} {n c : Nat} {l : List UInt8}
end

end Go.Proofs.YtgmflecelnefcaaGreat

namespace Go.Proofs.YtgmflecelnefcaaGreat
open Go.RowKit
open Go.Lib (byteCells)

end Go.Proofs.YtgmflecelnefcaaGreat

namespace Go.Proofs.YtgmflecelnefcaaGreat
open Go.RowKit
open Go.Lib (byteCells)

end Go.Proofs.YtgmflecelnefcaaGreat

namespace Go.Proofs.YtgmflecelnefcaaGreat
open Go.RowKit
open Go.Lib (byteCells)

end Go.Proofs.YtgmflecelnefcaaGreat

namespace Go.Proofs.YtgmflecelnefcaaGreat
open Go.RowKit
open Go.Lib (byteCells)

end Go.Proofs.YtgmflecelnefcaaGreat

namespace Go.Proofs.YtgmflecelnefcaaGreat
open Go.RowKit
open Go.Lib (byteCells)

end Go.Proofs.YtgmflecelnefcaaGreat

namespace Go.Proofs.YtgmflecelnefcaaGreat
open Go.RowKit

section
variable {w w' : World} {q : Nat} {v0 v1 v2 v3 : Value}
end
end Go.Proofs.YtgmflecelnefcaaGreat

/- A block of nine cells, not frozen, none of them a byte; what leaves all blocks but one. A line as a value; the box that a line lies in; a store into it. A struct of many cells stored whole, and loaded whole: one step each. A line stored whole into a box, and a line's box loaded whole. -/
namespace Go.Proofs.YtgmflecelnefcaaGreat
open Go.RowKit
open Go.Lib (byteCells)

/-- all blocks but one are as they were -/
def Ex (q : Nat) (w w' : World) : Prop := w'.os = w.os ∧ w'.tape = w.tape ∧ w'.output = w.output ∧ w.heap.size ≤ w'.heap.size ∧ ∀ k, k ≠ q → k < w.heap.size → w'.heap[k]? = w.heap[k]?
section
variable {q : Nat} {w w' w'' : World}
theorem Ex.of_below (h : Below w.heap.size w w') : Ex q w w' := ⟨h.os, h.tape, h.output, h.size, fun k _ hk => h.block k hk⟩
theorem Ex.refl (q : Nat) (w : World) : Ex q w w := Ex.of_below (Below.refl _ _)
theorem Ex.trans (h : Ex q w w') (g : Ex q w' w'') : Ex q w w'' := by
  obtain ⟨h0, h1, h2, h3, h4⟩ := h
  obtain ⟨g0, g1, g2, g3, g4⟩ := g
  exact ⟨g0.trans h0, g1.trans h1, g2.trans h2, Nat.le_trans h3 g3, fun k hq hk => (g4 k hq (by omega)).trans (h4 k hq hk)⟩
theorem Ex.set (h : Ex q w w') (j : Nat) (v : Value) : Ex q w (w'.setCell ⟨q, j, none⟩ v) :=
  h.trans ⟨rfl, rfl, rfl, by simp [World.setCell], fun k hk _ => Below.heap_setCell _ _ _ _ hk⟩
theorem Ex.size (h : Ex q w w') : w.heap.size ≤ w'.heap.size := h.2.2.2.1
theorem Ex.cell (h : Ex q w w') {b : Nat} (o : Nat) (hb : b < w.heap.size) (hq : b ≠ q) : w'.cell? ⟨b, o, none⟩ = w.cell? ⟨b, o, none⟩ := World.cell?_of_block (w := w) (h.2.2.2.2 b hq hb)
theorem Below.ex {B : Nat} {a : World} (g : Below B a w) (h : Ex q w w') (hB : B ≤ q) (hs : B ≤ w.heap.size) : Below B a w' :=
  g.trans ⟨h.1, h.2.1, h.2.2.1, h.2.2.2.1, fun k hk => h.2.2.2.2 k (by omega) (by omega)⟩
end

section
variable {w w' : World} {q : Nat} {v0 v1 v2 v3 v4 v5 v6 v7 v8 x : Value}
end
end Go.Proofs.YtgmflecelnefcaaGreat

namespace Go.Proofs.YtgmflecelnefcaaGreat
open Go.RowKit

/-- a line -/
structure LV where
  row : Int
  kind : Int
  dev : List UInt8
  port : List UInt8
  peer : List UInt8
  far : List UInt8
  name : List UInt8
  mac : Int
  addr : Int
  bits : Int
  vlan : Int
  num : Int
  cost : Int
  tagged : List Int
  imports : List Int
  exports : List Int
  addrs : List Int
/-- a slice as its three numbers -/
structure SlV where
  A : Option Addr
  n : Nat
  c : Nat
def SlV.val (s : SlV) : Value := .slice s.A s.n s.c
def SlV.nil : SlV := ⟨none, 0, 0⟩
/-- a list that lies behind block q, or nil -/
def FSl (w : World) (q : Nat) (k : IntKind) (s : SlV) (xs : List Int) : Prop := ISl w k s.A s.n s.c xs ∧ ∀ ad, s.A = some ad → q < ad.block
section
variable {w w' : World} {q : Nat} {k : IntKind} {s : SlV} {xs : List Int}
theorem FSl.set (h : FSl w q k s xs) (j : Nat) (v : Value) : FSl (w.setCell ⟨q, j, none⟩ v) q k s xs := by
  refine ⟨⟨h.1.1, h.1.2.1, h.1.2.2.1, fun hn => ?_⟩, h.2⟩
  obtain ⟨b, off, e, hb, hc⟩ := h.1.2.2.2 hn
  refine ⟨b, off, e, by simpa using hb, fun i hi => ?_⟩
  rw [World.cell?_setCell_other _ _ _ _ (by intro e1; injection e1 with e2 _; have h2 : q < b := h.2 _ e; omega)]
  exact hc i hi
end

/-- a block of n cells, none of them frozen -/
def BoxF (w : World) (q n : Nat) (f : Nat → Value) : Prop := (∀ j, j < n → w.cell? ⟨q, j, none⟩ = some (f j)) ∧ ∀ o, w.frozen? ⟨q, o, none⟩ = false
section
variable {w w' : World} {q n : Nat} {f g : Nat → Value}
theorem BoxF.cell (h : BoxF w q n f) (j : Nat) (hj : j < n) : w.cell? ⟨q, j, none⟩ = some (f j) := h.1 j hj
theorem BoxF.lt (h : BoxF w q n f) (hn : 0 < n) : q < w.heap.size := World.block_lt_of_cell? w _ (h.1 0 hn)
theorem BoxF.same (h : BoxF w q n f) (hc : ∀ o, w'.cell? ⟨q, o, none⟩ = w.cell? ⟨q, o, none⟩) (hf : ∀ o, w'.frozen? ⟨q, o, none⟩ = w.frozen? ⟨q, o, none⟩) : BoxF w' q n f :=
  ⟨fun j hj => (hc j).trans (h.1 j hj), fun o => (hf o).trans (h.2 o)⟩
theorem BoxF.below (h : BoxF w q n f) (hn : 0 < n) (b : Below w.heap.size w w') : BoxF w' q n f :=
  h.same (fun o => b.cell (p := ⟨q, o, none⟩) (h.lt hn)) (fun o => b.frozen (p := ⟨q, o, none⟩) (h.lt hn))
theorem BoxF.set (h : BoxF w q n f) (j : Nat) (hj : j < n) (v : Value) : BoxF (w.setCell ⟨q, j, none⟩ v) q n (fun i => if i = j then v else f i) := by
  refine ⟨fun i hi => ?_, fun o => (World.frozen?_setCell _ _ _ _).trans (h.2 o)⟩
  show _ = some (if i = j then v else f i)
  by_cases e : i = j
  · subst e
    rw [if_pos rfl]
    exact World.cell?_setCell_same _ _ _ (h.1 i hi)
  · rw [if_neg e, World.cell?_setCell_other _ _ _ _ (by intro e1; injection e1 with _ e2; exact e e2.symm)]
    exact h.1 i hi
theorem BoxF.is (h : BoxF w q n f) (e : ∀ i, i < n → f i = g i) : BoxF w q n g := ⟨fun j hj => by rw [← e j hj]; exact h.1 j hj, h.2⟩
end

/-- a line's cells -/
def lc (L : LV) (s1 s2 s3 s4 : SlV) : Nat → Value
  | 0 => .int .i64 L.row
  | 1 => .int .i64 L.kind
  | 2 => .string (str L.dev)
  | 3 => .string (str L.port)
  | 4 => .string (str L.peer)
  | 5 => .string (str L.far)
  | 6 => .string (str L.name)
  | 7 => .int .u64 L.mac
  | 8 => .int .u32 L.addr
  | 9 => .int .i64 L.bits
  | 10 => .int .i64 L.vlan
  | 11 => .int .i64 L.num
  | 12 => .int .i64 L.cost
  | 13 => s1.val
  | 14 => s2.val
  | 15 => s3.val
  | _ => s4.val
/-- a line in a box, its lists elsewhere -/
def LBox (w : World) (q : Nat) (L : LV) (s1 s2 s3 s4 : SlV) : Prop :=
  BoxF w q 17 (lc L s1 s2 s3 s4) ∧ FSl w q .i64 s1 L.tagged ∧ FSl w q .i64 s2 L.imports ∧ FSl w q .i64 s3 L.exports ∧ FSl w q .u32 s4 L.addrs
section
variable {w w' : World} {q : Nat} {L : LV} {s1 s2 s3 s4 : SlV}
theorem LBox.lt (h : LBox w q L s1 s2 s3 s4) : q < w.heap.size := h.1.lt (by omega)
theorem LBox.cells (h : LBox w q L s1 s2 s3 s4) : w.cell? ⟨q, 0, none⟩ = some (.int .i64 L.row) ∧ w.cell? ⟨q, 1, none⟩ = some (.int .i64 L.kind) ∧ w.cell? ⟨q, 2, none⟩ = some (.string (str L.dev)) ∧ w.cell? ⟨q, 3, none⟩ = some (.string (str L.port)) ∧ w.cell? ⟨q, 4, none⟩ = some (.string (str L.peer)) ∧ w.cell? ⟨q, 5, none⟩ = some (.string (str L.far)) ∧ w.cell? ⟨q, 6, none⟩ = some (.string (str L.name)) ∧ w.cell? ⟨q, 7, none⟩ = some (.int .u64 L.mac) ∧ w.cell? ⟨q, 8, none⟩ = some (.int .u32 L.addr) ∧ w.cell? ⟨q, 9, none⟩ = some (.int .i64 L.bits) ∧ w.cell? ⟨q, 10, none⟩ = some (.int .i64 L.vlan) ∧ w.cell? ⟨q, 11, none⟩ = some (.int .i64 L.num) ∧ w.cell? ⟨q, 12, none⟩ = some (.int .i64 L.cost) ∧ w.cell? ⟨q, 13, none⟩ = some (.slice s1.A s1.n s1.c) ∧ w.cell? ⟨q, 14, none⟩ = some (.slice s2.A s2.n s2.c) ∧ w.cell? ⟨q, 15, none⟩ = some (.slice s3.A s3.n s3.c) ∧ w.cell? ⟨q, 16, none⟩ = some (.slice s4.A s4.n s4.c) := ⟨h.1.cell 0 (by omega), h.1.cell 1 (by omega), h.1.cell 2 (by omega), h.1.cell 3 (by omega), h.1.cell 4 (by omega), h.1.cell 5 (by omega), h.1.cell 6 (by omega), h.1.cell 7 (by omega), h.1.cell 8 (by omega), h.1.cell 9 (by omega), h.1.cell 10 (by omega), h.1.cell 11 (by omega), h.1.cell 12 (by omega), h.1.cell 13 (by omega), h.1.cell 14 (by omega), h.1.cell 15 (by omega), h.1.cell 16 (by omega)⟩
theorem LBox.set_dev (h : LBox w q L s1 s2 s3 s4) (x : List UInt8) : LBox (w.setCell ⟨q, 2, none⟩ (.string (str x))) q { L with dev := x } s1 s2 s3 s4 :=
  ⟨(h.1.set 2 (by omega) _).is (fun i hi => match i, hi with | 0, _ | 1, _ | 2, _ | 3, _ | 4, _ | 5, _ | 6, _ | 7, _ | 8, _ | 9, _ | 10, _ | 11, _ | 12, _ | 13, _ | 14, _ | 15, _ | 16, _ => rfl | i + 17, h => absurd h (by omega)), h.2.1.set _ _, h.2.2.1.set _ _, h.2.2.2.1.set _ _, h.2.2.2.2.set _ _⟩
end
/-- a line's cells; a line as a value -/
abbrev lA (L : LV) (s1 s2 s3 s4 : SlV) : Array Value := #[.int .i64 L.row, .int .i64 L.kind, .string (str L.dev), .string (str L.port), .string (str L.peer), .string (str L.far), .string (str L.name), .int .u64 L.mac, .int .u32 L.addr, .int .i64 L.bits, .int .i64 L.vlan, .int .i64 L.num, .int .i64 L.cost, .slice s1.A s1.n s1.c, .slice s2.A s2.n s2.c, .slice s3.A s3.n s3.c, .slice s4.A s4.n s4.c]
def lineV (L : LV) (s1 s2 s3 s4 : SlV) : Value := .agg #[.int .i64 L.row, .int .i64 L.kind, .string (str L.dev), .string (str L.port), .string (str L.peer), .string (str L.far), .string (str L.name), .int .u64 L.mac, .int .u32 L.addr, .int .i64 L.bits, .int .i64 L.vlan, .int .i64 L.num, .int .i64 L.cost, .slice s1.A s1.n s1.c, .slice s2.A s2.n s2.c, .slice s3.A s3.n s3.c, .slice s4.A s4.n s4.c]
/-- a line's value reads as the line -/
def LRead (w : World) (L : LV) (s1 s2 s3 s4 : SlV) : Prop := ISl w .i64 s1.A s1.n s1.c L.tagged ∧ ISl w .i64 s2.A s2.n s2.c L.imports ∧ ISl w .i64 s3.A s3.n s3.c L.exports ∧ ISl w .u32 s4.A s4.n s4.c L.addrs
def LV.zero : LV := ⟨0, 0, [], [], [], [], [], 0, 0, 0, 0, 0, 0, [], [], [], []⟩
end Go.Proofs.YtgmflecelnefcaaGreat

namespace Go.Proofs.YtgmflecelnefcaaGreat
open Go.RowKit

theorem Ex.cells {q : Nat} : ∀ (vs : List Value) (o : Nat) (w w' : World), Ex q w w' → Ex q w (w'.setCells q o vs)
  | [], _, _, _, h => h
  | v :: r, o, w, _, h => Ex.cells r (o + 1) w _ (h.set o v)
/-- a block of n cells, none of them frozen, that may be stored into -/
theorem there_all {w : World} {q n : Nat} (hc : ∀ j, j < n → (w.cell? ⟨q, j, none⟩).isSome = true) (hf : ∀ o, w.frozen? ⟨q, o, none⟩ = false) : w.there q 0 n := fun j hj => by
  rw [Nat.zero_add]
  exact ⟨hc j hj, hf j⟩
/-- a store of a whole struct into a block: the block's cells are the struct's, all other blocks are as they were -/
theorem wpList_put {P : Program} {ops : Array Oper} {rest : List Oper} {op : Oper} {a : Act} {w : World} {Q : Exit → Act → World → Prop} (hgd : op.guard = none) (ty : TypeId) (x y : Operand) (ho : op.op = .store ty x y)
    (p : Nat) (hx : a.eval x = .pointer (some ⟨p, 0, none⟩)) (cells : Array Value) (hy : a.eval y = .agg cells) (hc : ∀ j, j < cells.size → (w.cell? ⟨p, j, none⟩).isSome = true) (hf : ∀ o, w.frozen? ⟨p, o, none⟩ = false)
    (hi : (P.info? ty).map (·.size) = some cells.size) (h1 : cells.all (·.oneCell') = true)
    (h : ∀ w9, (∀ (j : Nat) (v : Value), cells.toList[j]? = some v → w9.cell? ⟨p, j, none⟩ = some v) → (∀ o, w9.frozen? ⟨p, o, none⟩ = false) → Ex p w w9 → wpList P ops Q rest (a.put op.dst undef) w9) : wpList P ops Q (op :: rest) a w := by
  have ht : w.there p 0 cells.size := there_all hc hf
  refine wpList_store_mid hgd ty x y ho p 0 cells hx hy ht hi h1 (h _ (fun j v hv => ?_) (fun o => by rw [World.frozen?_setCells]; exact hf o) (Ex.cells _ 0 w w (Ex.refl _ _)))
  have := World.rangeAt_setCells_same w p 0 cells.toList (by simpa using ht) j v hv
  rwa [Nat.zero_add] at this
end Go.Proofs.YtgmflecelnefcaaGreat

namespace Go.Proofs.YtgmflecelnefcaaGreat
open Go.RowKit

theorem line_size : (Tryz.prog.info? 37).map (·.size) = some 17 := by kernel_rfl
theorem line_desc : ∃ d, Tryz.prog.underlying 37 = some d ∧ d.isRow = true := ⟨_, Tryz.underlying37, rfl⟩
theorem line_cells (L : LV) (s1 s2 s3 s4 : SlV) : ∃ C : Array Value, lineV L s1 s2 s3 s4 = .agg C ∧ C.size = 17 := ⟨_, rfl, rfl⟩
/-- the cells of a line -/
theorem lc_list (L : LV) (s1 s2 s3 s4 : SlV) (j : Nat) (hj : j < 17) (C : Array Value) (hC : lineV L s1 s2 s3 s4 = .agg C) : C.toList[j]? = some (lc L s1 s2 s3 s4 j) := by
  injection hC with hC
  subst hC
  match j, hj with
  | 0, _ | 1, _ | 2, _ | 3, _ | 4, _ | 5, _ | 6, _ | 7, _ | 8, _ | 9, _ | 10, _ | 11, _ | 12, _ | 13, _ | 14, _ | 15, _ | 16, _ => rfl
  | j + 17, h => exact absurd h (by omega)
/-- a line is stored whole -/
theorem wpList_line {ops : Array Oper} {rest : List Oper} {op : Oper} {a : Act} {w : World} {Q : Exit → Act → World → Prop} (hgd : op.guard = none) (x y : Operand) (ho : op.op = .store 37 x y)
    (p : Nat) (hx : a.eval x = .pointer (some ⟨p, 0, none⟩)) (L : LV) (s1 s2 s3 s4 : SlV) (hy : a.eval y = lineV L s1 s2 s3 s4) (g : Nat → Value) (hb : BoxF w p 17 g)
    (h : ∀ w9, BoxF w9 p 17 (lc L s1 s2 s3 s4) → Ex p w w9 → wpList Tryz.prog ops Q rest (a.put op.dst undef) w9) : wpList Tryz.prog ops Q (op :: rest) a w := by
  obtain ⟨C, hC⟩ : ∃ C, lineV L s1 s2 s3 s4 = .agg C := ⟨_, rfl⟩
  have hs : C.size = 17 := by injection hC with hC; subst hC; rfl
  have h1 : C.all (·.oneCell') = true := by injection hC with hC; subst hC; simp [Value.oneCell']
  refine wpList_put hgd 37 x y ho p hx C (hy.trans hC) (fun j hj => by rw [hb.1 j (by omega)]; rfl) hb.2 (by rw [hs]; exact line_size) h1 (fun w9 h2 h3 h4 => h w9 ⟨fun j hj => h2 j _ (lc_list L s1 s2 s3 s4 j hj C hC), h3⟩ h4)
/-- a line is loaded whole -/
theorem wpList_lineOf {ops : Array Oper} {rest : List Oper} {op : Oper} {a : Act} {w : World} {Q : Exit → Act → World → Prop} (hgd : Region.wanted op (yielded ops a.tmps) = true) (x : Operand) (ho : op.op = .load 37 x)
    (p : Nat) (hx : a.eval x = .pointer (some ⟨p, 0, none⟩)) (L : LV) (s1 s2 s3 s4 : SlV) (hb : BoxF w p 17 (lc L s1 s2 s3 s4))
    (h : wpList Tryz.prog ops Q rest (a.put op.dst (lineV L s1 s2 s3 s4)) w) : wpList Tryz.prog ops Q (op :: rest) a w := by
  obtain ⟨d, hd1, hd2⟩ := line_desc
  obtain ⟨C, hC, hs⟩ := line_cells L s1 s2 s3 s4
  have hl : C.toList.length = 17 := Array.length_toList.trans hs
  have e : C.toList.toArray = C := Array.toArray_toList
  have h2 : wpList Tryz.prog ops Q rest (a.put op.dst (.agg C.toList.toArray)) w := by rw [e, ← hC]; exact h
  refine wpList_step fun K hK => ?_
  rw [if_pos hgd]
  refine wp_load_mid 37 x ho p 0 hx C.toList d (fun j v hv => ?_) hd1 hd2 (by rw [hl]; exact line_size) (hK _ _ h2)
  have hj : j < 17 := by rw [← hl]; exact (List.getElem?_eq_some_iff.1 hv).1
  rw [lc_list L s1 s2 s3 s4 j hj C hC] at hv
  rw [Nat.zero_add, hb.1 j hj, hv]
/-- the box that a line without anything lies in -/
theorem zero_box (w : World) (T : TypeId) : BoxF (w.alloc (.cells #[.int .i64 0, .int .i64 0, .string ⟨#[]⟩, .string ⟨#[]⟩, .string ⟨#[]⟩, .string ⟨#[]⟩, .string ⟨#[]⟩, .int .u64 0, .int .u32 0, .int .i64 0, .int .i64 0, .int .i64 0, .int .i64 0, .slice none 0 0, .slice none 0 0, .slice none 0 0, .slice none 0 0] T)) w.heap.size 17 (lc LV.zero SlV.nil SlV.nil SlV.nil SlV.nil) := by
  refine ⟨fun j hj => ?_, fun o => by simp⟩
  match j, hj with
  | 0, _ | 1, _ | 2, _ | 3, _ | 4, _ | 5, _ | 6, _ | 7, _ | 8, _ | 9, _ | 10, _ | 11, _ | 12, _ | 13, _ | 14, _ | 15, _ | 16, _ => simp [lc, LV.zero, SlV.nil, SlV.val, str]
  | j + 17, h => exact absurd h (by omega)
end Go.Proofs.YtgmflecelnefcaaGreat

/- Equal and Clone of lists of numbers, Contains, and a text cloned (made by mk-stlib.py). -/
namespace Go.Proofs.YtgmflecelnefcaaGreat
open Go.RowKit

theorem ISl.cells_ {w : World} {k : IntKind} {ad : Addr} {n c : Nat} {xs : List Int} (h : ISl w k (some ad) n c xs) : ∀ j u, (xs.map (Value.int k))[j]? = some u → w.cell? (ad.add j) = some u := by
  intro j u hu
  have hj : j < n := by
    have := (List.getElem?_eq_some_iff.1 hu).1
    rw [List.length_map, h.len] at this
    exact this
  obtain ⟨b, off, e, _, hc⟩ := h.2.2.2 (by omega)
  cases e
  have e2 : (xs.map (Value.int k))[j]? = some (.int k (xs.getD j 0)) := by
    rw [List.getElem?_map, List.getD, List.getElem?_eq_getElem (by rw [h.len]; exact hj)]
    rfl
  rw [e2] at hu
  cases hu
  rw [← hc j hj]
  by_cases h0 : j = 0 <;> simp [Addr.add, h0]
theorem list_eq_of {xs ys : List Int} {n : Nat} (hx : xs.length = n) (hy : ys.length = n) (h : ∀ j, j < n → xs.getD j 0 = ys.getD j 0) : xs = ys := by
  apply List.ext_getElem (by omega)
  intro j h1 h2
  have := h j (by omega)
  simpa [List.getD, List.getElem?_eq_getElem h1, List.getElem?_eq_getElem h2] using this
theorem contains_any (s : SlV) (xs : List Int) (x : Int) (w : World) (h : ISl w .i64 s.A s.n s.c xs) :
    Calls Tryz.prog 122 #[.slice s.A s.n s.c, .int .i64 x] w fun e w' => e = .returned (.bool (xs.contains x)) ∧ w = w' := by
  obtain ⟨A, n, c⟩ := s
  have hl := h.len
  have hle := h.le
  have hcap := h.cap
  by_cases hn : 0 < n
  · obtain ⟨b, off, e, hb, hc⟩ := h.2.2.2 hn
    dsimp only at e hl hc ⊢
    subst e
    refine (Tryz.slices_Contains_int b off n c xs x w (by omega) (by dsimp only at hle hcap; omega) (fun j hj => hc j (by omega))).mono ?_
    rintro e w' ⟨rfl, rfl⟩
    exact ⟨by rw [← hl, List.take_length], rfl⟩
  · dsimp only at hl ⊢
    obtain rfl : n = 0 := by omega
    obtain rfl : xs = [] := List.eq_nil_of_length_eq_zero hl
    refine (Tryz.slices_Contains_int_empty A c x w).mono ?_
    rintro e w' ⟨rfl, rfl⟩
    exact ⟨rfl, rfl⟩
theorem tclone_any (l : List UInt8) (w : World) (hs : l.length ≤ 1000000) :
    Calls Tryz.prog 141 #[.string (str l)] w fun e w' => e = .returned (.string (str l)) ∧ Below w.heap.size w w' := by
  have hz : (str l).size ≤ 281474976710656 := by rw [str_size]; omega
  go_enter Tryz.func141, Tryz.ntmps141
  go_wp2_with (go_at_call 177; refine (Tryz.stringslite_Clone (str l) _ hz).mono ?_; rintro e w1 ⟨rfl, hb1⟩)
  go_ret
  exact ⟨rfl, hb1⟩

set_option maxRecDepth 100000 in
set_option maxHeartbeats 1000000 in
theorem eq_int (s t : SlV) (xs ys : List Int) (w : World) (h : ISl w .i64 s.A s.n s.c xs) (h2 : ISl w .i64 t.A t.n t.c ys) :
    Calls Tryz.prog 115 #[.slice s.A s.n s.c, .slice t.A t.n t.c] w fun e w' => e = .returned (.bool (xs == ys)) ∧ Drew w w' := by
  obtain ⟨A, n, c⟩ := s
  obtain ⟨B, n2, c2⟩ := t
  dsimp only at h h2 ⊢
  have hle := h.le
  have hcap := h.cap
  have hle2 := h2.le
  have hcap2 := h2.cap
  have H := Lib.hid h
  have H2 := Lib.hid h2
  clear h h2
  by_cases hne : n = n2
  · subst hne
    by_cases hn : 0 < n
    · obtain ⟨b, off, rfl, hb, hc⟩ := H.out.2.2.2 hn
      obtain ⟨b2, off2, rfl, hb2, hc2⟩ := H2.out.2.2.2 hn
      have HC := Lib.hid hc
      have HC2 := Lib.hid hc2
      clear hc hc2
      go_enter Tryz.func115, Tryz.ntmps115
      go_wp2
      go_loopw [13] (fun i wr => ∃ k : Nat, k ≤ n ∧ i = .int .i64 (k : Int) ∧ (∀ j, j < k → xs.getD j 0 = ys.getD j 0) ∧ Drew w wr) (fun i _ => n - (intOf i).toNat)
      case atStart => exact ⟨0, by omega, rfl, fun j hj => absurd hj (by omega), Drew.refl _⟩
      case round =>
        obtain ⟨k, hk, rfl, hal, m, rfl⟩ := hrel
        have AL := Lib.hid hal
        clear hal
        by_cases hlt : k < n
        · have c0 : w.cell? ⟨b, off + k, none⟩ = some (.int .i64 (xs.getD k 0)) := HC.out k hlt
          have c1 : w.cell? ⟨b2, off2 + k, none⟩ = some (.int .i64 (ys.getD k 0)) := HC2.out k hlt
          generalize hx : xs.getD k 0 = x at c0
          generalize hy : ys.getD k 0 = y at c1
          have HX := Lib.hid hx
          have HY := Lib.hid hy
          clear hx hy
          by_cases hxy : x = y
          · subst hxy
            go_wp2
            go_quiet (fail)
            go_wp2
            go_roundw
            case rel => exact ⟨k + 1, by omega, by go_num, fun j hj => by
                by_cases e : j = k
                · subst e; rw [HX.out, HY.out]
                · exact AL.out j (by omega), ⟨m + nq, rfl⟩⟩
            case measure => simp [intOf]; omega
          · have E := Lib.hid (show (xs == ys) = false by
              rw [beq_eq_false_iff_ne]
              intro e
              subst e
              exact hxy (HX.out.symm.trans HY.out))
            go_wp2
            go_quiet (fail)
            go_wp2
            go_ret
            exact ⟨by rw [E.out]; rfl, ⟨m + nq, by rw [drewN_add]⟩⟩
        · obtain rfl : k = n := by omega
          have E := Lib.hid (show (xs == ys) = true by rw [beq_iff_eq]; exact list_eq_of H.out.len H2.out.len AL.out)
          go_wp2
          go_ret
          exact ⟨by rw [E.out]; rfl, ⟨m, rfl⟩⟩
    · obtain rfl : n = 0 := by omega
      obtain rfl : xs = [] := List.eq_nil_of_length_eq_zero H.out.len
      obtain rfl : ys = [] := List.eq_nil_of_length_eq_zero H2.out.len
      go_enter Tryz.func115, Tryz.ntmps115
      go_wp2
      go_loop [13] (fun i => i = .int .i64 0) (fun i => 0)
      case atStart => rfl
      case round =>
        subst hrel
        go_wp2
        go_ret
        exact ⟨rfl, Drew.refl _⟩
  · have E := Lib.hid (show (xs == ys) = false by
      rw [beq_eq_false_iff_ne]
      intro e
      subst e
      exact hne (H.out.len.symm.trans H2.out.len))
    go_enter Tryz.func115, Tryz.ntmps115
    go_wp2
    go_ret
    exact ⟨by rw [E.out]; rfl, Drew.refl _⟩
theorem own0_int (w : World) (B : Nat) (hB : B ≤ w.heap.size) : (w.alloc (.cells #[] 3)).ownsRow B 3 1 (.slice (some ⟨w.heap.size, 0, none⟩) 0 0) 0 [] :=
  World.ownsRow_lit w #[] 0 hB (by unfold maxLen; omega) rfl
set_option maxRecDepth 100000 in
set_option maxHeartbeats 1000000 in
theorem eq_uint32 (s t : SlV) (xs ys : List Int) (w : World) (h : ISl w .u32 s.A s.n s.c xs) (h2 : ISl w .u32 t.A t.n t.c ys) :
    Calls Tryz.prog 116 #[.slice s.A s.n s.c, .slice t.A t.n t.c] w fun e w' => e = .returned (.bool (xs == ys)) ∧ Drew w w' := by
  obtain ⟨A, n, c⟩ := s
  obtain ⟨B, n2, c2⟩ := t
  dsimp only at h h2 ⊢
  have hle := h.le
  have hcap := h.cap
  have hle2 := h2.le
  have hcap2 := h2.cap
  have H := Lib.hid h
  have H2 := Lib.hid h2
  clear h h2
  by_cases hne : n = n2
  · subst hne
    by_cases hn : 0 < n
    · obtain ⟨b, off, rfl, hb, hc⟩ := H.out.2.2.2 hn
      obtain ⟨b2, off2, rfl, hb2, hc2⟩ := H2.out.2.2.2 hn
      have HC := Lib.hid hc
      have HC2 := Lib.hid hc2
      clear hc hc2
      go_enter Tryz.func116, Tryz.ntmps116
      go_wp2
      go_loopw [13] (fun i wr => ∃ k : Nat, k ≤ n ∧ i = .int .i64 (k : Int) ∧ (∀ j, j < k → xs.getD j 0 = ys.getD j 0) ∧ Drew w wr) (fun i _ => n - (intOf i).toNat)
      case atStart => exact ⟨0, by omega, rfl, fun j hj => absurd hj (by omega), Drew.refl _⟩
      case round =>
        obtain ⟨k, hk, rfl, hal, m, rfl⟩ := hrel
        have AL := Lib.hid hal
        clear hal
        by_cases hlt : k < n
        · have c0 : w.cell? ⟨b, off + k, none⟩ = some (.int .u32 (xs.getD k 0)) := HC.out k hlt
          have c1 : w.cell? ⟨b2, off2 + k, none⟩ = some (.int .u32 (ys.getD k 0)) := HC2.out k hlt
          generalize hx : xs.getD k 0 = x at c0
          generalize hy : ys.getD k 0 = y at c1
          have HX := Lib.hid hx
          have HY := Lib.hid hy
          clear hx hy
          by_cases hxy : x = y
          · subst hxy
            go_wp2
            go_quiet (fail)
            go_wp2
            go_roundw
            case rel => exact ⟨k + 1, by omega, by go_num, fun j hj => by
                by_cases e : j = k
                · subst e; rw [HX.out, HY.out]
                · exact AL.out j (by omega), ⟨m + nq, rfl⟩⟩
            case measure => simp [intOf]; omega
          · have E := Lib.hid (show (xs == ys) = false by
              rw [beq_eq_false_iff_ne]
              intro e
              subst e
              exact hxy (HX.out.symm.trans HY.out))
            go_wp2
            go_quiet (fail)
            go_wp2
            go_ret
            exact ⟨by rw [E.out]; rfl, ⟨m + nq, by rw [drewN_add]⟩⟩
        · obtain rfl : k = n := by omega
          have E := Lib.hid (show (xs == ys) = true by rw [beq_iff_eq]; exact list_eq_of H.out.len H2.out.len AL.out)
          go_wp2
          go_ret
          exact ⟨by rw [E.out]; rfl, ⟨m, rfl⟩⟩
    · obtain rfl : n = 0 := by omega
      obtain rfl : xs = [] := List.eq_nil_of_length_eq_zero H.out.len
      obtain rfl : ys = [] := List.eq_nil_of_length_eq_zero H2.out.len
      go_enter Tryz.func116, Tryz.ntmps116
      go_wp2
      go_loop [13] (fun i => i = .int .i64 0) (fun i => 0)
      case atStart => rfl
      case round =>
        subst hrel
        go_wp2
        go_ret
        exact ⟨rfl, Drew.refl _⟩
  · have E := Lib.hid (show (xs == ys) = false by
      rw [beq_eq_false_iff_ne]
      intro e
      subst e
      exact hne (H.out.len.symm.trans H2.out.len))
    go_enter Tryz.func116, Tryz.ntmps116
    go_wp2
    go_ret
    exact ⟨by rw [E.out]; rfl, Drew.refl _⟩
theorem own0_uint32 (w : World) (B : Nat) (hB : B ≤ w.heap.size) : (w.alloc (.cells #[] 33)).ownsRow B 33 1 (.slice (some ⟨w.heap.size, 0, none⟩) 0 0) 0 [] :=
  World.ownsRow_lit w #[] 0 hB (by unfold maxLen; omega) rfl
/-- a line's fields as a value -/
abbrev lF (f0 f1 : Int) (f2 f3 f4 f5 f6 : List UInt8) (f7 f8 f9 f10 f11 f12 : Int) (s1 s2 s3 s4 : SlV) : Value := .agg #[.int .i64 f0, .int .i64 f1, .string (str f2), .string (str f3), .string (str f4), .string (str f5), .string (str f6), .int .u64 f7, .int .u32 f8, .int .i64 f9, .int .i64 f10, .int .i64 f11, .int .i64 f12, .slice s1.A s1.n s1.c, .slice s2.A s2.n s2.c, .slice s3.A s3.n s3.c, .slice s4.A s4.n s4.c]
end Go.Proofs.YtgmflecelnefcaaGreat

/- A call of a function value whose number is unknown: it is entered with its arguments, and then what it has captured. Places of lists. -/
namespace Go.Proofs.YtgmflecelnefcaaGreat
open Go.RowKit

/-- a function that can be entered -/
def Enters (P : Program) (f : FuncId) : Prop := ∀ args w, (callFunc f args).run P w = .ok (.enter f args) w
theorem enters_of {P : Program} {f : FuncId} {fn : Func} {c : Code} (hf : P.funcs[f]? = some fn) (hname : (fn.name == "runtime.NumGoroutine") = false) (hb : fn.body = some c) : Enters P f := fun args w => by
  have h2 : ¬ fn.name = "runtime.NumGoroutine" := by simpa using hname
  unfold callFunc
  simp [go_sem, hf, h2, hb]
set_option maxRecDepth 20000 in
theorem place_dev (i : Int) (A : Option Addr) (n c : Nat) (_hle : n ≤ c) (_hcap : c ≤ 9223372036854775807) (w : World) : Calls Tryz.prog 118 #[.int .i64 i, .slice A n c] w fun e w' => e = .returned (.bool (plB i (n : Int))) ∧ w = w' := by
  unfold plB
  by_cases h0 : 0 ≤ i
  · by_cases h1 : i < (n : Int)
    · have e : (decide (0 ≤ i) && decide (i < (n : Int))) = true := by simp; omega
      rw [e]
      go_enter Tryz.func118, Tryz.ntmps118
      go_wp2
      go_ret
      exact ⟨rfl, rfl⟩
    · have e : (decide (0 ≤ i) && decide (i < (n : Int))) = false := by simp; omega
      rw [e]
      go_enter Tryz.func118, Tryz.ntmps118
      go_wp2
      go_ret
      exact ⟨rfl, rfl⟩
  · have e : (decide (0 ≤ i) && decide (i < (n : Int))) = false := by simp; omega
    rw [e]
    go_enter Tryz.func118, Tryz.ntmps118
    go_wp2
    go_ret
    exact ⟨rfl, rfl⟩
set_option maxRecDepth 20000 in
theorem place_port (i : Int) (A : Option Addr) (n c : Nat) (_hle : n ≤ c) (_hcap : c ≤ 9223372036854775807) (w : World) : Calls Tryz.prog 127 #[.int .i64 i, .slice A n c] w fun e w' => e = .returned (.bool (plB i (n : Int))) ∧ w = w' := by
  unfold plB
  by_cases h0 : 0 ≤ i
  · by_cases h1 : i < (n : Int)
    · have e : (decide (0 ≤ i) && decide (i < (n : Int))) = true := by simp; omega
      rw [e]
      go_enter Tryz.func127, Tryz.ntmps127
      go_wp2
      go_ret
      exact ⟨rfl, rfl⟩
    · have e : (decide (0 ≤ i) && decide (i < (n : Int))) = false := by simp; omega
      rw [e]
      go_enter Tryz.func127, Tryz.ntmps127
      go_wp2
      go_ret
      exact ⟨rfl, rfl⟩
  · have e : (decide (0 ≤ i) && decide (i < (n : Int))) = false := by simp; omega
    rw [e]
    go_enter Tryz.func127, Tryz.ntmps127
    go_wp2
    go_ret
    exact ⟨rfl, rfl⟩
set_option maxRecDepth 20000 in
theorem place_link (i : Int) (A : Option Addr) (n c : Nat) (_hle : n ≤ c) (_hcap : c ≤ 9223372036854775807) (w : World) : Calls Tryz.prog 123 #[.int .i64 i, .slice A n c] w fun e w' => e = .returned (.bool (plB i (n : Int))) ∧ w = w' := by
  unfold plB
  by_cases h0 : 0 ≤ i
  · by_cases h1 : i < (n : Int)
    · have e : (decide (0 ≤ i) && decide (i < (n : Int))) = true := by simp; omega
      rw [e]
      go_enter Tryz.func123, Tryz.ntmps123
      go_wp2
      go_ret
      exact ⟨rfl, rfl⟩
    · have e : (decide (0 ≤ i) && decide (i < (n : Int))) = false := by simp; omega
      rw [e]
      go_enter Tryz.func123, Tryz.ntmps123
      go_wp2
      go_ret
      exact ⟨rfl, rfl⟩
  · have e : (decide (0 ≤ i) && decide (i < (n : Int))) = false := by simp; omega
    rw [e]
    go_enter Tryz.func123, Tryz.ntmps123
    go_wp2
    go_ret
    exact ⟨rfl, rfl⟩
set_option maxRecDepth 20000 in
theorem place_dom (i : Int) (A : Option Addr) (n c : Nat) (_hle : n ≤ c) (_hcap : c ≤ 9223372036854775807) (w : World) : Calls Tryz.prog 130 #[.int .i64 i, .slice A n c] w fun e w' => e = .returned (.bool (plB i (n : Int))) ∧ w = w' := by
  unfold plB
  by_cases h0 : 0 ≤ i
  · by_cases h1 : i < (n : Int)
    · have e : (decide (0 ≤ i) && decide (i < (n : Int))) = true := by simp; omega
      rw [e]
      go_enter Tryz.func130, Tryz.ntmps130
      go_wp2
      go_ret
      exact ⟨rfl, rfl⟩
    · have e : (decide (0 ≤ i) && decide (i < (n : Int))) = false := by simp; omega
      rw [e]
      go_enter Tryz.func130, Tryz.ntmps130
      go_wp2
      go_ret
      exact ⟨rfl, rfl⟩
  · have e : (decide (0 ≤ i) && decide (i < (n : Int))) = false := by simp; omega
    rw [e]
    go_enter Tryz.func130, Tryz.ntmps130
    go_wp2
    go_ret
    exact ⟨rfl, rfl⟩
set_option maxRecDepth 20000 in
theorem place_vrf (i : Int) (A : Option Addr) (n c : Nat) (_hle : n ≤ c) (_hcap : c ≤ 9223372036854775807) (w : World) : Calls Tryz.prog 134 #[.int .i64 i, .slice A n c] w fun e w' => e = .returned (.bool (plB i (n : Int))) ∧ w = w' := by
  unfold plB
  by_cases h0 : 0 ≤ i
  · by_cases h1 : i < (n : Int)
    · have e : (decide (0 ≤ i) && decide (i < (n : Int))) = true := by simp; omega
      rw [e]
      go_enter Tryz.func134, Tryz.ntmps134
      go_wp2
      go_ret
      exact ⟨rfl, rfl⟩
    · have e : (decide (0 ≤ i) && decide (i < (n : Int))) = false := by simp; omega
      rw [e]
      go_enter Tryz.func134, Tryz.ntmps134
      go_wp2
      go_ret
      exact ⟨rfl, rfl⟩
  · have e : (decide (0 ≤ i) && decide (i < (n : Int))) = false := by simp; omega
    rw [e]
    go_enter Tryz.func134, Tryz.ntmps134
    go_wp2
    go_ret
    exact ⟨rfl, rfl⟩
set_option maxRecDepth 20000 in
theorem place_irb (i : Int) (A : Option Addr) (n c : Nat) (_hle : n ≤ c) (_hcap : c ≤ 9223372036854775807) (w : World) : Calls Tryz.prog 128 #[.int .i64 i, .slice A n c] w fun e w' => e = .returned (.bool (plB i (n : Int))) ∧ w = w' := by
  unfold plB
  by_cases h0 : 0 ≤ i
  · by_cases h1 : i < (n : Int)
    · have e : (decide (0 ≤ i) && decide (i < (n : Int))) = true := by simp; omega
      rw [e]
      go_enter Tryz.func128, Tryz.ntmps128
      go_wp2
      go_ret
      exact ⟨rfl, rfl⟩
    · have e : (decide (0 ≤ i) && decide (i < (n : Int))) = false := by simp; omega
      rw [e]
      go_enter Tryz.func128, Tryz.ntmps128
      go_wp2
      go_ret
      exact ⟨rfl, rfl⟩
  · have e : (decide (0 ≤ i) && decide (i < (n : Int))) = false := by simp; omega
    rw [e]
    go_enter Tryz.func128, Tryz.ntmps128
    go_wp2
    go_ret
    exact ⟨rfl, rfl⟩
end Go.Proofs.YtgmflecelnefcaaGreat

