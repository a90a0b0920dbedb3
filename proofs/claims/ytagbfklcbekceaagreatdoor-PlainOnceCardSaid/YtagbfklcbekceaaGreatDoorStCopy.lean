/- A line copied: the contract of stmt.Copy. A line copied: the walk of stmt.Copy. -/
import Derived.Test.YtagbfklcbekceaaGreatDoorStSmall
import Derived.Test.YtagbfklcbekceaaGreatDoorStPut
import Derived.Test.YtagbfklcbekceaaGreatDoorStWv
import Derived.Test.YtagbfklcbekceaaGreatDoorStRes
import Derived.WalkMore
namespace Go.Proofs.YtagbfklcbekceaaGreatDoor
open Go.RowKit

theorem ISl.setOff2 {w : World} {k : IntKind} {A : Option Addr} {n c q j : Nat} {xs : List Int} {v : Value} (h : ISl w k A n c xs) (ho : ∀ ad, A = some ad → 0 < n → ad.block ≠ q) : ISl (w.setCell ⟨q, j, none⟩ v) k A n c xs := by
  refine ⟨h.1, h.2.1, h.2.2.1, fun hn => ?_⟩
  obtain ⟨b, off, e, hb, hc⟩ := h.2.2.2 hn
  have h2 := ho _ e hn
  refine ⟨b, off, e, by simpa using hb, fun i hi => ?_⟩
  rw [World.cell?_setCell_other _ _ _ _ (by intro e1; injection e1 with e2 _; exact h2 e2.symm)]
  exact hc i hi
/-- a line's texts are no longer than 300 bytes, its lists than 16 numbers, its numbers within their kinds -/
structure LvOk (L : LV) : Prop where
  txt : L.dev.length ≤ 300 ∧ L.port.length ≤ 300 ∧ L.peer.length ≤ 300 ∧ L.far.length ≤ 300 ∧ L.name.length ≤ 300
  lst : L.tagged.length ≤ 16 ∧ L.imports.length ≤ 16 ∧ L.exports.length ≤ 16 ∧ L.addrs.length ≤ 16
  num : (-9223372036854775808 ≤ L.row ∧ L.row ≤ 9223372036854775807) ∧ (0 ≤ L.kind ∧ L.kind ≤ 18) ∧ (0 ≤ L.mac ∧ L.mac < 281474976710656) ∧ (0 ≤ L.addr ∧ L.addr ≤ 4294967295) ∧ (0 ≤ L.bits ∧ L.bits ≤ 32) ∧ (0 ≤ L.vlan ∧ L.vlan ≤ 4095) ∧ (0 ≤ L.num ∧ L.num ≤ 16777216) ∧ (0 ≤ L.cost ∧ L.cost ≤ 65535)
/-- a line's texts and lists are not too long to be copied -/
structure LvSz (L : LV) : Prop where
  txt : L.dev.length ≤ 1000000 ∧ L.port.length ≤ 1000000 ∧ L.peer.length ≤ 1000000 ∧ L.far.length ≤ 1000000 ∧ L.name.length ≤ 1000000
  lst : L.tagged.length ≤ 1000000 ∧ L.imports.length ≤ 1000000 ∧ L.exports.length ≤ 1000000 ∧ L.addrs.length ≤ 1000000
theorem LvOk.sz {L : LV} (h : LvOk L) : LvSz L := ⟨by have := h.txt; omega, by have := h.lst; omega⟩

theorem line_boxed (w : World) (L : LV) (s1 s2 s3 s4 : SlV) (T : TypeId) : BoxF (w.alloc (.cells #[.int .i64 L.row, .int .i64 L.kind, .string (str L.dev), .string (str L.port), .string (str L.peer), .string (str L.far), .string (str L.name), .int .u64 L.mac, .int .u32 L.addr, .int .i64 L.bits, .int .i64 L.vlan, .int .i64 L.num, .int .i64 L.cost, .slice s1.A s1.n s1.c, .slice s2.A s2.n s2.c, .slice s3.A s3.n s3.c, .slice s4.A s4.n s4.c] T)) w.heap.size 17 (lc L s1 s2 s3 s4) := by
  refine ⟨fun j hj => ?_, fun o => by simp⟩
  match j, hj with
  | 0, _ | 1, _ | 2, _ | 3, _ | 4, _ | 5, _ | 6, _ | 7, _ | 8, _ | 9, _ | 10, _ | 11, _ | 12, _ | 13, _ | 14, _ | 15, _ | 16, _ => simp [lc, SlV.val]
  | j + 17, h => exact absurd h (by omega)
/-- a line's box, the result's box; what was there is as it was -/
structure CopyS (w : World) (L : LV) (s1 s2 s3 s4 : SlV) (wr : World) : Prop where
  p : BoxF wr w.heap.size 17 (lc L s1 s2 s3 s4)
  r : BoxF wr (w.heap.size + 1) 17 (lc LV.zero SlV.nil SlV.nil SlV.nil SlV.nil)
  bel : Below w.heap.size w wr
theorem CopyS.keep {w wr w2 : World} {L : LV} {s1 s2 s3 s4 : SlV} (h : CopyS w L s1 s2 s3 s4 wr) (hb : Below wr.heap.size wr w2) : CopyS w L s1 s2 s3 s4 w2 :=
  ⟨h.p.below (by omega) hb, h.r.below (by omega) hb, h.bel.trans (hb.mono h.bel.size)⟩
theorem CopyS.put {w wr : World} {L : LV} {s1 s2 s3 s4 t1 t2 t3 t4 : SlV} (h : CopyS w L s1 s2 s3 s4 wr) (j : Nat) (v : Value) (hj : j < 17) (e : ∀ i, i < 17 → (if i = j then v else lc L s1 s2 s3 s4 i) = lc L t1 t2 t3 t4 i) : CopyS w L t1 t2 t3 t4 (wr.setCell ⟨w.heap.size, j, none⟩ v) :=
  ⟨(h.p.set j hj v).is e, h.r.off (by omega), h.bel.setCell (Nat.le_refl _) v⟩
theorem CopyS.same {w wr : World} {L : LV} {s1 s2 s3 s4 : SlV} (h : CopyS w L s1 s2 s3 s4 wr) (j : Nat) (hj : j < 17) : CopyS w L s1 s2 s3 s4 (wr.setCell ⟨w.heap.size, j, none⟩ (lc L s1 s2 s3 s4 j)) :=
  h.put j _ hj fun i _ => by
    by_cases e : i = j
    · rw [if_pos e, e]
    · rw [if_neg e]
/-- pointers to a box's cells -/
def Ptrs (w : World) (g m p base : Nat) : Prop := p < g ∧ g < w.heap.size ∧ ∀ j, j < m → w.cell? ⟨g, j, none⟩ = some (.pointer (some ⟨p, base + j, none⟩))
theorem Ptrs.keep {w w2 : World} {g m p base : Nat} (h : Ptrs w g m p base) (hb : Below w.heap.size w w2) : Ptrs w2 g m p base :=
  ⟨h.1, Nat.lt_of_lt_of_le h.2.1 hb.size, fun j hj => (hb.cell (p := ⟨g, j, none⟩) h.2.1).trans (h.2.2 j hj)⟩
theorem Ptrs.set {w : World} {g m p base j : Nat} {v : Value} (h : Ptrs w g m p base) : Ptrs (w.setCell ⟨p, j, none⟩ v) g m p base :=
  ⟨h.1, by simpa using h.2.1, fun i hi => by rw [World.cell?_setCell_other _ _ _ _ (by intro e; injection e with e1 _; have := h.1; omega)]; exact h.2.2 i hi⟩
def ltx (L : LV) : Nat → List UInt8
  | 0 => L.dev
  | 1 => L.port
  | 2 => L.peer
  | 3 => L.far
  | _ => L.name
theorem lc_txt (L : LV) (s1 s2 s3 s4 : SlV) (k : Nat) (h : k < 5) : lc L s1 s2 s3 s4 (2 + k) = .string (str (ltx L k)) := by
  match k, h with
  | 0, _ | 1, _ | 2, _ | 3, _ | 4, _ => rfl
  | k + 5, h => exact absurd h (by omega)
theorem ltx_len {L : LV} (h : LvSz L) (k : Nat) : (ltx L k).length ≤ 1000000 := by
  have := h.txt
  unfold ltx
  split <;> omega
def lsl (s1 s2 s3 : SlV) : Nat → SlV
  | 0 => s1
  | 1 => s2
  | _ => s3
def llist (L : LV) : Nat → List Int
  | 0 => L.tagged
  | 1 => L.imports
  | _ => L.exports
theorem lc_sl (L : LV) (s1 s2 s3 s4 : SlV) (k : Nat) (h : k < 3) : lc L s1 s2 s3 s4 (13 + k) = .slice (lsl s1 s2 s3 k).A (lsl s1 s2 s3 k).n (lsl s1 s2 s3 k).c := by
  match k, h with
  | 0, _ | 1, _ | 2, _ => rfl
  | k + 3, h => exact absurd h (by omega)
theorem llist_len {L : LV} (h : LvSz L) (k : Nat) : (llist L k).length ≤ 1000000 := by
  have := h.lst
  unfold llist
  split <;> omega
/-- the lists, the first k of which are the copy's own -/
structure ClS (w : World) (L : LV) (k : Nat) (t : Nat → SlV) (wr : World) : Prop where
  rd : ∀ j, j < 3 → ISl wr .i64 (t j).A (t j).n (t j).c (llist L j)
  off : ∀ j, j < 3 → ∀ ad, (t j).A = some ad → 0 < (t j).n → ad.block ≠ w.heap.size
  own : ∀ j, j < k → ∀ ad, (t j).A = some ad → w.heap.size + 2 ≤ ad.block
theorem ClS.keep {w wr w2 : World} {L : LV} {k : Nat} {t : Nat → SlV} (h : ClS w L k t wr) (hb : Below wr.heap.size wr w2) : ClS w L k t w2 := ⟨fun j hj => (h.rd j hj).below hb, h.off, h.own⟩
theorem ClS.next {w wr w2 : World} {L : LV} {k : Nat} {t : Nat → SlV} {u : SlV} (h : ClS w L k t wr) (hb : Below wr.heap.size wr w2) (hu : ISl w2 .i64 u.A u.n u.c (llist L k)) (ho : ∀ ad, u.A = some ad → w.heap.size + 2 ≤ ad.block) (v : Value) (j : Nat) :
    ClS w L (k + 1) (fun i => if i = k then u else t i) (w2.setCell ⟨w.heap.size, j, none⟩ v) := by
  refine ⟨fun i hi => ?_, fun i hi ad => ?_, fun i hi ad => ?_⟩
  · by_cases e : i = k
    · subst e
      simp only [if_true]
      exact hu.setOff2 (fun ad h _ => by have := ho ad h; omega)
    · simp only [if_neg e]
      exact ((h.rd i hi).below hb).setOff2 (h.off i hi)
  · by_cases e : i = k
    · simp only [if_pos e]; intro h _; have := ho ad h; omega
    · simp only [if_neg e]; exact h.off i hi ad
  · by_cases e : i = k
    · simp only [if_pos e]; intro h; have := ho ad h; omega
    · simp only [if_neg e]; exact h.own i (by omega) ad
set_option maxRecDepth 20000 in
set_option maxHeartbeats 2000000 in
theorem copy_results (tmps : Array Value) (w : World) (q : Nat) (L : LV) (s1 s2 s3 s4 : SlV) (h2 : tmps[2]?.getD undef = .pointer (some ⟨q, 0, none⟩)) (hb : BoxF w q 17 (lc L s1 s2 s3 s4)) :
    (results Tryz.f38 tmps).run Tryz.prog w = .ok (lineV L s1 s2 s3 s4) w := by
  have t0 : w.cell? ⟨q, 0, none⟩ = some (.int .i64 L.row) := hb.cell 0 (by omega)
  have t1 : w.cell? ⟨q, 1, none⟩ = some (.int .i64 L.kind) := hb.cell 1 (by omega)
  have t2 : w.cell? ⟨q, 2, none⟩ = some (.string (str L.dev)) := hb.cell 2 (by omega)
  have t3 : w.cell? ⟨q, 3, none⟩ = some (.string (str L.port)) := hb.cell 3 (by omega)
  have t4 : w.cell? ⟨q, 4, none⟩ = some (.string (str L.peer)) := hb.cell 4 (by omega)
  have t5 : w.cell? ⟨q, 5, none⟩ = some (.string (str L.far)) := hb.cell 5 (by omega)
  have t6 : w.cell? ⟨q, 6, none⟩ = some (.string (str L.name)) := hb.cell 6 (by omega)
  have t7 : w.cell? ⟨q, 7, none⟩ = some (.int .u64 L.mac) := hb.cell 7 (by omega)
  have t8 : w.cell? ⟨q, 8, none⟩ = some (.int .u32 L.addr) := hb.cell 8 (by omega)
  have t9 : w.cell? ⟨q, 9, none⟩ = some (.int .i64 L.bits) := hb.cell 9 (by omega)
  have t10 : w.cell? ⟨q, 10, none⟩ = some (.int .i64 L.vlan) := hb.cell 10 (by omega)
  have t11 : w.cell? ⟨q, 11, none⟩ = some (.int .i64 L.num) := hb.cell 11 (by omega)
  have t12 : w.cell? ⟨q, 12, none⟩ = some (.int .i64 L.cost) := hb.cell 12 (by omega)
  have t13 : w.cell? ⟨q, 13, none⟩ = some (.slice s1.A s1.n s1.c) := hb.cell 13 (by omega)
  have t14 : w.cell? ⟨q, 14, none⟩ = some (.slice s2.A s2.n s2.c) := hb.cell 14 (by omega)
  have t15 : w.cell? ⟨q, 15, none⟩ = some (.slice s3.A s3.n s3.c) := hb.cell 15 (by omega)
  have t16 : w.cell? ⟨q, 16, none⟩ = some (.slice s4.A s4.n s4.c) := hb.cell 16 (by omega)
  clear hb
  simp [results, Tryz.results38, go_sem, h2, t0, t1, t2, t3, t4, t5, t6, t7, t8, t9, t10, t11, t12, t13, t14, t15, t16, lineV]
def GotCp (L : LV) (w : World) (e : Ending) (w' : World) : Prop :=
  ∃ t1 t2 t3 t4, e = .returned (lineV L t1 t2 t3 t4) ∧ LRead w' L t1 t2 t3 t4 ∧ LNew w.heap.size t1 t2 t3 t4 ∧ Below w.heap.size w w'
end Go.Proofs.YtagbfklcbekceaaGreatDoor

namespace Go.Proofs.YtagbfklcbekceaaGreatDoor
open Go.RowKit

theorem five_ptrs {w : World} (g p : Nat) (T : TypeId) (hp : p < w.heap.size) (hg : w.heap.size = g) : Ptrs (w.alloc (.cells #[.pointer (some ⟨p, 2, none⟩), .pointer (some ⟨p, 3, none⟩), .pointer (some ⟨p, 4, none⟩), .pointer (some ⟨p, 5, none⟩), .pointer (some ⟨p, 6, none⟩)] T)) g 5 p 2 := by
  subst hg
  refine ⟨hp, by simp, fun j hj => ?_⟩
  match j, hj with
  | 0, _ | 1, _ | 2, _ | 3, _ | 4, _ => simp
  | j + 5, h => exact absurd h (by omega)
theorem three_ptrs {w : World} (g p : Nat) (T : TypeId) (hp : p < w.heap.size) (hg : w.heap.size = g) : Ptrs (w.alloc (.cells #[.pointer (some ⟨p, 13, none⟩), .pointer (some ⟨p, 14, none⟩), .pointer (some ⟨p, 15, none⟩)] T)) g 3 p 13 := by
  subst hg
  refine ⟨hp, by simp, fun j hj => ?_⟩
  match j, hj with
  | 0, _ | 1, _ | 2, _ => simp
  | j + 3, h => exact absurd h (by omega)
theorem CopyS.lists {w wr : World} {L : LV} {s1 s2 s3 s4 : SlV} (h : CopyS w L s1 s2 s3 s4 wr) (g : LRead w L s1 s2 s3 s4) (ho : ∀ j, j < 3 → ∀ ad, (lsl s1 s2 s3 j).A = some ad → 0 < (lsl s1 s2 s3 j).n → ad.block ≠ w.heap.size) : ClS w L 0 (lsl s1 s2 s3) wr := by
  refine ⟨fun j hj => ?_, ho, fun j hj => absurd hj (by omega)⟩
  match j, hj with
  | 0, _ => exact g.1.below h.bel
  | 1, _ => exact g.2.1.below h.bel
  | 2, _ => exact g.2.2.1.below h.bel
  | j + 3, h => exact absurd h (by omega)
theorem lsl_eta (t : Nat → SlV) (k : Nat) (h : k < 3) : lsl (t 0) (t 1) (t 2) k = t k := by
  match k, h with
  | 0, _ | 1, _ | 2, _ => rfl
  | k + 3, h => exact absurd h (by omega)
theorem lc_next (L : LV) (t : Nat → SlV) (u s4 : SlV) (k : Nat) (hk : k < 3) (i : Nat) (hi : i < 17) :
    (if i = 13 + k then Value.slice u.A u.n u.c else lc L (t 0) (t 1) (t 2) s4 i) = lc L ((fun j => if j = k then u else t j) 0) ((fun j => if j = k then u else t j) 1) ((fun j => if j = k then u else t j) 2) s4 i := by
  match k, hk with
  | 0, _ | 1, _ | 2, _ =>
    match i, hi with
    | 0, _ | 1, _ | 2, _ | 3, _ | 4, _ | 5, _ | 6, _ | 7, _ | 8, _ | 9, _ | 10, _ | 11, _ | 12, _ | 13, _ | 14, _ | 15, _ | 16, _ => rfl
    | i + 17, h => exact absurd h (by omega)
  | k + 3, h => exact absurd h (by omega)
/-- a line loaded whole and stored whole into another box -/
theorem wpList_moveline {ops : Array Oper} {rest : List Oper} {o1 o2 : Oper} {a : Act} {w : World} {Q : Exit → Act → World → Prop} (hg1 : o1.guard = none) (x1 : Operand) (ho1 : o1.op = .load 39 x1) (p : Nat) (hx1 : a.eval x1 = .pointer (some ⟨p, 0, none⟩)) (L : LV) (s1 s2 s3 s4 : SlV) (hb1 : BoxF w p 17 (lc L s1 s2 s3 s4))
    (hg2 : o2.guard = none) (x y : Operand) (ho2 : o2.op = .store 39 x y) (q : Nat) (hx2 : (a.put o1.dst (lineV L s1 s2 s3 s4)).eval x = .pointer (some ⟨q, 0, none⟩)) (hy : (a.put o1.dst (lineV L s1 s2 s3 s4)).eval y = lineV L s1 s2 s3 s4) (g : Nat → Value) (hb2 : BoxF w q 17 g)
    (h : ∀ w9, BoxF w9 q 17 (lc L s1 s2 s3 s4) → Ex q w w9 → wpList Tryz.prog ops Q rest ((a.put o1.dst (lineV L s1 s2 s3 s4)).put o2.dst undef) w9) : wpList Tryz.prog ops Q (o1 :: o2 :: rest) a w :=
  wpList_lineOf (by unfold Region.wanted; rw [hg1]) x1 ho1 p hx1 L s1 s2 s3 s4 hb1 (wpList_line hg2 x y ho2 q hx2 L s1 s2 s3 s4 hy g hb2 h)
theorem lc_last (L : LV) (t1 t2 t3 s4 u : SlV) (i : Nat) (hi : i < 17) : (if i = 16 then Value.slice u.A u.n u.c else lc L t1 t2 t3 s4 i) = lc L t1 t2 t3 u i := by
  match i, hi with
  | 0, _ | 1, _ | 2, _ | 3, _ | 4, _ | 5, _ | 6, _ | 7, _ | 8, _ | 9, _ | 10, _ | 11, _ | 12, _ | 13, _ | 14, _ | 15, _ | 16, _ => rfl
  | i + 17, h => exact absurd h (by omega)
theorem ISl.exOff {w w' : World} {k : IntKind} {q : Nat} {s : SlV} {xs : List Int} (h : ISl w k s.A s.n s.c xs) (g : Ex q w w') (ho : ∀ ad, s.A = some ad → ad.block ≠ q) : ISl w' k s.A s.n s.c xs := by
  refine ⟨h.1, h.2.1, h.2.2.1, fun hn => ?_⟩
  obtain ⟨b, off, e, hb, hc⟩ := h.2.2.2 hn
  exact ⟨b, off, e, Nat.lt_of_lt_of_le hb g.size, fun i hi => (g.cell (off + i) hb (ho _ e)).trans (hc i hi)⟩
set_option maxRecDepth 100000 in
set_option maxHeartbeats 4000000 in
theorem copy_any (L : LV) (s1 s2 s3 s4 : SlV) (w : World) (h : LRead w L s1 s2 s3 s4) (hz : LvSz L) :
    Calls Tryz.prog 38 #[lineV L s1 s2 s3 s4] w (GotCp L w) := by
  have H := Lib.hid h
  have Z := Lib.hid hz
  clear h hz
  have P0 := Lib.hid (fun T => line_boxed w L s1 s2 s3 s4 T)
  unfold lineV
  go_enter Tryz.func38, Tryz.ntmps38
  go_wp2
  go_loopw [14] (fun i wr => ∃ k : Nat, k ≤ 5 ∧ i = .int .i64 (k : Int) ∧ CopyS w L s1 s2 s3 s4 wr ∧ Ptrs wr (w.heap.size + 1 + 1) 5 w.heap.size 2) (fun i _ => 5 - (intOf i).toNat)
  case atStart =>
    refine ⟨0, by omega, rfl, ⟨?_, ?_, ?_⟩, ?_⟩
    · exact ((P0.out _).below (by omega) ((Below.refl _ _).alloc (Nat.le_refl _) _)).below (by omega) ((Below.refl _ _).alloc (Nat.le_refl _) _)
    · have := zero_box (w.alloc (.cells #[.int .i64 L.row, .int .i64 L.kind, .string (str L.dev), .string (str L.port), .string (str L.peer), .string (str L.far), .string (str L.name), .int .u64 L.mac, .int .u32 L.addr, .int .i64 L.bits, .int .i64 L.vlan, .int .i64 L.num, .int .i64 L.cost, .slice s1.A s1.n s1.c, .slice s2.A s2.n s2.c, .slice s3.A s3.n s3.c, .slice s4.A s4.n s4.c] 39)) 39
      rw [show (w.alloc _).heap.size = w.heap.size + 1 by simp] at this
      exact this.below (by omega) ((Below.refl _ _).alloc (Nat.le_refl _) _)
    · exact (((Below.refl _ _).alloc (Nat.le_refl _) _).alloc (by simp) _).alloc (by simp; omega) _
    · exact five_ptrs _ _ _ (by simp; omega) (by simp)
  case round =>
    obtain ⟨k, hk, rfl, S, P⟩ := hrel
    have SS := Lib.hid S
    have PP := Lib.hid P
    by_cases hlt : k < 5
    · have c0 : wr.cell? ⟨w.heap.size + 1 + 1, k, none⟩ = some (.pointer (some ⟨w.heap.size, 2 + k, none⟩)) := P.2.2 k hlt
      have c1 : wr.cell? ⟨w.heap.size, 2 + k, none⟩ = some (.string (str (ltx L k))) := by rw [S.p.cell (2 + k) (by omega), lc_txt L s1 s2 s3 s4 k hlt]
      have C := Lib.hid (fun w => tclone_any (ltx L k) w (ltx_len Z.out k))
      have E := Lib.hid (lc_txt L s1 s2 s3 s4 k hlt)
      clear S P
      generalize ltx L k = x at *
      go_wp2_with (go_at_call 28; refine (C.out _).mono ?_; rintro e w1 ⟨rfl, hb1⟩; have S1 := Lib.hid (SS.out.keep hb1); have P1 := Lib.hid (PP.out.keep hb1); have c2 : w1.cell? ⟨w.heap.size, 2 + k, none⟩ = some (.string (str x)) := (by rw [S1.out.p.cell (2 + k) (by omega), E.out]); have f2 : w1.frozen? ⟨w.heap.size, 2 + k, none⟩ = false := S1.out.p.2 _)
      have S2 := Lib.hid (show CopyS w L s1 s2 s3 s4 (w1.setCell ⟨w.heap.size, 2 + k, none⟩ (.string (str x))) by
        have := S1.out.same (2 + k) (by omega)
        rw [E.out] at this
        exact this)
      have P2 := Lib.hid (P1.out.set (j := 2 + k) (v := .string (str x)))
      go_roundw
      case rel => exact ⟨k + 1, by omega, by go_num, S2.out, P2.out⟩
      case measure => simp [intOf]; omega
    · obtain rfl : k = 5 := by omega
      rw [show ((5 : Nat) : Int) = 5 from rfl]
      obtain ⟨g, hg⟩ : ∃ g, wr.heap.size = g := ⟨_, rfl⟩
      have G := Lib.hid (show w.heap.size + 2 ≤ g by have := P.2.1; omega)
      have T0 := Lib.hid (show ∀ j, j < 3 → ∀ ad, (lsl s1 s2 s3 j).A = some ad → 0 < (lsl s1 s2 s3 j).n → ad.block ≠ w.heap.size from fun j hj ad h hn => by
        have key : ∀ (k : IntKind) (s : SlV) (xs : List Int), ISl w k s.A s.n s.c xs → s.A = some ad → 0 < s.n → ad.block ≠ w.heap.size := fun k s xs hi he hn => by
          obtain ⟨b, off, e2, hb, _⟩ := hi.2.2.2 hn
          rw [he] at e2
          cases e2
          exact Nat.ne_of_lt hb
        match j, hj with
        | 0, _ => exact key _ _ _ H.out.1 h hn
        | 1, _ => exact key _ _ _ H.out.2.1 h hn
        | 2, _ => exact key _ _ _ H.out.2.2.1 h hn
        | j + 3, h => exact absurd h (by omega))
      have A0 := Lib.hid (SS.out.keep ((Below.refl wr.heap.size wr).alloc (Nat.le_refl _) (.cells #[.pointer (some ⟨w.heap.size, 13, none⟩), .pointer (some ⟨w.heap.size, 14, none⟩), .pointer (some ⟨w.heap.size, 15, none⟩)] 120)))
      have A1 := Lib.hid (three_ptrs (w := wr) g w.heap.size 120 (by have := G.out; omega) hg)
      clear S P
      go_wp2
      clear hg
      go_loopw [30] (fun i wq => ∃ (k : Nat) (t : Nat → SlV), k ≤ 3 ∧ i = .int .i64 (k : Int) ∧ CopyS w L (t 0) (t 1) (t 2) s4 wq ∧ Ptrs wq g 3 w.heap.size 13 ∧ ClS w L k t wq) (fun i _ => 3 - (intOf i).toNat)
      case atStart => exact ⟨0, lsl s1 s2 s3, by omega, rfl, A0.out, A1.out, A0.out.lists H.out T0.out⟩
      case round =>
        obtain ⟨k, t, hk, rfl, S, P, T⟩ := hrel
        have SS2 := Lib.hid S
        have PP2 := Lib.hid P
        have TT := Lib.hid T
        by_cases hlt : k < 3
        · have c0 : wr.cell? ⟨g, k, none⟩ = some (.pointer (some ⟨w.heap.size, 13 + k, none⟩)) := P.2.2 k hlt
          have c1 : wr.cell? ⟨w.heap.size, 13 + k, none⟩ = some (.slice (t k).A (t k).n (t k).c) := by rw [S.p.cell (13 + k) (by omega), lc_sl _ _ _ _ _ k hlt, lsl_eta t k hlt]
          have C := Lib.hid (fun w h => clone_int (t k) (llist L k) w h (llist_len Z.out k))
          have TK := Lib.hid (T.rd k hlt)
          clear S P T
          obtain ⟨u, hu⟩ : ∃ u, t k = u := ⟨_, rfl⟩
          rw [hu] at c1 C TK
          obtain ⟨uA, un, uc⟩ := u
          clear hu
          dsimp only at c1 TK C
          have WQ := Lib.hid (show g < wr.heap.size from PP2.out.2.1)
          go_wp2_with (go_at_call 78; refine (C.out _ TK.out).mono ?_; rintro e w1 ⟨v, rfl, hv, hb1, hf⟩; have S1 := Lib.hid (SS2.out.keep hb1); have P1 := Lib.hid (PP2.out.keep hb1); have c2 : w1.cell? ⟨w.heap.size, 13 + k, none⟩ = some (.slice (t k).A (t k).n (t k).c) := (by rw [S1.out.p.cell (13 + k) (by omega), lc_sl _ _ _ _ _ k hlt, lsl_eta t k hlt]); have f2 : w1.frozen? ⟨w.heap.size, 13 + k, none⟩ = false := S1.out.p.2 _)
          have S2 := Lib.hid (S1.out.put (13 + k) (.slice v.A v.n v.c) (by omega) (lc_next L t v s4 k hlt))
          have P2 := Lib.hid (P1.out.set (j := 13 + k) (v := .slice v.A v.n v.c))
          have T2 := Lib.hid (TT.out.next hb1 hv (fun ad h => by have := hf ad h; have := WQ.out; have := G.out; omega) (.slice v.A v.n v.c) (13 + k))
          go_roundw
          case rel => exact ⟨k + 1, fun i => if i = k then v else t i, by omega, by go_num, S2.out, P2.out, T2.out⟩
          case measure => simp [intOf]; omega
        · obtain rfl : k = 3 := by omega
          have c1 : wr.cell? ⟨w.heap.size, 16, none⟩ = some (.slice s4.A s4.n s4.c) := S.p.cell 16 (by omega)
          have C := Lib.hid (fun w h => clone_uint32 s4 L.addrs w h Z.out.lst.2.2.2)
          clear S P T
          rw [show ((3 : Nat) : Int) = 3 from rfl]
          go_wp2_with (first
            | (go_at_call 79; refine (C.out _ (H.out.2.2.2.below SS2.out.bel)).mono ?_; rintro e w1 ⟨v, rfl, hv, hb1, hf⟩; have S1 := Lib.hid (SS2.out.keep hb1); have c2 : w1.cell? ⟨w.heap.size, 16, none⟩ = some (.slice s4.A s4.n s4.c) := S1.out.p.cell 16 (by omega); have f2 : w1.frozen? ⟨w.heap.size, 16, none⟩ = false := S1.out.p.2 _)
            | ((with_reducible refine wpList_moveline ?hg1 (.tmp 1) ?ho1 w.heap.size ?hx1 L (t 0) (t 1) (t 2) v ?hb1 ?hg2 (.tmp 2) (.tmp 45) ?ho2 (w.heap.size + 1) ?hx2 ?hy (lc LV.zero SlV.nil SlV.nil SlV.nil SlV.nil) ?hb2 ?_); (case hg1 => rfl); (case ho1 => rfl); (case hx1 => rfl); (case hg2 => rfl); (case ho2 => rfl); (case hx2 => rfl); (case hy => rfl); (case hb1 => exact (S1.out.put 16 (.slice v.A v.n v.c) (by omega) (lc_last L (t 0) (t 1) (t 2) s4 v)).p); (case hb2 => exact (S1.out.put 16 (.slice v.A v.n v.c) (by omega) (lc_last L (t 0) (t 1) (t 2) s4 v)).r); intro w9 b9 e9))
          have T1 := TT.out.keep hb1
          have o0 := TT.out.own 0 (by omega)
          have o1 := TT.out.own 1 (by omega)
          have o2 := TT.out.own 2 (by omega)
          have G2 := G.out
          have P2 := PP2.out.2.1
          have B2 := (S1.out.put 16 (.slice v.A v.n v.c) (by omega) (lc_last L (t 0) (t 1) (t 2) s4 v)).bel
          have key : ∀ (k : IntKind) (s : SlV) (xs : List Int), ISl w1 k s.A s.n s.c xs → (∀ ad, s.A = some ad → w.heap.size + 2 ≤ ad.block) → ISl w9 k s.A s.n s.c xs := fun k s xs hi ho =>
            ISl.exOff (hi.setOff2 (fun ad h _ => by have := ho ad h; omega)) e9 (fun ad h => by have := ho ad h; omega)
          have o3 : ∀ ad, v.A = some ad → w.heap.size + 2 ≤ ad.block := fun ad h => by have := hf ad h; omega
          exact bodyPost_ret (v := lineV L (t 0) (t 1) (t 2) v) (copy_results _ _ (w.heap.size + 1) L (t 0) (t 1) (t 2) v rfl b9) rfl ⟨t 0, t 1, t 2, v, rfl, ⟨key _ _ _ (T1.rd 0 (by omega)) o0, key _ _ _ (T1.rd 1 (by omega)) o1, key _ _ _ (T1.rd 2 (by omega)) o2, key _ _ _ hv o3⟩,
            ⟨fun ad h => by have := o0 ad h; omega, fun ad h => by have := o1 ad h; omega, fun ad h => by have := o2 ad h; omega, fun ad h => by have := o3 ad h; omega⟩, Below.ex B2 e9 (by omega) (by have := B2.size; exact this)⟩
end Go.Proofs.YtagbfklcbekceaaGreatDoor
