/- A line copied: the contract of stmt.Copy. -/
import Derived.Test.YtpbomfhlghljdaaGreatDoorStSmall2
import Derived.Test.YtpbomfhlghljdaaGreatDoorStPut
import Derived.Test.YtpbomfhlghljdaaGreatDoorStWv
import Derived.Test.YtpbomfhlghljdaaGreatDoorStRes
namespace Go.Proofs.YtpbomfhlghljdaaGreatDoor
open Go.RowKit

theorem ISl.setOff2 {w : World} {k : IntKind} {A : Option Addr} {n c q j : Nat} {xs : List Int} {v : Value} (h : ISl w k A n c xs) (ho : ∀ ad, A = some ad → 0 < n → ad.block ≠ q) : ISl (w.setCell ⟨q, j, none⟩ v) k A n c xs := by
  refine ⟨h.1, h.2.1, h.2.2.1, fun hn => ?_⟩
  obtain ⟨b, off, e, hb, hc⟩ := h.2.2.2 hn
  have h2 := ho _ e hn
  refine ⟨b, off, e, by simpa using hb, fun i hi => ?_⟩
  rw [World.cell?_setCell_other _ _ _ _ (by intro e1; injection e1 with e2 _; exact h2 e2.symm)]
  exact hc i hi
/-- a line's texts are no longer than 300 bytes, its lists than 16 numbers, its numbers within their kinds -/
structure LvOk (L : LV) : Prop where
  txt : L.dev.length ≤ 300 ∧ L.port.length ≤ 300 ∧ L.peer.length ≤ 300 ∧ L.far.length ≤ 300 ∧ L.name.length ≤ 300
  lst : L.tagged.length ≤ 16 ∧ L.imports.length ≤ 16 ∧ L.exports.length ≤ 16 ∧ L.addrs.length ≤ 16
  num : (-9223372036854775808 ≤ L.row ∧ L.row ≤ 9223372036854775807) ∧ (0 ≤ L.kind ∧ L.kind ≤ 18) ∧ (0 ≤ L.mac ∧ L.mac < 281474976710656) ∧ (0 ≤ L.addr ∧ L.addr ≤ 4294967295) ∧ (0 ≤ L.bits ∧ L.bits ≤ 32) ∧ (0 ≤ L.vlan ∧ L.vlan ≤ 4095) ∧ (0 ≤ L.num ∧ L.num ≤ 16777216) ∧ (0 ≤ L.cost ∧ L.cost ≤ 65535)
/-- a line's texts and lists are not too long to be copied -/
structure LvSz (L : LV) : Prop where
  txt : L.dev.length ≤ 1000000 ∧ L.port.length ≤ 1000000 ∧ L.peer.length ≤ 1000000 ∧ L.far.length ≤ 1000000 ∧ L.name.length ≤ 1000000
  lst : L.tagged.length ≤ 1000000 ∧ L.imports.length ≤ 1000000 ∧ L.exports.length ≤ 1000000 ∧ L.addrs.length ≤ 1000000
theorem LvOk.sz {L : LV} (h : LvOk L) : LvSz L := ⟨by have := h.txt; omega, by have := h.lst; omega⟩

theorem line_boxed (w : World) (L : LV) (s1 s2 s3 s4 : SlV) (T : TypeId) : BoxF (w.alloc (.cells #[.int .i64 L.row, .int .i64 L.kind, .string (str L.dev), .string (str L.port), .string (str L.peer), .string (str L.far), .string (str L.name), .int .u64 L.mac, .int .u32 L.addr, .int .i64 L.bits, .int .i64 L.vlan, .int .i64 L.num, .int .i64 L.cost, .slice s1.A s1.n s1.c, .slice s2.A s2.n s2.c, .slice s3.A s3.n s3.c, .slice s4.A s4.n s4.c] T)) w.heap.size 17 (lc L s1 s2 s3 s4) := by
  refine ⟨fun j hj => ?_, fun o => by simp⟩
  match j, hj with
  | 0, _ | 1, _ | 2, _ | 3, _ | 4, _ | 5, _ | 6, _ | 7, _ | 8, _ | 9, _ | 10, _ | 11, _ | 12, _ | 13, _ | 14, _ | 15, _ | 16, _ => simp [lc, SlV.val]
  | j + 17, h => exact absurd h (by omega)
/-- a line's box, the result's box; what was there is as it was -/
structure CopyS (w : World) (L : LV) (s1 s2 s3 s4 : SlV) (wr : World) : Prop where
  p : BoxF wr w.heap.size 17 (lc L s1 s2 s3 s4)
  r : BoxF wr (w.heap.size + 1) 17 (lc LV.zero SlV.nil SlV.nil SlV.nil SlV.nil)
  bel : Below w.heap.size w wr
theorem CopyS.keep {w wr w2 : World} {L : LV} {s1 s2 s3 s4 : SlV} (h : CopyS w L s1 s2 s3 s4 wr) (hb : Below wr.heap.size wr w2) : CopyS w L s1 s2 s3 s4 w2 :=
  ⟨h.p.below (by omega) hb, h.r.below (by omega) hb, h.bel.trans (hb.mono h.bel.size)⟩
theorem CopyS.put {w wr : World} {L : LV} {s1 s2 s3 s4 t1 t2 t3 t4 : SlV} (h : CopyS w L s1 s2 s3 s4 wr) (j : Nat) (v : Value) (hj : j < 17) (e : ∀ i, i < 17 → (if i = j then v else lc L s1 s2 s3 s4 i) = lc L t1 t2 t3 t4 i) : CopyS w L t1 t2 t3 t4 (wr.setCell ⟨w.heap.size, j, none⟩ v) :=
  ⟨(h.p.set j hj v).is e, h.r.off (by omega), h.bel.setCell (Nat.le_refl _) v⟩
theorem CopyS.same {w wr : World} {L : LV} {s1 s2 s3 s4 : SlV} (h : CopyS w L s1 s2 s3 s4 wr) (j : Nat) (hj : j < 17) : CopyS w L s1 s2 s3 s4 (wr.setCell ⟨w.heap.size, j, none⟩ (lc L s1 s2 s3 s4 j)) :=
  h.put j _ hj fun i _ => by
    by_cases e : i = j
    · rw [if_pos e, e]
    · rw [if_neg e]
/-- pointers to a box's cells -/
def Ptrs (w : World) (g m p base : Nat) : Prop := p < g ∧ g < w.heap.size ∧ ∀ j, j < m → w.cell? ⟨g, j, none⟩ = some (.pointer (some ⟨p, base + j, none⟩))
theorem Ptrs.keep {w w2 : World} {g m p base : Nat} (h : Ptrs w g m p base) (hb : Below w.heap.size w w2) : Ptrs w2 g m p base :=
  ⟨h.1, Nat.lt_of_lt_of_le h.2.1 hb.size, fun j hj => (hb.cell (p := ⟨g, j, none⟩) h.2.1).trans (h.2.2 j hj)⟩
theorem Ptrs.set {w : World} {g m p base j : Nat} {v : Value} (h : Ptrs w g m p base) : Ptrs (w.setCell ⟨p, j, none⟩ v) g m p base :=
  ⟨h.1, by simpa using h.2.1, fun i hi => by rw [World.cell?_setCell_other _ _ _ _ (by intro e; injection e with e1 _; have := h.1; omega)]; exact h.2.2 i hi⟩
def ltx (L : LV) : Nat → List UInt8
  | 0 => L.dev
  | 1 => L.port
  | 2 => L.peer
  | 3 => L.far
  | _ => L.name
theorem lc_txt (L : LV) (s1 s2 s3 s4 : SlV) (k : Nat) (h : k < 5) : lc L s1 s2 s3 s4 (2 + k) = .string (str (ltx L k)) := by
  match k, h with
  | 0, _ | 1, _ | 2, _ | 3, _ | 4, _ => rfl
  | k + 5, h => exact absurd h (by omega)
theorem ltx_len {L : LV} (h : LvSz L) (k : Nat) : (ltx L k).length ≤ 1000000 := by
  have := h.txt
  unfold ltx
  split <;> omega
def lsl (s1 s2 s3 : SlV) : Nat → SlV
  | 0 => s1
  | 1 => s2
  | _ => s3
def llist (L : LV) : Nat → List Int
  | 0 => L.tagged
  | 1 => L.imports
  | _ => L.exports
theorem lc_sl (L : LV) (s1 s2 s3 s4 : SlV) (k : Nat) (h : k < 3) : lc L s1 s2 s3 s4 (13 + k) = .slice (lsl s1 s2 s3 k).A (lsl s1 s2 s3 k).n (lsl s1 s2 s3 k).c := by
  match k, h with
  | 0, _ | 1, _ | 2, _ => rfl
  | k + 3, h => exact absurd h (by omega)
theorem llist_len {L : LV} (h : LvSz L) (k : Nat) : (llist L k).length ≤ 1000000 := by
  have := h.lst
  unfold llist
  split <;> omega
/-- the lists, the first k of which are the copy's own -/
structure ClS (w : World) (L : LV) (k : Nat) (t : Nat → SlV) (wr : World) : Prop where
  rd : ∀ j, j < 3 → ISl wr .i64 (t j).A (t j).n (t j).c (llist L j)
  off : ∀ j, j < 3 → ∀ ad, (t j).A = some ad → 0 < (t j).n → ad.block ≠ w.heap.size
  own : ∀ j, j < k → ∀ ad, (t j).A = some ad → w.heap.size + 2 ≤ ad.block
theorem ClS.keep {w wr w2 : World} {L : LV} {k : Nat} {t : Nat → SlV} (h : ClS w L k t wr) (hb : Below wr.heap.size wr w2) : ClS w L k t w2 := ⟨fun j hj => (h.rd j hj).below hb, h.off, h.own⟩
theorem ClS.next {w wr w2 : World} {L : LV} {k : Nat} {t : Nat → SlV} {u : SlV} (h : ClS w L k t wr) (hb : Below wr.heap.size wr w2) (hu : ISl w2 .i64 u.A u.n u.c (llist L k)) (ho : ∀ ad, u.A = some ad → w.heap.size + 2 ≤ ad.block) (v : Value) (j : Nat) :
    ClS w L (k + 1) (fun i => if i = k then u else t i) (w2.setCell ⟨w.heap.size, j, none⟩ v) := by
  refine ⟨fun i hi => ?_, fun i hi ad => ?_, fun i hi ad => ?_⟩
  · by_cases e : i = k
    · subst e
      simp only [if_true]
      exact hu.setOff2 (fun ad h _ => by have := ho ad h; omega)
    · simp only [if_neg e]
      exact ((h.rd i hi).below hb).setOff2 (h.off i hi)
  · by_cases e : i = k
    · simp only [if_pos e]; intro h _; have := ho ad h; omega
    · simp only [if_neg e]; exact h.off i hi ad
  · by_cases e : i = k
    · simp only [if_pos e]; intro h; have := ho ad h; omega
    · simp only [if_neg e]; exact h.own i (by omega) ad
set_option maxRecDepth 20000 in
set_option maxHeartbeats 2000000 in
theorem copy_results (tmps : Array Value) (w : World) (q : Nat) (L : LV) (s1 s2 s3 s4 : SlV) (h2 : tmps[2]?.getD undef = .pointer (some ⟨q, 0, none⟩)) (hb : BoxF w q 17 (lc L s1 s2 s3 s4)) :
    (results Tryz.f11 tmps).run Tryz.prog w = .ok (lineV L s1 s2 s3 s4) w := by
  have t0 : w.cell? ⟨q, 0, none⟩ = some (.int .i64 L.row) := hb.cell 0 (by omega)
  have t1 : w.cell? ⟨q, 1, none⟩ = some (.int .i64 L.kind) := hb.cell 1 (by omega)
  have t2 : w.cell? ⟨q, 2, none⟩ = some (.string (str L.dev)) := hb.cell 2 (by omega)
  have t3 : w.cell? ⟨q, 3, none⟩ = some (.string (str L.port)) := hb.cell 3 (by omega)
  have t4 : w.cell? ⟨q, 4, none⟩ = some (.string (str L.peer)) := hb.cell 4 (by omega)
  have t5 : w.cell? ⟨q, 5, none⟩ = some (.string (str L.far)) := hb.cell 5 (by omega)
  have t6 : w.cell? ⟨q, 6, none⟩ = some (.string (str L.name)) := hb.cell 6 (by omega)
  have t7 : w.cell? ⟨q, 7, none⟩ = some (.int .u64 L.mac) := hb.cell 7 (by omega)
  have t8 : w.cell? ⟨q, 8, none⟩ = some (.int .u32 L.addr) := hb.cell 8 (by omega)
  have t9 : w.cell? ⟨q, 9, none⟩ = some (.int .i64 L.bits) := hb.cell 9 (by omega)
  have t10 : w.cell? ⟨q, 10, none⟩ = some (.int .i64 L.vlan) := hb.cell 10 (by omega)
  have t11 : w.cell? ⟨q, 11, none⟩ = some (.int .i64 L.num) := hb.cell 11 (by omega)
  have t12 : w.cell? ⟨q, 12, none⟩ = some (.int .i64 L.cost) := hb.cell 12 (by omega)
  have t13 : w.cell? ⟨q, 13, none⟩ = some (.slice s1.A s1.n s1.c) := hb.cell 13 (by omega)
  have t14 : w.cell? ⟨q, 14, none⟩ = some (.slice s2.A s2.n s2.c) := hb.cell 14 (by omega)
  have t15 : w.cell? ⟨q, 15, none⟩ = some (.slice s3.A s3.n s3.c) := hb.cell 15 (by omega)
  have t16 : w.cell? ⟨q, 16, none⟩ = some (.slice s4.A s4.n s4.c) := hb.cell 16 (by omega)
  clear hb
  simp [results, Tryz.results11, go_sem, h2, t0, t1, t2, t3, t4, t5, t6, t7, t8, t9, t10, t11, t12, t13, t14, t15, t16, lineV]
def GotCp (L : LV) (w : World) (e : Ending) (w' : World) : Prop :=
  ∃ t1 t2 t3 t4, e = .returned (lineV L t1 t2 t3 t4) ∧ LRead w' L t1 t2 t3 t4 ∧ LNew w.heap.size t1 t2 t3 t4 ∧ Below w.heap.size w w'
end Go.Proofs.YtpbomfhlghljdaaGreatDoor
