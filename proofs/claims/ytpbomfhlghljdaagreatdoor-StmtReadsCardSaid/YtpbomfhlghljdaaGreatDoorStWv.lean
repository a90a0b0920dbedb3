/- A value of package stmt's, and a line's fields exchanged for it: one field by its number. -/
import Derived.Test.YtpbomfhlghljdaaGreatDoorStPut
namespace Go.Proofs.YtpbomfhlghljdaaGreatDoor
open Go.RowKit

/-- what a word says, or a field has -/
structure WV where
  text : List UInt8
  n : Int
  mac : Int
  addr : Int
  list : List Int
  addrs : List Int
def WV.zero : WV := ⟨[], 0, 0, 0, [], []⟩
/-- what a field becomes, where it is exchanged for a value -/
def fput : Nat → LV → WV → LV
  | 0, L, V => { L with dev := V.text }
  | 1, L, V => { L with port := V.text }
  | 2, L, V => { L with peer := V.text }
  | 3, L, V => { L with far := V.text }
  | 4, L, V => { L with name := V.text }
  | 5, L, _ => L
  | 6, L, V => { L with num := V.n }
  | 7, L, V => { L with vlan := V.n }
  | 8, L, V => { L with cost := V.n }
  | 9, L, V => { L with mac := V.mac }
  | 10, L, V => { L with addr := V.addr }
  | 11, L, V => { L with addr := V.addr, bits := V.n }
  | 12, L, V => { L with tagged := V.list }
  | 13, L, V => { L with imports := V.list }
  | 14, L, V => { L with exports := V.list }
  | 15, L, V => { L with addrs := V.addrs }
  | _, L, _ => L
/-- .. and what the value becomes -/
def ftake : Nat → LV → WV → WV
  | 0, L, V => { V with text := L.dev }
  | 1, L, V => { V with text := L.port }
  | 2, L, V => { V with text := L.peer }
  | 3, L, V => { V with text := L.far }
  | 4, L, V => { V with text := L.name }
  | 5, _, V => { V with text := [116, 114, 117, 110, 107] }
  | 6, L, V => { V with n := L.num }
  | 7, L, V => { V with n := L.vlan }
  | 8, L, V => { V with n := L.cost }
  | 9, L, V => { V with mac := L.mac }
  | 10, L, V => { V with addr := L.addr }
  | 11, L, V => { V with addr := L.addr, n := L.bits }
  | 12, L, V => { V with list := L.tagged }
  | 13, L, V => { V with list := L.imports }
  | 14, L, V => { V with list := L.exports }
  | 15, L, V => { V with addrs := L.addrs }
  | _, _, V => V

/-- all blocks but two are as they were -/
def Ex2 (p q : Nat) (w w' : World) : Prop := w'.os = w.os ∧ w'.tape = w.tape ∧ w'.output = w.output ∧ w.heap.size ≤ w'.heap.size ∧ ∀ k, k ≠ p → k ≠ q → k < w.heap.size → w'.heap[k]? = w.heap[k]?
section
variable {p q : Nat} {w w' w'' : World}
theorem Ex2.of_below (h : Below w.heap.size w w') : Ex2 p q w w' := ⟨h.os, h.tape, h.output, h.size, fun k _ _ hk => h.block k hk⟩
theorem Ex2.refl (p q : Nat) (w : World) : Ex2 p q w w := Ex2.of_below (Below.refl _ _)
theorem Ex2.trans (h : Ex2 p q w w') (g : Ex2 p q w' w'') : Ex2 p q w w'' := by
  obtain ⟨h0, h1, h2, h3, h4⟩ := h
  obtain ⟨g0, g1, g2, g3, g4⟩ := g
  exact ⟨g0.trans h0, g1.trans h1, g2.trans h2, Nat.le_trans h3 g3, fun k hp hq hk => (g4 k hp hq (by omega)).trans (h4 k hp hq hk)⟩
theorem Ex2.setp (h : Ex2 p q w w') (j : Nat) (v : Value) : Ex2 p q w (w'.setCell ⟨p, j, none⟩ v) :=
  h.trans ⟨rfl, rfl, rfl, by simp [World.setCell], fun k hk _ _ => Below.heap_setCell _ _ _ _ hk⟩
theorem Ex2.setq (h : Ex2 p q w w') (j : Nat) (v : Value) : Ex2 p q w (w'.setCell ⟨q, j, none⟩ v) :=
  h.trans ⟨rfl, rfl, rfl, by simp [World.setCell], fun k _ hk _ => Below.heap_setCell _ _ _ _ hk⟩
theorem Ex2.drewN (h : Ex2 p q w w') (m : Nat) : Ex2 p q w (w'.drewN m) := h
theorem Ex2.drew1 (h : Ex2 p q w w') : Ex2 p q w w'.drew := h
theorem Ex2.size (h : Ex2 p q w w') : w.heap.size ≤ w'.heap.size := h.2.2.2.1
theorem Ex2.cell (h : Ex2 p q w w') {b : Nat} (o : Nat) (hb : b < w.heap.size) (hp : b ≠ p) (hq : b ≠ q) : w'.cell? ⟨b, o, none⟩ = w.cell? ⟨b, o, none⟩ := World.cell?_of_block (w := w) (h.2.2.2.2 b hp hq hb)
theorem Ex2.frozen (h : Ex2 p q w w') {b : Nat} (o : Nat) (hb : b < w.heap.size) (hp : b ≠ p) (hq : b ≠ q) : w'.frozen? ⟨b, o, none⟩ = w.frozen? ⟨b, o, none⟩ := World.frozen?_of_block (w := w) (h.2.2.2.2 b hp hq hb)
theorem Below.ex2 {B : Nat} {a : World} (g : Below B a w) (h : Ex2 p q w w') (hp : B ≤ p) (hq : B ≤ q) (hs : B ≤ w.heap.size) : Below B a w' :=
  g.trans ⟨h.1, h.2.1, h.2.2.1, h.2.2.2.1, fun k hk => h.2.2.2.2 k (by omega) (by omega) (by omega)⟩
end

/-- a list that lies in neither of two blocks -/
def OSl (w : World) (p q : Nat) (k : IntKind) (s : SlV) (xs : List Int) : Prop := ISl w k s.A s.n s.c xs ∧ ∀ ad, s.A = some ad → 0 < s.n → ad.block ≠ p ∧ ad.block ≠ q
section
variable {p q : Nat} {w w' : World} {k : IntKind} {s : SlV} {xs : List Int}
theorem OSl.nil : OSl w p q k SlV.nil [] := ⟨ISl.nil, fun _ h => by cases h⟩
theorem OSl.below (h : OSl w p q k s xs) (b : Below w.heap.size w w') : OSl w' p q k s xs := ⟨h.1.below b, h.2⟩
theorem OSl.ex (h : OSl w p q k s xs) (g : Ex2 p q w w') : OSl w' p q k s xs := by
  refine ⟨⟨h.1.1, h.1.2.1, h.1.2.2.1, fun hn => ?_⟩, h.2⟩
  obtain ⟨b, off, e, hb, hc⟩ := h.1.2.2.2 hn
  have h2 := h.2 _ e hn
  exact ⟨b, off, e, Nat.lt_of_lt_of_le hb g.size, fun i hi => (g.cell (off + i) hb h2.1 h2.2).trans (hc i hi)⟩
end
/-- a value's cells -/
def vc (V : WV) (t1 t2 : SlV) : Nat → Value
  | 0 => .string (str V.text)
  | 1 => .int .i64 V.n
  | 2 => .int .u64 V.mac
  | 3 => .int .u32 V.addr
  | 4 => t1.val
  | _ => t2.val
/-- a line's box and a value's, their lists elsewhere -/
structure FV (w : World) (p q : Nat) (L : LV) (s1 s2 s3 s4 : SlV) (V : WV) (t1 t2 : SlV) : Prop where
  ne : p ≠ q
  box : BoxF w p 17 (lc L s1 s2 s3 s4)
  val : BoxF w q 6 (vc V t1 t2)
  l1 : OSl w p q .i64 s1 L.tagged
  l2 : OSl w p q .i64 s2 L.imports
  l3 : OSl w p q .i64 s3 L.exports
  l4 : OSl w p q .u32 s4 L.addrs
  v1 : OSl w p q .i64 t1 V.list
  v2 : OSl w p q .u32 t2 V.addrs
theorem FV.drew1 {w : World} {p q : Nat} {L : LV} {s1 s2 s3 s4 : SlV} {V : WV} {t1 t2 : SlV} (h : FV w p q L s1 s2 s3 s4 V t1 t2) : FV w.drew p q L s1 s2 s3 s4 V t1 t2 := ⟨h.ne, h.box, h.val, h.l1, h.l2, h.l3, h.l4, h.v1, h.v2⟩
theorem BoxF.off {w : World} {p n : Nat} {f : Nat → Value} (h : BoxF w p n f) {q j : Nat} {v : Value} (hq : p ≠ q) : BoxF (w.setCell ⟨q, j, none⟩ v) p n f :=
  ⟨fun i hi => by rw [World.cell?_setCell_other _ _ _ _ (by intro e; injection e with e1 _; exact hq e1.symm)]; exact h.1 i hi, fun o => (World.frozen?_setCell _ _ _ _).trans (h.2 o)⟩
/-- a cell of each stored -/
theorem FV.put {w : World} {p q : Nat} {L M : LV} {s1 s2 s3 s4 a1 a2 a3 a4 : SlV} {V U : WV} {t1 t2 b1 b2 : SlV} (h : FV w p q L s1 s2 s3 s4 V t1 t2) (j i : Nat) (u v : Value) (hj : j < 17) (hi : i < 6)
    (e1 : ∀ k, k < 17 → (if k = j then u else lc L s1 s2 s3 s4 k) = lc M a1 a2 a3 a4 k) (e2 : ∀ k, k < 6 → (if k = i then v else vc V t1 t2 k) = vc U b1 b2 k)
    (k1 : OSl w p q .i64 a1 M.tagged) (k2 : OSl w p q .i64 a2 M.imports) (k3 : OSl w p q .i64 a3 M.exports) (k4 : OSl w p q .u32 a4 M.addrs) (k5 : OSl w p q .i64 b1 U.list) (k6 : OSl w p q .u32 b2 U.addrs) :
    FV ((w.setCell ⟨p, j, none⟩ u).setCell ⟨q, i, none⟩ v) p q M a1 a2 a3 a4 U b1 b2 ∧ Ex2 p q w ((w.setCell ⟨p, j, none⟩ u).setCell ⟨q, i, none⟩ v) := by
  have E : Ex2 p q w ((w.setCell ⟨p, j, none⟩ u).setCell ⟨q, i, none⟩ v) := ((Ex2.refl p q w).setp j u).setq i v
  exact ⟨⟨h.ne, ((h.box.set j hj u).is e1).off h.ne, ((h.val.off h.ne.symm).set i hi v).is e2, k1.ex E, k2.ex E, k3.ex E, k4.ex E, k5.ex E, k6.ex E⟩, E⟩
/-- .. or of the value alone -/
theorem FV.putv {w : World} {p q : Nat} {L : LV} {s1 s2 s3 s4 : SlV} {V U : WV} {t1 t2 : SlV} (h : FV w p q L s1 s2 s3 s4 V t1 t2) (i : Nat) (v : Value) (hi : i < 6)
    (e2 : ∀ k, k < 6 → (if k = i then v else vc V t1 t2 k) = vc U t1 t2 k) (k5 : OSl w p q .i64 t1 U.list) (k6 : OSl w p q .u32 t2 U.addrs) :
    FV (w.setCell ⟨q, i, none⟩ v) p q L s1 s2 s3 s4 U t1 t2 ∧ Ex2 p q w (w.setCell ⟨q, i, none⟩ v) := by
  have E : Ex2 p q w (w.setCell ⟨q, i, none⟩ v) := (Ex2.refl p q w).setq i v
  exact ⟨⟨h.ne, h.box.off h.ne, (h.val.set i hi v).is e2, h.l1.ex E, h.l2.ex E, h.l3.ex E, h.l4.ex E, k5.ex E, k6.ex E⟩, E⟩
end Go.Proofs.YtpbomfhlghljdaaGreatDoor
