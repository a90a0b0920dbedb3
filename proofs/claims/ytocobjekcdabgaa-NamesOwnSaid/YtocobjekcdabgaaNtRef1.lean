/- palingref15's small functions: Place, In, rising, Member, At; lists of numbers compared (Ints, Addrs of any two). -/
import Derived.Test.YtocobjekcdabgaaNtDat
import Derived.Test.YtocobjekcdabgaaRef3
namespace Go.Proofs.Ytocobjekcdabgaa
open Go.RowKit

/-- a slice of numbers reads as numbers -/
theorem isl_rsl {k : IntKind} {w : World} {F : Nat → Prop} {A : Option Addr} {n c : Nat} {xs : List Int} (h : RSl (Rdr.int k) w F A n c xs) : ISl w k A n c xs :=
  ⟨h.1, h.2.1, h.2.2.1, fun hn => by
    obtain ⟨b, off, e, _, hl, hc⟩ := h.2.2.2.2 hn
    refine ⟨b, off, e, hl, fun j hj => ?_⟩
    have hlt : j < xs.length := by rw [h.1]; exact hj
    obtain ⟨vs, rfl, h2⟩ := hc j xs[j] (List.getElem?_eq_getElem hlt)
    have h3 := h2 0 (.int k xs[j]) rfl
    rw [show off + j * (Rdr.int k).n + 0 = off + j by show off + j * 1 + 0 = off + j; omega] at h3
    rw [h3]
    simp [List.getD, hlt]⟩
/-- a net's box -/
structure NBox (w : World) (q : Nat) (S : NSl3) : Prop where
  c0 : w.cell? ⟨q, 0, none⟩ = some (.slice S.dv.A S.dv.n S.dv.c)
  c1 : w.cell? ⟨q, 1, none⟩ = some (.slice S.pt.A S.pt.n S.pt.c)
  c2 : w.cell? ⟨q, 2, none⟩ = some (.slice S.lk.A S.lk.n S.lk.c)
  c3 : w.cell? ⟨q, 3, none⟩ = some (.slice S.dm.A S.dm.n S.dm.c)
  c4 : w.cell? ⟨q, 4, none⟩ = some (.slice S.st.A S.st.n S.st.c)
  c5 : w.cell? ⟨q, 5, none⟩ = some (.slice S.fl.A S.fl.n S.fl.c)
  c6 : w.cell? ⟨q, 6, none⟩ = some (.slice S.vr.A S.vr.n S.vr.c)
  c7 : w.cell? ⟨q, 7, none⟩ = some (.slice S.ir.A S.ir.n S.ir.c)
  lt : q < w.heap.size
theorem NBox.new (w : World) (S : NSl3) (T : TypeId) : NBox (w.alloc (.cells #[.slice S.dv.A S.dv.n S.dv.c, .slice S.pt.A S.pt.n S.pt.c, .slice S.lk.A S.lk.n S.lk.c, .slice S.dm.A S.dm.n S.dm.c, .slice S.st.A S.st.n S.st.c, .slice S.fl.A S.fl.n S.fl.c, .slice S.vr.A S.vr.n S.vr.c, .slice S.ir.A S.ir.n S.ir.c] T)) w.heap.size S := by
  constructor <;> simp
theorem NBox.below {w w' : World} {q : Nat} {S : NSl3} (h : NBox w q S) (hb : Below w.heap.size w w') : NBox w' q S :=
  ⟨(hb.cell (p := ⟨q, 0, none⟩) h.lt).trans h.c0, (hb.cell (p := ⟨q, 1, none⟩) h.lt).trans h.c1, (hb.cell (p := ⟨q, 2, none⟩) h.lt).trans h.c2, (hb.cell (p := ⟨q, 3, none⟩) h.lt).trans h.c3, (hb.cell (p := ⟨q, 4, none⟩) h.lt).trans h.c4, (hb.cell (p := ⟨q, 5, none⟩) h.lt).trans h.c5, (hb.cell (p := ⟨q, 6, none⟩) h.lt).trans h.c6, (hb.cell (p := ⟨q, 7, none⟩) h.lt).trans h.c7, Nat.lt_of_lt_of_le h.lt hb.size⟩

/-- is it a place of a list of so many? -/
def plB (i m : Int) : Bool := decide (0 ≤ i) && decide (i < m)
theorem plB_iff (i m : Int) : plB i m = true ↔ 0 ≤ i ∧ i < m := by unfold plB; simp
/-- is a number in a list? -/
def memB (xs : List Int) (x : Int) : Bool := decide (x ∈ xs)
theorem memB_take {xs : List Int} {k : Nat} {x : Int} (h : k < xs.length) (ha : x ∉ xs.take k) (hx : xs.getD k 0 ≠ x) : x ∉ xs.take (k + 1) := by
  rw [List.take_succ_eq_append_getElem h]
  intro hm
  rcases List.mem_append.1 hm with hm | hm
  · exact ha hm
  · have := List.mem_singleton.1 hm
    exact hx (by rw [this]; simp [List.getD, h])
/-- none, or rising from 1 on? -/
def rsB (xs : List Int) (hi : Int) : Bool := decide (xs = []) || risIn xs 1 hi
/-- has a port a VLAN? -/
def mbrB (p : PortV) (v : Int) : Bool := decide (v ≠ 0) && (decide (p.native = v) || memB p.tagged v)
/-- the first domain of a device and a VLAN, from number k on -/
def atK : List DomV → Int → Int → Nat → Int
  | [], _, _, _ => -1
  | d :: r, dev, v, k => if d.dev = dev ∧ d.vlan = v then (k : Int) else atK r dev v (k + 1)
def atF (N : NV) (dev v : Int) : Int := atK N.domains dev v 0
theorem atK_at {xs : List DomV} {k : Nat} (h : k < xs.length) (dev v : Int) : atK (xs.drop k) dev v k = if (xs.getD k DomV.zero).dev = dev ∧ (xs.getD k DomV.zero).vlan = v then (k : Int) else atK (xs.drop (k + 1)) dev v (k + 1) := by
  rw [List.drop_eq_getElem_cons h, atK]
  simp [List.getD, h]
end Go.Proofs.Ytocobjekcdabgaa
