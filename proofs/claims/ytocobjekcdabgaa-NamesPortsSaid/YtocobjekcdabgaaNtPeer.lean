/- The contract of palingref15.peer: may a domain have that peer? (Made by mk-ntpeer.py.) -/
import Derived.Test.YtocobjekcdabgaaNtRef1
import Derived.Test.YtocobjekcdabgaaSeqT
import Derived.Deep.DeepCutAuto
import Derived.RegionTactic
namespace Go.Proofs.Ytocobjekcdabgaa
open Go.RowKit

/-- may a domain, at place i, have that peer? -/
def peerB (N : NV) (i : Nat) (k : Int) : Bool :=
  plB k (N.domains.length : Int) && (!decide (k = (i : Int)) && (decide ((N.domains.getD i DomV.zero).dev ≠ (N.domains.getD k.toNat DomV.zero).dev) && (decide ((N.domains.getD i DomV.zero).vni = (N.domains.getD k.toNat DomV.zero).vni) && (decide ((N.domains.getD i DomV.zero).vni ≠ 0) &&
    (decide ((N.devices.getD (N.domains.getD i DomV.zero).dev.toNat DevV.zero).vtep ≠ 0) && (decide ((N.devices.getD (N.domains.getD k.toNat DomV.zero).dev.toNat DevV.zero).vtep ≠ 0) && memB (N.domains.getD k.toNat DomV.zero).peers (i : Int)))))))
/-- a domain in a box -/
structure DBox (w : World) (q : Nat) (D : DomV) (s : Sl3) : Prop where
  c0 : w.cell? ⟨q, 0, none⟩ = some (.int .i64 D.dev)
  c1 : w.cell? ⟨q, 1, none⟩ = some (.int .i64 D.vlan)
  c2 : w.cell? ⟨q, 2, none⟩ = some (.int .i64 D.vni)
  c3 : w.cell? ⟨q, 3, none⟩ = some (.int .i64 D.irb)
  c4 : w.cell? ⟨q, 4, none⟩ = some (.int .i64 D.row)
  c5 : w.cell? ⟨q, 5, none⟩ = some (.slice s.A s.n s.c)
  lt : q < w.heap.size
theorem DBox.below {w w' : World} {q : Nat} {D : DomV} {s : Sl3} (h : DBox w q D s) (hb : Below w.heap.size w w') : DBox w' q D s :=
  ⟨(hb.cell (p := ⟨q, 0, none⟩) h.lt).trans h.c0, (hb.cell (p := ⟨q, 1, none⟩) h.lt).trans h.c1, (hb.cell (p := ⟨q, 2, none⟩) h.lt).trans h.c2, (hb.cell (p := ⟨q, 3, none⟩) h.lt).trans h.c3, (hb.cell (p := ⟨q, 4, none⟩) h.lt).trans h.c4, (hb.cell (p := ⟨q, 5, none⟩) h.lt).trans h.c5, Nat.lt_of_lt_of_le h.lt hb.size⟩
theorem DBox.new (w : World) (D : DomV) (s : Sl3) (T : TypeId) : DBox (w.alloc (.cells (domC D s).toArray T)) w.heap.size D s := by
  constructor <;> simp [domC]
theorem peerB_no1 {N : NV} {i : Nat} {k : Int} (h : plB k (N.domains.length : Int) = false) : peerB N i k = false := by unfold peerB; rw [h]; rfl
theorem peerB_no2 {N : NV} {i : Nat} {k : Int} (h : k = (i : Int)) : peerB N i k = false := by unfold peerB; rw [decide_eq_true h, Bool.not_true, Bool.false_and, Bool.and_false]
theorem peerB_at {N : NV} {i x : Nat} (h : plB (x : Int) (N.domains.length : Int) = true) (hn : ¬ (x : Int) = (i : Int)) : peerB N i (x : Int) =
    (decide ((N.domains.getD i DomV.zero).dev ≠ (N.domains.getD x DomV.zero).dev) && (decide ((N.domains.getD i DomV.zero).vni = (N.domains.getD x DomV.zero).vni) && (decide ((N.domains.getD i DomV.zero).vni ≠ 0) &&
    (decide ((N.devices.getD (N.domains.getD i DomV.zero).dev.toNat DevV.zero).vtep ≠ 0) && (decide ((N.devices.getD (N.domains.getD x DomV.zero).dev.toNat DevV.zero).vtep ≠ 0) && memB (N.domains.getD x DomV.zero).peers (i : Int)))))) := by
  unfold peerB
  rw [h, decide_eq_false hn]
  rfl
end Go.Proofs.Ytocobjekcdabgaa
