/- The contract of palingref15.domains: may all domains be? (Made by mk-ntdoms.py.) -/
import Derived.Test.YtocobjekcdabgaaNtPeer
import Derived.Test.YtocobjekcdabgaaSeq
import Derived.Deep.CutBlock
namespace Go.Proofs.Ytocobjekcdabgaa
open Go.RowKit

/-- may a domain be, at place i, but for its peers? -/
structure DomOk (N : NV) (i : Nat) (D : DomV) : Prop where
  dev : plB D.dev (N.devices.length : Int) = true
  vlan : 1 ≤ D.vlan ∧ D.vlan ≤ 4094
  vni : 0 ≤ D.vni ∧ D.vni < 16777216
  one : atF N D.dev D.vlan = (i : Int)
  irb : D.irb = -1 ∨ (plB D.irb (N.irbs.length : Int) = true ∧ (N.irbs.getD D.irb.toNat IrbV.zero).dom = (i : Int))
/-- its peers -/
def PeersOk (N : NV) (i : Nat) (D : DomV) : Prop := ∀ j, j < D.peers.length → peerB N i (D.peers.getD j 0) = true ∧ memB (D.peers.take j) (D.peers.getD j 0) = false
def DomsOk (N : NV) : Prop := (∀ i, i < N.domains.length → DomOk N i (N.domains.getD i DomV.zero)) ∧ ∀ i, i < N.domains.length → PeersOk N i (N.domains.getD i DomV.zero)
noncomputable def dmsB (N : NV) : Bool := @decide (DomsOk N) (Classical.propDecidable _)
theorem dmsB_no {N : NV} (h : ¬ DomsOk N) : dmsB N = false := by
  unfold dmsB
  exact @decide_eq_false _ (Classical.propDecidable _) h
theorem dmsB_yes {N : NV} (h : DomsOk N) : dmsB N = true := by
  unfold dmsB
  exact @decide_eq_true _ (Classical.propDecidable _) h
theorem dmsB_iff (N : NV) : dmsB N = true ↔ DomsOk N := by
  unfold dmsB
  exact @decide_eq_true_iff _ (Classical.propDecidable _)
def dm1B (N : NV) (i : Nat) (D : DomV) : Bool := plB D.dev (N.devices.length : Int) && (decide (1 ≤ D.vlan) && (decide (D.vlan ≤ 4094) && (decide (0 ≤ D.vni) && (decide (D.vni < 16777216) && decide (atF N D.dev D.vlan = (i : Int))))))
def dm2B (N : NV) (i : Nat) (D : DomV) : Bool := plB D.irb (N.irbs.length : Int) && decide ((N.irbs.getD D.irb.toNat IrbV.zero).dom = (i : Int))
theorem dm_ok {N : NV} {i : Nat} {D : DomV} (h1 : dm1B N i D = true) (h2 : D.irb = -1 ∨ dm2B N i D = true) : DomOk N i D := by
  simp only [dm1B, dm2B, Bool.and_eq_true, decide_eq_true_eq] at h1 h2
  obtain ⟨a1, a2, a3, a4, a5, a6⟩ := h1
  exact ⟨a1, ⟨a2, a3⟩, ⟨a4, a5⟩, a6, h2⟩
theorem dm_no1 {N : NV} {i : Nat} {D : DomV} (h : dm1B N i D = false) : ¬ DomOk N i D := fun g => by
  have e : dm1B N i D = true := by simp only [dm1B, g.dev, g.one, decide_eq_true g.vlan.1, decide_eq_true g.vlan.2, decide_eq_true g.vni.1, decide_eq_true g.vni.2, decide_true]; rfl
  rw [h] at e; cases e
theorem dm_no2 {N : NV} {i : Nat} {D : DomV} (hi : D.irb ≠ -1) (h : dm2B N i D = false) : ¬ DomOk N i D := fun g => by
  rcases g.irb with e | e
  · exact hi e
  · have e2 : dm2B N i D = true := by simp only [dm2B, Bool.and_eq_true, decide_eq_true_eq]; exact e
    rw [h] at e2; cases e2
theorem isl_take {w : World} {k : IntKind} {A : Option Addr} {n c j : Nat} {xs : List Int} (h : ISl w k A n c xs) (hj : j ≤ n) : ISl w k A j c (xs.take j) :=
  ⟨by rw [List.length_take, h.1]; omega, Nat.le_trans hj h.2.1, h.2.2.1, fun hn => by
    obtain ⟨b, off, e, hl, hc⟩ := h.2.2.2 (by omega)
    refine ⟨b, off, e, hl, fun i hi => ?_⟩
    rw [hc i (by omega)]
    simp [List.getD, hi]⟩
end Go.Proofs.Ytocobjekcdabgaa
