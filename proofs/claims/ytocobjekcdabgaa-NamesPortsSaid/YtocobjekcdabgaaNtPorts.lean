/- The contract of palingref15.ports: may all ports be? (Made by mk-ntports.py.) -/
import Derived.Test.YtocobjekcdabgaaNtRef1
import Derived.Test.YtocobjekcdabgaaSeq
import Derived.Deep.DeepCutAuto
namespace Go.Proofs.Ytocobjekcdabgaa
open Go.RowKit

/-- may a port be, at place i? -/
structure PortOk (N : NV) (i : Nat) (P : PortV) : Prop where
  dev : plB P.dev (N.devices.length : Int) = true
  lo : 0 ≤ P.native
  hi : P.native ≤ 4094
  tag : rsB P.tagged 4094 = true
  out : memB P.tagged P.native = false
  one : ¬ (P.native = 0 ∧ P.tagged = [])
  dom : 0 < P.native → 0 ≤ atF N P.dev P.native
  doms : ∀ j, j < P.tagged.length → 0 ≤ atF N P.dev (P.tagged.getD j 0)
  link : P.link = -1 ∨ (plB P.link (N.links.length : Int) = true ∧ ((N.links.getD P.link.toNat LinkV.zero).a = (i : Int) ∨ (N.links.getD P.link.toNat LinkV.zero).b = (i : Int)))
noncomputable def ptsB (N : NV) : Bool := @decide (∀ i, i < N.ports.length → PortOk N i (N.ports.getD i PortV.zero)) (Classical.propDecidable _)
theorem ptsB_no {N : NV} {i : Nat} (h : i < N.ports.length) (hn : ¬ PortOk N i (N.ports.getD i PortV.zero)) : ptsB N = false := by
  unfold ptsB
  exact @decide_eq_false _ (Classical.propDecidable _) (fun g => hn (g i h))
theorem ptsB_yes {N : NV} (h : ∀ i, i < N.ports.length → PortOk N i (N.ports.getD i PortV.zero)) : ptsB N = true := by
  unfold ptsB
  exact @decide_eq_true _ (Classical.propDecidable _) h
theorem ptsB_iff (N : NV) : ptsB N = true ↔ ∀ i, i < N.ports.length → PortOk N i (N.ports.getD i PortV.zero) := by
  unfold ptsB
  exact @decide_eq_true_iff _ (Classical.propDecidable _)
theorem drew_below {w w' : World} (h : Drew w w') : Below w.heap.size w w' := by
  obtain ⟨m, rfl⟩ := h
  exact below_drewN (Below.refl _ _) m
/-- the first test of a port -/
def pt1B (N : NV) (P : PortV) : Bool := plB P.dev (N.devices.length : Int) && (decide (0 ≤ P.native) && (decide (P.native ≤ 4094) && (rsB P.tagged 4094 && !memB P.tagged P.native)))
/-- the second one -/
def pt2B (N : NV) (P : PortV) : Bool := !(decide (P.native = 0) && decide (P.tagged = [])) && !(decide (0 < P.native) && decide (atF N P.dev P.native < 0))
/-- the link's -/
def pt3B (N : NV) (i : Nat) (P : PortV) : Bool := plB P.link (N.links.length : Int) && (decide ((N.links.getD P.link.toNat LinkV.zero).a = (i : Int)) || decide ((N.links.getD P.link.toNat LinkV.zero).b = (i : Int)))
theorem pt_ok {N : NV} {i : Nat} {P : PortV} (h1 : pt1B N P = true) (h2 : pt2B N P = true) (hd : ∀ j, j < P.tagged.length → 0 ≤ atF N P.dev (P.tagged.getD j 0)) (h3 : P.link = -1 ∨ pt3B N i P = true) : PortOk N i P := by
  simp only [pt1B, pt2B, pt3B, Bool.and_eq_true, Bool.or_eq_true, decide_eq_true_eq, Bool.not_eq_true', Bool.and_eq_false_iff, decide_eq_false_iff_not] at h1 h2 h3
  obtain ⟨a1, a2, a3, a4, a5⟩ := h1
  obtain ⟨b1, b2⟩ := h2
  exact ⟨a1, a2, a3, a4, a5, fun g => by rcases b1 with b | b; exact b g.1; exact b g.2, fun g => by rcases b2 with b | b; exact absurd g b; omega, hd, h3⟩
theorem pt_no1 {N : NV} {i : Nat} {P : PortV} (h : pt1B N P = false) : ¬ PortOk N i P := fun g => by
  have e : pt1B N P = true := by simp only [pt1B, g.dev, g.tag, g.out, decide_eq_true g.lo, decide_eq_true g.hi]; rfl
  rw [h] at e; cases e
theorem pt_no2 {N : NV} {i : Nat} {P : PortV} (h : pt2B N P = false) : ¬ PortOk N i P := fun g => by
  have e : pt2B N P = true := by
    simp only [pt2B, Bool.and_eq_true, Bool.not_eq_true', Bool.and_eq_false_iff, decide_eq_false_iff_not]
    refine ⟨?_, ?_⟩
    · by_cases e : P.native = 0
      · exact .inr fun e2 => g.one ⟨e, e2⟩
      · exact .inl e
    · by_cases e : 0 < P.native
      · right; have := g.dom e; omega
      · exact .inl e
  rw [h] at e; cases e
theorem pt_no3 {N : NV} {i : Nat} {P : PortV} (hl : P.link ≠ -1) (h : pt3B N i P = false) : ¬ PortOk N i P := fun g => by
  rcases g.link with e | e
  · exact hl e
  · have e2 : pt3B N i P = true := by simp only [pt3B, Bool.and_eq_true, Bool.or_eq_true, decide_eq_true_eq]; exact e
    rw [h] at e2; cases e2
end Go.Proofs.Ytocobjekcdabgaa
