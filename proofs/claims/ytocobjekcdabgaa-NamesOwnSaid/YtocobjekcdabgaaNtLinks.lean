/- The contracts of palingref15.links and palingref15.peer: may all links be; may a domain have that peer? (Made by mk-ntlinks.py.) -/
import Derived.Test.YtocobjekcdabgaaNtRef1
import Derived.Test.YtocobjekcdabgaaSeq
import Derived.Deep.DeepCutAuto
namespace Go.Proofs.Ytocobjekcdabgaa
open Go.RowKit

/-- may a link be, at place i? -/
structure LinkOk (N : NV) (i : Nat) (L : LinkV) : Prop where
  a : plB L.a (N.ports.length : Int) = true
  b : plB L.b (N.ports.length : Int) = true
  dev : (N.ports.getD L.a.toNat PortV.zero).dev ≠ (N.ports.getD L.b.toNat PortV.zero).dev
  la : (N.ports.getD L.a.toNat PortV.zero).link = (i : Int)
  lb : (N.ports.getD L.b.toNat PortV.zero).link = (i : Int)
noncomputable def lksB (N : NV) : Bool := @decide (∀ i, i < N.links.length → LinkOk N i (N.links.getD i LinkV.zero)) (Classical.propDecidable _)
theorem lksB_no {N : NV} {i : Nat} (h : i < N.links.length) (hn : ¬ LinkOk N i (N.links.getD i LinkV.zero)) : lksB N = false := by
  unfold lksB
  exact @decide_eq_false _ (Classical.propDecidable _) (fun g => hn (g i h))
theorem lksB_yes {N : NV} (h : ∀ i, i < N.links.length → LinkOk N i (N.links.getD i LinkV.zero)) : lksB N = true := by
  unfold lksB
  exact @decide_eq_true _ (Classical.propDecidable _) h
theorem lksB_iff (N : NV) : lksB N = true ↔ ∀ i, i < N.links.length → LinkOk N i (N.links.getD i LinkV.zero) := by
  unfold lksB
  exact @decide_eq_true_iff _ (Classical.propDecidable _)
end Go.Proofs.Ytocobjekcdabgaa
