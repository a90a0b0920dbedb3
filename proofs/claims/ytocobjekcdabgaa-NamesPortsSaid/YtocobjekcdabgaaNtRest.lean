/- The contract of palingref15.rest: may statics, floods, VRFs and interfaces be? (Made by mk-ntrest.py.) -/
import Derived.Deep.CutBlock
import Derived.Test.YtocobjekcdabgaaNtPorts
namespace Go.Proofs.Ytocobjekcdabgaa
open Go.RowKit

structure StatOk (N : NV) (T : StatV) : Prop where
  dom : plB T.dom (N.domains.length : Int) = true
  port : plB T.port (N.ports.length : Int) = true
  dev : (N.ports.getD T.port.toNat PortV.zero).dev = (N.domains.getD T.dom.toNat DomV.zero).dev
  mbr : mbrB (N.ports.getD T.port.toNat PortV.zero) (N.domains.getD T.dom.toNat DomV.zero).vlan = true
structure FloodOk (N : NV) (T : FloodV) : Prop where
  dev : plB T.dev (N.devices.length : Int) = true
  most : T.addrs.length ≤ 16
structure VrfOk (N : NV) (T : VrfV) : Prop where
  dev : plB T.dev (N.devices.length : Int) = true
  imp : rsB T.imports 65535 = true
  exp : rsB T.exports 65535 = true
structure IrbOk (N : NV) (i : Nat) (T : IrbV) : Prop where
  dom : plB T.dom (N.domains.length : Int) = true
  vrf : plB T.vrf (N.vrfs.length : Int) = true
  bits : 1 ≤ T.bits ∧ T.bits ≤ 30
  dev : (N.domains.getD T.dom.toNat DomV.zero).dev = (N.vrfs.getD T.vrf.toNat VrfV.zero).dev
  irb : (N.domains.getD T.dom.toNat DomV.zero).irb = (i : Int)
structure RestOk (N : NV) : Prop where
  st : ∀ i, i < N.statics.length → StatOk N (N.statics.getD i StatV.zero)
  fl : ∀ i, i < N.floods.length → FloodOk N (N.floods.getD i FloodV.zero)
  vr : ∀ i, i < N.vrfs.length → VrfOk N (N.vrfs.getD i VrfV.zero)
  ir : ∀ i, i < N.irbs.length → IrbOk N i (N.irbs.getD i IrbV.zero)
noncomputable def rstB (N : NV) : Bool := @decide (RestOk N) (Classical.propDecidable _)
theorem rstB_no {N : NV} (h : ¬ RestOk N) : rstB N = false := by
  unfold rstB
  exact @decide_eq_false _ (Classical.propDecidable _) h
theorem rstB_yes {N : NV} (h : RestOk N) : rstB N = true := by
  unfold rstB
  exact @decide_eq_true _ (Classical.propDecidable _) h
theorem rstB_iff (N : NV) : rstB N = true ↔ RestOk N := by
  unfold rstB
  exact @decide_eq_true_iff _ (Classical.propDecidable _)
end Go.Proofs.Ytocobjekcdabgaa
