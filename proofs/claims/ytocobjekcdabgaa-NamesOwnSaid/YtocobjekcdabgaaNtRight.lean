/- The contract of palingref15.Right: may the net be? (Made by mk-ntright.py.) -/
import Derived.Test.YtocobjekcdabgaaNtDoms
import Derived.Test.YtocobjekcdabgaaNtPorts
import Derived.Test.YtocobjekcdabgaaNtLinks
import Derived.Test.YtocobjekcdabgaaNtRest
namespace Go.Proofs.Ytocobjekcdabgaa
open Go.RowKit

/-- may the net be? -/
structure NetOk (N : NV) : Prop where
  zdv : N.devices.length ≤ 8
  zpt : N.ports.length ≤ 40
  zlk : N.links.length ≤ 20
  zdm : N.domains.length ≤ 48
  zst : N.statics.length ≤ 64
  zfl : N.floods.length ≤ 48
  zvr : N.vrfs.length ≤ 16
  zir : N.irbs.length ≤ 48
  dm : DomsOk N
  pt : ∀ i, i < N.ports.length → PortOk N i (N.ports.getD i PortV.zero)
  lk : ∀ i, i < N.links.length → LinkOk N i (N.links.getD i LinkV.zero)
  rs : RestOk N
noncomputable def netB (N : NV) : Bool := @decide (NetOk N) (Classical.propDecidable _)
theorem netB_no {N : NV} (h : ¬ NetOk N) : netB N = false := by
  unfold netB
  exact @decide_eq_false _ (Classical.propDecidable _) h
theorem netB_yes {N : NV} (h : NetOk N) : netB N = true := by
  unfold netB
  exact @decide_eq_true _ (Classical.propDecidable _) h
theorem netB_iff (N : NV) : netB N = true ↔ NetOk N := by
  unfold netB
  exact @decide_eq_true_iff _ (Classical.propDecidable _)
end Go.Proofs.Ytocobjekcdabgaa
