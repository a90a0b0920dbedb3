/- The contract of palingref15.Same: are two nets alike in all? (Made by mk-ntsame.py.) -/
import Derived.Test.YtocobjekcdabgaaNtTops
import Derived.Test.YtocobjekcdabgaaNtInts
import Derived.RegionTactic
namespace Go.Proofs.Ytocobjekcdabgaa
open Go.RowKit

theorem port_ext {X Y : PortV} (h0 : X.row = Y.row) (h1 : X.dev = Y.dev) (h2 : X.native = Y.native) (h3 : X.cost = Y.cost) (h4 : X.link = Y.link) (h5 : X.name = Y.name) (h6 : X.tagged = Y.tagged) : X = Y := by
  cases X
  cases Y
  simp_all
theorem dom_ext {X Y : DomV} (h0 : X.dev = Y.dev) (h1 : X.vlan = Y.vlan) (h2 : X.vni = Y.vni) (h3 : X.irb = Y.irb) (h4 : X.row = Y.row) (h5 : X.peers = Y.peers) : X = Y := by
  cases X
  cases Y
  simp_all
theorem flood_ext {X Y : FloodV} (h0 : X.row = Y.row) (h1 : X.dev = Y.dev) (h2 : X.vni = Y.vni) (h3 : X.addrs = Y.addrs) : X = Y := by
  cases X
  cases Y
  simp_all
theorem vrf_ext {X Y : VrfV} (h0 : X.row = Y.row) (h1 : X.dev = Y.dev) (h2 : X.name = Y.name) (h3 : X.imports = Y.imports) (h4 : X.exports = Y.exports) : X = Y := by
  cases X
  cases Y
  simp_all
/-- alike? -/
noncomputable def nsmB (N M : NV) : Bool := @decide (N = M) (Classical.propDecidable _)
theorem nsmB_no {N M : NV} (h : ¬ N = M) : nsmB N M = false := by
  unfold nsmB
  exact @decide_eq_false _ (Classical.propDecidable _) h
theorem nsmB_yes {N M : NV} (h : N = M) : nsmB N M = true := by
  unfold nsmB
  exact @decide_eq_true _ (Classical.propDecidable _) h
theorem nsmB_iff (N M : NV) : nsmB N M = true ↔ N = M := by
  unfold nsmB
  exact @decide_eq_true_iff _ (Classical.propDecidable _)
theorem nv_ext {N M : NV} (ht : topsOk N M) (h1 : N.ports = M.ports) (h2 : N.domains = M.domains) (h3 : N.floods = M.floods) (h4 : N.vrfs = M.vrfs) : N = M := by
  obtain ⟨a, b, c, d⟩ := ht
  cases N
  cases M
  simp_all
theorem tops_of {N M : NV} (h : N = M) : topsOk N M := by subst h; exact ⟨rfl, rfl, rfl, rfl⟩
end Go.Proofs.Ytocobjekcdabgaa
