/- The contracts of palingref03.Ints and palingref03.Addrs of any two lists: are they alike? (Made by mk-ntints.py.) -/
import Derived.Test.YtocobjekcdabgaaNtRef1
namespace Go.Proofs.Ytocobjekcdabgaa
open Go.RowKit

theorem num_take (ps qs : List Int) (k : Nat) (h0 : k < ps.length) (h1 : k < qs.length) (g : ps.take k = qs.take k) : ps.take (k + 1) = qs.take (k + 1) ↔ ps.getD k 0 = qs.getD k 0 := by
  have e0 : ps.getD k 0 = ps[k] := by simp [List.getD, h0]
  have e1 : qs.getD k 0 = qs[k] := by simp [List.getD, h1]
  rw [List.take_succ_eq_append_getElem h0, List.take_succ_eq_append_getElem h1, g, e0, e1]
  exact ⟨fun e => by injection List.append_cancel_left e, fun e => by rw [e]⟩
end Go.Proofs.Ytocobjekcdabgaa
