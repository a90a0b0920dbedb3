/- Blocks that hold numbers (ints, uint32s): told by their element type. -/
import Derived.Test.YtnpembgchmmbjaaKeep
namespace Go.Proofs.Ytnpembgchmmbjaa
open Go.RowKit

/-- a block that holds numbers -/
def TyI (w : World) (b : Nat) : Prop := ∃ cur T, w.heap[b]? = some (.cells cur T) ∧ (T = 3 ∨ T = 53)
theorem TyI.lt {w : World} {b : Nat} (h : TyI w b) : b < w.heap.size := by
  obtain ⟨cur, T, h, _⟩ := h
  rcases Nat.lt_or_ge b w.heap.size with h' | h'
  · exact h'
  · rw [Array.getElem?_eq_none h'] at h; cases h
theorem TyI.same {w w' : World} {b : Nat} (h : TyI w b) (e : w'.heap[b]? = w.heap[b]?) : TyI w' b := by
  obtain ⟨cur, T, h, g⟩ := h
  exact ⟨cur, T, e.trans h, g⟩
theorem TyI.below {w w' : World} {b : Nat} (h : TyI w b) (hb : Below w.heap.size w w') : TyI w' b := h.same (hb.block b h.lt)
theorem TyI.live {w : World} {b : Nat} (h : TyI w b) (o : Nat) : w.frozen? ⟨b, o, none⟩ = false := by
  obtain ⟨cur, T, h, _⟩ := h
  simp [World.frozen?, h]
theorem own_ty {w : World} {B : Nat} {e : TypeId} {A : Option Addr} {n m c sz : Nat} {xs : List Value} (h : w.ownsRow B e sz (.slice A n c) m xs) (he : e = 3 ∨ e = 53) : ∀ ad, A = some ad → B ≤ ad.block ∧ TyI w ad.block := fun ad hA => by
  rcases h.2 with ⟨hv, _⟩ | ⟨g, cap, cur, hv, hB, hh, _⟩
  · injection hv with e1; rw [hA] at e1; cases e1
  · injection hv with e1
    rw [hA] at e1
    cases e1
    exact ⟨hB, cur, e, hh, he⟩
end Go.Proofs.Ytnpembgchmmbjaa
