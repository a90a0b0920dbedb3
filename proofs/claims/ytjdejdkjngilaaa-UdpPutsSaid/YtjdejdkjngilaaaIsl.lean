/- A slice of integers that reads as a list, nil or not. -/
import Derived.Test.YtjdejdkjngilaaaBase
namespace Go.Proofs.Ytjdejdkjngilaaa
open Go.RowKit

/-- The slice's elements read as the numbers xs. -/
def ISl (w : World) (k : IntKind) (A : Option Addr) (n c : Nat) (xs : List Int) : Prop :=
  xs.length = n ∧ n ≤ c ∧ c ≤ maxLen ∧ (0 < n → ∃ b off, A = some ⟨b, off, none⟩ ∧ b < w.heap.size ∧ ∀ j, j < n → w.cell? ⟨b, off + j, none⟩ = some (.int k (xs.getD j 0)))
section
variable {w w' : World} {k : IntKind} {A : Option Addr} {n c : Nat} {xs : List Int}
theorem ISl.below (h : ISl w k A n c xs) (hb : Below w.heap.size w w') : ISl w' k A n c xs :=
  ⟨h.1, h.2.1, h.2.2.1, fun hn => by
    obtain ⟨b, off, e, hl, hc⟩ := h.2.2.2 hn
    exact ⟨b, off, e, Nat.lt_of_lt_of_le hl hb.size, fun j hj => (hb.cell (p := ⟨b, off + j, none⟩) hl).trans (hc j hj)⟩⟩
theorem ISl.alloc (h : ISl w k A n c xs) (o : Obj) : ISl (w.alloc o) k A n c xs := h.below ((Below.refl _ _).alloc (Nat.le_refl _) o)
theorem ISl.drewN (h : ISl w k A n c xs) (m : Nat) : ISl (w.drewN m) k A n c xs := h
theorem ISl.drew (h : ISl w k A n c xs) (hd : Drew w w') : ISl w' k A n c xs := by obtain ⟨m, rfl⟩ := hd; exact h
theorem ISl.nil : ISl w k none 0 0 [] := ⟨rfl, Nat.le_refl _, Nat.zero_le _, fun h => absurd h (by omega)⟩
theorem ISl.le (h : ISl w k A n c xs) : n ≤ c := h.2.1
theorem ISl.len (h : ISl w k A n c xs) : xs.length = n := h.1
theorem ISl.cap (h : ISl w k A n c xs) : c ≤ 9223372036854775807 := by have := h.2.2.1; unfold maxLen at this; omega
theorem ISl.of_own {B : Nat} {e : TypeId} (h : w.ownsRow B e 1 (.slice A n c) n (xs.map (Value.int k))) : ISl w k A n c xs := by
  have hl := h.1
  rw [List.length_map, Nat.mul_one] at hl
  rcases h.2 with ⟨hv, hn⟩ | ⟨g, cap, cur, hv, hB, hh, hnc, hm, _⟩
  · injection hv with h1 h2 h3
    subst h1 h3 hn
    exact ⟨hl, Nat.le_refl _, Nat.zero_le _, fun h => absurd h (by omega)⟩
  · injection hv with h1 h2 h3
    subst h1 h3
    refine ⟨hl, hnc, hm, fun hn => ⟨g, 0, rfl, ?_, fun j hj => ?_⟩⟩
    · rcases Nat.lt_or_ge g w.heap.size with h' | h'
      · exact h'
      · rw [Array.getElem?_eq_none h'] at hh; cases hh
    · have := h.cells (g := g) rfl j (.int k (xs.getD j 0)) (by simp [List.getD, List.getElem?_eq_getElem (show j < xs.length by omega)])
      rw [← this]
      by_cases h0 : j = 0 <;> simp [Addr.add, h0]
end
end Go.Proofs.Ytjdejdkjngilaaa
