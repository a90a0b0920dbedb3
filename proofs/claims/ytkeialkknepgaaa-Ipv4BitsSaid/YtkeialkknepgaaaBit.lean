/- One bit of a byte turned. -/
import Derived.Test.YtkeialkknepgaaaBase
namespace Go.Proofs.Ytkeialkknepgaaa
open Go.RowKit

/-- a byte with one bit turned -/
theorem xor_bit (x : Int) (j : Nat) (x0 : 0 ≤ x) (x1 : x < 256) (hj : j < 8) :
    ∃ y, bits .xor .u8 x (2 ^ j % 256) = y ∧ 0 ≤ y ∧ y < 256 ∧ (y = x + 2 ^ j ∨ y = x - 2 ^ j) := by
  obtain ⟨n, rfl⟩ := Int.eq_ofNat_of_zero_le x0
  refine ⟨_, rfl, ?_⟩
  have key : ∀ (i : Fin 256) (k : Fin 8), 0 ≤ bits .xor .u8 ((i.val : Nat) : Int) (2 ^ k.val % 256) ∧ bits .xor .u8 ((i.val : Nat) : Int) (2 ^ k.val % 256) < 256 ∧
      (bits .xor .u8 ((i.val : Nat) : Int) (2 ^ k.val % 256) = ((i.val : Nat) : Int) + 2 ^ k.val ∨ bits .xor .u8 ((i.val : Nat) : Int) (2 ^ k.val % 256) = ((i.val : Nat) : Int) - 2 ^ k.val) := by decide +kernel
  exact key ⟨n, by omega⟩ ⟨j, hj⟩
end Go.Proofs.Ytkeialkknepgaaa
