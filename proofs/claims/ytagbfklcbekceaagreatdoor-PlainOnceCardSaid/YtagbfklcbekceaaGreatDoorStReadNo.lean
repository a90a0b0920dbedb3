/- The contract of palingref11.Read, where there are no letters. -/
import Derived.Test.YtagbfklcbekceaaGreatDoorStRes
namespace Go.Proofs.YtagbfklcbekceaaGreatDoor
open Go.RowKit

theorem fm_len (ws : List (List UInt8)) : (fmV ws).length ≤ 6 := by
  unfold fmV
  by_cases h0 : ws = []
  · rw [if_pos h0]; decide
  rw [if_neg h0]
  by_cases h1 : kdV (wat ws 0) = 1
  · rw [if_pos h1]; decide
  rw [if_neg h1]
  by_cases h3 : kdV (wat ws 0) = 3
  · rw [if_pos h3]; decide
  rw [if_neg h3]
  by_cases h4 : kdV (wat ws 0) = 4
  · rw [if_pos h4]; decide
  rw [if_neg h4]
  by_cases h5 : kdV (wat ws 0) = 5
  · rw [if_pos h5]; decide
  rw [if_neg h5]
  by_cases h6 : kdV (wat ws 0) = 6
  · rw [if_pos h6]; decide
  rw [if_neg h6]
  by_cases h7 : kdV (wat ws 0) = 7
  · rw [if_pos h7]; decide
  rw [if_neg h7]
  by_cases h8 : kdV (wat ws 0) = 8
  · rw [if_pos h8]; decide
  rw [if_neg h8]
  by_cases h9 : kdV (wat ws 0) = 9
  · rw [if_pos h9]; decide
  rw [if_neg h9]
  by_cases h2 : kdV (wat ws 0) = 2
  · rw [if_pos h2]
    by_cases g : ws.length = 7 ∧ ¬ wat ws 4 = sAccess
    · rw [if_pos g]; decide
    rw [if_neg g]
    by_cases g2 : ws.length = 6 ∧ ¬ wat ws 4 = sTrunk
    · rw [if_pos g2]; decide
    rw [if_neg g2]; decide
  · rw [if_neg h2]; decide
end Go.Proofs.YtagbfklcbekceaaGreatDoor
