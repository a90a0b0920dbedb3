/- The contract of palingref11.Same at two values of one line. -/
import Derived.Test.YtagbfklcbekceaaGreatDoorStPut
import Derived.Test.YtagbfklcbekceaaGreatDoorRef3
import Derived.RegionTactic
namespace Go.Proofs.YtagbfklcbekceaaGreatDoor
open Go.RowKit

theorem drew_drewN (w : World) (m : Nat) : Drew w (w.drewN m) := ⟨m, rfl⟩
end Go.Proofs.YtagbfklcbekceaaGreatDoor
