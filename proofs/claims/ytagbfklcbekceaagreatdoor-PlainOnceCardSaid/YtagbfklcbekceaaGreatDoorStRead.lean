/- The contract of palingref11.Read, the words gone through. -/
import Derived.Test.YtagbfklcbekceaaGreatDoorStRes
import Derived.Test.YtagbfklcbekceaaGreatDoorStPut
namespace Go.Proofs.YtagbfklcbekceaaGreatDoor
open Go.RowKit

end Go.Proofs.YtagbfklcbekceaaGreatDoor

