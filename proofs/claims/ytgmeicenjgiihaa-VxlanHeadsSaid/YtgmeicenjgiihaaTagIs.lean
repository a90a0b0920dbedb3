/- The contract of tag.Is. -/
import Derived.Test.YtgmeicenjgiihaaBase
namespace Go.Proofs.Ytgmeicenjgiihaa
open Go.RowKit

theorem is_any (D S T : Int) (A : Option Addr) (n c : Nat) (w : World) :
    Calls Try.prog 21 #[.agg #[.int .u64 D, .int .u64 S, .int .i64 T, .slice A n c]] w fun e w' => e = .returned (.bool (T == 33024)) ∧ Below w.heap.size w w' := by
  go_enter Try.func21, Try.ntmps21
  go_wp2
  go_ret
  exact ⟨rfl, (Below.refl _ _).alloc (Nat.le_refl _) _⟩
theorem is_as (D S T : Int) (A : Option Addr) (n c : Nat) (w : World) (v : Bool) (h : (T == 33024) = v) :
    Calls Try.prog 21 #[.agg #[.int .u64 D, .int .u64 S, .int .i64 T, .slice A n c]] w fun e w' => e = .returned (.bool v) ∧ Below w.heap.size w w' := by
  rw [← h]
  exact is_any D S T A n c w
end Go.Proofs.Ytgmeicenjgiihaa
