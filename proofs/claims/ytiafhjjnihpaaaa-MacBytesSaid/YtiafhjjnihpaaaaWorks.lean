/- The contract of works, the chapter's examples: they hold. -/
import Derived.Test.YtiafhjjnihpaaaaRead
namespace Go.Proofs.Ytiafhjjnihpaaaa
open Go.RowKit

abbrev ex1 : ByteArray := ⟨#[48, 48, 58, 48, 48, 58, 48, 48, 58, 48, 48, 58, 48, 97, 58, 98, 99]⟩
abbrev ex2 : ByteArray := ⟨#[48, 50, 58, 48, 48, 58, 48, 48, 58, 48, 48, 58, 48, 48, 58, 48, 49]⟩
theorem ex1_text : strOf (textPre 2748 6) = ex1 := by decide +kernel
theorem ex2_text : strOf (textPre 2199023255553 6) = ex2 := by decide +kernel
theorem ex1_rdB : rdB ex1 = true := by decide +kernel
theorem ex1_rdV : rdV ex1 = 2748 := by decide +kernel

theorem read_ex (w : World) : Calls Try.prog 8 #[.string ex1] w fun e w' => e = .returned (.tuple #[.int .u64 2748, .bool true]) ∧ w = w' := by
  have h := read_any ex1 w
  rw [ex1_rdB, ex1_rdV] at h
  exact h
theorem text_ex1 (w : World) : Calls Try.prog 10 #[.int .u64 2748] w fun e w' => e = .returned (.string ex1) ∧ Below w.heap.size w w' := by
  have h := text_any 2748 w
  rw [ex1_text] at h
  exact h
theorem text_ex2 (w : World) : Calls Try.prog 10 #[.int .u64 2199023255553] w fun e w' => e = .returned (.string ex2) ∧ Below w.heap.size w w' := by
  have h := text_any 2199023255553 w
  rw [ex2_text] at h
  exact h
theorem host_ex (w : World) : Calls Try.prog 17 #[.int .u32 1] w fun e w' => e = .returned (.int .u64 2199023255553) ∧ w = w' := by
  have h := host_any 1 w (by decide) (by decide)
  exact h
theorem group_ex (w : World) : Calls Try.prog 15 #[.int .u64 281474976710655] w fun e w' => e = .returned (.bool true) ∧ w = w' := by
  have h := group_any 281474976710655 w (by decide) (by decide)
  exact h

set_option maxRecDepth 100000 in
theorem works_any (w : World) : Calls Try.prog 12 #[] w fun e w' => e = .returned (.bool true) ∧ Below w.heap.size w w' := by
  go_enter Try.func12, Try.ntmps12
  go_wp2_with (first
    | (go_at_call 8; refine (read_ex _).mono ?_; rintro e w' ⟨rfl, rfl⟩)
    | (go_at_call 10; (with_reducible refine (text_ex1 _).mono ?_); rintro e w1 ⟨rfl, hb1⟩)
    | (go_at_call 10; (with_reducible refine (text_ex2 _).mono ?_); rintro e w2 ⟨rfl, hb2⟩)
    | (go_at_call 17; refine (host_ex _).mono ?_; rintro e w' ⟨rfl, rfl⟩)
    | (go_at_call 15; refine (group_ex _).mono ?_; rintro e w' ⟨rfl, rfl⟩))
  go_ret
  exact ⟨rfl, hb1.trans (hb2.mono hb1.size)⟩
end Go.Proofs.Ytiafhjjnihpaaaa
