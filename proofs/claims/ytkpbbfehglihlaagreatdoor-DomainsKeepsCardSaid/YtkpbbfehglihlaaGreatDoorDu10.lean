/- Only what the statement at hand leans on. -/
import Derived.Test.YtkpbbfehglihlaaGreatDoorDu05
import Derived.Test.YtkpbbfehglihlaaGreatDoorDu09
/- A call of a function value whose number is unknown: it is entered with its arguments, and then what it has captured. Places of lists. -/
namespace Go.Proofs.YtkpbbfehglihlaaGreatDoor
open Go.RowKit

/-- a function that can be entered -/
def Enters (P : Program) (f : FuncId) : Prop := ∀ args w, (callFunc f args).run P w = .ok (.enter f args) w
theorem enters_of {P : Program} {f : FuncId} {fn : Func} {c : Code} (hf : P.funcs[f]? = some fn) (hname : (fn.name == "runtime.NumGoroutine") = false) (hb : fn.body = some c) : Enters P f := fun args w => by
  have h2 : ¬ fn.name = "runtime.NumGoroutine" := by simpa using hname
  unfold callFunc
  simp [go_sem, hf, h2, hb]
set_option maxRecDepth 20000 in
theorem place_dev (i : Int) (A : Option Addr) (n c : Nat) (_hle : n ≤ c) (_hcap : c ≤ 9223372036854775807) (w : World) : Calls Tryz.prog 123 #[.int .i64 i, .slice A n c] w fun e w' => e = .returned (.bool (plB i (n : Int))) ∧ w = w' := by
  unfold plB
  by_cases h0 : 0 ≤ i
  · by_cases h1 : i < (n : Int)
    · have e : (decide (0 ≤ i) && decide (i < (n : Int))) = true := by simp; omega
      rw [e]
      go_enter Tryz.func123, Tryz.ntmps123
      go_wp2
      go_ret
      exact ⟨rfl, rfl⟩
    · have e : (decide (0 ≤ i) && decide (i < (n : Int))) = false := by simp; omega
      rw [e]
      go_enter Tryz.func123, Tryz.ntmps123
      go_wp2
      go_ret
      exact ⟨rfl, rfl⟩
  · have e : (decide (0 ≤ i) && decide (i < (n : Int))) = false := by simp; omega
    rw [e]
    go_enter Tryz.func123, Tryz.ntmps123
    go_wp2
    go_ret
    exact ⟨rfl, rfl⟩
set_option maxRecDepth 20000 in
theorem place_port (i : Int) (A : Option Addr) (n c : Nat) (_hle : n ≤ c) (_hcap : c ≤ 9223372036854775807) (w : World) : Calls Tryz.prog 131 #[.int .i64 i, .slice A n c] w fun e w' => e = .returned (.bool (plB i (n : Int))) ∧ w = w' := by
  unfold plB
  by_cases h0 : 0 ≤ i
  · by_cases h1 : i < (n : Int)
    · have e : (decide (0 ≤ i) && decide (i < (n : Int))) = true := by simp; omega
      rw [e]
      go_enter Tryz.func131, Tryz.ntmps131
      go_wp2
      go_ret
      exact ⟨rfl, rfl⟩
    · have e : (decide (0 ≤ i) && decide (i < (n : Int))) = false := by simp; omega
      rw [e]
      go_enter Tryz.func131, Tryz.ntmps131
      go_wp2
      go_ret
      exact ⟨rfl, rfl⟩
  · have e : (decide (0 ≤ i) && decide (i < (n : Int))) = false := by simp; omega
    rw [e]
    go_enter Tryz.func131, Tryz.ntmps131
    go_wp2
    go_ret
    exact ⟨rfl, rfl⟩
set_option maxRecDepth 20000 in
theorem place_link (i : Int) (A : Option Addr) (n c : Nat) (_hle : n ≤ c) (_hcap : c ≤ 9223372036854775807) (w : World) : Calls Tryz.prog 127 #[.int .i64 i, .slice A n c] w fun e w' => e = .returned (.bool (plB i (n : Int))) ∧ w = w' := by
  unfold plB
  by_cases h0 : 0 ≤ i
  · by_cases h1 : i < (n : Int)
    · have e : (decide (0 ≤ i) && decide (i < (n : Int))) = true := by simp; omega
      rw [e]
      go_enter Tryz.func127, Tryz.ntmps127
      go_wp2
      go_ret
      exact ⟨rfl, rfl⟩
    · have e : (decide (0 ≤ i) && decide (i < (n : Int))) = false := by simp; omega
      rw [e]
      go_enter Tryz.func127, Tryz.ntmps127
      go_wp2
      go_ret
      exact ⟨rfl, rfl⟩
  · have e : (decide (0 ≤ i) && decide (i < (n : Int))) = false := by simp; omega
    rw [e]
    go_enter Tryz.func127, Tryz.ntmps127
    go_wp2
    go_ret
    exact ⟨rfl, rfl⟩
set_option maxRecDepth 20000 in
theorem place_dom (i : Int) (A : Option Addr) (n c : Nat) (_hle : n ≤ c) (_hcap : c ≤ 9223372036854775807) (w : World) : Calls Tryz.prog 110 #[.int .i64 i, .slice A n c] w fun e w' => e = .returned (.bool (plB i (n : Int))) ∧ w = w' := by
  unfold plB
  by_cases h0 : 0 ≤ i
  · by_cases h1 : i < (n : Int)
    · have e : (decide (0 ≤ i) && decide (i < (n : Int))) = true := by simp; omega
      rw [e]
      go_enter Tryz.func110, Tryz.ntmps110
      go_wp2
      go_ret
      exact ⟨rfl, rfl⟩
    · have e : (decide (0 ≤ i) && decide (i < (n : Int))) = false := by simp; omega
      rw [e]
      go_enter Tryz.func110, Tryz.ntmps110
      go_wp2
      go_ret
      exact ⟨rfl, rfl⟩
  · have e : (decide (0 ≤ i) && decide (i < (n : Int))) = false := by simp; omega
    rw [e]
    go_enter Tryz.func110, Tryz.ntmps110
    go_wp2
    go_ret
    exact ⟨rfl, rfl⟩
set_option maxRecDepth 20000 in
theorem place_vrf (i : Int) (A : Option Addr) (n c : Nat) (_hle : n ≤ c) (_hcap : c ≤ 9223372036854775807) (w : World) : Calls Tryz.prog 136 #[.int .i64 i, .slice A n c] w fun e w' => e = .returned (.bool (plB i (n : Int))) ∧ w = w' := by
  unfold plB
  by_cases h0 : 0 ≤ i
  · by_cases h1 : i < (n : Int)
    · have e : (decide (0 ≤ i) && decide (i < (n : Int))) = true := by simp; omega
      rw [e]
      go_enter Tryz.func136, Tryz.ntmps136
      go_wp2
      go_ret
      exact ⟨rfl, rfl⟩
    · have e : (decide (0 ≤ i) && decide (i < (n : Int))) = false := by simp; omega
      rw [e]
      go_enter Tryz.func136, Tryz.ntmps136
      go_wp2
      go_ret
      exact ⟨rfl, rfl⟩
  · have e : (decide (0 ≤ i) && decide (i < (n : Int))) = false := by simp; omega
    rw [e]
    go_enter Tryz.func136, Tryz.ntmps136
    go_wp2
    go_ret
    exact ⟨rfl, rfl⟩
set_option maxRecDepth 20000 in
theorem place_irb (i : Int) (A : Option Addr) (n c : Nat) (_hle : n ≤ c) (_hcap : c ≤ 9223372036854775807) (w : World) : Calls Tryz.prog 132 #[.int .i64 i, .slice A n c] w fun e w' => e = .returned (.bool (plB i (n : Int))) ∧ w = w' := by
  unfold plB
  by_cases h0 : 0 ≤ i
  · by_cases h1 : i < (n : Int)
    · have e : (decide (0 ≤ i) && decide (i < (n : Int))) = true := by simp; omega
      rw [e]
      go_enter Tryz.func132, Tryz.ntmps132
      go_wp2
      go_ret
      exact ⟨rfl, rfl⟩
    · have e : (decide (0 ≤ i) && decide (i < (n : Int))) = false := by simp; omega
      rw [e]
      go_enter Tryz.func132, Tryz.ntmps132
      go_wp2
      go_ret
      exact ⟨rfl, rfl⟩
  · have e : (decide (0 ≤ i) && decide (i < (n : Int))) = false := by simp; omega
    rw [e]
    go_enter Tryz.func132, Tryz.ntmps132
    go_wp2
    go_ret
    exact ⟨rfl, rfl⟩
end Go.Proofs.YtkpbbfehglihlaaGreatDoor

