/- The contracts of Take and Put, of packages mac and palingref01. -/
import Derived.Test.YtiafhjjnihpaaaaBytes
namespace Go.Proofs.Ytiafhjjnihpaaaa
open Go.RowKit

/-- the address whose bytes are f's six from at on -/
theorem or_shift (a b : Int) (h0 : 0 ≤ a) (h1 : a < 1099511627776) (h2 : 0 ≤ b) (h3 : b < 256) : bits .or .u64 (a * 256) b = a * 256 + b := by
  obtain ⟨A, rfl⟩ := Int.eq_ofNat_of_zero_le h0
  obtain ⟨B, rfl⟩ := Int.eq_ofNat_of_zero_le h2
  have e := u64_or_nat (A * 256) B (by omega) (by omega)
  have : A * 256 ||| B = A * 256 + B := by
    have := Nat.two_pow_add_eq_or_of_lt (i := 8) (b := B) (by omega) A
    rw [Nat.mul_comm] at this
    exact this.symm
  rw [this] at e
  rw [show (A : Int) * 256 = ((A * 256 : Nat) : Int) by omega, e]
  omega

theorem take_no (a : Option Addr) (len cap : Nat) (i : Int) (w : World) (hl : len ≤ cap) (hc : cap ≤ 9223372036854775807) (h : i < 0 ∨ (len : Int) - 6 < i) :
    Calls Try.prog 19 #[.slice a len cap, .int .i64 i] w fun e w' => e = .returned (.tuple #[.int .u64 0, .bool false]) ∧ w = w' := by
  by_cases h0 : i < 0
  · clear h
    go_enter Try.func19, Try.ntmps19
    go_wp2
    go_ret2
    exact ⟨rfl, rfl⟩
  · have h1 : (len : Int) - 6 < i := by omega
    clear h
    go_enter Try.func19, Try.ntmps19
    go_wp2
    go_ret2
    exact ⟨rfl, rfl⟩

theorem take_yes (b off len cap at_ : Nat) (f : Nat → Int) (w : World) (hl : len ≤ cap) (hcap : cap ≤ 9223372036854775807) (h : at_ + 6 ≤ len)
    (hf : ∀ j, j < 6 → 0 ≤ f j ∧ f j < 256) (hc : ∀ j, j < 6 → w.cell? ⟨b, off + (at_ + j), none⟩ = some (.int .u8 (f j))) :
    Calls Try.prog 19 #[.slice (some ⟨b, off, none⟩) len cap, .int .i64 (at_ : Int)] w fun e w' => e = .returned (.tuple #[.int .u64 (numOf f 6), .bool true]) ∧ w = w' := by
  have HC := Lib.hid hc
  have HF := Lib.hid hf
  clear hc hf
  have ha : (at_ : Int) ≤ (len : Int) - 6 := by omega
  go_enter Try.func19, Try.ntmps19
  go_wp2
  go_loop [6, 17] (fun n i => ∃ k : Nat, k ≤ 6 ∧ i = .int .i64 k ∧ n = .int .u64 (numOf f k)) (fun _ i => 6 - (intOf i).toNat)
  case atStart => exact ⟨0, by omega, rfl, rfl⟩
  case round =>
    obtain ⟨k, hk, rfl, rfl⟩ := hrel
    by_cases hlt : k < 6
    · have hcell := HC.out k hlt
      obtain ⟨f0, f1⟩ := HF.out k hlt
      obtain ⟨n0, n1⟩ := numOf_bd f k (fun j hj => HF.out j (by omega))
      have n2 := pow_le_40 k (by omega)
      have n3 : numOf f k < 1099511627776 := by omega
      have o1 := or_shift (numOf f k) (f k) n0 n3 f0 f1
      clear n1 n2
      go_wp2
      go_round
      case rel => exact ⟨k + 1, by omega, by go_num, rfl⟩
      case measure => simp [intOf]; omega
    · obtain rfl : k = 6 := by omega
      go_wp2
      go_ret2
      exact ⟨rfl, rfl⟩
theorem refTake_no (a : Option Addr) (len cap : Nat) (i : Int) (w : World) (h : i < 0 ∨ (len : Int) - 6 < i) :
    Calls Try.prog 20 #[.slice a len cap, .int .i64 i] w fun e w' => e = .returned (.tuple #[.int .u64 0, .bool false]) ∧ w = w' := by
  by_cases h0 : i < 0
  · clear h
    go_enter Try.func20, Try.ntmps20
    go_wp2
    go_ret2
    exact ⟨rfl, rfl⟩
  · have h1 : (len : Int) - 6 < i := by omega
    clear h
    by_cases h2 : (len : Int) < i
    · go_enter Try.func20, Try.ntmps20
      go_wp2
      go_ret2
      exact ⟨rfl, rfl⟩
    · have h3 : (len : Int) - i < 6 := by omega
      go_enter Try.func20, Try.ntmps20
      go_wp2
      go_ret2
      exact ⟨rfl, rfl⟩

theorem refTake_yes (b off len cap at_ : Nat) (f : Nat → Int) (w : World) (hl : len ≤ cap) (hcap : cap ≤ 9223372036854775807) (h : at_ + 6 ≤ len)
    (hf : ∀ j, j < 6 → 0 ≤ f j ∧ f j < 256) (hc : ∀ j, j < 6 → w.cell? ⟨b, off + (at_ + j), none⟩ = some (.int .u8 (f j))) :
    Calls Try.prog 20 #[.slice (some ⟨b, off, none⟩) len cap, .int .i64 (at_ : Int)] w fun e w' => e = .returned (.tuple #[.int .u64 (numOf f 6), .bool true]) ∧ w = w' := by
  have HC := Lib.hid (show ∀ j, j < 6 → w.cell? ⟨b, off + at_ + j, none⟩ = some (.int .u8 (f j)) from fun j hj => by rw [Nat.add_assoc]; exact hc j hj)
  have HF := Lib.hid hf
  clear hc hf
  have h1 : ¬ (len : Int) < (at_ : Int) := by omega
  have h2 : ¬ (len : Int) - (at_ : Int) < 6 := by omega
  have h3 : (at_ : Int) + 6 ≤ (cap : Int) := by omega
  go_enter Try.func20, Try.ntmps20
  go_wp2_with (go_at_call 26; refine (number_any b (off + at_) 6 _ f _ (by omega) (by omega) HF.out HC.out).mono ?_; rintro e w' ⟨rfl, rfl⟩)

  go_ret2
  exact ⟨rfl, rfl⟩
end Go.Proofs.Ytiafhjjnihpaaaa
