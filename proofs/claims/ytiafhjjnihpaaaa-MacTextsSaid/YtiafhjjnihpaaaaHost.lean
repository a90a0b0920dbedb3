/- Contracts of the small number functions of packages mac and palingref01 (Host, Group, IsHost, byteAt). -/
import Derived.Test.YtiafhjjnihpaaaaRows
import Derived.WalkKit
import Derived.ProofKit
import Derived.Lib.Hide
namespace Go.Proofs.Ytiafhjjnihpaaaa
open Go.RowKit

theorem host_or (a : Int) (h0 : 0 ≤ a) (h1 : a < 4294967296) : bits .or .u64 2199023255552 a = 2199023255552 + a := by
  rw [u64_or _ _ (by omega) (by omega) h0 (by omega)]
  have : (2199023255552 : Int).toNat ||| a.toNat = 2199023255552 + a.toNat := by
    have := Nat.two_pow_add_eq_or_of_lt (i := 41) (b := a.toNat) (by omega) 1
    simpa using this.symm
  rw [this]; omega

theorem mask_48 (m : Int) (h0 : 0 ≤ m) (h1 : m < 18446744073709551616) : bits .and .u64 m 281474976710655 = m % 281474976710656 := by
  rw [u64_and _ _ h0 h1 (by omega) (by omega)]
  have : m.toNat &&& (281474976710655 : Int).toNat = m.toNat % 281474976710656 := Nat.and_two_pow_sub_one_eq_mod m.toNat 48
  rw [this]; omega

theorem bit_40 (m : Nat) : m &&& 1099511627776 = (m / 1099511627776 % 2) * 1099511627776 := by
  apply Nat.eq_of_testBit_eq
  intro i
  rw [Nat.testBit_and, show (1099511627776 : Nat) = 2 ^ 40 from rfl, Nat.testBit_two_pow, Nat.testBit_mul_two_pow]
  by_cases hi : 40 = i
  · subst hi
    rw [Nat.testBit_eq_decide_div_mod_eq]
    simp
  · rcases Nat.lt_or_ge i 40 with h | h
    · simp [hi]; omega
    · have : (m / 2 ^ 40 % 2).testBit (i - 40) = false := Nat.testBit_lt_two_pow (Nat.lt_of_lt_of_le (Nat.mod_lt _ (by decide)) (Nat.pow_le_pow_right (by decide : 0 < 2) (by omega : 1 ≤ i - 40)))
      simp [hi, this]

/-- an address's byte i, the highest first -/
def byt (m : Int) (i : Nat) : Int := m / 256 ^ (5 - i) % 256
theorem byt_lo (m : Int) (i : Nat) : 0 ≤ byt m i := by unfold byt; exact Int.emod_nonneg _ (by decide)
theorem byt_hi (m : Int) (i : Nat) : byt m i < 256 := by unfold byt; exact Int.emod_lt_of_pos _ (by decide)
/-- is the lowest bit of the highest byte 1? -/
def grp (m : Int) : Bool := decide (m / 1099511627776 % 2 = 1)

theorem group_and (m : Int) (h0 : 0 ≤ m) (h1 : m < 18446744073709551616) : (bits .and .u64 m 1099511627776 != 0) = grp m := by
  rw [u64_and _ _ h0 h1 (by omega) (by omega)]
  obtain ⟨n, rfl⟩ := Int.eq_ofNat_of_zero_le h0
  have := bit_40 n
  simp only [Int.toNat_natCast, show (1099511627776 : Int).toNat = 1099511627776 from rfl, this]
  unfold grp
  rw [Bool.eq_iff_iff]; simp; omega

theorem host_any (a : Int) (w : World) (h0 : 0 ≤ a) (h1 : a < 4294967296) :
    Calls Try.prog 17 #[.int .u32 a] w fun e w' => e = .returned (.int .u64 (2199023255552 + a)) ∧ w = w' := by
  have h := host_or a h0 h1
  go_enter Try.func17, Try.ntmps17
  go_wp2
  go_ret
  exact ⟨by simp, rfl⟩

theorem refHost_any (a : Int) (w : World) (h0 : 0 ≤ a) (h1 : a < 4294967296) :
    Calls Try.prog 18 #[.int .u32 a] w fun e w' => e = .returned (.int .u64 (2199023255552 + a)) ∧ w = w' := by
  go_enter Try.func18, Try.ntmps18
  go_wp2
  go_ret
  exact ⟨by simp, rfl⟩

theorem group_any (m : Int) (w : World) (h0 : 0 ≤ m) (h1 : m < 18446744073709551616) :
    Calls Try.prog 15 #[.int .u64 m] w fun e w' => e = .returned (.bool (grp m)) ∧ w = w' := by
  have h := group_and m h0 h1
  go_enter Try.func15, Try.ntmps15
  go_wp2
  go_ret
  exact ⟨by simp, rfl⟩

/-- the ip of a host's address, and whether it is one -/
def isHostB (m : Int) : Bool := decide (2199023255552 + m % 4294967296 = m % 281474976710656)
theorem isHost_any (m : Int) (w : World) (h0 : 0 ≤ m) (h1 : m < 18446744073709551616) :
    Calls Try.prog 13 #[.int .u64 m] w fun e w' => e = .returned (.tuple #[.int .u32 (if isHostB m = true then m % 4294967296 else 0), .bool (isHostB m)]) ∧ w = w' := by
  have h := mask_48 m h0 h1
  by_cases hh : isHostB m = true
  · have hd : ((2199023255552 + m % 4294967296) != (m % 281474976710656)) = false := by
      unfold isHostB at hh; simp at hh; simp [hh]
    rw [hh]
    have hx : Hid (isHostB m = true) := Lib.hid hh
    clear hh
    go_enter Try.func13, Try.ntmps13
    go_wp2_with (go_at_call 17; refine (host_any _ _ (by omega) (by omega)).mono ?_; rintro e w' ⟨rfl, rfl⟩)
    go_ret2
    exact ⟨by simp, rfl⟩
  · have hd : ((2199023255552 + m % 4294967296) != (m % 281474976710656)) = true := by
      unfold isHostB at hh; simp at hh; simp [hh]
    have h2 : isHostB m = false := by simpa using hh
    rw [h2]
    clear hh h2
    go_enter Try.func13, Try.ntmps13
    go_wp2_with (go_at_call 17; refine (host_any _ _ (by omega) (by omega)).mono ?_; rintro e w' ⟨rfl, rfl⟩)
    go_ret2
    exact ⟨by simp, rfl⟩

theorem byteAt_any (m : Int) (k : Nat) (w : World) (hk : k < 6) :
    Calls Try.prog 24 #[.int .u64 m, .int .i64 (k : Int)] w fun e w' => e = .returned (.int .u8 (byt m k)) ∧ w = w' := by
  have key : ∀ (j : Nat), j < 6 → Calls Try.prog 24 #[.int .u64 m, .int .i64 (j : Int)] w fun e w' => e = .returned (.int .u8 (byt m j)) ∧ w = w' := by
    intro j hj
    match j, hj with
    | 0, _ | 1, _ | 2, _ | 3, _ | 4, _ | 5, _ =>
      go_enter Try.func24, Try.ntmps24
      go_wp2
      go_ret
      exact ⟨by simp [byt], rfl⟩
  exact key k hk
end Go.Proofs.Ytiafhjjnihpaaaa
