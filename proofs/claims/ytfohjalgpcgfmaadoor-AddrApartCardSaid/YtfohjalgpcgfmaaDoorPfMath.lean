/- Plain facts on prefixes of numbers of 32 bits. -/
import Derived.Test.YtfohjalgpcgfmaaDoorBase
namespace Go.Proofs.YtfohjalgpcgfmaaDoor

theorem tb_high (n i : Nat) (hn : n ≤ 32) : (4294967295 - (2 ^ n - 1)).testBit i = (decide (n ≤ i) && decide (i < 32)) := by
  have h1 : 2 ^ 32 = 2 ^ (32 - n) * 2 ^ n := by rw [← Nat.pow_add, Nat.sub_add_cancel hn]
  have h0 : 1 ≤ 2 ^ n := Nat.one_le_two_pow
  have h2 : 4294967295 - (2 ^ n - 1) = (2 ^ (32 - n) - 1) * 2 ^ n := by
    rw [Nat.sub_mul, ← h1]
    omega
  rw [h2, Nat.testBit_mul_two_pow, Nat.testBit_two_pow_sub_one]
  by_cases h : n ≤ i
  · simp only [h, decide_true, Bool.true_and]
    congr 1
    apply propext
    omega
  · simp [h]
theorem tb_cut (x n i : Nat) : (x / 2 ^ n * 2 ^ n).testBit i = (decide (n ≤ i) && x.testBit i) := by
  rw [Nat.testBit_mul_two_pow]
  by_cases h : n ≤ i
  · simp only [h, decide_true, Bool.true_and]
    rw [Nat.testBit_div_two_pow, Nat.sub_add_cancel h]
  · simp [h]
theorem lt_tb {x : Nat} (hx : x < 4294967296) (i : Nat) (hi : ¬ i < 32) : x.testBit i = false :=
  Nat.testBit_lt_two_pow (Nat.lt_of_lt_of_le (show x < 2 ^ 32 from hx) (Nat.pow_le_pow_right (by decide) (by omega)))
theorem and_high (x n : Nat) (hx : x < 4294967296) (hn : n ≤ 32) : x &&& (4294967295 - (2 ^ n - 1)) = x / 2 ^ n * 2 ^ n := by
  apply Nat.eq_of_testBit_eq
  intro i
  rw [Nat.testBit_and, tb_high n i hn, tb_cut]
  by_cases h : i < 32
  · simp [h, Bool.and_comm]
  · simp [lt_tb hx i h]
theorem or_low (x n : Nat) : x ||| (2 ^ n - 1) = x / 2 ^ n * 2 ^ n + (2 ^ n - 1) := by
  have h0 : 1 ≤ 2 ^ n := Nat.one_le_two_pow
  have e := Nat.two_pow_add_eq_or_of_lt (i := n) (b := 2 ^ n - 1) (by omega) (x / 2 ^ n)
  rw [Nat.mul_comm] at e
  rw [e]
  apply Nat.eq_of_testBit_eq
  intro i
  rw [Nat.testBit_or, Nat.testBit_or, tb_cut, Nat.testBit_two_pow_sub_one]
  by_cases h : n ≤ i
  · simp [h]
  · simp [h]; intro _; omega
theorem xor_high (x y n : Nat) (hx : x < 4294967296) (hy : y < 4294967296) (hn : n ≤ 32) : ((x ^^^ y) &&& (4294967295 - (2 ^ n - 1)) = 0) ↔ x / 2 ^ n = y / 2 ^ n := by
  have hxy : x ^^^ y < 4294967296 := Nat.xor_lt_two_pow (n := 32) hx hy
  rw [and_high _ n hxy hn]
  constructor
  · intro h
    apply Nat.eq_of_testBit_eq
    intro i
    have h2 := congrArg (fun z => z.testBit (i + n)) h
    simp only [tb_cut, Nat.testBit_xor, Nat.zero_testBit] at h2
    rw [Nat.testBit_div_two_pow, Nat.testBit_div_two_pow]
    have h3 : decide (n ≤ i + n) = true := by simp
    rw [h3, Bool.true_and] at h2
    cases ha : x.testBit (i + n) <;> cases hb : y.testBit (i + n) <;> simp [ha, hb] at h2 ⊢
  · intro h
    apply Nat.eq_of_testBit_eq
    intro i
    rw [tb_cut, Nat.testBit_xor, Nat.zero_testBit]
    by_cases hi : n ≤ i
    · have h2 := congrArg (fun z => z.testBit (i - n)) h
      simp only [Nat.testBit_div_two_pow, Nat.sub_add_cancel hi] at h2
      simp [h2]
    · simp [hi]

/-- how many addresses a prefix of b bits has -/
def sz (b : Nat) : Nat := 2 ^ (32 - b)
theorem sz_pos (b : Nat) : 1 ≤ sz b := Nat.one_le_two_pow
theorem sz_le (b : Nat) : sz b ≤ 4294967296 := by
  have h : 2 ^ (32 - b) ≤ 2 ^ 32 := Nat.pow_le_pow_right (by decide) (Nat.sub_le 32 b)
  exact h
/-- the least and the greatest address of a prefix -/
def fsN (a b : Nat) : Nat := a / sz b * sz b
def lsN (a b : Nat) : Nat := a / sz b * sz b + (sz b - 1)
theorem fsN_le (a b : Nat) : fsN a b ≤ a := Nat.div_mul_le_self a (sz b)
theorem lsN_ge (a b : Nat) : a ≤ lsN a b := by
  have h1 := Nat.div_add_mod a (sz b)
  have h2 := Nat.mod_lt a (sz_pos b)
  rw [Nat.mul_comm] at h1
  unfold lsN
  omega
theorem sz_dvd (b : Nat) : sz b ∣ 4294967296 := ⟨2 ^ (32 - (32 - b)), by rw [sz, ← Nat.pow_add]; rw [show 32 - b + (32 - (32 - b)) = 32 by omega]⟩
theorem lsN_lt (a b : Nat) (h : a < 4294967296) : lsN a b < 4294967296 := by
  obtain ⟨k, hk⟩ := sz_dvd b
  have h0 := sz_pos b
  have h1 : a / sz b < k := by
    rw [Nat.div_lt_iff_lt_mul h0, Nat.mul_comm, ← hk]; exact h
  have h2 : (a / sz b + 1) * sz b ≤ k * sz b := Nat.mul_le_mul_right _ h1
  rw [Nat.mul_comm k, ← hk, Nat.add_mul] at h2
  unfold lsN
  omega
/-- a prefix has an address just if it is between its least and its greatest one -/
theorem has_iff (a b x : Nat) : x / sz b = a / sz b ↔ fsN a b ≤ x ∧ x ≤ lsN a b := by
  have h0 := sz_pos b
  unfold fsN lsN
  constructor
  · intro h
    rw [← h]
    exact ⟨fsN_le x b, lsN_ge x b⟩
  · rintro ⟨h1, h2⟩
    have h3 : a / sz b ≤ x / sz b := (Nat.le_div_iff_mul_le h0).2 h1
    have h4 : x / sz b < a / sz b + 1 := by
      rw [Nat.div_lt_iff_lt_mul h0, Nat.add_mul]
      omega
    omega
/-- what is within a shorter prefix -/
theorem sz_more (b c : Nat) (h : b ≤ c) (hc : c ≤ 32) : sz b = sz c * 2 ^ (c - b) := by
  unfold sz
  rw [← Nat.pow_add]
  congr 1
  omega
theorem div_more_pf (x b c : Nat) (h : b ≤ c) (hc : c ≤ 32) : x / sz b = x / sz c / 2 ^ (c - b) := by
  rw [sz_more b c h hc, Nat.div_div_eq_div_mul]

/-! The answers. A prefix: its address A and its number of bits B. -/
def RT (B : Int) : Bool := decide (0 ≤ B ∧ B ≤ 32)
def FS (A B : Int) : Int := if RT B = true then (fsN A.toNat B.toNat : Nat) else 0
def LS (A B : Int) : Int := if RT B = true then (lsN A.toNat B.toNat : Nat) else 0
def HS (A B x : Int) : Bool := RT B && decide (x.toNat / sz B.toNat = A.toNat / sz B.toNat)
def WI (A B A2 B2 : Int) : Bool := RT B && decide (B2 ≤ B) && HS A2 B2 A
theorem RT_iff (B : Int) : RT B = true ↔ 0 ≤ B ∧ B ≤ 32 := by simp [RT]
theorem RT_nat {B : Int} (h : RT B = true) : ∃ b : Nat, B = (b : Int) ∧ b ≤ 32 := by
  obtain ⟨h1, h2⟩ := (RT_iff B).1 h
  exact ⟨B.toNat, by omega, by omega⟩
theorem free_eq (b : Nat) (h : b ≤ 32) : (4294967295 : Int) / 2 ^ b = ((sz b - 1 : Nat) : Int) := by
  have : ∀ i : Fin 33, (4294967295 : Int) / 2 ^ i.val = ((sz i.val - 1 : Nat) : Int) := by decide +kernel
  exact this ⟨b, by omega⟩
end Go.Proofs.YtfohjalgpcgfmaaDoor
