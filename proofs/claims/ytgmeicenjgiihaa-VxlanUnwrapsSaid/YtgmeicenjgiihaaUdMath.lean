/- Datagrams as bytes: why bytes are none, what they are put as, and back; a sender's port. -/
import Derived.Test.YtgmeicenjgiihaaBsl
import Derived.Test.YtgmeicenjgiihaaKeep
namespace Go.Proofs.Ytgmeicenjgiihaa
open Go.RowKit
open Go.Lib (byteCells)

/-- why bytes are no datagram, 0 of those that are one -/
def udE (l : List UInt8) : Int := if l.length < 8 then 10 else if two l 4 < 8 then 11 else if (l.length : Int) < two l 4 then 10 else if two l 6 = 0 then 0 else 12
theorem udE_short {l : List UInt8} (h : l.length < 8) : udE l = 10 := by unfold udE; rw [if_pos h]
theorem udE_form {l : List UInt8} (h : ¬ l.length < 8) (h1 : two l 4 < 8) : udE l = 11 := by unfold udE; rw [if_neg h, if_pos h1]
theorem udE_less {l : List UInt8} (h : ¬ l.length < 8) (h1 : ¬ two l 4 < 8) (h2 : (l.length : Int) < two l 4) : udE l = 10 := by unfold udE; rw [if_neg h, if_neg h1, if_pos h2]
theorem udE_sum {l : List UInt8} (h : ¬ l.length < 8) (h1 : ¬ two l 4 < 8) (h2 : ¬ (l.length : Int) < two l 4) (h3 : ¬ two l 6 = 0) : udE l = 12 := by unfold udE; rw [if_neg h, if_neg h1, if_neg h2, if_neg h3]
theorem udE_ok {l : List UInt8} (h : ¬ l.length < 8) (h1 : ¬ two l 4 < 8) (h2 : ¬ (l.length : Int) < two l 4) (h3 : two l 6 = 0) : udE l = 0 := by unfold udE; rw [if_neg h, if_neg h1, if_neg h2, if_pos h3]
theorem udE_zero {l : List UInt8} (h : udE l = 0) : 8 ≤ l.length ∧ 8 ≤ two l 4 ∧ two l 4 ≤ (l.length : Int) ∧ two l 6 = 0 := by
  by_cases h0 : l.length < 8
  · rw [udE_short h0] at h; cases h
  · by_cases h1 : two l 4 < 8
    · rw [udE_form h0 h1] at h; cases h
    · by_cases h2 : (l.length : Int) < two l 4
      · rw [udE_less h0 h1 h2] at h; cases h
      · by_cases h3 : two l 6 = 0
        · exact ⟨by omega, by omega, by omega, h3⟩
        · rw [udE_sum h0 h1 h2 h3] at h; cases h
/-- a datagram's body -/
def udB (l : List UInt8) : List UInt8 := (l.take (two l 4).toNat).drop 8
theorem udB_eq {l : List UInt8} {m : Nat} (h : two l 4 = (m : Int)) : udB l = (l.drop 8).take (m - 8) := by
  unfold udB
  rw [h, show ((m : Int)).toNat = m from Int.toNat_natCast m, List.drop_take]
theorem udB_len {l : List UInt8} (h : udE l = 0) : ((udB l).length : Int) = two l 4 - 8 := by
  obtain ⟨h0, h1, h2, _⟩ := udE_zero h
  unfold udB
  rw [List.length_drop, List.length_take]
  omega
/-- the eight bytes ahead of n bytes of a body -/
def udh (S D : Int) (n : Nat) : List UInt8 := [u8 (S / 256 % 256), u8 (S % 256)] ++ [u8 (D / 256 % 256), u8 (D % 256)] ++ [u8 ((8 + (n : Int)) / 256 % 256), u8 ((8 + (n : Int)) % 256)] ++ [u8 0, u8 0]
theorem udh_len (S D : Int) (n : Nat) : (udh S D n).length = 8 := rfl
/-- a datagram's bytes -/
def uds (S D : Int) (l : List UInt8) : List UInt8 := udh S D l.length ++ l
theorem uds_len (S D : Int) (l : List UInt8) : (uds S D l).length = 8 + l.length := by simp [uds, udh_len]
theorem uds_cells (S D : Int) (l : List UInt8) : byteCells (uds S D l) = byteCells (udh S D l.length) ++ byteCells l := by unfold uds; rw [bcells_app]
/-- may a datagram of these ports be? -/
def uok (S D : Int) : Prop := (0 ≤ S ∧ S ≤ 65535) ∧ (0 ≤ D ∧ D ≤ 65535)
instance (S D : Int) : Decidable (uok S D) := by unfold uok; infer_instance
/-- why a datagram can't be put -/
def upE (S D : Int) (n : Nat) : Int := if uok S D then (if 1472 < n then 14 else 0) else 11
theorem upE_form {S D : Int} {n : Nat} (h : ¬ uok S D) : upE S D n = 11 := by unfold upE; rw [if_neg h]
theorem upE_long {S D : Int} {n : Nat} (h : uok S D) (g : 1472 < n) : upE S D n = 14 := by unfold upE; rw [if_pos h, if_pos g]
theorem upE_ok {S D : Int} {n : Nat} (h : uok S D) (g : ¬ 1472 < n) : upE S D n = 0 := by unfold upE; rw [if_pos h, if_neg g]

theorem two_mod (x : Int) (h0 : 0 ≤ x) (h1 : x ≤ 65535) : ((u8 (x / 256 % 256)).toNat : Int) * 256 + ((u8 (x % 256)).toNat : Int) = x := by
  rw [u8_val _ (by omega) (by omega), u8_val _ (by omega) (by omega)]
  omega
/-- what is put is taken as it was, whatever stands behind it -/
theorem uds_take (S D : Int) (l k : List UInt8) (h : uok S D) (hn : l.length ≤ 1472) : two (uds S D l ++ k) 0 = S ∧ two (uds S D l ++ k) 2 = D ∧ udB (uds S D l ++ k) = l ∧ udE (uds S D l ++ k) = 0 := by
  obtain ⟨⟨s0, s1⟩, ⟨d0, d1⟩⟩ := h
  have e4 : two (uds S D l ++ k) 4 = 8 + (l.length : Int) := two_mod (8 + (l.length : Int)) (by omega) (by omega)
  have e6 : two (uds S D l ++ k) 6 = 0 := two_mod 0 (by omega) (by omega)
  have hlen : (uds S D l ++ k).length = 8 + l.length + k.length := by rw [List.length_append, uds_len]
  refine ⟨two_mod S s0 s1, two_mod D d0 d1, ?_, udE_ok (by omega) (by omega) (by omega) e6⟩
  unfold udB
  rw [e4, show (8 + (l.length : Int)).toNat = 8 + l.length by omega]
  rw [List.take_append_of_le_length (by rw [uds_len]; omega), List.take_of_length_le (by rw [uds_len]; omega)]
  unfold uds
  rw [List.drop_left' (udh_len ..)]
theorem byte_two (a b : UInt8) : u8 (((a.toNat : Int) * 256 + (b.toNat : Int)) / 256 % 256) = a ∧ u8 (((a.toNat : Int) * 256 + (b.toNat : Int)) % 256) = b := by
  have h0 := a.toNat_lt
  have h1 := b.toNat_lt
  refine ⟨?_, ?_⟩
  · rw [show ((a.toNat : Int) * 256 + (b.toNat : Int)) / 256 % 256 = (a.toNat : Int) by omega]; exact u8_nat a
  · rw [show ((a.toNat : Int) * 256 + (b.toNat : Int)) % 256 = (b.toNat : Int) by omega]; exact u8_nat b
/-- what is taken is put as it stood there -/
theorem uds_back (l : List UInt8) (h : udE l = 0) : uds (two l 0) (two l 2) (udB l) = l.take (8 + (udB l).length) := by
  have hb := udB_len h
  obtain ⟨h0, h1, h2, h3⟩ := udE_zero h
  unfold uds udh
  rw [hb]
  have e : (8 : Int) + (two l 4 - 8) = two l 4 := by omega
  rw [e]
  have et : udB l = (l.drop 8).take (udB l).length := by
    obtain ⟨m, hm⟩ : ∃ m : Nat, two l 4 = (m : Int) := ⟨(two l 4).toNat, by omega⟩
    rw [udB_eq hm, List.length_take, List.length_drop]
    congr 1
    omega
  generalize (udB l).length = n at *
  rw [et]
  clear hb h h1 h2 e et
  obtain ⟨a0, k0, rfl, y0⟩ := uncons l 7 h0
  obtain ⟨a1, k1, rfl, y1⟩ := uncons k0 6 y0
  obtain ⟨a2, k2, rfl, y2⟩ := uncons k1 5 y1
  obtain ⟨a3, k3, rfl, y3⟩ := uncons k2 4 y2
  obtain ⟨a4, k4, rfl, y4⟩ := uncons k3 3 y3
  obtain ⟨a5, k5, rfl, y5⟩ := uncons k4 2 y4
  obtain ⟨a6, k6, rfl, y6⟩ := uncons k5 1 y5
  obtain ⟨a7, r, rfl, y7⟩ := uncons k6 0 y6
  clear h0 y0 y1 y2 y3 y4 y5 y6 y7
  have q := byte_two
  have e0 : two (a0 :: a1 :: a2 :: a3 :: a4 :: a5 :: a6 :: a7 :: r) 0 = (a0.toNat : Int) * 256 + (a1.toNat : Int) := rfl
  have e2 : two (a0 :: a1 :: a2 :: a3 :: a4 :: a5 :: a6 :: a7 :: r) 2 = (a2.toNat : Int) * 256 + (a3.toNat : Int) := rfl
  have e4 : two (a0 :: a1 :: a2 :: a3 :: a4 :: a5 :: a6 :: a7 :: r) 4 = (a4.toNat : Int) * 256 + (a5.toNat : Int) := rfl
  have e6 : (a6.toNat : Int) * 256 + (a7.toNat : Int) = 0 := h3
  have x6 : a6 = 0 := by
    have h6 : a6.toNat = 0 := by omega
    exact UInt8.toNat_inj.1 h6
  have x7 : a7 = 0 := by
    have h7 : a7.toNat = 0 := by omega
    exact UInt8.toNat_inj.1 h7
  rw [e0, e2, e4, (q a0 a1).1, (q a0 a1).2, (q a2 a3).1, (q a2 a3).2, (q a4 a5).1, (q a4 a5).2, x6, x7, Nat.add_comm 8 n]
  simp only [List.take_succ_cons, List.cons_append, List.nil_append, List.drop_succ_cons, List.drop_zero]
  rfl

/-- a sender's port -/
def upF (a b : Nat) : Int := 49152 + (((a ^^^ b) % 16384 : Nat) : Int)
theorem upF_comm (a b : Nat) : upF a b = upF b a := by unfold upF; rw [Nat.xor_comm]
theorem upF_bd (a b : Nat) : 49152 ≤ upF a b ∧ upF a b ≤ 65535 := by unfold upF; omega
theorem xor_u64 (a b : Nat) (ha : a < 18446744073709551616) (hb : b < 18446744073709551616) : bits .xor .u64 (a : Int) (b : Int) = ((a ^^^ b : Nat) : Int) := by
  have hx : a ^^^ b < 2 ^ 64 := Nat.xor_lt_two_pow (by omega) (by omega)
  show IntKind.u64.wrap ((BitVec.ofInt 64 (a : Int) ^^^ BitVec.ofInt 64 (b : Int)).toNat : Int) = _
  rw [BitVec.toNat_xor, ofInt_u64 a (by omega), ofInt_u64 b (by omega), IntKind.wrap_u64]
  omega
/-- the lowest bits of a number that two are bit by bit, one more -/
theorem xor_bits (a b i : Nat) : (a ^^^ b) % 2 ^ (i + 1) = (a ^^^ b) % 2 ^ i + (if a / 2 ^ i % 2 = b / 2 ^ i % 2 then 0 else 2 ^ i) := by
  have e : (a ^^^ b) / 2 ^ i % 2 = (if a / 2 ^ i % 2 = b / 2 ^ i % 2 then 0 else 1) := by
    have e1 : (a ^^^ b) / 2 ^ i = a / 2 ^ i ^^^ b / 2 ^ i := by
      rw [← Nat.shiftRight_eq_div_pow, ← Nat.shiftRight_eq_div_pow, ← Nat.shiftRight_eq_div_pow, Nat.shiftRight_xor_distrib]
    rw [e1]
    generalize a / 2 ^ i = x
    generalize b / 2 ^ i = y
    have e2 : (x ^^^ y) % 2 = (x % 2) ^^^ (y % 2) := Nat.xor_mod_two_pow (n := 1)
    rw [e2]
    have hx := Nat.mod_two_eq_zero_or_one x
    have hy := Nat.mod_two_eq_zero_or_one y
    rcases hx with hx | hx <;> rcases hy with hy | hy <;> rw [hx, hy] <;> rfl
  rw [Nat.mod_pow_succ, e]
  split <;> simp
end Go.Proofs.Ytgmeicenjgiihaa
