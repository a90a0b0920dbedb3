/- Two bytes as a number; a frame, or bytes, with a number, as calls return them. -/
import Derived.Test.YtjdejdkjngilaaaBsl
namespace Go.Proofs.Ytjdejdkjngilaaa
open Go.RowKit
open Go.Lib (byteCells)

/-- two bytes of a list as a number, the higher first -/
def two (l : List UInt8) (i : Nat) : Int := bat l i * 256 + bat l (i + 1)
theorem i64_or_nat (a b : Nat) (ha : a < 9223372036854775808) (hb : b < 9223372036854775808) : bits .or .i64 (a : Int) (b : Int) = ((a ||| b : Nat) : Int) := by
  have hx : a ||| b < 2 ^ 63 := Nat.or_lt_two_pow (by omega) (by omega)
  show IntKind.i64.wrap ((BitVec.ofInt 64 (a : Int) ||| BitVec.ofInt 64 (b : Int)).toNat : Int) = _
  rw [BitVec.toNat_or, ofInt_u64 a (by omega), ofInt_u64 b (by omega), IntKind.wrap_i64]
  omega
theorem or_i64 (a b : Int) (h0 : 0 ≤ a) (h1 : a < 256) (h2 : 0 ≤ b) (h3 : b < 256) : bits .or .i64 (a * 256) b = a * 256 + b := by
  obtain ⟨A, rfl⟩ := Int.eq_ofNat_of_zero_le h0
  obtain ⟨B, rfl⟩ := Int.eq_ofNat_of_zero_le h2
  have e := i64_or_nat (A * 256) B (by omega) (by omega)
  have : A * 256 ||| B = A * 256 + B := by
    have := Nat.two_pow_add_eq_or_of_lt (i := 8) (b := B) (by omega) A
    rw [Nat.mul_comm] at this
    exact this.symm
  rw [this] at e
  rw [show (A : Int) * 256 = ((A * 256 : Nat) : Int) by omega, e]
  omega
theorem two_bd (l : List UInt8) (i : Nat) : 0 ≤ two l i ∧ two l i < 65536 := by
  have h0 := bat_lo l i
  have h1 := bat_hi l i
  have h2 := bat_lo l (i + 1)
  have h3 := bat_hi l (i + 1)
  unfold two
  omega
/-- a slice of bytes and a number, as a call returns them -/
def GotB (w : World) (l : List UInt8) (E : Int) (e : Ending) (w' : World) : Prop := ∃ A n c, e = .returned (.tuple #[.slice A n c, .int .i64 E]) ∧ BSl w' A n c l ∧ Below w.heap.size w w'
/-- a frame and a number, as a call returns them -/
def GotF (w : World) (D S T : Int) (l : List UInt8) (E : Int) (e : Ending) (w' : World) : Prop := ∃ A n c, e = .returned (.tuple #[.agg #[.int .u64 D, .int .u64 S, .int .i64 T, .slice A n c], .int .i64 E]) ∧ BSl w' A n c l ∧ Below w.heap.size w w'
theorem own_got {w' : World} {B n : Nat} {v : Value} {l : List UInt8} (h : w'.ownsRow B 5 1 v n (byteCells l)) : ∃ A c, v = .slice A n c ∧ BSl w' A n c l := by
  obtain ⟨A, c, rfl⟩ := own_shape h
  exact ⟨A, c, rfl, BSl.of_own h⟩
end Go.Proofs.Ytjdejdkjngilaaa
