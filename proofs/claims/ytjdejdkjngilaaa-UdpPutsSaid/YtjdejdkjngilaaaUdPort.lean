/- The contracts of udp.Port, palingref08.Port, udp.fits, udp.refused. -/
import Derived.Test.YtjdejdkjngilaaaUdMath
namespace Go.Proofs.Ytjdejdkjngilaaa
open Go.RowKit
open Go.Lib (byteCells)

theorem port_any (a b : Nat) (ha : a < 18446744073709551616) (hb : b < 18446744073709551616) (w : World) :
    Calls Try.prog 9 #[.int .u64 a, .int .u64 b] w fun e w' => e = .returned (.int .i64 (upF a b)) ∧ w = w' := by
  have X := xor_u64 a b ha hb
  have U := Lib.hid (show upF a b = 49152 + (((a ^^^ b : Nat) : Int) % 16384) by unfold upF; omega)
  generalize upF a b = u at *
  generalize a ^^^ b = x at *
  have x0 : (0 : Int) ≤ (x : Int) := by omega
  have q := Int.tmod_eq_emod_of_nonneg (b := 16384) x0
  go_enter Try.func9, Try.ntmps9
  go_wp2
  go_ret
  exact ⟨by rw [U.out]; rfl, rfl⟩

theorem fits_any (x : Int) (w : World) (v : Bool) (hv : (decide (0 ≤ x) && decide (x ≤ 65535)) = v) :
    Calls Try.prog 16 #[.int .i64 x] w fun e w' => e = .returned (.bool v) ∧ w = w' := by
  have V := Lib.hid hv
  clear hv
  by_cases h0 : 0 ≤ x
  · by_cases h1 : x ≤ 65535
    · have E := Lib.hid (show v = true by rw [← V.out]; simp; omega)
      go_enter Try.func16, Try.ntmps16
      go_wp2
      go_ret
      exact ⟨by rw [E.out]; simp; try omega, rfl⟩
    · have E := Lib.hid (show v = false by rw [← V.out]; simp; omega)
      go_enter Try.func16, Try.ntmps16
      go_wp2
      go_ret
      exact ⟨by rw [E.out]; simp; try omega, rfl⟩
  · have E := Lib.hid (show v = false by rw [← V.out]; simp; omega)
    go_enter Try.func16, Try.ntmps16
    go_wp2
    go_ret
    exact ⟨by rw [E.out]; simp; try omega, rfl⟩

/-- why bytes of these numbers are no datagram -/
def udR (v z : Int) (n : Nat) : Int := if v < 8 then 11 else if (n : Int) < v then 10 else if z = 0 then 0 else 12
theorem urefused_any (s d v z : Int) (n : Nat) (w : World) :
    Calls Try.prog 14 #[.agg #[.int .i64 s, .int .i64 d, .int .i64 v, .int .i64 z], .int .i64 n] w fun e w' => e = .returned (.int .i64 (udR v z n)) ∧ Below w.heap.size w w' := by
  by_cases h0 : v < 8
  · have E := Lib.hid (show udR v z n = 11 by unfold udR; rw [if_pos h0])
    generalize udR v z n = u at *
    go_enter Try.func14, Try.ntmps14
    go_wp2
    go_ret
    exact ⟨by rw [E.out]; rfl, (Below.refl _ _).alloc (Nat.le_refl _) _⟩
  · by_cases h1 : (n : Int) < v
    · have E := Lib.hid (show udR v z n = 10 by unfold udR; rw [if_neg h0, if_pos h1])
      generalize udR v z n = u at *
      go_enter Try.func14, Try.ntmps14
      go_wp2
      go_ret
      exact ⟨by rw [E.out]; rfl, (Below.refl _ _).alloc (Nat.le_refl _) _⟩
    · by_cases h2 : z = 0
      · have E := Lib.hid (show udR v z n = 0 by unfold udR; rw [if_neg h0, if_neg h1, if_pos h2])
        generalize udR v z n = u at *
        subst h2
        go_enter Try.func14, Try.ntmps14
        go_wp2
        go_ret
        exact ⟨by rw [E.out]; rfl, (Below.refl _ _).alloc (Nat.le_refl _) _⟩
      · have E := Lib.hid (show udR v z n = 12 by unfold udR; rw [if_neg h0, if_neg h1, if_neg h2])
        generalize udR v z n = u at *
        go_enter Try.func14, Try.ntmps14
        go_wp2
        go_ret
        exact ⟨by rw [E.out]; rfl, (Below.refl _ _).alloc (Nat.le_refl _) _⟩

theorem tdiv_two_pow (a i : Nat) : ((a / 2 ^ i : Nat) : Int).tdiv 2 = ((a / 2 ^ (i + 1) : Nat) : Int) := by
  rw [Nat.pow_succ, ← Nat.div_div_eq_div_mul]
  generalize a / 2 ^ i = x
  rw [Int.tdiv_eq_ediv_of_nonneg (by omega)]
  omega
set_option maxHeartbeats 1000000 in
theorem rport_any (a b : Nat) (ha : a < 18446744073709551616) (hb : b < 18446744073709551616) (w : World) :
    Calls Try.prog 10 #[.int .u64 a, .int .u64 b] w fun e w' => e = .returned (.int .i64 (upF a b)) ∧ w = w' := by
  have U := Lib.hid (show upF a b = 49152 + (((a ^^^ b) % 2 ^ 14 : Nat) : Int) from rfl)
  generalize upF a b = u at *
  have B := Lib.hid (fun i : Nat => xor_bits a b i)
  have DA := Lib.hid (fun i : Nat => tdiv_two_pow a i)
  have DB := Lib.hid (fun i : Nat => tdiv_two_pow b i)
  have MA := Lib.hid (fun i : Nat => Nat.lt_of_le_of_lt (Nat.div_le_self a (2 ^ i)) ha)
  have MB := Lib.hid (fun i : Nat => Nat.lt_of_le_of_lt (Nat.div_le_self b (2 ^ i)) hb)
  have ML := Lib.hid (fun i : Nat => Nat.mod_lt (a ^^^ b) (Nat.two_pow_pos i))
  generalize a ^^^ b = x at *
  go_enter Try.func10, Try.ntmps10
  go_wp2
  go_loopw [0, 1, 5, 6, 7] (fun va vb vn vt vi wr => ∃ i : Nat, i ≤ 14 ∧ va = .int .u64 ((a / 2 ^ i : Nat) : Int) ∧ vb = .int .u64 ((b / 2 ^ i : Nat) : Int) ∧ vn = .int .i64 ((x % 2 ^ i : Nat) : Int) ∧ vt = .int .i64 ((2 ^ i : Nat) : Int) ∧ vi = .int .i64 i ∧ wr = w) (fun _ _ _ _ vi _ => match vi with | .int _ y => (14 - y).toNat | _ => 0)
  case atStart => exact ⟨0, by omega, by simp, by simp, by simp [Nat.mod_one], by simp, rfl, rfl⟩
  case round =>
    obtain ⟨i, hi, rfl, rfl, rfl, rfl, rfl, rfl⟩ := hrel
    by_cases hlt : i < 14
    · have q1 := DA.out i
      have q2 := DB.out i
      have b1 := B.out i
      have m1 := MA.out i
      have m2 := MB.out i
      have m3 := ML.out i
      have n1 := MA.out (i + 1)
      have n2 := MB.out (i + 1)
      have p1 : 2 ^ i ≤ 2 ^ 14 := Nat.pow_le_pow_right (by omega) hi
      have p2 : 2 ^ (i + 1) = 2 * 2 ^ i := by rw [Nat.pow_succ, Nat.mul_comm]
      obtain ⟨a1, ha1⟩ : ∃ y, a / 2 ^ (i + 1) = y := ⟨_, rfl⟩
      obtain ⟨d1, hd1⟩ : ∃ y, b / 2 ^ (i + 1) = y := ⟨_, rfl⟩
      obtain ⟨y1, hy1⟩ : ∃ y, x % 2 ^ (i + 1) = y := ⟨_, rfl⟩
      obtain ⟨t1, ht1⟩ : ∃ y, 2 ^ (i + 1) = y := ⟨_, rfl⟩
      have G := Lib.hid (show a / 2 ^ (i + 1) = a1 ∧ b / 2 ^ (i + 1) = d1 ∧ x % 2 ^ (i + 1) = y1 ∧ 2 ^ (i + 1) = t1 from ⟨ha1, hd1, hy1, ht1⟩)
      rw [ha1] at q1 n1
      rw [hd1] at q2 n2
      rw [hy1] at b1
      rw [ht1] at p2
      clear ha1 hd1 hy1 ht1
      generalize x % 2 ^ i = y at *
      generalize a / 2 ^ i = a0 at *
      generalize b / 2 ^ i = b0 at *
      generalize 2 ^ i = t at *
      have r1 : (a0 : Int).tmod 2 = (a0 : Int) % 2 := Int.tmod_eq_emod_of_nonneg (by omega)
      have r2 : (b0 : Int).tmod 2 = (b0 : Int) % 2 := Int.tmod_eq_emod_of_nonneg (by omega)
      by_cases hq : a0 % 2 = b0 % 2
      · rw [if_pos hq] at b1
        have hq2 : (a0 : Int) % 2 = (b0 : Int) % 2 := by omega
        have R := Lib.hid (show (y1 : Int) = (y : Int) ∧ (t1 : Int) = (t : Int) * 2 by omega)
        clear hq b1 p2 B DA DB MA MB ML
        go_wp2
        go_roundw
        case rel => exact ⟨i + 1, by omega, by rw [G.out.1], by rw [G.out.2.1], by rw [G.out.2.2.1, R.out.1], by rw [G.out.2.2.2, R.out.2], by simp, trivial⟩
        case measure => simp only []; omega
      · rw [if_neg hq] at b1
        have hq2 : ¬ (a0 : Int) % 2 = (b0 : Int) % 2 := by omega
        have R := Lib.hid (show (y1 : Int) = (y : Int) + (t : Int) ∧ (t1 : Int) = (t : Int) * 2 by omega)
        clear hq b1 p2 B DA DB MA MB ML
        go_wp2
        go_roundw
        case rel => exact ⟨i + 1, by omega, by rw [G.out.1], by rw [G.out.2.1], by rw [G.out.2.2.1, R.out.1], by rw [G.out.2.2.2, R.out.2], by simp, trivial⟩
        case measure => simp only []; omega
    · obtain rfl : i = 14 := by omega
      go_wp2
      go_ret
      exact ⟨by rw [U.out]; rfl, rfl⟩
end Go.Proofs.Ytjdejdkjngilaaa
