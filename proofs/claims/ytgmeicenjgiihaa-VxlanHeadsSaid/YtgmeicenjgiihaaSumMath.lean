/- Sums of two bytes by two bytes: brought down, plain, and what one changed byte, or pair, does to them. -/
import Derived.Test.YtgmeicenjgiihaaBsl
namespace Go.Proofs.Ytgmeicenjgiihaa
open Go.RowKit
open Go.Lib (byteCells)

/-- a sum, one number on, brought down -/
def dn (s n : Int) : Int := if 65535 < s + n then s + n - 65535 else s + n
/-- what a number is when it is brought down -/
def nm (x : Int) : Int := if x = 0 then 0 else (x - 1) % 65535 + 1
theorem dn_bd {s n : Int} (h0 : 0 ≤ s) (h1 : s ≤ 65535) (g0 : 0 ≤ n) (g1 : n ≤ 65535) : 0 ≤ dn s n ∧ dn s n ≤ 65535 := by unfold dn; split <;> omega
theorem dn_more {s n : Int} (h : 65535 < s + n) : dn s n = s + n - 65535 := by unfold dn; rw [if_pos h]
theorem dn_less {s n : Int} (h : ¬ 65535 < s + n) : dn s n = s + n := by unfold dn; rw [if_neg h]
theorem dn_zero {s : Int} (h : s ≤ 65535) : dn s 0 = s := by unfold dn; rw [if_neg (by omega)]; omega
theorem nm_small {x : Int} (h0 : 0 ≤ x) (h1 : x ≤ 65535) : nm x = x := by unfold nm; split <;> omega
theorem nm_bd {x : Int} : 0 ≤ nm x ∧ nm x ≤ 65535 := by unfold nm; split <;> omega
theorem nm_step {x : Int} (h : 65535 < x) : nm (x % 65536 + x / 65536) = nm x := by unfold nm; rw [if_neg (by omega), if_neg (by omega)]; omega
theorem dn_nm {s n : Int} (h0 : 0 ≤ s) (h1 : s ≤ 65535) (g0 : 0 ≤ n) (g1 : n ≤ 65535) : dn s n = nm (s + n) := by
  unfold dn nm
  split <;> split <;> omega
theorem nm_add {x n : Int} (h : 0 ≤ x) (g : 0 ≤ n) : nm (nm x + n) = nm (x + n) := by
  unfold nm
  by_cases hx : x = 0
  · rw [if_pos hx, hx]
  · rw [if_neg hx, if_neg (show ¬ (x - 1) % 65535 + 1 + n = 0 by omega), if_neg (show ¬ x + n = 0 by omega)]
    omega

/-- the sum of some bytes behind s, brought down pair by pair -/
def sumF : Int → List UInt8 → Int
  | s, [] => s
  | s, [a] => dn s ((a.toNat : Int) * 256)
  | s, a :: b :: r => sumF (dn s ((a.toNat : Int) * 256 + (b.toNat : Int))) r
theorem sumF_two (s : Int) (l : List UInt8) (h : 2 ≤ l.length) : sumF s l = sumF (dn s (two l 0)) (l.drop 2) := by
  match l, h with
  | a :: b :: r, _ => simp [sumF, two, bat]
theorem sumF_one (s : Int) (l : List UInt8) (h : l.length = 1) : sumF s l = dn s (bat l 0 * 256) := by
  match l, h with
  | [a], _ => simp [sumF, bat]
theorem sumF_none (s : Int) (l : List UInt8) (h : l.length = 0) : sumF s l = s := by
  match l, h with
  | [], _ => rfl
/-- the plain sum -/
def pS : List UInt8 → Int
  | [] => 0
  | [a] => (a.toNat : Int) * 256
  | a :: b :: r => (a.toNat : Int) * 256 + (b.toNat : Int) + pS r
theorem pS_nonneg : ∀ l, 0 ≤ pS l
  | [] => by simp [pS]
  | [a] => by simp [pS]; omega
  | a :: b :: r => by have := pS_nonneg r; simp [pS]; omega
theorem sumF_nm : ∀ (l : List UInt8) (s : Int), 0 ≤ s → s ≤ 65535 → sumF s l = nm (s + pS l)
  | [], s, h0, h1 => by rw [sumF, pS, Int.add_zero, nm_small h0 h1]
  | [a], s, h0, h1 => by have := a.toNat_lt; rw [sumF, pS, dn_nm h0 h1 (by omega) (by omega)]
  | a :: b :: r, s, h0, h1 => by
    have ha := a.toNat_lt
    have hb := b.toNat_lt
    obtain ⟨g0, g1⟩ := dn_bd h0 h1 (n := (a.toNat : Int) * 256 + (b.toNat : Int)) (by omega) (by omega)
    rw [sumF, sumF_nm r _ g0 g1, pS, dn_nm h0 h1 (by omega) (by omega), nm_add (by omega) (pS_nonneg r)]
    congr 1
    omega
theorem sumF_bd (l : List UInt8) : 0 ≤ sumF 0 l ∧ sumF 0 l ≤ 65535 := by rw [sumF_nm l 0 (by decide) (by decide)]; exact nm_bd
theorem pS_app : ∀ (l m : List UInt8), l.length % 2 = 0 → pS (l ++ m) = pS l + pS m
  | [], m, _ => by simp [pS]
  | [a], m, h => by simp at h
  | a :: b :: r, m, h => by
    have := pS_app r m (by simp at h; omega)
    simp only [List.cons_append, pS, this]
    omega
/-- what a byte's place weighs -/
def wgt (k : Nat) : Int := if k % 2 = 0 then 256 else 1
theorem pS_set : ∀ (l : List UInt8) (k : Nat) (v : UInt8), k < l.length → pS (l.set k v) = pS l + ((v.toNat : Int) - bat l k) * wgt k
  | [], k, v, h => by simp at h
  | [a], k, v, h => by
    obtain rfl : k = 0 := by simp at h; omega
    simp [pS, bat, wgt]
    omega
  | a :: b :: r, 0, v, h => by simp [pS, bat, wgt]; omega
  | a :: b :: r, 1, v, h => by simp [pS, bat, wgt]; omega
  | a :: b :: r, k + 2, v, h => by
    have := pS_set r k v (by simp at h; omega)
    have e : bat (a :: b :: r) (k + 2) = bat r k := by simp [bat, List.getD]
    have e2 : wgt (k + 2) = wgt k := by unfold wgt; rw [Nat.add_mod_right]
    simp only [List.set_cons_succ, pS, this, e, e2]
    omega
theorem pS_zero : ∀ (l : List UInt8), pS l = 0 → ∀ x ∈ l, x = 0
  | [], _, x, hx => by cases hx
  | [a], h, x, hx => by
    simp only [pS] at h
    obtain rfl : x = a := by simpa using hx
    exact UInt8.toNat_inj.1 (by simp; omega)
  | a :: b :: r, h, x, hx => by
    have := pS_nonneg r
    simp only [pS] at h
    rcases List.mem_cons.1 hx with rfl | hx
    · exact UInt8.toNat_inj.1 (by simp; omega)
    · rcases List.mem_cons.1 hx with rfl | hx
      · exact UInt8.toNat_inj.1 (by simp; omega)
      · exact pS_zero r (by omega) x hx

/-- the sum's complement behind a change -/
def tF (s o y : Int) : Int := if 0 ≤ s ∧ s ≤ 65535 ∧ 0 ≤ o ∧ o ≤ 65535 ∧ 0 ≤ y ∧ y ≤ 65535 then 65535 - dn (dn (65535 - s) (65535 - o)) y else -1
theorem tF_ok {s o y : Int} (h : 0 ≤ s ∧ s ≤ 65535 ∧ 0 ≤ o ∧ o ≤ 65535 ∧ 0 ≤ y ∧ y ≤ 65535) : tF s o y = 65535 - dn (dn (65535 - s) (65535 - o)) y := by unfold tF; rw [if_pos h]
theorem tF_no {s o y : Int} (h : ¬ (0 ≤ s ∧ s ≤ 65535 ∧ 0 ≤ o ∧ o ≤ 65535 ∧ 0 ≤ y ∧ y ≤ 65535)) : tF s o y = -1 := by unfold tF; rw [if_neg h]
theorem tF_nm {s o y : Int} (h : 0 ≤ s ∧ s ≤ 65535 ∧ 0 ≤ o ∧ o ≤ 65535 ∧ 0 ≤ y ∧ y ≤ 65535) : tF s o y = 65535 - nm (65535 - s + (65535 - o) + y) := by
  obtain ⟨g0, g1⟩ := dn_bd (s := 65535 - s) (n := 65535 - o) (by omega) (by omega) (by omega) (by omega)
  rw [tF_ok h, dn_nm g0 g1 (by omega) (by omega), dn_nm (by omega) (by omega) (by omega) (by omega), nm_add (by omega) (by omega)]

/-- bytes with their sum's complement behind them -/
def allF (l : List UInt8) : List UInt8 := l ++ [u8 ((65535 - sumF 0 l) / 256), u8 ((65535 - sumF 0 l) % 256)]
theorem pS_all (l : List UInt8) (h : l.length % 2 = 0) : pS (allF l) = pS l + (65535 - nm (pS l)) := by
  obtain ⟨g0, g1⟩ := sumF_bd l
  unfold allF
  rw [pS_app _ _ h]
  simp only [pS]
  rw [u8_val _ (by omega) (by omega), u8_val _ (by omega) (by omega)]
  have e := sumF_nm l 0 (by decide) (by decide)
  rw [Int.zero_add] at e
  omega
theorem all_right (l : List UInt8) (h : l.length % 2 = 0) : sumF 0 (allF l) = 65535 := by
  have := pS_nonneg l
  rw [sumF_nm _ 0 (by decide) (by decide), Int.zero_add, pS_all l h]
  unfold nm
  split <;> split <;> omega
/-- with one bit of one byte turned they are not right -/
theorem all_turned (l : List UInt8) (h : l.length % 2 = 0) (k : Nat) (hk : k < (allF l).length) (v : UInt8) (j : Nat) (hj : j < 8) (hv : (v.toNat : Int) = bat (allF l) k + 2 ^ j ∨ (v.toNat : Int) = bat (allF l) k - 2 ^ j) :
    sumF 0 ((allF l).set k v) ≠ 65535 := by
  have h0 := pS_nonneg l
  have h1 := pS_nonneg ((allF l).set k v)
  rw [sumF_nm _ 0 (by decide) (by decide), Int.zero_add]
  have e := pS_set (allF l) k v hk
  rw [pS_all l h] at e
  have hd : ∃ d : Int, (v.toNat : Int) - bat (allF l) k = d ∧ (d = 2 ^ j ∨ d = - 2 ^ j) := ⟨_, rfl, by omega⟩
  obtain ⟨d, hd, hd2⟩ := hd
  rw [hd] at e
  have hp : (2 : Int) ^ j = 1 ∨ (2 : Int) ^ j = 2 ∨ (2 : Int) ^ j = 4 ∨ (2 : Int) ^ j = 8 ∨ (2 : Int) ^ j = 16 ∨ (2 : Int) ^ j = 32 ∨ (2 : Int) ^ j = 64 ∨ (2 : Int) ^ j = 128 := by
    match j, hj with
    | 0, _ | 1, _ | 2, _ | 3, _ | 4, _ | 5, _ | 6, _ | 7, _ => simp
  have hw : wgt k = 256 ∨ wgt k = 1 := by unfold wgt; split <;> simp
  have hm : ∃ m : Int, d * wgt k = m ∧ m ≠ 0 ∧ -65535 < m ∧ m < 65535 := by
    refine ⟨_, rfl, ?_⟩
    rcases hw with hw | hw <;> rw [hw] <;> omega
  obtain ⟨m, hm, hm0, hm1, hm2⟩ := hm
  rw [hm] at e
  generalize pS ((allF l).set k v) = X at e h1
  generalize pS l = Y at e h0
  unfold nm at e ⊢
  split
  · omega
  · split at e <;> omega

/-- bytes with another number in the place of a pair -/
def putF (l : List UInt8) (k : Nat) (y : Int) : List UInt8 := (l.set k (u8 (y / 256))).set (k + 1) (u8 (y % 256))
theorem pS_put (l : List UInt8) (k : Nat) (y : Int) (he : k % 2 = 0) (hk : k + 1 < l.length) (y0 : 0 ≤ y) (y1 : y ≤ 65535) : pS (putF l k y) = pS l - two l k + y := by
  unfold putF
  rw [pS_set _ _ _ (by rw [List.length_set]; exact hk), pS_set _ _ _ (by omega)]
  have e1 : wgt k = 256 := by unfold wgt; rw [if_pos he]
  have e2 : wgt (k + 1) = 1 := by unfold wgt; rw [if_neg (by omega)]
  have e3 : bat (l.set k (u8 (y / 256))) (k + 1) = bat l (k + 1) := by simp [bat, List.getD]
  rw [e1, e2, e3, u8_val _ (by omega) (by omega), u8_val _ (by omega) (by omega)]
  unfold two
  omega
theorem put_sum (l : List UInt8) (k : Nat) (y : Int) (he : k % 2 = 0) (hk : k + 1 < l.length) (y0 : 0 ≤ y) (y1 : y ≤ 65535) (hs : ∃ x ∈ putF l k y, x ≠ 0) :
    tF (65535 - sumF 0 l) (two l k) y = 65535 - sumF 0 (putF l k y) := by
  obtain ⟨g0, g1⟩ := sumF_bd l
  obtain ⟨p0, p1⟩ := two_bd l k
  have e := pS_put l k y he hk y0 y1
  have hne : pS (putF l k y) ≠ 0 := fun h => by
    obtain ⟨x, hx, hx0⟩ := hs
    exact hx0 (pS_zero _ h x hx)
  have h0 := pS_nonneg (putF l k y)
  have h1 := pS_nonneg l
  rw [tF_nm ⟨by omega, by omega, by omega, by omega, by omega, by omega⟩, sumF_nm (putF l k y) 0 (by decide) (by decide), sumF_nm l 0 (by decide) (by decide), Int.zero_add, Int.zero_add]
  congr 1
  generalize pS (putF l k y) = X at *
  generalize pS l = Y at *
  generalize two l k = Z at *
  subst e
  unfold nm
  by_cases hY : Y = 0
  · rw [if_pos hY]
    split <;> (try split) <;> omega
  · rw [if_neg hY]
    split <;> (try split) <;> omega
end Go.Proofs.Ytgmeicenjgiihaa
