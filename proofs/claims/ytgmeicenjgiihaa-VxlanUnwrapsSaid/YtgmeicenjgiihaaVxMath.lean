/- Frames within packets: heads, what is wrapped, why it can't be; what is unwrapped, and why nothing is. -/
import Derived.Test.YtgmeicenjgiihaaUdMath
import Derived.Test.YtgmeicenjgiihaaPkMath
import Derived.Test.YtgmeicenjgiihaaFmath
namespace Go.Proofs.Ytgmeicenjgiihaa
open Go.RowKit
open Go.Lib (byteCells)

/-- why a number is no VNI -/
def vhE (v : Int) : Int := if 1 ≤ v ∧ v ≤ 16777215 then 0 else 17
theorem vhE_ok {v : Int} (h0 : 1 ≤ v) (h1 : v ≤ 16777215) : vhE v = 0 := by unfold vhE; rw [if_pos ⟨h0, h1⟩]
theorem vhE_no {v : Int} (h : ¬ (1 ≤ v ∧ v ≤ 16777215)) : vhE v = 17 := by unfold vhE; rw [if_neg h]
theorem vhE_zero {v : Int} (h : vhE v = 0) : 1 ≤ v ∧ v ≤ 16777215 := by
  by_cases g : 1 ≤ v ∧ v ≤ 16777215
  · exact g
  · rw [vhE_no g] at h; cases h
/-- a head -/
def vhd (v : Int) : List UInt8 := [8, 0, 0, 0, u8 (v / 65536), u8 (v / 256 % 256), u8 (v % 256), 0]
theorem vhd_len (v : Int) : (vhd v).length = 8 := rfl
/-- the VNI that bytes begin with -/
def three (l : List UInt8) : Int := bat l 4 * 65536 + bat l 5 * 256 + bat l 6
theorem three_bd (l : List UInt8) : 0 ≤ three l ∧ three l ≤ 16777215 := by
  have h0 := bat_lo l 4; have h1 := bat_hi l 4; have h2 := bat_lo l 5; have h3 := bat_hi l 5; have h4 := bat_lo l 6; have h5 := bat_hi l 6
  unfold three
  omega
/-- do bytes begin with a head? -/
def vnY (l : List UInt8) : Prop := bat l 0 = 8 ∧ bat l 1 = 0 ∧ bat l 2 = 0 ∧ bat l 3 = 0 ∧ bat l 7 = 0 ∧ three l ≠ 0
instance (l : List UInt8) : Decidable (vnY l) := by unfold vnY; infer_instance
def vnE (l : List UInt8) : Int := if l.length < 8 then 10 else if vnY l then 0 else 11
theorem vnE_short {l : List UInt8} (h : l.length < 8) : vnE l = 10 := by unfold vnE; rw [if_pos h]
theorem vnE_ok {l : List UInt8} (h : ¬ l.length < 8) (g : vnY l) : vnE l = 0 := by unfold vnE; rw [if_neg h, if_pos g]
theorem vnE_form {l : List UInt8} (h : ¬ l.length < 8) (g : ¬ vnY l) : vnE l = 11 := by unfold vnE; rw [if_neg h, if_neg g]
theorem vnE_zero {l : List UInt8} (h : vnE l = 0) : 8 ≤ l.length ∧ vnY l := by
  by_cases h0 : l.length < 8
  · rw [vnE_short h0] at h; cases h
  · by_cases g : vnY l
    · exact ⟨by omega, g⟩
    · rw [vnE_form h0 g] at h; cases h
/-- bytes begin with the head of their VNI just if they begin with a head -/
theorem vhd_take (l : List UInt8) (h : 8 ≤ l.length) : l.take 8 = vhd (three l) ↔ (bat l 0 = 8 ∧ bat l 1 = 0 ∧ bat l 2 = 0 ∧ bat l 3 = 0 ∧ bat l 7 = 0) := by
  obtain ⟨a0, k0, rfl, y0⟩ := uncons l 7 h
  obtain ⟨a1, k1, rfl, y1⟩ := uncons k0 6 y0
  obtain ⟨a2, k2, rfl, y2⟩ := uncons k1 5 y1
  obtain ⟨a3, k3, rfl, y3⟩ := uncons k2 4 y2
  obtain ⟨a4, k4, rfl, y4⟩ := uncons k3 3 y3
  obtain ⟨a5, k5, rfl, y5⟩ := uncons k4 2 y4
  obtain ⟨a6, k6, rfl, y6⟩ := uncons k5 1 y5
  obtain ⟨a7, r, rfl, y7⟩ := uncons k6 0 y6
  clear h y0 y1 y2 y3 y4 y5 y6 y7
  have e : three (a0 :: a1 :: a2 :: a3 :: a4 :: a5 :: a6 :: a7 :: r) = (a4.toNat : Int) * 65536 + (a5.toNat : Int) * 256 + (a6.toNat : Int) := rfl
  have b4 := a4.toNat_lt
  have b5 := a5.toNat_lt
  have b6 := a6.toNat_lt
  have e4 : ((a4.toNat : Int) * 65536 + (a5.toNat : Int) * 256 + (a6.toNat : Int)) / 65536 = (a4.toNat : Int) := by omega
  have e5 : ((a4.toNat : Int) * 65536 + (a5.toNat : Int) * 256 + (a6.toNat : Int)) / 256 % 256 = (a5.toNat : Int) := by omega
  have e6 : ((a4.toNat : Int) * 65536 + (a5.toNat : Int) * 256 + (a6.toNat : Int)) % 256 = (a6.toNat : Int) := by omega
  unfold vhd
  rw [e, e4, e5, e6, u8_nat, u8_nat, u8_nat]
  have n8 : ∀ x : UInt8, x = 8 ↔ ((x.toNat : Int) = 8) := fun x => ⟨fun h => by rw [h]; rfl, fun h => UInt8.toNat_inj.1 (by show x.toNat = 8; omega)⟩
  have n0 : ∀ x : UInt8, x = 0 ↔ ((x.toNat : Int) = 0) := fun x => ⟨fun h => by rw [h]; rfl, fun h => UInt8.toNat_inj.1 (by show x.toNat = 0; omega)⟩
  show [a0, a1, a2, a3, a4, a5, a6, a7] = _ ↔ ((a0.toNat : Int) = 8 ∧ (a1.toNat : Int) = 0 ∧ (a2.toNat : Int) = 0 ∧ (a3.toNat : Int) = 0 ∧ (a7.toNat : Int) = 0)
  rw [← n8, ← n0, ← n0, ← n0, ← n0]
  simp
/-- what is headed begins with that head -/
theorem vhd_back (v : Int) (k : List UInt8) (h0 : 1 ≤ v) (h1 : v ≤ 16777215) : vnE (vhd v ++ k) = 0 ∧ three (vhd v ++ k) = v ∧ (vhd v ++ k).drop 8 = k := by
  have e : three (vhd v ++ k) = v := by
    show ((u8 (v / 65536)).toNat : Int) * 65536 + ((u8 (v / 256 % 256)).toNat : Int) * 256 + ((u8 (v % 256)).toNat : Int) = v
    rw [u8_val _ (by omega) (by omega), u8_val _ (by omega) (by omega), u8_val _ (by omega) (by omega)]
    omega
  refine ⟨vnE_ok (by simp [vhd]) ⟨by show ((8 : UInt8).toNat : Int) = 8; rfl, rfl, rfl, rfl, rfl, by rw [e]; omega⟩, e, rfl⟩

/-- a host's address -/
def vip (a : Int) : Int := 2199023255552 + a
/-- why a frame can't be wrapped -/
def wE (D S T v : Int) (n : Nat) : Int := if T = 33024 then 15 else if pE D S T n = 0 then (if vhE v = 0 then (if 1450 < n then 14 else 0) else 17) else pE D S T n
/-- a frame within a datagram, a packet, a frame -/
def wD (D S T v : Int) (l : List UInt8) : List UInt8 := uds (upF D.toNat S.toNat) 4789 (vhd v ++ fbs D S T l)
def wP (a b D S T v : Int) (l : List UInt8) : List UInt8 := pbs 0 0 64 17 a b (wD D S T v l)
def wB (a b D S T v : Int) (l : List UInt8) : List UInt8 := fbs (vip b) (vip a) 2048 (wP a b D S T v l)
theorem wD_len (D S T v : Int) (l : List UInt8) : (wD D S T v l).length = 30 + l.length := by unfold wD; rw [uds_len, List.length_append, vhd_len, fbs_len]; omega
theorem wP_len (a b D S T v : Int) (l : List UInt8) : (wP a b D S T v l).length = 50 + l.length := by unfold wP; rw [pbs_len, wD_len]; omega
theorem wB_len (a b D S T v : Int) (l : List UInt8) : (wB a b D S T v l).length = 64 + l.length := by unfold wB; rw [fbs_len, wP_len]; omega
theorem wE_tag {D S T v : Int} {n : Nat} (h : T = 33024) : wE D S T v n = 15 := by unfold wE; rw [if_pos h]
theorem wE_put {D S T v : Int} {n : Nat} (h : ¬ T = 33024) (g : ¬ pE D S T n = 0) : wE D S T v n = pE D S T n := by unfold wE; rw [if_neg h, if_neg g]
theorem wE_vni {D S T v : Int} {n : Nat} (h : ¬ T = 33024) (g : pE D S T n = 0) (k : ¬ vhE v = 0) : wE D S T v n = 17 := by unfold wE; rw [if_neg h, if_pos g, if_neg k]
theorem wE_long {D S T v : Int} {n : Nat} (h : ¬ T = 33024) (g : pE D S T n = 0) (k : vhE v = 0) (j : 1450 < n) : wE D S T v n = 14 := by unfold wE; rw [if_neg h, if_pos g, if_pos k, if_pos j]
theorem wE_ok {D S T v : Int} {n : Nat} (h : ¬ T = 33024) (g : pE D S T n = 0) (k : vhE v = 0) (j : ¬ 1450 < n) : wE D S T v n = 0 := by unfold wE; rw [if_neg h, if_pos g, if_pos k, if_neg j]

/-- why nothing is unwrapped: of the frame within, of the head, of the datagram, of the packet, of the frame around -/
def uE4 (g : List UInt8) : Int := if tE g = 0 then (if two g 12 = 33024 then 15 else 0) else tE g
def uE3 (x : List UInt8) : Int := if vnE x = 0 then uE4 (x.drop 8) else vnE x
def uE2 (d : List UInt8) : Int := if udE d = 0 then (if two d 2 = 4789 then uE3 (udB d) else 11) else udE d
def uE1 (p : List UInt8) : Int := if rE p = 0 then (if bat p 9 = 17 then uE2 (bodyF p) else 11) else rE p
def uE (b : List UInt8) : Int := if tE b = 0 then (if two b 12 = 2048 then uE1 (b.drop 14) else 11) else tE b
end Go.Proofs.Ytgmeicenjgiihaa
