/- What is taken is put as it stood there; what one turned bit, and one hop, do to a packet's bytes. -/
import Derived.Test.YtgmeicenjgiihaaPkMath
namespace Go.Proofs.Ytgmeicenjgiihaa
open Go.RowKit
open Go.Lib (byteCells)

set_option maxRecDepth 100000 in
theorem pS_head (k : List UInt8) (h : 20 ≤ k.length) (h0 : bat k 0 = 69) (h6 : two k 6 = 0) (n : Nat) (hn : 20 + (n : Int) = two k 2) :
    pS (k.take 20) = hsum (bat k 1) (two k 4) (bat k 8) (bat k 9) (four k 12) (four k 16) n + two k 10 := by
  obtain ⟨a0, k0, rfl, y0⟩ := uncons k 19 h
  obtain ⟨a1, k1, rfl, y1⟩ := uncons k0 18 y0
  obtain ⟨a2, k2, rfl, y2⟩ := uncons k1 17 y1
  obtain ⟨a3, k3, rfl, y3⟩ := uncons k2 16 y2
  obtain ⟨a4, k4, rfl, y4⟩ := uncons k3 15 y3
  obtain ⟨a5, k5, rfl, y5⟩ := uncons k4 14 y4
  obtain ⟨a6, k6, rfl, y6⟩ := uncons k5 13 y5
  obtain ⟨a7, k7, rfl, y7⟩ := uncons k6 12 y6
  obtain ⟨a8, k8, rfl, y8⟩ := uncons k7 11 y7
  obtain ⟨a9, k9, rfl, y9⟩ := uncons k8 10 y8
  obtain ⟨a10, k10, rfl, y10⟩ := uncons k9 9 y9
  obtain ⟨a11, k11, rfl, y11⟩ := uncons k10 8 y10
  obtain ⟨a12, k12, rfl, y12⟩ := uncons k11 7 y11
  obtain ⟨a13, k13, rfl, y13⟩ := uncons k12 6 y12
  obtain ⟨a14, k14, rfl, y14⟩ := uncons k13 5 y13
  obtain ⟨a15, k15, rfl, y15⟩ := uncons k14 4 y14
  obtain ⟨a16, k16, rfl, y16⟩ := uncons k15 3 y15
  obtain ⟨a17, k17, rfl, y17⟩ := uncons k16 2 y16
  obtain ⟨a18, k18, rfl, y18⟩ := uncons k17 1 y17
  obtain ⟨a19, r, rfl, y19⟩ := uncons k18 0 y18
  show pS [a0, a1, a2, a3, a4, a5, a6, a7, a8, a9, a10, a11, a12, a13, a14, a15, a16, a17, a18, a19] = _
  have e2 : two (a0 :: a1 :: a2 :: a3 :: a4 :: a5 :: a6 :: a7 :: a8 :: a9 :: a10 :: a11 :: a12 :: a13 :: a14 :: a15 :: a16 :: a17 :: a18 :: a19 :: r) 2 = (a2.toNat : Int) * 256 + (a3.toNat : Int) := rfl
  have e4 : two (a0 :: a1 :: a2 :: a3 :: a4 :: a5 :: a6 :: a7 :: a8 :: a9 :: a10 :: a11 :: a12 :: a13 :: a14 :: a15 :: a16 :: a17 :: a18 :: a19 :: r) 4 = (a4.toNat : Int) * 256 + (a5.toNat : Int) := rfl
  have e6 : two (a0 :: a1 :: a2 :: a3 :: a4 :: a5 :: a6 :: a7 :: a8 :: a9 :: a10 :: a11 :: a12 :: a13 :: a14 :: a15 :: a16 :: a17 :: a18 :: a19 :: r) 6 = (a6.toNat : Int) * 256 + (a7.toNat : Int) := rfl
  have e10 : two (a0 :: a1 :: a2 :: a3 :: a4 :: a5 :: a6 :: a7 :: a8 :: a9 :: a10 :: a11 :: a12 :: a13 :: a14 :: a15 :: a16 :: a17 :: a18 :: a19 :: r) 10 = (a10.toNat : Int) * 256 + (a11.toNat : Int) := rfl
  have f0 : bat (a0 :: a1 :: a2 :: a3 :: a4 :: a5 :: a6 :: a7 :: a8 :: a9 :: a10 :: a11 :: a12 :: a13 :: a14 :: a15 :: a16 :: a17 :: a18 :: a19 :: r) 0 = (a0.toNat : Int) := rfl
  have f1 : bat (a0 :: a1 :: a2 :: a3 :: a4 :: a5 :: a6 :: a7 :: a8 :: a9 :: a10 :: a11 :: a12 :: a13 :: a14 :: a15 :: a16 :: a17 :: a18 :: a19 :: r) 1 = (a1.toNat : Int) := rfl
  have f8 : bat (a0 :: a1 :: a2 :: a3 :: a4 :: a5 :: a6 :: a7 :: a8 :: a9 :: a10 :: a11 :: a12 :: a13 :: a14 :: a15 :: a16 :: a17 :: a18 :: a19 :: r) 8 = (a8.toNat : Int) := rfl
  have f9 : bat (a0 :: a1 :: a2 :: a3 :: a4 :: a5 :: a6 :: a7 :: a8 :: a9 :: a10 :: a11 :: a12 :: a13 :: a14 :: a15 :: a16 :: a17 :: a18 :: a19 :: r) 9 = (a9.toNat : Int) := rfl
  have g12 : four (a0 :: a1 :: a2 :: a3 :: a4 :: a5 :: a6 :: a7 :: a8 :: a9 :: a10 :: a11 :: a12 :: a13 :: a14 :: a15 :: a16 :: a17 :: a18 :: a19 :: r) 12 = ((a12.toNat : Int) * 256 + (a13.toNat : Int)) * 65536 + ((a14.toNat : Int) * 256 + (a15.toNat : Int)) := rfl
  have g16 : four (a0 :: a1 :: a2 :: a3 :: a4 :: a5 :: a6 :: a7 :: a8 :: a9 :: a10 :: a11 :: a12 :: a13 :: a14 :: a15 :: a16 :: a17 :: a18 :: a19 :: r) 16 = ((a16.toNat : Int) * 256 + (a17.toNat : Int)) * 65536 + ((a18.toNat : Int) * 256 + (a19.toNat : Int)) := rfl
  rw [f0] at h0
  rw [e6] at h6
  rw [e2] at hn
  rw [f1, e4, f8, f9, g12, g16, e10]
  simp only [pS]
  unfold hsum
  have t0 := a0.toNat_lt
  have t1 := a1.toNat_lt
  have t2 := a2.toNat_lt
  have t3 := a3.toNat_lt
  have t4 := a4.toNat_lt
  have t5 := a5.toNat_lt
  have t6 := a6.toNat_lt
  have t7 := a7.toNat_lt
  have t8 := a8.toNat_lt
  have t9 := a9.toNat_lt
  have t10 := a10.toNat_lt
  have t11 := a11.toNat_lt
  have t12 := a12.toNat_lt
  have t13 := a13.toNat_lt
  have t14 := a14.toNat_lt
  have t15 := a15.toNat_lt
  have t16 := a16.toNat_lt
  have t17 := a17.toNat_lt
  have t18 := a18.toNat_lt
  have t19 := a19.toNat_lt
  omega
set_option maxRecDepth 100000 in
theorem head_back (k : List UInt8) (h : 20 ≤ k.length) (h0 : bat k 0 = 69) (h6 : two k 6 = 0) (n : Nat) (hn : 20 + (n : Int) = two k 2) :
    hd (bat k 1) (two k 4) (bat k 8) (bat k 9) (four k 12) (four k 16) n (two k 10) = k.take 20 := by
  obtain ⟨a0, k0, rfl, y0⟩ := uncons k 19 h
  obtain ⟨a1, k1, rfl, y1⟩ := uncons k0 18 y0
  obtain ⟨a2, k2, rfl, y2⟩ := uncons k1 17 y1
  obtain ⟨a3, k3, rfl, y3⟩ := uncons k2 16 y2
  obtain ⟨a4, k4, rfl, y4⟩ := uncons k3 15 y3
  obtain ⟨a5, k5, rfl, y5⟩ := uncons k4 14 y4
  obtain ⟨a6, k6, rfl, y6⟩ := uncons k5 13 y5
  obtain ⟨a7, k7, rfl, y7⟩ := uncons k6 12 y6
  obtain ⟨a8, k8, rfl, y8⟩ := uncons k7 11 y7
  obtain ⟨a9, k9, rfl, y9⟩ := uncons k8 10 y8
  obtain ⟨a10, k10, rfl, y10⟩ := uncons k9 9 y9
  obtain ⟨a11, k11, rfl, y11⟩ := uncons k10 8 y10
  obtain ⟨a12, k12, rfl, y12⟩ := uncons k11 7 y11
  obtain ⟨a13, k13, rfl, y13⟩ := uncons k12 6 y12
  obtain ⟨a14, k14, rfl, y14⟩ := uncons k13 5 y13
  obtain ⟨a15, k15, rfl, y15⟩ := uncons k14 4 y14
  obtain ⟨a16, k16, rfl, y16⟩ := uncons k15 3 y15
  obtain ⟨a17, k17, rfl, y17⟩ := uncons k16 2 y16
  obtain ⟨a18, k18, rfl, y18⟩ := uncons k17 1 y17
  obtain ⟨a19, r, rfl, y19⟩ := uncons k18 0 y18
  show _ = [a0, a1, a2, a3, a4, a5, a6, a7, a8, a9, a10, a11, a12, a13, a14, a15, a16, a17, a18, a19]
  have e2 : two (a0 :: a1 :: a2 :: a3 :: a4 :: a5 :: a6 :: a7 :: a8 :: a9 :: a10 :: a11 :: a12 :: a13 :: a14 :: a15 :: a16 :: a17 :: a18 :: a19 :: r) 2 = (a2.toNat : Int) * 256 + (a3.toNat : Int) := rfl
  have e4 : two (a0 :: a1 :: a2 :: a3 :: a4 :: a5 :: a6 :: a7 :: a8 :: a9 :: a10 :: a11 :: a12 :: a13 :: a14 :: a15 :: a16 :: a17 :: a18 :: a19 :: r) 4 = (a4.toNat : Int) * 256 + (a5.toNat : Int) := rfl
  have e6 : two (a0 :: a1 :: a2 :: a3 :: a4 :: a5 :: a6 :: a7 :: a8 :: a9 :: a10 :: a11 :: a12 :: a13 :: a14 :: a15 :: a16 :: a17 :: a18 :: a19 :: r) 6 = (a6.toNat : Int) * 256 + (a7.toNat : Int) := rfl
  have e10 : two (a0 :: a1 :: a2 :: a3 :: a4 :: a5 :: a6 :: a7 :: a8 :: a9 :: a10 :: a11 :: a12 :: a13 :: a14 :: a15 :: a16 :: a17 :: a18 :: a19 :: r) 10 = (a10.toNat : Int) * 256 + (a11.toNat : Int) := rfl
  have f0 : bat (a0 :: a1 :: a2 :: a3 :: a4 :: a5 :: a6 :: a7 :: a8 :: a9 :: a10 :: a11 :: a12 :: a13 :: a14 :: a15 :: a16 :: a17 :: a18 :: a19 :: r) 0 = (a0.toNat : Int) := rfl
  have f1 : bat (a0 :: a1 :: a2 :: a3 :: a4 :: a5 :: a6 :: a7 :: a8 :: a9 :: a10 :: a11 :: a12 :: a13 :: a14 :: a15 :: a16 :: a17 :: a18 :: a19 :: r) 1 = (a1.toNat : Int) := rfl
  have f8 : bat (a0 :: a1 :: a2 :: a3 :: a4 :: a5 :: a6 :: a7 :: a8 :: a9 :: a10 :: a11 :: a12 :: a13 :: a14 :: a15 :: a16 :: a17 :: a18 :: a19 :: r) 8 = (a8.toNat : Int) := rfl
  have f9 : bat (a0 :: a1 :: a2 :: a3 :: a4 :: a5 :: a6 :: a7 :: a8 :: a9 :: a10 :: a11 :: a12 :: a13 :: a14 :: a15 :: a16 :: a17 :: a18 :: a19 :: r) 9 = (a9.toNat : Int) := rfl
  have g12 : four (a0 :: a1 :: a2 :: a3 :: a4 :: a5 :: a6 :: a7 :: a8 :: a9 :: a10 :: a11 :: a12 :: a13 :: a14 :: a15 :: a16 :: a17 :: a18 :: a19 :: r) 12 = ((a12.toNat : Int) * 256 + (a13.toNat : Int)) * 65536 + ((a14.toNat : Int) * 256 + (a15.toNat : Int)) := rfl
  have g16 : four (a0 :: a1 :: a2 :: a3 :: a4 :: a5 :: a6 :: a7 :: a8 :: a9 :: a10 :: a11 :: a12 :: a13 :: a14 :: a15 :: a16 :: a17 :: a18 :: a19 :: r) 16 = ((a16.toNat : Int) * 256 + (a17.toNat : Int)) * 65536 + ((a18.toNat : Int) * 256 + (a19.toNat : Int)) := rfl
  rw [f0] at h0
  rw [e6] at h6
  rw [e2] at hn
  rw [f1, e4, f8, f9, g12, g16, e10, hd_list]
  have t0 := a0.toNat_lt
  have t1 := a1.toNat_lt
  have t2 := a2.toNat_lt
  have t3 := a3.toNat_lt
  have t4 := a4.toNat_lt
  have t5 := a5.toNat_lt
  have t6 := a6.toNat_lt
  have t7 := a7.toNat_lt
  have t8 := a8.toNat_lt
  have t9 := a9.toNat_lt
  have t10 := a10.toNat_lt
  have t11 := a11.toNat_lt
  have t12 := a12.toNat_lt
  have t13 := a13.toNat_lt
  have t14 := a14.toNat_lt
  have t15 := a15.toNat_lt
  have t16 := a16.toNat_lt
  have t17 := a17.toNat_lt
  have t18 := a18.toNat_lt
  have t19 := a19.toNat_lt
  have q0 : (69 : UInt8) = a0 := UInt8.toNat_inj.1 (by simp; omega)
  have q6 : (0 : UInt8) = a6 := UInt8.toNat_inj.1 (by simp; omega)
  have q7 : (0 : UInt8) = a7 := UInt8.toNat_inj.1 (by simp; omega)
  have q1 : u8 ((a1.toNat : Int) % 256) = a1 := by rw [show (a1.toNat : Int) % 256 = (a1.toNat : Int) by omega, u8_nat]
  have q2 : u8 ((20 + (n : Int)) / 256 % 256) = a2 := by rw [show (20 + (n : Int)) / 256 % 256 = (a2.toNat : Int) by omega, u8_nat]
  have q3 : u8 ((20 + (n : Int)) % 256) = a3 := by rw [show (20 + (n : Int)) % 256 = (a3.toNat : Int) by omega, u8_nat]
  have q4 : u8 (((a4.toNat : Int) * 256 + (a5.toNat : Int)) / 256 % 256) = a4 := by rw [show ((a4.toNat : Int) * 256 + (a5.toNat : Int)) / 256 % 256 = (a4.toNat : Int) by omega, u8_nat]
  have q5 : u8 (((a4.toNat : Int) * 256 + (a5.toNat : Int)) % 256) = a5 := by rw [show ((a4.toNat : Int) * 256 + (a5.toNat : Int)) % 256 = (a5.toNat : Int) by omega, u8_nat]
  have q8 : u8 ((a8.toNat : Int) % 256) = a8 := by rw [show (a8.toNat : Int) % 256 = (a8.toNat : Int) by omega, u8_nat]
  have q9 : u8 ((a9.toNat : Int) % 256) = a9 := by rw [show (a9.toNat : Int) % 256 = (a9.toNat : Int) by omega, u8_nat]
  have q10 : u8 (((a10.toNat : Int) * 256 + (a11.toNat : Int)) / 256 % 256) = a10 := by rw [show ((a10.toNat : Int) * 256 + (a11.toNat : Int)) / 256 % 256 = (a10.toNat : Int) by omega, u8_nat]
  have q11 : u8 (((a10.toNat : Int) * 256 + (a11.toNat : Int)) % 256) = a11 := by rw [show ((a10.toNat : Int) * 256 + (a11.toNat : Int)) % 256 = (a11.toNat : Int) by omega, u8_nat]
  have q12 : u8 ((((a12.toNat : Int) * 256 + (a13.toNat : Int)) * 65536 + ((a14.toNat : Int) * 256 + (a15.toNat : Int))) / 256 / 256 / 256 % 256) = a12 := by rw [show (((a12.toNat : Int) * 256 + (a13.toNat : Int)) * 65536 + ((a14.toNat : Int) * 256 + (a15.toNat : Int))) / 256 / 256 / 256 % 256 = (a12.toNat : Int) by omega, u8_nat]
  have q13 : u8 ((((a12.toNat : Int) * 256 + (a13.toNat : Int)) * 65536 + ((a14.toNat : Int) * 256 + (a15.toNat : Int))) / 256 / 256 % 256) = a13 := by rw [show (((a12.toNat : Int) * 256 + (a13.toNat : Int)) * 65536 + ((a14.toNat : Int) * 256 + (a15.toNat : Int))) / 256 / 256 % 256 = (a13.toNat : Int) by omega, u8_nat]
  have q14 : u8 ((((a12.toNat : Int) * 256 + (a13.toNat : Int)) * 65536 + ((a14.toNat : Int) * 256 + (a15.toNat : Int))) / 256 % 256) = a14 := by rw [show (((a12.toNat : Int) * 256 + (a13.toNat : Int)) * 65536 + ((a14.toNat : Int) * 256 + (a15.toNat : Int))) / 256 % 256 = (a14.toNat : Int) by omega, u8_nat]
  have q15 : u8 ((((a12.toNat : Int) * 256 + (a13.toNat : Int)) * 65536 + ((a14.toNat : Int) * 256 + (a15.toNat : Int))) % 256) = a15 := by rw [show (((a12.toNat : Int) * 256 + (a13.toNat : Int)) * 65536 + ((a14.toNat : Int) * 256 + (a15.toNat : Int))) % 256 = (a15.toNat : Int) by omega, u8_nat]
  have q16 : u8 ((((a16.toNat : Int) * 256 + (a17.toNat : Int)) * 65536 + ((a18.toNat : Int) * 256 + (a19.toNat : Int))) / 256 / 256 / 256 % 256) = a16 := by rw [show (((a16.toNat : Int) * 256 + (a17.toNat : Int)) * 65536 + ((a18.toNat : Int) * 256 + (a19.toNat : Int))) / 256 / 256 / 256 % 256 = (a16.toNat : Int) by omega, u8_nat]
  have q17 : u8 ((((a16.toNat : Int) * 256 + (a17.toNat : Int)) * 65536 + ((a18.toNat : Int) * 256 + (a19.toNat : Int))) / 256 / 256 % 256) = a17 := by rw [show (((a16.toNat : Int) * 256 + (a17.toNat : Int)) * 65536 + ((a18.toNat : Int) * 256 + (a19.toNat : Int))) / 256 / 256 % 256 = (a17.toNat : Int) by omega, u8_nat]
  have q18 : u8 ((((a16.toNat : Int) * 256 + (a17.toNat : Int)) * 65536 + ((a18.toNat : Int) * 256 + (a19.toNat : Int))) / 256 % 256) = a18 := by rw [show (((a16.toNat : Int) * 256 + (a17.toNat : Int)) * 65536 + ((a18.toNat : Int) * 256 + (a19.toNat : Int))) / 256 % 256 = (a18.toNat : Int) by omega, u8_nat]
  have q19 : u8 ((((a16.toNat : Int) * 256 + (a17.toNat : Int)) * 65536 + ((a18.toNat : Int) * 256 + (a19.toNat : Int))) % 256) = a19 := by rw [show (((a16.toNat : Int) * 256 + (a17.toNat : Int)) * 65536 + ((a18.toNat : Int) * 256 + (a19.toNat : Int))) % 256 = (a19.toNat : Int) by omega, u8_nat]
  rw [q1, q2, q3, q4, q5, q8, q9, q10, q11, q12, q13, q14, q15, q16, q17, q18, q19]
  simp only [List.cons.injEq, and_true, true_and]
  exact ⟨q0, q6, q7⟩
theorem pok_of (k : List UInt8) : pok (bat k 1) (two k 4) (bat k 8) (bat k 9) := by
  have h1 := bat_lo k 1; have h2 := bat_hi k 1; have h3 := bat_lo k 8; have h4 := bat_hi k 8; have h5 := bat_lo k 9; have h6 := bat_hi k 9
  have h7 := two_bd k 4
  exact ⟨⟨by omega, by omega⟩, ⟨by omega, by omega⟩, ⟨by omega, by omega⟩, ⟨by omega, by omega⟩⟩
/-- what is taken is put as it stood there, or its sum is the other one of the two that are one -/
theorem put_back (k : List UInt8) (h : rE k = 0) (hn : (bodyF k).length ≤ 1480) :
    let P := pbs (bat k 1) (two k 4) (bat k 8) (bat k 9) (four k 12) (four k 16) (bodyF k)
    P.length ≤ k.length ∧ (P = k.take P.length ∨ (bat k 10 = 255 ∧ bat k 11 = 255 ∧ bat P 10 = 0 ∧ bat P 11 = 0)) := by
  rcases rE_cases k with ⟨_, g20, g0, gs, gl, g6, gr⟩ | e | e | e
  · have hb := bodyF_len gs gl
    have hn2 : 20 + ((bodyF k).length : Int) = two k 2 := by omega
    have hp := pok_of k
    have hS := four_bd k 12
    have hD := four_bd k 16
    have e1 := pS_head k g20 g0 g6 _ hn2
    have hpos := hsum_pos (n := (bodyF k).length) hp hS hD
    obtain ⟨z0, z1⟩ := two_bd k 10
    rw [sumF_nm _ 0 (by decide) (by decide), Int.zero_add, e1] at gr
    have hlen := pbs_len (bat k 1) (two k 4) (bat k 8) (bat k 9) (four k 12) (four k 16) (bodyF k)
    refine ⟨by rw [hlen]; omega, ?_⟩
    by_cases hs : two k 10 = ck (bat k 1) (two k 4) (bat k 8) (bat k 9) (four k 12) (four k 16) (bodyF k).length
    · left
      rw [hlen]
      unfold pbs
      rw [← hs, head_back k g20 g0 g6 _ hn2]
      unfold bodyF at hb ⊢
      rw [List.drop_take]
      rw [List.length_drop, List.length_take] at hb
      rw [List.length_take, List.length_drop]
      rw [show (two k 2).toNat = 20 + ((two k 2).toNat - 20) by omega, List.take_add, Nat.add_sub_cancel_left]
      congr 2
      omega
    · right
      have hc : two k 10 = 65535 ∧ ck (bat k 1) (two k 4) (bat k 8) (bat k 9) (four k 12) (four k 16) (bodyF k).length = 0 := by
        unfold ck at hs ⊢
        generalize hsum (bat k 1) (two k 4) (bat k 8) (bat k 9) (four k 12) (four k 16) (bodyF k).length = Y at *
        generalize two k 10 = s at *
        unfold nm at gr hs ⊢
        rw [if_neg (show ¬ Y = 0 by omega)] at hs ⊢
        rw [if_neg (show ¬ Y + s = 0 by omega)] at gr
        omega
      have b0 := bat_lo k 10; have b1 := bat_hi k 10; have b2 := bat_lo k 11; have b3 := bat_hi k 11
      have hc1 : bat k 10 * 256 + bat k 11 = 65535 := hc.1
      refine ⟨by omega, by omega, ?_, ?_⟩
      · unfold pbs
        rw [hc.2, hd_list]
        show ((u8 (0 / 256 % 256)).toNat : Int) = 0
        decide
      · unfold pbs
        rw [hc.2, hd_list]
        show ((u8 (0 % 256)).toNat : Int) = 0
        decide
  all_goals rw [e] at h; cases h

/-! One bit turned. -/
theorem turned {M : List UInt8} {Y : Int} (h0 : 0 ≤ Y) (e0 : pS M = Y + (65535 - nm Y)) (k : Nat) (hk : k < M.length) (v : UInt8) (j : Nat) (hj : j < 8) (hv : (v.toNat : Int) = bat M k + 2 ^ j ∨ (v.toNat : Int) = bat M k - 2 ^ j) :
    sumF 0 (M.set k v) ≠ 65535 := by
  have h1 := pS_nonneg (M.set k v)
  rw [sumF_nm _ 0 (by decide) (by decide), Int.zero_add]
  have e := pS_set M k v hk
  rw [e0] at e
  have hd : ∃ d : Int, (v.toNat : Int) - bat M k = d ∧ (d = 2 ^ j ∨ d = - 2 ^ j) := ⟨_, rfl, by omega⟩
  obtain ⟨d, hd, hd2⟩ := hd
  rw [hd] at e
  have hp : (2 : Int) ^ j = 1 ∨ (2 : Int) ^ j = 2 ∨ (2 : Int) ^ j = 4 ∨ (2 : Int) ^ j = 8 ∨ (2 : Int) ^ j = 16 ∨ (2 : Int) ^ j = 32 ∨ (2 : Int) ^ j = 64 ∨ (2 : Int) ^ j = 128 := by
    match j, hj with
    | 0, _ | 1, _ | 2, _ | 3, _ | 4, _ | 5, _ | 6, _ | 7, _ => simp
  have hw : wgt k = 256 ∨ wgt k = 1 := by unfold wgt; split <;> simp
  have hm : ∃ m : Int, d * wgt k = m ∧ m ≠ 0 ∧ -65535 < m ∧ m < 65535 := by
    refine ⟨_, rfl, ?_⟩
    rcases hw with hw | hw <;> rw [hw] <;> omega
  obtain ⟨m, hm, hm0, hm1, hm2⟩ := hm
  rw [hm] at e
  generalize pS (M.set k v) = X at e h1
  unfold nm at e ⊢
  split
  · omega
  · split at e <;> omega
theorem bits_no (T I L R S D : Int) (l : List UInt8) (h : pok T I L R) (hS : 0 ≤ S ∧ S < 4294967296) (hD : 0 ≤ D ∧ D < 4294967296) (hn : l.length ≤ 1480) (k : Nat) (hk : k < 20) (v : UInt8) (j : Nat) (hj : j < 8)
    (hv : (v.toNat : Int) = bat (pbs T I L R S D l) k + 2 ^ j ∨ (v.toNat : Int) = bat (pbs T I L R S D l) k - 2 ^ j) : rE ((pbs T I L R S D l).set k v) = 10 ∨ rE ((pbs T I L R S D l).set k v) = 11 ∨ rE ((pbs T I L R S D l).set k v) = 12 := by
  have hp := pS_hd T I L R S D l.length (ck T I L R S D l.length) h hS hD hn (ck_bd ..)
  have hpos := hsum_pos (n := l.length) h hS hD
  have hl := hd_len T I L R S D l.length (ck T I L R S D l.length)
  have ht : ((pbs T I L R S D l).set k v).take 20 = (hd T I L R S D l.length (ck T I L R S D l.length)).set k v := by
    unfold pbs
    rw [List.set_append_left _ _ (by rw [hl]; exact hk), List.take_left' (by rw [List.length_set]; exact hl)]
  have hb : bat (pbs T I L R S D l) k = bat (hd T I L R S D l.length (ck T I L R S D l.length)) k := by
    unfold pbs
    rw [bat_app_left _ _ _ (by rw [hl]; exact hk)]
  rw [hb] at hv
  have hno := turned (Y := hsum T I L R S D l.length) (by omega) (by rw [hp]; rfl) k (by rw [hl]; exact hk) v j hj hv
  rcases rE_cases ((pbs T I L R S D l).set k v) with ⟨_, _, _, _, _, _, g⟩ | e | e | e
  · rw [ht] at g; exact absurd g hno
  · exact .inl e
  · exact .inr (.inl e)
  · exact .inr (.inr e)

/-! One hop. -/
theorem hop_sum (T I L R S D : Int) (n : Nat) (h : pok T I L R) (hL : 2 ≤ L) (hS : 0 ≤ S ∧ S < 4294967296) (hD : 0 ≤ D ∧ D < 4294967296) : tF (ck T I L R S D n) (L * 256 + R) ((L - 1) * 256 + R) = ck T I (L - 1) R S D n := by
  have hpos := hsum_pos (n := n) h hS hD
  obtain ⟨c0, c1⟩ := ck_bd T I L R S D n
  obtain ⟨⟨t0, t1⟩, ⟨l0, l1⟩, ⟨r0, r1⟩, ⟨i0, i1⟩⟩ := h
  rw [tF_nm ⟨c0, c1, by omega, by omega, by omega, by omega⟩]
  have e : hsum T I (L - 1) R S D n = hsum T I L R S D n - 256 := by unfold hsum; omega
  unfold ck
  rw [e]
  generalize hsum T I L R S D n = Y at *
  rw [show 65535 - (65535 - nm Y) + (65535 - (L * 256 + R)) + ((L - 1) * 256 + R) = nm Y + 65279 by omega]
  congr 1
  unfold nm
  rw [if_neg (show ¬ Y = 0 by omega), if_neg (show ¬ Y - 256 = 0 by omega), if_neg (by omega)]
  omega
theorem pbs_8 (T I L R S D : Int) (l : List UInt8) (h : pok T I L R) : bat (pbs T I L R S D l) 8 = L ∧ bat (pbs T I L R S D l) 9 = R := by
  obtain ⟨⟨t0, t1⟩, ⟨l0, l1⟩, ⟨r0, r1⟩, ⟨i0, i1⟩⟩ := h
  have v := fun x => u8_val (x % 256) (by omega) (by omega)
  unfold pbs
  rw [hd_list]
  refine ⟨?_, ?_⟩
  · show ((u8 _).toNat : Int) = _
    rw [v]; omega
  · show ((u8 _).toNat : Int) = _
    rw [v]; omega
theorem pbs_10 (T I L R S D : Int) (l : List UInt8) : two (pbs T I L R S D l) 10 = ck T I L R S D l.length := by
  obtain ⟨c0, c1⟩ := ck_bd T I L R S D l.length
  have v := fun x => u8_val (x % 256) (by omega) (by omega)
  unfold pbs
  generalize ck T I L R S D l.length = K at *
  rw [hd_list]
  show ((u8 _).toNat : Int) * 256 + ((u8 _).toNat : Int) = _
  rw [v, v]
  omega
theorem pbs_take (T I L R S D L' : Int) (l : List UInt8) : (pbs T I L R S D l).take 8 = (pbs T I L' R S D l).take 8 := by
  unfold pbs
  rw [hd_list, hd_list]
  rfl
theorem pbs_drop (T I L R S D L' : Int) (l : List UInt8) : (pbs T I L R S D l).drop 12 = (pbs T I L' R S D l).drop 12 := by
  unfold pbs
  rw [hd_list, hd_list]
  rfl
end Go.Proofs.Ytgmeicenjgiihaa
