/- XStShape; XStReadAll -/
import Derived.Test.YthobolmedppneaaGreatKb17
import Derived.Test.YthobolmedppneaaGreatKb05
/- What a line that is read is, kind by kind. -/
namespace Go.Proofs.YthobolmedppneaaGreat
open Go.RowKit

/-- may an address be a device's, or a station's? -/
def McOk (m : Int) : Prop := 0 ≤ m ∧ m < 281474976710656 ∧ stB m = true
/-- a list of numbers up to hi, or none -/
def LsOk (hi : Int) (xs : List Int) : Prop := xs = [] ∨ risIn xs 1 hi = true
/-! Letters. -/
/-! Kinds. -/
def Kd1 (row : Int) (L : LV) : Prop := ∃ s a m, L = { LV.new row 1 with dev := s, num := a, mac := m } ∧ nmB s = true ∧ (0 ≤ a ∧ a ≤ 65535) ∧ McOk m
def Kd2 (row : Int) (L : LV) : Prop := ∃ s p c v t, L = { LV.new row 2 with dev := s, port := p, cost := c, vlan := v, tagged := t } ∧ nmB s = true ∧ nmB p = true ∧ (1 ≤ c ∧ c ≤ 65535) ∧ (0 ≤ v ∧ v ≤ 4094) ∧ LsOk 4094 t
def Kd3 (row : Int) (L : LV) : Prop := ∃ s p q r, L = { LV.new row 3 with dev := s, port := p, peer := q, far := r } ∧ nmB s = true ∧ nmB p = true ∧ nmB q = true ∧ nmB r = true
def Kd4 (row : Int) (L : LV) : Prop := ∃ s v m p, L = { LV.new row 4 with dev := s, vlan := v, mac := m, port := p } ∧ nmB s = true ∧ (1 ≤ v ∧ v ≤ 4094) ∧ McOk m ∧ nmB p = true
def Kd5 (row : Int) (L : LV) : Prop := ∃ s a, L = { LV.new row 5 with dev := s, addr := a } ∧ nmB s = true ∧ (0 < a ∧ a ≤ 4294967295)
def Kd6 (row : Int) (L : LV) : Prop := ∃ s v a, L = { LV.new row 6 with dev := s, vlan := v, num := a } ∧ nmB s = true ∧ (1 ≤ v ∧ v ≤ 4094) ∧ (1 ≤ a ∧ a ≤ 16777215)
def Kd7 (row : Int) (L : LV) : Prop := ∃ s a x, L = { LV.new row 7 with dev := s, num := a, addrs := x } ∧ nmB s = true ∧ (1 ≤ a ∧ a ≤ 16777215) ∧ (risIn x 0 4294967295 = true ∧ 0 < x.getD 0 0)
def Kd8 (row : Int) (L : LV) : Prop := ∃ s n x y, L = { LV.new row 8 with dev := s, name := n, imports := x, exports := y } ∧ nmB s = true ∧ nmB n = true ∧ LsOk 65535 x ∧ LsOk 65535 y
def Kd9 (row : Int) (L : LV) : Prop := ∃ s v n a b, L = { LV.new row 9 with dev := s, vlan := v, name := n, addr := a, bits := b } ∧ nmB s = true ∧ (1 ≤ v ∧ v ≤ 4094) ∧ nmB n = true ∧ (snB a b = true ∧ (0 ≤ a ∧ a ≤ 4294967295) ∧ (0 ≤ b ∧ b ≤ 32))
def RdK (row : Int) (L : LV) : Prop := Kd1 row L ∨ (Kd2 row L ∧ mbB L = true) ∨ Kd3 row L ∨ Kd4 row L ∨ Kd5 row L ∨ Kd6 row L ∨ Kd7 row L ∨ Kd8 row L ∨ Kd9 row L
end Go.Proofs.YthobolmedppneaaGreat

/- The contract of palingref11.Read. The chapter's examples: which lines they are, or why none. -/
namespace Go.Proofs.YthobolmedppneaaGreat
open Go.RowKit

theorem fm_port7 {ws : List (List UInt8)} (p : wat ws 0 = sPort) (r : ws.length = 7) (g : ¬ wat ws 4 = sAccess) : fmV ws = [78, 78, 67, 75, 87, 84] := by
  have h0 : ¬ ws = [] := by intro e; subst e; cases r
  have k : kdV (wat ws 0) = 2 := by rw [p]; decide +kernel
  unfold fmV
  rw [if_neg h0, if_neg (by rw [k]; decide), if_neg (by rw [k]; decide), if_neg (by rw [k]; decide), if_neg (by rw [k]; decide), if_neg (by rw [k]; decide), if_neg (by rw [k]; decide), if_neg (by rw [k]; decide), if_neg (by rw [k]; decide), if_pos k, if_pos ⟨r, g⟩]
end Go.Proofs.YthobolmedppneaaGreat

namespace Go.Proofs.YthobolmedppneaaGreat
open Go.RowKit

def exW2 : List (List UInt8) := [[112, 111, 114, 116], [115, 119, 49], [112, 49], [52], [116, 114, 117, 110, 107], [49, 48], [49, 48, 44, 50, 48]]
def exL1 : LV := { LV.new 7 2 with dev := [115, 119, 49], port := [112, 49], cost := 4, vlan := 10 }
theorem st_itoa10 : Lib.itoa 10 = [49, 48] := by rw [show (10 : Int) = ((10 : Nat) : Int) from rfl, itoa_pos, dec_big (by omega), dec_small (by omega)]; rfl
theorem st_itoa20 : Lib.itoa 20 = [50, 48] := by rw [show (20 : Int) = ((20 : Nat) : Int) from rfl, itoa_pos, dec_big (by omega), dec_small (by omega)]; rfl
theorem st_itoa4 : Lib.itoa 4 = [52] := by rw [show (4 : Int) = ((4 : Nat) : Int) from rfl, itoa_pos, dec_small (by omega)]; rfl
theorem st_n10 : nF [49, 48] 1 4094 = some 10 := nF_iff.2 ⟨st_itoa10, by decide, by omega, by omega⟩
theorem st_n20 : nF [50, 48] 1 4094 = some 20 := nF_iff.2 ⟨st_itoa20, by decide, by omega, by omega⟩
theorem st_n4 : nF [52] 1 65535 = some 4 := nF_iff.2 ⟨st_itoa4, by decide, by omega, by omega⟩
theorem st_list : rlF (rdI 1 4094) [49, 48, 44, 50, 48] = some [10, 20] := by
  refine rlF_yes ?_ (by decide)
  rw [show splitC [49, 48, 44, 50, 48] = [[49, 48], [50, 48]] by decide]
  simp [allRd, rdI, st_n10, st_n20]
theorem st_sw1 : nmB [115, 119, 49] = true := (nmB_iff _).2 ⟨by decide, by decide, ⟨by decide, by decide⟩, fun j hj => by
  have hj2 : j < 3 := hj
  have : j = 0 ∨ j = 1 ∨ j = 2 := by omega
  rcases this with rfl | rfl | rfl
  · exact .inl ⟨by decide, by decide⟩
  · exact .inl ⟨by decide, by decide⟩
  · exact .inr ⟨by decide, by decide⟩⟩
theorem st_p1 : nmB [112, 49] = true := (nmB_iff _).2 ⟨by decide, by decide, ⟨by decide, by decide⟩, fun j hj => by
  have hj2 : j < 2 := hj
  have : j = 0 ∨ j = 1 := by omega
  rcases this with rfl | rfl
  · exact .inl ⟨by decide, by decide⟩
  · exact .inr ⟨by decide, by decide⟩⟩
theorem run_ok {c : UInt8} {f : List UInt8} {s : List UInt8} {ws : List (List UInt8)} {k : Nat} {L : LV} (h : wdE c s = 0) : runS (c :: f) (s :: ws) k L = runS f ws (if c = 78 then k + 1 else k) (wdL c s k L) := by rw [runS, if_pos h]
theorem wdE_N {s : List UInt8} (h : nmB s = true) : wdE 78 s = 0 := by show (if nmB s = true then (0 : Int) else 20) = 0; exact if_pos h
theorem wdE_num {c : UInt8} {s : List UInt8} {b : Bool} (e : wdE c s = if b = true then 0 else 21) (h : b = true) : wdE c s = 0 := by rw [e, if_pos h]
theorem wdE_K {s : List UInt8} (h : s = sAccess ∨ s = sTrunk) : wdE 75 s = 0 := by
  have e : wdE 75 s = if s = sAccess ∨ s = sTrunk then 0 else 20 := rfl
  rw [e, if_pos h]
theorem nB_of {s : List UInt8} {lo hi n : Int} (h : nF s lo hi = some n) : nB s lo hi = true ∧ nV s lo hi = n := by unfold nB nV; rw [h]; exact ⟨rfl, rfl⟩
theorem rd_of {ws : List (List UInt8)} {row : Int} {F : List UInt8} (hf : fmV ws = F) (h0 : F ≠ []) (h1 : ws.length = F.length + 1) {k : Int} (hk : kdV (wat ws 0) = k) {E : Int} {L : LV} (hr : runS F (ws.drop 1) 0 (LV.new row k) = (E, L)) :
    rdE ws row = (if E = 0 then (if L.kind = 2 ∧ mbB L = false then 21 else 0) else E) ∧ rdL ws row = if rdE ws row = 0 then L else LV.zero := by
  subst hf
  have e0 : ltV ws = fmV ws := if_pos ⟨h0, h1⟩
  constructor
  · unfold rdE
    rw [e0, if_neg h0, hk, hr]
  · unfold rdL
    rw [e0, hk, hr]
theorem ex2_run : runS [78, 78, 67, 75, 87, 84] (exW2.drop 1) 0 (LV.new 7 2) = (0, { exL1 with tagged := [10, 20] }) := by
  show runS [78, 78, 67, 75, 87, 84] [[115, 119, 49], [112, 49], [52], [116, 114, 117, 110, 107], [49, 48], [49, 48, 44, 50, 48]] 0 (LV.new 7 2) = _
  have c4 := nB_of st_n4
  have v10 := nB_of st_n10
  have hd : ¬ ([49, 48, 44, 50, 48] : List UInt8) = dash := by decide
  have t1 : lsDB [49, 48, 44, 50, 48] 4094 = true := by unfold lsDB; rw [if_neg hd]; exact (ls_yes st_list).2
  have t2 : lsD [49, 48, 44, 50, 48] 4094 = [10, 20] := by unfold lsD; rw [if_neg hd]; exact (ls_yes st_list).1
  rw [run_ok (wdE_N st_sw1), run_ok (wdE_N st_p1), run_ok (wdE_num (b := nB [52] 1 65535) rfl c4.1), run_ok (wdE_K (s := [116, 114, 117, 110, 107]) (.inr rfl)), run_ok (wdE_num (c := 87) (b := nB [49, 48] 1 4094 || decide ([49, 48] = dash)) rfl (by rw [v10.1]; rfl)), run_ok (wdE_num (c := 84) (b := lsDB [49, 48, 44, 50, 48] 4094) rfl t1)]
  show ((0 : Int), ({ LV.new 7 2 with dev := [115, 119, 49], port := [112, 49], cost := nV [52] 1 65535, vlan := nV [49, 48] 1 4094, tagged := lsD [49, 48, 44, 50, 48] 4094 } : LV)) = _
  rw [c4.2, v10.2, t2]
  rfl
theorem ex2 : rdE exW2 7 = 21 := by
  obtain ⟨h1, h2⟩ := rd_of (ws := exW2) (row := 7) (fm_port7 rfl rfl (by decide)) (by simp) rfl (show kdV (wat exW2 0) = 2 by decide +kernel) ex2_run
  rw [h1]
  decide +kernel
end Go.Proofs.YthobolmedppneaaGreat

