/- Are two lines alike: the contract of stmt.Same (made by mk-stsamec.py). -/
import Derived.Test.YtagbfklcbekceaaGreatDoorStSameC1
import Derived.Test.YtagbfklcbekceaaGreatDoorStSameC2
import Derived.Test.YtagbfklcbekceaaGreatDoorStSameC3
namespace Go.Proofs.YtagbfklcbekceaaGreatDoor
open Go.RowKit

theorem sameB_no {L M : LV} (h : L ≠ M) : sameB L M = false := by
  cases e : sameB L M with
  | false => rfl
  | true => exact absurd ((sameB_iff L M).1 e) h
theorem csame_any (L M : LV) (s1 s2 s3 s4 t1 t2 t3 t4 : SlV) (w : World) (h : LRead w L s1 s2 s3 s4) (g : LRead w M t1 t2 t3 t4) :
    Calls Tryz.prog 18 #[lineV L s1 s2 s3 s4, lineV M t1 t2 t3 t4] w fun e w' => e = .returned (.bool (sameB L M)) ∧ Below w.heap.size w w' := by
  obtain ⟨f0, f1, f2, f3, f4, f5, f6, f7, f8, f9, f10, f11, f12, f13, f14, f15, f16⟩ := L
  obtain ⟨g0, g1, g2, g3, g4, g5, g6, g7, g8, g9, g10, g11, g12, g13, g14, g15, g16⟩ := M
  obtain ⟨h13, h14, h15, h16⟩ := h
  obtain ⟨k13, k14, k15, k16⟩ := g
  dsimp only at h13 h14 h15 h16 k13 k14 k15 k16
  by_cases e0 : f0 = g0
  rotate_left
  · rw [sameB_no (fun e => e0 (congrArg LV.row e))]
    exact cs_0 f0 g0 f1 g1 f2 g2 f3 g3 f4 g4 f5 g5 f6 g6 f7 g7 f8 g8 f9 g9 f10 g10 f11 g11 f12 g12 s1 s2 s3 s4 t1 t2 t3 t4 w  e0
  subst e0
  by_cases e1 : f1 = g1
  rotate_left
  · rw [sameB_no (fun e => e1 (congrArg LV.kind e))]
    exact cs_1 f0 f1 g1 f2 g2 f3 g3 f4 g4 f5 g5 f6 g6 f7 g7 f8 g8 f9 g9 f10 g10 f11 g11 f12 g12 s1 s2 s3 s4 t1 t2 t3 t4 w  e1
  subst e1
  by_cases e2 : f2 = g2
  rotate_left
  · rw [sameB_no (fun e => e2 (congrArg LV.dev e))]
    exact cs_2 f0 f1 f2 g2 f3 g3 f4 g4 f5 g5 f6 g6 f7 g7 f8 g8 f9 g9 f10 g10 f11 g11 f12 g12 s1 s2 s3 s4 t1 t2 t3 t4 w  e2
  subst e2
  by_cases e3 : f3 = g3
  rotate_left
  · rw [sameB_no (fun e => e3 (congrArg LV.port e))]
    exact cs_3 f0 f1 f2 f3 g3 f4 g4 f5 g5 f6 g6 f7 g7 f8 g8 f9 g9 f10 g10 f11 g11 f12 g12 s1 s2 s3 s4 t1 t2 t3 t4 w  e3
  subst e3
  by_cases e4 : f4 = g4
  rotate_left
  · rw [sameB_no (fun e => e4 (congrArg LV.peer e))]
    exact cs_4 f0 f1 f2 f3 f4 g4 f5 g5 f6 g6 f7 g7 f8 g8 f9 g9 f10 g10 f11 g11 f12 g12 s1 s2 s3 s4 t1 t2 t3 t4 w  e4
  subst e4
  by_cases e5 : f5 = g5
  rotate_left
  · rw [sameB_no (fun e => e5 (congrArg LV.far e))]
    exact cs_5 f0 f1 f2 f3 f4 f5 g5 f6 g6 f7 g7 f8 g8 f9 g9 f10 g10 f11 g11 f12 g12 s1 s2 s3 s4 t1 t2 t3 t4 w  e5
  subst e5
  by_cases e6 : f6 = g6
  rotate_left
  · rw [sameB_no (fun e => e6 (congrArg LV.name e))]
    exact cs_6 f0 f1 f2 f3 f4 f5 f6 g6 f7 g7 f8 g8 f9 g9 f10 g10 f11 g11 f12 g12 s1 s2 s3 s4 t1 t2 t3 t4 w  e6
  subst e6
  by_cases e7 : f7 = g7
  rotate_left
  · rw [sameB_no (fun e => e7 (congrArg LV.mac e))]
    exact cs_7 f0 f1 f2 f3 f4 f5 f6 f7 g7 f8 g8 f9 g9 f10 g10 f11 g11 f12 g12 s1 s2 s3 s4 t1 t2 t3 t4 w  e7
  subst e7
  by_cases e8 : f8 = g8
  rotate_left
  · rw [sameB_no (fun e => e8 (congrArg LV.addr e))]
    exact cs_8 f0 f1 f2 f3 f4 f5 f6 f7 f8 g8 f9 g9 f10 g10 f11 g11 f12 g12 s1 s2 s3 s4 t1 t2 t3 t4 w  e8
  subst e8
  by_cases e9 : f9 = g9
  rotate_left
  · rw [sameB_no (fun e => e9 (congrArg LV.bits e))]
    exact cs_9 f0 f1 f2 f3 f4 f5 f6 f7 f8 f9 g9 f10 g10 f11 g11 f12 g12 s1 s2 s3 s4 t1 t2 t3 t4 w  e9
  subst e9
  by_cases e10 : f10 = g10
  rotate_left
  · rw [sameB_no (fun e => e10 (congrArg LV.vlan e))]
    exact cs_10 f0 f1 f2 f3 f4 f5 f6 f7 f8 f9 f10 g10 f11 g11 f12 g12 s1 s2 s3 s4 t1 t2 t3 t4 w  e10
  subst e10
  by_cases e11 : f11 = g11
  rotate_left
  · rw [sameB_no (fun e => e11 (congrArg LV.num e))]
    exact cs_11 f0 f1 f2 f3 f4 f5 f6 f7 f8 f9 f10 f11 g11 f12 g12 s1 s2 s3 s4 t1 t2 t3 t4 w  e11
  subst e11
  by_cases e12 : f12 = g12
  rotate_left
  · rw [sameB_no (fun e => e12 (congrArg LV.cost e))]
    exact cs_12 f0 f1 f2 f3 f4 f5 f6 f7 f8 f9 f10 f11 f12 g12 s1 s2 s3 s4 t1 t2 t3 t4 w  e12
  subst e12
  by_cases e13 : f13 = g13
  rotate_left
  · rw [sameB_no (fun e => e13 (congrArg LV.tagged e))]
    exact cs_13 f0 f1 f2 f3 f4 f5 f6 f7 f8 f9 f10 f11 f12 f13 g13 s1 s2 s3 s4 t1 t2 t3 t4 w h13 k13 e13
  subst e13
  by_cases e14 : f14 = g14
  rotate_left
  · rw [sameB_no (fun e => e14 (congrArg LV.imports e))]
    exact cs_14 f0 f1 f2 f3 f4 f5 f6 f7 f8 f9 f10 f11 f12 f13 f14 g14 s1 s2 s3 s4 t1 t2 t3 t4 w h13 k13 h14 k14 e14
  subst e14
  by_cases e15 : f15 = g15
  rotate_left
  · rw [sameB_no (fun e => e15 (congrArg LV.exports e))]
    exact cs_15 f0 f1 f2 f3 f4 f5 f6 f7 f8 f9 f10 f11 f12 f13 f14 f15 g15 s1 s2 s3 s4 t1 t2 t3 t4 w h13 k13 h14 k14 h15 k15 e15
  subst e15
  by_cases e16 : f16 = g16
  rotate_left
  · rw [sameB_no (fun e => e16 (congrArg LV.addrs e))]
    exact cs_16 f0 f1 f2 f3 f4 f5 f6 f7 f8 f9 f10 f11 f12 f13 f14 f15 f16 g16 s1 s2 s3 s4 t1 t2 t3 t4 w h13 k13 h14 k14 h15 k15 h16 k16 e16
  subst e16
  rw [sameB_self]
  exact cs_17 f0 f1 f2 f3 f4 f5 f6 f7 f8 f9 f10 f11 f12 f13 f14 f15 f16 s1 s2 s3 s4 t1 t2 t3 t4 w h13 k13 h14 k14 h15 k15 h16 k16
end Go.Proofs.YtagbfklcbekceaaGreatDoor
