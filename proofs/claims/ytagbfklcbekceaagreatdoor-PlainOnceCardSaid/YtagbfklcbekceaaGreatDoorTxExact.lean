/- The contract of palingref12.Exact at two values of one list of lines. The chapter's example: which lines the text has; and one that has a wrong row. -/
import Derived.Test.YtagbfklcbekceaaGreatDoorTxSl
import Derived.Test.YtagbfklcbekceaaGreatDoorStSame
import Derived.Test.YtagbfklcbekceaaGreatDoorSeq
import Derived.Test.YtagbfklcbekceaaGreatDoorTxLaw
import Derived.Deep.RegionHeldLaw
namespace Go.Proofs.YtagbfklcbekceaaGreatDoor
open Go.RowKit

/-- a line loaded whole, as an operation -/
theorem run_op_line {ρ : Operand → Value} {o : Oper} {x : Operand} {w : World} {b off : Nat} {L : LV} {s1 s2 s3 s4 : SlV} (h : w.rangeAt b off (lineC L s1 s2 s3 s4)) (ho : o.op = .load 39 x) (hx : ρ x = .pointer (some ⟨b, off, none⟩)) :
    (execOp ρ o).run Tryz.prog w = .ok (.value (lineV L s1 s2 s3 s4)) w := by
  obtain ⟨d, hd1, hd2⟩ := line_desc
  unfold execOp
  simp only [ho, hx, Instr.loadAt, Instr.sureAddr, Sem.run_bind, Sem.run_pure, Result.andThen_ok, run_loadVar_mid w b off 39 (lineC L s1 s2 s3 s4) d h hd1 hd2 line_size]
  rfl
theorem step_line {S : World → Prop} {ρ : Operand → Value} {o : Oper} {x : Operand} {w : World} {b off : Nat} {L : LV} {s1 s2 s3 s4 : SlV} (h : w.rangeAt b off (lineC L s1 s2 s3 s4)) (hS : S w) (ho : o.op = .load 39 x) (hx : ρ x = .pointer (some ⟨b, off, none⟩)) :
    StepRun Tryz.prog S (lineV L s1 s2 s3 s4) ((execOp ρ o).run Tryz.prog w) := by
  rw [run_op_line h ho hx]
  exact ⟨rfl, hS⟩
/-- the element at k of a list of lines: its cells -/
theorem lines_at {w : World} {A : Option Addr} {n c : Nat} {xs : List LV} (h : RSl lineR w (allB w) A n c xs) (k : Nat) (hk : k < n) :
    ∃ b off s1 s2 s3 s4, A = some ⟨b, off, none⟩ ∧ b < w.heap.size ∧ LRead w (xs.getD k LV.zero) s1 s2 s3 s4 ∧ w.rangeAt b (off + k * 17) (lineC (xs.getD k LV.zero) s1 s2 s3 s4) := by
  obtain ⟨b, off, e, _, hb, hc⟩ := h.at_ (by omega)
  have hl : k < xs.length := by rw [h.len]; exact hk
  have e2 : xs.getD k LV.zero = xs[k] := by simp [List.getD, hl]
  obtain ⟨vs, h1, h2⟩ := hc k xs[k] (List.getElem?_eq_getElem hl)
  obtain ⟨s1, s2, s3, s4, rfl, h3⟩ := line_read h1
  exact ⟨b, off, s1, s2, s3, s4, e, hb, by rw [e2]; exact h3, by rw [e2]; exact h2⟩
end Go.Proofs.YtagbfklcbekceaaGreatDoor

namespace Go.Proofs.YtagbfklcbekceaaGreatDoor
open Go.RowKit

def txB1 : List UInt8 := [10, 118, 116, 101, 112, 32, 97, 32, 49, 48, 46, 48, 46, 48, 46, 49]
def txB2 : List UInt8 := [10, 118, 116, 101, 112, 32, 97]
def txL1 : LV := { LV.new 2 5 with dev := [97], addr := 167772161 }
theorem tx_a : nmB [97] = true := (nmB_iff _).2 ⟨by decide, by decide, ⟨by decide, by decide⟩, fun j hj => by
  have hj2 : j < 1 := hj
  obtain rfl : j = 0 := by omega
  exact .inl ⟨by decide, by decide⟩⟩
theorem tx_addr : rdF [49, 48, 46, 48, 46, 48, 46, 49] = some 167772161 := by decide +kernel
theorem tx_run : runS [78, 65] [[97], [49, 48, 46, 48, 46, 48, 46, 49]] 0 (LV.new 2 5) = (0, txL1) := by
  have a1 : rdB [49, 48, 46, 48, 46, 48, 46, 49] = true := by unfold rdB; rw [tx_addr]; rfl
  have a2 : rdV [49, 48, 46, 48, 46, 48, 46, 49] = 167772161 := by unfold rdV; rw [tx_addr]; rfl
  rw [run_ok (wdE_N tx_a), run_ok (wdE_num (c := 65) (b := rdB [49, 48, 46, 48, 46, 48, 46, 49] && decide (0 < rdV [49, 48, 46, 48, 46, 48, 46, 49])) rfl (by rw [a1, a2]; decide))]
  show ((0 : Int), ({ LV.new 2 5 with dev := [97], addr := rdV [49, 48, 46, 48, 46, 48, 46, 49] } : LV)) = _
  rw [a2]
  rfl
theorem fm_vtep (r : List (List UInt8)) : fmV ([118, 116, 101, 112] :: r) = [78, 65] := by
  have k : kdV (wat ([118, 116, 101, 112] :: r) 0) = 5 := by show kdV [118, 116, 101, 112] = 5; decide +kernel
  unfold fmV
  rw [if_neg (by simp), if_neg (by rw [k]; decide), if_neg (by rw [k]; decide), if_neg (by rw [k]; decide), if_pos k]
theorem tx_row : rdE [[118, 116, 101, 112], [97], [49, 48, 46, 48, 46, 48, 46, 49]] 2 = 0 ∧ rdL [[118, 116, 101, 112], [97], [49, 48, 46, 48, 46, 48, 46, 49]] 2 = txL1 := by
  obtain ⟨h1, h2⟩ := rd_of (ws := [[118, 116, 101, 112], [97], [49, 48, 46, 48, 46, 48, 46, 49]]) (row := 2) (fm_vtep _) (by simp) rfl (show kdV [118, 116, 101, 112] = 5 by decide +kernel) tx_run
  have e : rdE [[118, 116, 101, 112], [97], [49, 48, 46, 48, 46, 48, 46, 49]] 2 = 0 := by rw [h1]; decide +kernel
  exact ⟨e, by rw [h2, if_pos e]⟩
theorem tx_short : rdE [[118, 116, 101, 112], [97]] 2 = 22 := by
  unfold rdE
  rw [if_pos (show ltV [[118, 116, 101, 112], [97]] = [] from if_neg (fun g => by have := g.2; rw [fm_vtep] at this; cases this))]
theorem txV1 : txV txB1 = (0, 0, [txL1]) := by
  have r : rwF txB1 = [[], [118, 116, 101, 112, 32, 97, 32, 49, 48, 46, 48, 46, 48, 46, 49]] := by decide +kernel
  have e0 : rwE txB1 = 0 := by decide +kernel
  have w1 : roE [] 0 = 0 := by unfold roE; rw [if_pos (show wlE [] = 0 by decide +kernel), if_pos (show roW [] = [] by decide +kernel)]
  have w2 : roL [] 0 = [] := by unfold roL; rw [if_pos (show roW [] = [] by decide +kernel)]
  have rw2 : roW [118, 116, 101, 112, 32, 97, 32, 49, 48, 46, 48, 46, 48, 46, 49] = [[118, 116, 101, 112], [97], [49, 48, 46, 48, 46, 48, 46, 49]] := by decide +kernel
  have w3 : roE [118, 116, 101, 112, 32, 97, 32, 49, 48, 46, 48, 46, 48, 46, 49] 1 = 0 := by
    unfold roE
    rw [if_pos (show wlE [118, 116, 101, 112, 32, 97, 32, 49, 48, 46, 48, 46, 48, 46, 49] = 0 by decide +kernel), rw2, if_neg (by simp)]
    exact tx_row.1
  have w4 : roL [118, 116, 101, 112, 32, 97, 32, 49, 48, 46, 48, 46, 48, 46, 49] 1 = [txL1] := by
    unfold roL
    rw [rw2, if_neg (by simp)]
    exact congrArg (fun x => [x]) tx_row.2
  unfold txV
  rw [if_pos e0, r, txF, if_pos w1, w2, txF, if_pos w3, w4]
  rfl
theorem txV2 : txV txB2 = (2, 22, []) := by
  have r : rwF txB2 = [[], [118, 116, 101, 112, 32, 97]] := by decide +kernel
  have e0 : rwE txB2 = 0 := by decide +kernel
  have w1 : roE [] 0 = 0 := by unfold roE; rw [if_pos (show wlE [] = 0 by decide +kernel), if_pos (show roW [] = [] by decide +kernel)]
  have w2 : roL [] 0 = [] := by unfold roL; rw [if_pos (show roW [] = [] by decide +kernel)]
  have rw2 : roW [118, 116, 101, 112, 32, 97] = [[118, 116, 101, 112], [97]] := by decide +kernel
  have w3 : roE [118, 116, 101, 112, 32, 97] 1 = 22 := by
    unfold roE
    rw [if_pos (show wlE [118, 116, 101, 112, 32, 97] = 0 by decide +kernel), rw2, if_neg (by simp)]
    exact tx_short
  unfold txV
  rw [if_pos e0, r, txF, if_pos w1, w2, txF, if_neg (by rw [w3]; decide), w3]
  rfl
end Go.Proofs.YtagbfklcbekceaaGreatDoor
