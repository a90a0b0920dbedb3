/- The contract of palingref15.tops: the same devices, links, statics and interfaces? (Made by mk-nttops.py.) -/
import Derived.Test.YtocobjekcdabgaaNtRef1
import Derived.Test.YtocobjekcdabgaaSeq
import Derived.Deep.CutBlock
import Derived.Deep.DeepCutAuto
import Derived.Laws.StructEq
namespace Go.Proofs.Ytocobjekcdabgaa
open Go.RowKit

theorem list_eq_getD {α : Type} (d : α) {xs ys : List α} (hl : xs.length = ys.length) (h : ∀ j, j < xs.length → xs.getD j d = ys.getD j d) : xs = ys := by
  apply List.ext_getElem hl
  intro j h1 h2
  have := h j h1
  simpa [List.getD, List.getElem?_eq_getElem h1, List.getElem?_eq_getElem h2] using this
/-! Two records compared. -/
theorem eq_dev (X Y : DevV) (V : Bool) (hV : V = true ↔ X = Y) (W : World) : (Op.equalIn 10000 46 (.agg (devC X).toArray) (.agg (devC Y).toArray)).run Try.prog W = .ok V W := by
  rw [show (10000 : Nat) = 9999 + 1 from rfl, run_equalIn_struct W 9999 46 _ _ (by kernel_rfl) (by kernel_rfl)]
  obtain ⟨x0, x1, x2, x3, x4⟩ := X
  obtain ⟨y0, y1, y2, y3, y4⟩ := Y
  simp only [DevV.mk.injEq] at hV
  simp [Program.fieldsOf, Try.underlying46, Op.eqFields, go_sem, devC]
  cases V with
  | true =>
    have e := hV.1 rfl
    simp [e]
  | false =>
    have e := fun g => (show False by have := hV.2 g; cases this)
    repeat' split
    all_goals simp_all
theorem eq_link (X Y : LinkV) (V : Bool) (hV : V = true ↔ X = Y) (W : World) : (Op.equalIn 10000 41 (.agg (linkC X).toArray) (.agg (linkC Y).toArray)).run Try.prog W = .ok V W := by
  rw [show (10000 : Nat) = 9999 + 1 from rfl, run_equalIn_struct W 9999 41 _ _ (by kernel_rfl) (by kernel_rfl)]
  obtain ⟨x0, x1, x2⟩ := X
  obtain ⟨y0, y1, y2⟩ := Y
  simp only [LinkV.mk.injEq] at hV
  simp [Program.fieldsOf, Try.underlying41, Op.eqFields, go_sem, linkC]
  cases V with
  | true =>
    have e := hV.1 rfl
    simp [e]
  | false =>
    have e := fun g => (show False by have := hV.2 g; cases this)
    repeat' split
    all_goals simp_all
theorem eq_stat (X Y : StatV) (V : Bool) (hV : V = true ↔ X = Y) (W : World) : (Op.equalIn 10000 68 (.agg (statC X).toArray) (.agg (statC Y).toArray)).run Try.prog W = .ok V W := by
  rw [show (10000 : Nat) = 9999 + 1 from rfl, run_equalIn_struct W 9999 68 _ _ (by kernel_rfl) (by kernel_rfl)]
  obtain ⟨x0, x1, x2, x3⟩ := X
  obtain ⟨y0, y1, y2, y3⟩ := Y
  simp only [StatV.mk.injEq] at hV
  simp [Program.fieldsOf, Try.underlying68, Op.eqFields, go_sem, statC]
  cases V with
  | true =>
    have e := hV.1 rfl
    simp [e]
  | false =>
    have e := fun g => (show False by have := hV.2 g; cases this)
    repeat' split
    all_goals simp_all
theorem eq_irb (X Y : IrbV) (V : Bool) (hV : V = true ↔ X = Y) (W : World) : (Op.equalIn 10000 80 (.agg (irbC X).toArray) (.agg (irbC Y).toArray)).run Try.prog W = .ok V W := by
  rw [show (10000 : Nat) = 9999 + 1 from rfl, run_equalIn_struct W 9999 80 _ _ (by kernel_rfl) (by kernel_rfl)]
  obtain ⟨x0, x1, x2, x3, x4⟩ := X
  obtain ⟨y0, y1, y2, y3, y4⟩ := Y
  simp only [IrbV.mk.injEq] at hV
  simp [Program.fieldsOf, Try.underlying80, Op.eqFields, go_sem, irbC]
  cases V with
  | true =>
    have e := hV.1 rfl
    simp [e]
  | false =>
    have e := fun g => (show False by have := hV.2 g; cases this)
    repeat' split
    all_goals simp_all
def topsOk (N M : NV) : Prop := N.devices = M.devices ∧ N.links = M.links ∧ N.statics = M.statics ∧ N.irbs = M.irbs
noncomputable def topB (N M : NV) : Bool := @decide (topsOk N M) (Classical.propDecidable _)
theorem topB_no {N M : NV} (h : ¬ topsOk N M) : topB N M = false := by
  unfold topB
  exact @decide_eq_false _ (Classical.propDecidable _) h
theorem topB_yes {N M : NV} (h : topsOk N M) : topB N M = true := by
  unfold topB
  exact @decide_eq_true _ (Classical.propDecidable _) h
theorem topB_iff (N M : NV) : topB N M = true ↔ topsOk N M := by
  unfold topB
  exact @decide_eq_true_iff _ (Classical.propDecidable _)
end Go.Proofs.Ytocobjekcdabgaa
