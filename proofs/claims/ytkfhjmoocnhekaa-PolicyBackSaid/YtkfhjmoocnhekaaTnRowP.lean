/- From a law's parameter []api.Tenant to a list of tenants. -/
import Derived.Test.YtkfhjmoocnhekaaRdOf
import Derived.Test.YtkfhjmoocnhekaaTnDat
namespace Go.Proofs.Ytkfhjmoocnhekaa
open Go.ChangeShapes Go.WideShapes Go.ChangeAt Go.RowKit

theorem tcells_int : Try.prog.cellsOf 3 = 1 := by kernel_rfl
theorem tcells_string : Try.prog.cellsOf 9 = 1 := by kernel_rfl
theorem tcells_strings : Try.prog.cellsOf 38 = 1 := by kernel_rfl
theorem tcells_ten : Try.prog.cellsOf 40 = 4 := by kernel_rfl
theorem ten_of : tenR.Of Try.prog 40 := fun H enc w sp held fuel cs x h => by
  obtain ⟨xs, n, _, rfl, hl, hlen, hf⟩ := DataW.trod_struct Try.underlying40 h
  rw [tcells_ten] at hl
  have hx : ∀ i, i < 4 → ∃ y, xs[i]? = some y := fun i hi => ⟨_, List.getElem?_eq_getElem (by rw [hlen]; exact hi)⟩
  obtain ⟨y0, e0⟩ := hx 0 (by omega)
  have g0 : DataW.trod enc Try.prog w 0 sp held n 3 ((cs.drop 0).take (Try.prog.cellsOf 3)) = some y0 := (hf 0 _ rfl).trans e0
  rw [tcells_int] at g0
  obtain ⟨z0, q0⟩ := of_int Try.underlying3 _ _ _ _ _ _ _ _ g0
  obtain ⟨y1, e1⟩ := hx 1 (by omega)
  have g1 : DataW.trod enc Try.prog w 0 sp held n 9 ((cs.drop 1).take (Try.prog.cellsOf 9)) = some y1 := (hf 1 _ rfl).trans e1
  rw [tcells_string] at g1
  obtain ⟨z1, q1⟩ := of_str Try.underlying9 _ _ _ _ _ _ _ _ g1
  have strs := of_slice (R := Rdr.str_) Try.underlying38 tcells_string (by decide) (of_str Try.underlying9)
  obtain ⟨y2, e2⟩ := hx 2 (by omega)
  have g2 : DataW.trod enc Try.prog w 0 sp held n 38 ((cs.drop 2).take (Try.prog.cellsOf 38)) = some y2 := (hf 2 _ rfl).trans e2
  rw [tcells_strings] at g2
  obtain ⟨z2, A2, n2, c2, q2, r2⟩ := strs _ _ _ _ _ _ _ _ g2
  obtain ⟨y3, e3⟩ := hx 3 (by omega)
  have g3 : DataW.trod enc Try.prog w 0 sp held n 38 ((cs.drop 3).take (Try.prog.cellsOf 38)) = some y3 := (hf 3 _ rfl).trans e3
  rw [tcells_strings] at g3
  obtain ⟨z3, A3, n3, c3, q3, r3⟩ := strs _ _ _ _ _ _ _ _ g3
  refine ⟨⟨z0, z1, z2, z3⟩, ⟨A2, n2, c2⟩, ⟨A3, n3, c3⟩, ?_, r2, r3⟩
  apply List.ext_getElem?
  intro i
  match i with
  | 0 => rw [cells_at1 q0]; rfl
  | 1 => rw [cells_at1 q1]; rfl
  | 2 => rw [cells_at1 q2]; rfl
  | 3 => rw [cells_at1 q3]; rfl
  | i + 4 => rw [List.getElem?_eq_none (by omega)]; rfl
/-- a list of tenants that came in -/
theorem tens_of_trod {H : Type} {enc : TypeId × Value → H} {w : World} {sp : Nat → Bool} {held : Bool} {t : TypeId} {fuel : Nat} {cs : List Value} {x : DataW H × List MemPlace} (ht : Try.prog.underlying t = some (.slice 40)) (h : DataW.trod enc Try.prog w 0 sp held fuel t cs = some x) :
    ∃ (A : Option Addr) (n c : Nat) (xs : List TV), cs = [.slice A n c] ∧ RSl tenR w (allB w) A n c xs := by
  obtain ⟨xs, A, n, c, e, hr⟩ := of_slice (R := tenR) ht tcells_ten (by decide) ten_of _ _ _ _ _ _ _ _ h
  exact ⟨A, n, c, xs, e, hr⟩
end Go.Proofs.Ytkfhjmoocnhekaa
