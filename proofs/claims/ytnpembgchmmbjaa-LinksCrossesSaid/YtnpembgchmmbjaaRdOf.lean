/- From what a law's parameter reads as to a reader's data: whole numbers, texts, bools, slices, of any type. -/
import Derived.Test.YtnpembgchmmbjaaRd
import Derived.ProofKit
import Derived.Deep.Slices
namespace Go.Proofs.Ytnpembgchmmbjaa
open Go.ChangeShapes Go.WideShapes Go.ChangeAt Go.RowKit

/-- cells that read as a datum of the type read as the reader's data -/
def Rdr.Of {α : Type} (R : Rdr α) (P : Program) (t : TypeId) : Prop :=
  ∀ (H : Type) (enc : TypeId × Value → H) (w : World) (sp : Nat → Bool) (held : Bool) (fuel : Nat) (cs : List Value) (x : DataW H × List MemPlace), DataW.trod enc P w 0 sp held fuel t cs = some x → ∃ a, R.rd w (allB w) cs a
theorem addr_none (b off i : Nat) : (⟨b, off, none⟩ : Addr).add i = ⟨b, off + i, none⟩ := by unfold Addr.add; split <;> simp_all
theorem cells_at1 {cs : List Value} {o : Nat} {v : Value} (h : (cs.drop o).take 1 = [v]) : cs[o]? = some v := by
  have := congrArg (·[0]?) h
  simpa [List.getElem?_take, List.getElem?_drop] using this
theorem str_of (s : ByteArray) : str s.data.toList = s := by
  obtain ⟨⟨l⟩⟩ := s
  rfl
theorem of_int {P : Program} {t : TypeId} {k : IntKind} (ht : P.underlying t = some (.int k)) : (Rdr.int k).Of P t := fun H enc w sp held fuel cs x h => by
  obtain ⟨z, rfl, _⟩ := DataW.trod_int ht h
  exact ⟨z, rfl⟩
theorem of_str {P : Program} {t : TypeId} (ht : P.underlying t = some .string) : Rdr.str_.Of P t := fun H enc w sp held fuel cs x h => by
  obtain ⟨z, rfl, _⟩ := DataW.trod_string ht h
  exact ⟨z.data.toList, by show [Value.string z] = [Value.string (str z.data.toList)]; rw [str_of]⟩
theorem of_slice {P : Program} {t e : TypeId} {α : Type} {R : Rdr α} (ht : P.underlying t = some (.slice e)) (hce : P.cellsOf e = R.n) (hn : 0 < R.n) (he : R.Of P e) : R.list.Of P t := fun H enc w sp held fuel cs x h => by
  rcases Go.Deep.open_slice ht h with ⟨rfl, _⟩ | ⟨a, len, cap, m, k, D, Pl, rfl, _, hl, hm, hmm, _, hx⟩
  · exact ⟨[], none, 0, 0, rfl, RSl.nil⟩
  · have hlm : len ≤ m := by rw [hmm]; split <;> omega
    have hel : ∀ i, i < len → ∃ (y : α) (vs : List Value), R.rd w (allB w) vs y ∧ ∀ j, j < R.n → w.cell? ((a.add (i * R.n)).add j) = vs[j]? := fun i hi => by
      obtain ⟨cs', h1, h2⟩ := hx i (by omega)
      rw [hce] at h1
      obtain ⟨y, hy⟩ := he _ _ _ _ _ _ _ _ h2
      exact ⟨y, cs', hy, (World.cells?_some h1).2.2⟩
    rcases Nat.eq_zero_or_pos len with h0 | h0
    · subst h0
      exact ⟨[], some a, 0, cap, rfl, rfl, Nat.zero_le _, hm, fun e => (by cases e), fun hh => absurd hh (by omega)⟩
    · have hL : ∃ f : Nat → α, ∀ i, i < len → ∃ vs : List Value, R.rd w (allB w) vs (f i) ∧ ∀ j, j < R.n → w.cell? ((a.add (i * R.n)).add j) = vs[j]? := by
        refine ⟨fun i => if hi : i < len then (hel i hi).choose else (hel 0 h0).choose, fun i hi => ?_⟩
        simp only [dif_pos hi]
        exact (hel i hi).choose_spec
      obtain ⟨f, hf⟩ := hL
      refine ⟨(List.range len).map f, some a, len, cap, rfl, by simp, hl, hm, fun e => (by cases e), fun _ => ?_⟩
      obtain ⟨b, off, spot⟩ := a
      obtain ⟨vs0, hr0, hc0⟩ := hf 0 h0
      have h00 := hc0 0 hn
      have hv0 : ∃ v0, vs0[0]? = some v0 := ⟨_, List.getElem?_eq_getElem (by rw [R.len hr0]; exact hn)⟩
      obtain ⟨v0, hv0⟩ := hv0
      rw [hv0] at h00
      have hspot : spot = none := by simpa [Addr.add] using World.cell?_spot h00
      subst hspot
      rw [addr_none, addr_none] at h00
      refine ⟨b, off, rfl, World.block_lt_of_cell? w _ h00, World.block_lt_of_cell? w _ h00, fun j y hy => ?_⟩
      have hj : j < len := by
        have := (List.getElem?_eq_some_iff.1 hy).1
        simpa using this
      rw [List.getElem?_map, List.getElem?_range hj] at hy
      injection hy with hy
      subst hy
      obtain ⟨vs, hr, hc⟩ := hf j hj
      refine ⟨vs, hr, fun i v hv => ?_⟩
      have hi : i < R.n := by
        have := (List.getElem?_eq_some_iff.1 hv).1
        rwa [R.len hr] at this
      have := hc i hi
      rw [addr_none, addr_none, hv] at this
      exact this
end Go.Proofs.Ytnpembgchmmbjaa
