/- Slices of texts that read as a list of texts. -/
import Derived.Test.YtnpembgchmmbjaaBase
import Derived.Laws.AppendOwnNone
import Derived.SliceStrings
import Derived.SizedLaws
namespace Go.Proofs.Ytnpembgchmmbjaa
open Go.RowKit

theorem Try.info9 : (Try.prog.info? 9).map (fun i => (i.zero, i.size, i.bytes)) = some (some (.string ⟨#[]⟩), 1, 16) := by kernel_rfl
/-- the slice's elements read as these texts -/
def SSl (w : World) (A : Option Addr) (n c : Nat) (ps : List (List UInt8)) : Prop :=
  ps.length = n ∧ n ≤ c ∧ c ≤ maxLen ∧ (0 < n → ∃ b off, A = some ⟨b, off, none⟩ ∧ b < w.heap.size ∧ ∀ j, j < n → w.cell? ⟨b, off + j, none⟩ = some (.string (str (ps.getD j []))))
def txts (ps : List (List UInt8)) : List Value := ps.map fun p => Value.string (str p)
theorem SSl.below {w w' : World} {A : Option Addr} {n c : Nat} {ps : List (List UInt8)} (h : SSl w A n c ps) (hb : Below w.heap.size w w') : SSl w' A n c ps :=
  ⟨h.1, h.2.1, h.2.2.1, fun hn => by
    obtain ⟨b, off, e, hl, hc⟩ := h.2.2.2 hn
    exact ⟨b, off, e, Nat.lt_of_lt_of_le hl hb.size, fun j hj => (hb.cell (p := ⟨b, off + j, none⟩) hl).trans (hc j hj)⟩⟩
theorem SSl.of_own {w : World} {A : Option Addr} {n c B : Nat} {e : TypeId} {ps : List (List UInt8)} (h : w.ownsRow B e 1 (.slice A n c) n (txts ps)) : SSl w A n c ps := by
  have hl := h.1
  rw [txts, List.length_map, Nat.mul_one] at hl
  rcases h.2 with ⟨hv, hn⟩ | ⟨g, cap, cur, hv, hB, hh, hnc, hm, _⟩
  · injection hv with h1 h2 h3
    subst h1 h3 hn
    exact ⟨hl, Nat.le_refl _, Nat.zero_le _, fun h => absurd h (by omega)⟩
  · injection hv with h1 h2 h3
    subst h1 h3
    refine ⟨hl, hnc, hm, fun hn => ⟨g, 0, rfl, ?_, fun j hj => ?_⟩⟩
    · rcases Nat.lt_or_ge g w.heap.size with h' | h'
      · exact h'
      · rw [Array.getElem?_eq_none h'] at hh; cases hh
    · have := h.cells (g := g) rfl j (.string (str (ps.getD j []))) (by simp [txts, List.getD, List.getElem?_eq_getElem (show j < ps.length by omega)])
      rw [← this]
      by_cases h0 : j = 0 <;> simp [Addr.add, h0]
section
variable {w w' : World} {A : Option Addr} {n c : Nat} {ps : List (List UInt8)}
theorem SSl.len (h : SSl w A n c ps) : ps.length = n := h.1
theorem SSl.le (h : SSl w A n c ps) : n ≤ c := h.2.1
theorem SSl.cap (h : SSl w A n c ps) : c ≤ 9223372036854775807 := by have := h.2.2.1; unfold maxLen at this; omega
theorem SSl.at_ (h : SSl w A n c ps) (hn : 0 < n) : ∃ b off, A = some ⟨b, off, none⟩ ∧ b < w.heap.size ∧ ∀ j, j < n → w.cell? ⟨b, off + j, none⟩ = some (.string (str (ps.getD j []))) := h.2.2.2 hn
theorem SSl.nil : SSl w none 0 0 [] := ⟨rfl, Nat.le_refl _, Nat.zero_le _, fun h => absurd h (by omega)⟩
theorem SSl.alloc (h : SSl w A n c ps) (o : Obj) : SSl (w.alloc o) A n c ps := h.below ((Below.refl _ _).alloc (Nat.le_refl _) o)
theorem SSl.drewN (h : SSl w A n c ps) (m : Nat) : SSl (w.drewN m) A n c ps := h
/-- what is told of a slice of texts that came in -/
def IsRowS (w : World) (a : Option Addr) (len cap : Nat) (ss : List ByteArray) : Prop :=
  (a = none ∧ len = 0 ∧ cap = 0 ∧ ss = []) ∨
  ∃ x, a = some x ∧ len ≤ cap ∧ cap ≤ maxLen ∧ ss.length = cap ∧ (∀ i, i < ss.length → w.cell? (x.add i) = some (.string (ss.getD i ByteArray.empty))) ∧ ∀ s ∈ ss, s.size ≤ maxLen
theorem SSl.of_row {a : Option Addr} {len cap M : Nat} {ss : List ByteArray} (h : IsRowS w a len cap ss) (hM : ∀ s ∈ ss, s.size ≤ M) : ∃ l : List (List UInt8), SSl w a len cap l ∧ ∀ p ∈ l, p.length ≤ M := by
  rcases h with ⟨rfl, rfl, rfl, rfl⟩ | ⟨x, rfl, h1, h2, h3, h4, _⟩
  · exact ⟨[], SSl.nil, fun p hp => by cases hp⟩
  · refine ⟨(ss.take len).map (fun s => s.data.toList), ⟨by rw [List.length_map, List.length_take]; omega, h1, h2, fun hl => ?_⟩, fun p hp => ?_⟩
    · obtain ⟨b, off, spot⟩ := x
      have hc := h4 0 (by omega)
      have hspot : spot = none := by simpa [Addr.add] using World.cell?_spot hc
      subst hspot
      have hadd : ∀ i, (⟨b, off, none⟩ : Addr).add i = ⟨b, off + i, none⟩ := fun i => by unfold Addr.add; split <;> simp_all
      refine ⟨b, off, rfl, ?_, fun i hi => ?_⟩
      · have := World.block_lt_of_cell? w _ hc
        rw [hadd] at this
        exact this
      · have hci := h4 i (by omega)
        rw [hadd] at hci
        rw [hci]
        have hi2 : i < ss.length := by omega
        simp [List.getD, hi, hi2]
    · obtain ⟨s, hs, rfl⟩ := List.mem_map.1 hp
      have := hM s (List.mem_of_mem_take hs)
      simpa using this
end
/-- each text's bytes are weighed -/
theorem weights_strs {H : Type} {P : Program} {t e : TypeId} (ht : P.underlying t = some (.slice e)) (a b : List ByteArray) (s : ByteArray) (hs : s ∈ a ++ b) : s.size ∈ DataW.weights P t (.slice (ChangeShapes.strs (H := H) a) (ChangeShapes.strs b)) := by
  have key : ∀ l : List ByteArray, s ∈ l → s.size ∈ DataW.weightsAll P e (ChangeShapes.strs (H := H) l) := by
    intro l
    induction l with
    | nil => intro h; cases h
    | cons x r ih =>
      intro h
      show s.size ∈ DataW.weightsAll P e (DataW.lit (.string x.data.toList) :: ChangeShapes.strs r)
      rw [DataW.weightsAll, DataW.weights]
      rcases List.mem_cons.1 h with rfl | h
      · exact List.mem_append.2 (.inl (by simp))
      · exact List.mem_append.2 (.inr (ih h))
  rw [DataW.weights, ht]
  refine List.mem_cons.2 (.inr (List.mem_append.2 ?_))
  rcases List.mem_append.1 hs with h | h
  · exact .inl (key a h)
  · exact .inr (key b h)
theorem txts_app (a b : List (List UInt8)) : txts (a ++ b) = txts a ++ txts b := by simp [txts]
/-- append of one text that was just laid out onto a row of the call's own -/
theorem wpList_tapp {P : Program} {w0 : World} {ops : Array Oper} {rest : List Oper} {o : Oper} {a : Act} {Q : Exit → Act → World → Prop} (hgd : o.guard = none) (s x : Operand) (t : TypeId)
    (ho : o.op = .call { callee := .builtin .append, args := #[s, x], argTypes := #[t, t] })
    (base : Nat) (e : TypeId) (i : TypeInfo) (z : Value) (bytes : Nat) (ht : P.underlying t = some (.slice e)) (hi : P.info? e = some i) (hz : i.zero = some z)
    (hsize : i.size = 1) (hby : i.bytes = bytes) (hzs : z.cells.size = 1)
    (v : Value) (n : Nat) (ps : List (List UInt8)) (hs : a.eval s = v) (hown : w0.ownsRow base e 1 v n (txts ps))
    (p : List UInt8) (q : Nat) (hq : q = w0.heap.size) (hx : a.eval x = .slice (some ⟨q, 0, none⟩) 1 1)
    (h63 : n + 1 ≤ maxLen) (hbytes : (n + 1) * bytes ≤ 140737488355328) (hbase : base ≤ w0.heap.size)
    (h : ∀ v' w', w'.ownsRow base e 1 v' (n + 1) (txts (ps ++ [p])) → (w0.alloc (.cells #[.string (str p)] e)).grownBy w' v.ownBlock → wpList P ops Q rest (a.put o.dst v') w') : wpList P ops Q (o :: rest) a (w0.alloc (.cells #[.string (str p)] e)) := by
  subst hq
  refine wpList_append_own _ hgd s x t ho base e i z 1 bytes ht hi hz hsize hby hzs (by decide) v n (txts ps) hs (hown.alloc _) ⟨w0.heap.size, 0, none⟩ 1 1 [.string (str p)] hx rfl ?_ (by simp [Value.oneCell']) h63 hbytes (by simp; omega) (fun v' w' h2 h3 _ => h v' w' (by rw [txts_app]; exact h2) h3)
  intro j u hu
  match j with
  | 0 => simp at hu; subst hu; simp [Addr.add]
  | j + 1 => simp at hu
end Go.Proofs.Ytnpembgchmmbjaa
