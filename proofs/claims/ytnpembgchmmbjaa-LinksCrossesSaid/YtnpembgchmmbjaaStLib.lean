/- Equal and Clone of lists of numbers, Contains, and a text cloned (made by mk-stlib.py). -/
import Derived.Test.YtnpembgchmmbjaaCode3
import Derived.Test.YtnpembgchmmbjaaTyI
import Derived.Test.YtnpembgchmmbjaaStPut
import Derived.Test.YtnpembgchmmbjaaShelf
import Derived.WalkSpells
namespace Go.Proofs.Ytnpembgchmmbjaa
open Go.RowKit

/-- a list of the call's own, as a call returns it -/
def GotSl (k : IntKind) (xs : List Int) (w : World) (e : Ending) (w' : World) : Prop :=
  ∃ t : SlV, e = .returned (.slice t.A t.n t.c) ∧ ISl w' k t.A t.n t.c xs ∧ Below w.heap.size w w' ∧ ∀ ad, t.A = some ad → w.heap.size ≤ ad.block ∧ TyI w' ad.block
theorem ISl.cells_ {w : World} {k : IntKind} {ad : Addr} {n c : Nat} {xs : List Int} (h : ISl w k (some ad) n c xs) : ∀ j u, (xs.map (Value.int k))[j]? = some u → w.cell? (ad.add j) = some u := by
  intro j u hu
  have hj : j < n := by
    have := (List.getElem?_eq_some_iff.1 hu).1
    rw [List.length_map, h.len] at this
    exact this
  obtain ⟨b, off, e, _, hc⟩ := h.2.2.2 (by omega)
  cases e
  have e2 : (xs.map (Value.int k))[j]? = some (.int k (xs.getD j 0)) := by
    rw [List.getElem?_map, List.getD, List.getElem?_eq_getElem (by rw [h.len]; exact hj)]
    rfl
  rw [e2] at hu
  cases hu
  rw [← hc j hj]
  by_cases h0 : j = 0 <;> simp [Addr.add, h0]
theorem list_eq_of {xs ys : List Int} {n : Nat} (hx : xs.length = n) (hy : ys.length = n) (h : ∀ j, j < n → xs.getD j 0 = ys.getD j 0) : xs = ys := by
  apply List.ext_getElem (by omega)
  intro j h1 h2
  have := h j (by omega)
  simpa [List.getD, List.getElem?_eq_getElem h1, List.getElem?_eq_getElem h2] using this
theorem contains_any (s : SlV) (xs : List Int) (x : Int) (w : World) (h : ISl w .i64 s.A s.n s.c xs) :
    Calls Try.prog 25 #[.slice s.A s.n s.c, .int .i64 x] w fun e w' => e = .returned (.bool (xs.contains x)) ∧ w = w' := by
  obtain ⟨A, n, c⟩ := s
  have hl := h.len
  have hle := h.le
  have hcap := h.cap
  by_cases hn : 0 < n
  · obtain ⟨b, off, e, hb, hc⟩ := h.2.2.2 hn
    dsimp only at e hl hc ⊢
    subst e
    refine (Try.slices_Contains_int b off n c xs x w (by omega) (by dsimp only at hle hcap; omega) (fun j hj => hc j (by omega))).mono ?_
    rintro e w' ⟨rfl, rfl⟩
    exact ⟨by rw [← hl, List.take_length], rfl⟩
  · dsimp only at hl ⊢
    obtain rfl : n = 0 := by omega
    obtain rfl : xs = [] := List.eq_nil_of_length_eq_zero hl
    refine (Try.slices_Contains_int_empty A c x w).mono ?_
    rintro e w' ⟨rfl, rfl⟩
    exact ⟨rfl, rfl⟩
theorem own0_int (w : World) (B : Nat) (hB : B ≤ w.heap.size) : (w.alloc (.cells #[] 3)).ownsRow B 3 1 (.slice (some ⟨w.heap.size, 0, none⟩) 0 0) 0 [] :=
  World.ownsRow_lit w #[] 0 hB (by unfold maxLen; omega) rfl
theorem own0_uint32 (w : World) (B : Nat) (hB : B ≤ w.heap.size) : (w.alloc (.cells #[] 53)).ownsRow B 53 1 (.slice (some ⟨w.heap.size, 0, none⟩) 0 0) 0 [] :=
  World.ownsRow_lit w #[] 0 hB (by unfold maxLen; omega) rfl
end Go.Proofs.Ytnpembgchmmbjaa
