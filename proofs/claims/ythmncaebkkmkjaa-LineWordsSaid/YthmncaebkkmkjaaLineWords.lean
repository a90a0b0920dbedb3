/- For every row and every words the statement LineWords returns true (Words, Join and Word answer as the document's own reckoning does; of more than 2000 bytes or 100 words the statement itself says nothing but of the example); no condition. -/
import Derived.Test.YthmncaebkkmkjaaLnLineWords
import Derived.Test.YthmncaebkkmkjaaWf
import Derived.SizedLaws
import Derived.OpenShut
import Derived.ShutString
import Derived.ChangeOld
import Derived.Below
namespace Go.Proofs.Ythmncaebkkmkjaa.lineWords
open Go.ChangeShapes Go.WideShapes Go.ChangeAt Go.RowKit
open Go.ChangeMaps (open_string shut_string)
theorem own : ownKnob Try.prog.godebug = none := by kernel_rfl
theorem laidOut : laidOutB Try.prog = true := by kernel_rfl

set_option maxRecDepth 100000 in
theorem lifted (os : Os) (started : os.Started) (H : Type) (enc : TypeId × Value → H) :
    ReturnsInHanded {} Try.checked os 4 .any (Rows.lineWordsSpec.pre6 enc Try.prog Try.f4 Rows.lineWordsRow.domain false) (Rows.lineWordsSpec.post enc Try.prog Try.f4 false true false false) := by
  have same : (fun w args => (Rows.lineWordsSpec.pre enc Try.prog Try.f4 Rows.lineWordsRow.domain false w args ∧ True) ∧ sizedMet enc Try.prog Try.f4 (OpenSpec.ofChange Rows.lineWordsSpec) false w args) = Rows.lineWordsSpec.pre6 enc Try.prog Try.f4 Rows.lineWordsRow.domain false := by
    funext w args
    simp [ChangeSpec.pre6]
  rw [← same]
  refine returnsInHanded_of_change_and (C := Try.checked) (X := fun _ _ => True) (fun _ _ _ _ _ => trivial) own started (by kernel_rfl) Try.func4
    (by obtain ⟨w, t, i, x1, x2, x3, x4, ⟨x5, x6⟩, x7⟩ := ChangeSpec.witness6 (enc := enc) (C := Try.checked) (os := os) (s := Rows.lineWordsSpec) (conds := Rows.lineWordsRow.domain) false ⟨#[], #[.string ByteArray.empty, .slice none 0 0], []⟩ 8 (by kernel_rfl) (by kernel_rfl) (by kernel_rfl) (by kernel_rfl); exact ⟨w, t, i, x1, x2, x3, x4, ⟨⟨x5, trivial⟩, x6⟩, x7⟩) ?_
  intro W base args ds gs before hval0 hW hcnd hwt _ _
  have hval : ∀ (j : Nat) t v, Try.f4.params[j]? = some t → args[j]? = some v → Value.okWide Try.prog W .any base t v := hval0
  have hW' := hW
  obtain ⟨p, q, hA0, hV, rfl, hfz, hnd⟩ := hW
  have hA : DataW.TrodAll enc Try.prog W 0 (fun _ => true) true Try.f4.params.toList args.toList ds p := hA0
  rw [Try.params4] at hA hval
  obtain ⟨v0, vs0, d0, ds0, p0, q0, hargs, rfl, rfl, h0, r0⟩ := trodAll_cons hA
  obtain ⟨v1, vs1, d1, ds1, p1, q1, rfl, rfl, rfl, h1, r1⟩ := trodAll_cons r0
  obtain ⟨rfl, rfl, rfl⟩ := trodAll_nil r1
  obtain rfl : args = #[v0, v1] := by cases args; simp_all
  obtain ⟨rfl, rfl⟩ := trodVars_none hV
  obtain ⟨a0, rfl, rfl, rfl, w0⟩ := open_string Try.underlying9 (hval 0 9 v0 rfl rfl) h0
  obtain ⟨a1, len1, cap1, rfl⟩ := okWide_slice Try.underlying24 (hval 1 24 v1 rfl rfl)
  have k1 := h1
  have lt1 : ∀ x ∈ p1, x.block < W.heap.size := by obtain ⟨m, hm⟩ := k1; exact DataW.trod_lt m _ _ _ hm
  obtain ⟨z1, w1, g1⟩ : ∃ ss, IsRowS W a1 len1 cap1 ss ∧ (ss = [] ∨ ∃ xs ys, ss = xs ++ ys ∧ d1 = .slice (strs xs) (strs ys)) := by
    obtain ⟨fuel, hf⟩ := h1
    rcases open_strings Try.underlying24 Try.underlying9 (by kernel_rfl) hf with ⟨hcs, _⟩ | ⟨x, l, c, ss, hcs, _, hl, hm, hz, hx, hcell, hsz⟩
    · simp [Value.cells] at hcs
      obtain ⟨rfl, rfl, rfl⟩ := hcs
      exact ⟨[], .inl ⟨rfl, rfl, rfl, rfl⟩, .inl rfl⟩
    · simp [Value.cells] at hcs
      obtain ⟨rfl, rfl, rfl⟩ := hcs
      exact ⟨ss, .inr ⟨_, rfl, hl, hm, by simpa using hz, hcell, hsz⟩, .inr ⟨ss.take len1, ss.drop len1, (List.take_append_drop _ _).symm, (Prod.mk.inj hx).1⟩⟩
  change (DataW.weightsEach Try.prog _ _).all _ = true at hwt
  have hreach : reachBytes = 140737488351232 := rfl
  have hs0 : a0.size ≤ 140737488351232 := by
    have hmem := List.all_eq_true.1 hwt a0.size (DataW.weights_mem_each (j := 0) (t := 9) (by rw [Try.params4]; rfl) rfl a0.size (by simp [DataW.weights]))
    simp at hmem
    omega
  have hs1 : ∀ s ∈ z1, s.size ≤ 140737488351232 := by
    intro s hs
    rcases g1 with rfl | ⟨xs, ys, rfl, rfl⟩
    · cases hs
    · have hmem := List.all_eq_true.1 hwt s.size (DataW.weights_mem_each (j := 1) (t := 24) (d := DataW.slice (strs xs) (strs ys)) (by rw [Try.params4]; rfl) rfl s.size (weights_strs Try.underlying24 xs ys s hs))
      simp at hmem
      omega
  clear hA0 hval0
  obtain ⟨l1, b1, c1⟩ := SSl.of_row w1 hs1
  obtain ⟨r0, rfl⟩ : ∃ l, a0 = str l := ⟨_, (str_data a0).symm⟩
  refine (words_walk r0 (by rw [str_size] at hs0; exact hs0) a1 len1 cap1 l1 W b1 c1).mono fun e W' ⟨he, bel⟩ => ?_
  subst he
  exact ⟨_, rfl, _, _, _, [], _, [], hW', trodAll_mk1 (shut_bool Try.underlying4 _), (trodAll_cons_mk (shut_string Try.underlying9 w0) (trodAll_cons_mk (Below.trod laidOut (by kernel_rfl) (of_decide_eq_true (by kernel_rfl)) k1 bel lt1) trodAll_mk0)), rfl, bel.frame _, fun h => by cases h⟩

theorem lineWords_holds : Rows.LineWordsSaid :=
  OpenClaim.holds_of_wide 4 Try.f4 rfl rfl rfl rfl rfl rfl rfl ⟨rfl, rfl, rfl, rfl, rfl⟩ rfl rfl rfl rfl rfl (by kernel_rfl) Try.func4 (by kernel_rfl)
    (of_decide_eq_true (by kernel_rfl)) (by unfold Func.isWrapper; first | (rw [if_pos (by decide +kernel)]; kernel_rfl) | (rw [if_neg (by decide +kernel)]; exact ⟨rfl, rfl⟩))
    (fun os started H enc _ => lifted os started H enc)
#print axioms lineWords_holds
end Go.Proofs.Ythmncaebkkmkjaa.lineWords
