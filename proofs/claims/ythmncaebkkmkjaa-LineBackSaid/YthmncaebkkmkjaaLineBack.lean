/- For every words and every remark the statement LineBack returns true (words that are joined, with whatever remark behind, are told as they were; of more than 100 words or 2000 bytes the statement itself says nothing); no condition. -/
import Derived.Test.YthmncaebkkmkjaaLnLineBack
import Derived.Test.YthmncaebkkmkjaaWf
import Derived.SizedLaws
import Derived.OpenShut
import Derived.ShutString
import Derived.ChangeOld
import Derived.Below
namespace Go.Proofs.Ythmncaebkkmkjaa.lineBack
open Go.ChangeShapes Go.WideShapes Go.ChangeAt Go.RowKit
open Go.ChangeMaps (open_string shut_string)
theorem own : ownKnob Try.prog.godebug = none := by kernel_rfl
theorem laidOut : laidOutB Try.prog = true := by kernel_rfl

set_option maxRecDepth 100000 in
theorem lifted (os : Os) (started : os.Started) (H : Type) (enc : TypeId × Value → H) :
    ReturnsInHanded {} Try.checked os 5 .any (Rows.lineBackSpec.pre6 enc Try.prog Try.f5 Rows.lineBackRow.domain false) (Rows.lineBackSpec.post enc Try.prog Try.f5 false true false false) := by
  have same : (fun w args => (Rows.lineBackSpec.pre enc Try.prog Try.f5 Rows.lineBackRow.domain false w args ∧ True) ∧ sizedMet enc Try.prog Try.f5 (OpenSpec.ofChange Rows.lineBackSpec) false w args) = Rows.lineBackSpec.pre6 enc Try.prog Try.f5 Rows.lineBackRow.domain false := by
    funext w args
    simp [ChangeSpec.pre6]
  rw [← same]
  refine returnsInHanded_of_change_and (C := Try.checked) (X := fun _ _ => True) (fun _ _ _ _ _ => trivial) own started (by kernel_rfl) Try.func5
    (by obtain ⟨w, t, i, x1, x2, x3, x4, ⟨x5, x6⟩, x7⟩ := ChangeSpec.witness6 (enc := enc) (C := Try.checked) (os := os) (s := Rows.lineBackSpec) (conds := Rows.lineBackRow.domain) false ⟨#[], #[.slice none 0 0, .string ByteArray.empty], []⟩ 8 (by kernel_rfl) (by kernel_rfl) (by kernel_rfl) (by kernel_rfl); exact ⟨w, t, i, x1, x2, x3, x4, ⟨⟨x5, trivial⟩, x6⟩, x7⟩) ?_
  intro W base args ds gs before hval0 hW hcnd hwt _ _
  have hval : ∀ (j : Nat) t v, Try.f5.params[j]? = some t → args[j]? = some v → Value.okWide Try.prog W .any base t v := hval0
  have hW' := hW
  obtain ⟨p, q, hA0, hV, rfl, hfz, hnd⟩ := hW
  have hA : DataW.TrodAll enc Try.prog W 0 (fun _ => true) true Try.f5.params.toList args.toList ds p := hA0
  rw [Try.params5] at hA hval
  obtain ⟨v0, vs0, d0, ds0, p0, q0, hargs, rfl, rfl, h0, r0⟩ := trodAll_cons hA
  obtain ⟨v1, vs1, d1, ds1, p1, q1, rfl, rfl, rfl, h1, r1⟩ := trodAll_cons r0
  obtain ⟨rfl, rfl, rfl⟩ := trodAll_nil r1
  obtain rfl : args = #[v0, v1] := by cases args; simp_all
  obtain ⟨rfl, rfl⟩ := trodVars_none hV
  obtain ⟨a0, len0, cap0, rfl⟩ := okWide_slice Try.underlying24 (hval 0 24 v0 rfl rfl)
  have k0 := h0
  have lt0 : ∀ x ∈ p0, x.block < W.heap.size := by obtain ⟨m, hm⟩ := k0; exact DataW.trod_lt m _ _ _ hm
  obtain ⟨z0, w0, g0⟩ : ∃ ss, IsRowS W a0 len0 cap0 ss ∧ (ss = [] ∨ ∃ xs ys, ss = xs ++ ys ∧ d0 = .slice (strs xs) (strs ys)) := by
    obtain ⟨fuel, hf⟩ := h0
    rcases open_strings Try.underlying24 Try.underlying9 (by kernel_rfl) hf with ⟨hcs, _⟩ | ⟨x, l, c, ss, hcs, _, hl, hm, hz, hx, hcell, hsz⟩
    · simp [Value.cells] at hcs
      obtain ⟨rfl, rfl, rfl⟩ := hcs
      exact ⟨[], .inl ⟨rfl, rfl, rfl, rfl⟩, .inl rfl⟩
    · simp [Value.cells] at hcs
      obtain ⟨rfl, rfl, rfl⟩ := hcs
      exact ⟨ss, .inr ⟨_, rfl, hl, hm, by simpa using hz, hcell, hsz⟩, .inr ⟨ss.take len0, ss.drop len0, (List.take_append_drop _ _).symm, (Prod.mk.inj hx).1⟩⟩
  obtain ⟨a1, rfl, rfl, rfl, w1⟩ := open_string Try.underlying9 (hval 1 9 v1 rfl rfl) h1
  change (DataW.weightsEach Try.prog _ _).all _ = true at hwt
  have hreach : reachBytes = 140737488351232 := rfl
  have hs0 : ∀ s ∈ z0, s.size ≤ 140737488351232 := by
    intro s hs
    rcases g0 with rfl | ⟨xs, ys, rfl, rfl⟩
    · cases hs
    · have hmem := List.all_eq_true.1 hwt s.size (DataW.weights_mem_each (j := 0) (t := 24) (d := DataW.slice (strs xs) (strs ys)) (by rw [Try.params5]; rfl) rfl s.size (weights_strs Try.underlying24 xs ys s hs))
      simp at hmem
      omega
  have hs1 : a1.size ≤ 140737488351232 := by
    have hmem := List.all_eq_true.1 hwt a1.size (DataW.weights_mem_each (j := 1) (t := 9) (by rw [Try.params5]; rfl) rfl a1.size (by simp [DataW.weights]))
    simp at hmem
    omega
  clear hA0 hval0
  obtain ⟨l0, b0, c0⟩ := SSl.of_row w0 hs0
  obtain ⟨r1, rfl⟩ : ∃ l, a1 = str l := ⟨_, (str_data a1).symm⟩
  refine (lback_walk a0 len0 cap0 l0 r1 (by rw [str_size] at hs1; exact hs1) W b0 c0).mono fun e W' ⟨he, bel⟩ => ?_
  subst he
  exact ⟨_, rfl, _, _, _, [], _, [], hW', trodAll_mk1 (shut_bool Try.underlying4 _), (trodAll_cons_mk (Below.trod laidOut (by kernel_rfl) (of_decide_eq_true (by kernel_rfl)) k0 bel lt0) (trodAll_cons_mk (shut_string Try.underlying9 w1) trodAll_mk0)), rfl, bel.frame _, fun h => by cases h⟩

theorem lineBack_holds : Rows.LineBackSaid :=
  OpenClaim.holds_of_wide 5 Try.f5 rfl rfl rfl rfl rfl rfl rfl ⟨rfl, rfl, rfl, rfl, rfl⟩ rfl rfl rfl rfl rfl (by kernel_rfl) Try.func5 (by kernel_rfl)
    (of_decide_eq_true (by kernel_rfl)) (by unfold Func.isWrapper; first | (rw [if_pos (by decide +kernel)]; kernel_rfl) | (rw [if_neg (by decide +kernel)]; exact ⟨rfl, rfl⟩))
    (fun os started H enc _ => lifted os started H enc)
#print axioms lineBack_holds
end Go.Proofs.Ythmncaebkkmkjaa.lineBack
