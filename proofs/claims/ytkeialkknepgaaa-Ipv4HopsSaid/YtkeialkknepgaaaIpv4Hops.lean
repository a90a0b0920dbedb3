/- For every packet the statement Ipv4Hops returns true (one hop on a packet has a time to live that is one less, all else is as it was, and its bytes have the sum that Turn tells; of packets that can't be put the statement itself says nothing); no condition. -/
import Derived.Test.YtkeialkknepgaaaPkHopsWalk
import Derived.Test.YtkeialkknepgaaaWf
import Derived.Test.YtkeialkknepgaaaOpen7
import Derived.SizedLaws
import Derived.OpenShut
import Derived.ShutString
import Derived.ChangeOld
import Derived.Below
import Derived.Lib.SmallJoins
namespace Go.Proofs.Ytkeialkknepgaaa.ipv4Hops
open Go.ChangeShapes Go.WideShapes Go.ChangeAt Go.RowKit Go.Joins
theorem own : ownKnob Try.prog.godebug = none := by kernel_rfl
theorem laidOut : laidOutB Try.prog = true := by kernel_rfl

set_option maxRecDepth 100000 in
theorem lifted (os : Os) (started : os.Started) (H : Type) (enc : TypeId × Value → H) :
    ReturnsInHanded {} Try.checked os 6 .any (Rows.ipv4HopsSpec.pre6 enc Try.prog Try.f6 Rows.ipv4HopsRow.domain false) (Rows.ipv4HopsSpec.post enc Try.prog Try.f6 false true false false) := by
  have same : (fun w args => (Rows.ipv4HopsSpec.pre enc Try.prog Try.f6 Rows.ipv4HopsRow.domain false w args ∧ True) ∧ sizedMet enc Try.prog Try.f6 (OpenSpec.ofChange Rows.ipv4HopsSpec) false w args) = Rows.ipv4HopsSpec.pre6 enc Try.prog Try.f6 Rows.ipv4HopsRow.domain false := by
    funext w args
    simp [ChangeSpec.pre6]
  rw [← same]
  refine returnsInHanded_of_change_and (C := Try.checked) (X := fun _ _ => True) (fun _ _ _ _ _ => trivial) own started (by kernel_rfl) Try.func6
    (by obtain ⟨w, t, i, x1, x2, x3, x4, ⟨x5, x6⟩, x7⟩ := ChangeSpec.witness6 (enc := enc) (C := Try.checked) (os := os) (s := Rows.ipv4HopsSpec) (conds := Rows.ipv4HopsRow.domain) false ⟨#[], #[.agg #[.int .i64 0, .int .i64 0, .int .i64 0, .int .i64 0, .int .u32 0, .int .u32 0, .slice none 0 0]], []⟩ 8 (by kernel_rfl) (by kernel_rfl) (by kernel_rfl) (by kernel_rfl); exact ⟨w, t, i, x1, x2, x3, x4, ⟨⟨x5, trivial⟩, x6⟩, x7⟩) ?_
  intro W base args ds gs before hval0 hW hcnd hwt _ _
  have hval : ∀ (j : Nat) t v, Try.f6.params[j]? = some t → args[j]? = some v → Value.okWide Try.prog W .any base t v := hval0
  have hW' := hW
  obtain ⟨p, q, hA0, hV, rfl, hfz, hnd⟩ := hW
  have hA : DataW.TrodAll enc Try.prog W 0 (fun _ => true) true Try.f6.params.toList args.toList ds p := hA0
  rw [Try.params6] at hA hval
  obtain ⟨v0, vs0, d0, ds0, p0, q0, hargs, rfl, rfl, h0, r0⟩ := trodAll_cons hA
  obtain ⟨rfl, rfl, rfl⟩ := trodAll_nil r0
  obtain rfl : args = #[v0] := by cases args; simp_all
  obtain ⟨rfl, rfl⟩ := trodVars_none hV
  have k0 := h0
  have lt0 : ∀ x ∈ p0, x.block < W.heap.size := by obtain ⟨m, hm⟩ := k0; exact DataW.trod_lt m _ _ _ hm
  obtain ⟨c0a, c0b, c0c, c0d, c0e, c0f, c0g, y0a, y0b, y0c, y0d, y0e, y0f, y0g, m0, rfl, rfl, rfl, hy0a, hy0b, hy0c, hy0d, hy0e, hy0f, hy0g⟩ := open_agg7 Try.underlying26 (by kernel_rfl) (by kernel_rfl) (hval 0 26 v0 rfl rfl) h0
  obtain ⟨T0, e0a, ey0a, w0a⟩ := DataW.trod_int Try.underlying3 hy0a
  obtain ⟨I0, e0b, ey0b, w0b⟩ := DataW.trod_int Try.underlying3 hy0b
  obtain ⟨L0, e0c, ey0c, w0c⟩ := DataW.trod_int Try.underlying3 hy0c
  obtain ⟨R0, e0d, ey0d, w0d⟩ := DataW.trod_int Try.underlying3 hy0d
  obtain ⟨S0, e0e, ey0e, w0e⟩ := DataW.trod_int Try.underlying24 hy0e
  obtain ⟨D0, e0f, ey0f, w0f⟩ := DataW.trod_int Try.underlying24 hy0f
  simp at e0a e0b e0c e0d e0e e0f
  subst e0a e0b e0c e0d e0e e0f
  obtain ⟨a0, len0, cap0, z0, e0g, w0⟩ : ∃ a len cap zs, c0g = .slice a len cap ∧ IsRow .u8 W a len cap zs := by
    rcases open_ints Try.underlying22 Try.underlying5 (by kernel_rfl) hy0g with ⟨hcs, _⟩ | ⟨x, l, c, zs, hcs, _, hl, hm, hz, _, hcell, hwz⟩
    · exact ⟨none, 0, 0, [], by simpa using hcs, .inl ⟨rfl, rfl, rfl, rfl⟩⟩
    · exact ⟨some x, l, c, zs, by simpa using hcs, .inr ⟨_, rfl, hl, hm, by simpa using hz, hcell, hwz⟩⟩
  subst e0g
  have u0c := i64_of_wf w0c
  have u0e := u32_of_wf w0e
  have u0f := u32_of_wf w0f
  change (DataW.weightsEach Try.prog _ _).all _ = true at hwt
  have hbig0 : len0 ≤ 140737488351232 := by
    rcases open_ints Try.underlying22 Try.underlying5 (by kernel_rfl) hy0g with ⟨hcs, _⟩ | ⟨x, l, c, zs, hcs, _, hl, hm, hz, hx, _, _⟩
    · simp at hcs; omega
    · simp at hcs
      obtain ⟨rfl, rfl, rfl⟩ := hcs
      have hmem := List.all_eq_true.1 hwt _ (DataW.weights_mem_each (j := 0) (t := 26) (d := DataW.agg [y0a.1, y0b.1, y0c.1, y0d.1, y0e.1, y0f.1, y0g.1]) (by rw [Try.params6]; rfl) rfl ((lits .u8 (zs.take len0)).length + (lits .u8 (zs.drop len0)).length) (by
        simp only [DataW.weights, Try.underlying26]
        refine DataW.weights_mem_each (j := 6) (t := 22) (d := y0g.1) rfl rfl _ ?_
        rw [hx]
        simp only [DataW.weights, Try.underlying22, show Try.prog.bytesOf 5 = 1 by kernel_rfl, Nat.mul_one]
        exact List.mem_cons_self))
      have hlen : (lits .u8 (zs.take len0) (H := H)).length + (lits .u8 (zs.drop len0) (H := H)).length = zs.length := by
        simp [lits]; omega
      have hr : reachBytes = 140737488351232 := rfl
      simp at hz hmem
      omega
  clear hA0 hval0
  obtain ⟨l0, b0⟩ := BSl.of_row w0
  refine (hops_walk T0 I0 L0 R0 S0 D0 a0 len0 cap0 l0 W b0 u0e u0f u0c.2 hbig0).mono fun e W' ⟨he, bel⟩ => ?_
  subst he
  exact ⟨_, rfl, _, _, _, [], _, [], hW', trodAll_mk1 (shut_bool Try.underlying4 _), (trodAll_cons_mk (Below.trod laidOut (by kernel_rfl) (of_decide_eq_true (by kernel_rfl)) k0 bel lt0) trodAll_mk0), rfl, bel.frame _, fun h => by cases h⟩

theorem ipv4Hops_holds : Rows.Ipv4HopsSaid :=
  OpenClaim.holds_of_wide 6 Try.f6 rfl rfl rfl rfl rfl rfl rfl ⟨rfl, rfl, rfl, rfl, rfl⟩ rfl rfl rfl rfl rfl (by kernel_rfl) Try.func6 (by kernel_rfl)
    (of_decide_eq_true (by kernel_rfl)) (by unfold Func.isWrapper; first | (rw [if_pos (by decide +kernel)]; kernel_rfl) | (rw [if_neg (by decide +kernel)]; exact ⟨rfl, rfl⟩))
    (fun os started H enc _ => lifted os started H enc)
#print axioms ipv4Hops_holds
end Go.Proofs.Ytkeialkknepgaaa.ipv4Hops
