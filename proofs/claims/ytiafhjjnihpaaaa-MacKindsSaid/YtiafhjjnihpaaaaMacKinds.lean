/- For every number of 64 bits and every one of 32 bits the statement MacKinds returns true (Group, Host and IsHost answer as the document's own reckoning does); no condition. -/
import Derived.Test.YtiafhjjnihpaaaaWorks
import Derived.Test.YtiafhjjnihpaaaaBytes
import Derived.OpenShut
import Derived.ChangeOld
import Derived.Below
namespace Go.Proofs.Ytiafhjjnihpaaaa.macKinds
open Go.ChangeShapes Go.WideShapes Go.ChangeAt Go.RowKit

theorem own : ownKnob Try.prog.godebug = none := by kernel_rfl
theorem laidOut : laidOutB Try.prog = true := by kernel_rfl

theorem u32_of_wf {x : Int} (h : (Lit.int .u32 x).wf = true) : 0 ≤ x ∧ x < 4294967296 := by
  simp [Lit.wf, IntKind.min, IntKind.max, IntKind.signed, IntKind.bits] at h
  exact ⟨by omega, by omega⟩
theorem u64_of_wf {x : Int} (h : (Lit.int .u64 x).wf = true) : 0 ≤ x ∧ x < 18446744073709551616 := by
  simp [Lit.wf, IntKind.min, IntKind.max, IntKind.signed, IntKind.bits] at h
  exact ⟨by omega, by omega⟩

/-- the ip that is told -/
def hostV (m : Int) : Int := if isHostB m = true then m % 4294967296 else 0

set_option maxRecDepth 100000 in
theorem walk (m : Int) (a : Int) (w0 : (Lit.int .u64 m).wf = true) (w1 : (Lit.int .u32 a).wf = true) (w : World) :
    Calls Try.prog 4 #[.int .u64 m, .int .u32 a] w fun e w' => e = .returned (.bool true) ∧ Below w.heap.size w w' := by
  obtain ⟨p0, p1⟩ := u64_of_wf w0
  obtain ⟨q0, q1⟩ := u32_of_wf w1
  clear w0 w1
  have ih : ∀ w, Calls Try.prog 13 #[.int .u64 m] w fun e w' => e = .returned (.tuple #[.int .u32 (hostV m), .bool (isHostB m)]) ∧ w = w' := fun w => isHost_any m w p0 p1
  have rh : ∀ w, Calls Try.prog 14 #[.int .u64 m] w fun e w' => e = .returned (.tuple #[.int .u32 (hostV m), .bool (isHostB m)]) ∧ Below w.heap.size w w' := fun w => refIsHost_any m w p0 p1
  have IH := Lib.hid ih; have RH := Lib.hid rh
  clear ih rh
  go_enter Try.func4, Try.ntmps4
  go_wp2_with (first
    | (go_at_call 17; refine (host_any a _ q0 q1).mono ?_; rintro e w' ⟨rfl, rfl⟩)
    | (go_at_call 18; refine (refHost_any a _ q0 q1).mono ?_; rintro e w' ⟨rfl, rfl⟩)
    | (go_at_call 13; refine (IH.out _).mono ?_; rintro e w' ⟨rfl, rfl⟩)
    | (go_at_call 14; refine (RH.out _).mono ?_; rintro e w1 ⟨rfl, hb1⟩)
    | (go_at_call 15; refine (group_any m _ p0 p1).mono ?_; rintro e w' ⟨rfl, rfl⟩)
    | (go_at_call 16; refine (refGroup_any m _ p0 p1).mono ?_; rintro e w2 ⟨rfl, hb2⟩)
    | (go_at_call 12; refine (works_any _).mono ?_; rintro e w3 ⟨rfl, hb3⟩))
  go_ret
  exact ⟨by simp, (hb1.trans (hb2.mono hb1.size)).trans (hb3.mono (hb1.trans (hb2.mono hb1.size)).size)⟩

set_option maxRecDepth 100000 in
theorem lifted (os : Os) (started : os.Started) (H : Type) (enc : TypeId × Value → H) :
    ReturnsInHanded {} Try.checked os 4 .any (Rows.macKindsSpec.pre6 enc Try.prog Try.f4 Rows.macKindsRow.domain false) (Rows.macKindsSpec.post enc Try.prog Try.f4 false true false false) := by
  refine returnsInHanded_of_change (C := Try.checked) own started (by kernel_rfl) Try.func4
    (ChangeSpec.witness6 (enc := enc) (C := Try.checked) false ⟨#[], #[.int .u64 0, .int .u32 0], []⟩ 8 (by kernel_rfl) (by kernel_rfl) (by kernel_rfl) (by kernel_rfl)) ?_
  intro W base args ds gs before hval0 hW hcnd _
  have hval : ∀ (j : Nat) t v, Try.f4.params[j]? = some t → args[j]? = some v → Value.okWide Try.prog W .any base t v := hval0
  have hW' := hW
  obtain ⟨p, q, hA0, hV, rfl, hfz, hnd⟩ := hW
  have hA : DataW.TrodAll enc Try.prog W 0 (fun _ => true) true Try.f4.params.toList args.toList ds p := hA0
  rw [Try.params4] at hA hval
  obtain ⟨v0, vs0, d0, ds0, p0, q0, hargs, rfl, rfl, h0, r0⟩ := trodAll_cons hA
  obtain ⟨v1, vs1, d1, ds1, p1, q1, rfl, rfl, rfl, h1, r1⟩ := trodAll_cons r0
  obtain ⟨rfl, rfl, rfl⟩ := trodAll_nil r1
  obtain rfl : args = #[v0, v1] := by cases args; simp_all
  obtain ⟨rfl, rfl⟩ := trodVars_none hV
  obtain ⟨a0, rfl, rfl, rfl, w0⟩ := open_int Try.underlying22 (hval 0 22 v0 rfl rfl) h0
  obtain ⟨a1, rfl, rfl, rfl, w1⟩ := open_int Try.underlying28 (hval 1 28 v1 rfl rfl) h1
  clear hA0 hval0
  refine (walk a0 a1 w0 w1 W).mono fun e W' ⟨he, bel⟩ => ?_
  subst he
  exact ⟨_, rfl, _, _, _, [], _, [], hW', trodAll_mk1 (shut_bool Try.underlying4 _), (trodAll_cons_mk (shut_int Try.underlying22 w0) (trodAll_cons_mk (shut_int Try.underlying28 w1) trodAll_mk0)), rfl, bel.frame _, fun h => by cases h⟩

theorem macKinds_holds : Rows.MacKindsSaid :=
  OpenClaim.holds_of_wide 4 Try.f4 rfl rfl rfl rfl rfl rfl rfl ⟨rfl, rfl, rfl, rfl, rfl⟩ rfl rfl rfl rfl rfl (by kernel_rfl) Try.func4 (by kernel_rfl)
    (of_decide_eq_true (by kernel_rfl)) (by unfold Func.isWrapper; first | (rw [if_pos (by decide +kernel)]; kernel_rfl) | (rw [if_neg (by decide +kernel)]; exact ⟨rfl, rfl⟩))
    (fun os started H enc _ => lifted os started H enc)
#print axioms macKinds_holds
end Go.Proofs.Ytiafhjjnihpaaaa.macKinds
