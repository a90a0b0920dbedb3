/- For every two numbers of 32 bits the statement MacHosts returns true (a host's address is no group's, is told back, and is that of one ip alone); no condition. -/
import Derived.Test.YtiafhjjnihpaaaaWorks
import Derived.OpenShut
import Derived.ChangeOld
import Derived.Below
namespace Go.Proofs.Ytiafhjjnihpaaaa.macHosts
open Go.ChangeShapes Go.WideShapes Go.ChangeAt Go.RowKit

theorem own : ownKnob Try.prog.godebug = none := by kernel_rfl
theorem laidOut : laidOutB Try.prog = true := by kernel_rfl

theorem u32_of_wf {x : Int} (h : (Lit.int .u32 x).wf = true) : 0 ≤ x ∧ x < 4294967296 := by
  simp [Lit.wf, IntKind.min, IntKind.max, IntKind.signed, IntKind.bits] at h
  exact ⟨by omega, by omega⟩

theorem isHost_host (a : Int) (w : World) (h0 : 0 ≤ a) (h1 : a < 4294967296) :
    Calls Try.prog 13 #[.int .u64 (2199023255552 + a)] w fun e w' => e = .returned (.tuple #[.int .u32 a, .bool true]) ∧ w = w' := by
  have h := isHost_any (2199023255552 + a) w (by omega) (by omega)
  have e1 : isHostB (2199023255552 + a) = true := by unfold isHostB; simp; omega
  have e2 : (2199023255552 + a) % 4294967296 = a := by omega
  rw [e1, e2] at h
  exact h
theorem group_host (a : Int) (w : World) (h0 : 0 ≤ a) (h1 : a < 4294967296) :
    Calls Try.prog 15 #[.int .u64 (2199023255552 + a)] w fun e w' => e = .returned (.bool false) ∧ w = w' := by
  have h := group_any (2199023255552 + a) w (by omega) (by omega)
  have e1 : grp (2199023255552 + a) = false := by unfold grp; simp; omega
  rw [e1] at h
  exact h

theorem walk (a0 : Int) (a1 : Int) (w0 : (Lit.int .u32 a0).wf = true) (w1 : (Lit.int .u32 a1).wf = true) (w : World) :
    Calls Try.prog 7 #[.int .u32 a0, .int .u32 a1] w fun e w' => e = .returned (.bool true) ∧ Below w.heap.size w w' := by
  obtain ⟨p0, p1⟩ := u32_of_wf w0
  obtain ⟨q0, q1⟩ := u32_of_wf w1
  clear w0 w1
  by_cases hab : a0 = a1
  · subst hab
    go_enter Try.func7, Try.ntmps7
    go_wp2_with (first
      | (go_at_call 17; refine (host_any a0 _ p0 p1).mono ?_; rintro e w' ⟨rfl, rfl⟩)
      | (go_at_call 13; refine (isHost_host a0 _ p0 p1).mono ?_; rintro e w' ⟨rfl, rfl⟩)
      | (go_at_call 15; refine (group_host a0 _ p0 p1).mono ?_; rintro e w' ⟨rfl, rfl⟩)
      | (go_at_call 12; refine (works_any _).mono ?_; rintro e w1 ⟨rfl, hb1⟩))
    go_ret
    exact ⟨by simp; omega, hb1⟩
  · have n1 : (2199023255552 + a0 == 2199023255552 + a1) = false := by simp; omega
    have n2 : (a0 == a1) = false := by simpa using hab
    clear hab
    go_enter Try.func7, Try.ntmps7
    go_wp2_with (first
      | (go_at_call 17; (first | (with_reducible refine (host_any a0 _ p0 p1).mono ?_) | (with_reducible refine (host_any a1 _ q0 q1).mono ?_)); rintro e w' ⟨rfl, rfl⟩)
      | (go_at_call 13; refine (isHost_host a0 _ p0 p1).mono ?_; rintro e w' ⟨rfl, rfl⟩)
      | (go_at_call 15; refine (group_host a0 _ p0 p1).mono ?_; rintro e w' ⟨rfl, rfl⟩)
      | (go_at_call 12; refine (works_any _).mono ?_; rintro e w1 ⟨rfl, hb1⟩))
    go_ret
    exact ⟨by simp; omega, hb1⟩

set_option maxRecDepth 100000 in
theorem lifted (os : Os) (started : os.Started) (H : Type) (enc : TypeId × Value → H) :
    ReturnsInHanded {} Try.checked os 7 .any (Rows.macHostsSpec.pre6 enc Try.prog Try.f7 Rows.macHostsRow.domain false) (Rows.macHostsSpec.post enc Try.prog Try.f7 false true false false) := by
  refine returnsInHanded_of_change (C := Try.checked) own started (by kernel_rfl) Try.func7
    (ChangeSpec.witness6 (enc := enc) (C := Try.checked) false ⟨#[], #[.int .u32 0, .int .u32 0], []⟩ 8 (by kernel_rfl) (by kernel_rfl) (by kernel_rfl) (by kernel_rfl)) ?_
  intro W base args ds gs before hval0 hW hcnd _
  have hval : ∀ (j : Nat) t v, Try.f7.params[j]? = some t → args[j]? = some v → Value.okWide Try.prog W .any base t v := hval0
  have hW' := hW
  obtain ⟨p, q, hA0, hV, rfl, hfz, hnd⟩ := hW
  have hA : DataW.TrodAll enc Try.prog W 0 (fun _ => true) true Try.f7.params.toList args.toList ds p := hA0
  rw [Try.params7] at hA hval
  obtain ⟨v0, vs0, d0, ds0, p0, q0, hargs, rfl, rfl, h0, r0⟩ := trodAll_cons hA
  obtain ⟨v1, vs1, d1, ds1, p1, q1, rfl, rfl, rfl, h1, r1⟩ := trodAll_cons r0
  obtain ⟨rfl, rfl, rfl⟩ := trodAll_nil r1
  obtain rfl : args = #[v0, v1] := by cases args; simp_all
  obtain ⟨rfl, rfl⟩ := trodVars_none hV
  obtain ⟨a0, rfl, rfl, rfl, w0⟩ := open_int Try.underlying28 (hval 0 28 v0 rfl rfl) h0
  obtain ⟨a1, rfl, rfl, rfl, w1⟩ := open_int Try.underlying28 (hval 1 28 v1 rfl rfl) h1
  clear hA0 hval0
  refine (walk a0 a1 w0 w1 W).mono fun e W' ⟨he, bel⟩ => ?_
  subst he
  exact ⟨_, rfl, _, _, _, [], _, [], hW', trodAll_mk1 (shut_bool Try.underlying4 _), (trodAll_cons_mk (shut_int Try.underlying28 w0) (trodAll_cons_mk (shut_int Try.underlying28 w1) trodAll_mk0)), rfl, bel.frame _, fun h => by cases h⟩

theorem macHosts_holds : Rows.MacHostsSaid :=
  OpenClaim.holds_of_wide 7 Try.f7 rfl rfl rfl rfl rfl rfl rfl ⟨rfl, rfl, rfl, rfl, rfl⟩ rfl rfl rfl rfl rfl (by kernel_rfl) Try.func7 (by kernel_rfl)
    (of_decide_eq_true (by kernel_rfl)) (by unfold Func.isWrapper; first | (rw [if_pos (by decide +kernel)]; kernel_rfl) | (rw [if_neg (by decide +kernel)]; exact ⟨rfl, rfl⟩))
    (fun os started H enc _ => lifted os started H enc)
#print axioms macHosts_holds
end Go.Proofs.Ytiafhjjnihpaaaa.macHosts
