/- XLaid18; XNtTops; XNtNsm -/
import Derived.Test.YtkpbbfehglihlaaGreatDoorDu34
import Derived.Test.YtkpbbfehglihlaaGreatDoorDu05
import Derived.Test.YtkpbbfehglihlaaGreatDoorDu03
import Derived.ProofKit
import Derived.LaidMore
import Derived.OpenShut
import Derived.Stop.Joined
import Derived.Stop.LaidErr
import Derived.Lib.LaidTab
import Derived.Lib.ItoaNum
import Derived.Lib.SmallJoins
import Derived.ShutString
import Derived.ChangeOld
import Derived.Below
import Derived.Test.YtkpbbfehglihlaaGreatDoorRows
import Derived.Deep.CutBlock
import Derived.Deep.DeepCutAuto
import Derived.Laws.StructEq
/- What the rows' listed variables give: the table of powers of ten; a world in which they lie so. -/
namespace Go.Proofs.YtkpbbfehglihlaaGreatDoor
open Go.ChangeShapes Go.WideShapes Go.ChangeAt Go.RowKit

theorem own : ownKnob Tryz.prog.godebug = none := by kernel_rfl
theorem laidOut : laidOutB Tryz.prog = true := by kernel_rfl
abbrev laid18 : List (String × DataW Unit) := Rows.domainsStaticsRow.laid
theorem gPow : Tryz.prog.globalNamed "internal/strconv.uint64pow10" = some 0 := by kernel_rfl
theorem tPow : (Tryz.prog.globals[0]?).map (·.type) = some 231 := by kernel_rfl
theorem powData : (Rows.laid_internal_strconv_uint64pow10 : DataW Unit) = Lib.tabData .u64 Lib.pow10Tab := by kernel_rfl
theorem tab_of {W : World} (h : laidMetH Tryz.prog laid18 W) : Lib.TabIs Tryz.prog W "internal/strconv.uint64pow10" .u64 Lib.pow10Tab := by
  rw [MakeChecks.laidMetH_plain _ _ _ (by kernel_rfl)] at h
  have h2 := h.tail.tail
  rw [powData] at h2
  exact Lib.tabIs_of_head gPow tPow Tryz.underlying231 Tryz.underlying32 (by kernel_rfl) (by kernel_rfl) h2
/-- the door's own heap meets the condition -/
theorem door_met (os : Os) (args : Array Value) : laidMetH Tryz.prog laid18 ((World.doorLaid Tryz.prog 24 os).forCall (fun _ _ => 0) ⟨#[], args, []⟩).memory :=
  laidMetH_of_parts3 (fuel := 8) (laidMet_of_run' 8 (by kernel_rfl) (by kernel_rfl)) (by kernel_rfl) (by kernel_rfl)
theorem ldp_of {W : World} (h : laidMetH Tryz.prog laid18 W) : LdP W := tab_of h
end Go.Proofs.YtkpbbfehglihlaaGreatDoor

/- The contract of palingref15.tops: the same devices, links, statics and interfaces? (Made by mk-nttops.py.) -/
namespace Go.Proofs.YtkpbbfehglihlaaGreatDoor
open Go.RowKit

theorem list_eq_getD {α : Type} (d : α) {xs ys : List α} (hl : xs.length = ys.length) (h : ∀ j, j < xs.length → xs.getD j d = ys.getD j d) : xs = ys := by
  apply List.ext_getElem hl
  intro j h1 h2
  have := h j h1
  simpa [List.getD, List.getElem?_eq_getElem h1, List.getElem?_eq_getElem h2] using this
/-! Two records compared. -/
theorem eq_dev (X Y : DevV) (V : Bool) (hV : V = true ↔ X = Y) (W : World) : (Op.equalIn 10000 61 (.agg (devC X).toArray) (.agg (devC Y).toArray)).run Tryz.prog W = .ok V W := by
  rw [show (10000 : Nat) = 9999 + 1 from rfl, run_equalIn_struct W 9999 61 _ _ (by kernel_rfl) (by kernel_rfl)]
  obtain ⟨x0, x1, x2, x3, x4⟩ := X
  obtain ⟨y0, y1, y2, y3, y4⟩ := Y
  simp only [DevV.mk.injEq] at hV
  simp [Program.fieldsOf, Tryz.underlying61, Op.eqFields, go_sem, devC]
  cases V with
  | true =>
    have e := hV.1 rfl
    simp [e]
  | false =>
    have e := fun g => (show False by have := hV.2 g; cases this)
    repeat' split
    all_goals simp_all
theorem eq_link (X Y : LinkV) (V : Bool) (hV : V = true ↔ X = Y) (W : World) : (Op.equalIn 10000 85 (.agg (linkC X).toArray) (.agg (linkC Y).toArray)).run Tryz.prog W = .ok V W := by
  rw [show (10000 : Nat) = 9999 + 1 from rfl, run_equalIn_struct W 9999 85 _ _ (by kernel_rfl) (by kernel_rfl)]
  obtain ⟨x0, x1, x2⟩ := X
  obtain ⟨y0, y1, y2⟩ := Y
  simp only [LinkV.mk.injEq] at hV
  simp [Program.fieldsOf, Tryz.underlying85, Op.eqFields, go_sem, linkC]
  cases V with
  | true =>
    have e := hV.1 rfl
    simp [e]
  | false =>
    have e := fun g => (show False by have := hV.2 g; cases this)
    repeat' split
    all_goals simp_all
theorem eq_stat (X Y : StatV) (V : Bool) (hV : V = true ↔ X = Y) (W : World) : (Op.equalIn 10000 67 (.agg (statC X).toArray) (.agg (statC Y).toArray)).run Tryz.prog W = .ok V W := by
  rw [show (10000 : Nat) = 9999 + 1 from rfl, run_equalIn_struct W 9999 67 _ _ (by kernel_rfl) (by kernel_rfl)]
  obtain ⟨x0, x1, x2, x3⟩ := X
  obtain ⟨y0, y1, y2, y3⟩ := Y
  simp only [StatV.mk.injEq] at hV
  simp [Program.fieldsOf, Tryz.underlying67, Op.eqFields, go_sem, statC]
  cases V with
  | true =>
    have e := hV.1 rfl
    simp [e]
  | false =>
    have e := fun g => (show False by have := hV.2 g; cases this)
    repeat' split
    all_goals simp_all
theorem eq_irb (X Y : IrbV) (V : Bool) (hV : V = true ↔ X = Y) (W : World) : (Op.equalIn 10000 97 (.agg (irbC X).toArray) (.agg (irbC Y).toArray)).run Tryz.prog W = .ok V W := by
  rw [show (10000 : Nat) = 9999 + 1 from rfl, run_equalIn_struct W 9999 97 _ _ (by kernel_rfl) (by kernel_rfl)]
  obtain ⟨x0, x1, x2, x3, x4⟩ := X
  obtain ⟨y0, y1, y2, y3, y4⟩ := Y
  simp only [IrbV.mk.injEq] at hV
  simp [Program.fieldsOf, Tryz.underlying97, Op.eqFields, go_sem, irbC]
  cases V with
  | true =>
    have e := hV.1 rfl
    simp [e]
  | false =>
    have e := fun g => (show False by have := hV.2 g; cases this)
    repeat' split
    all_goals simp_all
def topsOk (N M : NV) : Prop := N.devices = M.devices ∧ N.links = M.links ∧ N.statics = M.statics ∧ N.irbs = M.irbs
end Go.Proofs.YtkpbbfehglihlaaGreatDoor

/- Two nets alike in all. (Made by mk-ntself.py.) -/
namespace Go.Proofs.YtkpbbfehglihlaaGreatDoor
open Go.RowKit

theorem port_ext {X Y : PortV} (h0 : X.row = Y.row) (h1 : X.dev = Y.dev) (h2 : X.native = Y.native) (h3 : X.cost = Y.cost) (h4 : X.link = Y.link) (h5 : X.name = Y.name) (h6 : X.tagged = Y.tagged) : X = Y := by
  cases X
  cases Y
  simp_all
theorem dom_ext {X Y : DomV} (h0 : X.dev = Y.dev) (h1 : X.vlan = Y.vlan) (h2 : X.vni = Y.vni) (h3 : X.irb = Y.irb) (h4 : X.row = Y.row) (h5 : X.peers = Y.peers) : X = Y := by
  cases X
  cases Y
  simp_all
theorem flood_ext {X Y : FloodV} (h0 : X.row = Y.row) (h1 : X.dev = Y.dev) (h2 : X.vni = Y.vni) (h3 : X.addrs = Y.addrs) : X = Y := by
  cases X
  cases Y
  simp_all
theorem vrf_ext {X Y : VrfV} (h0 : X.row = Y.row) (h1 : X.dev = Y.dev) (h2 : X.name = Y.name) (h3 : X.imports = Y.imports) (h4 : X.exports = Y.exports) : X = Y := by
  cases X
  cases Y
  simp_all
/-- alike? -/
noncomputable def nsmB (N M : NV) : Bool := @decide (N = M) (Classical.propDecidable _)
theorem nsmB_no {N M : NV} (h : ¬ N = M) : nsmB N M = false := by
  unfold nsmB
  exact @decide_eq_false _ (Classical.propDecidable _) h
theorem nsmB_yes {N M : NV} (h : N = M) : nsmB N M = true := by
  unfold nsmB
  exact @decide_eq_true _ (Classical.propDecidable _) h
theorem nv_ext {N M : NV} (ht : topsOk N M) (h1 : N.ports = M.ports) (h2 : N.domains = M.domains) (h3 : N.floods = M.floods) (h4 : N.vrfs = M.vrfs) : N = M := by
  obtain ⟨a, b, c, d⟩ := ht
  cases N
  cases M
  simp_all
end Go.Proofs.YtkpbbfehglihlaaGreatDoor

