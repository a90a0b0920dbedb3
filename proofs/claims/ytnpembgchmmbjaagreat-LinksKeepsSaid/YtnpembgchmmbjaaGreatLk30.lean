/- XLaMore; XNtTops; XNtNsm -/
import Derived.Test.YtnpembgchmmbjaaGreatLk28
import Derived.Test.YtnpembgchmmbjaaGreatLk04
import Derived.Test.YtnpembgchmmbjaaGreatLk03
import Derived.Deep.CutBlock
import Derived.Deep.DeepCutAuto
import Derived.Laws.StructEq
/- What LinksKeeps asks of a net with a link: plain facts. -/
namespace Go.Proofs.YtnpembgchmmbjaaGreat
open Go.RowKit

theorem ptK_same (dev : Int) (s : List UInt8) : ∀ (xs ys : List PortV) (k : Nat), xs.length = ys.length → (∀ i, i < xs.length → (xs.getD i PortV.zero).dev = (ys.getD i PortV.zero).dev ∧ (xs.getD i PortV.zero).name = (ys.getD i PortV.zero).name) → ptK xs dev s k = ptK ys dev s k
  | [], [], _, _, _ => rfl
  | [], y :: ys, _, h, _ => by simp at h
  | x :: xs, [], _, h, _ => by simp at h
  | x :: xs, y :: ys, k, h, g => by
    have g0 := g 0 (by simp)
    have g0 : x.dev = y.dev ∧ x.name = y.name := by simpa using g0
    have ih := ptK_same dev s xs ys (k + 1) (by simpa using h) (fun i hi => by simpa using g (i + 1) (by simpa using hi))
    rw [ptK, ptK, g0.1, g0.2, ih]
theorem wl_pt {N : NV} (row : Int) {a b : Nat} (ha : a < N.ports.length) (hb : b < N.ports.length) (hab : a ≠ b) (dev : Int) (s : List UInt8) : ptF (withLink N row a b) dev s = ptF N dev s :=
  ptK_same dev s _ _ 0 (wl_len N row a b).1 (fun i _ => by
    obtain ⟨k, e, _⟩ := wl_same row ha hb hab i
    rw [e]
    exact ⟨rfl, rfl⟩)
theorem wl_nd {N : NV} (row : Int) {a b : Nat} (ha : a < N.ports.length) (hb : b < N.ports.length) (hab : a ≠ b) (dev port : List UInt8) : ptF (withLink N row a b) (dvF (withLink N row a b) dev) port = ndF N dev port := wl_pt row ha hb hab _ _
theorem wl_sz {N : NV} (row : Int) {a b : Nat} (h : NvSz N) (ha : a < N.ports.length) (hb : b < N.ports.length) (hab : a ≠ b) (z : N.links.length < 20) : NvSz (withLink N row a b) := by
  have W := wl_len N row a b
  refine ⟨h.zdv, by rw [W.1]; exact h.zpt, by rw [W.2]; omega, h.zdm, h.zst, h.zfl, h.zvr, h.zir, fun j hj => ?_, h.idm, h.ifl, h.ivr⟩
  obtain ⟨k, e, _⟩ := wl_same row ha hb hab j
  rw [e]
  rw [W.1] at hj
  exact h.ipt j hj
theorem wl_ot {N : NV} (row : Int) {a b : Nat} (ha : a < N.ports.length) (hb : b < N.ports.length) (hab : a ≠ b) : otC (withLink N row a b) (a : Int) = (b : Int) ∧ otC (withLink N row a b) (b : Int) = (a : Int) := by
  have W := wl_len N row a b
  have ea := wl_in (N := N) row ha hb hab (.inl rfl)
  have eb := wl_in (N := N) row ha hb hab (.inr rfl)
  have pa : plB (a : Int) ((withLink N row a b).ports.length : Int) = true := (plB_iff _ _).2 ⟨by omega, by rw [W.1]; omega⟩
  have pb : plB (b : Int) ((withLink N row a b).ports.length : Int) = true := (plB_iff _ _).2 ⟨by omega, by rw [W.1]; omega⟩
  have la : (ptA (withLink N row a b) (a : Int)).link = (N.links.length : Int) := by
    show ((withLink N row a b).ports.getD a PortV.zero).link = _
    rw [ea]
  have lb : (ptA (withLink N row a b) (b : Int)).link = (N.links.length : Int) := by
    show ((withLink N row a b).ports.getD b PortV.zero).link = _
    rw [eb]
  constructor
  · unfold otC lkO
    rw [if_pos ⟨pa, by rw [la]; omega⟩, la, show ((N.links.length : Int)).toNat = N.links.length from rfl, wl_new, if_pos rfl]
  · unfold otC lkO
    rw [if_pos ⟨pb, by rw [lb]; omega⟩, lb, show ((N.links.length : Int)).toNat = N.links.length from rfl, wl_new, if_neg (by show ¬ (a : Int) = (b : Int); omega)]
/-- its ports without the link are those that were -/
theorem wl_undo {N : NV} (row : Int) {a b : Nat} (ha : a < N.ports.length) (hb : b < N.ports.length) (hab : a ≠ b) (la : (N.ports.getD a PortV.zero).link = -1) (lb : (N.ports.getD b PortV.zero).link = -1) : setL (setL (withLink N row a b).ports a (-1)) b (-1) = N.ports ∧ setL (setL (withLink N row a b).ports b (-1)) a (-1) = N.ports := by
  have W := (wl_len N row a b).1
  have key : ∀ (ys : List PortV), ys.length = N.ports.length → (∀ i, ys.getD i PortV.zero = N.ports.getD i PortV.zero) → ys = N.ports := fun ys h g => by
    apply List.ext_getElem h
    intro i h1 h2
    have := g i
    simpa [List.getD, h1, h2] using this
  have at_ : ∀ (i : Nat), ∀ v : PortV, (i = a ∨ i = b) → v = { (withLink N row a b).ports.getD i PortV.zero with link := -1 } → v = N.ports.getD i PortV.zero := fun i v hi e => by
    rw [e, wl_in row ha hb hab hi]
    rcases hi with rfl | rfl
    · rw [← la]
    · rw [← lb]
  have out_ : ∀ (i : Nat), i ≠ a → i ≠ b → (withLink N row a b).ports.getD i PortV.zero = N.ports.getD i PortV.zero := fun i h1 h2 => wl_out N row h1 h2
  constructor
  · refine key _ (by rw [setL_len, setL_len]; exact W) (fun i => ?_)
    by_cases h2 : i = b
    · subst h2
      rw [setL_at (by rw [setL_len, W]; exact hb), setL_ne (fun e => hab e.symm)]
      exact at_ i _ (.inr rfl) rfl
    rw [setL_ne h2]
    by_cases h1 : i = a
    · subst h1
      rw [setL_at (by rw [W]; exact ha)]
      exact at_ i _ (.inl rfl) rfl
    rw [setL_ne h1]
    exact out_ i h1 h2
  · refine key _ (by rw [setL_len, setL_len]; exact W) (fun i => ?_)
    by_cases h1 : i = a
    · subst h1
      rw [setL_at (by rw [setL_len, W]; exact ha), setL_ne hab]
      exact at_ i _ (.inl rfl) rfl
    rw [setL_ne h1]
    by_cases h2 : i = b
    · subst h2
      rw [setL_at (by rw [W]; exact hb)]
      exact at_ i _ (.inr rfl) rfl
    rw [setL_ne h2]
    exact out_ i h1 h2
/-- the elder links alone -/
theorem link_cut {w : World} {F : Nat → Prop} {N : NV} {row : Int} {a b : Nat} {U : NSl3} (h : NRead w F { withLink N row a b with ports := N.ports } U) : NRead w F N { U with lk := ⟨U.lk.A, N.links.length, U.lk.c⟩ } := by
  have e := rsl_take (m := N.links.length) h.lk (by have := h.lk.len; rw [← this, show ({ withLink N row a b with ports := N.ports } : NV).links.length = N.links.length + 1 from (wl_len N row a b).2]; omega)
  rw [show ({ withLink N row a b with ports := N.ports } : NV).links.take N.links.length = N.links by simp [withLink]] at e
  exact ⟨h.dv, h.pt, e, h.dm, h.st, h.fl, h.vr, h.ir⟩
/-- two ports' links stored, one behind the other -/
theorem two_lputs {w : World} {B : Nat} {F : Nat → Prop} {M : NV} {U : NSl3} (h : NOwn w B F M U) (hF : ∀ b, F b → b < B) {g : Nat} (hg : U.pt.A = some ⟨g, 0, none⟩) {a b : Nat} (ha : a < M.ports.length) (hb : b < M.ports.length) (v : Int) :
    NOwn ((w.setCell ⟨g, a * 7 + 4, none⟩ (.int .i64 v)).setCell ⟨g, b * 7 + 4, none⟩ (.int .i64 v)) B F { M with ports := setL (setL M.ports a v) b v } U ∧ ChgT B 52 w ((w.setCell ⟨g, a * 7 + 4, none⟩ (.int .i64 v)).setCell ⟨g, b * 7 + 4, none⟩ (.int .i64 v)) ∧ B ≤ g := by
  obtain ⟨h1, h2, h3⟩ := h.lput hF a ha g hg v
  obtain ⟨k1, k2, _⟩ := h1.lput hF b (by show b < (setL M.ports a v).length; rw [setL_len]; exact hb) g hg v
  exact ⟨k1, h2.trans k2, h3⟩
end Go.Proofs.YtnpembgchmmbjaaGreat

/- The contract of palingref15.tops: the same devices, links, statics and interfaces? (Made by mk-nttops.py.) -/
namespace Go.Proofs.YtnpembgchmmbjaaGreat
open Go.RowKit

theorem list_eq_getD {α : Type} (d : α) {xs ys : List α} (hl : xs.length = ys.length) (h : ∀ j, j < xs.length → xs.getD j d = ys.getD j d) : xs = ys := by
  apply List.ext_getElem hl
  intro j h1 h2
  have := h j h1
  simpa [List.getD, List.getElem?_eq_getElem h1, List.getElem?_eq_getElem h2] using this
/-! Two records compared. -/
theorem eq_dev (X Y : DevV) (V : Bool) (hV : V = true ↔ X = Y) (W : World) : (Op.equalIn 10000 56 (.agg (devC X).toArray) (.agg (devC Y).toArray)).run Tryz.prog W = .ok V W := by
  rw [show (10000 : Nat) = 9999 + 1 from rfl, run_equalIn_struct W 9999 56 _ _ (by kernel_rfl) (by kernel_rfl)]
  obtain ⟨x0, x1, x2, x3, x4⟩ := X
  obtain ⟨y0, y1, y2, y3, y4⟩ := Y
  simp only [DevV.mk.injEq] at hV
  simp [Program.fieldsOf, Tryz.underlying56, Op.eqFields, go_sem, devC]
  cases V with
  | true =>
    have e := hV.1 rfl
    simp [e]
  | false =>
    have e := fun g => (show False by have := hV.2 g; cases this)
    repeat' split
    all_goals simp_all
theorem eq_link (X Y : LinkV) (V : Bool) (hV : V = true ↔ X = Y) (W : World) : (Op.equalIn 10000 58 (.agg (linkC X).toArray) (.agg (linkC Y).toArray)).run Tryz.prog W = .ok V W := by
  rw [show (10000 : Nat) = 9999 + 1 from rfl, run_equalIn_struct W 9999 58 _ _ (by kernel_rfl) (by kernel_rfl)]
  obtain ⟨x0, x1, x2⟩ := X
  obtain ⟨y0, y1, y2⟩ := Y
  simp only [LinkV.mk.injEq] at hV
  simp [Program.fieldsOf, Tryz.underlying58, Op.eqFields, go_sem, linkC]
  cases V with
  | true =>
    have e := hV.1 rfl
    simp [e]
  | false =>
    have e := fun g => (show False by have := hV.2 g; cases this)
    repeat' split
    all_goals simp_all
theorem eq_stat (X Y : StatV) (V : Bool) (hV : V = true ↔ X = Y) (W : World) : (Op.equalIn 10000 84 (.agg (statC X).toArray) (.agg (statC Y).toArray)).run Tryz.prog W = .ok V W := by
  rw [show (10000 : Nat) = 9999 + 1 from rfl, run_equalIn_struct W 9999 84 _ _ (by kernel_rfl) (by kernel_rfl)]
  obtain ⟨x0, x1, x2, x3⟩ := X
  obtain ⟨y0, y1, y2, y3⟩ := Y
  simp only [StatV.mk.injEq] at hV
  simp [Program.fieldsOf, Tryz.underlying84, Op.eqFields, go_sem, statC]
  cases V with
  | true =>
    have e := hV.1 rfl
    simp [e]
  | false =>
    have e := fun g => (show False by have := hV.2 g; cases this)
    repeat' split
    all_goals simp_all
theorem eq_irb (X Y : IrbV) (V : Bool) (hV : V = true ↔ X = Y) (W : World) : (Op.equalIn 10000 93 (.agg (irbC X).toArray) (.agg (irbC Y).toArray)).run Tryz.prog W = .ok V W := by
  rw [show (10000 : Nat) = 9999 + 1 from rfl, run_equalIn_struct W 9999 93 _ _ (by kernel_rfl) (by kernel_rfl)]
  obtain ⟨x0, x1, x2, x3, x4⟩ := X
  obtain ⟨y0, y1, y2, y3, y4⟩ := Y
  simp only [IrbV.mk.injEq] at hV
  simp [Program.fieldsOf, Tryz.underlying93, Op.eqFields, go_sem, irbC]
  cases V with
  | true =>
    have e := hV.1 rfl
    simp [e]
  | false =>
    have e := fun g => (show False by have := hV.2 g; cases this)
    repeat' split
    all_goals simp_all
def topsOk (N M : NV) : Prop := N.devices = M.devices ∧ N.links = M.links ∧ N.statics = M.statics ∧ N.irbs = M.irbs
end Go.Proofs.YtnpembgchmmbjaaGreat

/- Two nets alike in all. (Made by mk-ntself.py.) -/
namespace Go.Proofs.YtnpembgchmmbjaaGreat
open Go.RowKit

theorem port_ext {X Y : PortV} (h0 : X.row = Y.row) (h1 : X.dev = Y.dev) (h2 : X.native = Y.native) (h3 : X.cost = Y.cost) (h4 : X.link = Y.link) (h5 : X.name = Y.name) (h6 : X.tagged = Y.tagged) : X = Y := by
  cases X
  cases Y
  simp_all
theorem dom_ext {X Y : DomV} (h0 : X.dev = Y.dev) (h1 : X.vlan = Y.vlan) (h2 : X.vni = Y.vni) (h3 : X.irb = Y.irb) (h4 : X.row = Y.row) (h5 : X.peers = Y.peers) : X = Y := by
  cases X
  cases Y
  simp_all
theorem flood_ext {X Y : FloodV} (h0 : X.row = Y.row) (h1 : X.dev = Y.dev) (h2 : X.vni = Y.vni) (h3 : X.addrs = Y.addrs) : X = Y := by
  cases X
  cases Y
  simp_all
theorem vrf_ext {X Y : VrfV} (h0 : X.row = Y.row) (h1 : X.dev = Y.dev) (h2 : X.name = Y.name) (h3 : X.imports = Y.imports) (h4 : X.exports = Y.exports) : X = Y := by
  cases X
  cases Y
  simp_all
/-- alike? -/
noncomputable def nsmB (N M : NV) : Bool := @decide (N = M) (Classical.propDecidable _)
theorem nsmB_no {N M : NV} (h : ¬ N = M) : nsmB N M = false := by
  unfold nsmB
  exact @decide_eq_false _ (Classical.propDecidable _) h
theorem nsmB_yes {N M : NV} (h : N = M) : nsmB N M = true := by
  unfold nsmB
  exact @decide_eq_true _ (Classical.propDecidable _) h
theorem nv_ext {N M : NV} (ht : topsOk N M) (h1 : N.ports = M.ports) (h2 : N.domains = M.domains) (h3 : N.floods = M.floods) (h4 : N.vrfs = M.vrfs) : N = M := by
  obtain ⟨a, b, c, d⟩ := ht
  cases N
  cases M
  simp_all
end Go.Proofs.YtnpembgchmmbjaaGreat

