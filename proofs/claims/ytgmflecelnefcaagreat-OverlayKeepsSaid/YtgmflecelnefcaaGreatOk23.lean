/- Only what the statement at hand leans on. -/
import Derived.Test.YtgmflecelnefcaaGreatOk18
/- Package names: a record copied (copyDevice, copyPort, copyDomain, copyFlood, copyVrf). (Made by mk-nncopyx.py.) -/
namespace Go.Proofs.YtgmflecelnefcaaGreat
open Go.RowKit

theorem Cs.set {w : World} {q : Nat} {l : List Value} (h : Cs w q l) (j : Nat) (v : Value) (hj : j < l.length) : Cs (w.setCell ⟨q, j, none⟩ v) q (l.set j v) := by
  refine ⟨fun i x hx => ?_, by simpa using h.2⟩
  by_cases e : i = j
  · subst e
    rw [List.getElem?_set_self hj] at hx
    cases hx
    exact World.cell?_setCell_same _ _ _ (h.1 i _ (List.getElem?_eq_getElem hj))
  · rw [List.getElem?_set_ne (fun g => e g.symm)] at hx
    rw [World.cell?_setCell_other _ _ _ _ (by intro g; injection g with _ g2; first | exact e g2 | exact e g2.symm)]
    exact h.1 i x hx
theorem Cs.far {w : World} {q p j : Nat} {l : List Value} (h : Cs w q l) (hp : p ≠ q) (v : Value) : Cs (w.setCell ⟨p, j, none⟩ v) q l :=
  ⟨fun i x hx => by rw [World.cell?_setCell_other _ _ _ _ (by intro g; injection g with g1; first | exact hp g1 | exact hp g1.symm)]; exact h.1 i x hx, by simpa using h.2⟩
theorem res_dev (tmps : Array Value) (W : World) (X : DevV) (q : Nat) (h2 : tmps[2]?.getD undef = .pointer (some ⟨q, 0, none⟩)) (hb : Cs W q [.int .i64 X.row, .int .i64 X.prio, .string (str X.name), .int .u64 X.mac, .int .u32 X.vtep]) :
    (results Tryz.f96 tmps).run Tryz.prog W = .ok (.agg #[.int .i64 X.row, .int .i64 X.prio, .string (str X.name), .int .u64 X.mac, .int .u32 X.vtep]) W := by
  have t0 := hb.1 0 _ rfl
  have t1 := hb.1 1 _ rfl
  have t2 := hb.1 2 _ rfl
  have t3 := hb.1 3 _ rfl
  have t4 := hb.1 4 _ rfl
  clear hb
  simp [results, Tryz.results96, go_sem, h2, t0, t1, t2, t3, t4]
def Got_dev (X : DevV) (w : World) (e : Ending) (w' : World) : Prop := e = .returned (.agg #[.int .i64 X.row, .int .i64 X.prio, .string (str X.name), .int .u64 X.mac, .int .u32 X.vtep]) ∧ Below w.heap.size w w'
set_option maxRecDepth 20000 in
set_option maxHeartbeats 4000000 in
theorem copy_dev (X : DevV) (w : World) (hs : X.name.length ≤ 140737488351232) : Calls Tryz.prog 96 #[.agg #[.int .i64 X.row, .int .i64 X.prio, .string (str X.name), .int .u64 X.mac, .int .u32 X.vtep]] w (Got_dev X w) := by
  have TC := Lib.hid (fun w' => tclone2 X.name w' hs)
  clear hs
  unfold Got_dev
  go_enter Tryz.func96, Tryz.ntmps96
  go_upto_region 1 with fail
  obtain ⟨W, hW⟩ : ∃ W, (w.alloc (.cells #[.int .i64 X.row, .int .i64 X.prio, .string (str X.name), .int .u64 X.mac, .int .u32 X.vtep] 58)).alloc (.cells #[.int .i64 0, .int .i64 0, .string ⟨#[]⟩, .int .u64 0, .int .u32 0] 58) = W := ⟨_, rfl⟩
  have FA := Lib.hid (show ∀ o, W.frozen? ⟨w.heap.size, o, none⟩ = false ∧ W.frozen? ⟨w.heap.size + 1, o, none⟩ = false from fun o => by rw [← hW]; exact ⟨by simp [go_sem], by simp [go_sem]⟩)
  have CA := Lib.hid (show Cs W w.heap.size [.int .i64 X.row, .int .i64 X.prio, .string (str X.name), .int .u64 X.mac, .int .u32 X.vtep] ∧ Cs W (w.heap.size + 1) [.int .i64 0, .int .i64 0, .string ⟨#[]⟩, .int .u64 0, .int .u32 0] ∧ Below w.heap.size w W from by
    have h1 := Cs.new w [.int .i64 X.row, .int .i64 X.prio, .string (str X.name), .int .u64 X.mac, .int .u32 X.vtep] 58
    have h2 := Cs.new (w.alloc (.cells #[.int .i64 X.row, .int .i64 X.prio, .string (str X.name), .int .u64 X.mac, .int .u32 X.vtep] 58)) [.int .i64 0, .int .i64 0, .string ⟨#[]⟩, .int .u64 0, .int .u32 0] 58
    rw [show (w.alloc (.cells #[.int .i64 X.row, .int .i64 X.prio, .string (str X.name), .int .u64 X.mac, .int .u32 X.vtep] 58)).heap.size = w.heap.size + 1 by simp] at h2
    rw [← hW]
    exact ⟨h1.below (alloc_below _ _), h2, alloc2_below w _ _⟩)
  rw [hW]
  clear hW
  have KF := Lib.hid (show ∀ wx, Below W.heap.size W wx → ∀ o, wx.frozen? ⟨w.heap.size, o, none⟩ = false ∧ wx.frozen? ⟨w.heap.size + 1, o, none⟩ = false from fun wx hx o => ⟨(World.frozen?_of_block (w := W) (a := ⟨w.heap.size, o, none⟩) (hx.block _ CA.out.1.2)).trans (FA.out o).1, (World.frozen?_of_block (w := W) (a := ⟨w.heap.size + 1, o, none⟩) (hx.block _ CA.out.2.1.2)).trans (FA.out o).2⟩)
  have ql : w.heap.size < W.heap.size := CA.out.1.2
  have ql2 : w.heap.size + 1 < W.heap.size := CA.out.2.1.2
  go_cut [] (fun wx => Cs wx w.heap.size [.int .i64 X.row, .int .i64 X.prio, .string (str X.name), .int .u64 X.mac, .int .u32 X.vtep] ∧ Cs wx (w.heap.size + 1) [.int .i64 0, .int .i64 0, .string ⟨#[]⟩, .int .u64 0, .int .u32 0] ∧ Below w.heap.size w wx ∧ W.heap.size ≤ wx.heap.size ∧ ∀ o, wx.frozen? ⟨w.heap.size + 1, o, none⟩ = false)
  case first =>
    have k2 := CA.out.1.1 2 _ rfl
    go_wp2_with (go_at_call 141; (with_reducible refine (TC.out _).mono ?_); rintro e w1 ⟨rfl, hb⟩; have Y := Lib.hid hb; have cs1 := CA.out.1.below hb; have q3 := cs1.2; have k2 := cs1.1 2 _ rfl; have z2 := (KF.out _ hb 2).1; clear hb)
    go_meet
    have D := (CA.out.1.below Y.out).set 2 (.string (str X.name)) (by simp)
    exact ⟨D, (CA.out.2.1.below Y.out).far (by omega) _, (CA.out.2.2.trans (Y.out.mono CA.out.2.2.size)).setCell (Nat.le_refl _) _, by have := Y.out.size; simpa using this, fun o => by simp only [World.frozen?_setCell]; exact (KF.out _ Y.out o).2⟩
  case rest =>
  obtain ⟨h1, h2, hb, hz, fz⟩ := hcut
  rename World => w5
  have c0 := h1.1 0 _ rfl
  have e0_ := h2.1 0 _ rfl
  have c1 := h1.1 1 _ rfl
  have e1_ := h2.1 1 _ rfl
  have c2 := h1.1 2 _ rfl
  have e2_ := h2.1 2 _ rfl
  have c3 := h1.1 3 _ rfl
  have e3_ := h2.1 3 _ rfl
  have c4 := h1.1 4 _ rfl
  have e4_ := h2.1 4 _ rfl
  have q1 := h1.2
  have q2 := h2.2
  have z0 := fz 0
  have z1 := fz 1
  have z2 := fz 2
  have z3 := fz 3
  have z4 := fz 4
  have CF := Lib.hid (((((h2.set 0 (.int .i64 X.row) (by simp)).set 1 (.int .i64 X.prio) (by simp)).set 2 (.string (str X.name)) (by simp)).set 3 (.int .u64 X.mac) (by simp)).set 4 (.int .u32 X.vtep) (by simp))
  have BF := Lib.hid (((((hb.setCell (p := ⟨w.heap.size + 1, 0, none⟩) (by simp) (.int .i64 X.row)).setCell (p := ⟨w.heap.size + 1, 1, none⟩) (by simp) (.int .i64 X.prio)).setCell (p := ⟨w.heap.size + 1, 2, none⟩) (by simp) (.string (str X.name))).setCell (p := ⟨w.heap.size + 1, 3, none⟩) (by simp) (.int .u64 X.mac)).setCell (p := ⟨w.heap.size + 1, 4, none⟩) (by simp) (.int .u32 X.vtep))
  have hh := Lib.hid (show ∀ b, W.heap.size ≤ b → (((((w5.setCell ⟨w.heap.size + 1, 0, none⟩ (.int .i64 X.row)).setCell ⟨w.heap.size + 1, 1, none⟩ (.int .i64 X.prio)).setCell ⟨w.heap.size + 1, 2, none⟩ (.string (str X.name))).setCell ⟨w.heap.size + 1, 3, none⟩ (.int .u64 X.mac)).setCell ⟨w.heap.size + 1, 4, none⟩ (.int .u32 X.vtep)).heap[b]? = w5.heap[b]? from fun b hb => by rw [Below.heap_setCell _ _ _ _ (by intro e; simp at e; omega), Below.heap_setCell _ _ _ _ (by intro e; simp at e; omega), Below.heap_setCell _ _ _ _ (by intro e; simp at e; omega), Below.heap_setCell _ _ _ _ (by intro e; simp at e; omega), Below.heap_setCell _ _ _ _ (by intro e; simp at e; omega)])
  clear h1 h2 hb fz hz
  go_wp2
  refine bodyPost_ret (res_dev _ _ X (w.heap.size + 1) rfl CF.out) rfl ?_
  exact ⟨rfl, BF.out⟩
theorem res_dom (tmps : Array Value) (W : World) (X : DomV) (u1 : Sl3) (q : Nat) (h2 : tmps[2]?.getD undef = .pointer (some ⟨q, 0, none⟩)) (hb : Cs W q [.int .i64 X.dev, .int .i64 X.vlan, .int .i64 X.vni, .int .i64 X.irb, .int .i64 X.row, .slice u1.A u1.n u1.c]) :
    (results Tryz.f101 tmps).run Tryz.prog W = .ok (.agg #[.int .i64 X.dev, .int .i64 X.vlan, .int .i64 X.vni, .int .i64 X.irb, .int .i64 X.row, .slice u1.A u1.n u1.c]) W := by
  have t0 := hb.1 0 _ rfl
  have t1 := hb.1 1 _ rfl
  have t2 := hb.1 2 _ rfl
  have t3 := hb.1 3 _ rfl
  have t4 := hb.1 4 _ rfl
  have t5 := hb.1 5 _ rfl
  clear hb
  simp [results, Tryz.results101, go_sem, h2, t0, t1, t2, t3, t4, t5]
def Got_dom (X : DomV) (w : World) (e : Ending) (w' : World) : Prop := ∃ u1 : Sl3, e = .returned (.agg #[.int .i64 X.dev, .int .i64 X.vlan, .int .i64 X.vni, .int .i64 X.irb, .int .i64 X.row, .slice u1.A u1.n u1.c]) ∧ RSl (Rdr.int .i64) w' (NFB w.heap.size w') u1.A u1.n u1.c X.peers ∧ Below w.heap.size w w'
set_option maxRecDepth 20000 in
set_option maxHeartbeats 4000000 in
theorem copy_dom (X : DomV) (s : Sl3) (w : World) (l1 : RSl (Rdr.int .i64) w (allB w) s.A s.n s.c X.peers) (z1 : X.peers.length ≤ 100) : Calls Tryz.prog 101 #[.agg #[.int .i64 X.dev, .int .i64 X.vlan, .int .i64 X.vni, .int .i64 X.irb, .int .i64 X.row, .slice s.A s.n s.c]] w (Got_dom X w) := by
  have CL1 := Lib.hid (fun (w' : World) (hb : Below w.heap.size w w') => cl_int s X.peers w' (up_rsl l1 hb) (by omega))
  clear l1 z1
  unfold Got_dom
  go_enter Tryz.func101, Tryz.ntmps101
  go_upto_region 1 with fail
  obtain ⟨W, hW⟩ : ∃ W, (w.alloc (.cells #[.int .i64 X.dev, .int .i64 X.vlan, .int .i64 X.vni, .int .i64 X.irb, .int .i64 X.row, .slice s.A s.n s.c] 54)).alloc (.cells #[.int .i64 0, .int .i64 0, .int .i64 0, .int .i64 0, .int .i64 0, .slice none 0 0] 54) = W := ⟨_, rfl⟩
  have FA := Lib.hid (show ∀ o, W.frozen? ⟨w.heap.size, o, none⟩ = false ∧ W.frozen? ⟨w.heap.size + 1, o, none⟩ = false from fun o => by rw [← hW]; exact ⟨by simp [go_sem], by simp [go_sem]⟩)
  have CA := Lib.hid (show Cs W w.heap.size [.int .i64 X.dev, .int .i64 X.vlan, .int .i64 X.vni, .int .i64 X.irb, .int .i64 X.row, .slice s.A s.n s.c] ∧ Cs W (w.heap.size + 1) [.int .i64 0, .int .i64 0, .int .i64 0, .int .i64 0, .int .i64 0, .slice none 0 0] ∧ Below w.heap.size w W from by
    have h1 := Cs.new w [.int .i64 X.dev, .int .i64 X.vlan, .int .i64 X.vni, .int .i64 X.irb, .int .i64 X.row, .slice s.A s.n s.c] 54
    have h2 := Cs.new (w.alloc (.cells #[.int .i64 X.dev, .int .i64 X.vlan, .int .i64 X.vni, .int .i64 X.irb, .int .i64 X.row, .slice s.A s.n s.c] 54)) [.int .i64 0, .int .i64 0, .int .i64 0, .int .i64 0, .int .i64 0, .slice none 0 0] 54
    rw [show (w.alloc (.cells #[.int .i64 X.dev, .int .i64 X.vlan, .int .i64 X.vni, .int .i64 X.irb, .int .i64 X.row, .slice s.A s.n s.c] 54)).heap.size = w.heap.size + 1 by simp] at h2
    rw [← hW]
    exact ⟨h1.below (alloc_below _ _), h2, alloc2_below w _ _⟩)
  rw [hW]
  clear hW
  have KF := Lib.hid (show ∀ wx, Below W.heap.size W wx → ∀ o, wx.frozen? ⟨w.heap.size, o, none⟩ = false ∧ wx.frozen? ⟨w.heap.size + 1, o, none⟩ = false from fun wx hx o => ⟨(World.frozen?_of_block (w := W) (a := ⟨w.heap.size, o, none⟩) (hx.block _ CA.out.1.2)).trans (FA.out o).1, (World.frozen?_of_block (w := W) (a := ⟨w.heap.size + 1, o, none⟩) (hx.block _ CA.out.2.1.2)).trans (FA.out o).2⟩)
  have ql : w.heap.size < W.heap.size := CA.out.1.2
  have ql2 : w.heap.size + 1 < W.heap.size := CA.out.2.1.2
  go_cut [] (fun wx => ∃ u1 : Sl3, Cs wx w.heap.size [.int .i64 X.dev, .int .i64 X.vlan, .int .i64 X.vni, .int .i64 X.irb, .int .i64 X.row, .slice u1.A u1.n u1.c] ∧ Cs wx (w.heap.size + 1) [.int .i64 0, .int .i64 0, .int .i64 0, .int .i64 0, .int .i64 0, .slice none 0 0] ∧ RSl (Rdr.int .i64) wx (NFB W.heap.size wx) u1.A u1.n u1.c X.peers ∧ Below w.heap.size w wx ∧ W.heap.size ≤ wx.heap.size ∧ ∀ o, wx.frozen? ⟨w.heap.size + 1, o, none⟩ = false)
  case first =>
    have k5 := CA.out.1.1 5 _ rfl
    go_wp2_with (go_at_call 142; (with_reducible refine (CL1.out _ CA.out.2.2).mono ?_); rintro e w1 ⟨u, rfl, hr, hb⟩; have Y := Lib.hid hb; have R := Lib.hid hr; have cs1 := CA.out.1.below hb; have q3 := cs1.2; have k5 := cs1.1 5 _ rfl; have z5 := (KF.out _ hb 5).1; clear hb hr)
    go_meet
    have D := (CA.out.1.below Y.out).set 5 (.slice u.A u.n u.c) (by simp)
    refine ⟨u, D, (CA.out.2.1.below Y.out).far (by omega) _, R.out.keep (F' := NFB W.heap.size _) (fun b hb => ?_) (fun b hb => ?_), (CA.out.2.2.trans (Y.out.mono CA.out.2.2.size)).setCell (Nat.le_refl _) _, by have := Y.out.size; simpa using this, fun o => by simp only [World.frozen?_setCell]; exact (KF.out _ Y.out o).2⟩
    · exact Below.heap_setCell _ _ _ _ (by have := hb.1; intro e; simp at e; omega)
    · exact hb.same (Below.heap_setCell _ _ _ _ (by have := hb.1; intro e; simp at e; omega))
  case rest =>
  obtain ⟨u1, h1, h2, r1, hb, hz, fz⟩ := hcut
  rename World => w5
  have c0 := h1.1 0 _ rfl
  have e0_ := h2.1 0 _ rfl
  have c1 := h1.1 1 _ rfl
  have e1_ := h2.1 1 _ rfl
  have c2 := h1.1 2 _ rfl
  have e2_ := h2.1 2 _ rfl
  have c3 := h1.1 3 _ rfl
  have e3_ := h2.1 3 _ rfl
  have c4 := h1.1 4 _ rfl
  have e4_ := h2.1 4 _ rfl
  have c5 := h1.1 5 _ rfl
  have e5_ := h2.1 5 _ rfl
  have q1 := h1.2
  have q2 := h2.2
  have z0 := fz 0
  have z1 := fz 1
  have z2 := fz 2
  have z3 := fz 3
  have z4 := fz 4
  have z5 := fz 5
  have CF := Lib.hid ((((((h2.set 0 (.int .i64 X.dev) (by simp)).set 1 (.int .i64 X.vlan) (by simp)).set 2 (.int .i64 X.vni) (by simp)).set 3 (.int .i64 X.irb) (by simp)).set 4 (.int .i64 X.row) (by simp)).set 5 (.slice u1.A u1.n u1.c) (by simp))
  have BF := Lib.hid ((((((hb.setCell (p := ⟨w.heap.size + 1, 0, none⟩) (by simp) (.int .i64 X.dev)).setCell (p := ⟨w.heap.size + 1, 1, none⟩) (by simp) (.int .i64 X.vlan)).setCell (p := ⟨w.heap.size + 1, 2, none⟩) (by simp) (.int .i64 X.vni)).setCell (p := ⟨w.heap.size + 1, 3, none⟩) (by simp) (.int .i64 X.irb)).setCell (p := ⟨w.heap.size + 1, 4, none⟩) (by simp) (.int .i64 X.row)).setCell (p := ⟨w.heap.size + 1, 5, none⟩) (by simp) (.slice u1.A u1.n u1.c))
  have hh := Lib.hid (show ∀ b, W.heap.size ≤ b → ((((((w5.setCell ⟨w.heap.size + 1, 0, none⟩ (.int .i64 X.dev)).setCell ⟨w.heap.size + 1, 1, none⟩ (.int .i64 X.vlan)).setCell ⟨w.heap.size + 1, 2, none⟩ (.int .i64 X.vni)).setCell ⟨w.heap.size + 1, 3, none⟩ (.int .i64 X.irb)).setCell ⟨w.heap.size + 1, 4, none⟩ (.int .i64 X.row)).setCell ⟨w.heap.size + 1, 5, none⟩ (.slice u1.A u1.n u1.c)).heap[b]? = w5.heap[b]? from fun b hb => by rw [Below.heap_setCell _ _ _ _ (by intro e; simp at e; omega), Below.heap_setCell _ _ _ _ (by intro e; simp at e; omega), Below.heap_setCell _ _ _ _ (by intro e; simp at e; omega), Below.heap_setCell _ _ _ _ (by intro e; simp at e; omega), Below.heap_setCell _ _ _ _ (by intro e; simp at e; omega), Below.heap_setCell _ _ _ _ (by intro e; simp at e; omega)])
  have HR1 := Lib.hid r1
  clear h1 h2 hb fz hz r1
  go_wp2
  refine bodyPost_ret (res_dom _ _ X u1 (w.heap.size + 1) rfl CF.out) rfl ?_
  exact ⟨u1, rfl, HR1.out.keep (F' := NFB w.heap.size _) (fun b hb => hh.out b hb.1) (fun b hb => (hb.low (by omega)).same (hh.out b hb.1)), BF.out⟩
theorem res_flood (tmps : Array Value) (W : World) (X : FloodV) (u1 : Sl3) (q : Nat) (h2 : tmps[2]?.getD undef = .pointer (some ⟨q, 0, none⟩)) (hb : Cs W q [.int .i64 X.row, .int .i64 X.dev, .int .i64 X.vni, .slice u1.A u1.n u1.c]) :
    (results Tryz.f104 tmps).run Tryz.prog W = .ok (.agg #[.int .i64 X.row, .int .i64 X.dev, .int .i64 X.vni, .slice u1.A u1.n u1.c]) W := by
  have t0 := hb.1 0 _ rfl
  have t1 := hb.1 1 _ rfl
  have t2 := hb.1 2 _ rfl
  have t3 := hb.1 3 _ rfl
  clear hb
  simp [results, Tryz.results104, go_sem, h2, t0, t1, t2, t3]
def Got_flood (X : FloodV) (w : World) (e : Ending) (w' : World) : Prop := ∃ u1 : Sl3, e = .returned (.agg #[.int .i64 X.row, .int .i64 X.dev, .int .i64 X.vni, .slice u1.A u1.n u1.c]) ∧ RSl (Rdr.int .u32) w' (NFB w.heap.size w') u1.A u1.n u1.c X.addrs ∧ Below w.heap.size w w'
set_option maxRecDepth 20000 in
set_option maxHeartbeats 4000000 in
theorem copy_flood (X : FloodV) (s : Sl3) (w : World) (l1 : RSl (Rdr.int .u32) w (allB w) s.A s.n s.c X.addrs) (z1 : X.addrs.length ≤ 100) : Calls Tryz.prog 104 #[.agg #[.int .i64 X.row, .int .i64 X.dev, .int .i64 X.vni, .slice s.A s.n s.c]] w (Got_flood X w) := by
  have CL1 := Lib.hid (fun (w' : World) (hb : Below w.heap.size w w') => cl_uint32 s X.addrs w' (up_rsl l1 hb) (by omega))
  clear l1 z1
  unfold Got_flood
  go_enter Tryz.func104, Tryz.ntmps104
  go_upto_region 1 with fail
  obtain ⟨W, hW⟩ : ∃ W, (w.alloc (.cells #[.int .i64 X.row, .int .i64 X.dev, .int .i64 X.vni, .slice s.A s.n s.c] 71)).alloc (.cells #[.int .i64 0, .int .i64 0, .int .i64 0, .slice none 0 0] 71) = W := ⟨_, rfl⟩
  have FA := Lib.hid (show ∀ o, W.frozen? ⟨w.heap.size, o, none⟩ = false ∧ W.frozen? ⟨w.heap.size + 1, o, none⟩ = false from fun o => by rw [← hW]; exact ⟨by simp [go_sem], by simp [go_sem]⟩)
  have CA := Lib.hid (show Cs W w.heap.size [.int .i64 X.row, .int .i64 X.dev, .int .i64 X.vni, .slice s.A s.n s.c] ∧ Cs W (w.heap.size + 1) [.int .i64 0, .int .i64 0, .int .i64 0, .slice none 0 0] ∧ Below w.heap.size w W from by
    have h1 := Cs.new w [.int .i64 X.row, .int .i64 X.dev, .int .i64 X.vni, .slice s.A s.n s.c] 71
    have h2 := Cs.new (w.alloc (.cells #[.int .i64 X.row, .int .i64 X.dev, .int .i64 X.vni, .slice s.A s.n s.c] 71)) [.int .i64 0, .int .i64 0, .int .i64 0, .slice none 0 0] 71
    rw [show (w.alloc (.cells #[.int .i64 X.row, .int .i64 X.dev, .int .i64 X.vni, .slice s.A s.n s.c] 71)).heap.size = w.heap.size + 1 by simp] at h2
    rw [← hW]
    exact ⟨h1.below (alloc_below _ _), h2, alloc2_below w _ _⟩)
  rw [hW]
  clear hW
  have KF := Lib.hid (show ∀ wx, Below W.heap.size W wx → ∀ o, wx.frozen? ⟨w.heap.size, o, none⟩ = false ∧ wx.frozen? ⟨w.heap.size + 1, o, none⟩ = false from fun wx hx o => ⟨(World.frozen?_of_block (w := W) (a := ⟨w.heap.size, o, none⟩) (hx.block _ CA.out.1.2)).trans (FA.out o).1, (World.frozen?_of_block (w := W) (a := ⟨w.heap.size + 1, o, none⟩) (hx.block _ CA.out.2.1.2)).trans (FA.out o).2⟩)
  have ql : w.heap.size < W.heap.size := CA.out.1.2
  have ql2 : w.heap.size + 1 < W.heap.size := CA.out.2.1.2
  go_cut [] (fun wx => ∃ u1 : Sl3, Cs wx w.heap.size [.int .i64 X.row, .int .i64 X.dev, .int .i64 X.vni, .slice u1.A u1.n u1.c] ∧ Cs wx (w.heap.size + 1) [.int .i64 0, .int .i64 0, .int .i64 0, .slice none 0 0] ∧ RSl (Rdr.int .u32) wx (NFB W.heap.size wx) u1.A u1.n u1.c X.addrs ∧ Below w.heap.size w wx ∧ W.heap.size ≤ wx.heap.size ∧ ∀ o, wx.frozen? ⟨w.heap.size + 1, o, none⟩ = false)
  case first =>
    have k3 := CA.out.1.1 3 _ rfl
    go_wp2_with (go_at_call 143; (with_reducible refine (CL1.out _ CA.out.2.2).mono ?_); rintro e w1 ⟨u, rfl, hr, hb⟩; have Y := Lib.hid hb; have R := Lib.hid hr; have cs1 := CA.out.1.below hb; have q3 := cs1.2; have k3 := cs1.1 3 _ rfl; have z3 := (KF.out _ hb 3).1; clear hb hr)
    go_meet
    have D := (CA.out.1.below Y.out).set 3 (.slice u.A u.n u.c) (by simp)
    refine ⟨u, D, (CA.out.2.1.below Y.out).far (by omega) _, R.out.keep (F' := NFB W.heap.size _) (fun b hb => ?_) (fun b hb => ?_), (CA.out.2.2.trans (Y.out.mono CA.out.2.2.size)).setCell (Nat.le_refl _) _, by have := Y.out.size; simpa using this, fun o => by simp only [World.frozen?_setCell]; exact (KF.out _ Y.out o).2⟩
    · exact Below.heap_setCell _ _ _ _ (by have := hb.1; intro e; simp at e; omega)
    · exact hb.same (Below.heap_setCell _ _ _ _ (by have := hb.1; intro e; simp at e; omega))
  case rest =>
  obtain ⟨u1, h1, h2, r1, hb, hz, fz⟩ := hcut
  rename World => w5
  have c0 := h1.1 0 _ rfl
  have e0_ := h2.1 0 _ rfl
  have c1 := h1.1 1 _ rfl
  have e1_ := h2.1 1 _ rfl
  have c2 := h1.1 2 _ rfl
  have e2_ := h2.1 2 _ rfl
  have c3 := h1.1 3 _ rfl
  have e3_ := h2.1 3 _ rfl
  have q1 := h1.2
  have q2 := h2.2
  have z0 := fz 0
  have z1 := fz 1
  have z2 := fz 2
  have z3 := fz 3
  have CF := Lib.hid ((((h2.set 0 (.int .i64 X.row) (by simp)).set 1 (.int .i64 X.dev) (by simp)).set 2 (.int .i64 X.vni) (by simp)).set 3 (.slice u1.A u1.n u1.c) (by simp))
  have BF := Lib.hid ((((hb.setCell (p := ⟨w.heap.size + 1, 0, none⟩) (by simp) (.int .i64 X.row)).setCell (p := ⟨w.heap.size + 1, 1, none⟩) (by simp) (.int .i64 X.dev)).setCell (p := ⟨w.heap.size + 1, 2, none⟩) (by simp) (.int .i64 X.vni)).setCell (p := ⟨w.heap.size + 1, 3, none⟩) (by simp) (.slice u1.A u1.n u1.c))
  have hh := Lib.hid (show ∀ b, W.heap.size ≤ b → ((((w5.setCell ⟨w.heap.size + 1, 0, none⟩ (.int .i64 X.row)).setCell ⟨w.heap.size + 1, 1, none⟩ (.int .i64 X.dev)).setCell ⟨w.heap.size + 1, 2, none⟩ (.int .i64 X.vni)).setCell ⟨w.heap.size + 1, 3, none⟩ (.slice u1.A u1.n u1.c)).heap[b]? = w5.heap[b]? from fun b hb => by rw [Below.heap_setCell _ _ _ _ (by intro e; simp at e; omega), Below.heap_setCell _ _ _ _ (by intro e; simp at e; omega), Below.heap_setCell _ _ _ _ (by intro e; simp at e; omega), Below.heap_setCell _ _ _ _ (by intro e; simp at e; omega)])
  have HR1 := Lib.hid r1
  clear h1 h2 hb fz hz r1
  go_wp2
  refine bodyPost_ret (res_flood _ _ X u1 (w.heap.size + 1) rfl CF.out) rfl ?_
  exact ⟨u1, rfl, HR1.out.keep (F' := NFB w.heap.size _) (fun b hb => hh.out b hb.1) (fun b hb => (hb.low (by omega)).same (hh.out b hb.1)), BF.out⟩
end Go.Proofs.YtgmflecelnefcaaGreat

