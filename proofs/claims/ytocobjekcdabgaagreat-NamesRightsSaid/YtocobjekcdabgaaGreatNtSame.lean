/- The contract of palingref15.Same: are two nets alike in all? (Made by mk-ntsame.py.) -/
import Derived.Test.YtocobjekcdabgaaGreatNtTops
import Derived.Test.YtocobjekcdabgaaGreatNtInts
import Derived.RegionTactic
namespace Go.Proofs.YtocobjekcdabgaaGreat
open Go.RowKit

theorem port_ext {X Y : PortV} (h0 : X.row = Y.row) (h1 : X.dev = Y.dev) (h2 : X.native = Y.native) (h3 : X.cost = Y.cost) (h4 : X.link = Y.link) (h5 : X.name = Y.name) (h6 : X.tagged = Y.tagged) : X = Y := by
  cases X
  cases Y
  simp_all
theorem dom_ext {X Y : DomV} (h0 : X.dev = Y.dev) (h1 : X.vlan = Y.vlan) (h2 : X.vni = Y.vni) (h3 : X.irb = Y.irb) (h4 : X.row = Y.row) (h5 : X.peers = Y.peers) : X = Y := by
  cases X
  cases Y
  simp_all
theorem flood_ext {X Y : FloodV} (h0 : X.row = Y.row) (h1 : X.dev = Y.dev) (h2 : X.vni = Y.vni) (h3 : X.addrs = Y.addrs) : X = Y := by
  cases X
  cases Y
  simp_all
theorem vrf_ext {X Y : VrfV} (h0 : X.row = Y.row) (h1 : X.dev = Y.dev) (h2 : X.name = Y.name) (h3 : X.imports = Y.imports) (h4 : X.exports = Y.exports) : X = Y := by
  cases X
  cases Y
  simp_all
/-- alike? -/
noncomputable def nsmB (N M : NV) : Bool := @decide (N = M) (Classical.propDecidable _)
theorem nsmB_no {N M : NV} (h : ¬ N = M) : nsmB N M = false := by
  unfold nsmB
  exact @decide_eq_false _ (Classical.propDecidable _) h
theorem nsmB_yes {N M : NV} (h : N = M) : nsmB N M = true := by
  unfold nsmB
  exact @decide_eq_true _ (Classical.propDecidable _) h
theorem nsmB_iff (N M : NV) : nsmB N M = true ↔ N = M := by
  unfold nsmB
  exact @decide_eq_true_iff _ (Classical.propDecidable _)
theorem nv_ext {N M : NV} (ht : topsOk N M) (h1 : N.ports = M.ports) (h2 : N.domains = M.domains) (h3 : N.floods = M.floods) (h4 : N.vrfs = M.vrfs) : N = M := by
  obtain ⟨a, b, c, d⟩ := ht
  cases N
  cases M
  simp_all
theorem tops_of {N M : NV} (h : N = M) : topsOk N M := by subst h; exact ⟨rfl, rfl, rfl, rfl⟩
set_option maxRecDepth 20000 in
set_option maxHeartbeats 8000000 in
theorem rnsame_any (N M : NV) (S S2 : NSl3) (w : World) (h : NRead w (allB w) N S) (h2 : NRead w (allB w) M S2) : Calls Tryz.prog 9 #[netV S, netV S2] w fun e w' => e = .returned (.bool (nsmB N M)) ∧ Below w.heap.size w w' := by
  have H_pt := Lib.hid h.pt
  have G_pt := Lib.hid h2.pt
  have LE_pt := Lib.hid h.pt.len
  have LF_pt := Lib.hid h2.pt.len
  have hle_pt := h.pt.le
  have hcap_pt := h.pt.cap
  have gle_pt := h2.pt.le
  have gcap_pt := h2.pt.cap
  have H_dm := Lib.hid h.dm
  have G_dm := Lib.hid h2.dm
  have LE_dm := Lib.hid h.dm.len
  have LF_dm := Lib.hid h2.dm.len
  have hle_dm := h.dm.le
  have hcap_dm := h.dm.cap
  have gle_dm := h2.dm.le
  have gcap_dm := h2.dm.cap
  have H_fl := Lib.hid h.fl
  have G_fl := Lib.hid h2.fl
  have LE_fl := Lib.hid h.fl.len
  have LF_fl := Lib.hid h2.fl.len
  have hle_fl := h.fl.le
  have hcap_fl := h.fl.cap
  have gle_fl := h2.fl.le
  have gcap_fl := h2.fl.cap
  have H_vr := Lib.hid h.vr
  have G_vr := Lib.hid h2.vr
  have LE_vr := Lib.hid h.vr.len
  have LF_vr := Lib.hid h2.vr.len
  have hle_vr := h.vr.le
  have hcap_vr := h.vr.cap
  have gle_vr := h2.vr.le
  have gcap_vr := h2.vr.cap
  have NO := Lib.hid (@nsmB_no N M)
  have YES := Lib.hid (@nsmB_yes N M)
  have NB := Lib.hid ((NBox.new w S 31).below ((Below.refl _ _).alloc (Nat.le_refl _) (.cells #[.slice S2.dv.A S2.dv.n S2.dv.c, .slice S2.pt.A S2.pt.n S2.pt.c, .slice S2.lk.A S2.lk.n S2.lk.c, .slice S2.dm.A S2.dm.n S2.dm.c, .slice S2.st.A S2.st.n S2.st.c, .slice S2.fl.A S2.fl.n S2.fl.c, .slice S2.vr.A S2.vr.n S2.vr.c, .slice S2.ir.A S2.ir.n S2.ir.c] 31)))
  have NC := Lib.hid (NBox.new (w.alloc (.cells #[.slice S.dv.A S.dv.n S.dv.c, .slice S.pt.A S.pt.n S.pt.c, .slice S.lk.A S.lk.n S.lk.c, .slice S.dm.A S.dm.n S.dm.c, .slice S.st.A S.st.n S.st.c, .slice S.fl.A S.fl.n S.fl.c, .slice S.vr.A S.vr.n S.vr.c, .slice S.ir.A S.ir.n S.ir.c] 31)) S2 31)
  have B0 := Lib.hid (two_alloc w (.cells #[.slice S.dv.A S.dv.n S.dv.c, .slice S.pt.A S.pt.n S.pt.c, .slice S.lk.A S.lk.n S.lk.c, .slice S.dm.A S.dm.n S.dm.c, .slice S.st.A S.st.n S.st.c, .slice S.fl.A S.fl.n S.fl.c, .slice S.vr.A S.vr.n S.vr.c, .slice S.ir.A S.ir.n S.ir.c] 31) (.cells #[.slice S2.dv.A S2.dv.n S2.dv.c, .slice S2.pt.A S2.pt.n S2.pt.c, .slice S2.lk.A S2.lk.n S2.lk.c, .slice S2.dm.A S2.dm.n S2.dm.c, .slice S2.st.A S2.st.n S2.st.c, .slice S2.fl.A S2.fl.n S2.fl.c, .slice S2.vr.A S2.vr.n S2.vr.c, .slice S2.ir.A S2.ir.n S2.ir.c] 31))
  have TP := fun (w' : World) (hb : Below w.heap.size w w') => tops_any N M S S2 w' (h.up hb) (h2.up hb)
  obtain ⟨vt, hvt⟩ : ∃ v, topB N M = v := ⟨_, rfl⟩
  rw [hvt] at TP
  unfold netV at TP ⊢
  have TP := Lib.hid TP
  have T1 := Lib.hid (show vt = true → topsOk N M from fun e => (topB_iff N M).1 (hvt.trans e))
  have T0 := Lib.hid (show vt = false → ¬ N = M from fun e g => by have := (topB_iff N M).2 (tops_of g); rw [hvt, e] at this; cases this)
  generalize nsmB N M = V at *
  clear h h2 hvt
  go_enter Tryz.func9, Tryz.ntmps9
  go_upto_region 1 with fail
  obtain ⟨w1, hw1⟩ : ∃ w1, (w.alloc (.cells #[.slice S.dv.A S.dv.n S.dv.c, .slice S.pt.A S.pt.n S.pt.c, .slice S.lk.A S.lk.n S.lk.c, .slice S.dm.A S.dm.n S.dm.c, .slice S.st.A S.st.n S.st.c, .slice S.fl.A S.fl.n S.fl.c, .slice S.vr.A S.vr.n S.vr.c, .slice S.ir.A S.ir.n S.ir.c] 31)).alloc (.cells #[.slice S2.dv.A S2.dv.n S2.dv.c, .slice S2.pt.A S2.pt.n S2.pt.c, .slice S2.lk.A S2.lk.n S2.lk.c, .slice S2.dm.A S2.dm.n S2.dm.c, .slice S2.st.A S2.st.n S2.st.c, .slice S2.fl.A S2.fl.n S2.fl.c, .slice S2.vr.A S2.vr.n S2.vr.c, .slice S2.ir.A S2.ir.n S2.ir.c] 31) = w1 := ⟨_, rfl⟩
  have hz : (w.alloc (.cells #[.slice S.dv.A S.dv.n S.dv.c, .slice S.pt.A S.pt.n S.pt.c, .slice S.lk.A S.lk.n S.lk.c, .slice S.dm.A S.dm.n S.dm.c, .slice S.st.A S.st.n S.st.c, .slice S.fl.A S.fl.n S.fl.c, .slice S.vr.A S.vr.n S.vr.c, .slice S.ir.A S.ir.n S.ir.c] 31)).heap.size = w.heap.size + 1 := by simp
  rw [hz] at NC
  rw [hw1] at NB NC B0 ⊢
  clear hw1 hz
  have KN := Lib.hid (show ∀ wx, Below w1.heap.size w1 wx → (wx.cell? ⟨w.heap.size, 0, none⟩ = some (.slice S.dv.A S.dv.n S.dv.c) ∧ wx.cell? ⟨w.heap.size, 1, none⟩ = some (.slice S.pt.A S.pt.n S.pt.c) ∧ wx.cell? ⟨w.heap.size, 2, none⟩ = some (.slice S.lk.A S.lk.n S.lk.c) ∧ wx.cell? ⟨w.heap.size, 3, none⟩ = some (.slice S.dm.A S.dm.n S.dm.c) ∧ wx.cell? ⟨w.heap.size, 4, none⟩ = some (.slice S.st.A S.st.n S.st.c) ∧ wx.cell? ⟨w.heap.size, 5, none⟩ = some (.slice S.fl.A S.fl.n S.fl.c) ∧ wx.cell? ⟨w.heap.size, 6, none⟩ = some (.slice S.vr.A S.vr.n S.vr.c) ∧ wx.cell? ⟨w.heap.size, 7, none⟩ = some (.slice S.ir.A S.ir.n S.ir.c)) ∧ (wx.cell? ⟨w.heap.size + 1, 0, none⟩ = some (.slice S2.dv.A S2.dv.n S2.dv.c) ∧ wx.cell? ⟨w.heap.size + 1, 1, none⟩ = some (.slice S2.pt.A S2.pt.n S2.pt.c) ∧ wx.cell? ⟨w.heap.size + 1, 2, none⟩ = some (.slice S2.lk.A S2.lk.n S2.lk.c) ∧ wx.cell? ⟨w.heap.size + 1, 3, none⟩ = some (.slice S2.dm.A S2.dm.n S2.dm.c) ∧ wx.cell? ⟨w.heap.size + 1, 4, none⟩ = some (.slice S2.st.A S2.st.n S2.st.c) ∧ wx.cell? ⟨w.heap.size + 1, 5, none⟩ = some (.slice S2.fl.A S2.fl.n S2.fl.c) ∧ wx.cell? ⟨w.heap.size + 1, 6, none⟩ = some (.slice S2.vr.A S2.vr.n S2.vr.c) ∧ wx.cell? ⟨w.heap.size + 1, 7, none⟩ = some (.slice S2.ir.A S2.ir.n S2.ir.c)) ∧ Below w.heap.size w wx from fun wx hx => by
    have nb := NB.out.below hx
    have nc := NC.out.below hx
    exact ⟨⟨nb.c0, nb.c1, nb.c2, nb.c3, nb.c4, nb.c5, nb.c6, nb.c7⟩, ⟨nc.c0, nc.c1, nc.c2, nc.c3, nc.c4, nc.c5, nc.c6, nc.c7⟩, B0.out.trans (hx.mono B0.out.size)⟩)
  have NL := Lib.hid (show w.heap.size < w1.heap.size ∧ w.heap.size + 1 < w1.heap.size from ⟨NB.out.lt, NC.out.lt⟩)
  obtain ⟨⟨f0, f1, f2, f3, f4, f5, f6, f7⟩, ⟨m0, m1, m2, m3, m4, m5, m6, m7⟩, _⟩ := KN.out w1 (Below.refl _ _)
  have BT := Lib.hid (Below.refl w1.heap.size w1)
  cases vt
  · have EV := Lib.hid (NO.out (T0.out rfl))
    go_wp2_with (go_at_call 53; (with_reducible refine (TP.out _ B0.out).mono ?_); rintro e w2_ ⟨rfl, b2_⟩; have Y1 := Lib.hid b2_; obtain ⟨⟨f0, f1, f2, f3, f4, f5, f6, f7⟩, ⟨m0, m1, m2, m3, m4, m5, m6, m7⟩, hB⟩ := KN.out w2_ b2_; have X1 := Lib.hid hB; clear hB b2_)
    go_ret
    exact ⟨by rw [EV.out]; rfl, X1.out⟩
  have TOP := Lib.hid (T1.out rfl)
  clear T0 T1
  by_cases c_pt : S.pt.n = S2.pt.n
  rotate_left
  · have z_pt : ((S.pt.n : Int) != (S2.pt.n : Int)) = true := by simp; omega
    have EV := Lib.hid (NO.out (fun g => c_pt (by rw [← LE_pt.out, ← LF_pt.out, g])))
    clear c_pt
    go_wp2_with (go_at_call 53; (with_reducible refine (TP.out _ B0.out).mono ?_); rintro e w2_ ⟨rfl, b2_⟩; have Y1 := Lib.hid b2_; obtain ⟨⟨f0, f1, f2, f3, f4, f5, f6, f7⟩, ⟨m0, m1, m2, m3, m4, m5, m6, m7⟩, hB⟩ := KN.out w2_ b2_; have X1 := Lib.hid hB; clear hB b2_)
    go_ret
    exact ⟨by rw [EV.out]; rfl, X1.out⟩
  have z_pt : ((S.pt.n : Int) != (S2.pt.n : Int)) = false := by simp; omega
  have EQ_pt := Lib.hid c_pt
  clear c_pt
  by_cases c_dm : S.dm.n = S2.dm.n
  rotate_left
  · have z_dm : ((S.dm.n : Int) != (S2.dm.n : Int)) = true := by simp; omega
    have EV := Lib.hid (NO.out (fun g => c_dm (by rw [← LE_dm.out, ← LF_dm.out, g])))
    clear c_dm
    go_wp2_with (go_at_call 53; (with_reducible refine (TP.out _ B0.out).mono ?_); rintro e w2_ ⟨rfl, b2_⟩; have Y1 := Lib.hid b2_; obtain ⟨⟨f0, f1, f2, f3, f4, f5, f6, f7⟩, ⟨m0, m1, m2, m3, m4, m5, m6, m7⟩, hB⟩ := KN.out w2_ b2_; have X1 := Lib.hid hB; clear hB b2_)
    go_ret
    exact ⟨by rw [EV.out]; rfl, X1.out⟩
  have z_dm : ((S.dm.n : Int) != (S2.dm.n : Int)) = false := by simp; omega
  have EQ_dm := Lib.hid c_dm
  clear c_dm
  by_cases c_fl : S.fl.n = S2.fl.n
  rotate_left
  · have z_fl : ((S.fl.n : Int) != (S2.fl.n : Int)) = true := by simp; omega
    have EV := Lib.hid (NO.out (fun g => c_fl (by rw [← LE_fl.out, ← LF_fl.out, g])))
    clear c_fl
    go_wp2_with (go_at_call 53; (with_reducible refine (TP.out _ B0.out).mono ?_); rintro e w2_ ⟨rfl, b2_⟩; have Y1 := Lib.hid b2_; obtain ⟨⟨f0, f1, f2, f3, f4, f5, f6, f7⟩, ⟨m0, m1, m2, m3, m4, m5, m6, m7⟩, hB⟩ := KN.out w2_ b2_; have X1 := Lib.hid hB; clear hB b2_)
    go_ret
    exact ⟨by rw [EV.out]; rfl, X1.out⟩
  have z_fl : ((S.fl.n : Int) != (S2.fl.n : Int)) = false := by simp; omega
  have EQ_fl := Lib.hid c_fl
  clear c_fl
  by_cases c_vr : S.vr.n = S2.vr.n
  rotate_left
  · have z_vr : ((S.vr.n : Int) != (S2.vr.n : Int)) = true := by simp; omega
    have EV := Lib.hid (NO.out (fun g => c_vr (by rw [← LE_vr.out, ← LF_vr.out, g])))
    clear c_vr
    go_wp2_with (go_at_call 53; (with_reducible refine (TP.out _ B0.out).mono ?_); rintro e w2_ ⟨rfl, b2_⟩; have Y1 := Lib.hid b2_; obtain ⟨⟨f0, f1, f2, f3, f4, f5, f6, f7⟩, ⟨m0, m1, m2, m3, m4, m5, m6, m7⟩, hB⟩ := KN.out w2_ b2_; have X1 := Lib.hid hB; clear hB b2_)
    go_ret
    exact ⟨by rw [EV.out]; rfl, X1.out⟩
  have z_vr : ((S.vr.n : Int) != (S2.vr.n : Int)) = false := by simp; omega
  have EQ_vr := Lib.hid c_vr
  clear c_vr
  go_upto_block 0 with (go_at_call 53; (with_reducible refine (TP.out _ B0.out).mono ?_); rintro e w2_ ⟨rfl, b2_⟩; have Y1 := Lib.hid b2_; obtain ⟨⟨f0, f1, f2, f3, f4, f5, f6, f7⟩, ⟨m0, m1, m2, m3, m4, m5, m6, m7⟩, hB⟩ := KN.out w2_ b2_; have X1 := Lib.hid hB; clear hB b2_)
  clear f0 f1 f2 f3 f4 f5 f6 f7 m0 m1 m2 m3 m4 m5 m6 m7 TP BT
  go_cut [] (fun wx => (∀ j, j < S.pt.n → N.ports.getD j PortV.zero = M.ports.getD j PortV.zero) ∧ Below w1.heap.size w1 wx)
  case first =>
    obtain ⟨⟨f0, f1, f2, f3, f4, f5, f6, f7⟩, ⟨m0, m1, m2, m3, m4, m5, m6, m7⟩, _⟩ := KN.out _ Y1.out
    go_wp2_with fail
    clear f0 f1 f2 f3 f4 f5 f6 f7 m0 m1 m2 m3 m4 m5 m6 m7
    go_loopw [5] (fun i wr => ∃ k : Nat, i = .int .i64 k ∧ k ≤ S.pt.n ∧ Below w1.heap.size w1 wr ∧ ∀ j, j < k → N.ports.getD j PortV.zero = M.ports.getD j PortV.zero) (fun i _ => match i with | .int _ y => (S.pt.n - y).toNat | _ => 0)
    case atStart => exact ⟨0, rfl, by omega, Y1.out, fun j hj => absurd hj (by omega)⟩
    case round =>
    obtain ⟨k, rfl, hk, hb, hall⟩ := hrel
    have AL := Lib.hid hall
    have W := Lib.hid hb
    have W0 := Lib.hid (B0.out.trans (hb.mono B0.out.size))
    clear hall hb
    obtain ⟨⟨f0, f1, f2, f3, f4, f5, f6, f7⟩, ⟨m0, m1, m2, m3, m4, m5, m6, m7⟩, _⟩ := KN.out wr W.out
    have n_ := f1
    have m_ := m1
    have nl1 : w.heap.size < wr.heap.size := Nat.lt_of_lt_of_le NL.out.1 W.out.size
    have nl2 : w.heap.size + 1 < wr.heap.size := Nat.lt_of_lt_of_le NL.out.2 W.out.size
    clear f0 f1 f2 f3 f4 f5 f6 f7 m0 m1 m2 m3 m4 m5 m6 m7
    by_cases hlt : k < S.pt.n
    rotate_left
    · have lt2 : ¬ (k : Int) < (S.pt.n : Int) := by omega
      go_wp2
      go_meet
      exact ⟨fun j hj => AL.out j (by omega), W.out⟩
    obtain ⟨b0, o0, vs, e0, _, hb0, ⟨s, rfl, l0⟩, r0⟩ := rsl_at H_pt.out k hlt PortV.zero
    obtain ⟨b1, o1, us, e1, _, hb1, ⟨t, rfl, k0⟩, r1⟩ := rsl_at G_pt.out k (by have := EQ_pt.out; omega) PortV.zero
    obtain ⟨X, hX⟩ : ∃ X, N.ports.getD k PortV.zero = X := ⟨_, rfl⟩
    obtain ⟨Y, hY⟩ : ∃ Y, M.ports.getD k PortV.zero = Y := ⟨_, rfl⟩
    rw [hX] at r0 l0
    rw [hY] at r1 k0
    have R0 := rangeAt_keep r0 (W0.out.block b0 hb0)
    have R1 := rangeAt_keep r1 (W0.out.block b1 hb1)
    have d0 := R0 0 _ rfl
    have e0_ := R1 0 _ rfl
    have d1 := R0 1 _ rfl
    have e1_ := R1 1 _ rfl
    have d2 := R0 2 _ rfl
    have e2_ := R1 2 _ rfl
    have d3 := R0 3 _ rfl
    have e3_ := R1 3 _ rfl
    have d4 := R0 4 _ rfl
    have e4_ := R1 4 _ rfl
    have d5 := R0 5 _ rfl
    have e5_ := R1 5 _ rfl
    have d6 := R0 6 _ rfl
    have e6_ := R1 6 _ rfl
    simp only [Nat.add_zero] at d0 e0_
    rw [show o0 + k * portR.n = o0 + k * 7 from rfl] at d0 d1 d2 d3 d4 d5 d6
    rw [show o1 + k * portR.n = o1 + k * 7 from rfl] at e0_ e1_ e2_ e3_ e4_ e5_ e6_
    have lt2 : (k : Int) < (S.pt.n : Int) := by omega
    have lt3 : (k : Int) < (S2.pt.n : Int) := by have := EQ_pt.out; omega
    have zb0 : b0 < wr.heap.size := Nat.lt_of_lt_of_le hb0 W0.out.size
    have zb1 : b1 < wr.heap.size := Nat.lt_of_lt_of_le hb1 W0.out.size
    have HX := Lib.hid hX
    have HY := Lib.hid hY
    rw [e0] at n_
    rw [e1] at m_
    clear r0 r1 R0 R1 hX hY e0 e1
    have NE := Lib.hid (show ¬ X = Y → V = false from fun hn => NO.out (fun g => hn (by rw [← HX.out, ← HY.out, g])))
    have ALk := Lib.hid (show X = Y → ∀ j, j < k + 1 → N.ports.getD j PortV.zero = M.ports.getD j PortV.zero from fun e j hj => by
      rcases Nat.lt_or_ge j k with h' | h'
      · exact AL.out j h'
      · obtain rfl : j = k := by omega
        rw [HX.out, HY.out, e])
    go_upto_region 6 with fail
    go_cut [6, 7] (fun p q wx => ∃ b6 b7, p = .pointer (some ⟨b6, 0, none⟩) ∧ q = .pointer (some ⟨b7, 0, none⟩) ∧ (wx.cell? ⟨b6, 0, none⟩ = some (.int .i64 X.row) ∧ wx.cell? ⟨b6, 1, none⟩ = some (.int .i64 X.dev) ∧ wx.cell? ⟨b6, 2, none⟩ = some (.int .i64 X.native) ∧ wx.cell? ⟨b6, 3, none⟩ = some (.int .i64 X.cost) ∧ wx.cell? ⟨b6, 4, none⟩ = some (.int .i64 X.link) ∧ wx.cell? ⟨b6, 5, none⟩ = some (.string (str X.name)) ∧ wx.cell? ⟨b6, 6, none⟩ = some (.slice s.A s.n s.c)) ∧ (wx.cell? ⟨b7, 0, none⟩ = some (.int .i64 Y.row) ∧ wx.cell? ⟨b7, 1, none⟩ = some (.int .i64 Y.dev) ∧ wx.cell? ⟨b7, 2, none⟩ = some (.int .i64 Y.native) ∧ wx.cell? ⟨b7, 3, none⟩ = some (.int .i64 Y.cost) ∧ wx.cell? ⟨b7, 4, none⟩ = some (.int .i64 Y.link) ∧ wx.cell? ⟨b7, 5, none⟩ = some (.string (str Y.name)) ∧ wx.cell? ⟨b7, 6, none⟩ = some (.slice t.A t.n t.c)) ∧ b6 < wx.heap.size ∧ b7 < wx.heap.size ∧ Below wr.heap.size wr wx)
    case first =>
      go_region
      all_goals (try go_wp2)
      all_goals go_meet
      all_goals (refine ⟨_, _, rfl, rfl, ?_, ?_, ?_, ?_, ?_⟩)
      all_goals first
        | exact (((Below.refl _ _).alloc (Nat.le_refl _) _).alloc (by simp) _).drew
        | exact ((Below.refl _ _).alloc (Nat.le_refl _) _).alloc (by simp) _
        | (simp; done)
        | (simp; omega)
    case rest =>
    obtain ⟨b6, b7, rfl, rfl, ⟨g0, g1, g2, g3, g4, g5, g6⟩, ⟨h0, h1, h2, h3, h4, h5, h6⟩, zb6, zb7, hbw⟩ := hcut
    rename World => w5
    have Y5 := Lib.hid hbw
    have X5 := Lib.hid (W0.out.trans (hbw.mono W0.out.size))
    have C5 := Lib.hid (W.out.trans (hbw.mono W.out.size))
    clear hbw n_ m_ d0 d1 d2 d3 d4 d5 d6 e0_ e1_ e2_ e3_ e4_ e5_ e6_ zb0 zb1 nl1 nl2
    obtain ⟨B0, hB0⟩ : ∃ B : Bool, B = true ↔ X.tagged = Y.tagged := ⟨@decide (X.tagged = Y.tagged) (Classical.propDecidable _), @decide_eq_true_iff _ (Classical.propDecidable _)⟩
    have I0 := Lib.hid (fun (w' : World) (hb : Below w.heap.size w w') => rints2_any s.A s.n s.c X.tagged t.A t.n t.c Y.tagged w' (isl_rsl (l0.below (fun _ h => h) hb)) (isl_rsl (k0.below (fun _ h => h) hb)) B0 hB0)
    have HT0 := Lib.hid (show B0 = true → X.tagged = Y.tagged from hB0.1)
    have HF0 := Lib.hid (show B0 = false → ¬ X.tagged = Y.tagged from fun e g => by have := hB0.2 g; rw [e] at this; cases this)
    clear hB0 l0 k0
    by_cases t0 : X.row = Y.row
    rotate_left
    · have y0 : (X.row != Y.row) = true := by simpa using t0
      have yy0 : (X.row == Y.row) = false := by simpa using t0
      have EV := Lib.hid (NE.out (fun g => t0 (by rw [g])))
      clear t0
      go_wp2
      go_ret
      exact ⟨by rw [EV.out]; rfl, X5.out⟩
    have y0 : (X.row != Y.row) = false := by simpa using t0
    have yy0 : (X.row == Y.row) = true := by simpa using t0
    have Q0 := Lib.hid t0
    clear t0
    by_cases t1 : X.dev = Y.dev
    rotate_left
    · have y1 : (X.dev != Y.dev) = true := by simpa using t1
      have yy1 : (X.dev == Y.dev) = false := by simpa using t1
      have EV := Lib.hid (NE.out (fun g => t1 (by rw [g])))
      clear t1
      go_wp2
      go_ret
      exact ⟨by rw [EV.out]; rfl, X5.out⟩
    have y1 : (X.dev != Y.dev) = false := by simpa using t1
    have yy1 : (X.dev == Y.dev) = true := by simpa using t1
    have Q1 := Lib.hid t1
    clear t1
    by_cases t2 : X.native = Y.native
    rotate_left
    · have y2 : (X.native != Y.native) = true := by simpa using t2
      have yy2 : (X.native == Y.native) = false := by simpa using t2
      have EV := Lib.hid (NE.out (fun g => t2 (by rw [g])))
      clear t2
      go_wp2
      go_ret
      exact ⟨by rw [EV.out]; rfl, X5.out⟩
    have y2 : (X.native != Y.native) = false := by simpa using t2
    have yy2 : (X.native == Y.native) = true := by simpa using t2
    have Q2 := Lib.hid t2
    clear t2
    by_cases t3 : X.cost = Y.cost
    rotate_left
    · have y3 : (X.cost != Y.cost) = true := by simpa using t3
      have yy3 : (X.cost == Y.cost) = false := by simpa using t3
      have EV := Lib.hid (NE.out (fun g => t3 (by rw [g])))
      clear t3
      go_wp2
      go_ret
      exact ⟨by rw [EV.out]; rfl, X5.out⟩
    have y3 : (X.cost != Y.cost) = false := by simpa using t3
    have yy3 : (X.cost == Y.cost) = true := by simpa using t3
    have Q3 := Lib.hid t3
    clear t3
    by_cases t4 : X.link = Y.link
    rotate_left
    · have y4 : (X.link != Y.link) = true := by simpa using t4
      have yy4 : (X.link == Y.link) = false := by simpa using t4
      have EV := Lib.hid (NE.out (fun g => t4 (by rw [g])))
      clear t4
      go_wp2
      go_ret
      exact ⟨by rw [EV.out]; rfl, X5.out⟩
    have y4 : (X.link != Y.link) = false := by simpa using t4
    have yy4 : (X.link == Y.link) = true := by simpa using t4
    have Q4 := Lib.hid t4
    clear t4
    by_cases t5 : X.name = Y.name
    rotate_left
    · have y5 : (X.name != Y.name) = true := by simpa using t5
      have yy5 : (X.name == Y.name) = false := by simpa using t5
      have EV := Lib.hid (NE.out (fun g => t5 (by rw [g])))
      clear t5
      go_wp2
      go_ret
      exact ⟨by rw [EV.out]; rfl, X5.out⟩
    have y5 : (X.name != Y.name) = false := by simpa using t5
    have yy5 : (X.name == Y.name) = true := by simpa using t5
    have Q5 := Lib.hid t5
    clear t5
    cases B0
    · have EV := Lib.hid (NE.out (fun g => HF0.out (by simp) (by rw [g])))
      go_wp2_with (first
        | (go_at_call 54; (with_reducible refine (I0.out _ X5.out).mono ?_); rintro e w6 ⟨rfl, b_⟩; have X5 := Lib.hid (trans_below X5.out b_); have C5 := Lib.hid (C5.out.trans (b_.mono C5.out.size)); clear b_))
      go_ret
      exact ⟨by rw [EV.out]; rfl, X5.out⟩
    have OK := Lib.hid (ALk.out (port_ext Q0.out Q1.out Q2.out Q3.out Q4.out Q5.out (HT0.out (by simp))))
    go_wp2_with (first
      | (go_at_call 54; (with_reducible refine (I0.out _ X5.out).mono ?_); rintro e w6 ⟨rfl, b_⟩; have X5 := Lib.hid (trans_below X5.out b_); have C5 := Lib.hid (C5.out.trans (b_.mono C5.out.size)); clear b_))
    go_roundw
    case rel => exact ⟨k + 1, by simp, by omega, C5.out, OK.out⟩
    case measure => simp only []; omega
  case rest =>
  obtain ⟨hall0, hbw⟩ := hcut
  rename World => wB
  have ALL0 := Lib.hid hall0
  have YB := Lib.hid hbw
  clear hall0 hbw
  go_upto_block 2 with fail
  go_cut [] (fun wx => (∀ j, j < S.dm.n → N.domains.getD j DomV.zero = M.domains.getD j DomV.zero) ∧ Below w1.heap.size w1 wx)
  case first =>
    obtain ⟨⟨f0, f1, f2, f3, f4, f5, f6, f7⟩, ⟨m0, m1, m2, m3, m4, m5, m6, m7⟩, _⟩ := KN.out _ YB.out
    go_wp2_with fail
    clear f0 f1 f2 f3 f4 f5 f6 f7 m0 m1 m2 m3 m4 m5 m6 m7
    go_loopw [8] (fun i wr => ∃ k : Nat, i = .int .i64 k ∧ k ≤ S.dm.n ∧ Below w1.heap.size w1 wr ∧ ∀ j, j < k → N.domains.getD j DomV.zero = M.domains.getD j DomV.zero) (fun i _ => match i with | .int _ y => (S.dm.n - y).toNat | _ => 0)
    case atStart => exact ⟨0, rfl, by omega, YB.out, fun j hj => absurd hj (by omega)⟩
    case round =>
    obtain ⟨k, rfl, hk, hb, hall⟩ := hrel
    have AL := Lib.hid hall
    have W := Lib.hid hb
    have W0 := Lib.hid (B0.out.trans (hb.mono B0.out.size))
    clear hall hb
    obtain ⟨⟨f0, f1, f2, f3, f4, f5, f6, f7⟩, ⟨m0, m1, m2, m3, m4, m5, m6, m7⟩, _⟩ := KN.out wr W.out
    have n_ := f3
    have m_ := m3
    have nl1 : w.heap.size < wr.heap.size := Nat.lt_of_lt_of_le NL.out.1 W.out.size
    have nl2 : w.heap.size + 1 < wr.heap.size := Nat.lt_of_lt_of_le NL.out.2 W.out.size
    clear f0 f1 f2 f3 f4 f5 f6 f7 m0 m1 m2 m3 m4 m5 m6 m7
    by_cases hlt : k < S.dm.n
    rotate_left
    · have lt2 : ¬ (k : Int) < (S.dm.n : Int) := by omega
      go_wp2
      go_meet
      exact ⟨fun j hj => AL.out j (by omega), W.out⟩
    obtain ⟨b0, o0, vs, e0, _, hb0, ⟨s, rfl, l0⟩, r0⟩ := rsl_at H_dm.out k hlt DomV.zero
    obtain ⟨b1, o1, us, e1, _, hb1, ⟨t, rfl, k0⟩, r1⟩ := rsl_at G_dm.out k (by have := EQ_dm.out; omega) DomV.zero
    obtain ⟨X, hX⟩ : ∃ X, N.domains.getD k DomV.zero = X := ⟨_, rfl⟩
    obtain ⟨Y, hY⟩ : ∃ Y, M.domains.getD k DomV.zero = Y := ⟨_, rfl⟩
    rw [hX] at r0 l0
    rw [hY] at r1 k0
    have R0 := rangeAt_keep r0 (W0.out.block b0 hb0)
    have R1 := rangeAt_keep r1 (W0.out.block b1 hb1)
    have d0 := R0 0 _ rfl
    have e0_ := R1 0 _ rfl
    have d1 := R0 1 _ rfl
    have e1_ := R1 1 _ rfl
    have d2 := R0 2 _ rfl
    have e2_ := R1 2 _ rfl
    have d3 := R0 3 _ rfl
    have e3_ := R1 3 _ rfl
    have d4 := R0 4 _ rfl
    have e4_ := R1 4 _ rfl
    have d5 := R0 5 _ rfl
    have e5_ := R1 5 _ rfl
    simp only [Nat.add_zero] at d0 e0_
    rw [show o0 + k * domR.n = o0 + k * 6 from rfl] at d0 d1 d2 d3 d4 d5
    rw [show o1 + k * domR.n = o1 + k * 6 from rfl] at e0_ e1_ e2_ e3_ e4_ e5_
    have lt2 : (k : Int) < (S.dm.n : Int) := by omega
    have lt3 : (k : Int) < (S2.dm.n : Int) := by have := EQ_dm.out; omega
    have zb0 : b0 < wr.heap.size := Nat.lt_of_lt_of_le hb0 W0.out.size
    have zb1 : b1 < wr.heap.size := Nat.lt_of_lt_of_le hb1 W0.out.size
    have HX := Lib.hid hX
    have HY := Lib.hid hY
    rw [e0] at n_
    rw [e1] at m_
    clear r0 r1 R0 R1 hX hY e0 e1
    have NE := Lib.hid (show ¬ X = Y → V = false from fun hn => NO.out (fun g => hn (by rw [← HX.out, ← HY.out, g])))
    have ALk := Lib.hid (show X = Y → ∀ j, j < k + 1 → N.domains.getD j DomV.zero = M.domains.getD j DomV.zero from fun e j hj => by
      rcases Nat.lt_or_ge j k with h' | h'
      · exact AL.out j h'
      · obtain rfl : j = k := by omega
        rw [HX.out, HY.out, e])
    go_upto_region 12 with fail
    go_cut [9, 10] (fun p q wx => ∃ b6 b7, p = .pointer (some ⟨b6, 0, none⟩) ∧ q = .pointer (some ⟨b7, 0, none⟩) ∧ (wx.cell? ⟨b6, 0, none⟩ = some (.int .i64 X.dev) ∧ wx.cell? ⟨b6, 1, none⟩ = some (.int .i64 X.vlan) ∧ wx.cell? ⟨b6, 2, none⟩ = some (.int .i64 X.vni) ∧ wx.cell? ⟨b6, 3, none⟩ = some (.int .i64 X.irb) ∧ wx.cell? ⟨b6, 4, none⟩ = some (.int .i64 X.row) ∧ wx.cell? ⟨b6, 5, none⟩ = some (.slice s.A s.n s.c)) ∧ (wx.cell? ⟨b7, 0, none⟩ = some (.int .i64 Y.dev) ∧ wx.cell? ⟨b7, 1, none⟩ = some (.int .i64 Y.vlan) ∧ wx.cell? ⟨b7, 2, none⟩ = some (.int .i64 Y.vni) ∧ wx.cell? ⟨b7, 3, none⟩ = some (.int .i64 Y.irb) ∧ wx.cell? ⟨b7, 4, none⟩ = some (.int .i64 Y.row) ∧ wx.cell? ⟨b7, 5, none⟩ = some (.slice t.A t.n t.c)) ∧ b6 < wx.heap.size ∧ b7 < wx.heap.size ∧ Below wr.heap.size wr wx)
    case first =>
      go_region
      all_goals (try go_wp2)
      all_goals go_meet
      all_goals (refine ⟨_, _, rfl, rfl, ?_, ?_, ?_, ?_, ?_⟩)
      all_goals first
        | exact (((Below.refl _ _).alloc (Nat.le_refl _) _).alloc (by simp) _).drew
        | exact ((Below.refl _ _).alloc (Nat.le_refl _) _).alloc (by simp) _
        | (simp; done)
        | (simp; omega)
    case rest =>
    obtain ⟨b6, b7, rfl, rfl, ⟨g0, g1, g2, g3, g4, g5⟩, ⟨h0, h1, h2, h3, h4, h5⟩, zb6, zb7, hbw⟩ := hcut
    rename World => w5
    have Y5 := Lib.hid hbw
    have X5 := Lib.hid (W0.out.trans (hbw.mono W0.out.size))
    have C5 := Lib.hid (W.out.trans (hbw.mono W.out.size))
    clear hbw n_ m_ d0 d1 d2 d3 d4 d5 e0_ e1_ e2_ e3_ e4_ e5_ zb0 zb1 nl1 nl2
    obtain ⟨B0, hB0⟩ : ∃ B : Bool, B = true ↔ X.peers = Y.peers := ⟨@decide (X.peers = Y.peers) (Classical.propDecidable _), @decide_eq_true_iff _ (Classical.propDecidable _)⟩
    have I0 := Lib.hid (fun (w' : World) (hb : Below w.heap.size w w') => rints2_any s.A s.n s.c X.peers t.A t.n t.c Y.peers w' (isl_rsl (l0.below (fun _ h => h) hb)) (isl_rsl (k0.below (fun _ h => h) hb)) B0 hB0)
    have HT0 := Lib.hid (show B0 = true → X.peers = Y.peers from hB0.1)
    have HF0 := Lib.hid (show B0 = false → ¬ X.peers = Y.peers from fun e g => by have := hB0.2 g; rw [e] at this; cases this)
    clear hB0 l0 k0
    by_cases t0 : X.dev = Y.dev
    rotate_left
    · have y0 : (X.dev != Y.dev) = true := by simpa using t0
      have yy0 : (X.dev == Y.dev) = false := by simpa using t0
      have EV := Lib.hid (NE.out (fun g => t0 (by rw [g])))
      clear t0
      go_wp2
      go_ret
      exact ⟨by rw [EV.out]; rfl, X5.out⟩
    have y0 : (X.dev != Y.dev) = false := by simpa using t0
    have yy0 : (X.dev == Y.dev) = true := by simpa using t0
    have Q0 := Lib.hid t0
    clear t0
    by_cases t1 : X.vlan = Y.vlan
    rotate_left
    · have y1 : (X.vlan != Y.vlan) = true := by simpa using t1
      have yy1 : (X.vlan == Y.vlan) = false := by simpa using t1
      have EV := Lib.hid (NE.out (fun g => t1 (by rw [g])))
      clear t1
      go_wp2
      go_ret
      exact ⟨by rw [EV.out]; rfl, X5.out⟩
    have y1 : (X.vlan != Y.vlan) = false := by simpa using t1
    have yy1 : (X.vlan == Y.vlan) = true := by simpa using t1
    have Q1 := Lib.hid t1
    clear t1
    by_cases t2 : X.vni = Y.vni
    rotate_left
    · have y2 : (X.vni != Y.vni) = true := by simpa using t2
      have yy2 : (X.vni == Y.vni) = false := by simpa using t2
      have EV := Lib.hid (NE.out (fun g => t2 (by rw [g])))
      clear t2
      go_wp2
      go_ret
      exact ⟨by rw [EV.out]; rfl, X5.out⟩
    have y2 : (X.vni != Y.vni) = false := by simpa using t2
    have yy2 : (X.vni == Y.vni) = true := by simpa using t2
    have Q2 := Lib.hid t2
    clear t2
    by_cases t3 : X.irb = Y.irb
    rotate_left
    · have y3 : (X.irb != Y.irb) = true := by simpa using t3
      have yy3 : (X.irb == Y.irb) = false := by simpa using t3
      have EV := Lib.hid (NE.out (fun g => t3 (by rw [g])))
      clear t3
      go_wp2
      go_ret
      exact ⟨by rw [EV.out]; rfl, X5.out⟩
    have y3 : (X.irb != Y.irb) = false := by simpa using t3
    have yy3 : (X.irb == Y.irb) = true := by simpa using t3
    have Q3 := Lib.hid t3
    clear t3
    by_cases t4 : X.row = Y.row
    rotate_left
    · have y4 : (X.row != Y.row) = true := by simpa using t4
      have yy4 : (X.row == Y.row) = false := by simpa using t4
      have EV := Lib.hid (NE.out (fun g => t4 (by rw [g])))
      clear t4
      go_wp2
      go_ret
      exact ⟨by rw [EV.out]; rfl, X5.out⟩
    have y4 : (X.row != Y.row) = false := by simpa using t4
    have yy4 : (X.row == Y.row) = true := by simpa using t4
    have Q4 := Lib.hid t4
    clear t4
    cases B0
    · have EV := Lib.hid (NE.out (fun g => HF0.out (by simp) (by rw [g])))
      go_wp2_with (first
        | (go_at_call 54; (with_reducible refine (I0.out _ X5.out).mono ?_); rintro e w6 ⟨rfl, b_⟩; have X5 := Lib.hid (trans_below X5.out b_); have C5 := Lib.hid (C5.out.trans (b_.mono C5.out.size)); clear b_))
      go_ret
      exact ⟨by rw [EV.out]; rfl, X5.out⟩
    have OK := Lib.hid (ALk.out (dom_ext Q0.out Q1.out Q2.out Q3.out Q4.out (HT0.out (by simp))))
    go_wp2_with (first
      | (go_at_call 54; (with_reducible refine (I0.out _ X5.out).mono ?_); rintro e w6 ⟨rfl, b_⟩; have X5 := Lib.hid (trans_below X5.out b_); have C5 := Lib.hid (C5.out.trans (b_.mono C5.out.size)); clear b_))
    go_roundw
    case rel => exact ⟨k + 1, by simp, by omega, C5.out, OK.out⟩
    case measure => simp only []; omega
  case rest =>
  obtain ⟨hall1, hbw⟩ := hcut
  rename World => wB
  have ALL1 := Lib.hid hall1
  have YB := Lib.hid hbw
  clear hall1 hbw
  go_upto_block 4 with fail
  go_cut [] (fun wx => (∀ j, j < S.fl.n → N.floods.getD j FloodV.zero = M.floods.getD j FloodV.zero) ∧ Below w1.heap.size w1 wx)
  case first =>
    obtain ⟨⟨f0, f1, f2, f3, f4, f5, f6, f7⟩, ⟨m0, m1, m2, m3, m4, m5, m6, m7⟩, _⟩ := KN.out _ YB.out
    go_wp2_with fail
    clear f0 f1 f2 f3 f4 f5 f6 f7 m0 m1 m2 m3 m4 m5 m6 m7
    go_loopw [11] (fun i wr => ∃ k : Nat, i = .int .i64 k ∧ k ≤ S.fl.n ∧ Below w1.heap.size w1 wr ∧ ∀ j, j < k → N.floods.getD j FloodV.zero = M.floods.getD j FloodV.zero) (fun i _ => match i with | .int _ y => (S.fl.n - y).toNat | _ => 0)
    case atStart => exact ⟨0, rfl, by omega, YB.out, fun j hj => absurd hj (by omega)⟩
    case round =>
    obtain ⟨k, rfl, hk, hb, hall⟩ := hrel
    have AL := Lib.hid hall
    have W := Lib.hid hb
    have W0 := Lib.hid (B0.out.trans (hb.mono B0.out.size))
    clear hall hb
    obtain ⟨⟨f0, f1, f2, f3, f4, f5, f6, f7⟩, ⟨m0, m1, m2, m3, m4, m5, m6, m7⟩, _⟩ := KN.out wr W.out
    have n_ := f5
    have m_ := m5
    have nl1 : w.heap.size < wr.heap.size := Nat.lt_of_lt_of_le NL.out.1 W.out.size
    have nl2 : w.heap.size + 1 < wr.heap.size := Nat.lt_of_lt_of_le NL.out.2 W.out.size
    clear f0 f1 f2 f3 f4 f5 f6 f7 m0 m1 m2 m3 m4 m5 m6 m7
    by_cases hlt : k < S.fl.n
    rotate_left
    · have lt2 : ¬ (k : Int) < (S.fl.n : Int) := by omega
      go_wp2
      go_meet
      exact ⟨fun j hj => AL.out j (by omega), W.out⟩
    obtain ⟨b0, o0, vs, e0, _, hb0, ⟨s, rfl, l0⟩, r0⟩ := rsl_at H_fl.out k hlt FloodV.zero
    obtain ⟨b1, o1, us, e1, _, hb1, ⟨t, rfl, k0⟩, r1⟩ := rsl_at G_fl.out k (by have := EQ_fl.out; omega) FloodV.zero
    obtain ⟨X, hX⟩ : ∃ X, N.floods.getD k FloodV.zero = X := ⟨_, rfl⟩
    obtain ⟨Y, hY⟩ : ∃ Y, M.floods.getD k FloodV.zero = Y := ⟨_, rfl⟩
    rw [hX] at r0 l0
    rw [hY] at r1 k0
    have R0 := rangeAt_keep r0 (W0.out.block b0 hb0)
    have R1 := rangeAt_keep r1 (W0.out.block b1 hb1)
    have d0 := R0 0 _ rfl
    have e0_ := R1 0 _ rfl
    have d1 := R0 1 _ rfl
    have e1_ := R1 1 _ rfl
    have d2 := R0 2 _ rfl
    have e2_ := R1 2 _ rfl
    have d3 := R0 3 _ rfl
    have e3_ := R1 3 _ rfl
    simp only [Nat.add_zero] at d0 e0_
    rw [show o0 + k * floodR.n = o0 + k * 4 from rfl] at d0 d1 d2 d3
    rw [show o1 + k * floodR.n = o1 + k * 4 from rfl] at e0_ e1_ e2_ e3_
    have lt2 : (k : Int) < (S.fl.n : Int) := by omega
    have lt3 : (k : Int) < (S2.fl.n : Int) := by have := EQ_fl.out; omega
    have zb0 : b0 < wr.heap.size := Nat.lt_of_lt_of_le hb0 W0.out.size
    have zb1 : b1 < wr.heap.size := Nat.lt_of_lt_of_le hb1 W0.out.size
    have HX := Lib.hid hX
    have HY := Lib.hid hY
    rw [e0] at n_
    rw [e1] at m_
    clear r0 r1 R0 R1 hX hY e0 e1
    have NE := Lib.hid (show ¬ X = Y → V = false from fun hn => NO.out (fun g => hn (by rw [← HX.out, ← HY.out, g])))
    have ALk := Lib.hid (show X = Y → ∀ j, j < k + 1 → N.floods.getD j FloodV.zero = M.floods.getD j FloodV.zero from fun e j hj => by
      rcases Nat.lt_or_ge j k with h' | h'
      · exact AL.out j h'
      · obtain rfl : j = k := by omega
        rw [HX.out, HY.out, e])
    go_upto_region 18 with fail
    go_cut [12, 13] (fun p q wx => ∃ b6 b7, p = .pointer (some ⟨b6, 0, none⟩) ∧ q = .pointer (some ⟨b7, 0, none⟩) ∧ (wx.cell? ⟨b6, 0, none⟩ = some (.int .i64 X.row) ∧ wx.cell? ⟨b6, 1, none⟩ = some (.int .i64 X.dev) ∧ wx.cell? ⟨b6, 2, none⟩ = some (.int .i64 X.vni) ∧ wx.cell? ⟨b6, 3, none⟩ = some (.slice s.A s.n s.c)) ∧ (wx.cell? ⟨b7, 0, none⟩ = some (.int .i64 Y.row) ∧ wx.cell? ⟨b7, 1, none⟩ = some (.int .i64 Y.dev) ∧ wx.cell? ⟨b7, 2, none⟩ = some (.int .i64 Y.vni) ∧ wx.cell? ⟨b7, 3, none⟩ = some (.slice t.A t.n t.c)) ∧ b6 < wx.heap.size ∧ b7 < wx.heap.size ∧ Below wr.heap.size wr wx)
    case first =>
      go_region
      all_goals (try go_wp2)
      all_goals go_meet
      all_goals (refine ⟨_, _, rfl, rfl, ?_, ?_, ?_, ?_, ?_⟩)
      all_goals first
        | exact (((Below.refl _ _).alloc (Nat.le_refl _) _).alloc (by simp) _).drew
        | exact ((Below.refl _ _).alloc (Nat.le_refl _) _).alloc (by simp) _
        | (simp; done)
        | (simp; omega)
    case rest =>
    obtain ⟨b6, b7, rfl, rfl, ⟨g0, g1, g2, g3⟩, ⟨h0, h1, h2, h3⟩, zb6, zb7, hbw⟩ := hcut
    rename World => w5
    have Y5 := Lib.hid hbw
    have X5 := Lib.hid (W0.out.trans (hbw.mono W0.out.size))
    have C5 := Lib.hid (W.out.trans (hbw.mono W.out.size))
    clear hbw n_ m_ d0 d1 d2 d3 e0_ e1_ e2_ e3_ zb0 zb1 nl1 nl2
    obtain ⟨B0, hB0⟩ : ∃ B : Bool, B = true ↔ X.addrs = Y.addrs := ⟨@decide (X.addrs = Y.addrs) (Classical.propDecidable _), @decide_eq_true_iff _ (Classical.propDecidable _)⟩
    have I0 := Lib.hid (fun (w' : World) (hb : Below w.heap.size w w') => raddrs2_any s.A s.n s.c X.addrs t.A t.n t.c Y.addrs w' (isl_rsl (l0.below (fun _ h => h) hb)) (isl_rsl (k0.below (fun _ h => h) hb)) B0 hB0)
    have HT0 := Lib.hid (show B0 = true → X.addrs = Y.addrs from hB0.1)
    have HF0 := Lib.hid (show B0 = false → ¬ X.addrs = Y.addrs from fun e g => by have := hB0.2 g; rw [e] at this; cases this)
    clear hB0 l0 k0
    by_cases t0 : X.row = Y.row
    rotate_left
    · have y0 : (X.row != Y.row) = true := by simpa using t0
      have yy0 : (X.row == Y.row) = false := by simpa using t0
      have EV := Lib.hid (NE.out (fun g => t0 (by rw [g])))
      clear t0
      go_wp2
      go_ret
      exact ⟨by rw [EV.out]; rfl, X5.out⟩
    have y0 : (X.row != Y.row) = false := by simpa using t0
    have yy0 : (X.row == Y.row) = true := by simpa using t0
    have Q0 := Lib.hid t0
    clear t0
    by_cases t1 : X.dev = Y.dev
    rotate_left
    · have y1 : (X.dev != Y.dev) = true := by simpa using t1
      have yy1 : (X.dev == Y.dev) = false := by simpa using t1
      have EV := Lib.hid (NE.out (fun g => t1 (by rw [g])))
      clear t1
      go_wp2
      go_ret
      exact ⟨by rw [EV.out]; rfl, X5.out⟩
    have y1 : (X.dev != Y.dev) = false := by simpa using t1
    have yy1 : (X.dev == Y.dev) = true := by simpa using t1
    have Q1 := Lib.hid t1
    clear t1
    by_cases t2 : X.vni = Y.vni
    rotate_left
    · have y2 : (X.vni != Y.vni) = true := by simpa using t2
      have yy2 : (X.vni == Y.vni) = false := by simpa using t2
      have EV := Lib.hid (NE.out (fun g => t2 (by rw [g])))
      clear t2
      go_wp2
      go_ret
      exact ⟨by rw [EV.out]; rfl, X5.out⟩
    have y2 : (X.vni != Y.vni) = false := by simpa using t2
    have yy2 : (X.vni == Y.vni) = true := by simpa using t2
    have Q2 := Lib.hid t2
    clear t2
    cases B0
    · have EV := Lib.hid (NE.out (fun g => HF0.out (by simp) (by rw [g])))
      go_wp2_with (first
        | (go_at_call 55; (with_reducible refine (I0.out _ X5.out).mono ?_); rintro e w6 ⟨rfl, b_⟩; have X5 := Lib.hid (trans_below X5.out b_); have C5 := Lib.hid (C5.out.trans (b_.mono C5.out.size)); clear b_))
      go_ret
      exact ⟨by rw [EV.out]; rfl, X5.out⟩
    have OK := Lib.hid (ALk.out (flood_ext Q0.out Q1.out Q2.out (HT0.out (by simp))))
    go_wp2_with (first
      | (go_at_call 55; (with_reducible refine (I0.out _ X5.out).mono ?_); rintro e w6 ⟨rfl, b_⟩; have X5 := Lib.hid (trans_below X5.out b_); have C5 := Lib.hid (C5.out.trans (b_.mono C5.out.size)); clear b_))
    go_roundw
    case rel => exact ⟨k + 1, by simp, by omega, C5.out, OK.out⟩
    case measure => simp only []; omega
  case rest =>
  obtain ⟨hall2, hbw⟩ := hcut
  rename World => wB
  have ALL2 := Lib.hid hall2
  have YB := Lib.hid hbw
  clear hall2 hbw
  go_upto_block 6 with fail
  go_cut [] (fun wx => (∀ j, j < S.vr.n → N.vrfs.getD j VrfV.zero = M.vrfs.getD j VrfV.zero) ∧ Below w1.heap.size w1 wx)
  case first =>
    obtain ⟨⟨f0, f1, f2, f3, f4, f5, f6, f7⟩, ⟨m0, m1, m2, m3, m4, m5, m6, m7⟩, _⟩ := KN.out _ YB.out
    go_wp2_with fail
    clear f0 f1 f2 f3 f4 f5 f6 f7 m0 m1 m2 m3 m4 m5 m6 m7
    go_loopw [14] (fun i wr => ∃ k : Nat, i = .int .i64 k ∧ k ≤ S.vr.n ∧ Below w1.heap.size w1 wr ∧ ∀ j, j < k → N.vrfs.getD j VrfV.zero = M.vrfs.getD j VrfV.zero) (fun i _ => match i with | .int _ y => (S.vr.n - y).toNat | _ => 0)
    case atStart => exact ⟨0, rfl, by omega, YB.out, fun j hj => absurd hj (by omega)⟩
    case round =>
    obtain ⟨k, rfl, hk, hb, hall⟩ := hrel
    have AL := Lib.hid hall
    have W := Lib.hid hb
    have W0 := Lib.hid (B0.out.trans (hb.mono B0.out.size))
    clear hall hb
    obtain ⟨⟨f0, f1, f2, f3, f4, f5, f6, f7⟩, ⟨m0, m1, m2, m3, m4, m5, m6, m7⟩, _⟩ := KN.out wr W.out
    have n_ := f6
    have m_ := m6
    have nl1 : w.heap.size < wr.heap.size := Nat.lt_of_lt_of_le NL.out.1 W.out.size
    have nl2 : w.heap.size + 1 < wr.heap.size := Nat.lt_of_lt_of_le NL.out.2 W.out.size
    clear f0 f1 f2 f3 f4 f5 f6 f7 m0 m1 m2 m3 m4 m5 m6 m7
    by_cases hlt : k < S.vr.n
    rotate_left
    · have lt2 : ¬ (k : Int) < (S.vr.n : Int) := by omega
      go_wp2
      go_meet
      exact ⟨fun j hj => AL.out j (by omega), W.out⟩
    obtain ⟨b0, o0, vs, e0, _, hb0, ⟨s, s', rfl, l0, l1⟩, r0⟩ := rsl_at H_vr.out k hlt VrfV.zero
    obtain ⟨b1, o1, us, e1, _, hb1, ⟨t, t', rfl, k0, k1⟩, r1⟩ := rsl_at G_vr.out k (by have := EQ_vr.out; omega) VrfV.zero
    obtain ⟨X, hX⟩ : ∃ X, N.vrfs.getD k VrfV.zero = X := ⟨_, rfl⟩
    obtain ⟨Y, hY⟩ : ∃ Y, M.vrfs.getD k VrfV.zero = Y := ⟨_, rfl⟩
    rw [hX] at r0 l0 l1
    rw [hY] at r1 k0 k1
    have R0 := rangeAt_keep r0 (W0.out.block b0 hb0)
    have R1 := rangeAt_keep r1 (W0.out.block b1 hb1)
    have d0 := R0 0 _ rfl
    have e0_ := R1 0 _ rfl
    have d1 := R0 1 _ rfl
    have e1_ := R1 1 _ rfl
    have d2 := R0 2 _ rfl
    have e2_ := R1 2 _ rfl
    have d3 := R0 3 _ rfl
    have e3_ := R1 3 _ rfl
    have d4 := R0 4 _ rfl
    have e4_ := R1 4 _ rfl
    simp only [Nat.add_zero] at d0 e0_
    rw [show o0 + k * vrfR.n = o0 + k * 5 from rfl] at d0 d1 d2 d3 d4
    rw [show o1 + k * vrfR.n = o1 + k * 5 from rfl] at e0_ e1_ e2_ e3_ e4_
    have lt2 : (k : Int) < (S.vr.n : Int) := by omega
    have lt3 : (k : Int) < (S2.vr.n : Int) := by have := EQ_vr.out; omega
    have zb0 : b0 < wr.heap.size := Nat.lt_of_lt_of_le hb0 W0.out.size
    have zb1 : b1 < wr.heap.size := Nat.lt_of_lt_of_le hb1 W0.out.size
    have HX := Lib.hid hX
    have HY := Lib.hid hY
    rw [e0] at n_
    rw [e1] at m_
    clear r0 r1 R0 R1 hX hY e0 e1
    have NE := Lib.hid (show ¬ X = Y → V = false from fun hn => NO.out (fun g => hn (by rw [← HX.out, ← HY.out, g])))
    have ALk := Lib.hid (show X = Y → ∀ j, j < k + 1 → N.vrfs.getD j VrfV.zero = M.vrfs.getD j VrfV.zero from fun e j hj => by
      rcases Nat.lt_or_ge j k with h' | h'
      · exact AL.out j h'
      · obtain rfl : j = k := by omega
        rw [HX.out, HY.out, e])
    go_upto_region 24 with fail
    go_cut [15, 16] (fun p q wx => ∃ b6 b7, p = .pointer (some ⟨b6, 0, none⟩) ∧ q = .pointer (some ⟨b7, 0, none⟩) ∧ (wx.cell? ⟨b6, 0, none⟩ = some (.int .i64 X.row) ∧ wx.cell? ⟨b6, 1, none⟩ = some (.int .i64 X.dev) ∧ wx.cell? ⟨b6, 2, none⟩ = some (.string (str X.name)) ∧ wx.cell? ⟨b6, 3, none⟩ = some (.slice s.A s.n s.c) ∧ wx.cell? ⟨b6, 4, none⟩ = some (.slice s'.A s'.n s'.c)) ∧ (wx.cell? ⟨b7, 0, none⟩ = some (.int .i64 Y.row) ∧ wx.cell? ⟨b7, 1, none⟩ = some (.int .i64 Y.dev) ∧ wx.cell? ⟨b7, 2, none⟩ = some (.string (str Y.name)) ∧ wx.cell? ⟨b7, 3, none⟩ = some (.slice t.A t.n t.c) ∧ wx.cell? ⟨b7, 4, none⟩ = some (.slice t'.A t'.n t'.c)) ∧ b6 < wx.heap.size ∧ b7 < wx.heap.size ∧ Below wr.heap.size wr wx)
    case first =>
      go_region
      all_goals (try go_wp2)
      all_goals go_meet
      all_goals (refine ⟨_, _, rfl, rfl, ?_, ?_, ?_, ?_, ?_⟩)
      all_goals first
        | exact (((Below.refl _ _).alloc (Nat.le_refl _) _).alloc (by simp) _).drew
        | exact ((Below.refl _ _).alloc (Nat.le_refl _) _).alloc (by simp) _
        | (simp; done)
        | (simp; omega)
    case rest =>
    obtain ⟨b6, b7, rfl, rfl, ⟨g0, g1, g2, g3, g4⟩, ⟨h0, h1, h2, h3, h4⟩, zb6, zb7, hbw⟩ := hcut
    rename World => w5
    have Y5 := Lib.hid hbw
    have X5 := Lib.hid (W0.out.trans (hbw.mono W0.out.size))
    have C5 := Lib.hid (W.out.trans (hbw.mono W.out.size))
    clear hbw n_ m_ d0 d1 d2 d3 d4 e0_ e1_ e2_ e3_ e4_ zb0 zb1 nl1 nl2
    obtain ⟨B0, hB0⟩ : ∃ B : Bool, B = true ↔ X.imports = Y.imports := ⟨@decide (X.imports = Y.imports) (Classical.propDecidable _), @decide_eq_true_iff _ (Classical.propDecidable _)⟩
    have I0 := Lib.hid (fun (w' : World) (hb : Below w.heap.size w w') => rints2_any s.A s.n s.c X.imports t.A t.n t.c Y.imports w' (isl_rsl (l0.below (fun _ h => h) hb)) (isl_rsl (k0.below (fun _ h => h) hb)) B0 hB0)
    have HT0 := Lib.hid (show B0 = true → X.imports = Y.imports from hB0.1)
    have HF0 := Lib.hid (show B0 = false → ¬ X.imports = Y.imports from fun e g => by have := hB0.2 g; rw [e] at this; cases this)
    obtain ⟨B1, hB1⟩ : ∃ B : Bool, B = true ↔ X.exports = Y.exports := ⟨@decide (X.exports = Y.exports) (Classical.propDecidable _), @decide_eq_true_iff _ (Classical.propDecidable _)⟩
    have I1 := Lib.hid (fun (w' : World) (hb : Below w.heap.size w w') => rints2_any s'.A s'.n s'.c X.exports t'.A t'.n t'.c Y.exports w' (isl_rsl (l1.below (fun _ h => h) hb)) (isl_rsl (k1.below (fun _ h => h) hb)) B1 hB1)
    have HT1 := Lib.hid (show B1 = true → X.exports = Y.exports from hB1.1)
    have HF1 := Lib.hid (show B1 = false → ¬ X.exports = Y.exports from fun e g => by have := hB1.2 g; rw [e] at this; cases this)
    clear hB0 hB1 l0 l1 k0 k1
    by_cases t0 : X.row = Y.row
    rotate_left
    · have y0 : (X.row != Y.row) = true := by simpa using t0
      have yy0 : (X.row == Y.row) = false := by simpa using t0
      have EV := Lib.hid (NE.out (fun g => t0 (by rw [g])))
      clear t0
      go_wp2
      go_ret
      exact ⟨by rw [EV.out]; rfl, X5.out⟩
    have y0 : (X.row != Y.row) = false := by simpa using t0
    have yy0 : (X.row == Y.row) = true := by simpa using t0
    have Q0 := Lib.hid t0
    clear t0
    by_cases t1 : X.dev = Y.dev
    rotate_left
    · have y1 : (X.dev != Y.dev) = true := by simpa using t1
      have yy1 : (X.dev == Y.dev) = false := by simpa using t1
      have EV := Lib.hid (NE.out (fun g => t1 (by rw [g])))
      clear t1
      go_wp2
      go_ret
      exact ⟨by rw [EV.out]; rfl, X5.out⟩
    have y1 : (X.dev != Y.dev) = false := by simpa using t1
    have yy1 : (X.dev == Y.dev) = true := by simpa using t1
    have Q1 := Lib.hid t1
    clear t1
    by_cases t2 : X.name = Y.name
    rotate_left
    · have y2 : (X.name != Y.name) = true := by simpa using t2
      have yy2 : (X.name == Y.name) = false := by simpa using t2
      have EV := Lib.hid (NE.out (fun g => t2 (by rw [g])))
      clear t2
      go_wp2
      go_ret
      exact ⟨by rw [EV.out]; rfl, X5.out⟩
    have y2 : (X.name != Y.name) = false := by simpa using t2
    have yy2 : (X.name == Y.name) = true := by simpa using t2
    have Q2 := Lib.hid t2
    clear t2
    cases B0
    · have EV := Lib.hid (NE.out (fun g => HF0.out (by simp) (by rw [g])))
      go_wp2_with (first
        | (go_at_call 54; (with_reducible refine (I0.out _ X5.out).mono ?_); rintro e w6 ⟨rfl, b_⟩; have g4 := (b_.cell (p := ⟨b6, 4, none⟩) zb6).trans g4; have h4 := (b_.cell (p := ⟨b7, 4, none⟩) zb7).trans h4; have X5 := Lib.hid (trans_below X5.out b_); have C5 := Lib.hid (C5.out.trans (b_.mono C5.out.size)); clear b_))
      go_ret
      exact ⟨by rw [EV.out]; rfl, X5.out⟩
    cases B1
    · have EV := Lib.hid (NE.out (fun g => HF1.out (by simp) (by rw [g])))
      go_wp2_with (first
        | (go_at_call 54; (with_reducible refine (I0.out _ X5.out).mono ?_); rintro e w6 ⟨rfl, b_⟩; have g4 := (b_.cell (p := ⟨b6, 4, none⟩) zb6).trans g4; have h4 := (b_.cell (p := ⟨b7, 4, none⟩) zb7).trans h4; have X5 := Lib.hid (trans_below X5.out b_); have C5 := Lib.hid (C5.out.trans (b_.mono C5.out.size)); clear b_)
        | (go_at_call 54; (with_reducible refine (I1.out _ X5.out).mono ?_); rintro e w6 ⟨rfl, b_⟩; have X5 := Lib.hid (trans_below X5.out b_); have C5 := Lib.hid (C5.out.trans (b_.mono C5.out.size)); clear b_))
      go_ret
      exact ⟨by rw [EV.out]; rfl, X5.out⟩
    have OK := Lib.hid (ALk.out (vrf_ext Q0.out Q1.out Q2.out (HT0.out (by simp)) (HT1.out (by simp))))
    go_wp2_with (first
      | (go_at_call 54; (with_reducible refine (I0.out _ X5.out).mono ?_); rintro e w6 ⟨rfl, b_⟩; have g4 := (b_.cell (p := ⟨b6, 4, none⟩) zb6).trans g4; have h4 := (b_.cell (p := ⟨b7, 4, none⟩) zb7).trans h4; have X5 := Lib.hid (trans_below X5.out b_); have C5 := Lib.hid (C5.out.trans (b_.mono C5.out.size)); clear b_)
      | (go_at_call 54; (with_reducible refine (I1.out _ X5.out).mono ?_); rintro e w6 ⟨rfl, b_⟩; have X5 := Lib.hid (trans_below X5.out b_); have C5 := Lib.hid (C5.out.trans (b_.mono C5.out.size)); clear b_))
    go_roundw
    case rel => exact ⟨k + 1, by simp, by omega, C5.out, OK.out⟩
    case measure => simp only []; omega
  case rest =>
  obtain ⟨hall3, hbw⟩ := hcut
  rename World => wB
  have ALL3 := Lib.hid hall3
  have YB := Lib.hid hbw
  clear hall3 hbw
  have EV := Lib.hid (YES.out (nv_ext TOP.out (list_eq_getD PortV.zero (by rw [LE_pt.out, LF_pt.out, EQ_pt.out]) (fun j hj => ALL0.out j (by rw [LE_pt.out] at hj; exact hj))) (list_eq_getD DomV.zero (by rw [LE_dm.out, LF_dm.out, EQ_dm.out]) (fun j hj => ALL1.out j (by rw [LE_dm.out] at hj; exact hj))) (list_eq_getD FloodV.zero (by rw [LE_fl.out, LF_fl.out, EQ_fl.out]) (fun j hj => ALL2.out j (by rw [LE_fl.out] at hj; exact hj))) (list_eq_getD VrfV.zero (by rw [LE_vr.out, LF_vr.out, EQ_vr.out]) (fun j hj => ALL3.out j (by rw [LE_vr.out] at hj; exact hj)))))
  have XB := Lib.hid (B0.out.trans (YB.out.mono B0.out.size))
  go_wp2
  go_ret
  exact ⟨by rw [EV.out]; rfl, XB.out⟩
end Go.Proofs.YtocobjekcdabgaaGreat
