/- The walk of NamesRights. (Made by mk-ntrightsw.py.) -/
import Derived.Test.YtocobjekcdabgaaGreatNtWorks
import Derived.Test.YtocobjekcdabgaaGreatNnSame
import Derived.Test.YtocobjekcdabgaaGreatNnCopy
import Derived.Deep.RegionHeldLaw
namespace Go.Proofs.YtocobjekcdabgaaGreat
open Go.RowKit

set_option maxRecDepth 20000 in
set_option maxHeartbeats 8000000 in
theorem nrights_walk (N M : NV) (S S2 : NSl3) (w : World) (h : NRead w (allB w) N S) (h2 : NRead w (allB w) M S2) (hm : NmSz N) : Calls Tryz.prog 3 #[netV S, netV S2] w fun e w' => e = .returned (.bool true) ∧ Below w.heap.size w w' := by
  have HM := Lib.hid hm
  clear hm
  have NB := Lib.hid ((NBox.new w S 31).below ((Below.refl _ _).alloc (Nat.le_refl _) (.cells #[.slice S2.dv.A S2.dv.n S2.dv.c, .slice S2.pt.A S2.pt.n S2.pt.c, .slice S2.lk.A S2.lk.n S2.lk.c, .slice S2.dm.A S2.dm.n S2.dm.c, .slice S2.st.A S2.st.n S2.st.c, .slice S2.fl.A S2.fl.n S2.fl.c, .slice S2.vr.A S2.vr.n S2.vr.c, .slice S2.ir.A S2.ir.n S2.ir.c] 31)))
  have NC := Lib.hid (NBox.new (w.alloc (.cells #[.slice S.dv.A S.dv.n S.dv.c, .slice S.pt.A S.pt.n S.pt.c, .slice S.lk.A S.lk.n S.lk.c, .slice S.dm.A S.dm.n S.dm.c, .slice S.st.A S.st.n S.st.c, .slice S.fl.A S.fl.n S.fl.c, .slice S.vr.A S.vr.n S.vr.c, .slice S.ir.A S.ir.n S.ir.c] 31)) S2 31)
  have B0 := Lib.hid (two_alloc w (.cells #[.slice S.dv.A S.dv.n S.dv.c, .slice S.pt.A S.pt.n S.pt.c, .slice S.lk.A S.lk.n S.lk.c, .slice S.dm.A S.dm.n S.dm.c, .slice S.st.A S.st.n S.st.c, .slice S.fl.A S.fl.n S.fl.c, .slice S.vr.A S.vr.n S.vr.c, .slice S.ir.A S.ir.n S.ir.c] 31) (.cells #[.slice S2.dv.A S2.dv.n S2.dv.c, .slice S2.pt.A S2.pt.n S2.pt.c, .slice S2.lk.A S2.lk.n S2.lk.c, .slice S2.dm.A S2.dm.n S2.dm.c, .slice S2.st.A S2.st.n S2.st.c, .slice S2.fl.A S2.fl.n S2.fl.c, .slice S2.vr.A S2.vr.n S2.vr.c, .slice S2.ir.A S2.ir.n S2.ir.c] 31))
  have U1 := Lib.hid (fun (w' : World) (hb : Below w.heap.size w w') => h.up hb)
  have U2 := Lib.hid (fun (w' : World) (hb : Below w.heap.size w w') => h2.up hb)
  have G1 := fun (w' : World) (hb : Below w.heap.size w w') => ngreat_any N S w' (h.up hb)
  have G2 := fun (w' : World) (hb : Below w.heap.size w w') => ngreat_any M S2 w' (h2.up hb)
  clear h h2
  unfold netV at G1 G2 ⊢
  have G1 := Lib.hid G1
  have G2 := Lib.hid G2
  go_enter Tryz.func3, Tryz.ntmps3
  go_upto_region 1 with fail
  obtain ⟨w1, hw1⟩ : ∃ w1, (w.alloc (.cells #[.slice S.dv.A S.dv.n S.dv.c, .slice S.pt.A S.pt.n S.pt.c, .slice S.lk.A S.lk.n S.lk.c, .slice S.dm.A S.dm.n S.dm.c, .slice S.st.A S.st.n S.st.c, .slice S.fl.A S.fl.n S.fl.c, .slice S.vr.A S.vr.n S.vr.c, .slice S.ir.A S.ir.n S.ir.c] 31)).alloc (.cells #[.slice S2.dv.A S2.dv.n S2.dv.c, .slice S2.pt.A S2.pt.n S2.pt.c, .slice S2.lk.A S2.lk.n S2.lk.c, .slice S2.dm.A S2.dm.n S2.dm.c, .slice S2.st.A S2.st.n S2.st.c, .slice S2.fl.A S2.fl.n S2.fl.c, .slice S2.vr.A S2.vr.n S2.vr.c, .slice S2.ir.A S2.ir.n S2.ir.c] 31) = w1 := ⟨_, rfl⟩
  have hz : (w.alloc (.cells #[.slice S.dv.A S.dv.n S.dv.c, .slice S.pt.A S.pt.n S.pt.c, .slice S.lk.A S.lk.n S.lk.c, .slice S.dm.A S.dm.n S.dm.c, .slice S.st.A S.st.n S.st.c, .slice S.fl.A S.fl.n S.fl.c, .slice S.vr.A S.vr.n S.vr.c, .slice S.ir.A S.ir.n S.ir.c] 31)).heap.size = w.heap.size + 1 := by simp
  rw [hz] at NC
  rw [hw1] at NB NC B0 ⊢
  clear hw1 hz
  have KN := Lib.hid (show ∀ wx, Below w1.heap.size w1 wx → (wx.cell? ⟨w.heap.size, 0, none⟩ = some (.slice S.dv.A S.dv.n S.dv.c) ∧ wx.cell? ⟨w.heap.size, 1, none⟩ = some (.slice S.pt.A S.pt.n S.pt.c) ∧ wx.cell? ⟨w.heap.size, 2, none⟩ = some (.slice S.lk.A S.lk.n S.lk.c) ∧ wx.cell? ⟨w.heap.size, 3, none⟩ = some (.slice S.dm.A S.dm.n S.dm.c) ∧ wx.cell? ⟨w.heap.size, 4, none⟩ = some (.slice S.st.A S.st.n S.st.c) ∧ wx.cell? ⟨w.heap.size, 5, none⟩ = some (.slice S.fl.A S.fl.n S.fl.c) ∧ wx.cell? ⟨w.heap.size, 6, none⟩ = some (.slice S.vr.A S.vr.n S.vr.c) ∧ wx.cell? ⟨w.heap.size, 7, none⟩ = some (.slice S.ir.A S.ir.n S.ir.c) ∧ wx.cell? ⟨w.heap.size + 1, 0, none⟩ = some (.slice S2.dv.A S2.dv.n S2.dv.c) ∧ wx.cell? ⟨w.heap.size + 1, 1, none⟩ = some (.slice S2.pt.A S2.pt.n S2.pt.c) ∧ wx.cell? ⟨w.heap.size + 1, 2, none⟩ = some (.slice S2.lk.A S2.lk.n S2.lk.c) ∧ wx.cell? ⟨w.heap.size + 1, 3, none⟩ = some (.slice S2.dm.A S2.dm.n S2.dm.c) ∧ wx.cell? ⟨w.heap.size + 1, 4, none⟩ = some (.slice S2.st.A S2.st.n S2.st.c) ∧ wx.cell? ⟨w.heap.size + 1, 5, none⟩ = some (.slice S2.fl.A S2.fl.n S2.fl.c) ∧ wx.cell? ⟨w.heap.size + 1, 6, none⟩ = some (.slice S2.vr.A S2.vr.n S2.vr.c) ∧ wx.cell? ⟨w.heap.size + 1, 7, none⟩ = some (.slice S2.ir.A S2.ir.n S2.ir.c)) ∧ Below w.heap.size w wx from fun wx hx => by
    have nb := NB.out.below hx
    have nc := NC.out.below hx
    exact ⟨⟨nb.c0, nb.c1, nb.c2, nb.c3, nb.c4, nb.c5, nb.c6, nb.c7, nc.c0, nc.c1, nc.c2, nc.c3, nc.c4, nc.c5, nc.c6, nc.c7⟩, B0.out.trans (hx.mono B0.out.size)⟩)
  obtain ⟨f0, f1, f2, f3, f4, f5, f6, f7, m0, m1, m2, m3, m4, m5, m6, m7⟩ := (KN.out w1 (Below.refl _ _)).1
  go_wp2_with (go_at_call 4; (with_reducible refine (G1.out _ B0.out).mono ?_); rintro e w1_ ⟨g1, rfl, hg1, b1_⟩; have Y1 := Lib.hid (b1_); have X1 := Lib.hid (KN.out _ Y1.out).2; have HG1 := Lib.hid hg1; obtain ⟨f0, f1, f2, f3, f4, f5, f6, f7, m0, m1, m2, m3, m4, m5, m6, m7⟩ := (KN.out _ Y1.out).1; clear hg1 b1_; cases g1)
  rotate_left
  · go_wp2_with (go_at_call 5; (with_reducible refine (works15_any _).mono ?_); rintro e w8 ⟨rfl, b8⟩; have X8 := Lib.hid (trans_below X1.out b8); clear b8)
    go_ret
    exact ⟨rfl, X8.out⟩
  go_wp2_with (go_at_call 4; (with_reducible refine (G2.out _ X1.out).mono ?_); rintro e w2_ ⟨g2, rfl, hg2, b2_⟩; have Y2 := Lib.hid (trans_below Y1.out b2_); have X2 := Lib.hid (KN.out _ Y2.out).2; have HG2 := Lib.hid hg2; obtain ⟨f0, f1, f2, f3, f4, f5, f6, f7, m0, m1, m2, m3, m4, m5, m6, m7⟩ := (KN.out _ Y2.out).1; clear hg2 b2_; cases g2)
  rotate_left
  · go_wp2_with (go_at_call 5; (with_reducible refine (works15_any _).mono ?_); rintro e w8 ⟨rfl, b8⟩; have X8 := Lib.hid (trans_below X2.out b8); clear b8)
    go_ret
    exact ⟨rfl, X8.out⟩
  have SN := Lib.hid (HG1.out (by simp))
  have SM := Lib.hid (HG2.out (by simp))
  have XR := fun (w' : World) (hb : Below w.heap.size w w') => xnright_any N S w' (U1.out w' hb) SN.out
  have RR := fun (w' : World) (hb : Below w.heap.size w w') => rnright_any N S w' (U1.out w' hb)
  have XS := fun (w' : World) (hb : Below w.heap.size w w') => xnsame_any N M S S2 w' (U1.out w' hb) (U2.out w' hb) SN.out SM.out
  have RS := fun (w' : World) (hb : Below w.heap.size w w') => rnsame_any N M S S2 w' (U1.out w' hb) (U2.out w' hb)
  have XX := fun (w' : World) (hb : Below w.heap.size w w') => xnsame_any N N S S w' (U1.out w' hb) (U1.out w' hb) SN.out SN.out
  have XC := fun (w' : World) (hb : Below w.heap.size w w') => xncopy_any N S w' (U1.out w' hb) SN.out HM.out
  have RC := fun (w' : World) (hb : Below w.heap.size w w') S' (hr : NRead w' (allB w') N S') => rnsame_any N N S' S w' hr (U1.out w' hb)
  rw [nsmB_yes rfl] at XX RC
  generalize netB N = v1 at *
  generalize nsmB N M = v2 at *
  unfold netV at XR RR XS RS XX RC
  unfold GotNet netV at XC
  have XR := Lib.hid XR
  have RR := Lib.hid RR
  have XS := Lib.hid XS
  have RS := Lib.hid RS
  have XX := Lib.hid XX
  have XC := Lib.hid XC
  have RC := Lib.hid RC
  have e1 : (v1 == v1) = true := by cases v1 <;> rfl
  have e2 : (v2 == v2) = true := by cases v2 <;> rfl
  clear f0 f1 f2 f3 f4 f5 f6 f7 m0 m1 m2 m3 m4 m5 m6 m7
  go_upto_region 3 with fail
  have R0 := Lib.hid (show Below w1.heap.size w1 w2_.drew from below_drewN Y2.out 1)
  have Z0 := Lib.hid (KN.out _ R0.out).2
  go_region_held_law (fun w' => w'.cell? ⟨w.heap.size, 0, none⟩ = some (.slice S.dv.A S.dv.n S.dv.c) ∧ w'.cell? ⟨w.heap.size, 1, none⟩ = some (.slice S.pt.A S.pt.n S.pt.c) ∧ w'.cell? ⟨w.heap.size, 2, none⟩ = some (.slice S.lk.A S.lk.n S.lk.c) ∧ w'.cell? ⟨w.heap.size, 3, none⟩ = some (.slice S.dm.A S.dm.n S.dm.c) ∧ w'.cell? ⟨w.heap.size, 4, none⟩ = some (.slice S.st.A S.st.n S.st.c) ∧ w'.cell? ⟨w.heap.size, 5, none⟩ = some (.slice S.fl.A S.fl.n S.fl.c) ∧ w'.cell? ⟨w.heap.size, 6, none⟩ = some (.slice S.vr.A S.vr.n S.vr.c) ∧ w'.cell? ⟨w.heap.size, 7, none⟩ = some (.slice S.ir.A S.ir.n S.ir.c) ∧ w'.cell? ⟨w.heap.size + 1, 0, none⟩ = some (.slice S2.dv.A S2.dv.n S2.dv.c) ∧ w'.cell? ⟨w.heap.size + 1, 1, none⟩ = some (.slice S2.pt.A S2.pt.n S2.pt.c) ∧ w'.cell? ⟨w.heap.size + 1, 2, none⟩ = some (.slice S2.lk.A S2.lk.n S2.lk.c) ∧ w'.cell? ⟨w.heap.size + 1, 3, none⟩ = some (.slice S2.dm.A S2.dm.n S2.dm.c) ∧ w'.cell? ⟨w.heap.size + 1, 4, none⟩ = some (.slice S2.st.A S2.st.n S2.st.c) ∧ w'.cell? ⟨w.heap.size + 1, 5, none⟩ = some (.slice S2.fl.A S2.fl.n S2.fl.c) ∧ w'.cell? ⟨w.heap.size + 1, 6, none⟩ = some (.slice S2.vr.A S2.vr.n S2.vr.c) ∧ w'.cell? ⟨w.heap.size + 1, 7, none⟩ = some (.slice S2.ir.A S2.ir.n S2.ir.c))
    (first | exact (KN.out _ B10.out).1 | exact (KN.out _ B9.out).1 | exact (KN.out _ B8.out).1 | exact (KN.out _ B7.out).1 | exact (KN.out _ B6.out).1 | exact (KN.out _ B5.out).1 | exact (KN.out _ B4.out).1 | exact (KN.out _ B3.out).1 | exact (KN.out _ R0.out).1 | fail)
    (first
      | (go_at_call 6; (with_reducible refine (XR.out _ Z0.out).mono ?_); rintro e w3 ⟨rfl, hb3⟩; have B3 := Lib.hid (trans_below R0.out hb3); have Z3 := Lib.hid (KN.out _ B3.out).2; clear hb3)
      | (go_at_call 7; (with_reducible refine (RR.out _ Z3.out).mono ?_); rintro e w4 ⟨rfl, hb4⟩; have B4 := Lib.hid (trans_below B3.out hb4); have Z4 := Lib.hid (KN.out _ B4.out).2; clear hb4)
      | (go_at_call 8; (with_reducible refine (XS.out _ Z4.out).mono ?_); rintro e w5 ⟨rfl, hb5⟩; have B5 := Lib.hid (trans_below B4.out hb5); have Z5 := Lib.hid (KN.out _ B5.out).2; clear hb5)
      | (go_at_call 9; (with_reducible refine (RS.out _ Z5.out).mono ?_); rintro e w6 ⟨rfl, hb6⟩; have B6 := Lib.hid (trans_below B5.out hb6); have Z6 := Lib.hid (KN.out _ B6.out).2; clear hb6)
      | (go_at_call 8; (with_reducible refine (XX.out _ Z6.out).mono ?_); rintro e w7 ⟨rfl, hb7⟩; have B7 := Lib.hid (trans_below B6.out hb7); have Z7 := Lib.hid (KN.out _ B7.out).2; clear hb7)
      | (go_at_call 10; (with_reducible refine (XC.out _ Z7.out).mono ?_); rintro e w8 ⟨S', rfl, hr8, hb8⟩; have B8 := Lib.hid (trans_below B7.out hb8); have Z8 := Lib.hid (KN.out _ B8.out).2; have HR8 := Lib.hid (hr8.keep (F' := allB w8) (fun _ _ => rfl) (fun b hb => hb.2.1)); clear hb8 hr8)
      | (go_at_call 9; (with_reducible refine (RC.out _ Z8.out S' HR8.out).mono ?_); rintro e w9 ⟨rfl, hb9⟩; have B9 := Lib.hid (trans_below B8.out hb9); have Z9 := Lib.hid (KN.out _ B9.out).2; clear hb9)
      | (go_at_call 5; (with_reducible refine (works15_any _).mono ?_); rintro e w10 ⟨rfl, hb10⟩; have B10 := Lib.hid (trans_below B9.out hb10); have Z10 := Lib.hid (KN.out _ B10.out).2; clear hb10))
  go_wp2
  go_ret
  exact ⟨by first | rfl | simp, Z10.out⟩
end Go.Proofs.YtocobjekcdabgaaGreat
