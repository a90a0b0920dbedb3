/- The contract of palingref15.Right: may the net be? (Made by mk-ntright.py.) -/
import Derived.Test.YtnpembgchmmbjaaNtDoms
import Derived.Test.YtnpembgchmmbjaaNtPorts
import Derived.Test.YtnpembgchmmbjaaNtLinks
import Derived.Test.YtnpembgchmmbjaaNtRest
namespace Go.Proofs.Ytnpembgchmmbjaa
open Go.RowKit

/-- may the net be? -/
structure NetOk (N : NV) : Prop where
  zdv : N.devices.length ≤ 8
  zpt : N.ports.length ≤ 40
  zlk : N.links.length ≤ 20
  zdm : N.domains.length ≤ 48
  zst : N.statics.length ≤ 64
  zfl : N.floods.length ≤ 48
  zvr : N.vrfs.length ≤ 16
  zir : N.irbs.length ≤ 48
  dm : DomsOk N
  pt : ∀ i, i < N.ports.length → PortOk N i (N.ports.getD i PortV.zero)
  lk : ∀ i, i < N.links.length → LinkOk N i (N.links.getD i LinkV.zero)
  rs : RestOk N
noncomputable def netB (N : NV) : Bool := @decide (NetOk N) (Classical.propDecidable _)
theorem netB_no {N : NV} (h : ¬ NetOk N) : netB N = false := by
  unfold netB
  exact @decide_eq_false _ (Classical.propDecidable _) h
theorem netB_yes {N : NV} (h : NetOk N) : netB N = true := by
  unfold netB
  exact @decide_eq_true _ (Classical.propDecidable _) h
theorem netB_iff (N : NV) : netB N = true ↔ NetOk N := by
  unfold netB
  exact @decide_eq_true_iff _ (Classical.propDecidable _)
set_option maxRecDepth 20000 in
set_option maxHeartbeats 8000000 in
theorem rnright_any (N : NV) (S : NSl3) (w : World) (h : NRead w (allB w) N S) : Calls Try.prog 10 #[netV S] w fun e w' => e = .returned (.bool (netB N)) ∧ Below w.heap.size w w' := by
  have LE_dv := Lib.hid h.dv.len
  have hle_dv := h.dv.le
  have hcap_dv := h.dv.cap
  have LE_pt := Lib.hid h.pt.len
  have hle_pt := h.pt.le
  have hcap_pt := h.pt.cap
  have LE_lk := Lib.hid h.lk.len
  have hle_lk := h.lk.le
  have hcap_lk := h.lk.cap
  have LE_dm := Lib.hid h.dm.len
  have hle_dm := h.dm.le
  have hcap_dm := h.dm.cap
  have LE_st := Lib.hid h.st.len
  have hle_st := h.st.le
  have hcap_st := h.st.cap
  have LE_fl := Lib.hid h.fl.len
  have hle_fl := h.fl.le
  have hcap_fl := h.fl.cap
  have LE_vr := Lib.hid h.vr.len
  have hle_vr := h.vr.le
  have hcap_vr := h.vr.cap
  have LE_ir := Lib.hid h.ir.len
  have hle_ir := h.ir.le
  have hcap_ir := h.ir.cap
  have NO := Lib.hid (@netB_no N)
  have YES := Lib.hid (@netB_yes N)
  have UPN := fun (w' : World) (hb : Below w.heap.size w w') => h.up hb
  have D1 := fun (w' : World) (hb : Below w.heap.size w w') => domains_any N S w' (UPN w' hb)
  have D2 := fun (w' : World) (hb : Below w.heap.size w w') => ports_any N S w' (UPN w' hb)
  have D3 := fun (w' : World) (hb : Below w.heap.size w w') => links_any N S w' (UPN w' hb)
  have D4 := fun (w' : World) (hb : Below w.heap.size w w') => rest_any N S w' (UPN w' hb)
  obtain ⟨v1, hv1⟩ : ∃ v, dmsB N = v := ⟨_, rfl⟩
  obtain ⟨v2, hv2⟩ : ∃ v, ptsB N = v := ⟨_, rfl⟩
  obtain ⟨v3, hv3⟩ : ∃ v, lksB N = v := ⟨_, rfl⟩
  obtain ⟨v4, hv4⟩ : ∃ v, rstB N = v := ⟨_, rfl⟩
  rw [hv1] at D1
  rw [hv2] at D2
  rw [hv3] at D3
  rw [hv4] at D4
  unfold netV at D1 D2 D3 D4 ⊢
  have D1 := Lib.hid D1
  have D2 := Lib.hid D2
  have D3 := Lib.hid D3
  have D4 := Lib.hid D4
  have NB := Lib.hid (NBox.new w S 31)
  have F1 := Lib.hid (show v1 = false → ¬ NetOk N from fun e g => by have := (dmsB_iff N).2 g.dm; rw [hv1, e] at this; cases this)
  have F2 := Lib.hid (show v2 = false → ¬ NetOk N from fun e g => by have := (ptsB_iff N).2 g.pt; rw [hv2, e] at this; cases this)
  have F3 := Lib.hid (show v3 = false → ¬ NetOk N from fun e g => by have := (lksB_iff N).2 g.lk; rw [hv3, e] at this; cases this)
  have F4 := Lib.hid (show v4 = false → ¬ NetOk N from fun e g => by have := (rstB_iff N).2 g.rs; rw [hv4, e] at this; cases this)
  have T1 := Lib.hid (show v1 = true → DomsOk N from fun e => (dmsB_iff N).1 (hv1.trans e))
  have T2 := Lib.hid (show v2 = true → _ from fun e => (ptsB_iff N).1 (hv2.trans e))
  have T3 := Lib.hid (show v3 = true → _ from fun e => (lksB_iff N).1 (hv3.trans e))
  have T4 := Lib.hid (show v4 = true → _ from fun e => (rstB_iff N).1 (hv4.trans e))
  generalize netB N = V at *
  clear h UPN hv1 hv2 hv3 hv4
  have KN := Lib.hid (show ∀ wx, Below (w.alloc (.cells (nA S) 31)).heap.size (w.alloc (.cells (nA S) 31)) wx → (NF wx w.heap.size S) ∧ Below w.heap.size w wx from fun wx hx => by
    have nb := NB.out.below hx
    exact ⟨⟨nb.c0, nb.c1, nb.c2, nb.c3, nb.c4, nb.c5, nb.c6, nb.c7⟩, ((Below.refl _ _).alloc (Nat.le_refl _) _).trans (hx.mono (by simp))⟩)
  have B0 := Lib.hid (show Below w.heap.size w (w.alloc (.cells (nA S) 31)) from (Below.refl _ _).alloc (Nat.le_refl _) _)
  by_cases c_dv : 8 < S.dv.n
  · have z_dv : (8 : Int) < (S.dv.n : Int) := by omega
    have EV := Lib.hid (NO.out (fun g => by have := g.zdv; rw [LE_dv.out] at this; omega))
    clear c_dv
    go_enter Try.func10, Try.ntmps10
    go_wp2
    go_ret
    exact ⟨by rw [EV.out]; rfl, B0.out⟩
  have z_dv : ¬ (8 : Int) < (S.dv.n : Int) := by omega
  by_cases c_pt : 40 < S.pt.n
  · have z_pt : (40 : Int) < (S.pt.n : Int) := by omega
    have EV := Lib.hid (NO.out (fun g => by have := g.zpt; rw [LE_pt.out] at this; omega))
    clear c_pt
    go_enter Try.func10, Try.ntmps10
    go_wp2
    go_ret
    exact ⟨by rw [EV.out]; rfl, B0.out⟩
  have z_pt : ¬ (40 : Int) < (S.pt.n : Int) := by omega
  by_cases c_lk : 20 < S.lk.n
  · have z_lk : (20 : Int) < (S.lk.n : Int) := by omega
    have EV := Lib.hid (NO.out (fun g => by have := g.zlk; rw [LE_lk.out] at this; omega))
    clear c_lk
    go_enter Try.func10, Try.ntmps10
    go_wp2
    go_ret
    exact ⟨by rw [EV.out]; rfl, B0.out⟩
  have z_lk : ¬ (20 : Int) < (S.lk.n : Int) := by omega
  by_cases c_dm : 48 < S.dm.n
  · have z_dm : (48 : Int) < (S.dm.n : Int) := by omega
    have EV := Lib.hid (NO.out (fun g => by have := g.zdm; rw [LE_dm.out] at this; omega))
    clear c_dm
    go_enter Try.func10, Try.ntmps10
    go_wp2
    go_ret
    exact ⟨by rw [EV.out]; rfl, B0.out⟩
  have z_dm : ¬ (48 : Int) < (S.dm.n : Int) := by omega
  by_cases c_st : 64 < S.st.n
  · have z_st : (64 : Int) < (S.st.n : Int) := by omega
    have EV := Lib.hid (NO.out (fun g => by have := g.zst; rw [LE_st.out] at this; omega))
    clear c_st
    go_enter Try.func10, Try.ntmps10
    go_wp2
    go_ret
    exact ⟨by rw [EV.out]; rfl, B0.out⟩
  have z_st : ¬ (64 : Int) < (S.st.n : Int) := by omega
  by_cases c_fl : 48 < S.fl.n
  · have z_fl : (48 : Int) < (S.fl.n : Int) := by omega
    have EV := Lib.hid (NO.out (fun g => by have := g.zfl; rw [LE_fl.out] at this; omega))
    clear c_fl
    go_enter Try.func10, Try.ntmps10
    go_wp2
    go_ret
    exact ⟨by rw [EV.out]; rfl, B0.out⟩
  have z_fl : ¬ (48 : Int) < (S.fl.n : Int) := by omega
  by_cases c_vr : 16 < S.vr.n
  · have z_vr : (16 : Int) < (S.vr.n : Int) := by omega
    have EV := Lib.hid (NO.out (fun g => by have := g.zvr; rw [LE_vr.out] at this; omega))
    clear c_vr
    go_enter Try.func10, Try.ntmps10
    go_wp2
    go_ret
    exact ⟨by rw [EV.out]; rfl, B0.out⟩
  have z_vr : ¬ (16 : Int) < (S.vr.n : Int) := by omega
  by_cases c_ir : 48 < S.ir.n
  · have z_ir : (48 : Int) < (S.ir.n : Int) := by omega
    have EV := Lib.hid (NO.out (fun g => by have := g.zir; rw [LE_ir.out] at this; omega))
    clear c_ir
    go_enter Try.func10, Try.ntmps10
    go_wp2
    go_ret
    exact ⟨by rw [EV.out]; rfl, B0.out⟩
  have z_ir : ¬ (48 : Int) < (S.ir.n : Int) := by omega
  have SZ := Lib.hid (show N.devices.length ≤ 8 ∧ N.ports.length ≤ 40 ∧ N.links.length ≤ 20 ∧ N.domains.length ≤ 48 ∧ N.statics.length ≤ 64 ∧ N.floods.length ≤ 48 ∧ N.vrfs.length ≤ 16 ∧ N.irbs.length ≤ 48 from ⟨by rw [LE_dv.out]; omega, by rw [LE_pt.out]; omega, by rw [LE_lk.out]; omega, by rw [LE_dm.out]; omega, by rw [LE_st.out]; omega, by rw [LE_fl.out]; omega, by rw [LE_vr.out]; omega, by rw [LE_ir.out]; omega⟩)
  clear c_dv c_pt c_lk c_dm c_st c_fl c_vr c_ir
  cases v1
  · have EV := Lib.hid (NO.out (F1.out rfl))
    go_enter Try.func10, Try.ntmps10
    go_wp2_with (first
      | (go_at_call 19; (with_reducible refine (D1.out _ B0.out).mono ?_); rintro e w1_ ⟨rfl, b1_⟩; have Y1 := Lib.hid (b1_); obtain ⟨⟨f0, f1, f2, f3, f4, f5, f6, f7⟩, hB⟩ := KN.out w1_ Y1.out; have X1 := Lib.hid hB; clear hB b1_))
    go_ret
    exact ⟨by rw [EV.out]; rfl, X1.out⟩
  cases v2
  · have EV := Lib.hid (NO.out (F2.out rfl))
    go_enter Try.func10, Try.ntmps10
    go_wp2_with (first
      | (go_at_call 19; (with_reducible refine (D1.out _ B0.out).mono ?_); rintro e w1_ ⟨rfl, b1_⟩; have Y1 := Lib.hid (b1_); obtain ⟨⟨f0, f1, f2, f3, f4, f5, f6, f7⟩, hB⟩ := KN.out w1_ Y1.out; have X1 := Lib.hid hB; clear hB b1_)
      | (go_at_call 20; (with_reducible refine (D2.out _ X1.out).mono ?_); rintro e w2_ ⟨rfl, b2_⟩; have Y2 := Lib.hid (trans_below Y1.out b2_); obtain ⟨⟨f0, f1, f2, f3, f4, f5, f6, f7⟩, hB⟩ := KN.out w2_ Y2.out; have X2 := Lib.hid hB; clear hB b2_))
    go_ret
    exact ⟨by rw [EV.out]; rfl, X2.out⟩
  cases v3
  · have EV := Lib.hid (NO.out (F3.out rfl))
    go_enter Try.func10, Try.ntmps10
    go_wp2_with (first
      | (go_at_call 19; (with_reducible refine (D1.out _ B0.out).mono ?_); rintro e w1_ ⟨rfl, b1_⟩; have Y1 := Lib.hid (b1_); obtain ⟨⟨f0, f1, f2, f3, f4, f5, f6, f7⟩, hB⟩ := KN.out w1_ Y1.out; have X1 := Lib.hid hB; clear hB b1_)
      | (go_at_call 20; (with_reducible refine (D2.out _ X1.out).mono ?_); rintro e w2_ ⟨rfl, b2_⟩; have Y2 := Lib.hid (trans_below Y1.out b2_); obtain ⟨⟨f0, f1, f2, f3, f4, f5, f6, f7⟩, hB⟩ := KN.out w2_ Y2.out; have X2 := Lib.hid hB; clear hB b2_)
      | (go_at_call 21; (with_reducible refine (D3.out _ X2.out).mono ?_); rintro e w3_ ⟨rfl, b3_⟩; have Y3 := Lib.hid (trans_below Y2.out b3_); obtain ⟨⟨f0, f1, f2, f3, f4, f5, f6, f7⟩, hB⟩ := KN.out w3_ Y3.out; have X3 := Lib.hid hB; clear hB b3_))
    go_ret
    exact ⟨by rw [EV.out]; rfl, X3.out⟩
  cases v4
  · have EV := Lib.hid (NO.out (F4.out rfl))
    go_enter Try.func10, Try.ntmps10
    go_wp2_with (first
      | (go_at_call 19; (with_reducible refine (D1.out _ B0.out).mono ?_); rintro e w1_ ⟨rfl, b1_⟩; have Y1 := Lib.hid (b1_); obtain ⟨⟨f0, f1, f2, f3, f4, f5, f6, f7⟩, hB⟩ := KN.out w1_ Y1.out; have X1 := Lib.hid hB; clear hB b1_)
      | (go_at_call 20; (with_reducible refine (D2.out _ X1.out).mono ?_); rintro e w2_ ⟨rfl, b2_⟩; have Y2 := Lib.hid (trans_below Y1.out b2_); obtain ⟨⟨f0, f1, f2, f3, f4, f5, f6, f7⟩, hB⟩ := KN.out w2_ Y2.out; have X2 := Lib.hid hB; clear hB b2_)
      | (go_at_call 21; (with_reducible refine (D3.out _ X2.out).mono ?_); rintro e w3_ ⟨rfl, b3_⟩; have Y3 := Lib.hid (trans_below Y2.out b3_); obtain ⟨⟨f0, f1, f2, f3, f4, f5, f6, f7⟩, hB⟩ := KN.out w3_ Y3.out; have X3 := Lib.hid hB; clear hB b3_)
      | (go_at_call 22; (with_reducible refine (D4.out _ X3.out).mono ?_); rintro e w4_ ⟨rfl, b4_⟩; have Y4 := Lib.hid (trans_below Y3.out b4_); obtain ⟨⟨f0, f1, f2, f3, f4, f5, f6, f7⟩, hB⟩ := KN.out w4_ Y4.out; have X4 := Lib.hid hB; clear hB b4_))
    go_ret
    exact ⟨by rw [EV.out]; rfl, X4.out⟩
  have EV := Lib.hid (YES.out ⟨SZ.out.1, SZ.out.2.1, SZ.out.2.2.1, SZ.out.2.2.2.1, SZ.out.2.2.2.2.1, SZ.out.2.2.2.2.2.1, SZ.out.2.2.2.2.2.2.1, SZ.out.2.2.2.2.2.2.2, T1.out rfl, T2.out rfl, T3.out rfl, T4.out rfl⟩)
  go_enter Try.func10, Try.ntmps10
  go_wp2_with (first
    | (go_at_call 19; (with_reducible refine (D1.out _ B0.out).mono ?_); rintro e w1_ ⟨rfl, b1_⟩; have Y1 := Lib.hid (b1_); obtain ⟨⟨f0, f1, f2, f3, f4, f5, f6, f7⟩, hB⟩ := KN.out w1_ Y1.out; have X1 := Lib.hid hB; clear hB b1_)
    | (go_at_call 20; (with_reducible refine (D2.out _ X1.out).mono ?_); rintro e w2_ ⟨rfl, b2_⟩; have Y2 := Lib.hid (trans_below Y1.out b2_); obtain ⟨⟨f0, f1, f2, f3, f4, f5, f6, f7⟩, hB⟩ := KN.out w2_ Y2.out; have X2 := Lib.hid hB; clear hB b2_)
    | (go_at_call 21; (with_reducible refine (D3.out _ X2.out).mono ?_); rintro e w3_ ⟨rfl, b3_⟩; have Y3 := Lib.hid (trans_below Y2.out b3_); obtain ⟨⟨f0, f1, f2, f3, f4, f5, f6, f7⟩, hB⟩ := KN.out w3_ Y3.out; have X3 := Lib.hid hB; clear hB b3_)
    | (go_at_call 22; (with_reducible refine (D4.out _ X3.out).mono ?_); rintro e w4_ ⟨rfl, b4_⟩; have Y4 := Lib.hid (trans_below Y3.out b4_); obtain ⟨⟨f0, f1, f2, f3, f4, f5, f6, f7⟩, hB⟩ := KN.out w4_ Y4.out; have X4 := Lib.hid hB; clear hB b4_))
  go_ret
  exact ⟨by rw [EV.out]; rfl, X4.out⟩
end Go.Proofs.Ytnpembgchmmbjaa
