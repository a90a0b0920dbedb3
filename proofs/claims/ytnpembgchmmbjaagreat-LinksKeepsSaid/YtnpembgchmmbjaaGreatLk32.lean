/- XLaKeeps; XTxRow -/
import Derived.Test.YtnpembgchmmbjaaGreatLk14
import Derived.Test.YtnpembgchmmbjaaGreatLk29
import Derived.Test.YtnpembgchmmbjaaGreatLk30
import Derived.Test.YtnpembgchmmbjaaGreatLk27
import Derived.Test.YtnpembgchmmbjaaGreatLk31
import Derived.Test.YtnpembgchmmbjaaGreatLk23
import Derived.Test.YtnpembgchmmbjaaGreatLk03
import Derived.ProofKit
import Derived.Deep.Slices
/- The walk of LinksKeeps. (Made by mk-lakeeps.py.) -/
namespace Go.Proofs.YtnpembgchmmbjaaGreat
open Go.RowKit

set_option maxRecDepth 40000 in
set_option maxHeartbeats 40000000 in
theorem lkeeps_walk (N : NV) (S : NSl3) (L : LV) (s1 s2 s3 s4 : SlV) (w : World) (h : NRead w (allB w) N S) (hl : LRead w L s1 s2 s3 s4) (hm : NmSz N) (hw : LvW L) : Calls Tryz.prog 4 #[netV S, lineV L s1 s2 s3 s4] w fun e w' => e = .returned (.bool true) ∧ Below w.heap.size w w' := by
  have UP := Lib.hid (fun (w' : World) (hb : Below w.heap.size w w') => h.up hb)
  have UL := Lib.hid (fun (w' : World) (hb : Below w.heap.size w w') => lread_below hl hb)
  have HM := Lib.hid hm
  have HW := Lib.hid hw
  have NN := Lib.hid (show N.devices.length = S.dv.n ∧ N.ports.length = S.pt.n ∧ N.links.length = S.lk.n from ⟨h.dv.len, h.pt.len, h.lk.len⟩)
  have lekn := h.lk.le
  have capk := h.lk.cap
  have U1_ := Lib.hid (fun (w' : World) (hb : Below w.heap.size w w') => h.up hb)
  have L1_ := Lib.hid (fun (w' : World) (hb : Below w.heap.size w w') => lread_below hl hb)
  have G1 := fun (w' : World) (hb : Below w.heap.size w w') => ngreat_any N S w' (h.up hb)
  unfold GotNG netV at G1
  replace G1 := Lib.hid G1
  clear hm hw
  clear h hl
  unfold netV
  rw [line_agg]
  go_enter Tryz.func4, Tryz.ntmps4
  go_upto_region 1 with fail
  generalize hw1 : World.alloc _ _ = w1
  obtain ⟨B1, NB, LB, ql1⟩ := pre_two (S := S) (L := L) (s1 := s1) (s2 := s2) (s3 := s3) (s4 := s4) hw1
  clear hw1
  replace B1 := Lib.hid B1; replace NB := Lib.hid NB; replace LB := Lib.hid LB
  have KN := Lib.hid (show ∀ wx, Below w1.heap.size w1 wx → NF wx w.heap.size S ∧ (wx.cell? ⟨w.heap.size + 1, 2, none⟩ = some (.string (str L.dev)) ∧ wx.cell? ⟨w.heap.size + 1, 3, none⟩ = some (.string (str L.port)) ∧ wx.cell? ⟨w.heap.size + 1, 4, none⟩ = some (.string (str L.peer)) ∧ wx.cell? ⟨w.heap.size + 1, 5, none⟩ = some (.string (str L.far))) ∧ BoxF wx (w.heap.size + 1) 17 (lc L s1 s2 s3 s4) ∧ NRead wx (allB wx) N S ∧ LRead wx L s1 s2 s3 s4 ∧ Below w.heap.size w wx from fun wx hx => by
    have nb := NB.out.below hx
    have bx := LB.out.below (by omega) hx
    have b0 := B1.out.trans (hx.mono B1.out.size)
    exact ⟨⟨nb.c0, nb.c1, nb.c2, nb.c3, nb.c4, nb.c5, nb.c6, nb.c7⟩, ⟨bx.cell 2 (by omega), bx.cell 3 (by omega), bx.cell 4 (by omega), bx.cell 5 (by omega)⟩, bx, UP.out _ b0, UL.out _ b0, b0⟩)
  have BS := Lib.hid (Below.refl w1.heap.size w1)
  obtain ⟨⟨f0, f1, f2, f3, f4, f5, f6, f7⟩, ⟨g2, g3, g4, g5⟩, lb_, _⟩ := KN.out w1 (Below.refl _ _)
  by_cases l0_ : 300 < L.dev.length
  · have y0_ : (L.dev.length : Int) > 300 := by omega
    clear l0_
    go_wp2_with (first | (go_at_call 6; (with_reducible refine (works17_any _).mono ?_); rintro e w2 ⟨rfl, b_⟩; have Y2 := Lib.hid b_; have X2 := Lib.hid (trans_below B1.out b_); obtain ⟨⟨f0, f1, f2, f3, f4, f5, f6, f7⟩, ⟨g2, g3, g4, g5⟩, lb_, _⟩ := KN.out _ Y2.out; clear b_) | (go_at_call 10; (with_reducible refine (G1.out _ X2.out).mono ?_); rintro e w3 ⟨g, rfl, hg, b_⟩; have Y3 := Lib.hid (trans_below Y2.out b_); have X3 := Lib.hid (trans_below X2.out b_); have HG := Lib.hid hg; obtain ⟨⟨f0, f1, f2, f3, f4, f5, f6, f7⟩, ⟨g2, g3, g4, g5⟩, lb_, _⟩ := KN.out _ Y3.out; clear hg b_; cases g))
    all_goals go_wp2
    all_goals go_ret
    all_goals exact ⟨by first | rfl | simp, X3.out⟩
  have y0_ : ¬ (L.dev.length : Int) > 300 := by omega
  by_cases l1_ : 300 < L.port.length
  · have y1_ : (L.port.length : Int) > 300 := by omega
    clear l1_
    go_wp2_with (first | (go_at_call 6; (with_reducible refine (works17_any _).mono ?_); rintro e w2 ⟨rfl, b_⟩; have Y2 := Lib.hid b_; have X2 := Lib.hid (trans_below B1.out b_); obtain ⟨⟨f0, f1, f2, f3, f4, f5, f6, f7⟩, ⟨g2, g3, g4, g5⟩, lb_, _⟩ := KN.out _ Y2.out; clear b_) | (go_at_call 10; (with_reducible refine (G1.out _ X2.out).mono ?_); rintro e w3 ⟨g, rfl, hg, b_⟩; have Y3 := Lib.hid (trans_below Y2.out b_); have X3 := Lib.hid (trans_below X2.out b_); have HG := Lib.hid hg; obtain ⟨⟨f0, f1, f2, f3, f4, f5, f6, f7⟩, ⟨g2, g3, g4, g5⟩, lb_, _⟩ := KN.out _ Y3.out; clear hg b_; cases g))
    all_goals go_wp2
    all_goals go_ret
    all_goals exact ⟨by first | rfl | simp, X3.out⟩
  have y1_ : ¬ (L.port.length : Int) > 300 := by omega
  by_cases l2_ : 300 < L.peer.length
  · have y2_ : (L.peer.length : Int) > 300 := by omega
    clear l2_
    go_wp2_with (first | (go_at_call 6; (with_reducible refine (works17_any _).mono ?_); rintro e w2 ⟨rfl, b_⟩; have Y2 := Lib.hid b_; have X2 := Lib.hid (trans_below B1.out b_); obtain ⟨⟨f0, f1, f2, f3, f4, f5, f6, f7⟩, ⟨g2, g3, g4, g5⟩, lb_, _⟩ := KN.out _ Y2.out; clear b_) | (go_at_call 10; (with_reducible refine (G1.out _ X2.out).mono ?_); rintro e w3 ⟨g, rfl, hg, b_⟩; have Y3 := Lib.hid (trans_below Y2.out b_); have X3 := Lib.hid (trans_below X2.out b_); have HG := Lib.hid hg; obtain ⟨⟨f0, f1, f2, f3, f4, f5, f6, f7⟩, ⟨g2, g3, g4, g5⟩, lb_, _⟩ := KN.out _ Y3.out; clear hg b_; cases g))
    all_goals go_wp2
    all_goals go_ret
    all_goals exact ⟨by first | rfl | simp, X3.out⟩
  have y2_ : ¬ (L.peer.length : Int) > 300 := by omega
  by_cases l3_ : 300 < L.far.length
  · have y3_ : (L.far.length : Int) > 300 := by omega
    clear l3_
    go_wp2_with (first | (go_at_call 6; (with_reducible refine (works17_any _).mono ?_); rintro e w2 ⟨rfl, b_⟩; have Y2 := Lib.hid b_; have X2 := Lib.hid (trans_below B1.out b_); obtain ⟨⟨f0, f1, f2, f3, f4, f5, f6, f7⟩, ⟨g2, g3, g4, g5⟩, lb_, _⟩ := KN.out _ Y2.out; clear b_) | (go_at_call 10; (with_reducible refine (G1.out _ X2.out).mono ?_); rintro e w3 ⟨g, rfl, hg, b_⟩; have Y3 := Lib.hid (trans_below Y2.out b_); have X3 := Lib.hid (trans_below X2.out b_); have HG := Lib.hid hg; obtain ⟨⟨f0, f1, f2, f3, f4, f5, f6, f7⟩, ⟨g2, g3, g4, g5⟩, lb_, _⟩ := KN.out _ Y3.out; clear hg b_; cases g))
    all_goals go_wp2
    all_goals go_ret
    all_goals exact ⟨by first | rfl | simp, X3.out⟩
  have y3_ : ¬ (L.far.length : Int) > 300 := by omega
  have HT := Lib.hid (show L.dev.length ≤ 300 ∧ L.port.length ≤ 300 ∧ L.peer.length ≤ 300 ∧ L.far.length ≤ 300 from by omega)
  clear l0_ l1_ l2_ l3_
  go_upto_region 5 with (first | (go_at_call 6; (with_reducible refine (works17_any _).mono ?_); rintro e w2 ⟨rfl, b_⟩; have Y2 := Lib.hid b_; have X2 := Lib.hid (trans_below B1.out b_); obtain ⟨⟨f0, f1, f2, f3, f4, f5, f6, f7⟩, ⟨g2, g3, g4, g5⟩, lb_, _⟩ := KN.out _ Y2.out; clear b_) | (go_at_call 10; (with_reducible refine (G1.out _ X2.out).mono ?_); rintro e w3 ⟨g, rfl, hg, b_⟩; have Y3 := Lib.hid (trans_below Y2.out b_); have X3 := Lib.hid (trans_below X2.out b_); have HG := Lib.hid hg; obtain ⟨⟨f0, f1, f2, f3, f4, f5, f6, f7⟩, ⟨g2, g3, g4, g5⟩, lb_, _⟩ := KN.out _ Y3.out; clear hg b_; cases g))
  rotate_left
  · go_wp2
    go_ret
    exact ⟨by first | rfl | simp, X3.out⟩
  clear y0_ y1_ y2_ y3_
  have SZ := HG.out (by simp)
  have ZN := Lib.hid SZ
  have PD := fun (w' : World) (hb : Below w.heap.size w w') => cadd_any N S L s1 s2 s3 s4 w' (U1_.out _ hb) (L1_.out _ hb) SZ HM.out (by have := HT.out; omega)
  obtain ⟨ND, hND⟩ : ∃ v, laN N L = v := ⟨_, rfl⟩
  obtain ⟨ED, hED⟩ : ∃ v, laE N L = v := ⟨_, rfl⟩
  rw [hND, hED] at PD
  unfold GotPut netV at PD
  replace PD := Lib.hid PD
  have HND := Lib.hid hND
  have HED := Lib.hid hED
  have XS := Lib.hid (fun (M : NV) (A B : NSl3) (w' : World) (ha : NRead w' (allB w') M A) (hb : NRead w' (allB w') M B) (hz : NvSz M) => show Calls Tryz.prog 11 #[netV A, netV B] w' (fun e w'' => e = .returned (.bool true) ∧ Below w'.heap.size w' w'') from by have := xnsame_any M M A B w' ha hb hz hz; rw [nsmB_yes rfl] at this; exact this)
  have XR := Lib.hid (fun (M : NV) (A : NSl3) (w' : World) (ha : NRead w' (allB w') M A) (hz : NvSz M) (hn : NetOk M) => show Calls Tryz.prog 14 #[netV A] w' (fun e w'' => e = .returned (.bool true) ∧ Below w'.heap.size w' w'') from by have := xnright_any M A w' ha hz; rw [netB_yes hn] at this; exact this)
  have XO := Lib.hid (fun (M : NV) (A : NSl3) (p : Int) (w' : World) (ha : NRead w' (allB w') M A) (hz : NvSz M) (hn : NetOk M) => show Calls Tryz.prog 15 #[netV A, .int .i64 p] w' (fun e w'' => e = .returned (.int .i64 (otC M p)) ∧ Below w'.heap.size w' w'') from by have := xother_any M A p w' ha hz; rw [otX_ok hn] at this; exact this)
  have XC := Lib.hid (fun (M : NV) (A : NSl3) (w0 w' : World) (ha : NRead w0 (allB w0) M A) (hb : Below w0.heap.size w0 w') (hz : NvSz M) => show Calls Tryz.prog 16 #[netV A] w' (fun e w'' => ∃ U, e = .returned (netV U) ∧ NOwn w'' w'.heap.size (allB w0) M U ∧ Below w'.heap.size w' w'') from (rcopy_any (allB w0) M A w' (ha.keep (F' := allB w0) (fun b g => hb.block b g) (fun _ g => g)) (fun b g => Nat.lt_of_lt_of_le g hb.size) hz).mono fun e w'' ⟨U, e1, e2, e3⟩ => ⟨U, e1, e2, e3⟩)
  unfold netV at XS XR XO XC
  have SD := Lib.hid (fun (M : NV) (A : NSl3) (s : List UInt8) (w' : World) (ha : NRead w' (allB w') M A) (hz : NvSz M) (hn : NetOk M) (hs : s.length ≤ 300) => xndevice_any M A s w' ha hz hn (by omega))
  have SP := Lib.hid (fun (M : NV) (A : NSl3) (d : Int) (s : List UInt8) (w' : World) (ha : NRead w' (allB w') M A) (hz : NvSz M) (hn : NetOk M) (hs : s.length ≤ 300) => xnport_any M A d s w' ha hz hn (by omega))
  unfold netV at SD SP
  clear hND hED SZ HG G1
  go_upto_region 6 with (first
    | ((with_reducible refine wpList_lineOf ?hg (.tmp 3) ?ho (w.heap.size + 1) ?hx L s1 s2 s3 s4 lb_ ?_); (case hg => rfl); (case ho => rfl); (case hx => rfl))
    | (go_at_call 7; (refine (PD.out _ X3.out).mono ?_); rintro e w4 ⟨Ua, rfl, hr, hb⟩; have Y4 := Lib.hid (trans_below Y3.out hb); have X4 := Lib.hid (trans_below X3.out hb); have R_Ua := Lib.hid hr; clear hr; skip; clear hb))
  clear f0 f1 f2 f3 f4 f5 f6 f7 g2 g3 g4 g5 lb_
  obtain ⟨w5, hw5⟩ : ∃ w5, w4.alloc (.cells #[.slice Ua.dv.A Ua.dv.n Ua.dv.c, .slice Ua.pt.A Ua.pt.n Ua.pt.c, .slice Ua.lk.A Ua.lk.n Ua.lk.c, .slice Ua.dm.A Ua.dm.n Ua.dm.c, .slice Ua.st.A Ua.st.n Ua.st.c, .slice Ua.fl.A Ua.fl.n Ua.fl.c, .slice Ua.vr.A Ua.vr.n Ua.vr.c, .slice Ua.ir.A Ua.ir.n Ua.ir.c] 31) = w5 := ⟨_, rfl⟩
  have A_ : Below w4.heap.size w4 w5 := by rw [← hw5]; exact alloc_below _ _
  obtain ⟨qUa, hqUa⟩ : ∃ q, w4.heap.size = q := ⟨_, rfl⟩
  have NB_Ua := Lib.hid (show NBox w5 qUa Ua by rw [← hw5, ← hqUa]; exact NBox.new _ _ _)
  have N_Ua := Lib.hid (R_Ua.out.up A_)
  have Y5 := Lib.hid (trans_below Y4.out A_)
  have X5 := Lib.hid (trans_below X4.out A_)
  have Z_Ua := Lib.hid (Below.refl w5.heap.size w5)
  have TQ_Ua := Lib.hid (show TBx w5 qUa 31 (netC Ua) by rw [← hw5, ← hqUa]; exact TBx.new w4 _ _)
  have HQ_Ua := Lib.hid hqUa
  have BA_Ua := Lib.hid A_
  rw [hw5, hqUa]
  clear hw5 hqUa A_
  obtain ⟨⟨f0, f1, f2, f3, f4, f5, f6, f7⟩, ⟨g2, g3, g4, g5⟩, lb_, _⟩ := KN.out _ Y5.out
  have nb_ := NB_Ua.out.below Z_Ua.out
  have la := nb_.lt
  obtain ⟨a0, a1, a2, a3, a4, a5, a6, a7⟩ : w5.cell? ⟨qUa, 0, none⟩ = some (.slice Ua.dv.A Ua.dv.n Ua.dv.c) ∧ w5.cell? ⟨qUa, 1, none⟩ = some (.slice Ua.pt.A Ua.pt.n Ua.pt.c) ∧ w5.cell? ⟨qUa, 2, none⟩ = some (.slice Ua.lk.A Ua.lk.n Ua.lk.c) ∧ w5.cell? ⟨qUa, 3, none⟩ = some (.slice Ua.dm.A Ua.dm.n Ua.dm.c) ∧ w5.cell? ⟨qUa, 4, none⟩ = some (.slice Ua.st.A Ua.st.n Ua.st.c) ∧ w5.cell? ⟨qUa, 5, none⟩ = some (.slice Ua.fl.A Ua.fl.n Ua.fl.c) ∧ w5.cell? ⟨qUa, 6, none⟩ = some (.slice Ua.vr.A Ua.vr.n Ua.vr.c) ∧ w5.cell? ⟨qUa, 7, none⟩ = some (.slice Ua.ir.A Ua.ir.n Ua.ir.c) := ⟨nb_.c0, nb_.c1, nb_.c2, nb_.c3, nb_.c4, nb_.c5, nb_.c6, nb_.c7⟩
  clear nb_
  by_cases hE : ED = 0
  rotate_left
  · have x1 : (ED != 0) = true := by simpa using hE
    have EZ := Lib.hid (show ND = NV.zero by rw [← HND.out]; exact la_no (by rw [HED.out]; exact hE))
    clear hE
    go_wp2_with (go_at_call 11; (refine (XS.out NV.zero Ua NSl3.nil _ (EZ.out ▸ N_Ua.out.up Z_Ua.out) (none_read _) none_sz).mono ?_); rintro e w6 ⟨rfl, hb⟩; have Y6 := Lib.hid (trans_below Y5.out hb); have X6 := Lib.hid (trans_below X5.out hb); have Z_Ua := Lib.hid (trans_below Z_Ua.out hb); skip; clear hb)
    go_ret
    exact ⟨rfl, X6.out⟩
  have x1 : (ED != 0) = false := by simpa using hE
  obtain ⟨_, hn, a, b, ea, eb, ha, hb, hd, la, lb, k20, eN⟩ := la_inv (HED.out.trans hE)
  have hab : a ≠ b := fun e => hd (by rw [e])
  have EM := Lib.hid (show ND = withLink N L.row a b from HND.out.symm.trans eN)
  have OKM := Lib.hid (withLink_ok L.row hn ha hb hd la lb k20)
  have ZM := Lib.hid (wl_sz L.row ZN.out ha hb hab k20)
  have OT := wl_ot (N := N) L.row ha hb hab
  have UD := Lib.hid (wl_undo (N := N) L.row ha hb hab la lb)
  have WL := wl_len N L.row a b
  have D1 := wl_nd (N := N) L.row ha hb hab L.dev L.port
  have D2 := wl_nd (N := N) L.row ha hb hab L.peer L.far
  rw [ea] at D1
  rw [eb] at D2
  have AB := Lib.hid hab
  have HA := Lib.hid (show a < S.pt.n by have := NN.out.2.1; omega)
  have HB := Lib.hid (show b < S.pt.n by have := NN.out.2.1; omega)
  have NM := Lib.hid (show NRead w5 (allB w5) (withLink N L.row a b) Ua from EM.out ▸ N_Ua.out.up Z_Ua.out)
  have up1 : Ua.pt.n = S.pt.n := by have := NM.out.pt.len; have := NN.out.2.1; omega
  have uk1 : Ua.lk.n = S.lk.n + 1 := by have := NM.out.lk.len; have := NN.out.2.2; omega
  have bsk : S.lk.n ≤ 19 := by have := NN.out.2.2; omega
  have LC := Lib.hid (fun (w' : World) (F : Nat → Prop) (U : NSl3) (h : NRead w' F { withLink N L.row a b with ports := N.ports } U) => link_cut h)
  have WP := Lib.hid WL.1
  have UK := Lib.hid uk1
  have UP1 := Lib.hid up1
  clear hE hn ha hb hd la lb k20 eN ea eb hab WL uk1 up1
  obtain ⟨M, hM⟩ : ∃ M, withLink N L.row a b = M := ⟨_, rfl⟩
  have HMM := Lib.hid hM
  rw [hM] at D1 D2 OT
  have OT1 := Lib.hid OT.1
  have OT2 := Lib.hid OT.2
  have ND1 := Lib.hid D1
  have ND2 := Lib.hid D2
  replace NM := Lib.hid (hM ▸ NM.out)
  replace OKM := Lib.hid (hM ▸ OKM.out)
  replace ZM := Lib.hid (hM ▸ ZM.out)
  clear OT D1 D2 hM
  obtain ⟨d1, hd1⟩ : ∃ d, dvF M L.dev = d := ⟨_, rfl⟩
  obtain ⟨d2, hd2⟩ : ∃ d, dvF M L.peer = d := ⟨_, rfl⟩
  have HD1 := Lib.hid hd1
  have HD2 := Lib.hid hd2
  rw [hd1] at ND1
  rw [hd2] at ND2
  clear hd1 hd2
  go_upto_region 8 with fail
  have ZK_ := Lib.hid (Below.refl w5.heap.size w5)
  have KR_ := Lib.hid (show ∀ wx, Below w5.heap.size w5 wx → (wx.cell? ⟨w.heap.size, 0, none⟩ = some (.slice S.dv.A S.dv.n S.dv.c) ∧ wx.cell? ⟨w.heap.size, 1, none⟩ = some (.slice S.pt.A S.pt.n S.pt.c) ∧ wx.cell? ⟨w.heap.size, 2, none⟩ = some (.slice S.lk.A S.lk.n S.lk.c) ∧ wx.cell? ⟨w.heap.size, 3, none⟩ = some (.slice S.dm.A S.dm.n S.dm.c) ∧ wx.cell? ⟨w.heap.size, 4, none⟩ = some (.slice S.st.A S.st.n S.st.c) ∧ wx.cell? ⟨w.heap.size, 5, none⟩ = some (.slice S.fl.A S.fl.n S.fl.c) ∧ wx.cell? ⟨w.heap.size, 6, none⟩ = some (.slice S.vr.A S.vr.n S.vr.c) ∧ wx.cell? ⟨w.heap.size, 7, none⟩ = some (.slice S.ir.A S.ir.n S.ir.c)) ∧ (wx.cell? ⟨w.heap.size + 1, 2, none⟩ = some (.string (str L.dev)) ∧ wx.cell? ⟨w.heap.size + 1, 3, none⟩ = some (.string (str L.port)) ∧ wx.cell? ⟨w.heap.size + 1, 4, none⟩ = some (.string (str L.peer)) ∧ wx.cell? ⟨w.heap.size + 1, 5, none⟩ = some (.string (str L.far))) ∧ w.heap.size + 1 < wx.heap.size ∧ (wx.cell? ⟨qUa, 0, none⟩ = some (.slice Ua.dv.A Ua.dv.n Ua.dv.c) ∧ wx.cell? ⟨qUa, 1, none⟩ = some (.slice Ua.pt.A Ua.pt.n Ua.pt.c) ∧ wx.cell? ⟨qUa, 2, none⟩ = some (.slice Ua.lk.A Ua.lk.n Ua.lk.c) ∧ wx.cell? ⟨qUa, 3, none⟩ = some (.slice Ua.dm.A Ua.dm.n Ua.dm.c) ∧ wx.cell? ⟨qUa, 4, none⟩ = some (.slice Ua.st.A Ua.st.n Ua.st.c) ∧ wx.cell? ⟨qUa, 5, none⟩ = some (.slice Ua.fl.A Ua.fl.n Ua.fl.c) ∧ wx.cell? ⟨qUa, 6, none⟩ = some (.slice Ua.vr.A Ua.vr.n Ua.vr.c) ∧ wx.cell? ⟨qUa, 7, none⟩ = some (.slice Ua.ir.A Ua.ir.n Ua.ir.c)) ∧ qUa < wx.heap.size from fun wx hx => by
      have y_ := trans_below Y5.out hx
      obtain ⟨f_, g_, _⟩ := KN.out _ y_
      have zUa := trans_below Z_Ua.out hx
      have nbUa := NB_Ua.out.below zUa
      exact ⟨f_, g_, (by have := ql1; have := y_.size; omega), ⟨nbUa.c0, nbUa.c1, nbUa.c2, nbUa.c3, nbUa.c4, nbUa.c5, nbUa.c6, nbUa.c7⟩, nbUa.lt⟩)
  clear f0 f1 f2 f3 f4 f5 f6 f7 g2 g3 g4 g5 lb_ la a0 a1 a2 a3 a4 a5 a6 a7
  refine wp_region_text (fun wx => Below w5.heap.size w5 wx) (by kernel_rfl) (by kernel_rfl) ((Below.refl _ _).drew) ?_
  repeat
    first
      | (refine Seq.pass rfl ?_; simp only [Act.put, List.setIfInBounds_toArray, List.set_cons_zero, List.set_cons_succ])
      | (refine Seq.run ?_ rfl (fun wx hx => ?_) ?_
         rotate_left
         · obtain ⟨⟨f0, f1, f2, f3, f4, f5, f6, f7⟩, ⟨g2, g3, g4, g5⟩, ql_, ⟨a0, a1, a2, a3, a4, a5, a6, a7⟩, la⟩ := KR_.out wx hx
           go_simp
           first
             | (refine StepRun.val ?_; exact hx)
             | (refine StepRun.call (v := .int .i64 d1) ?_; (refine Calls.mono (HD1.out ▸ SD.out M Ua L.dev _ (NM.out.up (trans_below ZK_.out hx)) ZM.out OKM.out HT.out.1) ?_); rintro e w' ⟨rfl, hb⟩; exact ⟨rfl, trans_below hx hb⟩)
             | (refine StepRun.call (v := .int .i64 (a : Int)) ?_; (refine Calls.mono (ND1.out ▸ SP.out M Ua d1 L.port _ (NM.out.up (trans_below ZK_.out hx)) ZM.out OKM.out HT.out.2.1) ?_); rintro e w' ⟨rfl, hb⟩; exact ⟨rfl, trans_below hx hb⟩)
         simp only [Act.put, List.setIfInBounds_toArray, List.set_cons_zero, List.set_cons_succ])
  refine Seq.last (fun w6 hb => ?_)
  have Y6 := Lib.hid (trans_below Y5.out hb)
  have X6 := Lib.hid (trans_below X5.out hb)
  have Z_Ua := Lib.hid (trans_below Z_Ua.out hb)
  clear hb KR_
  obtain ⟨⟨f0, f1, f2, f3, f4, f5, f6, f7⟩, ⟨g2, g3, g4, g5⟩, lb_, _⟩ := KN.out _ Y6.out
  have nb_ := NB_Ua.out.below Z_Ua.out
  have la := nb_.lt
  obtain ⟨a0, a1, a2, a3, a4, a5, a6, a7⟩ : w6.cell? ⟨qUa, 0, none⟩ = some (.slice Ua.dv.A Ua.dv.n Ua.dv.c) ∧ w6.cell? ⟨qUa, 1, none⟩ = some (.slice Ua.pt.A Ua.pt.n Ua.pt.c) ∧ w6.cell? ⟨qUa, 2, none⟩ = some (.slice Ua.lk.A Ua.lk.n Ua.lk.c) ∧ w6.cell? ⟨qUa, 3, none⟩ = some (.slice Ua.dm.A Ua.dm.n Ua.dm.c) ∧ w6.cell? ⟨qUa, 4, none⟩ = some (.slice Ua.st.A Ua.st.n Ua.st.c) ∧ w6.cell? ⟨qUa, 5, none⟩ = some (.slice Ua.fl.A Ua.fl.n Ua.fl.c) ∧ w6.cell? ⟨qUa, 6, none⟩ = some (.slice Ua.vr.A Ua.vr.n Ua.vr.c) ∧ w6.cell? ⟨qUa, 7, none⟩ = some (.slice Ua.ir.A Ua.ir.n Ua.ir.c) := ⟨nb_.c0, nb_.c1, nb_.c2, nb_.c3, nb_.c4, nb_.c5, nb_.c6, nb_.c7⟩
  clear nb_
  have ZK2_ := Lib.hid (show Below w5.heap.size w5 w6 from Z_Ua.out)
  replace ZK_ := ZK2_
  go_upto_region 9 with fail
  have KR_ := Lib.hid (show ∀ wx, Below w6.heap.size w6 wx → (wx.cell? ⟨w.heap.size, 0, none⟩ = some (.slice S.dv.A S.dv.n S.dv.c) ∧ wx.cell? ⟨w.heap.size, 1, none⟩ = some (.slice S.pt.A S.pt.n S.pt.c) ∧ wx.cell? ⟨w.heap.size, 2, none⟩ = some (.slice S.lk.A S.lk.n S.lk.c) ∧ wx.cell? ⟨w.heap.size, 3, none⟩ = some (.slice S.dm.A S.dm.n S.dm.c) ∧ wx.cell? ⟨w.heap.size, 4, none⟩ = some (.slice S.st.A S.st.n S.st.c) ∧ wx.cell? ⟨w.heap.size, 5, none⟩ = some (.slice S.fl.A S.fl.n S.fl.c) ∧ wx.cell? ⟨w.heap.size, 6, none⟩ = some (.slice S.vr.A S.vr.n S.vr.c) ∧ wx.cell? ⟨w.heap.size, 7, none⟩ = some (.slice S.ir.A S.ir.n S.ir.c)) ∧ (wx.cell? ⟨w.heap.size + 1, 2, none⟩ = some (.string (str L.dev)) ∧ wx.cell? ⟨w.heap.size + 1, 3, none⟩ = some (.string (str L.port)) ∧ wx.cell? ⟨w.heap.size + 1, 4, none⟩ = some (.string (str L.peer)) ∧ wx.cell? ⟨w.heap.size + 1, 5, none⟩ = some (.string (str L.far))) ∧ w.heap.size + 1 < wx.heap.size ∧ (wx.cell? ⟨qUa, 0, none⟩ = some (.slice Ua.dv.A Ua.dv.n Ua.dv.c) ∧ wx.cell? ⟨qUa, 1, none⟩ = some (.slice Ua.pt.A Ua.pt.n Ua.pt.c) ∧ wx.cell? ⟨qUa, 2, none⟩ = some (.slice Ua.lk.A Ua.lk.n Ua.lk.c) ∧ wx.cell? ⟨qUa, 3, none⟩ = some (.slice Ua.dm.A Ua.dm.n Ua.dm.c) ∧ wx.cell? ⟨qUa, 4, none⟩ = some (.slice Ua.st.A Ua.st.n Ua.st.c) ∧ wx.cell? ⟨qUa, 5, none⟩ = some (.slice Ua.fl.A Ua.fl.n Ua.fl.c) ∧ wx.cell? ⟨qUa, 6, none⟩ = some (.slice Ua.vr.A Ua.vr.n Ua.vr.c) ∧ wx.cell? ⟨qUa, 7, none⟩ = some (.slice Ua.ir.A Ua.ir.n Ua.ir.c)) ∧ qUa < wx.heap.size from fun wx hx => by
      have y_ := trans_below Y6.out hx
      obtain ⟨f_, g_, _⟩ := KN.out _ y_
      have zUa := trans_below Z_Ua.out hx
      have nbUa := NB_Ua.out.below zUa
      exact ⟨f_, g_, (by have := ql1; have := y_.size; omega), ⟨nbUa.c0, nbUa.c1, nbUa.c2, nbUa.c3, nbUa.c4, nbUa.c5, nbUa.c6, nbUa.c7⟩, nbUa.lt⟩)
  clear f0 f1 f2 f3 f4 f5 f6 f7 g2 g3 g4 g5 lb_ la a0 a1 a2 a3 a4 a5 a6 a7
  refine wp_region_text (fun wx => Below w6.heap.size w6 wx) (by kernel_rfl) (by kernel_rfl) ((Below.refl _ _).drew) ?_
  repeat
    first
      | (refine Seq.pass rfl ?_; simp only [Act.put, List.setIfInBounds_toArray, List.set_cons_zero, List.set_cons_succ])
      | (refine Seq.run ?_ rfl (fun wx hx => ?_) ?_
         rotate_left
         · obtain ⟨⟨f0, f1, f2, f3, f4, f5, f6, f7⟩, ⟨g2, g3, g4, g5⟩, ql_, ⟨a0, a1, a2, a3, a4, a5, a6, a7⟩, la⟩ := KR_.out wx hx
           go_simp
           first
             | (refine StepRun.val ?_; exact hx)
             | (refine StepRun.call (v := .int .i64 d2) ?_; (refine Calls.mono (HD2.out ▸ SD.out M Ua L.peer _ (NM.out.up (trans_below ZK_.out hx)) ZM.out OKM.out HT.out.2.2.1) ?_); rintro e w' ⟨rfl, hb⟩; exact ⟨rfl, trans_below hx hb⟩)
             | (refine StepRun.call (v := .int .i64 (b : Int)) ?_; (refine Calls.mono (ND2.out ▸ SP.out M Ua d2 L.far _ (NM.out.up (trans_below ZK_.out hx)) ZM.out OKM.out HT.out.2.2.2) ?_); rintro e w' ⟨rfl, hb⟩; exact ⟨rfl, trans_below hx hb⟩)
         simp only [Act.put, List.setIfInBounds_toArray, List.set_cons_zero, List.set_cons_succ])
  refine Seq.last (fun w7 hb => ?_)
  have Y7 := Lib.hid (trans_below Y6.out hb)
  have X7 := Lib.hid (trans_below X6.out hb)
  have Z_Ua := Lib.hid (trans_below Z_Ua.out hb)
  clear hb KR_
  obtain ⟨⟨f0, f1, f2, f3, f4, f5, f6, f7⟩, ⟨g2, g3, g4, g5⟩, lb_, _⟩ := KN.out _ Y7.out
  have nb_ := NB_Ua.out.below Z_Ua.out
  have la := nb_.lt
  obtain ⟨a0, a1, a2, a3, a4, a5, a6, a7⟩ : w7.cell? ⟨qUa, 0, none⟩ = some (.slice Ua.dv.A Ua.dv.n Ua.dv.c) ∧ w7.cell? ⟨qUa, 1, none⟩ = some (.slice Ua.pt.A Ua.pt.n Ua.pt.c) ∧ w7.cell? ⟨qUa, 2, none⟩ = some (.slice Ua.lk.A Ua.lk.n Ua.lk.c) ∧ w7.cell? ⟨qUa, 3, none⟩ = some (.slice Ua.dm.A Ua.dm.n Ua.dm.c) ∧ w7.cell? ⟨qUa, 4, none⟩ = some (.slice Ua.st.A Ua.st.n Ua.st.c) ∧ w7.cell? ⟨qUa, 5, none⟩ = some (.slice Ua.fl.A Ua.fl.n Ua.fl.c) ∧ w7.cell? ⟨qUa, 6, none⟩ = some (.slice Ua.vr.A Ua.vr.n Ua.vr.c) ∧ w7.cell? ⟨qUa, 7, none⟩ = some (.slice Ua.ir.A Ua.ir.n Ua.ir.c) := ⟨nb_.c0, nb_.c1, nb_.c2, nb_.c3, nb_.c4, nb_.c5, nb_.c6, nb_.c7⟩
  clear nb_
  replace ZK_ := Lib.hid (show Below w5.heap.size w5 w7 from Z_Ua.out)
  have z0_ : ((b : Int) != (b : Int)) = false := by simp
  have z1_ : ((a : Int) != (a : Int)) = false := by simp
  have wr_ : IntKind.i64.wrap ((S.lk.n : Int) + 1) = (S.lk.n : Int) + 1 := IntWalk.i64_in _ (by omega)
  have z2_ : ((Ua.lk.n : Int) != (S.lk.n : Int) + 1) = false := by rw [UK.out]; simp
  have z3_ : ¬ (a : Int) < 0 := by omega
  have z4_ : ¬ (b : Int) < 0 := by omega
  have z5_ : ¬ (a : Int) ≥ (Ua.pt.n : Int) := by have := UP1.out; have := HA.out; omega
  have z6_ : ¬ (b : Int) ≥ (Ua.pt.n : Int) := by have := UP1.out; have := HB.out; omega
  have ca_ := NM.out.pt.le
  go_upto_region 13 with (first
    | (go_at_call 14; (refine (XR.out M Ua _ (NM.out.up (show Below w5.heap.size w5 w7 from Z_Ua.out)) ZM.out OKM.out).mono ?_); rintro e w8 ⟨rfl, hb⟩; have Y8 := Lib.hid (trans_below Y7.out hb); have X8 := Lib.hid (trans_below X7.out hb); have Z_Ua := Lib.hid (trans_below Z_Ua.out hb); clear f0 f1 f2 f3 f4 f5 f6 f7 g2 g3 g4 g5 lb_ la a0 a1 a2 a3 a4 a5 a6 a7; obtain ⟨⟨f0, f1, f2, f3, f4, f5, f6, f7⟩, ⟨g2, g3, g4, g5⟩, lb_, _⟩ := KN.out _ Y8.out; have nb_ := NB_Ua.out.below Z_Ua.out; have la := nb_.lt; obtain ⟨a0, a1, a2, a3, a4, a5, a6, a7⟩ : w8.cell? ⟨qUa, 0, none⟩ = some (.slice Ua.dv.A Ua.dv.n Ua.dv.c) ∧ w8.cell? ⟨qUa, 1, none⟩ = some (.slice Ua.pt.A Ua.pt.n Ua.pt.c) ∧ w8.cell? ⟨qUa, 2, none⟩ = some (.slice Ua.lk.A Ua.lk.n Ua.lk.c) ∧ w8.cell? ⟨qUa, 3, none⟩ = some (.slice Ua.dm.A Ua.dm.n Ua.dm.c) ∧ w8.cell? ⟨qUa, 4, none⟩ = some (.slice Ua.st.A Ua.st.n Ua.st.c) ∧ w8.cell? ⟨qUa, 5, none⟩ = some (.slice Ua.fl.A Ua.fl.n Ua.fl.c) ∧ w8.cell? ⟨qUa, 6, none⟩ = some (.slice Ua.vr.A Ua.vr.n Ua.vr.c) ∧ w8.cell? ⟨qUa, 7, none⟩ = some (.slice Ua.ir.A Ua.ir.n Ua.ir.c) := ⟨nb_.c0, nb_.c1, nb_.c2, nb_.c3, nb_.c4, nb_.c5, nb_.c6, nb_.c7⟩; clear nb_; clear hb)
    | (go_at_call 15; (refine (OT1.out ▸ XO.out M Ua (a : Int) _ (NM.out.up (show Below w5.heap.size w5 w8 from Z_Ua.out)) ZM.out OKM.out).mono ?_); rintro e w9 ⟨rfl, hb⟩; have Y9 := Lib.hid (trans_below Y8.out hb); have X9 := Lib.hid (trans_below X8.out hb); have Z_Ua := Lib.hid (trans_below Z_Ua.out hb); clear f0 f1 f2 f3 f4 f5 f6 f7 g2 g3 g4 g5 lb_ la a0 a1 a2 a3 a4 a5 a6 a7; obtain ⟨⟨f0, f1, f2, f3, f4, f5, f6, f7⟩, ⟨g2, g3, g4, g5⟩, lb_, _⟩ := KN.out _ Y9.out; have nb_ := NB_Ua.out.below Z_Ua.out; have la := nb_.lt; obtain ⟨a0, a1, a2, a3, a4, a5, a6, a7⟩ : w9.cell? ⟨qUa, 0, none⟩ = some (.slice Ua.dv.A Ua.dv.n Ua.dv.c) ∧ w9.cell? ⟨qUa, 1, none⟩ = some (.slice Ua.pt.A Ua.pt.n Ua.pt.c) ∧ w9.cell? ⟨qUa, 2, none⟩ = some (.slice Ua.lk.A Ua.lk.n Ua.lk.c) ∧ w9.cell? ⟨qUa, 3, none⟩ = some (.slice Ua.dm.A Ua.dm.n Ua.dm.c) ∧ w9.cell? ⟨qUa, 4, none⟩ = some (.slice Ua.st.A Ua.st.n Ua.st.c) ∧ w9.cell? ⟨qUa, 5, none⟩ = some (.slice Ua.fl.A Ua.fl.n Ua.fl.c) ∧ w9.cell? ⟨qUa, 6, none⟩ = some (.slice Ua.vr.A Ua.vr.n Ua.vr.c) ∧ w9.cell? ⟨qUa, 7, none⟩ = some (.slice Ua.ir.A Ua.ir.n Ua.ir.c) := ⟨nb_.c0, nb_.c1, nb_.c2, nb_.c3, nb_.c4, nb_.c5, nb_.c6, nb_.c7⟩; clear nb_; clear hb)
    | (go_at_call 15; (refine (OT2.out ▸ XO.out M Ua (b : Int) _ (NM.out.up (show Below w5.heap.size w5 w9 from Z_Ua.out)) ZM.out OKM.out).mono ?_); rintro e w10 ⟨rfl, hb⟩; have Y10 := Lib.hid (trans_below Y9.out hb); have X10 := Lib.hid (trans_below X9.out hb); have Z_Ua := Lib.hid (trans_below Z_Ua.out hb); have ZK3_ := Z_Ua; clear f0 f1 f2 f3 f4 f5 f6 f7 g2 g3 g4 g5 lb_ la a0 a1 a2 a3 a4 a5 a6 a7; obtain ⟨⟨f0, f1, f2, f3, f4, f5, f6, f7⟩, ⟨g2, g3, g4, g5⟩, lb_, _⟩ := KN.out _ Y10.out; have nb_ := NB_Ua.out.below Z_Ua.out; have la := nb_.lt; obtain ⟨a0, a1, a2, a3, a4, a5, a6, a7⟩ : w10.cell? ⟨qUa, 0, none⟩ = some (.slice Ua.dv.A Ua.dv.n Ua.dv.c) ∧ w10.cell? ⟨qUa, 1, none⟩ = some (.slice Ua.pt.A Ua.pt.n Ua.pt.c) ∧ w10.cell? ⟨qUa, 2, none⟩ = some (.slice Ua.lk.A Ua.lk.n Ua.lk.c) ∧ w10.cell? ⟨qUa, 3, none⟩ = some (.slice Ua.dm.A Ua.dm.n Ua.dm.c) ∧ w10.cell? ⟨qUa, 4, none⟩ = some (.slice Ua.st.A Ua.st.n Ua.st.c) ∧ w10.cell? ⟨qUa, 5, none⟩ = some (.slice Ua.fl.A Ua.fl.n Ua.fl.c) ∧ w10.cell? ⟨qUa, 6, none⟩ = some (.slice Ua.vr.A Ua.vr.n Ua.vr.c) ∧ w10.cell? ⟨qUa, 7, none⟩ = some (.slice Ua.ir.A Ua.ir.n Ua.ir.c) := ⟨nb_.c0, nb_.c1, nb_.c2, nb_.c3, nb_.c4, nb_.c5, nb_.c6, nb_.c7⟩; clear nb_; clear hb)
    | (go_at_call 16; (refine (XC.out M Ua w5 _ NM.out (show Below w5.heap.size w5 w10 from Z_Ua.out) ZM.out).mono ?_); rintro e w11 ⟨Uy, rfl, hr, hb⟩; have Y11 := Lib.hid (trans_below Y10.out hb); have X11 := Lib.hid (trans_below X10.out hb); have Z_Ua := Lib.hid (trans_below Z_Ua.out hb); have R_Uy := Lib.hid hr; have HB_ := Lib.hid hb; clear hr; skip; clear hb))
  clear f0 f1 f2 f3 f4 f5 f6 f7 g2 g3 g4 g5 lb_ la a0 a1 a2 a3 a4 a5 a6 a7
  obtain ⟨w12, hw_⟩ : ∃ w, w11.alloc (.cells (nA Uy) 31) = w := ⟨_, rfl⟩
  have A_ : Below w11.heap.size w11 w12 := by rw [← hw_]; exact alloc_below _ _
  have OY := Lib.hid (R_Uy.out.up A_)
  obtain ⟨qy, hq_⟩ : ∃ q, w11.heap.size = q := ⟨_, rfl⟩
  have TQ_ := Lib.hid (show TBx w12 qy 31 (netC Uy) by rw [← hw_, ← hq_]; exact TBx.new w11 _ _)
  have BF := Lib.hid (trans_below HB_.out A_)
  have HQ_ := Lib.hid (show w10.heap.size ≤ qy by rw [← hq_]; exact HB_.out.size)
  have FF := Lib.hid (show ∀ b, allB w5 b → b < w10.heap.size from fun b g => Nat.lt_of_lt_of_le g ZK3_.out.size)
  rw [hw_, hq_]
  clear hw_ hq_ A_ R_Uy HB_
  have y_ := trans_below Y10.out BF.out
  obtain ⟨⟨_, _, f2, _⟩, _⟩ := KN.out _ y_
  have ql_ : w.heap.size + 1 < w12.heap.size := by have := ql1; have := y_.size; omega
  have t2 := TQ_.out.cell 2 (.slice Uy.lk.A Uy.lk.n Uy.lk.c) rfl
  have z2 := TQ_.out.live 2
  have lt_ := TQ_.out.lt
  have e_ : S.lk.n ≤ Uy.lk.n := by have := OY.out.lk.len; have := NM.out.lk.len; have := UK.out; omega
  have c_ := OY.out.lk.le
  unfold maxLen at c_
  obtain ⟨c1_, c2_⟩ := c_
  go_upto_region 14 with fail
  clear f2 y_ ql_ t2 z2 lt_ e_ c1_ c2_
  generalize hw_ : World.setCell _ _ _ = w13
  obtain ⟨Uc, hc_⟩ : ∃ X : NSl3, ({ Uy with lk := ⟨Uy.lk.A, S.lk.n, Uy.lk.c⟩ } : NSl3) = X := ⟨_, rfl⟩
  have O13 := Lib.hid (show NOwn w13 w10.heap.size (allB w5) M Uy by rw [← hw_]; exact OY.out.box (TQ_.out.chgT HQ_.out 2 _) isb_net FF.out)
  replace TQ_ := Lib.hid (show TBx w13 qy 31 (netC Uc) by rw [← hw_, ← hc_]; exact TQ_.out.set 2 _)
  replace BF := Lib.hid (show Below w10.heap.size w10 w13 by rw [← hw_]; exact BF.out.setCell (p := ⟨qy, 2, none⟩) HQ_.out _)
  have HC := Lib.hid hc_
  have HPC := Lib.hid (show Uc.pt = Uy.pt by rw [← hc_])
  have MA := Lib.hid (show a < M.ports.length by rw [← HMM.out, WP.out, NN.out.2.1]; exact HA.out)
  have MB := Lib.hid (show b < M.ports.length by rw [← HMM.out, WP.out, NN.out.2.1]; exact HB.out)
  clear hw_ hc_ OY
  obtain ⟨g, hg, hgB, hgl, hgz, hgc⟩ := O13.out.lcell (by have := MA.out; omega)
  have HG := Lib.hid hg
  obtain ⟨va, ca⟩ := hgc a MA.out
  obtain ⟨vb, cb⟩ := hgc b MB.out
  have za := hgz (a * 7 + 4)
  have zb := hgz (b * 7 + 4)
  have u1 := TQ_.out.cell 1 (.slice Uc.pt.A Uc.pt.n Uc.pt.c) rfl
  rw [HPC.out, hg] at u1
  have tl_ := TQ_.out.lt
  have pl_ := O13.out.pt.len
  have ula := O13.out.pt.le
  have la_ : (a : Int) < (Uy.pt.n : Int) := by have := MA.out; omega
  have lb_ : (b : Int) < (Uy.pt.n : Int) := by have := MB.out; omega
  have nab : a * 7 + 4 ≠ b * 7 + 4 := by have := AB.out; omega
  clear hg hgz hgc pl_
  go_cut [] (fun wx => TBx wx qy 31 (netC Uc) ∧ NRead wx (allB wx) N Uc ∧ Below w10.heap.size w10 wx)
  case first =>
    have D_ := below_drewN (Below.refl w13.heap.size w13) 1
    have P1 := Lib.hid (fun (w0 : World) (h0 : NOwn w0 w10.heap.size (allB w5) M Uy) => two_lputs h0 FF.out HG.out MA.out MB.out (-1))
    have P2 := Lib.hid (fun (w0 : World) (h0 : NOwn w0 w10.heap.size (allB w5) M Uy) => two_lputs h0 FF.out HG.out MB.out MA.out (-1))
    have F1 := Lib.hid (fun (w0 : World) (h0 : NOwn w0 w10.heap.size (allB w5) { M with ports := setL (setL M.ports a (-1)) b (-1) } Uy) => show NRead w0 (allB w0) N Uc from by
      have e := h0.read
      rw [← HMM.out, UD.out.1] at e
      have e := LC.out _ _ _ e
      rw [NN.out.2.2, HC.out] at e
      exact e)
    have F2 := Lib.hid (fun (w0 : World) (h0 : NOwn w0 w10.heap.size (allB w5) { M with ports := setL (setL M.ports b (-1)) a (-1) } Uy) => show NRead w0 (allB w0) N Uc from by
      have e := h0.read
      rw [← HMM.out, UD.out.2] at e
      have e := LC.out _ _ _ e
      rw [NN.out.2.2, HC.out] at e
      exact e)
    go_region
    all_goals (try go_wp2)
    all_goals go_meet
    all_goals (first
      | exact ⟨TQ_.out.chg (P1.out _ O13.out).2.1 (by decide), F1.out _ (P1.out _ O13.out).1, (BF.out.setCell (p := ⟨g, _, none⟩) hgB _).setCell (p := ⟨g, _, none⟩) hgB _⟩
      | exact ⟨TQ_.out.chg (P2.out _ O13.out).2.1 (by decide), F2.out _ (P2.out _ O13.out).1, (BF.out.setCell (p := ⟨g, _, none⟩) hgB _).setCell (p := ⟨g, _, none⟩) hgB _⟩
      | exact ⟨(TQ_.out.below D_).chg (P1.out _ (O13.out.up D_)).2.1 (by decide), F1.out _ (P1.out _ (O13.out.up D_)).1, (((BF.out.trans (D_.mono BF.out.size))).setCell (p := ⟨g, _, none⟩) hgB _).setCell (p := ⟨g, _, none⟩) hgB _⟩
      | exact ⟨(TQ_.out.below D_).chg (P2.out _ (O13.out.up D_)).2.1 (by decide), F2.out _ (P2.out _ (O13.out.up D_)).1, (((BF.out.trans (D_.mono BF.out.size))).setCell (p := ⟨g, _, none⟩) hgB _).setCell (p := ⟨g, _, none⟩) hgB _⟩)
  case rest =>
  obtain ⟨hq_, hr_, hb_⟩ := hcut
  rename World => wF
  replace TQ_ := Lib.hid hq_
  have NF_ := Lib.hid hr_
  have BE := Lib.hid hb_
  clear hq_ hr_ hb_ u1 ca cb za zb tl_ hgl hgB
  have y_ := trans_below Y10.out BE.out
  have XF := Lib.hid (trans_below X10.out BE.out)
  obtain ⟨⟨f0, f1, f2, f3, f4, f5, f6, f7⟩, _⟩ := KN.out _ y_
  have ql_ : w.heap.size + 1 < wF.heap.size := by have := ql1; have := y_.size; omega
  have tl_ := TQ_.out.lt
  have j0 := TQ_.out.cell 0 (.slice Uc.dv.A Uc.dv.n Uc.dv.c) rfl
  have j1 := TQ_.out.cell 1 (.slice Uc.pt.A Uc.pt.n Uc.pt.c) rfl
  have j2 := TQ_.out.cell 2 (.slice Uc.lk.A Uc.lk.n Uc.lk.c) rfl
  have j3 := TQ_.out.cell 3 (.slice Uc.dm.A Uc.dm.n Uc.dm.c) rfl
  have j4 := TQ_.out.cell 4 (.slice Uc.st.A Uc.st.n Uc.st.c) rfl
  have j5 := TQ_.out.cell 5 (.slice Uc.fl.A Uc.fl.n Uc.fl.c) rfl
  have j6 := TQ_.out.cell 6 (.slice Uc.vr.A Uc.vr.n Uc.vr.c) rfl
  have j7 := TQ_.out.cell 7 (.slice Uc.ir.A Uc.ir.n Uc.ir.c) rfl
  go_wp2_with (go_at_call 11; (with_reducible refine (XS.out N Uc S _ NF_.out (U1_.out _ XF.out) ZN.out).mono ?_); rintro e we ⟨rfl, hb⟩; have XE := Lib.hid (trans_below XF.out hb); clear hb)
  go_ret
  exact ⟨rfl, XE.out⟩
end Go.Proofs.YtnpembgchmmbjaaGreat

/- From a law's parameter []api.Line to a list of lines. -/
namespace Go.Proofs.YtnpembgchmmbjaaGreat
open Go.ChangeShapes Go.WideShapes Go.ChangeAt Go.RowKit

section
variable {H : Type} {enc : TypeId × Value → H} {P : Program} {w : World} {sp : Nat → Bool} {held : Bool}
theorem add_none (b off i : Nat) : (⟨b, off, none⟩ : Addr).add i = ⟨b, off + i, none⟩ := by unfold Addr.add; split <;> simp_all
/-- the number that a cell holds -/
def numOfC : Option Value → Int
  | some (.int _ z) => z
  | _ => 0
theorem at1 {cs : List Value} {o : Nat} {v : Value} (h : (cs.drop o).take 1 = [v]) : cs[o]? = some v := by
  have := congrArg (·[0]?) h
  simpa [List.getElem?_take, List.getElem?_drop] using this
theorem str_back (s : ByteArray) : str s.data.toList = s := by
  obtain ⟨⟨l⟩⟩ := s
  rfl
theorem cells_int : Tryz.prog.cellsOf 3 = 1 := by kernel_rfl
theorem cells_string : Tryz.prog.cellsOf 9 = 1 := by kernel_rfl
theorem cells_uint64 : Tryz.prog.cellsOf 32 = 1 := by kernel_rfl
theorem cells_uint32 : Tryz.prog.cellsOf 33 = 1 := by kernel_rfl
theorem cells_ints : Tryz.prog.cellsOf 34 = 1 := by kernel_rfl
theorem cells_uints : Tryz.prog.cellsOf 35 = 1 := by kernel_rfl
theorem cells_line : Tryz.prog.cellsOf 37 = 17 := by kernel_rfl
end
end Go.Proofs.YtnpembgchmmbjaaGreat

