/- XDoKeeps; XTxRow; XNwLine -/
import Derived.Test.YtkpbbfehglihlaaGreatDoorDu35
import Derived.Test.YtkpbbfehglihlaaGreatDoorDu34
import Derived.Test.YtkpbbfehglihlaaGreatDoorDu33
import Derived.Test.YtkpbbfehglihlaaGreatDoorDu38
import Derived.Test.YtkpbbfehglihlaaGreatDoorDu37
import Derived.Test.YtkpbbfehglihlaaGreatDoorDu26
import Derived.Test.YtkpbbfehglihlaaGreatDoorDu03
import Derived.Test.YtkpbbfehglihlaaGreatDoorDu18
import Derived.Test.YtkpbbfehglihlaaGreatDoorDu01
import Derived.Test.YtkpbbfehglihlaaGreatDoorDu31
import Derived.ProofKit
import Derived.Deep.Slices
/- The walk of DomainsKeeps. (Made by mk-dokeeps.py.) -/
namespace Go.Proofs.YtkpbbfehglihlaaGreatDoor
open Go.RowKit

set_option maxRecDepth 40000 in
set_option maxHeartbeats 40000000 in
theorem dkeeps_walk (N : NV) (S : NSl3) (L : LV) (s1 s2 s3 s4 : SlV) (w : World) (h : NRead w (allB w) N S) (hl : LRead w L s1 s2 s3 s4) (hm : NmSz N) (hw : LvW L) (hp : LdP w) : Calls Tryz.prog 5 #[netV S, lineV L s1 s2 s3 s4] w fun e w' => e = .returned (.bool true) ∧ Below w.heap.size w w' := by
  have UP := Lib.hid (fun (w' : World) (hb : Below w.heap.size w w') => h.up hb)
  have UL := Lib.hid (fun (w' : World) (hb : Below w.heap.size w w') => lread_below hl hb)
  have HM := Lib.hid hm
  have HW := Lib.hid hw
  have HP := Lib.hid (fun (w' : World) (hb : Below w.heap.size w w') => hp.below hb)
  have NN := Lib.hid (show N.devices.length = S.dv.n ∧ N.ports.length = S.pt.n ∧ N.statics.length = S.st.n from ⟨h.dv.len, h.pt.len, h.st.len⟩)
  have lekn := h.st.le
  have capk := h.st.cap
  have U1_ := Lib.hid (fun (w' : World) (hb : Below w.heap.size w w') => h.up hb)
  have L1_ := Lib.hid (fun (w' : World) (hb : Below w.heap.size w w') => lread_below hl hb)
  have G1 := fun (w' : World) (hb : Below w.heap.size w w') => ngreat_any N S w' (h.up hb)
  unfold GotNG netV at G1
  replace G1 := Lib.hid G1
  clear hm hw hp
  clear h hl
  unfold netV
  rw [line_agg]
  go_enter Tryz.func5, Tryz.ntmps5
  go_upto_region 1 with fail
  generalize hw1 : World.alloc _ _ = w1
  obtain ⟨B1, NB, LB, ql1⟩ := pre_two (S := S) (L := L) (s1 := s1) (s2 := s2) (s3 := s3) (s4 := s4) hw1
  clear hw1
  replace B1 := Lib.hid B1; replace NB := Lib.hid NB; replace LB := Lib.hid LB
  have KN := Lib.hid (show ∀ wx, Below w1.heap.size w1 wx → NF wx w.heap.size S ∧ (wx.cell? ⟨w.heap.size + 1, 2, none⟩ = some (.string (str L.dev)) ∧ wx.cell? ⟨w.heap.size + 1, 3, none⟩ = some (.string (str L.port)) ∧ wx.cell? ⟨w.heap.size + 1, 7, none⟩ = some (.int .u64 L.mac) ∧ wx.cell? ⟨w.heap.size + 1, 10, none⟩ = some (.int .i64 L.vlan)) ∧ BoxF wx (w.heap.size + 1) 17 (lc L s1 s2 s3 s4) ∧ NRead wx (allB wx) N S ∧ LRead wx L s1 s2 s3 s4 ∧ Below w.heap.size w wx from fun wx hx => by
    have nb := NB.out.below hx
    have bx := LB.out.below (by omega) hx
    have b0 := B1.out.trans (hx.mono B1.out.size)
    exact ⟨⟨nb.c0, nb.c1, nb.c2, nb.c3, nb.c4, nb.c5, nb.c6, nb.c7⟩, ⟨bx.cell 2 (by omega), bx.cell 3 (by omega), bx.cell 7 (by omega), bx.cell 10 (by omega)⟩, bx, UP.out _ b0, UL.out _ b0, b0⟩)
  have BS := Lib.hid (Below.refl w1.heap.size w1)
  obtain ⟨⟨f0, f1, f2, f3, f4, f5, f6, f7⟩, ⟨g2, g3, g7, g10⟩, lb_, _⟩ := KN.out w1 (Below.refl _ _)
  by_cases l0_ : 300 < L.dev.length
  · have y0_ : (L.dev.length : Int) > 300 := by omega
    clear l0_
    go_wp2_with (first | (go_at_call 7; (with_reducible refine (works18_any _ (HP.out _ B1.out)).mono ?_); rintro e w2 ⟨rfl, b_⟩; have Y2 := Lib.hid b_; have X2 := Lib.hid (trans_below B1.out b_); obtain ⟨⟨f0, f1, f2, f3, f4, f5, f6, f7⟩, ⟨g2, g3, g7, g10⟩, lb_, _⟩ := KN.out _ Y2.out; clear b_) | (go_at_call 11; (with_reducible refine (G1.out _ X2.out).mono ?_); rintro e w3 ⟨g, rfl, hg, b_⟩; have Y3 := Lib.hid (trans_below Y2.out b_); have X3 := Lib.hid (trans_below X2.out b_); have HG := Lib.hid hg; obtain ⟨⟨f0, f1, f2, f3, f4, f5, f6, f7⟩, ⟨g2, g3, g7, g10⟩, lb_, _⟩ := KN.out _ Y3.out; clear hg b_; cases g))
    all_goals go_wp2
    all_goals go_ret
    all_goals exact ⟨by first | rfl | simp, X3.out⟩
  have y0_ : ¬ (L.dev.length : Int) > 300 := by omega
  by_cases l1_ : 300 < L.port.length
  · have y1_ : (L.port.length : Int) > 300 := by omega
    clear l1_
    go_wp2_with (first | (go_at_call 7; (with_reducible refine (works18_any _ (HP.out _ B1.out)).mono ?_); rintro e w2 ⟨rfl, b_⟩; have Y2 := Lib.hid b_; have X2 := Lib.hid (trans_below B1.out b_); obtain ⟨⟨f0, f1, f2, f3, f4, f5, f6, f7⟩, ⟨g2, g3, g7, g10⟩, lb_, _⟩ := KN.out _ Y2.out; clear b_) | (go_at_call 11; (with_reducible refine (G1.out _ X2.out).mono ?_); rintro e w3 ⟨g, rfl, hg, b_⟩; have Y3 := Lib.hid (trans_below Y2.out b_); have X3 := Lib.hid (trans_below X2.out b_); have HG := Lib.hid hg; obtain ⟨⟨f0, f1, f2, f3, f4, f5, f6, f7⟩, ⟨g2, g3, g7, g10⟩, lb_, _⟩ := KN.out _ Y3.out; clear hg b_; cases g))
    all_goals go_wp2
    all_goals go_ret
    all_goals exact ⟨by first | rfl | simp, X3.out⟩
  have y1_ : ¬ (L.port.length : Int) > 300 := by omega
  have HT := Lib.hid (show L.dev.length ≤ 300 ∧ L.port.length ≤ 300 from by omega)
  clear l0_ l1_
  go_upto_region 5 with (first | (go_at_call 7; (with_reducible refine (works18_any _ (HP.out _ B1.out)).mono ?_); rintro e w2 ⟨rfl, b_⟩; have Y2 := Lib.hid b_; have X2 := Lib.hid (trans_below B1.out b_); obtain ⟨⟨f0, f1, f2, f3, f4, f5, f6, f7⟩, ⟨g2, g3, g7, g10⟩, lb_, _⟩ := KN.out _ Y2.out; clear b_) | (go_at_call 11; (with_reducible refine (G1.out _ X2.out).mono ?_); rintro e w3 ⟨g, rfl, hg, b_⟩; have Y3 := Lib.hid (trans_below Y2.out b_); have X3 := Lib.hid (trans_below X2.out b_); have HG := Lib.hid hg; obtain ⟨⟨f0, f1, f2, f3, f4, f5, f6, f7⟩, ⟨g2, g3, g7, g10⟩, lb_, _⟩ := KN.out _ Y3.out; clear hg b_; cases g))
  rotate_left
  · go_wp2
    go_ret
    exact ⟨by first | rfl | simp, X3.out⟩
  clear y0_ y1_
  have SZ := HG.out (by simp)
  have ZN := Lib.hid SZ
  have PD := fun (w' : World) (hb : Below w.heap.size w w') => cstatic_any N S L s1 s2 s3 s4 w' (U1_.out _ hb) (L1_.out _ hb) SZ HM.out (by have := HT.out; omega) HW.out.mac
  obtain ⟨ND, hND⟩ : ∃ v, doN N L = v := ⟨_, rfl⟩
  obtain ⟨ED, hED⟩ : ∃ v, doE N L = v := ⟨_, rfl⟩
  rw [hND, hED] at PD
  unfold GotPut netV at PD
  replace PD := Lib.hid PD
  have HND := Lib.hid hND
  have HED := Lib.hid hED
  have XS := Lib.hid (fun (M : NV) (A B : NSl3) (w' : World) (ha : NRead w' (allB w') M A) (hb : NRead w' (allB w') M B) (hz : NvSz M) => show Calls Tryz.prog 20 #[netV A, netV B] w' (fun e w'' => e = .returned (.bool true) ∧ Below w'.heap.size w' w'') from by have := xnsame_any M M A B w' ha hb hz hz; rw [nsmB_yes rfl] at this; exact this)
  have XR := Lib.hid (fun (M : NV) (A : NSl3) (w' : World) (ha : NRead w' (allB w') M A) (hz : NvSz M) (hn : NetOk M) => show Calls Tryz.prog 23 #[netV A] w' (fun e w'' => e = .returned (.bool true) ∧ Below w'.heap.size w' w'') from by have := xnright_any M A w' ha hz; rw [netB_yes hn] at this; exact this)
  have XL := Lib.hid (fun (M : NV) (A : NSl3) (d m : Int) (w' : World) (ha : NRead w' (allB w') M A) (hz : NvSz M) (hn : NetOk M) => show Calls Tryz.prog 12 #[netV A, .int .i64 d, .int .u64 m] w' (fun e w'' => e = .returned (.int .i64 (lkF M d m)) ∧ Below w'.heap.size w' w'') from by have := xlook_any M A d m w' ha hz; rw [lkX_ok hn] at this; exact this)
  have XC := Lib.hid (fun (M : NV) (A : NSl3) (w0 w' : World) (ha : NRead w0 (allB w0) M A) (hb : Below w0.heap.size w0 w') (hz : NvSz M) => show Calls Tryz.prog 24 #[netV A] w' (fun e w'' => ∃ U, e = .returned (netV U) ∧ NOwn w'' w'.heap.size (allB w0) M U ∧ Below w'.heap.size w' w'') from (rcopy_any (allB w0) M A w' (ha.keep (F' := allB w0) (fun b g => hb.block b g) (fun _ g => g)) (fun b g => Nat.lt_of_lt_of_le g hb.size) hz).mono fun e w'' ⟨U, e1, e2, e3⟩ => ⟨U, e1, e2, e3⟩)
  have SA := Lib.hid (fun (M : NV) (A : NSl3) (d v : Int) (w' : World) (ha : NRead w' (allB w') M A) (hz : NvSz M) (hn : NetOk M) => xndomain_any M A d v w' ha hz hn)
  have SD := Lib.hid (fun (M : NV) (A : NSl3) (s : List UInt8) (w' : World) (ha : NRead w' (allB w') M A) (hz : NvSz M) (hn : NetOk M) (hs : s.length ≤ 300) => xndevice_any M A s w' ha hz hn (by omega))
  unfold netV at XS XR XL XC SA SD
  clear hND hED SZ HG G1
  go_upto_region 6 with (first
    | ((with_reducible refine wpList_lineOf ?hg (.tmp 3) ?ho (w.heap.size + 1) ?hx L s1 s2 s3 s4 lb_ ?_); (case hg => rfl); (case ho => rfl); (case hx => rfl))
    | (go_at_call 8; (refine (PD.out _ X3.out).mono ?_); rintro e w4 ⟨Ua, rfl, hr, hb⟩; have Y4 := Lib.hid (trans_below Y3.out hb); have X4 := Lib.hid (trans_below X3.out hb); have R_Ua := Lib.hid hr; clear hr; skip; clear hb))
  clear f0 f1 f2 f3 f4 f5 f6 f7 g2 g3 g7 g10 lb_
  obtain ⟨w5, hw5⟩ : ∃ w5, w4.alloc (.cells #[.slice Ua.dv.A Ua.dv.n Ua.dv.c, .slice Ua.pt.A Ua.pt.n Ua.pt.c, .slice Ua.lk.A Ua.lk.n Ua.lk.c, .slice Ua.dm.A Ua.dm.n Ua.dm.c, .slice Ua.st.A Ua.st.n Ua.st.c, .slice Ua.fl.A Ua.fl.n Ua.fl.c, .slice Ua.vr.A Ua.vr.n Ua.vr.c, .slice Ua.ir.A Ua.ir.n Ua.ir.c] 31) = w5 := ⟨_, rfl⟩
  have A_ : Below w4.heap.size w4 w5 := by rw [← hw5]; exact alloc_below _ _
  obtain ⟨qUa, hqUa⟩ : ∃ q, w4.heap.size = q := ⟨_, rfl⟩
  have NB_Ua := Lib.hid (show NBox w5 qUa Ua by rw [← hw5, ← hqUa]; exact NBox.new _ _ _)
  have N_Ua := Lib.hid (R_Ua.out.up A_)
  have Y5 := Lib.hid (trans_below Y4.out A_)
  have X5 := Lib.hid (trans_below X4.out A_)
  have Z_Ua := Lib.hid (Below.refl w5.heap.size w5)
  have TQ_Ua := Lib.hid (show TBx w5 qUa 31 (netC Ua) by rw [← hw5, ← hqUa]; exact TBx.new w4 _ _)
  have HQ_Ua := Lib.hid hqUa
  have BA_Ua := Lib.hid A_
  rw [hw5, hqUa]
  clear hw5 hqUa A_
  obtain ⟨⟨f0, f1, f2, f3, f4, f5, f6, f7⟩, ⟨g2, g3, g7, g10⟩, lb_, _⟩ := KN.out _ Y5.out
  have nb_ := NB_Ua.out.below Z_Ua.out
  have la := nb_.lt
  obtain ⟨a0, a1, a2, a3, a4, a5, a6, a7⟩ : w5.cell? ⟨qUa, 0, none⟩ = some (.slice Ua.dv.A Ua.dv.n Ua.dv.c) ∧ w5.cell? ⟨qUa, 1, none⟩ = some (.slice Ua.pt.A Ua.pt.n Ua.pt.c) ∧ w5.cell? ⟨qUa, 2, none⟩ = some (.slice Ua.lk.A Ua.lk.n Ua.lk.c) ∧ w5.cell? ⟨qUa, 3, none⟩ = some (.slice Ua.dm.A Ua.dm.n Ua.dm.c) ∧ w5.cell? ⟨qUa, 4, none⟩ = some (.slice Ua.st.A Ua.st.n Ua.st.c) ∧ w5.cell? ⟨qUa, 5, none⟩ = some (.slice Ua.fl.A Ua.fl.n Ua.fl.c) ∧ w5.cell? ⟨qUa, 6, none⟩ = some (.slice Ua.vr.A Ua.vr.n Ua.vr.c) ∧ w5.cell? ⟨qUa, 7, none⟩ = some (.slice Ua.ir.A Ua.ir.n Ua.ir.c) := ⟨nb_.c0, nb_.c1, nb_.c2, nb_.c3, nb_.c4, nb_.c5, nb_.c6, nb_.c7⟩
  clear nb_
  by_cases hE : ED = 0
  rotate_left
  · have x1 : (ED != 0) = true := by simpa using hE
    have EZ := Lib.hid (show ND = NV.zero by rw [← HND.out]; exact do_no (by rw [HED.out]; exact hE))
    clear hE
    go_wp2_with (go_at_call 20; (refine (XS.out NV.zero Ua NSl3.nil _ (EZ.out ▸ N_Ua.out.up Z_Ua.out) (none_read _) none_sz).mono ?_); rintro e w6 ⟨rfl, hb⟩; have Y6 := Lib.hid (trans_below Y5.out hb); have X6 := Lib.hid (trans_below X5.out hb); have Z_Ua := Lib.hid (trans_below Z_Ua.out hb); skip; clear hb)
    go_ret
    exact ⟨rfl, X6.out⟩
  have x1 : (ED != 0) = false := by simpa using hE
  obtain ⟨_, hn, d, p, ed, ep, hd, hp, hdv, hvl, hnm, hmb, hlk, k64, eN⟩ := do_inv (HED.out.trans hE)
  have EM := Lib.hid (show ND = withStat N L.row d p L.mac from HND.out.symm.trans eN)
  have OKM := Lib.hid (withStat_ok L.row L.mac hn hd hp hdv (by rw [hvl]; exact hmb) k64)
  have ZM := Lib.hid (ws_sz L.row d p L.mac ZN.out k64)
  have LM := ws_lk hn L.row d p L.mac hlk
  have AM := show atF (withStat N L.row d p L.mac) (dvF (withStat N L.row d p L.mac) L.dev) L.vlan = (d : Int) from ed
  have HA := Lib.hid (show p < S.pt.n by have := NN.out.2.1; omega)
  have NM := Lib.hid (show NRead w5 (allB w5) (withStat N L.row d p L.mac) Ua from EM.out ▸ N_Ua.out.up Z_Ua.out)
  have up1 : Ua.pt.n = S.pt.n := by have := NM.out.pt.len; have := NN.out.2.1; have e : (withStat N L.row d p L.mac).ports.length = N.ports.length := rfl; omega
  have uk1 : Ua.st.n = S.st.n + 1 := by have := NM.out.st.len; have := NN.out.2.2; have := ws_len N L.row d p L.mac; omega
  have bsk : S.st.n ≤ 63 := by have := NN.out.2.2; omega
  have LC := Lib.hid (fun (w' : World) (F : Nat → Prop) (U : NSl3) (h : NRead w' F (withStat N L.row d p L.mac) U) => stat_cut h)
  have UK := Lib.hid uk1
  have UP1 := Lib.hid up1
  have WP := Lib.hid (show (withStat N L.row d p L.mac).ports = N.ports from rfl)
  have WL := Lib.hid (ws_len N L.row d p L.mac)
  have HMB := Lib.hid hmb
  have HNM := Lib.hid hnm
  clear hE hn hd hp hdv hvl hnm hmb hlk k64 eN ed ep uk1 up1
  obtain ⟨M, hM⟩ : ∃ M, withStat N L.row d p L.mac = M := ⟨_, rfl⟩
  have HMM := Lib.hid hM
  rw [hM] at LM AM
  have LM := Lib.hid LM
  replace NM := Lib.hid (hM ▸ NM.out)
  replace OKM := Lib.hid (hM ▸ OKM.out)
  replace ZM := Lib.hid (hM ▸ ZM.out)
  replace WP := Lib.hid (show M.ports = N.ports from hM ▸ WP.out)
  replace WL := Lib.hid (show M.statics.length = N.statics.length + 1 from hM ▸ WL.out)
  clear hM
  obtain ⟨dv, hdv⟩ : ∃ v, dvF M L.dev = v := ⟨_, rfl⟩
  have HDV := Lib.hid hdv
  rw [hdv] at AM
  have AM := Lib.hid AM
  clear hdv
  go_upto_region 8 with fail
  go_upto_region 9 with (go_at_call 21; (refine (HDV.out ▸ SD.out M Ua L.dev _ (NM.out.up Z_Ua.out) ZM.out OKM.out HT.out.1).mono ?_); rintro e w6 ⟨rfl, hb⟩; have Y6 := Lib.hid (trans_below Y5.out hb); have X6 := Lib.hid (trans_below X5.out hb); have Z_Ua := Lib.hid (trans_below Z_Ua.out hb); clear f0 f1 f2 f3 f4 f5 f6 f7 g2 g3 g7 g10 lb_ la a0 a1 a2 a3 a4 a5 a6 a7; obtain ⟨⟨f0, f1, f2, f3, f4, f5, f6, f7⟩, ⟨g2, g3, g7, g10⟩, lb_, _⟩ := KN.out _ Y6.out; have nb_ := NB_Ua.out.below Z_Ua.out; have la := nb_.lt; obtain ⟨a0, a1, a2, a3, a4, a5, a6, a7⟩ : w6.cell? ⟨qUa, 0, none⟩ = some (.slice Ua.dv.A Ua.dv.n Ua.dv.c) ∧ w6.cell? ⟨qUa, 1, none⟩ = some (.slice Ua.pt.A Ua.pt.n Ua.pt.c) ∧ w6.cell? ⟨qUa, 2, none⟩ = some (.slice Ua.lk.A Ua.lk.n Ua.lk.c) ∧ w6.cell? ⟨qUa, 3, none⟩ = some (.slice Ua.dm.A Ua.dm.n Ua.dm.c) ∧ w6.cell? ⟨qUa, 4, none⟩ = some (.slice Ua.st.A Ua.st.n Ua.st.c) ∧ w6.cell? ⟨qUa, 5, none⟩ = some (.slice Ua.fl.A Ua.fl.n Ua.fl.c) ∧ w6.cell? ⟨qUa, 6, none⟩ = some (.slice Ua.vr.A Ua.vr.n Ua.vr.c) ∧ w6.cell? ⟨qUa, 7, none⟩ = some (.slice Ua.ir.A Ua.ir.n Ua.ir.c) := ⟨nb_.c0, nb_.c1, nb_.c2, nb_.c3, nb_.c4, nb_.c5, nb_.c6, nb_.c7⟩; clear nb_; clear hb)
  have ZK_ := Lib.hid (show Below w5.heap.size w5 w6 from Z_Ua.out)
  have KR_ := Lib.hid (show ∀ wx, Below w6.heap.size w6 wx → (wx.cell? ⟨w.heap.size, 0, none⟩ = some (.slice S.dv.A S.dv.n S.dv.c) ∧ wx.cell? ⟨w.heap.size, 1, none⟩ = some (.slice S.pt.A S.pt.n S.pt.c) ∧ wx.cell? ⟨w.heap.size, 2, none⟩ = some (.slice S.lk.A S.lk.n S.lk.c) ∧ wx.cell? ⟨w.heap.size, 3, none⟩ = some (.slice S.dm.A S.dm.n S.dm.c) ∧ wx.cell? ⟨w.heap.size, 4, none⟩ = some (.slice S.st.A S.st.n S.st.c) ∧ wx.cell? ⟨w.heap.size, 5, none⟩ = some (.slice S.fl.A S.fl.n S.fl.c) ∧ wx.cell? ⟨w.heap.size, 6, none⟩ = some (.slice S.vr.A S.vr.n S.vr.c) ∧ wx.cell? ⟨w.heap.size, 7, none⟩ = some (.slice S.ir.A S.ir.n S.ir.c)) ∧ (wx.cell? ⟨w.heap.size + 1, 2, none⟩ = some (.string (str L.dev)) ∧ wx.cell? ⟨w.heap.size + 1, 3, none⟩ = some (.string (str L.port)) ∧ wx.cell? ⟨w.heap.size + 1, 7, none⟩ = some (.int .u64 L.mac) ∧ wx.cell? ⟨w.heap.size + 1, 10, none⟩ = some (.int .i64 L.vlan)) ∧ w.heap.size + 1 < wx.heap.size ∧ (wx.cell? ⟨qUa, 0, none⟩ = some (.slice Ua.dv.A Ua.dv.n Ua.dv.c) ∧ wx.cell? ⟨qUa, 1, none⟩ = some (.slice Ua.pt.A Ua.pt.n Ua.pt.c) ∧ wx.cell? ⟨qUa, 2, none⟩ = some (.slice Ua.lk.A Ua.lk.n Ua.lk.c) ∧ wx.cell? ⟨qUa, 3, none⟩ = some (.slice Ua.dm.A Ua.dm.n Ua.dm.c) ∧ wx.cell? ⟨qUa, 4, none⟩ = some (.slice Ua.st.A Ua.st.n Ua.st.c) ∧ wx.cell? ⟨qUa, 5, none⟩ = some (.slice Ua.fl.A Ua.fl.n Ua.fl.c) ∧ wx.cell? ⟨qUa, 6, none⟩ = some (.slice Ua.vr.A Ua.vr.n Ua.vr.c) ∧ wx.cell? ⟨qUa, 7, none⟩ = some (.slice Ua.ir.A Ua.ir.n Ua.ir.c)) ∧ qUa < wx.heap.size from fun wx hx => by
      have y_ := trans_below Y6.out hx
      obtain ⟨f_, g_, _⟩ := KN.out _ y_
      have zUa := trans_below Z_Ua.out hx
      have nbUa := NB_Ua.out.below zUa
      exact ⟨f_, g_, (by have := ql1; have := y_.size; omega), ⟨nbUa.c0, nbUa.c1, nbUa.c2, nbUa.c3, nbUa.c4, nbUa.c5, nbUa.c6, nbUa.c7⟩, nbUa.lt⟩)
  clear f0 f1 f2 f3 f4 f5 f6 f7 g2 g3 g7 g10 lb_ la a0 a1 a2 a3 a4 a5 a6 a7
  refine wp_region_text (fun wx => Below w6.heap.size w6 wx) (by kernel_rfl) (by kernel_rfl) ((Below.refl _ _).drew) ?_
  repeat
    first
      | (refine Seq.pass rfl ?_; simp only [Act.put, List.setIfInBounds_toArray, List.set_cons_zero, List.set_cons_succ])
      | (refine Seq.run ?_ rfl (fun wx hx => ?_) ?_
         rotate_left
         · obtain ⟨⟨f0, f1, f2, f3, f4, f5, f6, f7⟩, ⟨g2, g3, g7, g10⟩, ql_, ⟨a0, a1, a2, a3, a4, a5, a6, a7⟩, la⟩ := KR_.out wx hx
           go_simp
           first
             | (refine StepRun.val ?_; exact hx)
             | (refine StepRun.call (v := .int .i64 (d : Int)) ?_; (refine Calls.mono (AM.out ▸ SA.out M Ua dv L.vlan _ (NM.out.up (trans_below ZK_.out hx)) ZM.out OKM.out) ?_); rintro e w' ⟨rfl, hb⟩; exact ⟨rfl, trans_below hx hb⟩)
             | (refine StepRun.call (v := .int .i64 (p : Int)) ?_; (refine Calls.mono (LM.out ▸ XL.out M Ua (d : Int) L.mac _ (NM.out.up (trans_below ZK_.out hx)) ZM.out OKM.out) ?_); rintro e w' ⟨rfl, hb⟩; exact ⟨rfl, trans_below hx hb⟩)
         simp only [Act.put, List.setIfInBounds_toArray, List.set_cons_zero, List.set_cons_succ])
  refine Seq.last (fun w7 hb => ?_)
  have Y7 := Lib.hid (trans_below Y6.out hb)
  have X7 := Lib.hid (trans_below X6.out hb)
  have Z_Ua := Lib.hid (trans_below Z_Ua.out hb)
  clear hb KR_
  obtain ⟨⟨f0, f1, f2, f3, f4, f5, f6, f7⟩, ⟨g2, g3, g7, g10⟩, lb_, _⟩ := KN.out _ Y7.out
  have nb_ := NB_Ua.out.below Z_Ua.out
  have la := nb_.lt
  obtain ⟨a0, a1, a2, a3, a4, a5, a6, a7⟩ : w7.cell? ⟨qUa, 0, none⟩ = some (.slice Ua.dv.A Ua.dv.n Ua.dv.c) ∧ w7.cell? ⟨qUa, 1, none⟩ = some (.slice Ua.pt.A Ua.pt.n Ua.pt.c) ∧ w7.cell? ⟨qUa, 2, none⟩ = some (.slice Ua.lk.A Ua.lk.n Ua.lk.c) ∧ w7.cell? ⟨qUa, 3, none⟩ = some (.slice Ua.dm.A Ua.dm.n Ua.dm.c) ∧ w7.cell? ⟨qUa, 4, none⟩ = some (.slice Ua.st.A Ua.st.n Ua.st.c) ∧ w7.cell? ⟨qUa, 5, none⟩ = some (.slice Ua.fl.A Ua.fl.n Ua.fl.c) ∧ w7.cell? ⟨qUa, 6, none⟩ = some (.slice Ua.vr.A Ua.vr.n Ua.vr.c) ∧ w7.cell? ⟨qUa, 7, none⟩ = some (.slice Ua.ir.A Ua.ir.n Ua.ir.c) := ⟨nb_.c0, nb_.c1, nb_.c2, nb_.c3, nb_.c4, nb_.c5, nb_.c6, nb_.c7⟩
  clear nb_
  have wr_ : IntKind.i64.wrap ((S.st.n : Int) + 1) = (S.st.n : Int) + 1 := IntWalk.i64_in _ (by omega)
  have z2_ : ((Ua.st.n : Int) != (S.st.n : Int) + 1) = false := by rw [UK.out]; simp
  have z3_ : ¬ (p : Int) < 0 := by omega
  have z5_ : ¬ (p : Int) ≥ (Ua.pt.n : Int) := by have := UP1.out; have := HA.out; omega
  have ca_ := NM.out.pt.le
  have cb_ := NM.out.st.le
  go_upto_region 13 with (first
    | (go_at_call 23; (refine (XR.out M Ua _ (NM.out.up (show Below w5.heap.size w5 w7 from Z_Ua.out)) ZM.out OKM.out).mono ?_); rintro e w8 ⟨rfl, hb⟩; have Y8 := Lib.hid (trans_below Y7.out hb); have X8 := Lib.hid (trans_below X7.out hb); have Z_Ua := Lib.hid (trans_below Z_Ua.out hb); have ZK3_ := Z_Ua; clear f0 f1 f2 f3 f4 f5 f6 f7 g2 g3 g7 g10 lb_ la a0 a1 a2 a3 a4 a5 a6 a7; obtain ⟨⟨f0, f1, f2, f3, f4, f5, f6, f7⟩, ⟨g2, g3, g7, g10⟩, lb_, _⟩ := KN.out _ Y8.out; have nb_ := NB_Ua.out.below Z_Ua.out; have la := nb_.lt; obtain ⟨a0, a1, a2, a3, a4, a5, a6, a7⟩ : w8.cell? ⟨qUa, 0, none⟩ = some (.slice Ua.dv.A Ua.dv.n Ua.dv.c) ∧ w8.cell? ⟨qUa, 1, none⟩ = some (.slice Ua.pt.A Ua.pt.n Ua.pt.c) ∧ w8.cell? ⟨qUa, 2, none⟩ = some (.slice Ua.lk.A Ua.lk.n Ua.lk.c) ∧ w8.cell? ⟨qUa, 3, none⟩ = some (.slice Ua.dm.A Ua.dm.n Ua.dm.c) ∧ w8.cell? ⟨qUa, 4, none⟩ = some (.slice Ua.st.A Ua.st.n Ua.st.c) ∧ w8.cell? ⟨qUa, 5, none⟩ = some (.slice Ua.fl.A Ua.fl.n Ua.fl.c) ∧ w8.cell? ⟨qUa, 6, none⟩ = some (.slice Ua.vr.A Ua.vr.n Ua.vr.c) ∧ w8.cell? ⟨qUa, 7, none⟩ = some (.slice Ua.ir.A Ua.ir.n Ua.ir.c) := ⟨nb_.c0, nb_.c1, nb_.c2, nb_.c3, nb_.c4, nb_.c5, nb_.c6, nb_.c7⟩; clear nb_; clear hb)
    | (go_at_call 24; (refine (XC.out M Ua w5 _ NM.out (show Below w5.heap.size w5 w8 from Z_Ua.out) ZM.out).mono ?_); rintro e w9 ⟨Uy, rfl, hr, hb⟩; have Y9 := Lib.hid (trans_below Y8.out hb); have X9 := Lib.hid (trans_below X8.out hb); have Z_Ua := Lib.hid (trans_below Z_Ua.out hb); have R_Uy := Lib.hid hr; have HB_ := Lib.hid hb; clear hr; skip; clear hb))
  clear f0 f1 f2 f3 f4 f5 f6 f7 g2 g3 g7 g10 lb_ la a0 a1 a2 a3 a4 a5 a6 a7
  obtain ⟨w10, hw_⟩ : ∃ w, w9.alloc (.cells (nA Uy) 31) = w := ⟨_, rfl⟩
  have A_ : Below w9.heap.size w9 w10 := by rw [← hw_]; exact alloc_below _ _
  have OY := Lib.hid (R_Uy.out.up A_)
  obtain ⟨qUc, hq_⟩ : ∃ q, w9.heap.size = q := ⟨_, rfl⟩
  have TQ_ := Lib.hid (show TBx w10 qUc 31 (netC Uy) by rw [← hw_, ← hq_]; exact TBx.new w9 _ _)
  have BF := Lib.hid (trans_below HB_.out A_)
  have HQ_ := Lib.hid (show w8.heap.size ≤ qUc by rw [← hq_]; exact HB_.out.size)
  rw [hw_, hq_]
  clear hw_ hq_ A_ R_Uy HB_
  have y_ := trans_below Y8.out BF.out
  obtain ⟨⟨_, _, _, _, f4, _⟩, _⟩ := KN.out _ y_
  have ql_ : w.heap.size + 1 < w10.heap.size := by have := ql1; have := y_.size; omega
  have t4 := TQ_.out.cell 4 (.slice Uy.st.A Uy.st.n Uy.st.c) rfl
  have z4 := TQ_.out.live 4
  have lt_ := TQ_.out.lt
  have e_ : S.st.n ≤ Uy.st.n := by have := OY.out.st.len; have := NM.out.st.len; have := UK.out; omega
  have c_ := OY.out.st.le
  unfold maxLen at c_
  obtain ⟨c1_, c2_⟩ := c_
  go_upto_region 14 with fail
  clear f4 y_ ql_ t4 z4 lt_ e_ c1_ c2_
  generalize hw_ : World.setCell _ _ _ = w11
  obtain ⟨Uc, hc_⟩ : ∃ X : NSl3, ({ Uy with st := ⟨Uy.st.A, S.st.n, Uy.st.c⟩ } : NSl3) = X := ⟨_, rfl⟩
  have FF := show ∀ b, allB w5 b → b < w8.heap.size from fun b g => Nat.lt_of_lt_of_le g ZK3_.out.size
  have O13 := Lib.hid (show NOwn w11 w8.heap.size (allB w5) M Uy by rw [← hw_]; exact OY.out.box (TQ_.out.chgT HQ_.out 4 _) isb_net FF)
  replace TQ_ := Lib.hid (show TBx w11 qUc 31 (netC Uc) by rw [← hw_, ← hc_]; exact TQ_.out.set 4 _)
  replace BF := Lib.hid (show Below w8.heap.size w8 w11 by rw [← hw_]; exact BF.out.setCell (p := ⟨qUc, 4, none⟩) HQ_.out _)
  have N_Uc := Lib.hid (show NRead w11 (allB w11) N Uc from by
    have e := O13.out.read
    rw [← HMM.out] at e
    have e := LC.out _ _ _ e
    rw [NN.out.2.2, hc_] at e
    exact e)
  have NB_Uc := Lib.hid (show NBox w11 qUc Uc from ⟨TQ_.out.cell 0 _ rfl, TQ_.out.cell 1 _ rfl, TQ_.out.cell 2 _ rfl, TQ_.out.cell 3 _ rfl, TQ_.out.cell 4 _ rfl, TQ_.out.cell 5 _ rfl, TQ_.out.cell 6 _ rfl, TQ_.out.cell 7 _ rfl, TQ_.out.lt⟩)
  clear hw_ hc_ OY FF O13 TQ_ HQ_
  have Y11 := Lib.hid (trans_below Y8.out BF.out)
  have X11 := Lib.hid (trans_below X8.out BF.out)
  have Z_Ua := Lib.hid (trans_below ZK3_.out BF.out)
  have Z_Uc := Lib.hid (Below.refl w11.heap.size w11)
  obtain ⟨bp, op, vp, ep_, _, hbp, ⟨t, rfl, lp⟩, rp⟩ := rsl_at NM.out.pt p (by have := UP1.out; have := HA.out; omega) PortV.zero
  rw [WP.out] at lp rp
  have HNM2 := HNM.out
  have HMB2 := HMB.out
  generalize N.ports.getD p PortV.zero = Q at *
  have EP_ := Lib.hid ep_
  have MB := Lib.hid (fun (w' : World) (hb : Below w5.heap.size w5 w') => show Calls Tryz.prog 25 #[.agg #[.int .i64 Q.row, .int .i64 Q.dev, .int .i64 Q.native, .int .i64 Q.cost, .int .i64 Q.link, .string (str Q.name), .slice t.A t.n t.c], .int .i64 L.vlan] w' (fun e w2 => e = .returned (.bool true) ∧ Below w'.heap.size w' w2) from HMB2 ▸ member_any2 Q t L.vlan w' (allB w') (fun _ h => h) (up_rsl lp hb))
  have KT := Lib.hid (show ∀ wx, Below w11.heap.size w11 wx → wx.cell? ⟨bp, op + p * 7, none⟩ = some (.int .i64 Q.row) ∧ wx.cell? ⟨bp, op + p * 7 + 1, none⟩ = some (.int .i64 Q.dev) ∧ wx.cell? ⟨bp, op + p * 7 + 2, none⟩ = some (.int .i64 Q.native) ∧ wx.cell? ⟨bp, op + p * 7 + 3, none⟩ = some (.int .i64 Q.cost) ∧ wx.cell? ⟨bp, op + p * 7 + 4, none⟩ = some (.int .i64 Q.link) ∧ wx.cell? ⟨bp, op + p * 7 + 5, none⟩ = some (.string (str Q.name)) ∧ wx.cell? ⟨bp, op + p * 7 + 6, none⟩ = some (.slice t.A t.n t.c) from fun wx hx => by
    have r := rangeAt_keep rp ((trans_below Z_Ua.out hx).block bp hbp)
    exact ⟨r 0 _ rfl, r 1 _ rfl, r 2 _ rfl, r 3 _ rfl, r 4 _ rfl, r 5 _ rfl, r 6 _ rfl⟩)
  have lp_ : (p : Int) < (Ua.pt.n : Int) := by have := UP1.out; have := HA.out; omega
  have xq_ : (Q.name == L.port) = true := by simpa using HNM2
  clear lp rp ep_ HMB2 HNM2
  obtain ⟨⟨f0, f1, f2, f3, f4, f5, f6, f7⟩, ⟨g2, g3, g7, g10⟩, lb_, _⟩ := KN.out _ Y11.out
  have nb_ := NB_Ua.out.below Z_Ua.out
  have la := nb_.lt
  obtain ⟨a0, a1, a2, a3, a4, a5, a6, a7⟩ : w11.cell? ⟨qUa, 0, none⟩ = some (.slice Ua.dv.A Ua.dv.n Ua.dv.c) ∧ w11.cell? ⟨qUa, 1, none⟩ = some (.slice Ua.pt.A Ua.pt.n Ua.pt.c) ∧ w11.cell? ⟨qUa, 2, none⟩ = some (.slice Ua.lk.A Ua.lk.n Ua.lk.c) ∧ w11.cell? ⟨qUa, 3, none⟩ = some (.slice Ua.dm.A Ua.dm.n Ua.dm.c) ∧ w11.cell? ⟨qUa, 4, none⟩ = some (.slice Ua.st.A Ua.st.n Ua.st.c) ∧ w11.cell? ⟨qUa, 5, none⟩ = some (.slice Ua.fl.A Ua.fl.n Ua.fl.c) ∧ w11.cell? ⟨qUa, 6, none⟩ = some (.slice Ua.vr.A Ua.vr.n Ua.vr.c) ∧ w11.cell? ⟨qUa, 7, none⟩ = some (.slice Ua.ir.A Ua.ir.n Ua.ir.c) := ⟨nb_.c0, nb_.c1, nb_.c2, nb_.c3, nb_.c4, nb_.c5, nb_.c6, nb_.c7⟩
  clear nb_
  have nb_ := NB_Uc.out.below Z_Uc.out
  have lc := nb_.lt
  obtain ⟨c0, c1, c2, c3, c4, c5, c6, c7⟩ : w11.cell? ⟨qUc, 0, none⟩ = some (.slice Uc.dv.A Uc.dv.n Uc.dv.c) ∧ w11.cell? ⟨qUc, 1, none⟩ = some (.slice Uc.pt.A Uc.pt.n Uc.pt.c) ∧ w11.cell? ⟨qUc, 2, none⟩ = some (.slice Uc.lk.A Uc.lk.n Uc.lk.c) ∧ w11.cell? ⟨qUc, 3, none⟩ = some (.slice Uc.dm.A Uc.dm.n Uc.dm.c) ∧ w11.cell? ⟨qUc, 4, none⟩ = some (.slice Uc.st.A Uc.st.n Uc.st.c) ∧ w11.cell? ⟨qUc, 5, none⟩ = some (.slice Uc.fl.A Uc.fl.n Uc.fl.c) ∧ w11.cell? ⟨qUc, 6, none⟩ = some (.slice Uc.vr.A Uc.vr.n Uc.vr.c) ∧ w11.cell? ⟨qUc, 7, none⟩ = some (.slice Uc.ir.A Uc.ir.n Uc.ir.c) := ⟨nb_.c0, nb_.c1, nb_.c2, nb_.c3, nb_.c4, nb_.c5, nb_.c6, nb_.c7⟩
  clear nb_
  have ZW_ := Lib.hid (show Below w5.heap.size w5 w11 from Z_Ua.out)
  have KR_ := Lib.hid (show ∀ wx, Below w11.heap.size w11 wx → (wx.cell? ⟨w.heap.size, 0, none⟩ = some (.slice S.dv.A S.dv.n S.dv.c) ∧ wx.cell? ⟨w.heap.size, 1, none⟩ = some (.slice S.pt.A S.pt.n S.pt.c) ∧ wx.cell? ⟨w.heap.size, 2, none⟩ = some (.slice S.lk.A S.lk.n S.lk.c) ∧ wx.cell? ⟨w.heap.size, 3, none⟩ = some (.slice S.dm.A S.dm.n S.dm.c) ∧ wx.cell? ⟨w.heap.size, 4, none⟩ = some (.slice S.st.A S.st.n S.st.c) ∧ wx.cell? ⟨w.heap.size, 5, none⟩ = some (.slice S.fl.A S.fl.n S.fl.c) ∧ wx.cell? ⟨w.heap.size, 6, none⟩ = some (.slice S.vr.A S.vr.n S.vr.c) ∧ wx.cell? ⟨w.heap.size, 7, none⟩ = some (.slice S.ir.A S.ir.n S.ir.c)) ∧ (wx.cell? ⟨w.heap.size + 1, 2, none⟩ = some (.string (str L.dev)) ∧ wx.cell? ⟨w.heap.size + 1, 3, none⟩ = some (.string (str L.port)) ∧ wx.cell? ⟨w.heap.size + 1, 7, none⟩ = some (.int .u64 L.mac) ∧ wx.cell? ⟨w.heap.size + 1, 10, none⟩ = some (.int .i64 L.vlan)) ∧ w.heap.size + 1 < wx.heap.size ∧ (wx.cell? ⟨qUa, 0, none⟩ = some (.slice Ua.dv.A Ua.dv.n Ua.dv.c) ∧ wx.cell? ⟨qUa, 1, none⟩ = some (.slice Ua.pt.A Ua.pt.n Ua.pt.c) ∧ wx.cell? ⟨qUa, 2, none⟩ = some (.slice Ua.lk.A Ua.lk.n Ua.lk.c) ∧ wx.cell? ⟨qUa, 3, none⟩ = some (.slice Ua.dm.A Ua.dm.n Ua.dm.c) ∧ wx.cell? ⟨qUa, 4, none⟩ = some (.slice Ua.st.A Ua.st.n Ua.st.c) ∧ wx.cell? ⟨qUa, 5, none⟩ = some (.slice Ua.fl.A Ua.fl.n Ua.fl.c) ∧ wx.cell? ⟨qUa, 6, none⟩ = some (.slice Ua.vr.A Ua.vr.n Ua.vr.c) ∧ wx.cell? ⟨qUa, 7, none⟩ = some (.slice Ua.ir.A Ua.ir.n Ua.ir.c)) ∧ qUa < wx.heap.size ∧ (wx.cell? ⟨qUc, 0, none⟩ = some (.slice Uc.dv.A Uc.dv.n Uc.dv.c) ∧ wx.cell? ⟨qUc, 1, none⟩ = some (.slice Uc.pt.A Uc.pt.n Uc.pt.c) ∧ wx.cell? ⟨qUc, 2, none⟩ = some (.slice Uc.lk.A Uc.lk.n Uc.lk.c) ∧ wx.cell? ⟨qUc, 3, none⟩ = some (.slice Uc.dm.A Uc.dm.n Uc.dm.c) ∧ wx.cell? ⟨qUc, 4, none⟩ = some (.slice Uc.st.A Uc.st.n Uc.st.c) ∧ wx.cell? ⟨qUc, 5, none⟩ = some (.slice Uc.fl.A Uc.fl.n Uc.fl.c) ∧ wx.cell? ⟨qUc, 6, none⟩ = some (.slice Uc.vr.A Uc.vr.n Uc.vr.c) ∧ wx.cell? ⟨qUc, 7, none⟩ = some (.slice Uc.ir.A Uc.ir.n Uc.ir.c)) ∧ qUc < wx.heap.size from fun wx hx => by
      have y_ := trans_below Y11.out hx
      obtain ⟨f_, g_, _⟩ := KN.out _ y_
      have zUa := trans_below Z_Ua.out hx
      have nbUa := NB_Ua.out.below zUa
      have zUc := trans_below Z_Uc.out hx
      have nbUc := NB_Uc.out.below zUc
      exact ⟨f_, g_, (by have := ql1; have := y_.size; omega), ⟨nbUa.c0, nbUa.c1, nbUa.c2, nbUa.c3, nbUa.c4, nbUa.c5, nbUa.c6, nbUa.c7⟩, nbUa.lt, ⟨nbUc.c0, nbUc.c1, nbUc.c2, nbUc.c3, nbUc.c4, nbUc.c5, nbUc.c6, nbUc.c7⟩, nbUc.lt⟩)
  clear f0 f1 f2 f3 f4 f5 f6 f7 g2 g3 g7 g10 lb_ la a0 a1 a2 a3 a4 a5 a6 a7 lc c0 c1 c2 c3 c4 c5 c6 c7
  refine wp_region_text (fun wx => Below w11.heap.size w11 wx) (by kernel_rfl) (by kernel_rfl) ((Below.refl _ _).drew) ?_
  repeat
    first
      | (refine Seq.pass rfl ?_; simp only [Act.put, List.setIfInBounds_toArray, List.set_cons_zero, List.set_cons_succ])
      | (refine Seq.run ?_ rfl (fun wx hx => ?_) ?_
         rotate_left
         · obtain ⟨⟨f0, f1, f2, f3, f4, f5, f6, f7⟩, ⟨g2, g3, g7, g10⟩, ql_, ⟨a0, a1, a2, a3, a4, a5, a6, a7⟩, la, ⟨c0, c1, c2, c3, c4, c5, c6, c7⟩, lc⟩ := KR_.out wx hx
           rw [EP_.out] at a1
           obtain ⟨p0, p1, p2, p3, p4, p5, p6⟩ := KT.out wx hx
           go_simp
           first
             | (refine StepRun.val ?_; exact hx)
             | (refine StepRun.call (v := .bool true) ?_; (refine Calls.mono (MB.out _ (trans_below ZW_.out hx)) ?_); rintro e w' ⟨rfl, hb⟩; exact ⟨rfl, trans_below hx hb⟩)
             | (refine StepRun.call (v := .bool true) ?_; (refine Calls.mono (XS.out N Uc S _ (N_Uc.out.up hx) (U1_.out _ (trans_below X11.out hx)) ZN.out) ?_); rintro e w' ⟨rfl, hb⟩; exact ⟨rfl, trans_below hx hb⟩)
         simp only [Act.put, List.setIfInBounds_toArray, List.set_cons_zero, List.set_cons_succ])
  refine Seq.last (fun w12 hb => ?_)
  have Y12 := Lib.hid (trans_below Y11.out hb)
  have X12 := Lib.hid (trans_below X11.out hb)
  have Z_Ua := Lib.hid (trans_below Z_Ua.out hb)
  have Z_Uc := Lib.hid (trans_below Z_Uc.out hb)
  clear hb KR_
  obtain ⟨⟨f0, f1, f2, f3, f4, f5, f6, f7⟩, ⟨g2, g3, g7, g10⟩, lb_, _⟩ := KN.out _ Y12.out
  have nb_ := NB_Ua.out.below Z_Ua.out
  have la := nb_.lt
  obtain ⟨a0, a1, a2, a3, a4, a5, a6, a7⟩ : w12.cell? ⟨qUa, 0, none⟩ = some (.slice Ua.dv.A Ua.dv.n Ua.dv.c) ∧ w12.cell? ⟨qUa, 1, none⟩ = some (.slice Ua.pt.A Ua.pt.n Ua.pt.c) ∧ w12.cell? ⟨qUa, 2, none⟩ = some (.slice Ua.lk.A Ua.lk.n Ua.lk.c) ∧ w12.cell? ⟨qUa, 3, none⟩ = some (.slice Ua.dm.A Ua.dm.n Ua.dm.c) ∧ w12.cell? ⟨qUa, 4, none⟩ = some (.slice Ua.st.A Ua.st.n Ua.st.c) ∧ w12.cell? ⟨qUa, 5, none⟩ = some (.slice Ua.fl.A Ua.fl.n Ua.fl.c) ∧ w12.cell? ⟨qUa, 6, none⟩ = some (.slice Ua.vr.A Ua.vr.n Ua.vr.c) ∧ w12.cell? ⟨qUa, 7, none⟩ = some (.slice Ua.ir.A Ua.ir.n Ua.ir.c) := ⟨nb_.c0, nb_.c1, nb_.c2, nb_.c3, nb_.c4, nb_.c5, nb_.c6, nb_.c7⟩
  clear nb_
  have nb_ := NB_Uc.out.below Z_Uc.out
  have lc := nb_.lt
  obtain ⟨c0, c1, c2, c3, c4, c5, c6, c7⟩ : w12.cell? ⟨qUc, 0, none⟩ = some (.slice Uc.dv.A Uc.dv.n Uc.dv.c) ∧ w12.cell? ⟨qUc, 1, none⟩ = some (.slice Uc.pt.A Uc.pt.n Uc.pt.c) ∧ w12.cell? ⟨qUc, 2, none⟩ = some (.slice Uc.lk.A Uc.lk.n Uc.lk.c) ∧ w12.cell? ⟨qUc, 3, none⟩ = some (.slice Uc.dm.A Uc.dm.n Uc.dm.c) ∧ w12.cell? ⟨qUc, 4, none⟩ = some (.slice Uc.st.A Uc.st.n Uc.st.c) ∧ w12.cell? ⟨qUc, 5, none⟩ = some (.slice Uc.fl.A Uc.fl.n Uc.fl.c) ∧ w12.cell? ⟨qUc, 6, none⟩ = some (.slice Uc.vr.A Uc.vr.n Uc.vr.c) ∧ w12.cell? ⟨qUc, 7, none⟩ = some (.slice Uc.ir.A Uc.ir.n Uc.ir.c) := ⟨nb_.c0, nb_.c1, nb_.c2, nb_.c3, nb_.c4, nb_.c5, nb_.c6, nb_.c7⟩
  clear nb_
  go_wp2
  go_ret
  exact ⟨by first | rfl | simp, X12.out⟩
end Go.Proofs.YtkpbbfehglihlaaGreatDoor

/- From a law's parameter []api.Line to a list of lines. -/
namespace Go.Proofs.YtkpbbfehglihlaaGreatDoor
open Go.ChangeShapes Go.WideShapes Go.ChangeAt Go.RowKit

section
variable {H : Type} {enc : TypeId × Value → H} {P : Program} {w : World} {sp : Nat → Bool} {held : Bool}
theorem add_none (b off i : Nat) : (⟨b, off, none⟩ : Addr).add i = ⟨b, off + i, none⟩ := by unfold Addr.add; split <;> simp_all
/-- the number that a cell holds -/
def numOfC : Option Value → Int
  | some (.int _ z) => z
  | _ => 0
theorem at1 {cs : List Value} {o : Nat} {v : Value} (h : (cs.drop o).take 1 = [v]) : cs[o]? = some v := by
  have := congrArg (·[0]?) h
  simpa [List.getElem?_take, List.getElem?_drop] using this
theorem str_back (s : ByteArray) : str s.data.toList = s := by
  obtain ⟨⟨l⟩⟩ := s
  rfl
theorem cells_int : Tryz.prog.cellsOf 3 = 1 := by kernel_rfl
theorem cells_string : Tryz.prog.cellsOf 9 = 1 := by kernel_rfl
theorem cells_uint64 : Tryz.prog.cellsOf 32 = 1 := by kernel_rfl
theorem cells_uint32 : Tryz.prog.cellsOf 33 = 1 := by kernel_rfl
theorem cells_ints : Tryz.prog.cellsOf 34 = 1 := by kernel_rfl
theorem cells_uints : Tryz.prog.cellsOf 35 = 1 := by kernel_rfl
theorem cells_line : Tryz.prog.cellsOf 37 = 17 := by kernel_rfl
end
end Go.Proofs.YtkpbbfehglihlaaGreatDoor

/- From a law's parameter of type api.Line to a line whose numbers are within their kinds. (Made by mk-nwline.py.) -/
namespace Go.Proofs.YtkpbbfehglihlaaGreatDoor
open Go.ChangeShapes Go.WideShapes Go.ChangeAt Go.RowKit

section
variable {H : Type} {enc : TypeId × Value → H} {P : Program} {w : World} {sp : Nat → Bool} {held : Bool}
theorem wf_i {z : Int} (h : (Lit.int .i64 z).wf = true) : I64 z := by simp [Lit.wf, IntKind.min, IntKind.max, IntKind.signed, IntKind.bits] at h; exact ⟨by omega, by omega⟩
theorem wf_u {z : Int} (h : (Lit.int .u64 z).wf = true) : 0 ≤ z ∧ z < 18446744073709551616 := by simp [Lit.wf, IntKind.min, IntKind.max, IntKind.signed, IntKind.bits] at h; exact ⟨by omega, by omega⟩
theorem wf_v {z : Int} (h : (Lit.int .u32 z).wf = true) : 0 ≤ z ∧ z < 4294967296 := by simp [Lit.wf, IntKind.min, IntKind.max, IntKind.signed, IntKind.bits] at h; exact ⟨by omega, by omega⟩
theorem isl_wf {fuel : Nat} {t e : TypeId} {k : IntKind} {cs : List Value} {x : DataW H × List MemPlace} (ht : P.underlying t = some (.slice e)) (he : P.underlying e = some (.int k)) (hce : P.cellsOf e = 1) (h : DataW.trod enc P w 0 sp held fuel t cs = some x) :
    ∃ (s : SlV) (xs : List Int), cs = [.slice s.A s.n s.c] ∧ ISl w k s.A s.n s.c xs ∧ ∀ x ∈ xs, (Lit.int k x).wf = true := by
  rcases Go.Deep.open_slice ht h with ⟨rfl, _⟩ | ⟨a, len, cap, m, n, D, Pl, rfl, _, hl, hm, hmm, _, hx⟩
  · exact ⟨SlV.nil, [], rfl, ISl.nil, fun x hx => by cases hx⟩
  · have hlm : len ≤ m := by rw [hmm]; split <;> omega
    have hcell : ∀ i, i < len → ∃ z, w.cell? (a.add i) = some (.int k z) ∧ (Lit.int k z).wf = true := fun i hi => by
      obtain ⟨cs', h1, h2⟩ := hx i (by omega)
      obtain ⟨z, rfl, _, hwf⟩ := DataW.trod_int he h2
      have h3 := (World.cells?_some h1).2.2 0 (by rw [hce]; omega)
      rw [hce, Nat.mul_one] at h3
      refine ⟨z, ?_, hwf⟩
      have : (a.add i).add 0 = a.add i := by unfold Addr.add; simp
      rw [this] at h3
      exact h3
    refine ⟨⟨some a, len, cap⟩, (List.range len).map fun i => numOfC (w.cell? (a.add i)), rfl, ⟨by simp, hl, hm, fun hn => ?_⟩, fun x hx => ?_⟩
    · obtain ⟨b, off, spot⟩ := a
      obtain ⟨z0, hz0, _⟩ := hcell 0 hn
      have hspot : spot = none := by simpa [Addr.add] using World.cell?_spot hz0
      subst hspot
      refine ⟨b, off, rfl, ?_, fun i hi => ?_⟩
      · have := World.block_lt_of_cell? w _ hz0
        rw [add_none] at this
        exact this
      · obtain ⟨z, hz, _⟩ := hcell i hi
        have e2 : ((List.range len).map fun i => numOfC (w.cell? ((⟨b, off, none⟩ : Addr).add i))).getD i 0 = z := by
          rw [List.getD, List.getElem?_map, List.getElem?_range hi]
          show numOfC (w.cell? _) = z
          rw [hz]
          rfl
        rw [e2, ← hz, add_none]
    · obtain ⟨i, hi, rfl⟩ := List.mem_map.1 hx
      obtain ⟨z, hz, hwf⟩ := hcell i (List.mem_range.1 hi)
      rw [hz]
      exact hwf
set_option maxRecDepth 20000 in
set_option maxHeartbeats 2000000 in
theorem line_par {fuel : Nat} {cs : List Value} {x : DataW H × List MemPlace} (h : DataW.trod enc Tryz.prog w 0 sp held fuel 37 cs = some x) :
    ∃ (L : LV) (s1 s2 s3 s4 : SlV), cs = lineC L s1 s2 s3 s4 ∧ LRead w L s1 s2 s3 s4 ∧ LvW L := by
  obtain ⟨xs, n, _, rfl, hl, hlen, hf⟩ := DataW.trod_struct Tryz.underlying37 h
  rw [cells_line] at hl
  have hx : ∀ i, i < 17 → ∃ y, xs[i]? = some y := fun i hi => ⟨_, List.getElem?_eq_getElem (by rw [hlen]; exact hi)⟩
  obtain ⟨y0, g0⟩ := at_of (cs := cs) 0 (hf 0 _ rfl) (hx 0 (by omega)) cells_int
  obtain ⟨z0, q0, _, v0⟩ := DataW.trod_int Tryz.underlying3 g0
  obtain ⟨y1, g1⟩ := at_of 1 (hf 1 _ rfl) (hx 1 (by omega)) cells_int
  obtain ⟨z1, q1, _, v1⟩ := DataW.trod_int Tryz.underlying3 g1
  obtain ⟨y2, g2⟩ := at_of 2 (hf 2 _ rfl) (hx 2 (by omega)) cells_string
  obtain ⟨z2, q2, _⟩ := DataW.trod_string Tryz.underlying9 g2
  obtain ⟨y3, g3⟩ := at_of 3 (hf 3 _ rfl) (hx 3 (by omega)) cells_string
  obtain ⟨z3, q3, _⟩ := DataW.trod_string Tryz.underlying9 g3
  obtain ⟨y4, g4⟩ := at_of 4 (hf 4 _ rfl) (hx 4 (by omega)) cells_string
  obtain ⟨z4, q4, _⟩ := DataW.trod_string Tryz.underlying9 g4
  obtain ⟨y5, g5⟩ := at_of 5 (hf 5 _ rfl) (hx 5 (by omega)) cells_string
  obtain ⟨z5, q5, _⟩ := DataW.trod_string Tryz.underlying9 g5
  obtain ⟨y6, g6⟩ := at_of 6 (hf 6 _ rfl) (hx 6 (by omega)) cells_string
  obtain ⟨z6, q6, _⟩ := DataW.trod_string Tryz.underlying9 g6
  obtain ⟨y7, g7⟩ := at_of 7 (hf 7 _ rfl) (hx 7 (by omega)) cells_uint64
  obtain ⟨z7, q7, _, v7⟩ := DataW.trod_int Tryz.underlying32 g7
  obtain ⟨y8, g8⟩ := at_of 8 (hf 8 _ rfl) (hx 8 (by omega)) cells_uint32
  obtain ⟨z8, q8, _, v8⟩ := DataW.trod_int Tryz.underlying33 g8
  obtain ⟨y9, g9⟩ := at_of 9 (hf 9 _ rfl) (hx 9 (by omega)) cells_int
  obtain ⟨z9, q9, _, v9⟩ := DataW.trod_int Tryz.underlying3 g9
  obtain ⟨y10, g10⟩ := at_of 10 (hf 10 _ rfl) (hx 10 (by omega)) cells_int
  obtain ⟨z10, q10, _, v10⟩ := DataW.trod_int Tryz.underlying3 g10
  obtain ⟨y11, g11⟩ := at_of 11 (hf 11 _ rfl) (hx 11 (by omega)) cells_int
  obtain ⟨z11, q11, _, v11⟩ := DataW.trod_int Tryz.underlying3 g11
  obtain ⟨y12, g12⟩ := at_of 12 (hf 12 _ rfl) (hx 12 (by omega)) cells_int
  obtain ⟨z12, q12, _, v12⟩ := DataW.trod_int Tryz.underlying3 g12
  obtain ⟨y13, g13⟩ := at_of 13 (hf 13 _ rfl) (hx 13 (by omega)) cells_ints
  obtain ⟨z13, l13, q13, r13, v13⟩ := isl_wf Tryz.underlying34 Tryz.underlying3 cells_int g13
  obtain ⟨y14, g14⟩ := at_of 14 (hf 14 _ rfl) (hx 14 (by omega)) cells_ints
  obtain ⟨z14, l14, q14, r14, v14⟩ := isl_wf Tryz.underlying34 Tryz.underlying3 cells_int g14
  obtain ⟨y15, g15⟩ := at_of 15 (hf 15 _ rfl) (hx 15 (by omega)) cells_ints
  obtain ⟨z15, l15, q15, r15, v15⟩ := isl_wf Tryz.underlying34 Tryz.underlying3 cells_int g15
  obtain ⟨y16, g16⟩ := at_of 16 (hf 16 _ rfl) (hx 16 (by omega)) cells_uints
  obtain ⟨z16, l16, q16, r16, v16⟩ := isl_wf Tryz.underlying35 Tryz.underlying33 cells_uint32 g16
  refine ⟨⟨z0, z1, z2.data.toList, z3.data.toList, z4.data.toList, z5.data.toList, z6.data.toList, z7, z8, z9, z10, z11, z12, l13, l14, l15, l16⟩, z13, z14, z15, z16, ?_, ⟨r13, r14, r15, r16⟩, ⟨wf_i v0, wf_i v1, wf_u v7, wf_v v8, wf_i v9, wf_i v10, wf_i v11, wf_i v12, fun x hx => wf_i (v13 x hx), fun x hx => wf_i (v14 x hx), fun x hx => wf_i (v15 x hx), fun x hx => wf_v (v16 x hx)⟩⟩
  apply List.ext_getElem?
  intro i
  match i with
  | 0 => rw [at1 q0]; rfl
  | 1 => rw [at1 q1]; rfl
  | 2 => rw [at1 q2]; show _ = some (Value.string (str z2.data.toList)); rw [str_back]
  | 3 => rw [at1 q3]; show _ = some (Value.string (str z3.data.toList)); rw [str_back]
  | 4 => rw [at1 q4]; show _ = some (Value.string (str z4.data.toList)); rw [str_back]
  | 5 => rw [at1 q5]; show _ = some (Value.string (str z5.data.toList)); rw [str_back]
  | 6 => rw [at1 q6]; show _ = some (Value.string (str z6.data.toList)); rw [str_back]
  | 7 => rw [at1 q7]; rfl
  | 8 => rw [at1 q8]; rfl
  | 9 => rw [at1 q9]; rfl
  | 10 => rw [at1 q10]; rfl
  | 11 => rw [at1 q11]; rfl
  | 12 => rw [at1 q12]; rfl
  | 13 => rw [at1 q13]; rfl
  | 14 => rw [at1 q14]; rfl
  | 15 => rw [at1 q15]; rfl
  | 16 => rw [at1 q16]; rfl
  | i + 17 => rw [List.getElem?_eq_none (by omega)]; rfl
end
end Go.Proofs.YtkpbbfehglihlaaGreatDoor

