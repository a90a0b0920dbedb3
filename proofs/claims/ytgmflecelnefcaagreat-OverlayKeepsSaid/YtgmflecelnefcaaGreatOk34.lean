/- Only what the statement at hand leans on. -/
import Derived.Test.YtgmflecelnefcaaGreatOk32
import Derived.Test.YtgmflecelnefcaaGreatOk18
import Derived.Test.YtgmflecelnefcaaGreatOk29
import Derived.Test.YtgmflecelnefcaaGreatOk10
import Derived.Test.YtgmflecelnefcaaGreatOk21
import Derived.Test.YtgmflecelnefcaaGreatOk33
import Derived.Test.YtgmflecelnefcaaGreatOk25
import Derived.Test.YtgmflecelnefcaaGreatOk03
/- The walk of OverlayKeeps. (Made by mk-olkeeps.py.) -/
namespace Go.Proofs.YtgmflecelnefcaaGreat
open Go.RowKit

/-! What is known behind each of the three. -/
noncomputable def dvX (N : NV) (s : List UInt8) : Int := if netB N = true then dvF N s else -1
theorem dvX_ok {N : NV} {s : List UInt8} (h : NetOk N) : dvX N s = dvF N s := if_pos (netB_yes h)
theorem kp_vt {N : NV} {L : LV} (ha : 0 ≤ L.addr ∧ L.addr < 4294967296) (hz : NvSz N) (h : vtE N L = 0) : NetOk (vtN N L) ∧ NvSz (vtN N L) ∧ (vtN N L).ports = N.ports ∧ ∃ d : Nat, dvX N L.dev = (d : Int) ∧ d < (vtN N L).devices.length ∧ ((vtN N L).devices.getD d DevV.zero).vtep = L.addr := by
  have ok := vt_fits ha h
  obtain ⟨_, hn, d, hd, ed, _, _, e⟩ := vt_inv h
  rw [e] at ok ⊢
  exact ⟨ok, vt_sz d L.addr hz, rfl, d, (dvX_ok hn).trans ed, by rw [vt_len]; exact hd, by rw [vt_at hd]⟩
theorem kp_vn {N : NV} {L : LV} (hz : NvSz N) (h : vnE N L = 0) : NetOk N ∧ NetOk (vnN N L) ∧ NvSz (vnN N L) ∧ (vnN N L).domains.length = N.domains.length ∧ ∃ d m : Nat, dvX N L.dev = (d : Int) ∧ atF N (d : Int) L.vlan = (m : Int) ∧ fdX (vnN N L) (d : Int) L.num = (m : Int) := by
  have ok := vn_fits h
  obtain ⟨f, hn, d, m, _, ed, _, hm, ea, hd, _, h0, hf, e⟩ := vn_inv h
  rw [e] at ok ⊢
  have g := kd6_num f
  exact ⟨hn, ok, vn_sz hm L.num L.row hz, vn_len N m L.num L.row, d, m, (dvX_ok hn).trans ed, ea, (if_pos (netB_yes ok)).trans (vn_found hm hd (by omega) hf)⟩
theorem kp_fl {N : NV} {L : LV} (hx : ∀ x ∈ L.addrs, 0 ≤ x ∧ x < 4294967296) (hz : NvSz N) (h : flE N L = 0) : NetOk (flN N L) ∧ NvSz (flN N L) ∧ (flN N L).floods.length = N.floods.length + 1 ∧ N.floods.length < 48 ∧ ∀ (w : World) (F : Nat → Prop) (U : NSl3), NRead w F (flN N L) U → NRead w F N { U with fl := ⟨U.fl.A, N.floods.length, U.fl.c⟩ } := by
  have ok := fl_fits hx h
  obtain ⟨f, hn, d, hd, _, _, _, _, z, e⟩ := fl_inv h
  rw [e] at ok ⊢
  exact ⟨ok, fl_sz L.row d L.num hz (kd7_addrs f hx).1 z, fl_len N L.row d L.num L.addrs, z, fun w F U h => flood_cut h⟩
/-- first, of a net that may not be -/
theorem first_dev_no (N : NV) (S : NSl3) (A : Option Addr) (n c : Nat) (g : Value) (w : World) (h : NRead w (allB w) N S) (hs : NvSz N) (hn : netB N = false) :
    Calls Tryz.prog 84 #[netV S, .slice A n c, g] w fun e w' => e = .returned (.int .i64 (-1)) ∧ Below w.heap.size w w' := by
  have RT := fun (w' : World) (hb : Below w.heap.size w w') => xnright_any N S w' (h.up hb) hs
  rw [hn] at RT
  unfold netV at RT ⊢
  have RT := Lib.hid RT
  clear h hs hn
  go_enter Tryz.func84, Tryz.ntmps84
  go_wp2_with (go_at_call 23; (with_reducible refine (RT.out _ (alloc_below _ _)).mono ?_); rintro e wr ⟨rfl, hb⟩; have X := Lib.hid (trans_below (alloc_below _ _) hb); clear hb)
  go_ret
  exact ⟨rfl, X.out⟩
set_option maxRecDepth 20000 in
theorem xndevx_any (N : NV) (S : NSl3) (l : List UInt8) (w : World) (h : NRead w (allB w) N S) (hs : NvSz N) (hl : l.length ≤ 9223372036854775807) : Calls Tryz.prog 25 #[netV S, .string (str l)] w fun e w' => e = .returned (.int .i64 (dvX N l)) ∧ Below w.heap.size w w' := by
  by_cases hn : netB N = true
  · have := xndevice_any N S l w h hs ((netB_iff N).1 hn) hl
    rw [← dvX_ok ((netB_iff N).1 hn)] at this
    exact this
  have hn : netB N = false := by cases e : netB N <;> simp_all
  have e : dvX N l = -1 := by unfold dvX; rw [hn]; rfl
  rw [e]
  obtain ⟨W, hW⟩ : ∃ W, (w.alloc (.cells (nA S) 31)).alloc (.cells #[.string (str l)] 9) = W := ⟨_, rfl⟩
  have NC := net_cs S _ _ [.string (str l)] hW
  have FS := first_dev_no N S S.dv.A S.dv.n S.dv.c (.func (.func 85) #[] #[.pointer (some ⟨w.heap.size + 1, 0, none⟩)]) W (h.up NC.2.2) hs hn
  have B0 := Lib.hid NC.2.2
  subst hW
  unfold netV at FS ⊢
  have FS := Lib.hid FS
  clear h hs hn NC e
  go_enter Tryz.func25, Tryz.ntmps25
  go_wp2_with (go_at_call 84; (with_reducible refine FS.out.mono ?_); rintro e wi ⟨rfl, hb⟩; have X2 := Lib.hid (trans_below B0.out hb); clear hb)
  go_ret
  exact ⟨rfl, X2.out⟩
set_option maxRecDepth 40000 in
set_option maxHeartbeats 40000000 in
theorem okeeps_walk (N : NV) (S : NSl3) (L : LV) (s1 s2 s3 s4 : SlV) (w : World) (h : NRead w (allB w) N S) (hl : LRead w L s1 s2 s3 s4) (hm : NmSz N) (hw : LvW L) (hv : VtOk N) : Calls Tryz.prog 6 #[netV S, lineV L s1 s2 s3 s4] w fun e w' => e = .returned (.bool true) ∧ Below w.heap.size w w' := by
  have UP := Lib.hid (fun (w' : World) (hb : Below w.heap.size w w') => h.up hb)
  have UL := Lib.hid (fun (w' : World) (hb : Below w.heap.size w w') => lread_below hl hb)
  have HM := Lib.hid hm
  have HW := Lib.hid hw
  have HV := Lib.hid hv
  have NN := Lib.hid (show N.ports.length = S.pt.n ∧ N.domains.length = S.dm.n ∧ N.floods.length = S.fl.n ∧ L.addrs.length = s4.n from ⟨h.pt.len, h.dm.len, h.fl.len, hl.2.2.2.len⟩)
  have lefl := h.fl.le
  have capf := h.fl.cap
  have U1_ := Lib.hid (fun (w' : World) (hb : Below w.heap.size w w') => h.up hb)
  have L1_ := Lib.hid (fun (w' : World) (hb : Below w.heap.size w w') => lread_below hl hb)
  have G1 := fun (w' : World) (hb : Below w.heap.size w w') => ngreat_any N S w' (h.up hb)
  unfold GotNG netV at G1
  replace G1 := Lib.hid G1
  clear hm hw hv
  clear h hl
  unfold netV
  rw [line_agg]
  go_enter Tryz.func6, Tryz.ntmps6
  go_upto_region 1 with fail
  generalize hw1 : World.alloc _ _ = w1
  obtain ⟨B1, NB, LB, ql1⟩ := pre_two (S := S) (L := L) (s1 := s1) (s2 := s2) (s3 := s3) (s4 := s4) hw1
  clear hw1
  replace B1 := Lib.hid B1; replace NB := Lib.hid NB; replace LB := Lib.hid LB
  have KN := Lib.hid (show ∀ wx, Below w1.heap.size w1 wx → NF wx w.heap.size S ∧ (wx.cell? ⟨w.heap.size + 1, 2, none⟩ = some (.string (str L.dev)) ∧ wx.cell? ⟨w.heap.size + 1, 8, none⟩ = some (.int .u32 L.addr) ∧ wx.cell? ⟨w.heap.size + 1, 10, none⟩ = some (.int .i64 L.vlan) ∧ wx.cell? ⟨w.heap.size + 1, 11, none⟩ = some (.int .i64 L.num) ∧ wx.cell? ⟨w.heap.size + 1, 16, none⟩ = some (.slice s4.A s4.n s4.c)) ∧ BoxF wx (w.heap.size + 1) 17 (lc L s1 s2 s3 s4) ∧ NRead wx (allB wx) N S ∧ LRead wx L s1 s2 s3 s4 ∧ Below w.heap.size w wx from fun wx hx => by
    have nb := NB.out.below hx
    have bx := LB.out.below (by omega) hx
    have b0 := B1.out.trans (hx.mono B1.out.size)
    exact ⟨⟨nb.c0, nb.c1, nb.c2, nb.c3, nb.c4, nb.c5, nb.c6, nb.c7⟩, ⟨bx.cell 2 (by omega), bx.cell 8 (by omega), bx.cell 10 (by omega), bx.cell 11 (by omega), bx.cell 16 (by omega)⟩, bx, UP.out _ b0, UL.out _ b0, b0⟩)
  have BS := Lib.hid (Below.refl w1.heap.size w1)
  obtain ⟨⟨f0, f1, f2, f3, f4, f5, f6, f7⟩, ⟨g2, g8, g10, g11, g16⟩, lb_, _⟩ := KN.out w1 (Below.refl _ _)
  by_cases l0_ : 300 < L.dev.length
  · have y0_ : (L.dev.length : Int) > 300 := by omega
    clear l0_
    go_wp2_with (first | (go_at_call 8; (with_reducible refine (works19_any _).mono ?_); rintro e w2 ⟨rfl, b_⟩; have Y2 := Lib.hid b_; have X2 := Lib.hid (trans_below B1.out b_); obtain ⟨⟨f0, f1, f2, f3, f4, f5, f6, f7⟩, ⟨g2, g8, g10, g11, g16⟩, lb_, _⟩ := KN.out _ Y2.out; clear b_) | (go_at_call 16; (with_reducible refine (G1.out _ X2.out).mono ?_); rintro e w3 ⟨g, rfl, hg, b_⟩; have Y3 := Lib.hid (trans_below Y2.out b_); have X3 := Lib.hid (trans_below X2.out b_); have HG := Lib.hid hg; obtain ⟨⟨f0, f1, f2, f3, f4, f5, f6, f7⟩, ⟨g2, g8, g10, g11, g16⟩, lb_, _⟩ := KN.out _ Y3.out; clear hg b_; cases g))
    all_goals go_wp2
    all_goals go_ret
    all_goals exact ⟨by first | rfl | simp, X3.out⟩
  have y0_ : ¬ (L.dev.length : Int) > 300 := by omega
  by_cases l1_ : 100 < s4.n
  · have y1_ : (s4.n : Int) > 100 := by omega
    clear l1_
    go_wp2_with (first | (go_at_call 8; (with_reducible refine (works19_any _).mono ?_); rintro e w2 ⟨rfl, b_⟩; have Y2 := Lib.hid b_; have X2 := Lib.hid (trans_below B1.out b_); obtain ⟨⟨f0, f1, f2, f3, f4, f5, f6, f7⟩, ⟨g2, g8, g10, g11, g16⟩, lb_, _⟩ := KN.out _ Y2.out; clear b_) | (go_at_call 16; (with_reducible refine (G1.out _ X2.out).mono ?_); rintro e w3 ⟨g, rfl, hg, b_⟩; have Y3 := Lib.hid (trans_below Y2.out b_); have X3 := Lib.hid (trans_below X2.out b_); have HG := Lib.hid hg; obtain ⟨⟨f0, f1, f2, f3, f4, f5, f6, f7⟩, ⟨g2, g8, g10, g11, g16⟩, lb_, _⟩ := KN.out _ Y3.out; clear hg b_; cases g))
    all_goals go_wp2
    all_goals go_ret
    all_goals exact ⟨by first | rfl | simp, X3.out⟩
  have y1_ : ¬ (s4.n : Int) > 100 := by omega
  have HT := Lib.hid (show L.dev.length ≤ 300 ∧ L.addrs.length ≤ 100 from ⟨by omega, by have := NN.out.2.2.2; omega⟩)
  clear l0_ l1_
  go_upto_region 5 with (first | (go_at_call 8; (with_reducible refine (works19_any _).mono ?_); rintro e w2 ⟨rfl, b_⟩; have Y2 := Lib.hid b_; have X2 := Lib.hid (trans_below B1.out b_); obtain ⟨⟨f0, f1, f2, f3, f4, f5, f6, f7⟩, ⟨g2, g8, g10, g11, g16⟩, lb_, _⟩ := KN.out _ Y2.out; clear b_) | (go_at_call 16; (with_reducible refine (G1.out _ X2.out).mono ?_); rintro e w3 ⟨g, rfl, hg, b_⟩; have Y3 := Lib.hid (trans_below Y2.out b_); have X3 := Lib.hid (trans_below X2.out b_); have HG := Lib.hid hg; obtain ⟨⟨f0, f1, f2, f3, f4, f5, f6, f7⟩, ⟨g2, g8, g10, g11, g16⟩, lb_, _⟩ := KN.out _ Y3.out; clear hg b_; cases g))
  rotate_left
  · go_wp2
    go_ret
    exact ⟨by first | rfl | simp, X3.out⟩
  clear y0_ y1_
  have SZ := HG.out (by simp)
  have ZN := Lib.hid SZ
  have AP := ol_apart (N := N) (L := L)
  have PA := fun (w' : World) (hb : Below w.heap.size w w') => covtep_any N S L s1 s2 s3 s4 w' (U1_.out _ hb) (L1_.out _ hb) SZ HM.out (by have := HT.out; omega) HW.out.addr HW.out.addrs (by have := HT.out; omega) HV.out
  have KA := fun (h : vtE N L = 0) => kp_vt HW.out.addr ZN.out h
  have ZA := fun (h : vtE N L ≠ 0) => vt_no h
  have PB := fun (w' : World) (hb : Below w.heap.size w w') => covni_any N S L s1 s2 s3 s4 w' (U1_.out _ hb) (L1_.out _ hb) SZ HM.out (by have := HT.out; omega) HW.out.addr HW.out.addrs (by have := HT.out; omega) HV.out
  have KB := fun (h : vnE N L = 0) => kp_vn ZN.out h
  have ZB := fun (h : vnE N L ≠ 0) => vn_no h
  have PC := fun (w' : World) (hb : Below w.heap.size w w') => coflood_any N S L s1 s2 s3 s4 w' (U1_.out _ hb) (L1_.out _ hb) SZ HM.out (by have := HT.out; omega) HW.out.addr HW.out.addrs (by have := HT.out; omega) HV.out
  have KC := fun (h : flE N L = 0) => kp_fl HW.out.addrs ZN.out h
  have ZC := fun (h : flE N L ≠ 0) => fl_no h
  obtain ⟨NA, hN⟩ : ∃ v, vtN N L = v := ⟨_, rfl⟩
  obtain ⟨EA, hE⟩ : ∃ v, vtE N L = v := ⟨_, rfl⟩
  rw [hN, hE] at PA KA
  rw [hN, hE] at ZA
  rw [hE] at AP
  unfold GotPut netV at PA
  replace PA := Lib.hid PA
  replace KA := Lib.hid KA
  replace ZA := Lib.hid ZA
  clear hN hE
  obtain ⟨NB, hN⟩ : ∃ v, vnN N L = v := ⟨_, rfl⟩
  obtain ⟨EB, hE⟩ : ∃ v, vnE N L = v := ⟨_, rfl⟩
  rw [hN, hE] at PB KB
  rw [hN, hE] at ZB
  rw [hE] at AP
  unfold GotPut netV at PB
  replace PB := Lib.hid PB
  replace KB := Lib.hid KB
  replace ZB := Lib.hid ZB
  clear hN hE
  obtain ⟨NC, hN⟩ : ∃ v, flN N L = v := ⟨_, rfl⟩
  obtain ⟨EC, hE⟩ : ∃ v, flE N L = v := ⟨_, rfl⟩
  rw [hN, hE] at PC KC
  rw [hN, hE] at ZC
  rw [hE] at AP
  unfold GotPut netV at PC
  replace PC := Lib.hid PC
  replace KC := Lib.hid KC
  replace ZC := Lib.hid ZC
  clear hN hE
  replace AP := Lib.hid AP
  have DV := fun (w' : World) (hb : Below w.heap.size w w') => xndevx_any N S L.dev w' (U1_.out _ hb) ZN.out (by have := HT.out; omega)
  obtain ⟨dv, hdv⟩ : ∃ v, dvX N L.dev = v := ⟨_, rfl⟩
  rw [hdv] at DV
  have HDV := Lib.hid hdv
  have XS := Lib.hid (fun (M : NV) (A B : NSl3) (w' : World) (ha : NRead w' (allB w') M A) (hb : NRead w' (allB w') M B) (hz : NvSz M) => show Calls Tryz.prog 22 #[netV A, netV B] w' (fun e w'' => e = .returned (.bool true) ∧ Below w'.heap.size w' w'') from by have := xnsame_any M M A B w' ha hb hz hz; rw [nsmB_yes rfl] at this; exact this)
  have XR := Lib.hid (fun (M : NV) (A : NSl3) (w' : World) (ha : NRead w' (allB w') M A) (hz : NvSz M) (hn : NetOk M) => show Calls Tryz.prog 23 #[netV A] w' (fun e w'' => e = .returned (.bool true) ∧ Below w'.heap.size w' w'') from by have := xnright_any M A w' ha hz; rw [netB_yes hn] at this; exact this)
  have XC := Lib.hid (fun (M : NV) (A : NSl3) (w0 w' : World) (ha : NRead w0 (allB w0) M A) (hb : Below w0.heap.size w0 w') (hz : NvSz M) => show Calls Tryz.prog 27 #[netV A] w' (fun e w'' => ∃ U, e = .returned (netV U) ∧ NOwn w'' w'.heap.size (allB w0) M U ∧ Below w'.heap.size w' w'') from (rcopy_any (allB w0) M A w' (ha.keep (F' := allB w0) (fun b g => hb.block b g) (fun _ g => g)) (fun b g => Nat.lt_of_lt_of_le g hb.size) hz).mono fun e w'' ⟨U, e1, e2, e3⟩ => ⟨U, e1, e2, e3⟩)
  have SA := Lib.hid (fun (M : NV) (A : NSl3) (d v : Int) (w' : World) (ha : NRead w' (allB w') M A) (hz : NvSz M) (hn : NetOk M) => xndomain_any M A d v w' ha hz hn)
  have FX := Lib.hid (fun (M : NV) (A : NSl3) (d v : Int) (w' : World) (ha : NRead w' (allB w') M A) (hz : NvSz M) => xofind_any M A d v w' ha hz)
  unfold netV at XS XR XC SA FX DV
  replace DV := Lib.hid DV
  clear hdv SZ HG G1
  go_upto_region 6 with (first
    | ((with_reducible refine wpList_lineOf ?hg (.tmp 3) ?ho (w.heap.size + 1) ?hx L s1 s2 s3 s4 lb_ ?_); (case hg => rfl); (case ho => rfl); (case hx => rfl))
    | (go_at_call 9; (refine (PA.out _ X3.out).mono ?_); rintro e w4 ⟨Ua, rfl, hr, hb⟩; have Y4 := Lib.hid (trans_below Y3.out hb); have X4 := Lib.hid (trans_below X3.out hb); have R_Ua := Lib.hid hr; clear hr; skip; clear hb))
  clear f0 f1 f2 f3 f4 f5 f6 f7 g2 g8 g10 g11 g16 lb_
  obtain ⟨w5, hw5⟩ : ∃ w5, w4.alloc (.cells #[.slice Ua.dv.A Ua.dv.n Ua.dv.c, .slice Ua.pt.A Ua.pt.n Ua.pt.c, .slice Ua.lk.A Ua.lk.n Ua.lk.c, .slice Ua.dm.A Ua.dm.n Ua.dm.c, .slice Ua.st.A Ua.st.n Ua.st.c, .slice Ua.fl.A Ua.fl.n Ua.fl.c, .slice Ua.vr.A Ua.vr.n Ua.vr.c, .slice Ua.ir.A Ua.ir.n Ua.ir.c] 31) = w5 := ⟨_, rfl⟩
  have A_ : Below w4.heap.size w4 w5 := by rw [← hw5]; exact alloc_below _ _
  obtain ⟨qUa, hqUa⟩ : ∃ q, w4.heap.size = q := ⟨_, rfl⟩
  have NB_Ua := Lib.hid (show NBox w5 qUa Ua by rw [← hw5, ← hqUa]; exact NBox.new _ _ _)
  have N_Ua := Lib.hid (R_Ua.out.up A_)
  have Y5 := Lib.hid (trans_below Y4.out A_)
  have X5 := Lib.hid (trans_below X4.out A_)
  have Z_Ua := Lib.hid (Below.refl w5.heap.size w5)
  have TQ_Ua := Lib.hid (show TBx w5 qUa 31 (netC Ua) by rw [← hw5, ← hqUa]; exact TBx.new w4 _ _)
  have HQ_Ua := Lib.hid hqUa
  have BA_Ua := Lib.hid A_
  rw [hw5, hqUa]
  clear hw5 hqUa A_
  obtain ⟨⟨f0, f1, f2, f3, f4, f5, f6, f7⟩, ⟨g2, g8, g10, g11, g16⟩, lb_, _⟩ := KN.out _ Y5.out
  have nb_ := NB_Ua.out.below Z_Ua.out
  have la := nb_.lt
  obtain ⟨a0, a1, a2, a3, a4, a5, a6, a7⟩ : w5.cell? ⟨qUa, 0, none⟩ = some (.slice Ua.dv.A Ua.dv.n Ua.dv.c) ∧ w5.cell? ⟨qUa, 1, none⟩ = some (.slice Ua.pt.A Ua.pt.n Ua.pt.c) ∧ w5.cell? ⟨qUa, 2, none⟩ = some (.slice Ua.lk.A Ua.lk.n Ua.lk.c) ∧ w5.cell? ⟨qUa, 3, none⟩ = some (.slice Ua.dm.A Ua.dm.n Ua.dm.c) ∧ w5.cell? ⟨qUa, 4, none⟩ = some (.slice Ua.st.A Ua.st.n Ua.st.c) ∧ w5.cell? ⟨qUa, 5, none⟩ = some (.slice Ua.fl.A Ua.fl.n Ua.fl.c) ∧ w5.cell? ⟨qUa, 6, none⟩ = some (.slice Ua.vr.A Ua.vr.n Ua.vr.c) ∧ w5.cell? ⟨qUa, 7, none⟩ = some (.slice Ua.ir.A Ua.ir.n Ua.ir.c) := ⟨nb_.c0, nb_.c1, nb_.c2, nb_.c3, nb_.c4, nb_.c5, nb_.c6, nb_.c7⟩
  clear nb_
  go_upto_region 7 with (first
    | ((with_reducible refine wpList_lineOf ?hg (.tmp 3) ?ho (w.heap.size + 1) ?hx L s1 s2 s3 s4 lb_ ?_); (case hg => rfl); (case ho => rfl); (case hx => rfl))
    | (go_at_call 12; (refine (PB.out _ X5.out).mono ?_); rintro e w6 ⟨Ub, rfl, hr, hb⟩; have Y6 := Lib.hid (trans_below Y5.out hb); have X6 := Lib.hid (trans_below X5.out hb); have Z_Ua := Lib.hid (trans_below Z_Ua.out hb); have R_Ub := Lib.hid hr; clear hr; skip; clear hb))
  clear f0 f1 f2 f3 f4 f5 f6 f7 g2 g8 g10 g11 g16 lb_ la a0 a1 a2 a3 a4 a5 a6 a7
  obtain ⟨w7, hw7⟩ : ∃ w7, w6.alloc (.cells #[.slice Ub.dv.A Ub.dv.n Ub.dv.c, .slice Ub.pt.A Ub.pt.n Ub.pt.c, .slice Ub.lk.A Ub.lk.n Ub.lk.c, .slice Ub.dm.A Ub.dm.n Ub.dm.c, .slice Ub.st.A Ub.st.n Ub.st.c, .slice Ub.fl.A Ub.fl.n Ub.fl.c, .slice Ub.vr.A Ub.vr.n Ub.vr.c, .slice Ub.ir.A Ub.ir.n Ub.ir.c] 31) = w7 := ⟨_, rfl⟩
  have A_ : Below w6.heap.size w6 w7 := by rw [← hw7]; exact alloc_below _ _
  obtain ⟨qUb, hqUb⟩ : ∃ q, w6.heap.size = q := ⟨_, rfl⟩
  have NB_Ub := Lib.hid (show NBox w7 qUb Ub by rw [← hw7, ← hqUb]; exact NBox.new _ _ _)
  have N_Ub := Lib.hid (R_Ub.out.up A_)
  have Y7 := Lib.hid (trans_below Y6.out A_)
  have X7 := Lib.hid (trans_below X6.out A_)
  have Z_Ua := Lib.hid (trans_below Z_Ua.out A_)
  have Z_Ub := Lib.hid (Below.refl w7.heap.size w7)
  have TQ_Ub := Lib.hid (show TBx w7 qUb 31 (netC Ub) by rw [← hw7, ← hqUb]; exact TBx.new w6 _ _)
  have HQ_Ub := Lib.hid hqUb
  have BA_Ub := Lib.hid A_
  rw [hw7, hqUb]
  clear hw7 hqUb A_
  obtain ⟨⟨f0, f1, f2, f3, f4, f5, f6, f7⟩, ⟨g2, g8, g10, g11, g16⟩, lb_, _⟩ := KN.out _ Y7.out
  have nb_ := NB_Ua.out.below Z_Ua.out
  have la := nb_.lt
  obtain ⟨a0, a1, a2, a3, a4, a5, a6, a7⟩ : w7.cell? ⟨qUa, 0, none⟩ = some (.slice Ua.dv.A Ua.dv.n Ua.dv.c) ∧ w7.cell? ⟨qUa, 1, none⟩ = some (.slice Ua.pt.A Ua.pt.n Ua.pt.c) ∧ w7.cell? ⟨qUa, 2, none⟩ = some (.slice Ua.lk.A Ua.lk.n Ua.lk.c) ∧ w7.cell? ⟨qUa, 3, none⟩ = some (.slice Ua.dm.A Ua.dm.n Ua.dm.c) ∧ w7.cell? ⟨qUa, 4, none⟩ = some (.slice Ua.st.A Ua.st.n Ua.st.c) ∧ w7.cell? ⟨qUa, 5, none⟩ = some (.slice Ua.fl.A Ua.fl.n Ua.fl.c) ∧ w7.cell? ⟨qUa, 6, none⟩ = some (.slice Ua.vr.A Ua.vr.n Ua.vr.c) ∧ w7.cell? ⟨qUa, 7, none⟩ = some (.slice Ua.ir.A Ua.ir.n Ua.ir.c) := ⟨nb_.c0, nb_.c1, nb_.c2, nb_.c3, nb_.c4, nb_.c5, nb_.c6, nb_.c7⟩
  clear nb_
  have nb_ := NB_Ub.out.below Z_Ub.out
  have lb := nb_.lt
  obtain ⟨b0, b1, b2, b3, b4, b5, b6, b7⟩ : w7.cell? ⟨qUb, 0, none⟩ = some (.slice Ub.dv.A Ub.dv.n Ub.dv.c) ∧ w7.cell? ⟨qUb, 1, none⟩ = some (.slice Ub.pt.A Ub.pt.n Ub.pt.c) ∧ w7.cell? ⟨qUb, 2, none⟩ = some (.slice Ub.lk.A Ub.lk.n Ub.lk.c) ∧ w7.cell? ⟨qUb, 3, none⟩ = some (.slice Ub.dm.A Ub.dm.n Ub.dm.c) ∧ w7.cell? ⟨qUb, 4, none⟩ = some (.slice Ub.st.A Ub.st.n Ub.st.c) ∧ w7.cell? ⟨qUb, 5, none⟩ = some (.slice Ub.fl.A Ub.fl.n Ub.fl.c) ∧ w7.cell? ⟨qUb, 6, none⟩ = some (.slice Ub.vr.A Ub.vr.n Ub.vr.c) ∧ w7.cell? ⟨qUb, 7, none⟩ = some (.slice Ub.ir.A Ub.ir.n Ub.ir.c) := ⟨nb_.c0, nb_.c1, nb_.c2, nb_.c3, nb_.c4, nb_.c5, nb_.c6, nb_.c7⟩
  clear nb_
  go_upto_region 8 with (first
    | ((with_reducible refine wpList_lineOf ?hg (.tmp 3) ?ho (w.heap.size + 1) ?hx L s1 s2 s3 s4 lb_ ?_); (case hg => rfl); (case ho => rfl); (case hx => rfl))
    | (go_at_call 14; (refine (PC.out _ X7.out).mono ?_); rintro e w8 ⟨Uc, rfl, hr, hb⟩; have Y8 := Lib.hid (trans_below Y7.out hb); have X8 := Lib.hid (trans_below X7.out hb); have Z_Ua := Lib.hid (trans_below Z_Ua.out hb); have Z_Ub := Lib.hid (trans_below Z_Ub.out hb); have R_Uc := Lib.hid hr; clear hr; skip; clear hb))
  clear f0 f1 f2 f3 f4 f5 f6 f7 g2 g8 g10 g11 g16 lb_ la a0 a1 a2 a3 a4 a5 a6 a7 lb b0 b1 b2 b3 b4 b5 b6 b7
  obtain ⟨w9, hw9⟩ : ∃ w9, w8.alloc (.cells #[.slice Uc.dv.A Uc.dv.n Uc.dv.c, .slice Uc.pt.A Uc.pt.n Uc.pt.c, .slice Uc.lk.A Uc.lk.n Uc.lk.c, .slice Uc.dm.A Uc.dm.n Uc.dm.c, .slice Uc.st.A Uc.st.n Uc.st.c, .slice Uc.fl.A Uc.fl.n Uc.fl.c, .slice Uc.vr.A Uc.vr.n Uc.vr.c, .slice Uc.ir.A Uc.ir.n Uc.ir.c] 31) = w9 := ⟨_, rfl⟩
  have A_ : Below w8.heap.size w8 w9 := by rw [← hw9]; exact alloc_below _ _
  obtain ⟨qUc, hqUc⟩ : ∃ q, w8.heap.size = q := ⟨_, rfl⟩
  have NB_Uc := Lib.hid (show NBox w9 qUc Uc by rw [← hw9, ← hqUc]; exact NBox.new _ _ _)
  have N_Uc := Lib.hid (R_Uc.out.up A_)
  have Y9 := Lib.hid (trans_below Y8.out A_)
  have X9 := Lib.hid (trans_below X8.out A_)
  have Z_Ua := Lib.hid (trans_below Z_Ua.out A_)
  have Z_Ub := Lib.hid (trans_below Z_Ub.out A_)
  have Z_Uc := Lib.hid (Below.refl w9.heap.size w9)
  have TQ_Uc := Lib.hid (show TBx w9 qUc 31 (netC Uc) by rw [← hw9, ← hqUc]; exact TBx.new w8 _ _)
  have HQ_Uc := Lib.hid hqUc
  have BA_Uc := Lib.hid A_
  rw [hw9, hqUc]
  clear hw9 hqUc A_
  obtain ⟨⟨f0, f1, f2, f3, f4, f5, f6, f7⟩, ⟨g2, g8, g10, g11, g16⟩, lb_, _⟩ := KN.out _ Y9.out
  have nb_ := NB_Ua.out.below Z_Ua.out
  have la := nb_.lt
  obtain ⟨a0, a1, a2, a3, a4, a5, a6, a7⟩ : w9.cell? ⟨qUa, 0, none⟩ = some (.slice Ua.dv.A Ua.dv.n Ua.dv.c) ∧ w9.cell? ⟨qUa, 1, none⟩ = some (.slice Ua.pt.A Ua.pt.n Ua.pt.c) ∧ w9.cell? ⟨qUa, 2, none⟩ = some (.slice Ua.lk.A Ua.lk.n Ua.lk.c) ∧ w9.cell? ⟨qUa, 3, none⟩ = some (.slice Ua.dm.A Ua.dm.n Ua.dm.c) ∧ w9.cell? ⟨qUa, 4, none⟩ = some (.slice Ua.st.A Ua.st.n Ua.st.c) ∧ w9.cell? ⟨qUa, 5, none⟩ = some (.slice Ua.fl.A Ua.fl.n Ua.fl.c) ∧ w9.cell? ⟨qUa, 6, none⟩ = some (.slice Ua.vr.A Ua.vr.n Ua.vr.c) ∧ w9.cell? ⟨qUa, 7, none⟩ = some (.slice Ua.ir.A Ua.ir.n Ua.ir.c) := ⟨nb_.c0, nb_.c1, nb_.c2, nb_.c3, nb_.c4, nb_.c5, nb_.c6, nb_.c7⟩
  clear nb_
  have nb_ := NB_Ub.out.below Z_Ub.out
  have lb := nb_.lt
  obtain ⟨b0, b1, b2, b3, b4, b5, b6, b7⟩ : w9.cell? ⟨qUb, 0, none⟩ = some (.slice Ub.dv.A Ub.dv.n Ub.dv.c) ∧ w9.cell? ⟨qUb, 1, none⟩ = some (.slice Ub.pt.A Ub.pt.n Ub.pt.c) ∧ w9.cell? ⟨qUb, 2, none⟩ = some (.slice Ub.lk.A Ub.lk.n Ub.lk.c) ∧ w9.cell? ⟨qUb, 3, none⟩ = some (.slice Ub.dm.A Ub.dm.n Ub.dm.c) ∧ w9.cell? ⟨qUb, 4, none⟩ = some (.slice Ub.st.A Ub.st.n Ub.st.c) ∧ w9.cell? ⟨qUb, 5, none⟩ = some (.slice Ub.fl.A Ub.fl.n Ub.fl.c) ∧ w9.cell? ⟨qUb, 6, none⟩ = some (.slice Ub.vr.A Ub.vr.n Ub.vr.c) ∧ w9.cell? ⟨qUb, 7, none⟩ = some (.slice Ub.ir.A Ub.ir.n Ub.ir.c) := ⟨nb_.c0, nb_.c1, nb_.c2, nb_.c3, nb_.c4, nb_.c5, nb_.c6, nb_.c7⟩
  clear nb_
  have nb_ := NB_Uc.out.below Z_Uc.out
  have lc := nb_.lt
  obtain ⟨c0, c1, c2, c3, c4, c5, c6, c7⟩ : w9.cell? ⟨qUc, 0, none⟩ = some (.slice Uc.dv.A Uc.dv.n Uc.dv.c) ∧ w9.cell? ⟨qUc, 1, none⟩ = some (.slice Uc.pt.A Uc.pt.n Uc.pt.c) ∧ w9.cell? ⟨qUc, 2, none⟩ = some (.slice Uc.lk.A Uc.lk.n Uc.lk.c) ∧ w9.cell? ⟨qUc, 3, none⟩ = some (.slice Uc.dm.A Uc.dm.n Uc.dm.c) ∧ w9.cell? ⟨qUc, 4, none⟩ = some (.slice Uc.st.A Uc.st.n Uc.st.c) ∧ w9.cell? ⟨qUc, 5, none⟩ = some (.slice Uc.fl.A Uc.fl.n Uc.fl.c) ∧ w9.cell? ⟨qUc, 6, none⟩ = some (.slice Uc.vr.A Uc.vr.n Uc.vr.c) ∧ w9.cell? ⟨qUc, 7, none⟩ = some (.slice Uc.ir.A Uc.ir.n Uc.ir.c) := ⟨nb_.c0, nb_.c1, nb_.c2, nb_.c3, nb_.c4, nb_.c5, nb_.c6, nb_.c7⟩
  clear nb_
  by_cases hA : EA = 0
  · have hB : EB ≠ 0 := fun e => AP.out.1 ⟨hA, e⟩
    have hC : EC ≠ 0 := fun e => AP.out.2.1 ⟨hA, e⟩
    have xA := show (EA == 0) = true by simpa using hA
    have xB := show (EB == 0) = false by simpa using hB
    have xC := show (EC == 0) = false by simpa using hC
    obtain ⟨ok_, z_, ep_, d, ed_, ld_, ev_⟩ := KA.out hA
    have OKA := Lib.hid ok_
    have ZZA := Lib.hid z_
    have hd2 := HDV.out
    rw [hd2] at ed_
    subst ed_
    have NA_ := Lib.hid (show NRead w5 (allB w5) NA Ua from N_Ua.out)
    have upt := show Ua.pt.n = S.pt.n by have e1 := NA_.out.pt.len; have e2 := NN.out.1; rw [ep_] at e1; omega
    have UPT := Lib.hid upt
    have ldv := show d < Ua.dv.n by have e1 := NA_.out.dv.len; omega
    obtain ⟨bp, op, vp, ea_, _, hbp, hvp, rp⟩ := rsl_at NA_.out.dv d ldv DevV.zero
    have XRA := fun (w' : World) (hb : Below w5.heap.size w5 w') => XR.out NA Ua w' (NA_.out.up hb) ZZA.out OKA.out
    rw [ea_] at XRA
    replace XRA := Lib.hid XRA
    have EV_ := Lib.hid ev_
    have hvp2 := hvp
    generalize NA.devices.getD d DevV.zero = Q at *
    have hvp3 : vp = devC Q := hvp2
    rw [hvp3] at rp
    have EP_ := Lib.hid ea_
    have KT := Lib.hid (show ∀ wx, Below w5.heap.size w5 wx → wx.cell? ⟨bp, op + d * 5, none⟩ = some (.int .i64 Q.row) ∧ wx.cell? ⟨bp, op + d * 5 + 1, none⟩ = some (.int .i64 Q.prio) ∧ wx.cell? ⟨bp, op + d * 5 + 2, none⟩ = some (.string (str Q.name)) ∧ wx.cell? ⟨bp, op + d * 5 + 3, none⟩ = some (.int .u64 Q.mac) ∧ wx.cell? ⟨bp, op + d * 5 + 4, none⟩ = some (.int .u32 Q.vtep) from fun wx hx => by
      have r := rangeAt_keep rp (hx.block bp hbp)
      exact ⟨r 0 _ rfl, r 1 _ rfl, r 2 _ rfl, r 3 _ rfl, r 4 _ rfl⟩)
    clear ok_ z_ ep_ hd2 upt hvp hvp2 hvp3 rp ea_ ev_ ld_
    have LDV := Lib.hid ldv
    clear ldv
    replace hA := Lib.hid hA
    go_upto_region 10 with fail
    go_upto_region 11 with (go_at_call 25; (refine (DV.out _ X9.out).mono ?_); rintro e w10 ⟨rfl, hb⟩; have Y10 := Lib.hid (trans_below Y9.out hb); have X10 := Lib.hid (trans_below X9.out hb); have Z_Ua := Lib.hid (trans_below Z_Ua.out hb); have Z_Ub := Lib.hid (trans_below Z_Ub.out hb); have Z_Uc := Lib.hid (trans_below Z_Uc.out hb); clear f0 f1 f2 f3 f4 f5 f6 f7 g2 g8 g10 g11 g16 lb_ la a0 a1 a2 a3 a4 a5 a6 a7 lb b0 b1 b2 b3 b4 b5 b6 b7 lc c0 c1 c2 c3 c4 c5 c6 c7; obtain ⟨⟨f0, f1, f2, f3, f4, f5, f6, f7⟩, ⟨g2, g8, g10, g11, g16⟩, lb_, _⟩ := KN.out _ Y10.out; have nb_ := NB_Ua.out.below Z_Ua.out; have la := nb_.lt; obtain ⟨a0, a1, a2, a3, a4, a5, a6, a7⟩ : w10.cell? ⟨qUa, 0, none⟩ = some (.slice Ua.dv.A Ua.dv.n Ua.dv.c) ∧ w10.cell? ⟨qUa, 1, none⟩ = some (.slice Ua.pt.A Ua.pt.n Ua.pt.c) ∧ w10.cell? ⟨qUa, 2, none⟩ = some (.slice Ua.lk.A Ua.lk.n Ua.lk.c) ∧ w10.cell? ⟨qUa, 3, none⟩ = some (.slice Ua.dm.A Ua.dm.n Ua.dm.c) ∧ w10.cell? ⟨qUa, 4, none⟩ = some (.slice Ua.st.A Ua.st.n Ua.st.c) ∧ w10.cell? ⟨qUa, 5, none⟩ = some (.slice Ua.fl.A Ua.fl.n Ua.fl.c) ∧ w10.cell? ⟨qUa, 6, none⟩ = some (.slice Ua.vr.A Ua.vr.n Ua.vr.c) ∧ w10.cell? ⟨qUa, 7, none⟩ = some (.slice Ua.ir.A Ua.ir.n Ua.ir.c) := ⟨nb_.c0, nb_.c1, nb_.c2, nb_.c3, nb_.c4, nb_.c5, nb_.c6, nb_.c7⟩; clear nb_; have nb_ := NB_Ub.out.below Z_Ub.out; have lb := nb_.lt; obtain ⟨b0, b1, b2, b3, b4, b5, b6, b7⟩ : w10.cell? ⟨qUb, 0, none⟩ = some (.slice Ub.dv.A Ub.dv.n Ub.dv.c) ∧ w10.cell? ⟨qUb, 1, none⟩ = some (.slice Ub.pt.A Ub.pt.n Ub.pt.c) ∧ w10.cell? ⟨qUb, 2, none⟩ = some (.slice Ub.lk.A Ub.lk.n Ub.lk.c) ∧ w10.cell? ⟨qUb, 3, none⟩ = some (.slice Ub.dm.A Ub.dm.n Ub.dm.c) ∧ w10.cell? ⟨qUb, 4, none⟩ = some (.slice Ub.st.A Ub.st.n Ub.st.c) ∧ w10.cell? ⟨qUb, 5, none⟩ = some (.slice Ub.fl.A Ub.fl.n Ub.fl.c) ∧ w10.cell? ⟨qUb, 6, none⟩ = some (.slice Ub.vr.A Ub.vr.n Ub.vr.c) ∧ w10.cell? ⟨qUb, 7, none⟩ = some (.slice Ub.ir.A Ub.ir.n Ub.ir.c) := ⟨nb_.c0, nb_.c1, nb_.c2, nb_.c3, nb_.c4, nb_.c5, nb_.c6, nb_.c7⟩; clear nb_; have nb_ := NB_Uc.out.below Z_Uc.out; have lc := nb_.lt; obtain ⟨c0, c1, c2, c3, c4, c5, c6, c7⟩ : w10.cell? ⟨qUc, 0, none⟩ = some (.slice Uc.dv.A Uc.dv.n Uc.dv.c) ∧ w10.cell? ⟨qUc, 1, none⟩ = some (.slice Uc.pt.A Uc.pt.n Uc.pt.c) ∧ w10.cell? ⟨qUc, 2, none⟩ = some (.slice Uc.lk.A Uc.lk.n Uc.lk.c) ∧ w10.cell? ⟨qUc, 3, none⟩ = some (.slice Uc.dm.A Uc.dm.n Uc.dm.c) ∧ w10.cell? ⟨qUc, 4, none⟩ = some (.slice Uc.st.A Uc.st.n Uc.st.c) ∧ w10.cell? ⟨qUc, 5, none⟩ = some (.slice Uc.fl.A Uc.fl.n Uc.fl.c) ∧ w10.cell? ⟨qUc, 6, none⟩ = some (.slice Uc.vr.A Uc.vr.n Uc.vr.c) ∧ w10.cell? ⟨qUc, 7, none⟩ = some (.slice Uc.ir.A Uc.ir.n Uc.ir.c) := ⟨nb_.c0, nb_.c1, nb_.c2, nb_.c3, nb_.c4, nb_.c5, nb_.c6, nb_.c7⟩; clear nb_; clear hb)
    have ZKa_ := Lib.hid (show Below w5.heap.size w5 w10 from Z_Ua.out)
    have ZKb_ := Lib.hid (show Below w7.heap.size w7 w10 from Z_Ub.out)
    have ZKc_ := Lib.hid (show Below w9.heap.size w9 w10 from Z_Uc.out)
    have y1_ : ¬ (d : Int) < 0 := by omega
    have ld_ := LDV.out
    have y2_ : ¬ (d : Int) ≥ (Ua.dv.n : Int) := by omega
    have y3_ : (d : Int) < (Ua.dv.n : Int) := by omega
    have y4_ : (Q.vtep != L.addr) = false := by rw [EV_.out]; simp
    have y5_ : ((Ua.pt.n : Int) != (S.pt.n : Int)) = false := by rw [UPT.out]; simp
    have cd_ := NA_.out.dv.le
    have KR_ := Lib.hid (show ∀ wx, Below w10.heap.size w10 wx → (wx.cell? ⟨w.heap.size, 0, none⟩ = some (.slice S.dv.A S.dv.n S.dv.c) ∧ wx.cell? ⟨w.heap.size, 1, none⟩ = some (.slice S.pt.A S.pt.n S.pt.c) ∧ wx.cell? ⟨w.heap.size, 2, none⟩ = some (.slice S.lk.A S.lk.n S.lk.c) ∧ wx.cell? ⟨w.heap.size, 3, none⟩ = some (.slice S.dm.A S.dm.n S.dm.c) ∧ wx.cell? ⟨w.heap.size, 4, none⟩ = some (.slice S.st.A S.st.n S.st.c) ∧ wx.cell? ⟨w.heap.size, 5, none⟩ = some (.slice S.fl.A S.fl.n S.fl.c) ∧ wx.cell? ⟨w.heap.size, 6, none⟩ = some (.slice S.vr.A S.vr.n S.vr.c) ∧ wx.cell? ⟨w.heap.size, 7, none⟩ = some (.slice S.ir.A S.ir.n S.ir.c)) ∧ (wx.cell? ⟨w.heap.size + 1, 2, none⟩ = some (.string (str L.dev)) ∧ wx.cell? ⟨w.heap.size + 1, 8, none⟩ = some (.int .u32 L.addr) ∧ wx.cell? ⟨w.heap.size + 1, 10, none⟩ = some (.int .i64 L.vlan) ∧ wx.cell? ⟨w.heap.size + 1, 11, none⟩ = some (.int .i64 L.num) ∧ wx.cell? ⟨w.heap.size + 1, 16, none⟩ = some (.slice s4.A s4.n s4.c)) ∧ w.heap.size + 1 < wx.heap.size ∧ (wx.cell? ⟨qUa, 0, none⟩ = some (.slice Ua.dv.A Ua.dv.n Ua.dv.c) ∧ wx.cell? ⟨qUa, 1, none⟩ = some (.slice Ua.pt.A Ua.pt.n Ua.pt.c) ∧ wx.cell? ⟨qUa, 2, none⟩ = some (.slice Ua.lk.A Ua.lk.n Ua.lk.c) ∧ wx.cell? ⟨qUa, 3, none⟩ = some (.slice Ua.dm.A Ua.dm.n Ua.dm.c) ∧ wx.cell? ⟨qUa, 4, none⟩ = some (.slice Ua.st.A Ua.st.n Ua.st.c) ∧ wx.cell? ⟨qUa, 5, none⟩ = some (.slice Ua.fl.A Ua.fl.n Ua.fl.c) ∧ wx.cell? ⟨qUa, 6, none⟩ = some (.slice Ua.vr.A Ua.vr.n Ua.vr.c) ∧ wx.cell? ⟨qUa, 7, none⟩ = some (.slice Ua.ir.A Ua.ir.n Ua.ir.c)) ∧ qUa < wx.heap.size from fun wx hx => by
        have y_ := trans_below Y10.out hx
        obtain ⟨f_, g_, _⟩ := KN.out _ y_
        have zUa := trans_below Z_Ua.out hx
        have nbUa := NB_Ua.out.below zUa
        exact ⟨f_, g_, (by have := ql1; have := y_.size; omega), ⟨nbUa.c0, nbUa.c1, nbUa.c2, nbUa.c3, nbUa.c4, nbUa.c5, nbUa.c6, nbUa.c7⟩, nbUa.lt⟩)
    clear f0 f1 f2 f3 f4 f5 f6 f7 g2 g8 g10 g11 g16 lb_ la a0 a1 a2 a3 a4 a5 a6 a7 lb b0 b1 b2 b3 b4 b5 b6 b7 lc c0 c1 c2 c3 c4 c5 c6 c7
    refine wp_region_text (fun wx => Below w10.heap.size w10 wx) (by kernel_rfl) (by kernel_rfl) ((Below.refl _ _).drew) ?_
    repeat
      first
        | (refine Seq.pass rfl ?_; simp only [Act.put, List.setIfInBounds_toArray, List.set_cons_zero, List.set_cons_succ])
        | (refine Seq.run ?_ rfl (fun wx hx => ?_) ?_
           rotate_left
           · obtain ⟨⟨f0, f1, f2, f3, f4, f5, f6, f7⟩, ⟨g2, g8, g10, g11, g16⟩, ql_, ⟨a0, a1, a2, a3, a4, a5, a6, a7⟩, la⟩ := KR_.out wx hx
             rw [EP_.out] at a0
             obtain ⟨p0, p1, p2, p3, p4⟩ := KT.out wx (trans_below ZKa_.out hx)
             go_simp
             first
               | (refine StepRun.val ?_; exact hx)
               | (refine StepRun.call (v := .bool true) ?_; (refine Calls.mono (XRA.out _ (trans_below ZKa_.out hx)) ?_); rintro e w' ⟨rfl, hb⟩; exact ⟨rfl, trans_below hx hb⟩)
           simp only [Act.put, List.setIfInBounds_toArray, List.set_cons_zero, List.set_cons_succ])
    refine Seq.last (fun w11 hb => ?_)
    have Y11 := Lib.hid (trans_below Y10.out hb)
    have X11 := Lib.hid (trans_below X10.out hb)
    have Z_Ua := Lib.hid (trans_below Z_Ua.out hb)
    have Z_Ub := Lib.hid (trans_below Z_Ub.out hb)
    have Z_Uc := Lib.hid (trans_below Z_Uc.out hb)
    clear hb KR_
    obtain ⟨⟨f0, f1, f2, f3, f4, f5, f6, f7⟩, ⟨g2, g8, g10, g11, g16⟩, lb_, _⟩ := KN.out _ Y11.out
    have nb_ := NB_Ua.out.below Z_Ua.out
    have la := nb_.lt
    obtain ⟨a0, a1, a2, a3, a4, a5, a6, a7⟩ : w11.cell? ⟨qUa, 0, none⟩ = some (.slice Ua.dv.A Ua.dv.n Ua.dv.c) ∧ w11.cell? ⟨qUa, 1, none⟩ = some (.slice Ua.pt.A Ua.pt.n Ua.pt.c) ∧ w11.cell? ⟨qUa, 2, none⟩ = some (.slice Ua.lk.A Ua.lk.n Ua.lk.c) ∧ w11.cell? ⟨qUa, 3, none⟩ = some (.slice Ua.dm.A Ua.dm.n Ua.dm.c) ∧ w11.cell? ⟨qUa, 4, none⟩ = some (.slice Ua.st.A Ua.st.n Ua.st.c) ∧ w11.cell? ⟨qUa, 5, none⟩ = some (.slice Ua.fl.A Ua.fl.n Ua.fl.c) ∧ w11.cell? ⟨qUa, 6, none⟩ = some (.slice Ua.vr.A Ua.vr.n Ua.vr.c) ∧ w11.cell? ⟨qUa, 7, none⟩ = some (.slice Ua.ir.A Ua.ir.n Ua.ir.c) := ⟨nb_.c0, nb_.c1, nb_.c2, nb_.c3, nb_.c4, nb_.c5, nb_.c6, nb_.c7⟩
    clear nb_
    have nb_ := NB_Ub.out.below Z_Ub.out
    have lb := nb_.lt
    obtain ⟨b0, b1, b2, b3, b4, b5, b6, b7⟩ : w11.cell? ⟨qUb, 0, none⟩ = some (.slice Ub.dv.A Ub.dv.n Ub.dv.c) ∧ w11.cell? ⟨qUb, 1, none⟩ = some (.slice Ub.pt.A Ub.pt.n Ub.pt.c) ∧ w11.cell? ⟨qUb, 2, none⟩ = some (.slice Ub.lk.A Ub.lk.n Ub.lk.c) ∧ w11.cell? ⟨qUb, 3, none⟩ = some (.slice Ub.dm.A Ub.dm.n Ub.dm.c) ∧ w11.cell? ⟨qUb, 4, none⟩ = some (.slice Ub.st.A Ub.st.n Ub.st.c) ∧ w11.cell? ⟨qUb, 5, none⟩ = some (.slice Ub.fl.A Ub.fl.n Ub.fl.c) ∧ w11.cell? ⟨qUb, 6, none⟩ = some (.slice Ub.vr.A Ub.vr.n Ub.vr.c) ∧ w11.cell? ⟨qUb, 7, none⟩ = some (.slice Ub.ir.A Ub.ir.n Ub.ir.c) := ⟨nb_.c0, nb_.c1, nb_.c2, nb_.c3, nb_.c4, nb_.c5, nb_.c6, nb_.c7⟩
    clear nb_
    have nb_ := NB_Uc.out.below Z_Uc.out
    have lc := nb_.lt
    obtain ⟨c0, c1, c2, c3, c4, c5, c6, c7⟩ : w11.cell? ⟨qUc, 0, none⟩ = some (.slice Uc.dv.A Uc.dv.n Uc.dv.c) ∧ w11.cell? ⟨qUc, 1, none⟩ = some (.slice Uc.pt.A Uc.pt.n Uc.pt.c) ∧ w11.cell? ⟨qUc, 2, none⟩ = some (.slice Uc.lk.A Uc.lk.n Uc.lk.c) ∧ w11.cell? ⟨qUc, 3, none⟩ = some (.slice Uc.dm.A Uc.dm.n Uc.dm.c) ∧ w11.cell? ⟨qUc, 4, none⟩ = some (.slice Uc.st.A Uc.st.n Uc.st.c) ∧ w11.cell? ⟨qUc, 5, none⟩ = some (.slice Uc.fl.A Uc.fl.n Uc.fl.c) ∧ w11.cell? ⟨qUc, 6, none⟩ = some (.slice Uc.vr.A Uc.vr.n Uc.vr.c) ∧ w11.cell? ⟨qUc, 7, none⟩ = some (.slice Uc.ir.A Uc.ir.n Uc.ir.c) := ⟨nb_.c0, nb_.c1, nb_.c2, nb_.c3, nb_.c4, nb_.c5, nb_.c6, nb_.c7⟩
    clear nb_
    go_upto_region 13 with fail
    have KR_ := Lib.hid (show ∀ wx, Below w11.heap.size w11 wx → (wx.cell? ⟨w.heap.size, 0, none⟩ = some (.slice S.dv.A S.dv.n S.dv.c) ∧ wx.cell? ⟨w.heap.size, 1, none⟩ = some (.slice S.pt.A S.pt.n S.pt.c) ∧ wx.cell? ⟨w.heap.size, 2, none⟩ = some (.slice S.lk.A S.lk.n S.lk.c) ∧ wx.cell? ⟨w.heap.size, 3, none⟩ = some (.slice S.dm.A S.dm.n S.dm.c) ∧ wx.cell? ⟨w.heap.size, 4, none⟩ = some (.slice S.st.A S.st.n S.st.c) ∧ wx.cell? ⟨w.heap.size, 5, none⟩ = some (.slice S.fl.A S.fl.n S.fl.c) ∧ wx.cell? ⟨w.heap.size, 6, none⟩ = some (.slice S.vr.A S.vr.n S.vr.c) ∧ wx.cell? ⟨w.heap.size, 7, none⟩ = some (.slice S.ir.A S.ir.n S.ir.c)) ∧ (wx.cell? ⟨w.heap.size + 1, 2, none⟩ = some (.string (str L.dev)) ∧ wx.cell? ⟨w.heap.size + 1, 8, none⟩ = some (.int .u32 L.addr) ∧ wx.cell? ⟨w.heap.size + 1, 10, none⟩ = some (.int .i64 L.vlan) ∧ wx.cell? ⟨w.heap.size + 1, 11, none⟩ = some (.int .i64 L.num) ∧ wx.cell? ⟨w.heap.size + 1, 16, none⟩ = some (.slice s4.A s4.n s4.c)) ∧ w.heap.size + 1 < wx.heap.size from fun wx hx => by
        have y_ := trans_below Y11.out hx
        obtain ⟨f_, g_, _⟩ := KN.out _ y_
        exact ⟨f_, g_, (by have := ql1; have := y_.size; omega)⟩)
    clear f0 f1 f2 f3 f4 f5 f6 f7 g2 g8 g10 g11 g16 lb_ la a0 a1 a2 a3 a4 a5 a6 a7 lb b0 b1 b2 b3 b4 b5 b6 b7 lc c0 c1 c2 c3 c4 c5 c6 c7
    refine wp_region_text (fun wx => Below w11.heap.size w11 wx) (by kernel_rfl) (by kernel_rfl) ((Below.refl _ _).drew) ?_
    repeat
      first
        | (refine Seq.pass rfl ?_; simp only [Act.put, List.setIfInBounds_toArray, List.set_cons_zero, List.set_cons_succ])
        | (refine Seq.run ?_ rfl (fun wx hx => ?_) ?_
           rotate_left
           · obtain ⟨⟨f0, f1, f2, f3, f4, f5, f6, f7⟩, ⟨g2, g8, g10, g11, g16⟩, ql_⟩ := KR_.out wx hx
             go_simp
             first
               | (refine StepRun.val ?_; exact hx)

           simp only [Act.put, List.setIfInBounds_toArray, List.set_cons_zero, List.set_cons_succ])
    refine Seq.last (fun w12 hb => ?_)
    have Y12 := Lib.hid (trans_below Y11.out hb)
    have X12 := Lib.hid (trans_below X11.out hb)
    have Z_Ua := Lib.hid (trans_below Z_Ua.out hb)
    have Z_Ub := Lib.hid (trans_below Z_Ub.out hb)
    have Z_Uc := Lib.hid (trans_below Z_Uc.out hb)
    clear hb KR_
    obtain ⟨⟨f0, f1, f2, f3, f4, f5, f6, f7⟩, ⟨g2, g8, g10, g11, g16⟩, lb_, _⟩ := KN.out _ Y12.out
    have nb_ := NB_Ua.out.below Z_Ua.out
    have la := nb_.lt
    obtain ⟨a0, a1, a2, a3, a4, a5, a6, a7⟩ : w12.cell? ⟨qUa, 0, none⟩ = some (.slice Ua.dv.A Ua.dv.n Ua.dv.c) ∧ w12.cell? ⟨qUa, 1, none⟩ = some (.slice Ua.pt.A Ua.pt.n Ua.pt.c) ∧ w12.cell? ⟨qUa, 2, none⟩ = some (.slice Ua.lk.A Ua.lk.n Ua.lk.c) ∧ w12.cell? ⟨qUa, 3, none⟩ = some (.slice Ua.dm.A Ua.dm.n Ua.dm.c) ∧ w12.cell? ⟨qUa, 4, none⟩ = some (.slice Ua.st.A Ua.st.n Ua.st.c) ∧ w12.cell? ⟨qUa, 5, none⟩ = some (.slice Ua.fl.A Ua.fl.n Ua.fl.c) ∧ w12.cell? ⟨qUa, 6, none⟩ = some (.slice Ua.vr.A Ua.vr.n Ua.vr.c) ∧ w12.cell? ⟨qUa, 7, none⟩ = some (.slice Ua.ir.A Ua.ir.n Ua.ir.c) := ⟨nb_.c0, nb_.c1, nb_.c2, nb_.c3, nb_.c4, nb_.c5, nb_.c6, nb_.c7⟩
    clear nb_
    have nb_ := NB_Ub.out.below Z_Ub.out
    have lb := nb_.lt
    obtain ⟨b0, b1, b2, b3, b4, b5, b6, b7⟩ : w12.cell? ⟨qUb, 0, none⟩ = some (.slice Ub.dv.A Ub.dv.n Ub.dv.c) ∧ w12.cell? ⟨qUb, 1, none⟩ = some (.slice Ub.pt.A Ub.pt.n Ub.pt.c) ∧ w12.cell? ⟨qUb, 2, none⟩ = some (.slice Ub.lk.A Ub.lk.n Ub.lk.c) ∧ w12.cell? ⟨qUb, 3, none⟩ = some (.slice Ub.dm.A Ub.dm.n Ub.dm.c) ∧ w12.cell? ⟨qUb, 4, none⟩ = some (.slice Ub.st.A Ub.st.n Ub.st.c) ∧ w12.cell? ⟨qUb, 5, none⟩ = some (.slice Ub.fl.A Ub.fl.n Ub.fl.c) ∧ w12.cell? ⟨qUb, 6, none⟩ = some (.slice Ub.vr.A Ub.vr.n Ub.vr.c) ∧ w12.cell? ⟨qUb, 7, none⟩ = some (.slice Ub.ir.A Ub.ir.n Ub.ir.c) := ⟨nb_.c0, nb_.c1, nb_.c2, nb_.c3, nb_.c4, nb_.c5, nb_.c6, nb_.c7⟩
    clear nb_
    have nb_ := NB_Uc.out.below Z_Uc.out
    have lc := nb_.lt
    obtain ⟨c0, c1, c2, c3, c4, c5, c6, c7⟩ : w12.cell? ⟨qUc, 0, none⟩ = some (.slice Uc.dv.A Uc.dv.n Uc.dv.c) ∧ w12.cell? ⟨qUc, 1, none⟩ = some (.slice Uc.pt.A Uc.pt.n Uc.pt.c) ∧ w12.cell? ⟨qUc, 2, none⟩ = some (.slice Uc.lk.A Uc.lk.n Uc.lk.c) ∧ w12.cell? ⟨qUc, 3, none⟩ = some (.slice Uc.dm.A Uc.dm.n Uc.dm.c) ∧ w12.cell? ⟨qUc, 4, none⟩ = some (.slice Uc.st.A Uc.st.n Uc.st.c) ∧ w12.cell? ⟨qUc, 5, none⟩ = some (.slice Uc.fl.A Uc.fl.n Uc.fl.c) ∧ w12.cell? ⟨qUc, 6, none⟩ = some (.slice Uc.vr.A Uc.vr.n Uc.vr.c) ∧ w12.cell? ⟨qUc, 7, none⟩ = some (.slice Uc.ir.A Uc.ir.n Uc.ir.c) := ⟨nb_.c0, nb_.c1, nb_.c2, nb_.c3, nb_.c4, nb_.c5, nb_.c6, nb_.c7⟩
    clear nb_
    go_upto_region 15 with fail
    have xD := show (EC != 0) = true by simpa using hC
    have EZ := Lib.hid (ZC.out hC)
    clear hA hB hC
    go_wp2_with (go_at_call 22; (refine (XS.out NV.zero Uc NSl3.nil _ (EZ.out ▸ N_Uc.out.up Z_Uc.out) (none_read _) none_sz).mono ?_); rintro e w13 ⟨rfl, hb⟩; have Y13 := Lib.hid (trans_below Y12.out hb); have X13 := Lib.hid (trans_below X12.out hb); have Z_Ua := Lib.hid (trans_below Z_Ua.out hb); have Z_Ub := Lib.hid (trans_below Z_Ub.out hb); have Z_Uc := Lib.hid (trans_below Z_Uc.out hb); skip; clear hb)
    go_ret
    exact ⟨rfl, X13.out⟩
  by_cases hB : EB = 0
  · have hC : EC ≠ 0 := fun e => AP.out.2.2 ⟨hB, e⟩
    have xA := show (EA == 0) = false by simpa using hA
    have xB := show (EB == 0) = true by simpa using hB
    have xC := show (EC == 0) = false by simpa using hC
    obtain ⟨hn_, ok_, z_, el_, d, m, ed_, ea_, ef_⟩ := KB.out hB
    have OKN := Lib.hid hn_
    have OKB := Lib.hid ok_
    have ZZB := Lib.hid z_
    have hd2 := HDV.out
    rw [hd2] at ed_
    subst ed_
    have NB_ := Lib.hid (show NRead w7 (allB w7) NB Ub from N_Ub.out)
    have udm := show Ub.dm.n = S.dm.n by have e1 := NB_.out.dm.len; have e2 := NN.out.2.1; omega
    have UDM := Lib.hid udm
    have EA_ := Lib.hid ea_
    have EF_ := Lib.hid ef_
    clear hn_ ok_ z_ el_ ea_ ef_ udm hd2
    replace hB := Lib.hid hB
    go_upto_region 10 with fail
    go_upto_region 11 with (go_at_call 25; (refine (DV.out _ X9.out).mono ?_); rintro e w10 ⟨rfl, hb⟩; have Y10 := Lib.hid (trans_below Y9.out hb); have X10 := Lib.hid (trans_below X9.out hb); have Z_Ua := Lib.hid (trans_below Z_Ua.out hb); have Z_Ub := Lib.hid (trans_below Z_Ub.out hb); have Z_Uc := Lib.hid (trans_below Z_Uc.out hb); clear f0 f1 f2 f3 f4 f5 f6 f7 g2 g8 g10 g11 g16 lb_ la a0 a1 a2 a3 a4 a5 a6 a7 lb b0 b1 b2 b3 b4 b5 b6 b7 lc c0 c1 c2 c3 c4 c5 c6 c7; obtain ⟨⟨f0, f1, f2, f3, f4, f5, f6, f7⟩, ⟨g2, g8, g10, g11, g16⟩, lb_, _⟩ := KN.out _ Y10.out; have nb_ := NB_Ua.out.below Z_Ua.out; have la := nb_.lt; obtain ⟨a0, a1, a2, a3, a4, a5, a6, a7⟩ : w10.cell? ⟨qUa, 0, none⟩ = some (.slice Ua.dv.A Ua.dv.n Ua.dv.c) ∧ w10.cell? ⟨qUa, 1, none⟩ = some (.slice Ua.pt.A Ua.pt.n Ua.pt.c) ∧ w10.cell? ⟨qUa, 2, none⟩ = some (.slice Ua.lk.A Ua.lk.n Ua.lk.c) ∧ w10.cell? ⟨qUa, 3, none⟩ = some (.slice Ua.dm.A Ua.dm.n Ua.dm.c) ∧ w10.cell? ⟨qUa, 4, none⟩ = some (.slice Ua.st.A Ua.st.n Ua.st.c) ∧ w10.cell? ⟨qUa, 5, none⟩ = some (.slice Ua.fl.A Ua.fl.n Ua.fl.c) ∧ w10.cell? ⟨qUa, 6, none⟩ = some (.slice Ua.vr.A Ua.vr.n Ua.vr.c) ∧ w10.cell? ⟨qUa, 7, none⟩ = some (.slice Ua.ir.A Ua.ir.n Ua.ir.c) := ⟨nb_.c0, nb_.c1, nb_.c2, nb_.c3, nb_.c4, nb_.c5, nb_.c6, nb_.c7⟩; clear nb_; have nb_ := NB_Ub.out.below Z_Ub.out; have lb := nb_.lt; obtain ⟨b0, b1, b2, b3, b4, b5, b6, b7⟩ : w10.cell? ⟨qUb, 0, none⟩ = some (.slice Ub.dv.A Ub.dv.n Ub.dv.c) ∧ w10.cell? ⟨qUb, 1, none⟩ = some (.slice Ub.pt.A Ub.pt.n Ub.pt.c) ∧ w10.cell? ⟨qUb, 2, none⟩ = some (.slice Ub.lk.A Ub.lk.n Ub.lk.c) ∧ w10.cell? ⟨qUb, 3, none⟩ = some (.slice Ub.dm.A Ub.dm.n Ub.dm.c) ∧ w10.cell? ⟨qUb, 4, none⟩ = some (.slice Ub.st.A Ub.st.n Ub.st.c) ∧ w10.cell? ⟨qUb, 5, none⟩ = some (.slice Ub.fl.A Ub.fl.n Ub.fl.c) ∧ w10.cell? ⟨qUb, 6, none⟩ = some (.slice Ub.vr.A Ub.vr.n Ub.vr.c) ∧ w10.cell? ⟨qUb, 7, none⟩ = some (.slice Ub.ir.A Ub.ir.n Ub.ir.c) := ⟨nb_.c0, nb_.c1, nb_.c2, nb_.c3, nb_.c4, nb_.c5, nb_.c6, nb_.c7⟩; clear nb_; have nb_ := NB_Uc.out.below Z_Uc.out; have lc := nb_.lt; obtain ⟨c0, c1, c2, c3, c4, c5, c6, c7⟩ : w10.cell? ⟨qUc, 0, none⟩ = some (.slice Uc.dv.A Uc.dv.n Uc.dv.c) ∧ w10.cell? ⟨qUc, 1, none⟩ = some (.slice Uc.pt.A Uc.pt.n Uc.pt.c) ∧ w10.cell? ⟨qUc, 2, none⟩ = some (.slice Uc.lk.A Uc.lk.n Uc.lk.c) ∧ w10.cell? ⟨qUc, 3, none⟩ = some (.slice Uc.dm.A Uc.dm.n Uc.dm.c) ∧ w10.cell? ⟨qUc, 4, none⟩ = some (.slice Uc.st.A Uc.st.n Uc.st.c) ∧ w10.cell? ⟨qUc, 5, none⟩ = some (.slice Uc.fl.A Uc.fl.n Uc.fl.c) ∧ w10.cell? ⟨qUc, 6, none⟩ = some (.slice Uc.vr.A Uc.vr.n Uc.vr.c) ∧ w10.cell? ⟨qUc, 7, none⟩ = some (.slice Uc.ir.A Uc.ir.n Uc.ir.c) := ⟨nb_.c0, nb_.c1, nb_.c2, nb_.c3, nb_.c4, nb_.c5, nb_.c6, nb_.c7⟩; clear nb_; clear hb)
    have ZKa_ := Lib.hid (show Below w5.heap.size w5 w10 from Z_Ua.out)
    have ZKb_ := Lib.hid (show Below w7.heap.size w7 w10 from Z_Ub.out)
    have ZKc_ := Lib.hid (show Below w9.heap.size w9 w10 from Z_Uc.out)
    have KR_ := Lib.hid (show ∀ wx, Below w10.heap.size w10 wx → (wx.cell? ⟨w.heap.size, 0, none⟩ = some (.slice S.dv.A S.dv.n S.dv.c) ∧ wx.cell? ⟨w.heap.size, 1, none⟩ = some (.slice S.pt.A S.pt.n S.pt.c) ∧ wx.cell? ⟨w.heap.size, 2, none⟩ = some (.slice S.lk.A S.lk.n S.lk.c) ∧ wx.cell? ⟨w.heap.size, 3, none⟩ = some (.slice S.dm.A S.dm.n S.dm.c) ∧ wx.cell? ⟨w.heap.size, 4, none⟩ = some (.slice S.st.A S.st.n S.st.c) ∧ wx.cell? ⟨w.heap.size, 5, none⟩ = some (.slice S.fl.A S.fl.n S.fl.c) ∧ wx.cell? ⟨w.heap.size, 6, none⟩ = some (.slice S.vr.A S.vr.n S.vr.c) ∧ wx.cell? ⟨w.heap.size, 7, none⟩ = some (.slice S.ir.A S.ir.n S.ir.c)) ∧ (wx.cell? ⟨w.heap.size + 1, 2, none⟩ = some (.string (str L.dev)) ∧ wx.cell? ⟨w.heap.size + 1, 8, none⟩ = some (.int .u32 L.addr) ∧ wx.cell? ⟨w.heap.size + 1, 10, none⟩ = some (.int .i64 L.vlan) ∧ wx.cell? ⟨w.heap.size + 1, 11, none⟩ = some (.int .i64 L.num) ∧ wx.cell? ⟨w.heap.size + 1, 16, none⟩ = some (.slice s4.A s4.n s4.c)) ∧ w.heap.size + 1 < wx.heap.size from fun wx hx => by
        have y_ := trans_below Y10.out hx
        obtain ⟨f_, g_, _⟩ := KN.out _ y_
        exact ⟨f_, g_, (by have := ql1; have := y_.size; omega)⟩)
    clear f0 f1 f2 f3 f4 f5 f6 f7 g2 g8 g10 g11 g16 lb_ la a0 a1 a2 a3 a4 a5 a6 a7 lb b0 b1 b2 b3 b4 b5 b6 b7 lc c0 c1 c2 c3 c4 c5 c6 c7
    refine wp_region_text (fun wx => Below w10.heap.size w10 wx) (by kernel_rfl) (by kernel_rfl) ((Below.refl _ _).drew) ?_
    repeat
      first
        | (refine Seq.pass rfl ?_; simp only [Act.put, List.setIfInBounds_toArray, List.set_cons_zero, List.set_cons_succ])
        | (refine Seq.run ?_ rfl (fun wx hx => ?_) ?_
           rotate_left
           · obtain ⟨⟨f0, f1, f2, f3, f4, f5, f6, f7⟩, ⟨g2, g8, g10, g11, g16⟩, ql_⟩ := KR_.out wx hx
             go_simp
             first
               | (refine StepRun.val ?_; exact hx)

           simp only [Act.put, List.setIfInBounds_toArray, List.set_cons_zero, List.set_cons_succ])
    refine Seq.last (fun w11 hb => ?_)
    have Y11 := Lib.hid (trans_below Y10.out hb)
    have X11 := Lib.hid (trans_below X10.out hb)
    have Z_Ua := Lib.hid (trans_below Z_Ua.out hb)
    have Z_Ub := Lib.hid (trans_below Z_Ub.out hb)
    have Z_Uc := Lib.hid (trans_below Z_Uc.out hb)
    clear hb KR_
    obtain ⟨⟨f0, f1, f2, f3, f4, f5, f6, f7⟩, ⟨g2, g8, g10, g11, g16⟩, lb_, _⟩ := KN.out _ Y11.out
    have nb_ := NB_Ua.out.below Z_Ua.out
    have la := nb_.lt
    obtain ⟨a0, a1, a2, a3, a4, a5, a6, a7⟩ : w11.cell? ⟨qUa, 0, none⟩ = some (.slice Ua.dv.A Ua.dv.n Ua.dv.c) ∧ w11.cell? ⟨qUa, 1, none⟩ = some (.slice Ua.pt.A Ua.pt.n Ua.pt.c) ∧ w11.cell? ⟨qUa, 2, none⟩ = some (.slice Ua.lk.A Ua.lk.n Ua.lk.c) ∧ w11.cell? ⟨qUa, 3, none⟩ = some (.slice Ua.dm.A Ua.dm.n Ua.dm.c) ∧ w11.cell? ⟨qUa, 4, none⟩ = some (.slice Ua.st.A Ua.st.n Ua.st.c) ∧ w11.cell? ⟨qUa, 5, none⟩ = some (.slice Ua.fl.A Ua.fl.n Ua.fl.c) ∧ w11.cell? ⟨qUa, 6, none⟩ = some (.slice Ua.vr.A Ua.vr.n Ua.vr.c) ∧ w11.cell? ⟨qUa, 7, none⟩ = some (.slice Ua.ir.A Ua.ir.n Ua.ir.c) := ⟨nb_.c0, nb_.c1, nb_.c2, nb_.c3, nb_.c4, nb_.c5, nb_.c6, nb_.c7⟩
    clear nb_
    have nb_ := NB_Ub.out.below Z_Ub.out
    have lb := nb_.lt
    obtain ⟨b0, b1, b2, b3, b4, b5, b6, b7⟩ : w11.cell? ⟨qUb, 0, none⟩ = some (.slice Ub.dv.A Ub.dv.n Ub.dv.c) ∧ w11.cell? ⟨qUb, 1, none⟩ = some (.slice Ub.pt.A Ub.pt.n Ub.pt.c) ∧ w11.cell? ⟨qUb, 2, none⟩ = some (.slice Ub.lk.A Ub.lk.n Ub.lk.c) ∧ w11.cell? ⟨qUb, 3, none⟩ = some (.slice Ub.dm.A Ub.dm.n Ub.dm.c) ∧ w11.cell? ⟨qUb, 4, none⟩ = some (.slice Ub.st.A Ub.st.n Ub.st.c) ∧ w11.cell? ⟨qUb, 5, none⟩ = some (.slice Ub.fl.A Ub.fl.n Ub.fl.c) ∧ w11.cell? ⟨qUb, 6, none⟩ = some (.slice Ub.vr.A Ub.vr.n Ub.vr.c) ∧ w11.cell? ⟨qUb, 7, none⟩ = some (.slice Ub.ir.A Ub.ir.n Ub.ir.c) := ⟨nb_.c0, nb_.c1, nb_.c2, nb_.c3, nb_.c4, nb_.c5, nb_.c6, nb_.c7⟩
    clear nb_
    have nb_ := NB_Uc.out.below Z_Uc.out
    have lc := nb_.lt
    obtain ⟨c0, c1, c2, c3, c4, c5, c6, c7⟩ : w11.cell? ⟨qUc, 0, none⟩ = some (.slice Uc.dv.A Uc.dv.n Uc.dv.c) ∧ w11.cell? ⟨qUc, 1, none⟩ = some (.slice Uc.pt.A Uc.pt.n Uc.pt.c) ∧ w11.cell? ⟨qUc, 2, none⟩ = some (.slice Uc.lk.A Uc.lk.n Uc.lk.c) ∧ w11.cell? ⟨qUc, 3, none⟩ = some (.slice Uc.dm.A Uc.dm.n Uc.dm.c) ∧ w11.cell? ⟨qUc, 4, none⟩ = some (.slice Uc.st.A Uc.st.n Uc.st.c) ∧ w11.cell? ⟨qUc, 5, none⟩ = some (.slice Uc.fl.A Uc.fl.n Uc.fl.c) ∧ w11.cell? ⟨qUc, 6, none⟩ = some (.slice Uc.vr.A Uc.vr.n Uc.vr.c) ∧ w11.cell? ⟨qUc, 7, none⟩ = some (.slice Uc.ir.A Uc.ir.n Uc.ir.c) := ⟨nb_.c0, nb_.c1, nb_.c2, nb_.c3, nb_.c4, nb_.c5, nb_.c6, nb_.c7⟩
    clear nb_
    go_upto_region 13 with fail
    have y5_ : ((Ub.dm.n : Int) != (S.dm.n : Int)) = false := by rw [UDM.out]; simp
    have ZB2_ := Lib.hid (show Below w7.heap.size w7 w11 from Z_Ub.out)
    have KR_ := Lib.hid (show ∀ wx, Below w11.heap.size w11 wx → (wx.cell? ⟨w.heap.size, 0, none⟩ = some (.slice S.dv.A S.dv.n S.dv.c) ∧ wx.cell? ⟨w.heap.size, 1, none⟩ = some (.slice S.pt.A S.pt.n S.pt.c) ∧ wx.cell? ⟨w.heap.size, 2, none⟩ = some (.slice S.lk.A S.lk.n S.lk.c) ∧ wx.cell? ⟨w.heap.size, 3, none⟩ = some (.slice S.dm.A S.dm.n S.dm.c) ∧ wx.cell? ⟨w.heap.size, 4, none⟩ = some (.slice S.st.A S.st.n S.st.c) ∧ wx.cell? ⟨w.heap.size, 5, none⟩ = some (.slice S.fl.A S.fl.n S.fl.c) ∧ wx.cell? ⟨w.heap.size, 6, none⟩ = some (.slice S.vr.A S.vr.n S.vr.c) ∧ wx.cell? ⟨w.heap.size, 7, none⟩ = some (.slice S.ir.A S.ir.n S.ir.c)) ∧ (wx.cell? ⟨w.heap.size + 1, 2, none⟩ = some (.string (str L.dev)) ∧ wx.cell? ⟨w.heap.size + 1, 8, none⟩ = some (.int .u32 L.addr) ∧ wx.cell? ⟨w.heap.size + 1, 10, none⟩ = some (.int .i64 L.vlan) ∧ wx.cell? ⟨w.heap.size + 1, 11, none⟩ = some (.int .i64 L.num) ∧ wx.cell? ⟨w.heap.size + 1, 16, none⟩ = some (.slice s4.A s4.n s4.c)) ∧ w.heap.size + 1 < wx.heap.size ∧ (wx.cell? ⟨qUb, 0, none⟩ = some (.slice Ub.dv.A Ub.dv.n Ub.dv.c) ∧ wx.cell? ⟨qUb, 1, none⟩ = some (.slice Ub.pt.A Ub.pt.n Ub.pt.c) ∧ wx.cell? ⟨qUb, 2, none⟩ = some (.slice Ub.lk.A Ub.lk.n Ub.lk.c) ∧ wx.cell? ⟨qUb, 3, none⟩ = some (.slice Ub.dm.A Ub.dm.n Ub.dm.c) ∧ wx.cell? ⟨qUb, 4, none⟩ = some (.slice Ub.st.A Ub.st.n Ub.st.c) ∧ wx.cell? ⟨qUb, 5, none⟩ = some (.slice Ub.fl.A Ub.fl.n Ub.fl.c) ∧ wx.cell? ⟨qUb, 6, none⟩ = some (.slice Ub.vr.A Ub.vr.n Ub.vr.c) ∧ wx.cell? ⟨qUb, 7, none⟩ = some (.slice Ub.ir.A Ub.ir.n Ub.ir.c)) ∧ qUb < wx.heap.size from fun wx hx => by
        have y_ := trans_below Y11.out hx
        obtain ⟨f_, g_, _⟩ := KN.out _ y_
        have zUb := trans_below Z_Ub.out hx
        have nbUb := NB_Ub.out.below zUb
        exact ⟨f_, g_, (by have := ql1; have := y_.size; omega), ⟨nbUb.c0, nbUb.c1, nbUb.c2, nbUb.c3, nbUb.c4, nbUb.c5, nbUb.c6, nbUb.c7⟩, nbUb.lt⟩)
    clear f0 f1 f2 f3 f4 f5 f6 f7 g2 g8 g10 g11 g16 lb_ la a0 a1 a2 a3 a4 a5 a6 a7 lb b0 b1 b2 b3 b4 b5 b6 b7 lc c0 c1 c2 c3 c4 c5 c6 c7
    refine wp_region_text (fun wx => Below w11.heap.size w11 wx) (by kernel_rfl) (by kernel_rfl) ((Below.refl _ _).drew) ?_
    repeat
      first
        | (refine Seq.pass rfl ?_; simp only [Act.put, List.setIfInBounds_toArray, List.set_cons_zero, List.set_cons_succ])
        | (refine Seq.run ?_ rfl (fun wx hx => ?_) ?_
           rotate_left
           · obtain ⟨⟨f0, f1, f2, f3, f4, f5, f6, f7⟩, ⟨g2, g8, g10, g11, g16⟩, ql_, ⟨b0, b1, b2, b3, b4, b5, b6, b7⟩, lb⟩ := KR_.out wx hx
             go_simp
             first
               | (refine StepRun.val ?_; exact hx)
               | (refine StepRun.call (v := .bool true) ?_; (refine Calls.mono (XR.out NB Ub _ (NB_.out.up (trans_below ZB2_.out hx)) ZZB.out OKB.out) ?_); rintro e w' ⟨rfl, hb⟩; exact ⟨rfl, trans_below hx hb⟩)
               | (refine StepRun.call (v := .int .i64 (m : Int)) ?_; (refine Calls.mono (EF_.out ▸ FX.out NB Ub (d : Int) L.num _ (NB_.out.up (trans_below ZB2_.out hx)) ZZB.out) ?_); rintro e w' ⟨rfl, hb⟩; exact ⟨rfl, trans_below hx hb⟩)
               | (refine StepRun.call (v := .int .i64 (m : Int)) ?_; (refine Calls.mono (EA_.out ▸ SA.out N S (d : Int) L.vlan _ (U1_.out _ (trans_below X11.out hx)) ZN.out OKN.out) ?_); rintro e w' ⟨rfl, hb⟩; exact ⟨rfl, trans_below hx hb⟩)
           simp only [Act.put, List.setIfInBounds_toArray, List.set_cons_zero, List.set_cons_succ])
    refine Seq.last (fun w12 hb => ?_)
    have Y12 := Lib.hid (trans_below Y11.out hb)
    have X12 := Lib.hid (trans_below X11.out hb)
    have Z_Ua := Lib.hid (trans_below Z_Ua.out hb)
    have Z_Ub := Lib.hid (trans_below Z_Ub.out hb)
    have Z_Uc := Lib.hid (trans_below Z_Uc.out hb)
    clear hb KR_
    obtain ⟨⟨f0, f1, f2, f3, f4, f5, f6, f7⟩, ⟨g2, g8, g10, g11, g16⟩, lb_, _⟩ := KN.out _ Y12.out
    have nb_ := NB_Ua.out.below Z_Ua.out
    have la := nb_.lt
    obtain ⟨a0, a1, a2, a3, a4, a5, a6, a7⟩ : w12.cell? ⟨qUa, 0, none⟩ = some (.slice Ua.dv.A Ua.dv.n Ua.dv.c) ∧ w12.cell? ⟨qUa, 1, none⟩ = some (.slice Ua.pt.A Ua.pt.n Ua.pt.c) ∧ w12.cell? ⟨qUa, 2, none⟩ = some (.slice Ua.lk.A Ua.lk.n Ua.lk.c) ∧ w12.cell? ⟨qUa, 3, none⟩ = some (.slice Ua.dm.A Ua.dm.n Ua.dm.c) ∧ w12.cell? ⟨qUa, 4, none⟩ = some (.slice Ua.st.A Ua.st.n Ua.st.c) ∧ w12.cell? ⟨qUa, 5, none⟩ = some (.slice Ua.fl.A Ua.fl.n Ua.fl.c) ∧ w12.cell? ⟨qUa, 6, none⟩ = some (.slice Ua.vr.A Ua.vr.n Ua.vr.c) ∧ w12.cell? ⟨qUa, 7, none⟩ = some (.slice Ua.ir.A Ua.ir.n Ua.ir.c) := ⟨nb_.c0, nb_.c1, nb_.c2, nb_.c3, nb_.c4, nb_.c5, nb_.c6, nb_.c7⟩
    clear nb_
    have nb_ := NB_Ub.out.below Z_Ub.out
    have lb := nb_.lt
    obtain ⟨b0, b1, b2, b3, b4, b5, b6, b7⟩ : w12.cell? ⟨qUb, 0, none⟩ = some (.slice Ub.dv.A Ub.dv.n Ub.dv.c) ∧ w12.cell? ⟨qUb, 1, none⟩ = some (.slice Ub.pt.A Ub.pt.n Ub.pt.c) ∧ w12.cell? ⟨qUb, 2, none⟩ = some (.slice Ub.lk.A Ub.lk.n Ub.lk.c) ∧ w12.cell? ⟨qUb, 3, none⟩ = some (.slice Ub.dm.A Ub.dm.n Ub.dm.c) ∧ w12.cell? ⟨qUb, 4, none⟩ = some (.slice Ub.st.A Ub.st.n Ub.st.c) ∧ w12.cell? ⟨qUb, 5, none⟩ = some (.slice Ub.fl.A Ub.fl.n Ub.fl.c) ∧ w12.cell? ⟨qUb, 6, none⟩ = some (.slice Ub.vr.A Ub.vr.n Ub.vr.c) ∧ w12.cell? ⟨qUb, 7, none⟩ = some (.slice Ub.ir.A Ub.ir.n Ub.ir.c) := ⟨nb_.c0, nb_.c1, nb_.c2, nb_.c3, nb_.c4, nb_.c5, nb_.c6, nb_.c7⟩
    clear nb_
    have nb_ := NB_Uc.out.below Z_Uc.out
    have lc := nb_.lt
    obtain ⟨c0, c1, c2, c3, c4, c5, c6, c7⟩ : w12.cell? ⟨qUc, 0, none⟩ = some (.slice Uc.dv.A Uc.dv.n Uc.dv.c) ∧ w12.cell? ⟨qUc, 1, none⟩ = some (.slice Uc.pt.A Uc.pt.n Uc.pt.c) ∧ w12.cell? ⟨qUc, 2, none⟩ = some (.slice Uc.lk.A Uc.lk.n Uc.lk.c) ∧ w12.cell? ⟨qUc, 3, none⟩ = some (.slice Uc.dm.A Uc.dm.n Uc.dm.c) ∧ w12.cell? ⟨qUc, 4, none⟩ = some (.slice Uc.st.A Uc.st.n Uc.st.c) ∧ w12.cell? ⟨qUc, 5, none⟩ = some (.slice Uc.fl.A Uc.fl.n Uc.fl.c) ∧ w12.cell? ⟨qUc, 6, none⟩ = some (.slice Uc.vr.A Uc.vr.n Uc.vr.c) ∧ w12.cell? ⟨qUc, 7, none⟩ = some (.slice Uc.ir.A Uc.ir.n Uc.ir.c) := ⟨nb_.c0, nb_.c1, nb_.c2, nb_.c3, nb_.c4, nb_.c5, nb_.c6, nb_.c7⟩
    clear nb_
    go_upto_region 15 with fail
    have xD := show (EC != 0) = true by simpa using hC
    have EZ := Lib.hid (ZC.out hC)
    clear hA hB hC
    go_wp2_with (go_at_call 22; (refine (XS.out NV.zero Uc NSl3.nil _ (EZ.out ▸ N_Uc.out.up Z_Uc.out) (none_read _) none_sz).mono ?_); rintro e w13 ⟨rfl, hb⟩; have Y13 := Lib.hid (trans_below Y12.out hb); have X13 := Lib.hid (trans_below X12.out hb); have Z_Ua := Lib.hid (trans_below Z_Ua.out hb); have Z_Ub := Lib.hid (trans_below Z_Ub.out hb); have Z_Uc := Lib.hid (trans_below Z_Uc.out hb); skip; clear hb)
    go_ret
    exact ⟨rfl, X13.out⟩
  by_cases hC : EC = 0
  rotate_left
  · have xA := show (EA == 0) = false by simpa using hA
    have xB := show (EB == 0) = false by simpa using hB
    have xC := show (EC == 0) = false by simpa using hC
  
    go_upto_region 10 with fail
    go_upto_region 11 with (go_at_call 25; (refine (DV.out _ X9.out).mono ?_); rintro e w10 ⟨rfl, hb⟩; have Y10 := Lib.hid (trans_below Y9.out hb); have X10 := Lib.hid (trans_below X9.out hb); have Z_Ua := Lib.hid (trans_below Z_Ua.out hb); have Z_Ub := Lib.hid (trans_below Z_Ub.out hb); have Z_Uc := Lib.hid (trans_below Z_Uc.out hb); clear f0 f1 f2 f3 f4 f5 f6 f7 g2 g8 g10 g11 g16 lb_ la a0 a1 a2 a3 a4 a5 a6 a7 lb b0 b1 b2 b3 b4 b5 b6 b7 lc c0 c1 c2 c3 c4 c5 c6 c7; obtain ⟨⟨f0, f1, f2, f3, f4, f5, f6, f7⟩, ⟨g2, g8, g10, g11, g16⟩, lb_, _⟩ := KN.out _ Y10.out; have nb_ := NB_Ua.out.below Z_Ua.out; have la := nb_.lt; obtain ⟨a0, a1, a2, a3, a4, a5, a6, a7⟩ : w10.cell? ⟨qUa, 0, none⟩ = some (.slice Ua.dv.A Ua.dv.n Ua.dv.c) ∧ w10.cell? ⟨qUa, 1, none⟩ = some (.slice Ua.pt.A Ua.pt.n Ua.pt.c) ∧ w10.cell? ⟨qUa, 2, none⟩ = some (.slice Ua.lk.A Ua.lk.n Ua.lk.c) ∧ w10.cell? ⟨qUa, 3, none⟩ = some (.slice Ua.dm.A Ua.dm.n Ua.dm.c) ∧ w10.cell? ⟨qUa, 4, none⟩ = some (.slice Ua.st.A Ua.st.n Ua.st.c) ∧ w10.cell? ⟨qUa, 5, none⟩ = some (.slice Ua.fl.A Ua.fl.n Ua.fl.c) ∧ w10.cell? ⟨qUa, 6, none⟩ = some (.slice Ua.vr.A Ua.vr.n Ua.vr.c) ∧ w10.cell? ⟨qUa, 7, none⟩ = some (.slice Ua.ir.A Ua.ir.n Ua.ir.c) := ⟨nb_.c0, nb_.c1, nb_.c2, nb_.c3, nb_.c4, nb_.c5, nb_.c6, nb_.c7⟩; clear nb_; have nb_ := NB_Ub.out.below Z_Ub.out; have lb := nb_.lt; obtain ⟨b0, b1, b2, b3, b4, b5, b6, b7⟩ : w10.cell? ⟨qUb, 0, none⟩ = some (.slice Ub.dv.A Ub.dv.n Ub.dv.c) ∧ w10.cell? ⟨qUb, 1, none⟩ = some (.slice Ub.pt.A Ub.pt.n Ub.pt.c) ∧ w10.cell? ⟨qUb, 2, none⟩ = some (.slice Ub.lk.A Ub.lk.n Ub.lk.c) ∧ w10.cell? ⟨qUb, 3, none⟩ = some (.slice Ub.dm.A Ub.dm.n Ub.dm.c) ∧ w10.cell? ⟨qUb, 4, none⟩ = some (.slice Ub.st.A Ub.st.n Ub.st.c) ∧ w10.cell? ⟨qUb, 5, none⟩ = some (.slice Ub.fl.A Ub.fl.n Ub.fl.c) ∧ w10.cell? ⟨qUb, 6, none⟩ = some (.slice Ub.vr.A Ub.vr.n Ub.vr.c) ∧ w10.cell? ⟨qUb, 7, none⟩ = some (.slice Ub.ir.A Ub.ir.n Ub.ir.c) := ⟨nb_.c0, nb_.c1, nb_.c2, nb_.c3, nb_.c4, nb_.c5, nb_.c6, nb_.c7⟩; clear nb_; have nb_ := NB_Uc.out.below Z_Uc.out; have lc := nb_.lt; obtain ⟨c0, c1, c2, c3, c4, c5, c6, c7⟩ : w10.cell? ⟨qUc, 0, none⟩ = some (.slice Uc.dv.A Uc.dv.n Uc.dv.c) ∧ w10.cell? ⟨qUc, 1, none⟩ = some (.slice Uc.pt.A Uc.pt.n Uc.pt.c) ∧ w10.cell? ⟨qUc, 2, none⟩ = some (.slice Uc.lk.A Uc.lk.n Uc.lk.c) ∧ w10.cell? ⟨qUc, 3, none⟩ = some (.slice Uc.dm.A Uc.dm.n Uc.dm.c) ∧ w10.cell? ⟨qUc, 4, none⟩ = some (.slice Uc.st.A Uc.st.n Uc.st.c) ∧ w10.cell? ⟨qUc, 5, none⟩ = some (.slice Uc.fl.A Uc.fl.n Uc.fl.c) ∧ w10.cell? ⟨qUc, 6, none⟩ = some (.slice Uc.vr.A Uc.vr.n Uc.vr.c) ∧ w10.cell? ⟨qUc, 7, none⟩ = some (.slice Uc.ir.A Uc.ir.n Uc.ir.c) := ⟨nb_.c0, nb_.c1, nb_.c2, nb_.c3, nb_.c4, nb_.c5, nb_.c6, nb_.c7⟩; clear nb_; clear hb)
    have ZKa_ := Lib.hid (show Below w5.heap.size w5 w10 from Z_Ua.out)
    have ZKb_ := Lib.hid (show Below w7.heap.size w7 w10 from Z_Ub.out)
    have ZKc_ := Lib.hid (show Below w9.heap.size w9 w10 from Z_Uc.out)
    have KR_ := Lib.hid (show ∀ wx, Below w10.heap.size w10 wx → (wx.cell? ⟨w.heap.size, 0, none⟩ = some (.slice S.dv.A S.dv.n S.dv.c) ∧ wx.cell? ⟨w.heap.size, 1, none⟩ = some (.slice S.pt.A S.pt.n S.pt.c) ∧ wx.cell? ⟨w.heap.size, 2, none⟩ = some (.slice S.lk.A S.lk.n S.lk.c) ∧ wx.cell? ⟨w.heap.size, 3, none⟩ = some (.slice S.dm.A S.dm.n S.dm.c) ∧ wx.cell? ⟨w.heap.size, 4, none⟩ = some (.slice S.st.A S.st.n S.st.c) ∧ wx.cell? ⟨w.heap.size, 5, none⟩ = some (.slice S.fl.A S.fl.n S.fl.c) ∧ wx.cell? ⟨w.heap.size, 6, none⟩ = some (.slice S.vr.A S.vr.n S.vr.c) ∧ wx.cell? ⟨w.heap.size, 7, none⟩ = some (.slice S.ir.A S.ir.n S.ir.c)) ∧ (wx.cell? ⟨w.heap.size + 1, 2, none⟩ = some (.string (str L.dev)) ∧ wx.cell? ⟨w.heap.size + 1, 8, none⟩ = some (.int .u32 L.addr) ∧ wx.cell? ⟨w.heap.size + 1, 10, none⟩ = some (.int .i64 L.vlan) ∧ wx.cell? ⟨w.heap.size + 1, 11, none⟩ = some (.int .i64 L.num) ∧ wx.cell? ⟨w.heap.size + 1, 16, none⟩ = some (.slice s4.A s4.n s4.c)) ∧ w.heap.size + 1 < wx.heap.size from fun wx hx => by
        have y_ := trans_below Y10.out hx
        obtain ⟨f_, g_, _⟩ := KN.out _ y_
        exact ⟨f_, g_, (by have := ql1; have := y_.size; omega)⟩)
    clear f0 f1 f2 f3 f4 f5 f6 f7 g2 g8 g10 g11 g16 lb_ la a0 a1 a2 a3 a4 a5 a6 a7 lb b0 b1 b2 b3 b4 b5 b6 b7 lc c0 c1 c2 c3 c4 c5 c6 c7
    refine wp_region_text (fun wx => Below w10.heap.size w10 wx) (by kernel_rfl) (by kernel_rfl) ((Below.refl _ _).drew) ?_
    repeat
      first
        | (refine Seq.pass rfl ?_; simp only [Act.put, List.setIfInBounds_toArray, List.set_cons_zero, List.set_cons_succ])
        | (refine Seq.run ?_ rfl (fun wx hx => ?_) ?_
           rotate_left
           · obtain ⟨⟨f0, f1, f2, f3, f4, f5, f6, f7⟩, ⟨g2, g8, g10, g11, g16⟩, ql_⟩ := KR_.out wx hx
             go_simp
             first
               | (refine StepRun.val ?_; exact hx)

           simp only [Act.put, List.setIfInBounds_toArray, List.set_cons_zero, List.set_cons_succ])
    refine Seq.last (fun w11 hb => ?_)
    have Y11 := Lib.hid (trans_below Y10.out hb)
    have X11 := Lib.hid (trans_below X10.out hb)
    have Z_Ua := Lib.hid (trans_below Z_Ua.out hb)
    have Z_Ub := Lib.hid (trans_below Z_Ub.out hb)
    have Z_Uc := Lib.hid (trans_below Z_Uc.out hb)
    clear hb KR_
    obtain ⟨⟨f0, f1, f2, f3, f4, f5, f6, f7⟩, ⟨g2, g8, g10, g11, g16⟩, lb_, _⟩ := KN.out _ Y11.out
    have nb_ := NB_Ua.out.below Z_Ua.out
    have la := nb_.lt
    obtain ⟨a0, a1, a2, a3, a4, a5, a6, a7⟩ : w11.cell? ⟨qUa, 0, none⟩ = some (.slice Ua.dv.A Ua.dv.n Ua.dv.c) ∧ w11.cell? ⟨qUa, 1, none⟩ = some (.slice Ua.pt.A Ua.pt.n Ua.pt.c) ∧ w11.cell? ⟨qUa, 2, none⟩ = some (.slice Ua.lk.A Ua.lk.n Ua.lk.c) ∧ w11.cell? ⟨qUa, 3, none⟩ = some (.slice Ua.dm.A Ua.dm.n Ua.dm.c) ∧ w11.cell? ⟨qUa, 4, none⟩ = some (.slice Ua.st.A Ua.st.n Ua.st.c) ∧ w11.cell? ⟨qUa, 5, none⟩ = some (.slice Ua.fl.A Ua.fl.n Ua.fl.c) ∧ w11.cell? ⟨qUa, 6, none⟩ = some (.slice Ua.vr.A Ua.vr.n Ua.vr.c) ∧ w11.cell? ⟨qUa, 7, none⟩ = some (.slice Ua.ir.A Ua.ir.n Ua.ir.c) := ⟨nb_.c0, nb_.c1, nb_.c2, nb_.c3, nb_.c4, nb_.c5, nb_.c6, nb_.c7⟩
    clear nb_
    have nb_ := NB_Ub.out.below Z_Ub.out
    have lb := nb_.lt
    obtain ⟨b0, b1, b2, b3, b4, b5, b6, b7⟩ : w11.cell? ⟨qUb, 0, none⟩ = some (.slice Ub.dv.A Ub.dv.n Ub.dv.c) ∧ w11.cell? ⟨qUb, 1, none⟩ = some (.slice Ub.pt.A Ub.pt.n Ub.pt.c) ∧ w11.cell? ⟨qUb, 2, none⟩ = some (.slice Ub.lk.A Ub.lk.n Ub.lk.c) ∧ w11.cell? ⟨qUb, 3, none⟩ = some (.slice Ub.dm.A Ub.dm.n Ub.dm.c) ∧ w11.cell? ⟨qUb, 4, none⟩ = some (.slice Ub.st.A Ub.st.n Ub.st.c) ∧ w11.cell? ⟨qUb, 5, none⟩ = some (.slice Ub.fl.A Ub.fl.n Ub.fl.c) ∧ w11.cell? ⟨qUb, 6, none⟩ = some (.slice Ub.vr.A Ub.vr.n Ub.vr.c) ∧ w11.cell? ⟨qUb, 7, none⟩ = some (.slice Ub.ir.A Ub.ir.n Ub.ir.c) := ⟨nb_.c0, nb_.c1, nb_.c2, nb_.c3, nb_.c4, nb_.c5, nb_.c6, nb_.c7⟩
    clear nb_
    have nb_ := NB_Uc.out.below Z_Uc.out
    have lc := nb_.lt
    obtain ⟨c0, c1, c2, c3, c4, c5, c6, c7⟩ : w11.cell? ⟨qUc, 0, none⟩ = some (.slice Uc.dv.A Uc.dv.n Uc.dv.c) ∧ w11.cell? ⟨qUc, 1, none⟩ = some (.slice Uc.pt.A Uc.pt.n Uc.pt.c) ∧ w11.cell? ⟨qUc, 2, none⟩ = some (.slice Uc.lk.A Uc.lk.n Uc.lk.c) ∧ w11.cell? ⟨qUc, 3, none⟩ = some (.slice Uc.dm.A Uc.dm.n Uc.dm.c) ∧ w11.cell? ⟨qUc, 4, none⟩ = some (.slice Uc.st.A Uc.st.n Uc.st.c) ∧ w11.cell? ⟨qUc, 5, none⟩ = some (.slice Uc.fl.A Uc.fl.n Uc.fl.c) ∧ w11.cell? ⟨qUc, 6, none⟩ = some (.slice Uc.vr.A Uc.vr.n Uc.vr.c) ∧ w11.cell? ⟨qUc, 7, none⟩ = some (.slice Uc.ir.A Uc.ir.n Uc.ir.c) := ⟨nb_.c0, nb_.c1, nb_.c2, nb_.c3, nb_.c4, nb_.c5, nb_.c6, nb_.c7⟩
    clear nb_
    go_upto_region 13 with fail
    have KR_ := Lib.hid (show ∀ wx, Below w11.heap.size w11 wx → (wx.cell? ⟨w.heap.size, 0, none⟩ = some (.slice S.dv.A S.dv.n S.dv.c) ∧ wx.cell? ⟨w.heap.size, 1, none⟩ = some (.slice S.pt.A S.pt.n S.pt.c) ∧ wx.cell? ⟨w.heap.size, 2, none⟩ = some (.slice S.lk.A S.lk.n S.lk.c) ∧ wx.cell? ⟨w.heap.size, 3, none⟩ = some (.slice S.dm.A S.dm.n S.dm.c) ∧ wx.cell? ⟨w.heap.size, 4, none⟩ = some (.slice S.st.A S.st.n S.st.c) ∧ wx.cell? ⟨w.heap.size, 5, none⟩ = some (.slice S.fl.A S.fl.n S.fl.c) ∧ wx.cell? ⟨w.heap.size, 6, none⟩ = some (.slice S.vr.A S.vr.n S.vr.c) ∧ wx.cell? ⟨w.heap.size, 7, none⟩ = some (.slice S.ir.A S.ir.n S.ir.c)) ∧ (wx.cell? ⟨w.heap.size + 1, 2, none⟩ = some (.string (str L.dev)) ∧ wx.cell? ⟨w.heap.size + 1, 8, none⟩ = some (.int .u32 L.addr) ∧ wx.cell? ⟨w.heap.size + 1, 10, none⟩ = some (.int .i64 L.vlan) ∧ wx.cell? ⟨w.heap.size + 1, 11, none⟩ = some (.int .i64 L.num) ∧ wx.cell? ⟨w.heap.size + 1, 16, none⟩ = some (.slice s4.A s4.n s4.c)) ∧ w.heap.size + 1 < wx.heap.size from fun wx hx => by
        have y_ := trans_below Y11.out hx
        obtain ⟨f_, g_, _⟩ := KN.out _ y_
        exact ⟨f_, g_, (by have := ql1; have := y_.size; omega)⟩)
    clear f0 f1 f2 f3 f4 f5 f6 f7 g2 g8 g10 g11 g16 lb_ la a0 a1 a2 a3 a4 a5 a6 a7 lb b0 b1 b2 b3 b4 b5 b6 b7 lc c0 c1 c2 c3 c4 c5 c6 c7
    refine wp_region_text (fun wx => Below w11.heap.size w11 wx) (by kernel_rfl) (by kernel_rfl) ((Below.refl _ _).drew) ?_
    repeat
      first
        | (refine Seq.pass rfl ?_; simp only [Act.put, List.setIfInBounds_toArray, List.set_cons_zero, List.set_cons_succ])
        | (refine Seq.run ?_ rfl (fun wx hx => ?_) ?_
           rotate_left
           · obtain ⟨⟨f0, f1, f2, f3, f4, f5, f6, f7⟩, ⟨g2, g8, g10, g11, g16⟩, ql_⟩ := KR_.out wx hx
             go_simp
             first
               | (refine StepRun.val ?_; exact hx)

           simp only [Act.put, List.setIfInBounds_toArray, List.set_cons_zero, List.set_cons_succ])
    refine Seq.last (fun w12 hb => ?_)
    have Y12 := Lib.hid (trans_below Y11.out hb)
    have X12 := Lib.hid (trans_below X11.out hb)
    have Z_Ua := Lib.hid (trans_below Z_Ua.out hb)
    have Z_Ub := Lib.hid (trans_below Z_Ub.out hb)
    have Z_Uc := Lib.hid (trans_below Z_Uc.out hb)
    clear hb KR_
    obtain ⟨⟨f0, f1, f2, f3, f4, f5, f6, f7⟩, ⟨g2, g8, g10, g11, g16⟩, lb_, _⟩ := KN.out _ Y12.out
    have nb_ := NB_Ua.out.below Z_Ua.out
    have la := nb_.lt
    obtain ⟨a0, a1, a2, a3, a4, a5, a6, a7⟩ : w12.cell? ⟨qUa, 0, none⟩ = some (.slice Ua.dv.A Ua.dv.n Ua.dv.c) ∧ w12.cell? ⟨qUa, 1, none⟩ = some (.slice Ua.pt.A Ua.pt.n Ua.pt.c) ∧ w12.cell? ⟨qUa, 2, none⟩ = some (.slice Ua.lk.A Ua.lk.n Ua.lk.c) ∧ w12.cell? ⟨qUa, 3, none⟩ = some (.slice Ua.dm.A Ua.dm.n Ua.dm.c) ∧ w12.cell? ⟨qUa, 4, none⟩ = some (.slice Ua.st.A Ua.st.n Ua.st.c) ∧ w12.cell? ⟨qUa, 5, none⟩ = some (.slice Ua.fl.A Ua.fl.n Ua.fl.c) ∧ w12.cell? ⟨qUa, 6, none⟩ = some (.slice Ua.vr.A Ua.vr.n Ua.vr.c) ∧ w12.cell? ⟨qUa, 7, none⟩ = some (.slice Ua.ir.A Ua.ir.n Ua.ir.c) := ⟨nb_.c0, nb_.c1, nb_.c2, nb_.c3, nb_.c4, nb_.c5, nb_.c6, nb_.c7⟩
    clear nb_
    have nb_ := NB_Ub.out.below Z_Ub.out
    have lb := nb_.lt
    obtain ⟨b0, b1, b2, b3, b4, b5, b6, b7⟩ : w12.cell? ⟨qUb, 0, none⟩ = some (.slice Ub.dv.A Ub.dv.n Ub.dv.c) ∧ w12.cell? ⟨qUb, 1, none⟩ = some (.slice Ub.pt.A Ub.pt.n Ub.pt.c) ∧ w12.cell? ⟨qUb, 2, none⟩ = some (.slice Ub.lk.A Ub.lk.n Ub.lk.c) ∧ w12.cell? ⟨qUb, 3, none⟩ = some (.slice Ub.dm.A Ub.dm.n Ub.dm.c) ∧ w12.cell? ⟨qUb, 4, none⟩ = some (.slice Ub.st.A Ub.st.n Ub.st.c) ∧ w12.cell? ⟨qUb, 5, none⟩ = some (.slice Ub.fl.A Ub.fl.n Ub.fl.c) ∧ w12.cell? ⟨qUb, 6, none⟩ = some (.slice Ub.vr.A Ub.vr.n Ub.vr.c) ∧ w12.cell? ⟨qUb, 7, none⟩ = some (.slice Ub.ir.A Ub.ir.n Ub.ir.c) := ⟨nb_.c0, nb_.c1, nb_.c2, nb_.c3, nb_.c4, nb_.c5, nb_.c6, nb_.c7⟩
    clear nb_
    have nb_ := NB_Uc.out.below Z_Uc.out
    have lc := nb_.lt
    obtain ⟨c0, c1, c2, c3, c4, c5, c6, c7⟩ : w12.cell? ⟨qUc, 0, none⟩ = some (.slice Uc.dv.A Uc.dv.n Uc.dv.c) ∧ w12.cell? ⟨qUc, 1, none⟩ = some (.slice Uc.pt.A Uc.pt.n Uc.pt.c) ∧ w12.cell? ⟨qUc, 2, none⟩ = some (.slice Uc.lk.A Uc.lk.n Uc.lk.c) ∧ w12.cell? ⟨qUc, 3, none⟩ = some (.slice Uc.dm.A Uc.dm.n Uc.dm.c) ∧ w12.cell? ⟨qUc, 4, none⟩ = some (.slice Uc.st.A Uc.st.n Uc.st.c) ∧ w12.cell? ⟨qUc, 5, none⟩ = some (.slice Uc.fl.A Uc.fl.n Uc.fl.c) ∧ w12.cell? ⟨qUc, 6, none⟩ = some (.slice Uc.vr.A Uc.vr.n Uc.vr.c) ∧ w12.cell? ⟨qUc, 7, none⟩ = some (.slice Uc.ir.A Uc.ir.n Uc.ir.c) := ⟨nb_.c0, nb_.c1, nb_.c2, nb_.c3, nb_.c4, nb_.c5, nb_.c6, nb_.c7⟩
    clear nb_
    go_upto_region 15 with fail
    have xD := show (EC != 0) = true by simpa using hC
    have EZ := Lib.hid (ZC.out hC)
    clear hA hB hC
    go_wp2_with (go_at_call 22; (refine (XS.out NV.zero Uc NSl3.nil _ (EZ.out ▸ N_Uc.out.up Z_Uc.out) (none_read _) none_sz).mono ?_); rintro e w13 ⟨rfl, hb⟩; have Y13 := Lib.hid (trans_below Y12.out hb); have X13 := Lib.hid (trans_below X12.out hb); have Z_Ua := Lib.hid (trans_below Z_Ua.out hb); have Z_Ub := Lib.hid (trans_below Z_Ub.out hb); have Z_Uc := Lib.hid (trans_below Z_Uc.out hb); skip; clear hb)
    go_ret
    exact ⟨rfl, X13.out⟩
  have xA := show (EA == 0) = false by simpa using hA
  have xB := show (EB == 0) = false by simpa using hB
  have xC := show (EC == 0) = true by simpa using hC
  have xD := show (EC != 0) = false by simpa using hC
  obtain ⟨ok_, z_, el_, l48_, cut_⟩ := KC.out hC
  have OKC := Lib.hid ok_
  have ZZC := Lib.hid z_
  have EL_ := Lib.hid el_
  have CUT := Lib.hid cut_
  have b48 : S.fl.n < 48 := by have e2 := NN.out.2.2.1; omega
  have NC_ := Lib.hid (show NRead w9 (allB w9) NC Uc from N_Uc.out)
  clear ok_ z_ el_ cut_ l48_ hA hB hC
  go_upto_region 10 with fail
  go_upto_region 11 with (go_at_call 25; (refine (DV.out _ X9.out).mono ?_); rintro e w10 ⟨rfl, hb⟩; have Y10 := Lib.hid (trans_below Y9.out hb); have X10 := Lib.hid (trans_below X9.out hb); have Z_Ua := Lib.hid (trans_below Z_Ua.out hb); have Z_Ub := Lib.hid (trans_below Z_Ub.out hb); have Z_Uc := Lib.hid (trans_below Z_Uc.out hb); clear f0 f1 f2 f3 f4 f5 f6 f7 g2 g8 g10 g11 g16 lb_ la a0 a1 a2 a3 a4 a5 a6 a7 lb b0 b1 b2 b3 b4 b5 b6 b7 lc c0 c1 c2 c3 c4 c5 c6 c7; obtain ⟨⟨f0, f1, f2, f3, f4, f5, f6, f7⟩, ⟨g2, g8, g10, g11, g16⟩, lb_, _⟩ := KN.out _ Y10.out; have nb_ := NB_Ua.out.below Z_Ua.out; have la := nb_.lt; obtain ⟨a0, a1, a2, a3, a4, a5, a6, a7⟩ : w10.cell? ⟨qUa, 0, none⟩ = some (.slice Ua.dv.A Ua.dv.n Ua.dv.c) ∧ w10.cell? ⟨qUa, 1, none⟩ = some (.slice Ua.pt.A Ua.pt.n Ua.pt.c) ∧ w10.cell? ⟨qUa, 2, none⟩ = some (.slice Ua.lk.A Ua.lk.n Ua.lk.c) ∧ w10.cell? ⟨qUa, 3, none⟩ = some (.slice Ua.dm.A Ua.dm.n Ua.dm.c) ∧ w10.cell? ⟨qUa, 4, none⟩ = some (.slice Ua.st.A Ua.st.n Ua.st.c) ∧ w10.cell? ⟨qUa, 5, none⟩ = some (.slice Ua.fl.A Ua.fl.n Ua.fl.c) ∧ w10.cell? ⟨qUa, 6, none⟩ = some (.slice Ua.vr.A Ua.vr.n Ua.vr.c) ∧ w10.cell? ⟨qUa, 7, none⟩ = some (.slice Ua.ir.A Ua.ir.n Ua.ir.c) := ⟨nb_.c0, nb_.c1, nb_.c2, nb_.c3, nb_.c4, nb_.c5, nb_.c6, nb_.c7⟩; clear nb_; have nb_ := NB_Ub.out.below Z_Ub.out; have lb := nb_.lt; obtain ⟨b0, b1, b2, b3, b4, b5, b6, b7⟩ : w10.cell? ⟨qUb, 0, none⟩ = some (.slice Ub.dv.A Ub.dv.n Ub.dv.c) ∧ w10.cell? ⟨qUb, 1, none⟩ = some (.slice Ub.pt.A Ub.pt.n Ub.pt.c) ∧ w10.cell? ⟨qUb, 2, none⟩ = some (.slice Ub.lk.A Ub.lk.n Ub.lk.c) ∧ w10.cell? ⟨qUb, 3, none⟩ = some (.slice Ub.dm.A Ub.dm.n Ub.dm.c) ∧ w10.cell? ⟨qUb, 4, none⟩ = some (.slice Ub.st.A Ub.st.n Ub.st.c) ∧ w10.cell? ⟨qUb, 5, none⟩ = some (.slice Ub.fl.A Ub.fl.n Ub.fl.c) ∧ w10.cell? ⟨qUb, 6, none⟩ = some (.slice Ub.vr.A Ub.vr.n Ub.vr.c) ∧ w10.cell? ⟨qUb, 7, none⟩ = some (.slice Ub.ir.A Ub.ir.n Ub.ir.c) := ⟨nb_.c0, nb_.c1, nb_.c2, nb_.c3, nb_.c4, nb_.c5, nb_.c6, nb_.c7⟩; clear nb_; have nb_ := NB_Uc.out.below Z_Uc.out; have lc := nb_.lt; obtain ⟨c0, c1, c2, c3, c4, c5, c6, c7⟩ : w10.cell? ⟨qUc, 0, none⟩ = some (.slice Uc.dv.A Uc.dv.n Uc.dv.c) ∧ w10.cell? ⟨qUc, 1, none⟩ = some (.slice Uc.pt.A Uc.pt.n Uc.pt.c) ∧ w10.cell? ⟨qUc, 2, none⟩ = some (.slice Uc.lk.A Uc.lk.n Uc.lk.c) ∧ w10.cell? ⟨qUc, 3, none⟩ = some (.slice Uc.dm.A Uc.dm.n Uc.dm.c) ∧ w10.cell? ⟨qUc, 4, none⟩ = some (.slice Uc.st.A Uc.st.n Uc.st.c) ∧ w10.cell? ⟨qUc, 5, none⟩ = some (.slice Uc.fl.A Uc.fl.n Uc.fl.c) ∧ w10.cell? ⟨qUc, 6, none⟩ = some (.slice Uc.vr.A Uc.vr.n Uc.vr.c) ∧ w10.cell? ⟨qUc, 7, none⟩ = some (.slice Uc.ir.A Uc.ir.n Uc.ir.c) := ⟨nb_.c0, nb_.c1, nb_.c2, nb_.c3, nb_.c4, nb_.c5, nb_.c6, nb_.c7⟩; clear nb_; clear hb)
  have ZKa_ := Lib.hid (show Below w5.heap.size w5 w10 from Z_Ua.out)
  have ZKb_ := Lib.hid (show Below w7.heap.size w7 w10 from Z_Ub.out)
  have ZKc_ := Lib.hid (show Below w9.heap.size w9 w10 from Z_Uc.out)
  have KR_ := Lib.hid (show ∀ wx, Below w10.heap.size w10 wx → (wx.cell? ⟨w.heap.size, 0, none⟩ = some (.slice S.dv.A S.dv.n S.dv.c) ∧ wx.cell? ⟨w.heap.size, 1, none⟩ = some (.slice S.pt.A S.pt.n S.pt.c) ∧ wx.cell? ⟨w.heap.size, 2, none⟩ = some (.slice S.lk.A S.lk.n S.lk.c) ∧ wx.cell? ⟨w.heap.size, 3, none⟩ = some (.slice S.dm.A S.dm.n S.dm.c) ∧ wx.cell? ⟨w.heap.size, 4, none⟩ = some (.slice S.st.A S.st.n S.st.c) ∧ wx.cell? ⟨w.heap.size, 5, none⟩ = some (.slice S.fl.A S.fl.n S.fl.c) ∧ wx.cell? ⟨w.heap.size, 6, none⟩ = some (.slice S.vr.A S.vr.n S.vr.c) ∧ wx.cell? ⟨w.heap.size, 7, none⟩ = some (.slice S.ir.A S.ir.n S.ir.c)) ∧ (wx.cell? ⟨w.heap.size + 1, 2, none⟩ = some (.string (str L.dev)) ∧ wx.cell? ⟨w.heap.size + 1, 8, none⟩ = some (.int .u32 L.addr) ∧ wx.cell? ⟨w.heap.size + 1, 10, none⟩ = some (.int .i64 L.vlan) ∧ wx.cell? ⟨w.heap.size + 1, 11, none⟩ = some (.int .i64 L.num) ∧ wx.cell? ⟨w.heap.size + 1, 16, none⟩ = some (.slice s4.A s4.n s4.c)) ∧ w.heap.size + 1 < wx.heap.size from fun wx hx => by
      have y_ := trans_below Y10.out hx
      obtain ⟨f_, g_, _⟩ := KN.out _ y_
      exact ⟨f_, g_, (by have := ql1; have := y_.size; omega)⟩)
  clear f0 f1 f2 f3 f4 f5 f6 f7 g2 g8 g10 g11 g16 lb_ la a0 a1 a2 a3 a4 a5 a6 a7 lb b0 b1 b2 b3 b4 b5 b6 b7 lc c0 c1 c2 c3 c4 c5 c6 c7
  refine wp_region_text (fun wx => Below w10.heap.size w10 wx) (by kernel_rfl) (by kernel_rfl) ((Below.refl _ _).drew) ?_
  repeat
    first
      | (refine Seq.pass rfl ?_; simp only [Act.put, List.setIfInBounds_toArray, List.set_cons_zero, List.set_cons_succ])
      | (refine Seq.run ?_ rfl (fun wx hx => ?_) ?_
         rotate_left
         · obtain ⟨⟨f0, f1, f2, f3, f4, f5, f6, f7⟩, ⟨g2, g8, g10, g11, g16⟩, ql_⟩ := KR_.out wx hx
           go_simp
           first
             | (refine StepRun.val ?_; exact hx)

         simp only [Act.put, List.setIfInBounds_toArray, List.set_cons_zero, List.set_cons_succ])
  refine Seq.last (fun w11 hb => ?_)
  have Y11 := Lib.hid (trans_below Y10.out hb)
  have X11 := Lib.hid (trans_below X10.out hb)
  have Z_Ua := Lib.hid (trans_below Z_Ua.out hb)
  have Z_Ub := Lib.hid (trans_below Z_Ub.out hb)
  have Z_Uc := Lib.hid (trans_below Z_Uc.out hb)
  clear hb KR_
  obtain ⟨⟨f0, f1, f2, f3, f4, f5, f6, f7⟩, ⟨g2, g8, g10, g11, g16⟩, lb_, _⟩ := KN.out _ Y11.out
  have nb_ := NB_Ua.out.below Z_Ua.out
  have la := nb_.lt
  obtain ⟨a0, a1, a2, a3, a4, a5, a6, a7⟩ : w11.cell? ⟨qUa, 0, none⟩ = some (.slice Ua.dv.A Ua.dv.n Ua.dv.c) ∧ w11.cell? ⟨qUa, 1, none⟩ = some (.slice Ua.pt.A Ua.pt.n Ua.pt.c) ∧ w11.cell? ⟨qUa, 2, none⟩ = some (.slice Ua.lk.A Ua.lk.n Ua.lk.c) ∧ w11.cell? ⟨qUa, 3, none⟩ = some (.slice Ua.dm.A Ua.dm.n Ua.dm.c) ∧ w11.cell? ⟨qUa, 4, none⟩ = some (.slice Ua.st.A Ua.st.n Ua.st.c) ∧ w11.cell? ⟨qUa, 5, none⟩ = some (.slice Ua.fl.A Ua.fl.n Ua.fl.c) ∧ w11.cell? ⟨qUa, 6, none⟩ = some (.slice Ua.vr.A Ua.vr.n Ua.vr.c) ∧ w11.cell? ⟨qUa, 7, none⟩ = some (.slice Ua.ir.A Ua.ir.n Ua.ir.c) := ⟨nb_.c0, nb_.c1, nb_.c2, nb_.c3, nb_.c4, nb_.c5, nb_.c6, nb_.c7⟩
  clear nb_
  have nb_ := NB_Ub.out.below Z_Ub.out
  have lb := nb_.lt
  obtain ⟨b0, b1, b2, b3, b4, b5, b6, b7⟩ : w11.cell? ⟨qUb, 0, none⟩ = some (.slice Ub.dv.A Ub.dv.n Ub.dv.c) ∧ w11.cell? ⟨qUb, 1, none⟩ = some (.slice Ub.pt.A Ub.pt.n Ub.pt.c) ∧ w11.cell? ⟨qUb, 2, none⟩ = some (.slice Ub.lk.A Ub.lk.n Ub.lk.c) ∧ w11.cell? ⟨qUb, 3, none⟩ = some (.slice Ub.dm.A Ub.dm.n Ub.dm.c) ∧ w11.cell? ⟨qUb, 4, none⟩ = some (.slice Ub.st.A Ub.st.n Ub.st.c) ∧ w11.cell? ⟨qUb, 5, none⟩ = some (.slice Ub.fl.A Ub.fl.n Ub.fl.c) ∧ w11.cell? ⟨qUb, 6, none⟩ = some (.slice Ub.vr.A Ub.vr.n Ub.vr.c) ∧ w11.cell? ⟨qUb, 7, none⟩ = some (.slice Ub.ir.A Ub.ir.n Ub.ir.c) := ⟨nb_.c0, nb_.c1, nb_.c2, nb_.c3, nb_.c4, nb_.c5, nb_.c6, nb_.c7⟩
  clear nb_
  have nb_ := NB_Uc.out.below Z_Uc.out
  have lc := nb_.lt
  obtain ⟨c0, c1, c2, c3, c4, c5, c6, c7⟩ : w11.cell? ⟨qUc, 0, none⟩ = some (.slice Uc.dv.A Uc.dv.n Uc.dv.c) ∧ w11.cell? ⟨qUc, 1, none⟩ = some (.slice Uc.pt.A Uc.pt.n Uc.pt.c) ∧ w11.cell? ⟨qUc, 2, none⟩ = some (.slice Uc.lk.A Uc.lk.n Uc.lk.c) ∧ w11.cell? ⟨qUc, 3, none⟩ = some (.slice Uc.dm.A Uc.dm.n Uc.dm.c) ∧ w11.cell? ⟨qUc, 4, none⟩ = some (.slice Uc.st.A Uc.st.n Uc.st.c) ∧ w11.cell? ⟨qUc, 5, none⟩ = some (.slice Uc.fl.A Uc.fl.n Uc.fl.c) ∧ w11.cell? ⟨qUc, 6, none⟩ = some (.slice Uc.vr.A Uc.vr.n Uc.vr.c) ∧ w11.cell? ⟨qUc, 7, none⟩ = some (.slice Uc.ir.A Uc.ir.n Uc.ir.c) := ⟨nb_.c0, nb_.c1, nb_.c2, nb_.c3, nb_.c4, nb_.c5, nb_.c6, nb_.c7⟩
  clear nb_
  go_upto_region 13 with fail
  have KR_ := Lib.hid (show ∀ wx, Below w11.heap.size w11 wx → (wx.cell? ⟨w.heap.size, 0, none⟩ = some (.slice S.dv.A S.dv.n S.dv.c) ∧ wx.cell? ⟨w.heap.size, 1, none⟩ = some (.slice S.pt.A S.pt.n S.pt.c) ∧ wx.cell? ⟨w.heap.size, 2, none⟩ = some (.slice S.lk.A S.lk.n S.lk.c) ∧ wx.cell? ⟨w.heap.size, 3, none⟩ = some (.slice S.dm.A S.dm.n S.dm.c) ∧ wx.cell? ⟨w.heap.size, 4, none⟩ = some (.slice S.st.A S.st.n S.st.c) ∧ wx.cell? ⟨w.heap.size, 5, none⟩ = some (.slice S.fl.A S.fl.n S.fl.c) ∧ wx.cell? ⟨w.heap.size, 6, none⟩ = some (.slice S.vr.A S.vr.n S.vr.c) ∧ wx.cell? ⟨w.heap.size, 7, none⟩ = some (.slice S.ir.A S.ir.n S.ir.c)) ∧ (wx.cell? ⟨w.heap.size + 1, 2, none⟩ = some (.string (str L.dev)) ∧ wx.cell? ⟨w.heap.size + 1, 8, none⟩ = some (.int .u32 L.addr) ∧ wx.cell? ⟨w.heap.size + 1, 10, none⟩ = some (.int .i64 L.vlan) ∧ wx.cell? ⟨w.heap.size + 1, 11, none⟩ = some (.int .i64 L.num) ∧ wx.cell? ⟨w.heap.size + 1, 16, none⟩ = some (.slice s4.A s4.n s4.c)) ∧ w.heap.size + 1 < wx.heap.size from fun wx hx => by
      have y_ := trans_below Y11.out hx
      obtain ⟨f_, g_, _⟩ := KN.out _ y_
      exact ⟨f_, g_, (by have := ql1; have := y_.size; omega)⟩)
  clear f0 f1 f2 f3 f4 f5 f6 f7 g2 g8 g10 g11 g16 lb_ la a0 a1 a2 a3 a4 a5 a6 a7 lb b0 b1 b2 b3 b4 b5 b6 b7 lc c0 c1 c2 c3 c4 c5 c6 c7
  refine wp_region_text (fun wx => Below w11.heap.size w11 wx) (by kernel_rfl) (by kernel_rfl) ((Below.refl _ _).drew) ?_
  repeat
    first
      | (refine Seq.pass rfl ?_; simp only [Act.put, List.setIfInBounds_toArray, List.set_cons_zero, List.set_cons_succ])
      | (refine Seq.run ?_ rfl (fun wx hx => ?_) ?_
         rotate_left
         · obtain ⟨⟨f0, f1, f2, f3, f4, f5, f6, f7⟩, ⟨g2, g8, g10, g11, g16⟩, ql_⟩ := KR_.out wx hx
           go_simp
           first
             | (refine StepRun.val ?_; exact hx)

         simp only [Act.put, List.setIfInBounds_toArray, List.set_cons_zero, List.set_cons_succ])
  refine Seq.last (fun w12 hb => ?_)
  have Y12 := Lib.hid (trans_below Y11.out hb)
  have X12 := Lib.hid (trans_below X11.out hb)
  have Z_Ua := Lib.hid (trans_below Z_Ua.out hb)
  have Z_Ub := Lib.hid (trans_below Z_Ub.out hb)
  have Z_Uc := Lib.hid (trans_below Z_Uc.out hb)
  clear hb KR_
  obtain ⟨⟨f0, f1, f2, f3, f4, f5, f6, f7⟩, ⟨g2, g8, g10, g11, g16⟩, lb_, _⟩ := KN.out _ Y12.out
  have nb_ := NB_Ua.out.below Z_Ua.out
  have la := nb_.lt
  obtain ⟨a0, a1, a2, a3, a4, a5, a6, a7⟩ : w12.cell? ⟨qUa, 0, none⟩ = some (.slice Ua.dv.A Ua.dv.n Ua.dv.c) ∧ w12.cell? ⟨qUa, 1, none⟩ = some (.slice Ua.pt.A Ua.pt.n Ua.pt.c) ∧ w12.cell? ⟨qUa, 2, none⟩ = some (.slice Ua.lk.A Ua.lk.n Ua.lk.c) ∧ w12.cell? ⟨qUa, 3, none⟩ = some (.slice Ua.dm.A Ua.dm.n Ua.dm.c) ∧ w12.cell? ⟨qUa, 4, none⟩ = some (.slice Ua.st.A Ua.st.n Ua.st.c) ∧ w12.cell? ⟨qUa, 5, none⟩ = some (.slice Ua.fl.A Ua.fl.n Ua.fl.c) ∧ w12.cell? ⟨qUa, 6, none⟩ = some (.slice Ua.vr.A Ua.vr.n Ua.vr.c) ∧ w12.cell? ⟨qUa, 7, none⟩ = some (.slice Ua.ir.A Ua.ir.n Ua.ir.c) := ⟨nb_.c0, nb_.c1, nb_.c2, nb_.c3, nb_.c4, nb_.c5, nb_.c6, nb_.c7⟩
  clear nb_
  have nb_ := NB_Ub.out.below Z_Ub.out
  have lb := nb_.lt
  obtain ⟨b0, b1, b2, b3, b4, b5, b6, b7⟩ : w12.cell? ⟨qUb, 0, none⟩ = some (.slice Ub.dv.A Ub.dv.n Ub.dv.c) ∧ w12.cell? ⟨qUb, 1, none⟩ = some (.slice Ub.pt.A Ub.pt.n Ub.pt.c) ∧ w12.cell? ⟨qUb, 2, none⟩ = some (.slice Ub.lk.A Ub.lk.n Ub.lk.c) ∧ w12.cell? ⟨qUb, 3, none⟩ = some (.slice Ub.dm.A Ub.dm.n Ub.dm.c) ∧ w12.cell? ⟨qUb, 4, none⟩ = some (.slice Ub.st.A Ub.st.n Ub.st.c) ∧ w12.cell? ⟨qUb, 5, none⟩ = some (.slice Ub.fl.A Ub.fl.n Ub.fl.c) ∧ w12.cell? ⟨qUb, 6, none⟩ = some (.slice Ub.vr.A Ub.vr.n Ub.vr.c) ∧ w12.cell? ⟨qUb, 7, none⟩ = some (.slice Ub.ir.A Ub.ir.n Ub.ir.c) := ⟨nb_.c0, nb_.c1, nb_.c2, nb_.c3, nb_.c4, nb_.c5, nb_.c6, nb_.c7⟩
  clear nb_
  have nb_ := NB_Uc.out.below Z_Uc.out
  have lc := nb_.lt
  obtain ⟨c0, c1, c2, c3, c4, c5, c6, c7⟩ : w12.cell? ⟨qUc, 0, none⟩ = some (.slice Uc.dv.A Uc.dv.n Uc.dv.c) ∧ w12.cell? ⟨qUc, 1, none⟩ = some (.slice Uc.pt.A Uc.pt.n Uc.pt.c) ∧ w12.cell? ⟨qUc, 2, none⟩ = some (.slice Uc.lk.A Uc.lk.n Uc.lk.c) ∧ w12.cell? ⟨qUc, 3, none⟩ = some (.slice Uc.dm.A Uc.dm.n Uc.dm.c) ∧ w12.cell? ⟨qUc, 4, none⟩ = some (.slice Uc.st.A Uc.st.n Uc.st.c) ∧ w12.cell? ⟨qUc, 5, none⟩ = some (.slice Uc.fl.A Uc.fl.n Uc.fl.c) ∧ w12.cell? ⟨qUc, 6, none⟩ = some (.slice Uc.vr.A Uc.vr.n Uc.vr.c) ∧ w12.cell? ⟨qUc, 7, none⟩ = some (.slice Uc.ir.A Uc.ir.n Uc.ir.c) := ⟨nb_.c0, nb_.c1, nb_.c2, nb_.c3, nb_.c4, nb_.c5, nb_.c6, nb_.c7⟩
  clear nb_
  go_upto_region 15 with fail
  go_upto_region 17 with fail
  have ZC0_ := Lib.hid (show Below w9.heap.size w9 w12 from Z_Uc.out)
  have YK_ := Y12
  have XK_ := X12
  go_upto_region 18 with (go_at_call 27; (refine (XC.out NC Uc w9 _ NC_.out (show Below w9.heap.size w9 w12 from Z_Uc.out) ZZC.out).mono ?_); rintro e w13 ⟨Uy, rfl, hr, hb⟩; have Y13 := Lib.hid (trans_below Y12.out hb); have X13 := Lib.hid (trans_below X12.out hb); have Z_Ua := Lib.hid (trans_below Z_Ua.out hb); have Z_Ub := Lib.hid (trans_below Z_Ub.out hb); have Z_Uc := Lib.hid (trans_below Z_Uc.out hb); have R_Uy := Lib.hid hr; have HB_ := Lib.hid hb; clear hr; skip; clear hb)
  clear f0 f1 f2 f3 f4 f5 f6 f7 g2 g8 g10 g11 g16 lb_ la a0 a1 a2 a3 a4 a5 a6 a7 lb b0 b1 b2 b3 b4 b5 b6 b7 lc c0 c1 c2 c3 c4 c5 c6 c7
  obtain ⟨w14, hw_⟩ : ∃ w, w13.alloc (.cells (nA Uy) 31) = w := ⟨_, rfl⟩
  have A_ : Below w13.heap.size w13 w14 := by rw [← hw_]; exact alloc_below _ _
  have OY := Lib.hid (R_Uy.out.up A_)
  obtain ⟨qUy, hq_⟩ : ∃ q, w13.heap.size = q := ⟨_, rfl⟩
  have TQ_ := Lib.hid (show TBx w14 qUy 31 (netC Uy) by rw [← hw_, ← hq_]; exact TBx.new w13 _ _)
  have HQ_ := Lib.hid (show w12.heap.size ≤ qUy ∧ qUy < w14.heap.size from ⟨by rw [← hq_]; exact HB_.out.size, TQ_.out.lt⟩)
  have Y14 := Lib.hid (trans_below Y13.out A_)
  have X14 := Lib.hid (trans_below X13.out A_)
  have Z_Ua := Lib.hid (trans_below Z_Ua.out A_)
  have Z_Ub := Lib.hid (trans_below Z_Ub.out A_)
  have Z_Uc := Lib.hid (trans_below Z_Uc.out A_)
  have BM_ := Lib.hid (trans_below HB_.out A_)
  rw [hw_, hq_]
  clear hw_ hq_ A_ R_Uy HB_
  obtain ⟨⟨f0, f1, f2, f3, f4, f5, f6, f7⟩, ⟨g2, g8, g10, g11, g16⟩, lb_, _⟩ := KN.out _ Y14.out
  have nb_ := NB_Ua.out.below Z_Ua.out
  have la := nb_.lt
  obtain ⟨a0, a1, a2, a3, a4, a5, a6, a7⟩ : w14.cell? ⟨qUa, 0, none⟩ = some (.slice Ua.dv.A Ua.dv.n Ua.dv.c) ∧ w14.cell? ⟨qUa, 1, none⟩ = some (.slice Ua.pt.A Ua.pt.n Ua.pt.c) ∧ w14.cell? ⟨qUa, 2, none⟩ = some (.slice Ua.lk.A Ua.lk.n Ua.lk.c) ∧ w14.cell? ⟨qUa, 3, none⟩ = some (.slice Ua.dm.A Ua.dm.n Ua.dm.c) ∧ w14.cell? ⟨qUa, 4, none⟩ = some (.slice Ua.st.A Ua.st.n Ua.st.c) ∧ w14.cell? ⟨qUa, 5, none⟩ = some (.slice Ua.fl.A Ua.fl.n Ua.fl.c) ∧ w14.cell? ⟨qUa, 6, none⟩ = some (.slice Ua.vr.A Ua.vr.n Ua.vr.c) ∧ w14.cell? ⟨qUa, 7, none⟩ = some (.slice Ua.ir.A Ua.ir.n Ua.ir.c) := ⟨nb_.c0, nb_.c1, nb_.c2, nb_.c3, nb_.c4, nb_.c5, nb_.c6, nb_.c7⟩
  clear nb_
  have nb_ := NB_Ub.out.below Z_Ub.out
  have lb := nb_.lt
  obtain ⟨b0, b1, b2, b3, b4, b5, b6, b7⟩ : w14.cell? ⟨qUb, 0, none⟩ = some (.slice Ub.dv.A Ub.dv.n Ub.dv.c) ∧ w14.cell? ⟨qUb, 1, none⟩ = some (.slice Ub.pt.A Ub.pt.n Ub.pt.c) ∧ w14.cell? ⟨qUb, 2, none⟩ = some (.slice Ub.lk.A Ub.lk.n Ub.lk.c) ∧ w14.cell? ⟨qUb, 3, none⟩ = some (.slice Ub.dm.A Ub.dm.n Ub.dm.c) ∧ w14.cell? ⟨qUb, 4, none⟩ = some (.slice Ub.st.A Ub.st.n Ub.st.c) ∧ w14.cell? ⟨qUb, 5, none⟩ = some (.slice Ub.fl.A Ub.fl.n Ub.fl.c) ∧ w14.cell? ⟨qUb, 6, none⟩ = some (.slice Ub.vr.A Ub.vr.n Ub.vr.c) ∧ w14.cell? ⟨qUb, 7, none⟩ = some (.slice Ub.ir.A Ub.ir.n Ub.ir.c) := ⟨nb_.c0, nb_.c1, nb_.c2, nb_.c3, nb_.c4, nb_.c5, nb_.c6, nb_.c7⟩
  clear nb_
  have nb_ := NB_Uc.out.below Z_Uc.out
  have lc := nb_.lt
  obtain ⟨c0, c1, c2, c3, c4, c5, c6, c7⟩ : w14.cell? ⟨qUc, 0, none⟩ = some (.slice Uc.dv.A Uc.dv.n Uc.dv.c) ∧ w14.cell? ⟨qUc, 1, none⟩ = some (.slice Uc.pt.A Uc.pt.n Uc.pt.c) ∧ w14.cell? ⟨qUc, 2, none⟩ = some (.slice Uc.lk.A Uc.lk.n Uc.lk.c) ∧ w14.cell? ⟨qUc, 3, none⟩ = some (.slice Uc.dm.A Uc.dm.n Uc.dm.c) ∧ w14.cell? ⟨qUc, 4, none⟩ = some (.slice Uc.st.A Uc.st.n Uc.st.c) ∧ w14.cell? ⟨qUc, 5, none⟩ = some (.slice Uc.fl.A Uc.fl.n Uc.fl.c) ∧ w14.cell? ⟨qUc, 6, none⟩ = some (.slice Uc.vr.A Uc.vr.n Uc.vr.c) ∧ w14.cell? ⟨qUc, 7, none⟩ = some (.slice Uc.ir.A Uc.ir.n Uc.ir.c) := ⟨nb_.c0, nb_.c1, nb_.c2, nb_.c3, nb_.c4, nb_.c5, nb_.c6, nb_.c7⟩
  clear nb_
  have t5 := TQ_.out.cell 5 (.slice Uy.fl.A Uy.fl.n Uy.fl.c) rfl
  have lt_ := TQ_.out.lt
  have ufl := show Uy.fl.n = S.fl.n + 1 by have e1 := OY.out.fl.len; have e2 := NN.out.2.2.1; have e3 := EL_.out; omega
  have UFL := Lib.hid ufl
  have z2_ : ((Uy.fl.n : Int) != (S.fl.n : Int) + 1) = false := by rw [ufl]; simp
  have wr_ : IntKind.i64.wrap ((S.fl.n : Int) + 1) = (S.fl.n : Int) + 1 := IntWalk.i64_in _ (by omega)
  clear ufl
  go_upto_region 20 with (go_at_call 23; (refine (XR.out NC Uc _ (N_Uc.out.up Z_Uc.out) ZZC.out OKC.out).mono ?_); rintro e w15 ⟨rfl, hb⟩; have Y15 := Lib.hid (trans_below Y14.out hb); have X15 := Lib.hid (trans_below X14.out hb); have Z_Ua := Lib.hid (trans_below Z_Ua.out hb); have Z_Ub := Lib.hid (trans_below Z_Ub.out hb); have Z_Uc := Lib.hid (trans_below Z_Uc.out hb); have HC_ := Lib.hid hb; clear t5 lt_; clear f0 f1 f2 f3 f4 f5 f6 f7 g2 g8 g10 g11 g16 lb_ la a0 a1 a2 a3 a4 a5 a6 a7 lb b0 b1 b2 b3 b4 b5 b6 b7 lc c0 c1 c2 c3 c4 c5 c6 c7; obtain ⟨⟨f0, f1, f2, f3, f4, f5, f6, f7⟩, ⟨g2, g8, g10, g11, g16⟩, lb_, _⟩ := KN.out _ Y15.out; have nb_ := NB_Ua.out.below Z_Ua.out; have la := nb_.lt; obtain ⟨a0, a1, a2, a3, a4, a5, a6, a7⟩ : w15.cell? ⟨qUa, 0, none⟩ = some (.slice Ua.dv.A Ua.dv.n Ua.dv.c) ∧ w15.cell? ⟨qUa, 1, none⟩ = some (.slice Ua.pt.A Ua.pt.n Ua.pt.c) ∧ w15.cell? ⟨qUa, 2, none⟩ = some (.slice Ua.lk.A Ua.lk.n Ua.lk.c) ∧ w15.cell? ⟨qUa, 3, none⟩ = some (.slice Ua.dm.A Ua.dm.n Ua.dm.c) ∧ w15.cell? ⟨qUa, 4, none⟩ = some (.slice Ua.st.A Ua.st.n Ua.st.c) ∧ w15.cell? ⟨qUa, 5, none⟩ = some (.slice Ua.fl.A Ua.fl.n Ua.fl.c) ∧ w15.cell? ⟨qUa, 6, none⟩ = some (.slice Ua.vr.A Ua.vr.n Ua.vr.c) ∧ w15.cell? ⟨qUa, 7, none⟩ = some (.slice Ua.ir.A Ua.ir.n Ua.ir.c) := ⟨nb_.c0, nb_.c1, nb_.c2, nb_.c3, nb_.c4, nb_.c5, nb_.c6, nb_.c7⟩; clear nb_; have nb_ := NB_Ub.out.below Z_Ub.out; have lb := nb_.lt; obtain ⟨b0, b1, b2, b3, b4, b5, b6, b7⟩ : w15.cell? ⟨qUb, 0, none⟩ = some (.slice Ub.dv.A Ub.dv.n Ub.dv.c) ∧ w15.cell? ⟨qUb, 1, none⟩ = some (.slice Ub.pt.A Ub.pt.n Ub.pt.c) ∧ w15.cell? ⟨qUb, 2, none⟩ = some (.slice Ub.lk.A Ub.lk.n Ub.lk.c) ∧ w15.cell? ⟨qUb, 3, none⟩ = some (.slice Ub.dm.A Ub.dm.n Ub.dm.c) ∧ w15.cell? ⟨qUb, 4, none⟩ = some (.slice Ub.st.A Ub.st.n Ub.st.c) ∧ w15.cell? ⟨qUb, 5, none⟩ = some (.slice Ub.fl.A Ub.fl.n Ub.fl.c) ∧ w15.cell? ⟨qUb, 6, none⟩ = some (.slice Ub.vr.A Ub.vr.n Ub.vr.c) ∧ w15.cell? ⟨qUb, 7, none⟩ = some (.slice Ub.ir.A Ub.ir.n Ub.ir.c) := ⟨nb_.c0, nb_.c1, nb_.c2, nb_.c3, nb_.c4, nb_.c5, nb_.c6, nb_.c7⟩; clear nb_; have nb_ := NB_Uc.out.below Z_Uc.out; have lc := nb_.lt; obtain ⟨c0, c1, c2, c3, c4, c5, c6, c7⟩ : w15.cell? ⟨qUc, 0, none⟩ = some (.slice Uc.dv.A Uc.dv.n Uc.dv.c) ∧ w15.cell? ⟨qUc, 1, none⟩ = some (.slice Uc.pt.A Uc.pt.n Uc.pt.c) ∧ w15.cell? ⟨qUc, 2, none⟩ = some (.slice Uc.lk.A Uc.lk.n Uc.lk.c) ∧ w15.cell? ⟨qUc, 3, none⟩ = some (.slice Uc.dm.A Uc.dm.n Uc.dm.c) ∧ w15.cell? ⟨qUc, 4, none⟩ = some (.slice Uc.st.A Uc.st.n Uc.st.c) ∧ w15.cell? ⟨qUc, 5, none⟩ = some (.slice Uc.fl.A Uc.fl.n Uc.fl.c) ∧ w15.cell? ⟨qUc, 6, none⟩ = some (.slice Uc.vr.A Uc.vr.n Uc.vr.c) ∧ w15.cell? ⟨qUc, 7, none⟩ = some (.slice Uc.ir.A Uc.ir.n Uc.ir.c) := ⟨nb_.c0, nb_.c1, nb_.c2, nb_.c3, nb_.c4, nb_.c5, nb_.c6, nb_.c7⟩; clear nb_; clear hb)
  have BK_ := Lib.hid (trans_below BM_.out HC_.out)
  clear z2_ wr_
  have OY2 := Lib.hid (OY.out.up HC_.out)
  have TR_ := Lib.hid (TQ_.out.below HC_.out)
  clear OY TQ_
  have t5 := TR_.out.cell 5 (.slice Uy.fl.A Uy.fl.n Uy.fl.c) rfl
  have z5 := TR_.out.live 5
  have lt_ := TR_.out.lt
  have e_ : S.fl.n ≤ Uy.fl.n := by have := UFL.out; omega
  have c_ := OY2.out.fl.le
  unfold maxLen at c_
  obtain ⟨c1_, c2_⟩ := c_
  go_upto_region 21 with fail
  clear f0 f1 f2 f3 f4 f5 f6 f7 g2 g8 g10 g11 g16 lb_ la a0 a1 a2 a3 a4 a5 a6 a7 lb b0 b1 b2 b3 b4 b5 b6 b7 lc c0 c1 c2 c3 c4 c5 c6 c7
  clear t5 z5 lt_ e_ c1_ c2_
  generalize hw_ : World.setCell _ _ _ = w16
  obtain ⟨Uz, hc_⟩ : ∃ X : NSl3, ({ Uy with fl := ⟨Uy.fl.A, S.fl.n, Uy.fl.c⟩ } : NSl3) = X := ⟨_, rfl⟩
  have FF := show ∀ b, allB w9 b → b < w12.heap.size from fun b g => Nat.lt_of_lt_of_le g ZC0_.out.size
  have O13 := Lib.hid (show NOwn w16 w12.heap.size (allB w9) NC Uy by rw [← hw_]; exact OY2.out.box (TR_.out.chgT HQ_.out.1 5 _) isb_net FF)
  have TS_ := Lib.hid (show TBx w16 qUy 31 (netC Uz) by rw [← hw_, ← hc_]; exact TR_.out.set 5 _)
  have B0_ := Lib.hid (show Below w12.heap.size w12 w16 by rw [← hw_]; exact Below.setCell (BK_.out) (p := ⟨qUy, 5, none⟩) HQ_.out.1 _)
  have N_Uz := Lib.hid (show NRead w16 (allB w16) N Uz from by
    have e := CUT.out _ _ _ O13.out.read
    rw [NN.out.2.2.1, hc_] at e
    exact e)
  have t_ := TS_.out
  have t0 := t_.cell 0 (.slice Uz.dv.A Uz.dv.n Uz.dv.c) rfl
  have t1 := t_.cell 1 (.slice Uz.pt.A Uz.pt.n Uz.pt.c) rfl
  have t2 := t_.cell 2 (.slice Uz.lk.A Uz.lk.n Uz.lk.c) rfl
  have t3 := t_.cell 3 (.slice Uz.dm.A Uz.dm.n Uz.dm.c) rfl
  have t4 := t_.cell 4 (.slice Uz.st.A Uz.st.n Uz.st.c) rfl
  have t5 := t_.cell 5 (.slice Uz.fl.A Uz.fl.n Uz.fl.c) rfl
  have t6 := t_.cell 6 (.slice Uz.vr.A Uz.vr.n Uz.vr.c) rfl
  have t7 := t_.cell 7 (.slice Uz.ir.A Uz.ir.n Uz.ir.c) rfl
  have lt_ := t_.lt
  clear t_ hw_ hc_ OY2 FF O13 TR_ HQ_
  have Y16 := Lib.hid (trans_below YK_.out B0_.out)
  have X16 := Lib.hid (trans_below XK_.out B0_.out)
  obtain ⟨⟨f0, f1, f2, f3, f4, f5, f6, f7⟩, ⟨g2, g8, g10, g11, g16⟩, lb_, _⟩ := KN.out _ Y16.out
  go_wp2_with (go_at_call 22; (refine (XS.out N Uz S _ N_Uz.out (U1_.out _ X16.out) ZN.out).mono ?_); rintro e we ⟨rfl, hb⟩; have XE := Lib.hid (trans_below X16.out hb); clear hb)
  go_ret
  exact ⟨rfl, XE.out⟩
end Go.Proofs.YtgmflecelnefcaaGreat

