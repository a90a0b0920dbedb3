/- Only what the statement at hand leans on. -/
import Derived.Test.YthobolmedppneaaGreatKb39
import Derived.Test.YthobolmedppneaaGreatKb40
import Derived.Test.YthobolmedppneaaGreatKb03
/- The walk of PortsKeeps. (Made by mk-nwkeeps.py.) -/
namespace Go.Proofs.YthobolmedppneaaGreat
open Go.RowKit

set_option maxRecDepth 40000 in
set_option maxHeartbeats 40000000 in
theorem pkeeps_walk (N : NV) (S : NSl3) (L : LV) (s1 s2 s3 s4 : SlV) (w : World) (h : NRead w (allB w) N S) (hl : LRead w L s1 s2 s3 s4) (hm : NmSz N) (hw : LvW L) : Calls Tryz.prog 4 #[netV S, lineV L s1 s2 s3 s4] w fun e w' => e = .returned (.bool true) ∧ Below w.heap.size w w' := by
  have NA_ := Lib.hid (NBox.new w S 31)
  have LA_ := Lib.hid (line_boxed (w.alloc (.cells #[.slice S.dv.A S.dv.n S.dv.c, .slice S.pt.A S.pt.n S.pt.c, .slice S.lk.A S.lk.n S.lk.c, .slice S.dm.A S.dm.n S.dm.c, .slice S.st.A S.st.n S.st.c, .slice S.fl.A S.fl.n S.fl.c, .slice S.vr.A S.vr.n S.vr.c, .slice S.ir.A S.ir.n S.ir.c] 31)) L s1 s2 s3 s4 37)
  have NT_ := Lib.hid (TBx.new ((w.alloc (.cells #[.slice S.dv.A S.dv.n S.dv.c, .slice S.pt.A S.pt.n S.pt.c, .slice S.lk.A S.lk.n S.lk.c, .slice S.dm.A S.dm.n S.dm.c, .slice S.st.A S.st.n S.st.c, .slice S.fl.A S.fl.n S.fl.c, .slice S.vr.A S.vr.n S.vr.c, .slice S.ir.A S.ir.n S.ir.c] 31)).alloc (.cells #[.int .i64 L.row, .int .i64 L.kind, .string (str L.dev), .string (str L.port), .string (str L.peer), .string (str L.far), .string (str L.name), .int .u64 L.mac, .int .u32 L.addr, .int .i64 L.bits, .int .i64 L.vlan, .int .i64 L.num, .int .i64 L.cost, .slice s1.A s1.n s1.c, .slice s2.A s2.n s2.c, .slice s3.A s3.n s3.c, .slice s4.A s4.n s4.c] 37)) #[.slice none 0 0, .slice none 0 0, .slice none 0 0, .slice none 0 0, .slice none 0 0, .slice none 0 0, .slice none 0 0, .slice none 0 0] 31)
  have UP := Lib.hid (fun (w' : World) (hb : Below w.heap.size w w') => h.up hb)
  have UL := Lib.hid (fun (w' : World) (hb : Below w.heap.size w w') => lread_below hl hb)
  have HM := Lib.hid hm
  have HW := Lib.hid hw
  have NN := Lib.hid (show N.devices.length = S.dv.n ∧ N.ports.length = S.pt.n ∧ N.domains.length = S.dm.n from ⟨h.dv.len, h.pt.len, h.dm.len⟩)
  have lepn := h.pt.le
  have capn := h.pt.cap
  have lemn := h.dm.le
  have capm := h.dm.cap
  have U1_ := Lib.hid (fun (w' : World) (hb : Below w.heap.size w w') => h.up hb)
  have L1_ := Lib.hid (fun (w' : World) (hb : Below w.heap.size w w') => lread_below hl hb)
  have G1 := fun (w' : World) (hb : Below w.heap.size w w') => great16_any N S L s1 s2 s3 s4 w' (h.up hb) (lread_below hl hb)
  unfold GotGr netV at G1
  have G1 := Lib.hid G1
  clear hm hw
  clear h hl
  unfold netV
  rw [show lineV L s1 s2 s3 s4 = .agg #[.int .i64 L.row, .int .i64 L.kind, .string (str L.dev), .string (str L.port), .string (str L.peer), .string (str L.far), .string (str L.name), .int .u64 L.mac, .int .u32 L.addr, .int .i64 L.bits, .int .i64 L.vlan, .int .i64 L.num, .int .i64 L.cost, .slice s1.A s1.n s1.c, .slice s2.A s2.n s2.c, .slice s3.A s3.n s3.c, .slice s4.A s4.n s4.c] from rfl]
  go_enter Tryz.func4, Tryz.ntmps4
  go_upto_region 1 with fail
  obtain ⟨w1, hw1⟩ : ∃ w1, (w.alloc (.cells #[.slice S.dv.A S.dv.n S.dv.c, .slice S.pt.A S.pt.n S.pt.c, .slice S.lk.A S.lk.n S.lk.c, .slice S.dm.A S.dm.n S.dm.c, .slice S.st.A S.st.n S.st.c, .slice S.fl.A S.fl.n S.fl.c, .slice S.vr.A S.vr.n S.vr.c, .slice S.ir.A S.ir.n S.ir.c] 31)).alloc (.cells #[.int .i64 L.row, .int .i64 L.kind, .string (str L.dev), .string (str L.port), .string (str L.peer), .string (str L.far), .string (str L.name), .int .u64 L.mac, .int .u32 L.addr, .int .i64 L.bits, .int .i64 L.vlan, .int .i64 L.num, .int .i64 L.cost, .slice s1.A s1.n s1.c, .slice s2.A s2.n s2.c, .slice s3.A s3.n s3.c, .slice s4.A s4.n s4.c] 37) = w1 := ⟨_, rfl⟩
  have B1 := Lib.hid (show Below w.heap.size w w1 by rw [← hw1]; exact ((Below.refl _ _).alloc (Nat.le_refl _) _).alloc (by simp) _)
  have NB := Lib.hid (show NBox w1 w.heap.size S by rw [← hw1]; exact NA_.out.below ((Below.refl _ _).alloc (Nat.le_refl _) _))
  have LB := Lib.hid (show BoxF w1 (w.heap.size + 1) 17 (lc L s1 s2 s3 s4) by
    have := LA_.out
    rw [show (w.alloc (.cells #[.slice S.dv.A S.dv.n S.dv.c, .slice S.pt.A S.pt.n S.pt.c, .slice S.lk.A S.lk.n S.lk.c, .slice S.dm.A S.dm.n S.dm.c, .slice S.st.A S.st.n S.st.c, .slice S.fl.A S.fl.n S.fl.c, .slice S.vr.A S.vr.n S.vr.c, .slice S.ir.A S.ir.n S.ir.c] 31)).heap.size = w.heap.size + 1 by simp] at this
    rw [← hw1]; exact this)
  have ql1 : w.heap.size + 1 < w1.heap.size := by rw [← hw1]; simp
  rw [hw1]
  clear hw1 NA_ LA_ NT_
  have KN := Lib.hid (show ∀ wx, Below w1.heap.size w1 wx → (wx.cell? ⟨w.heap.size, 0, none⟩ = some (.slice S.dv.A S.dv.n S.dv.c) ∧ wx.cell? ⟨w.heap.size, 1, none⟩ = some (.slice S.pt.A S.pt.n S.pt.c) ∧ wx.cell? ⟨w.heap.size, 2, none⟩ = some (.slice S.lk.A S.lk.n S.lk.c) ∧ wx.cell? ⟨w.heap.size, 3, none⟩ = some (.slice S.dm.A S.dm.n S.dm.c) ∧ wx.cell? ⟨w.heap.size, 4, none⟩ = some (.slice S.st.A S.st.n S.st.c) ∧ wx.cell? ⟨w.heap.size, 5, none⟩ = some (.slice S.fl.A S.fl.n S.fl.c) ∧ wx.cell? ⟨w.heap.size, 6, none⟩ = some (.slice S.vr.A S.vr.n S.vr.c) ∧ wx.cell? ⟨w.heap.size, 7, none⟩ = some (.slice S.ir.A S.ir.n S.ir.c)) ∧ (wx.cell? ⟨w.heap.size + 1, 2, none⟩ = some (.string (str L.dev)) ∧ wx.cell? ⟨w.heap.size + 1, 3, none⟩ = some (.string (str L.port)) ∧ wx.cell? ⟨w.heap.size + 1, 10, none⟩ = some (.int .i64 L.vlan)) ∧ BoxF wx (w.heap.size + 1) 17 (lc L s1 s2 s3 s4) ∧ NRead wx (allB wx) N S ∧ LRead wx L s1 s2 s3 s4 ∧ Below w.heap.size w wx from fun wx hx => by
    have nb := NB.out.below hx
    have bx := LB.out.below (by omega) hx
    have b0 := B1.out.trans (hx.mono B1.out.size)
    exact ⟨⟨nb.c0, nb.c1, nb.c2, nb.c3, nb.c4, nb.c5, nb.c6, nb.c7⟩, ⟨bx.cell 2 (by omega), bx.cell 3 (by omega), bx.cell 10 (by omega)⟩, bx, UP.out _ b0, UL.out _ b0, b0⟩)
  have BS := Lib.hid (Below.refl w1.heap.size w1)
  obtain ⟨⟨f0, f1, f2, f3, f4, f5, f6, f7⟩, ⟨g2, g3, g10⟩, lb_, _⟩ := KN.out w1 (Below.refl _ _)
  go_upto_region 5 with (first
    | ((with_reducible refine wpList_lineOf ?hg (.tmp 3) ?ho (w.heap.size + 1) ?hx L s1 s2 s3 s4 lb_ ?_); (case hg => rfl); (case ho => rfl); (case hx => rfl))
    | (go_at_call 6; (with_reducible refine (works16_any _).mono ?_); rintro e w2 ⟨rfl, b_⟩; have Y2 := Lib.hid b_; have X2 := Lib.hid (trans_below B1.out b_); obtain ⟨⟨f0, f1, f2, f3, f4, f5, f6, f7⟩, ⟨g2, g3, g10⟩, lb_, _⟩ := KN.out _ Y2.out; clear b_)
    | (go_at_call 5; (with_reducible refine (G1.out _ X2.out).mono ?_); rintro e w3 ⟨g, rfl, hg, b_⟩; have Y3 := Lib.hid (trans_below Y2.out b_); have X3 := Lib.hid (trans_below X2.out b_); have HG := Lib.hid hg; obtain ⟨⟨f0, f1, f2, f3, f4, f5, f6, f7⟩, ⟨g2, g3, g10⟩, lb_, _⟩ := KN.out _ Y3.out; clear hg b_; cases g))
  rotate_left
  · go_wp2
    go_ret
    exact ⟨rfl, X3.out⟩
  have SZ := HG.out (by simp)
  have ZN := Lib.hid SZ.1
  have ZL := Lib.hid SZ.2
  have PD := fun (w' : World) (hb : Below w.heap.size w w') => pdev_any N S L s1 s2 s3 s4 w' (U1_.out _ hb) (L1_.out _ hb) SZ.1 HM.out (lvm_of SZ.2 HW.out)
  have PP := fun (w' : World) (hb : Below w.heap.size w w') => pport_any N S L s1 s2 s3 s4 w' (U1_.out _ hb) (L1_.out _ hb) SZ.1 HM.out (lvm_of SZ.2 HW.out)
  obtain ⟨ND, hND⟩ : ∃ v, pdN N L = v := ⟨_, rfl⟩
  obtain ⟨ED, hED⟩ : ∃ v, pdE N L = v := ⟨_, rfl⟩
  obtain ⟨NP, hNP⟩ : ∃ v, ppN N L = v := ⟨_, rfl⟩
  obtain ⟨EP, hEP⟩ : ∃ v, ppE N L = v := ⟨_, rfl⟩
  rw [hND, hED] at PD
  rw [hNP, hEP] at PP
  unfold GotPut netV at PD PP
  have PD := Lib.hid PD
  have PP := Lib.hid PP
  have HND := Lib.hid hND
  have HED := Lib.hid hED
  have HNP := Lib.hid hNP
  have HEP := Lib.hid hEP
  have XS := Lib.hid (fun (M : NV) (A B : NSl3) (w' : World) (ha : NRead w' (allB w') M A) (hb : NRead w' (allB w') M B) (hz : NvSz M) => show Calls Tryz.prog 15 #[netV A, netV B] w' (fun e w'' => e = .returned (.bool true) ∧ Below w'.heap.size w' w'') from by have := xnsame_any M M A B w' ha hb hz hz; rw [nsmB_yes rfl] at this; exact this)
  have XR := Lib.hid (fun (M : NV) (A : NSl3) (w' : World) (ha : NRead w' (allB w') M A) (hz : NvSz M) (hn : NetOk M) => show Calls Tryz.prog 14 #[netV A] w' (fun e w'' => e = .returned (.bool true) ∧ Below w'.heap.size w' w'') from by have := xnright_any M A w' ha hz; rw [netB_yes hn] at this; exact this)
  have XC := Lib.hid (fun (M : NV) (A : NSl3) (w0 w' : World) (ha : NRead w0 (allB w0) M A) (hb : Below w0.heap.size w0 w') (hz : NvSz M) => show Calls Tryz.prog 12 #[netV A] w' (fun e w'' => ∃ U, e = .returned (netV U) ∧ NRead w'' (allB w'') M U ∧ Below w'.heap.size w' w'') from (rcopy_any (allB w0) M A w' (ha.keep (F' := allB w0) (fun b g => hb.block b g) (fun _ g => g)) (fun b g => Nat.lt_of_lt_of_le g hb.size) hz).mono fun e w'' ⟨U, e1, e2, e3⟩ => ⟨U, e1, e2.read, e3⟩)
  unfold netV at XS XR XC
  have SD := Lib.hid (fun (M : NV) (A : NSl3) (w' : World) (ha : NRead w' (allB w') M A) (hz : NvSz M) (hn : NetOk M) => xndevice_any M A L.dev w' ha hz hn (by have := SZ.2.txt; omega))
  have SP := Lib.hid (fun (M : NV) (A : NSl3) (d : Int) (w' : World) (ha : NRead w' (allB w') M A) (hz : NvSz M) (hn : NetOk M) => xnport_any M A d L.port w' ha hz hn (by have := SZ.2.txt; omega))
  have SA := Lib.hid (fun (M : NV) (A : NSl3) (d v : Int) (w' : World) (ha : NRead w' (allB w') M A) (hz : NvSz M) (hn : NetOk M) => xndomain_any M A d v w' ha hz hn)
  unfold netV at SD SP SA
  clear hND hED hNP hEP SZ HG G1
  go_upto_region 6 with (first
    | ((with_reducible refine wpList_lineOf ?hg (.tmp 3) ?ho (w.heap.size + 1) ?hx L s1 s2 s3 s4 lb_ ?_); (case hg => rfl); (case ho => rfl); (case hx => rfl))
    | (go_at_call 7; (refine (PD.out _ X3.out).mono ?_); rintro e w4 ⟨Ua, rfl, hr, hb⟩; have Y4 := Lib.hid (trans_below Y3.out hb); have X4 := Lib.hid (trans_below X3.out hb); have R_Ua := Lib.hid hr; clear hr; skip; clear hb))
  clear f0 f1 f2 f3 f4 f5 f6 f7 g2 g3 g10 lb_
  obtain ⟨w5, hw5⟩ : ∃ w5, w4.alloc (.cells #[.slice Ua.dv.A Ua.dv.n Ua.dv.c, .slice Ua.pt.A Ua.pt.n Ua.pt.c, .slice Ua.lk.A Ua.lk.n Ua.lk.c, .slice Ua.dm.A Ua.dm.n Ua.dm.c, .slice Ua.st.A Ua.st.n Ua.st.c, .slice Ua.fl.A Ua.fl.n Ua.fl.c, .slice Ua.vr.A Ua.vr.n Ua.vr.c, .slice Ua.ir.A Ua.ir.n Ua.ir.c] 31) = w5 := ⟨_, rfl⟩
  have A_ : Below w4.heap.size w4 w5 := by rw [← hw5]; exact alloc_below _ _
  obtain ⟨qUa, hqUa⟩ : ∃ q, w4.heap.size = q := ⟨_, rfl⟩
  have NB_Ua := Lib.hid (show NBox w5 qUa Ua by rw [← hw5, ← hqUa]; exact NBox.new _ _ _)
  have N_Ua := Lib.hid (R_Ua.out.up A_)
  have Y5 := Lib.hid (trans_below Y4.out A_)
  have X5 := Lib.hid (trans_below X4.out A_)
  have Z_Ua := Lib.hid (Below.refl w5.heap.size w5)
  have TQ_Ua := Lib.hid (show TBx w5 qUa 31 (netC Ua) by rw [← hw5, ← hqUa]; exact TBx.new w4 _ _)
  have HQ_Ua := Lib.hid hqUa
  have BA_Ua := Lib.hid A_
  rw [hw5, hqUa]
  clear hw5 hqUa A_
  obtain ⟨⟨f0, f1, f2, f3, f4, f5, f6, f7⟩, ⟨g2, g3, g10⟩, lb_, _⟩ := KN.out _ Y5.out
  have nb_ := NB_Ua.out.below Z_Ua.out
  have la := nb_.lt
  obtain ⟨a0, a1, a2, a3, a4, a5, a6, a7⟩ : w5.cell? ⟨qUa, 0, none⟩ = some (.slice Ua.dv.A Ua.dv.n Ua.dv.c) ∧ w5.cell? ⟨qUa, 1, none⟩ = some (.slice Ua.pt.A Ua.pt.n Ua.pt.c) ∧ w5.cell? ⟨qUa, 2, none⟩ = some (.slice Ua.lk.A Ua.lk.n Ua.lk.c) ∧ w5.cell? ⟨qUa, 3, none⟩ = some (.slice Ua.dm.A Ua.dm.n Ua.dm.c) ∧ w5.cell? ⟨qUa, 4, none⟩ = some (.slice Ua.st.A Ua.st.n Ua.st.c) ∧ w5.cell? ⟨qUa, 5, none⟩ = some (.slice Ua.fl.A Ua.fl.n Ua.fl.c) ∧ w5.cell? ⟨qUa, 6, none⟩ = some (.slice Ua.vr.A Ua.vr.n Ua.vr.c) ∧ w5.cell? ⟨qUa, 7, none⟩ = some (.slice Ua.ir.A Ua.ir.n Ua.ir.c) := ⟨nb_.c0, nb_.c1, nb_.c2, nb_.c3, nb_.c4, nb_.c5, nb_.c6, nb_.c7⟩
  clear nb_
  by_cases hE : ED = 0
  rotate_left
  · have x1 : (ED == 0) = false := by simpa using hE
    clear hE
    go_upto_region 14 with (first
      | ((with_reducible refine wpList_lineOf ?hg (.tmp 3) ?ho (w.heap.size + 1) ?hx L s1 s2 s3 s4 lb_ ?_); (case hg => rfl); (case ho => rfl); (case hx => rfl))
      | (go_at_call 9; (refine (PP.out _ X5.out).mono ?_); rintro e w6 ⟨Up, rfl, hr, hb⟩; have Y6 := Lib.hid (trans_below Y5.out hb); have X6 := Lib.hid (trans_below X5.out hb); have Z_Ua := Lib.hid (trans_below Z_Ua.out hb); have R_Up := Lib.hid hr; clear hr; skip; clear hb))
    clear f0 f1 f2 f3 f4 f5 f6 f7 g2 g3 g10 lb_ la a0 a1 a2 a3 a4 a5 a6 a7
    obtain ⟨w7, hw7⟩ : ∃ w7, w6.alloc (.cells #[.slice Up.dv.A Up.dv.n Up.dv.c, .slice Up.pt.A Up.pt.n Up.pt.c, .slice Up.lk.A Up.lk.n Up.lk.c, .slice Up.dm.A Up.dm.n Up.dm.c, .slice Up.st.A Up.st.n Up.st.c, .slice Up.fl.A Up.fl.n Up.fl.c, .slice Up.vr.A Up.vr.n Up.vr.c, .slice Up.ir.A Up.ir.n Up.ir.c] 31) = w7 := ⟨_, rfl⟩
    have A_ : Below w6.heap.size w6 w7 := by rw [← hw7]; exact alloc_below _ _
    obtain ⟨qUp, hqUp⟩ : ∃ q, w6.heap.size = q := ⟨_, rfl⟩
    have NB_Up := Lib.hid (show NBox w7 qUp Up by rw [← hw7, ← hqUp]; exact NBox.new _ _ _)
    have N_Up := Lib.hid (R_Up.out.up A_)
    have Y7 := Lib.hid (trans_below Y6.out A_)
    have X7 := Lib.hid (trans_below X6.out A_)
    have Z_Ua := Lib.hid (trans_below Z_Ua.out A_)
    have Z_Up := Lib.hid (Below.refl w7.heap.size w7)
    have TQ_Up := Lib.hid (show TBx w7 qUp 31 (netC Up) by rw [← hw7, ← hqUp]; exact TBx.new w6 _ _)
    have HQ_Up := Lib.hid hqUp
    have BA_Up := Lib.hid A_
    rw [hw7, hqUp]
    clear hw7 hqUp A_
    obtain ⟨⟨f0, f1, f2, f3, f4, f5, f6, f7⟩, ⟨g2, g3, g10⟩, lb_, _⟩ := KN.out _ Y7.out
    have nb_ := NB_Ua.out.below Z_Ua.out
    have la := nb_.lt
    obtain ⟨a0, a1, a2, a3, a4, a5, a6, a7⟩ : w7.cell? ⟨qUa, 0, none⟩ = some (.slice Ua.dv.A Ua.dv.n Ua.dv.c) ∧ w7.cell? ⟨qUa, 1, none⟩ = some (.slice Ua.pt.A Ua.pt.n Ua.pt.c) ∧ w7.cell? ⟨qUa, 2, none⟩ = some (.slice Ua.lk.A Ua.lk.n Ua.lk.c) ∧ w7.cell? ⟨qUa, 3, none⟩ = some (.slice Ua.dm.A Ua.dm.n Ua.dm.c) ∧ w7.cell? ⟨qUa, 4, none⟩ = some (.slice Ua.st.A Ua.st.n Ua.st.c) ∧ w7.cell? ⟨qUa, 5, none⟩ = some (.slice Ua.fl.A Ua.fl.n Ua.fl.c) ∧ w7.cell? ⟨qUa, 6, none⟩ = some (.slice Ua.vr.A Ua.vr.n Ua.vr.c) ∧ w7.cell? ⟨qUa, 7, none⟩ = some (.slice Ua.ir.A Ua.ir.n Ua.ir.c) := ⟨nb_.c0, nb_.c1, nb_.c2, nb_.c3, nb_.c4, nb_.c5, nb_.c6, nb_.c7⟩
    clear nb_
    have nb_ := NB_Up.out.below Z_Up.out
    have lp := nb_.lt
    obtain ⟨p0, p1, p2, p3, p4, p5, p6, p7⟩ : w7.cell? ⟨qUp, 0, none⟩ = some (.slice Up.dv.A Up.dv.n Up.dv.c) ∧ w7.cell? ⟨qUp, 1, none⟩ = some (.slice Up.pt.A Up.pt.n Up.pt.c) ∧ w7.cell? ⟨qUp, 2, none⟩ = some (.slice Up.lk.A Up.lk.n Up.lk.c) ∧ w7.cell? ⟨qUp, 3, none⟩ = some (.slice Up.dm.A Up.dm.n Up.dm.c) ∧ w7.cell? ⟨qUp, 4, none⟩ = some (.slice Up.st.A Up.st.n Up.st.c) ∧ w7.cell? ⟨qUp, 5, none⟩ = some (.slice Up.fl.A Up.fl.n Up.fl.c) ∧ w7.cell? ⟨qUp, 6, none⟩ = some (.slice Up.vr.A Up.vr.n Up.vr.c) ∧ w7.cell? ⟨qUp, 7, none⟩ = some (.slice Up.ir.A Up.ir.n Up.ir.c) := ⟨nb_.c0, nb_.c1, nb_.c2, nb_.c3, nb_.c4, nb_.c5, nb_.c6, nb_.c7⟩
    clear nb_
    by_cases hE2 : EP = 0
    rotate_left
    · have x2 : (EP != 0) = true := by simpa using hE2
      have EZ := Lib.hid (show NP = NV.zero by rw [← HNP.out]; exact pp_no (by rw [HEP.out]; exact hE2))
      clear hE2
      go_wp2_with (go_at_call 15; (refine (XS.out NV.zero Up NSl3.nil _ (EZ.out ▸ N_Up.out.up Z_Up.out) (none_read _) none_sz).mono ?_); rintro e w8 ⟨rfl, hb⟩; have Y8 := Lib.hid (trans_below Y7.out hb); have X8 := Lib.hid (trans_below X7.out hb); have Z_Ua := Lib.hid (trans_below Z_Ua.out hb); have Z_Up := Lib.hid (trans_below Z_Up.out hb); skip; clear hb)
      go_ret
      exact ⟨rfl, X8.out⟩
    have x2 : (EP != 0) = false := by simpa using hE2
    have PI := pp_inv (N := N) (L := L) (HEP.out.trans hE2)
    have EZ := Lib.hid (show NP = withPort N L from HNP.out.symm.trans PI.2.2.2.2.2)
    have OKP := Lib.hid (port_fits PI.1 PI.2.1 PI.2.2.2.1 PI.2.2.2.2.1)
    have ZP := Lib.hid (port_sz ZN.out PI.1 PI.2.2.2.1 PI.2.2.2.2.1)
    obtain ⟨dv, hdv⟩ : ∃ v, dvF N L.dev = v := ⟨_, rfl⟩
    have HDV := Lib.hid (show dvF (withPort N L) L.dev = dv from hdv)
    have HPT := Lib.hid (show ptF (withPort N L) dv L.port = (S.pt.n : Int) by rw [← hdv, ← NN.out.2.1]; exact pt_with PI.2.2.1)
    have HAT := Lib.hid (show ∀ v, v ∈ L.vlan :: L.tagged → v ≠ 0 → 0 ≤ atF (withPort N L) dv v from fun v hm h0 => by rw [← hdv]; exact at_port hm h0)
    have NP_ := Lib.hid (show NRead w7 (allB w7) (withPort N L) Up from EZ.out ▸ N_Up.out.up Z_Up.out)
    have up1 : Up.pt.n = S.pt.n + 1 := by have := NP_.out.pt.len; have := NN.out.2.1; simp [withPort] at *; omega
    have um1 : S.dm.n ≤ Up.dm.n := by have := NP_.out.dm.len; have := NN.out.2.2; simp [withPort] at *; omega
    have bup : Up.pt.n ≤ 41 := by have := PI.2.2.2.1; have := NN.out.2.1; omega
    have UP1 := Lib.hid up1
    have bum : Up.dm.n ≤ 48 := by have := NP_.out.dm.len; have := PI.2.2.2.2.1; simp [withPort] at *; omega
    clear hE2 PI hdv up1
    go_upto_region 17 with (first
      | (go_at_call 13; (refine (SD.out _ Up _ (NP_.out) ZP.out OKP.out).mono ?_); rintro e w8 ⟨rfl, hb⟩; have Y8 := Lib.hid (trans_below Y7.out hb); have X8 := Lib.hid (trans_below X7.out hb); have Z_Ua := Lib.hid (trans_below Z_Ua.out hb); have Z_Up := Lib.hid (trans_below Z_Up.out hb); clear f0 f1 f2 f3 f4 f5 f6 f7 g2 g3 g10 lb_ la a0 a1 a2 a3 a4 a5 a6 a7 lp p0 p1 p2 p3 p4 p5 p6 p7; obtain ⟨⟨f0, f1, f2, f3, f4, f5, f6, f7⟩, ⟨g2, g3, g10⟩, lb_, _⟩ := KN.out _ Y8.out; have nb_ := NB_Ua.out.below Z_Ua.out; have la := nb_.lt; obtain ⟨a0, a1, a2, a3, a4, a5, a6, a7⟩ : w8.cell? ⟨qUa, 0, none⟩ = some (.slice Ua.dv.A Ua.dv.n Ua.dv.c) ∧ w8.cell? ⟨qUa, 1, none⟩ = some (.slice Ua.pt.A Ua.pt.n Ua.pt.c) ∧ w8.cell? ⟨qUa, 2, none⟩ = some (.slice Ua.lk.A Ua.lk.n Ua.lk.c) ∧ w8.cell? ⟨qUa, 3, none⟩ = some (.slice Ua.dm.A Ua.dm.n Ua.dm.c) ∧ w8.cell? ⟨qUa, 4, none⟩ = some (.slice Ua.st.A Ua.st.n Ua.st.c) ∧ w8.cell? ⟨qUa, 5, none⟩ = some (.slice Ua.fl.A Ua.fl.n Ua.fl.c) ∧ w8.cell? ⟨qUa, 6, none⟩ = some (.slice Ua.vr.A Ua.vr.n Ua.vr.c) ∧ w8.cell? ⟨qUa, 7, none⟩ = some (.slice Ua.ir.A Ua.ir.n Ua.ir.c) := ⟨nb_.c0, nb_.c1, nb_.c2, nb_.c3, nb_.c4, nb_.c5, nb_.c6, nb_.c7⟩; clear nb_; have nb_ := NB_Up.out.below Z_Up.out; have lp := nb_.lt; obtain ⟨p0, p1, p2, p3, p4, p5, p6, p7⟩ : w8.cell? ⟨qUp, 0, none⟩ = some (.slice Up.dv.A Up.dv.n Up.dv.c) ∧ w8.cell? ⟨qUp, 1, none⟩ = some (.slice Up.pt.A Up.pt.n Up.pt.c) ∧ w8.cell? ⟨qUp, 2, none⟩ = some (.slice Up.lk.A Up.lk.n Up.lk.c) ∧ w8.cell? ⟨qUp, 3, none⟩ = some (.slice Up.dm.A Up.dm.n Up.dm.c) ∧ w8.cell? ⟨qUp, 4, none⟩ = some (.slice Up.st.A Up.st.n Up.st.c) ∧ w8.cell? ⟨qUp, 5, none⟩ = some (.slice Up.fl.A Up.fl.n Up.fl.c) ∧ w8.cell? ⟨qUp, 6, none⟩ = some (.slice Up.vr.A Up.vr.n Up.vr.c) ∧ w8.cell? ⟨qUp, 7, none⟩ = some (.slice Up.ir.A Up.ir.n Up.ir.c) := ⟨nb_.c0, nb_.c1, nb_.c2, nb_.c3, nb_.c4, nb_.c5, nb_.c6, nb_.c7⟩; clear nb_; clear hb))
    rw [HDV.out]
    have bsn : S.pt.n ≤ 40 := by have := UP1.out; omega
    have wr_ : IntKind.i64.wrap ((S.pt.n : Int) + 1) = (S.pt.n : Int) + 1 := IntWalk.i64_in _ (by omega)
    have z1 : ((Up.pt.n : Int) != (S.pt.n : Int) + 1) = false := by rw [UP1.out]; simp
    have z2 : ¬ (Up.dm.n : Int) < (S.dm.n : Int) := by omega
    have z3 : ((S.pt.n : Int) != (S.pt.n : Int)) = false := by simp
    have KR_ := Lib.hid (show ∀ wx, Below w8.heap.size w8 wx → (wx.cell? ⟨w.heap.size, 0, none⟩ = some (.slice S.dv.A S.dv.n S.dv.c) ∧ wx.cell? ⟨w.heap.size, 1, none⟩ = some (.slice S.pt.A S.pt.n S.pt.c) ∧ wx.cell? ⟨w.heap.size, 2, none⟩ = some (.slice S.lk.A S.lk.n S.lk.c) ∧ wx.cell? ⟨w.heap.size, 3, none⟩ = some (.slice S.dm.A S.dm.n S.dm.c) ∧ wx.cell? ⟨w.heap.size, 4, none⟩ = some (.slice S.st.A S.st.n S.st.c) ∧ wx.cell? ⟨w.heap.size, 5, none⟩ = some (.slice S.fl.A S.fl.n S.fl.c) ∧ wx.cell? ⟨w.heap.size, 6, none⟩ = some (.slice S.vr.A S.vr.n S.vr.c) ∧ wx.cell? ⟨w.heap.size, 7, none⟩ = some (.slice S.ir.A S.ir.n S.ir.c)) ∧ (wx.cell? ⟨w.heap.size + 1, 2, none⟩ = some (.string (str L.dev)) ∧ wx.cell? ⟨w.heap.size + 1, 3, none⟩ = some (.string (str L.port)) ∧ wx.cell? ⟨w.heap.size + 1, 10, none⟩ = some (.int .i64 L.vlan)) ∧ w.heap.size + 1 < wx.heap.size ∧ (wx.cell? ⟨qUa, 0, none⟩ = some (.slice Ua.dv.A Ua.dv.n Ua.dv.c) ∧ wx.cell? ⟨qUa, 1, none⟩ = some (.slice Ua.pt.A Ua.pt.n Ua.pt.c) ∧ wx.cell? ⟨qUa, 2, none⟩ = some (.slice Ua.lk.A Ua.lk.n Ua.lk.c) ∧ wx.cell? ⟨qUa, 3, none⟩ = some (.slice Ua.dm.A Ua.dm.n Ua.dm.c) ∧ wx.cell? ⟨qUa, 4, none⟩ = some (.slice Ua.st.A Ua.st.n Ua.st.c) ∧ wx.cell? ⟨qUa, 5, none⟩ = some (.slice Ua.fl.A Ua.fl.n Ua.fl.c) ∧ wx.cell? ⟨qUa, 6, none⟩ = some (.slice Ua.vr.A Ua.vr.n Ua.vr.c) ∧ wx.cell? ⟨qUa, 7, none⟩ = some (.slice Ua.ir.A Ua.ir.n Ua.ir.c)) ∧ qUa < wx.heap.size ∧ (wx.cell? ⟨qUp, 0, none⟩ = some (.slice Up.dv.A Up.dv.n Up.dv.c) ∧ wx.cell? ⟨qUp, 1, none⟩ = some (.slice Up.pt.A Up.pt.n Up.pt.c) ∧ wx.cell? ⟨qUp, 2, none⟩ = some (.slice Up.lk.A Up.lk.n Up.lk.c) ∧ wx.cell? ⟨qUp, 3, none⟩ = some (.slice Up.dm.A Up.dm.n Up.dm.c) ∧ wx.cell? ⟨qUp, 4, none⟩ = some (.slice Up.st.A Up.st.n Up.st.c) ∧ wx.cell? ⟨qUp, 5, none⟩ = some (.slice Up.fl.A Up.fl.n Up.fl.c) ∧ wx.cell? ⟨qUp, 6, none⟩ = some (.slice Up.vr.A Up.vr.n Up.vr.c) ∧ wx.cell? ⟨qUp, 7, none⟩ = some (.slice Up.ir.A Up.ir.n Up.ir.c)) ∧ qUp < wx.heap.size from fun wx hx => by
        have y_ := trans_below Y8.out hx
        obtain ⟨f_, g_, _⟩ := KN.out _ y_
        have zUa := trans_below Z_Ua.out hx
        have nbUa := NB_Ua.out.below zUa
        have zUp := trans_below Z_Up.out hx
        have nbUp := NB_Up.out.below zUp
        exact ⟨f_, g_, (by have := ql1; have := y_.size; omega), ⟨nbUa.c0, nbUa.c1, nbUa.c2, nbUa.c3, nbUa.c4, nbUa.c5, nbUa.c6, nbUa.c7⟩, nbUa.lt, ⟨nbUp.c0, nbUp.c1, nbUp.c2, nbUp.c3, nbUp.c4, nbUp.c5, nbUp.c6, nbUp.c7⟩, nbUp.lt⟩)
    clear f0 f1 f2 f3 f4 f5 f6 f7 g2 g3 g10 lb_ la a0 a1 a2 a3 a4 a5 a6 a7 lp p0 p1 p2 p3 p4 p5 p6 p7
    refine wp_region_text (fun wx => Below w8.heap.size w8 wx) (by kernel_rfl) (by kernel_rfl) ((Below.refl _ _).drew) ?_
    repeat
      first
        | (refine Seq.pass rfl ?_; simp only [Act.put, List.setIfInBounds_toArray, List.set_cons_zero, List.set_cons_succ])
        | (refine Seq.run ?_ rfl (fun wx hx => ?_) ?_
           rotate_left
           · obtain ⟨⟨f0, f1, f2, f3, f4, f5, f6, f7⟩, ⟨g2, g3, g10⟩, ql_, ⟨a0, a1, a2, a3, a4, a5, a6, a7⟩, la, ⟨p0, p1, p2, p3, p4, p5, p6, p7⟩, lp⟩ := KR_.out wx hx
             go_simp
             first
               | (refine StepRun.val ?_; exact hx)
               | (refine StepRun.call (v := .bool true) ?_; (refine Calls.mono (XR.out _ Up _ (NP_.out.up (trans_below Z_Up.out hx)) ZP.out OKP.out) ?_); rintro e w' ⟨rfl, hb⟩; exact ⟨rfl, trans_below hx hb⟩)
               | (refine StepRun.call (v := .int .i64 (S.pt.n : Int)) ?_; (refine Calls.mono (HPT.out ▸ SP.out _ Up dv _ (NP_.out.up (trans_below Z_Up.out hx)) ZP.out OKP.out) ?_); rintro e w' ⟨rfl, hb⟩; exact ⟨rfl, trans_below hx hb⟩)
           simp only [Act.put, List.setIfInBounds_toArray, List.set_cons_zero, List.set_cons_succ])
    refine Seq.last (fun w9 hb => ?_)
    have Y9 := Lib.hid (trans_below Y8.out hb)
    have X9 := Lib.hid (trans_below X8.out hb)
    have Z_Ua := Lib.hid (trans_below Z_Ua.out hb)
    have Z_Up := Lib.hid (trans_below Z_Up.out hb)
    clear hb KR_
    obtain ⟨⟨f0, f1, f2, f3, f4, f5, f6, f7⟩, ⟨g2, g3, g10⟩, lb_, _⟩ := KN.out _ Y9.out
    have nb_ := NB_Ua.out.below Z_Ua.out
    have la := nb_.lt
    obtain ⟨a0, a1, a2, a3, a4, a5, a6, a7⟩ : w9.cell? ⟨qUa, 0, none⟩ = some (.slice Ua.dv.A Ua.dv.n Ua.dv.c) ∧ w9.cell? ⟨qUa, 1, none⟩ = some (.slice Ua.pt.A Ua.pt.n Ua.pt.c) ∧ w9.cell? ⟨qUa, 2, none⟩ = some (.slice Ua.lk.A Ua.lk.n Ua.lk.c) ∧ w9.cell? ⟨qUa, 3, none⟩ = some (.slice Ua.dm.A Ua.dm.n Ua.dm.c) ∧ w9.cell? ⟨qUa, 4, none⟩ = some (.slice Ua.st.A Ua.st.n Ua.st.c) ∧ w9.cell? ⟨qUa, 5, none⟩ = some (.slice Ua.fl.A Ua.fl.n Ua.fl.c) ∧ w9.cell? ⟨qUa, 6, none⟩ = some (.slice Ua.vr.A Ua.vr.n Ua.vr.c) ∧ w9.cell? ⟨qUa, 7, none⟩ = some (.slice Ua.ir.A Ua.ir.n Ua.ir.c) := ⟨nb_.c0, nb_.c1, nb_.c2, nb_.c3, nb_.c4, nb_.c5, nb_.c6, nb_.c7⟩
    clear nb_
    have nb_ := NB_Up.out.below Z_Up.out
    have lp := nb_.lt
    obtain ⟨p0, p1, p2, p3, p4, p5, p6, p7⟩ : w9.cell? ⟨qUp, 0, none⟩ = some (.slice Up.dv.A Up.dv.n Up.dv.c) ∧ w9.cell? ⟨qUp, 1, none⟩ = some (.slice Up.pt.A Up.pt.n Up.pt.c) ∧ w9.cell? ⟨qUp, 2, none⟩ = some (.slice Up.lk.A Up.lk.n Up.lk.c) ∧ w9.cell? ⟨qUp, 3, none⟩ = some (.slice Up.dm.A Up.dm.n Up.dm.c) ∧ w9.cell? ⟨qUp, 4, none⟩ = some (.slice Up.st.A Up.st.n Up.st.c) ∧ w9.cell? ⟨qUp, 5, none⟩ = some (.slice Up.fl.A Up.fl.n Up.fl.c) ∧ w9.cell? ⟨qUp, 6, none⟩ = some (.slice Up.vr.A Up.vr.n Up.vr.c) ∧ w9.cell? ⟨qUp, 7, none⟩ = some (.slice Up.ir.A Up.ir.n Up.ir.c) := ⟨nb_.c0, nb_.c1, nb_.c2, nb_.c3, nb_.c4, nb_.c5, nb_.c6, nb_.c7⟩
    clear nb_
    go_upto_region 20 with (first
      | (go_at_call 12; (refine (XC.out _ Up _ _ (NP_.out) Z_Up.out ZP.out).mono ?_); rintro e w10 ⟨Uy, rfl, hr, hb⟩; have Y10 := Lib.hid (trans_below Y9.out hb); have X10 := Lib.hid (trans_below X9.out hb); have Z_Ua := Lib.hid (trans_below Z_Ua.out hb); have Z_Up := Lib.hid (trans_below Z_Up.out hb); have R_Uy := Lib.hid hr; clear hr; skip; clear hb))
    clear f0 f1 f2 f3 f4 f5 f6 f7 g2 g3 g10 lb_ la a0 a1 a2 a3 a4 a5 a6 a7 lp p0 p1 p2 p3 p4 p5 p6 p7
    obtain ⟨w11, hw_⟩ : ∃ w11, w10.alloc (.cells #[.slice Uy.dv.A Uy.dv.n Uy.dv.c, .slice Uy.pt.A Uy.pt.n Uy.pt.c, .slice Uy.lk.A Uy.lk.n Uy.lk.c, .slice Uy.dm.A Uy.dm.n Uy.dm.c, .slice Uy.st.A Uy.st.n Uy.st.c, .slice Uy.fl.A Uy.fl.n Uy.fl.c, .slice Uy.vr.A Uy.vr.n Uy.vr.c, .slice Uy.ir.A Uy.ir.n Uy.ir.c] 31) = w11 := ⟨_, rfl⟩
    have BA_ := Lib.hid (show Below w10.heap.size w10 w11 by rw [← hw_]; exact alloc_below _ _)
    obtain ⟨qUy, hq_⟩ : ∃ q, w10.heap.size = q := ⟨_, rfl⟩
    have TQ_ := Lib.hid (show TBx w11 qUy 31 (netC Uy) by rw [← hw_, ← hq_]; exact TBx.new w10 _ _)
    have HQ_ := Lib.hid hq_
    rw [hw_, hq_]
    clear hw_ hq_
    have y_ := trans_below Y10.out BA_.out
    obtain ⟨⟨f0, f1, f2, f3, f4, f5, f6, f7⟩, ⟨g2, g3, g10⟩, lb_, _⟩ := KN.out _ y_
    have ql_ : w.heap.size + 1 < w11.heap.size := by have := ql1; have := y_.size; omega
    have l_ := R_Uy.out.pt.len
    have e_ : Uy.pt.n = S.pt.n + 1 := by have := NN.out.2.1; simp [withPort] at *; omega
    have c_ := R_Uy.out.pt.le
    have d_ := R_Uy.out.pt.cap
    have t1 := TQ_.out.cell 1 (.slice Uy.pt.A Uy.pt.n Uy.pt.c) rfl
    have z1 := TQ_.out.live 1
    have lt_ := TQ_.out.lt
    clear l_
    go_upto_region 21 with fail
    clear f0 f1 f2 f3 f4 f5 f6 f7 g2 g3 g10 lb_ t1 z1 lt_ y_ ql_ e_ c_ d_
    obtain ⟨w12, hw_⟩ : ∃ w12, w11.setCell ⟨qUy, 1, none⟩ (.slice Uy.pt.A S.pt.n Uy.pt.c) = w12 := ⟨_, rfl⟩
    replace BA_ := Lib.hid (show Below w10.heap.size w10 w12 by rw [← hw_]; exact BA_.out.setCell (p := ⟨qUy, 1, none⟩) (by rw [HQ_.out]; exact Nat.le_refl _) _)
    obtain ⟨Uyc1, hc_⟩ : ∃ X : NSl3, ({ Uy with pt := ⟨Uy.pt.A, S.pt.n, Uy.pt.c⟩ } : NSl3) = X := ⟨_, rfl⟩
    replace TQ_ := Lib.hid (show TBx w12 qUy 31 (netC Uyc1) by rw [← hw_, ← hc_]; exact TQ_.out.set 1 _)
    have HC1 := Lib.hid hc_
    rw [hw_]
    clear hw_ hc_
    have y_ := trans_below Y10.out BA_.out
    obtain ⟨⟨f0, f1, f2, f3, f4, f5, f6, f7⟩, ⟨g2, g3, g10⟩, lb_, _⟩ := KN.out _ y_
    have ql_ : w.heap.size + 1 < w12.heap.size := by have := ql1; have := y_.size; omega
    have l_ := R_Uy.out.dm.len
    have e_ : S.dm.n ≤ Uy.dm.n := by have := NN.out.2.2; simp [withPort] at *; omega
    have c_ := R_Uy.out.dm.le
    have d_ := R_Uy.out.dm.cap
    have t3 := TQ_.out.cell 3 (.slice Uy.dm.A Uy.dm.n Uy.dm.c) (by rw [← HC1.out]; rfl)
    have z3 := TQ_.out.live 3
    have lt_ := TQ_.out.lt
    clear l_
    go_upto_region 22 with fail
    clear f0 f1 f2 f3 f4 f5 f6 f7 g2 g3 g10 lb_ t3 z3 lt_ y_ ql_ e_ c_ d_
    obtain ⟨w13, hw_⟩ : ∃ w13, w12.setCell ⟨qUy, 3, none⟩ (.slice Uy.dm.A S.dm.n Uy.dm.c) = w13 := ⟨_, rfl⟩
    replace BA_ := Lib.hid (show Below w10.heap.size w10 w13 by rw [← hw_]; exact BA_.out.setCell (p := ⟨qUy, 3, none⟩) (by rw [HQ_.out]; exact Nat.le_refl _) _)
    obtain ⟨Uyc2, hc_⟩ : ∃ X : NSl3, ({ Uyc1 with dm := ⟨Uy.dm.A, S.dm.n, Uy.dm.c⟩ } : NSl3) = X := ⟨_, rfl⟩
    replace TQ_ := Lib.hid (show TBx w13 qUy 31 (netC Uyc2) by rw [← hw_, ← hc_]; exact TQ_.out.set 3 _)
    have HC2 := Lib.hid hc_
    rw [hw_]
    clear hw_ hc_
    have Y13 := Lib.hid (trans_below Y10.out BA_.out)
    have X13 := Lib.hid (trans_below X10.out BA_.out)
    have Z_Ua := Lib.hid (trans_below Z_Ua.out BA_.out)
    have Z_Up := Lib.hid (trans_below Z_Up.out BA_.out)
    have nbq_ := TQ_.out
    rw [← HC2.out] at nbq_
    rw [← HC1.out] at nbq_
    have j0 : w13.cell? ⟨qUy, 0, none⟩ = some (.slice Uy.dv.A Uy.dv.n Uy.dv.c) := nbq_.cell 0 _ rfl
    have j1 : w13.cell? ⟨qUy, 1, none⟩ = some (.slice Uy.pt.A S.pt.n Uy.pt.c) := nbq_.cell 1 _ rfl
    have j2 : w13.cell? ⟨qUy, 2, none⟩ = some (.slice Uy.lk.A Uy.lk.n Uy.lk.c) := nbq_.cell 2 _ rfl
    have j3 : w13.cell? ⟨qUy, 3, none⟩ = some (.slice Uy.dm.A S.dm.n Uy.dm.c) := nbq_.cell 3 _ rfl
    have j4 : w13.cell? ⟨qUy, 4, none⟩ = some (.slice Uy.st.A Uy.st.n Uy.st.c) := nbq_.cell 4 _ rfl
    have j5 : w13.cell? ⟨qUy, 5, none⟩ = some (.slice Uy.fl.A Uy.fl.n Uy.fl.c) := nbq_.cell 5 _ rfl
    have j6 : w13.cell? ⟨qUy, 6, none⟩ = some (.slice Uy.vr.A Uy.vr.n Uy.vr.c) := nbq_.cell 6 _ rfl
    have j7 : w13.cell? ⟨qUy, 7, none⟩ = some (.slice Uy.ir.A Uy.ir.n Uy.ir.c) := nbq_.cell 7 _ rfl
    have lx_ := nbq_.lt
    clear nbq_
    obtain ⟨⟨f0, f1, f2, f3, f4, f5, f6, f7⟩, ⟨g2, g3, g10⟩, lb_, _⟩ := KN.out _ Y13.out
    have nb_ := NB_Ua.out.below Z_Ua.out
    have la := nb_.lt
    obtain ⟨a0, a1, a2, a3, a4, a5, a6, a7⟩ : w13.cell? ⟨qUa, 0, none⟩ = some (.slice Ua.dv.A Ua.dv.n Ua.dv.c) ∧ w13.cell? ⟨qUa, 1, none⟩ = some (.slice Ua.pt.A Ua.pt.n Ua.pt.c) ∧ w13.cell? ⟨qUa, 2, none⟩ = some (.slice Ua.lk.A Ua.lk.n Ua.lk.c) ∧ w13.cell? ⟨qUa, 3, none⟩ = some (.slice Ua.dm.A Ua.dm.n Ua.dm.c) ∧ w13.cell? ⟨qUa, 4, none⟩ = some (.slice Ua.st.A Ua.st.n Ua.st.c) ∧ w13.cell? ⟨qUa, 5, none⟩ = some (.slice Ua.fl.A Ua.fl.n Ua.fl.c) ∧ w13.cell? ⟨qUa, 6, none⟩ = some (.slice Ua.vr.A Ua.vr.n Ua.vr.c) ∧ w13.cell? ⟨qUa, 7, none⟩ = some (.slice Ua.ir.A Ua.ir.n Ua.ir.c) := ⟨nb_.c0, nb_.c1, nb_.c2, nb_.c3, nb_.c4, nb_.c5, nb_.c6, nb_.c7⟩
    clear nb_
    have nb_ := NB_Up.out.below Z_Up.out
    have lp := nb_.lt
    obtain ⟨p0, p1, p2, p3, p4, p5, p6, p7⟩ : w13.cell? ⟨qUp, 0, none⟩ = some (.slice Up.dv.A Up.dv.n Up.dv.c) ∧ w13.cell? ⟨qUp, 1, none⟩ = some (.slice Up.pt.A Up.pt.n Up.pt.c) ∧ w13.cell? ⟨qUp, 2, none⟩ = some (.slice Up.lk.A Up.lk.n Up.lk.c) ∧ w13.cell? ⟨qUp, 3, none⟩ = some (.slice Up.dm.A Up.dm.n Up.dm.c) ∧ w13.cell? ⟨qUp, 4, none⟩ = some (.slice Up.st.A Up.st.n Up.st.c) ∧ w13.cell? ⟨qUp, 5, none⟩ = some (.slice Up.fl.A Up.fl.n Up.fl.c) ∧ w13.cell? ⟨qUp, 6, none⟩ = some (.slice Up.vr.A Up.vr.n Up.vr.c) ∧ w13.cell? ⟨qUp, 7, none⟩ = some (.slice Up.ir.A Up.ir.n Up.ir.c) := ⟨nb_.c0, nb_.c1, nb_.c2, nb_.c3, nb_.c4, nb_.c5, nb_.c6, nb_.c7⟩
    clear nb_
    have NY_ := Lib.hid (show NRead w13 (allB w13) N { Uy with pt := ⟨Uy.pt.A, S.pt.n, Uy.pt.c⟩, dm := ⟨Uy.dm.A, S.dm.n, Uy.dm.c⟩ } from by have := port_cut (R_Uy.out.up BA_.out); rw [NN.out.2.1, NN.out.2.2] at this; exact this)
    by_cases v0 : L.vlan = 0
    · have x4 : (L.vlan == 0) = true := by simpa using v0
      clear v0
      go_wp2_with (go_at_call 15; (refine (XS.out N { Uy with pt := ⟨Uy.pt.A, S.pt.n, Uy.pt.c⟩, dm := ⟨Uy.dm.A, S.dm.n, Uy.dm.c⟩ } S _ NY_.out (U1_.out _ X13.out) ZN.out).mono ?_); rintro e w14 ⟨rfl, hb⟩; have Y14 := Lib.hid (trans_below Y13.out hb); have X14 := Lib.hid (trans_below X13.out hb); have Z_Ua := Lib.hid (trans_below Z_Ua.out hb); have Z_Up := Lib.hid (trans_below Z_Up.out hb); clear f0 f1 f2 f3 f4 f5 f6 f7 g2 g3 g10 lb_ la a0 a1 a2 a3 a4 a5 a6 a7 lp p0 p1 p2 p3 p4 p5 p6 p7; obtain ⟨⟨f0, f1, f2, f3, f4, f5, f6, f7⟩, ⟨g2, g3, g10⟩, lb_, _⟩ := KN.out _ Y14.out; have nb_ := NB_Ua.out.below Z_Ua.out; have la := nb_.lt; obtain ⟨a0, a1, a2, a3, a4, a5, a6, a7⟩ : w14.cell? ⟨qUa, 0, none⟩ = some (.slice Ua.dv.A Ua.dv.n Ua.dv.c) ∧ w14.cell? ⟨qUa, 1, none⟩ = some (.slice Ua.pt.A Ua.pt.n Ua.pt.c) ∧ w14.cell? ⟨qUa, 2, none⟩ = some (.slice Ua.lk.A Ua.lk.n Ua.lk.c) ∧ w14.cell? ⟨qUa, 3, none⟩ = some (.slice Ua.dm.A Ua.dm.n Ua.dm.c) ∧ w14.cell? ⟨qUa, 4, none⟩ = some (.slice Ua.st.A Ua.st.n Ua.st.c) ∧ w14.cell? ⟨qUa, 5, none⟩ = some (.slice Ua.fl.A Ua.fl.n Ua.fl.c) ∧ w14.cell? ⟨qUa, 6, none⟩ = some (.slice Ua.vr.A Ua.vr.n Ua.vr.c) ∧ w14.cell? ⟨qUa, 7, none⟩ = some (.slice Ua.ir.A Ua.ir.n Ua.ir.c) := ⟨nb_.c0, nb_.c1, nb_.c2, nb_.c3, nb_.c4, nb_.c5, nb_.c6, nb_.c7⟩; clear nb_; have nb_ := NB_Up.out.below Z_Up.out; have lp := nb_.lt; obtain ⟨p0, p1, p2, p3, p4, p5, p6, p7⟩ : w14.cell? ⟨qUp, 0, none⟩ = some (.slice Up.dv.A Up.dv.n Up.dv.c) ∧ w14.cell? ⟨qUp, 1, none⟩ = some (.slice Up.pt.A Up.pt.n Up.pt.c) ∧ w14.cell? ⟨qUp, 2, none⟩ = some (.slice Up.lk.A Up.lk.n Up.lk.c) ∧ w14.cell? ⟨qUp, 3, none⟩ = some (.slice Up.dm.A Up.dm.n Up.dm.c) ∧ w14.cell? ⟨qUp, 4, none⟩ = some (.slice Up.st.A Up.st.n Up.st.c) ∧ w14.cell? ⟨qUp, 5, none⟩ = some (.slice Up.fl.A Up.fl.n Up.fl.c) ∧ w14.cell? ⟨qUp, 6, none⟩ = some (.slice Up.vr.A Up.vr.n Up.vr.c) ∧ w14.cell? ⟨qUp, 7, none⟩ = some (.slice Up.ir.A Up.ir.n Up.ir.c) := ⟨nb_.c0, nb_.c1, nb_.c2, nb_.c3, nb_.c4, nb_.c5, nb_.c6, nb_.c7⟩; clear nb_; clear hb)
      go_ret
      exact ⟨rfl, X14.out⟩
    have x4 : (L.vlan == 0) = false := by simpa using v0
    have HX := Lib.hid (show decide (0 ≤ atF (withPort N L) dv L.vlan) = true from decide_eq_true (HAT.out _ (List.mem_cons_self) v0))
    clear v0
    go_wp2_with (first
      | (go_at_call 15; (refine (XS.out N { Uy with pt := ⟨Uy.pt.A, S.pt.n, Uy.pt.c⟩, dm := ⟨Uy.dm.A, S.dm.n, Uy.dm.c⟩ } S _ NY_.out (U1_.out _ X13.out) ZN.out).mono ?_); rintro e w14 ⟨rfl, hb⟩; have Y14 := Lib.hid (trans_below Y13.out hb); have X14 := Lib.hid (trans_below X13.out hb); have Z_Ua := Lib.hid (trans_below Z_Ua.out hb); have Z_Up := Lib.hid (trans_below Z_Up.out hb); clear f0 f1 f2 f3 f4 f5 f6 f7 g2 g3 g10 lb_ la a0 a1 a2 a3 a4 a5 a6 a7 lp p0 p1 p2 p3 p4 p5 p6 p7; obtain ⟨⟨f0, f1, f2, f3, f4, f5, f6, f7⟩, ⟨g2, g3, g10⟩, lb_, _⟩ := KN.out _ Y14.out; have nb_ := NB_Ua.out.below Z_Ua.out; have la := nb_.lt; obtain ⟨a0, a1, a2, a3, a4, a5, a6, a7⟩ : w14.cell? ⟨qUa, 0, none⟩ = some (.slice Ua.dv.A Ua.dv.n Ua.dv.c) ∧ w14.cell? ⟨qUa, 1, none⟩ = some (.slice Ua.pt.A Ua.pt.n Ua.pt.c) ∧ w14.cell? ⟨qUa, 2, none⟩ = some (.slice Ua.lk.A Ua.lk.n Ua.lk.c) ∧ w14.cell? ⟨qUa, 3, none⟩ = some (.slice Ua.dm.A Ua.dm.n Ua.dm.c) ∧ w14.cell? ⟨qUa, 4, none⟩ = some (.slice Ua.st.A Ua.st.n Ua.st.c) ∧ w14.cell? ⟨qUa, 5, none⟩ = some (.slice Ua.fl.A Ua.fl.n Ua.fl.c) ∧ w14.cell? ⟨qUa, 6, none⟩ = some (.slice Ua.vr.A Ua.vr.n Ua.vr.c) ∧ w14.cell? ⟨qUa, 7, none⟩ = some (.slice Ua.ir.A Ua.ir.n Ua.ir.c) := ⟨nb_.c0, nb_.c1, nb_.c2, nb_.c3, nb_.c4, nb_.c5, nb_.c6, nb_.c7⟩; clear nb_; have nb_ := NB_Up.out.below Z_Up.out; have lp := nb_.lt; obtain ⟨p0, p1, p2, p3, p4, p5, p6, p7⟩ : w14.cell? ⟨qUp, 0, none⟩ = some (.slice Up.dv.A Up.dv.n Up.dv.c) ∧ w14.cell? ⟨qUp, 1, none⟩ = some (.slice Up.pt.A Up.pt.n Up.pt.c) ∧ w14.cell? ⟨qUp, 2, none⟩ = some (.slice Up.lk.A Up.lk.n Up.lk.c) ∧ w14.cell? ⟨qUp, 3, none⟩ = some (.slice Up.dm.A Up.dm.n Up.dm.c) ∧ w14.cell? ⟨qUp, 4, none⟩ = some (.slice Up.st.A Up.st.n Up.st.c) ∧ w14.cell? ⟨qUp, 5, none⟩ = some (.slice Up.fl.A Up.fl.n Up.fl.c) ∧ w14.cell? ⟨qUp, 6, none⟩ = some (.slice Up.vr.A Up.vr.n Up.vr.c) ∧ w14.cell? ⟨qUp, 7, none⟩ = some (.slice Up.ir.A Up.ir.n Up.ir.c) := ⟨nb_.c0, nb_.c1, nb_.c2, nb_.c3, nb_.c4, nb_.c5, nb_.c6, nb_.c7⟩; clear nb_; clear hb)
      | (go_at_call 17; (refine (SA.out _ Up dv L.vlan _ (NP_.out.up Z_Up.out) ZP.out OKP.out).mono ?_); rintro e w15 ⟨rfl, hb⟩; have Y15 := Lib.hid (trans_below Y14.out hb); have X15 := Lib.hid (trans_below X14.out hb); have Z_Ua := Lib.hid (trans_below Z_Ua.out hb); have Z_Up := Lib.hid (trans_below Z_Up.out hb); skip; clear hb))
    go_ret
    exact ⟨by show Ending.returned (.bool (decide (0 ≤ atF (withPort N L) dv L.vlan))) = _; rw [HX.out], X15.out⟩
  have x1 : (ED == 0) = true := by simpa using hE
  have PI := pd_inv (N := N) (L := L) (HED.out.trans hE)
  have EA := Lib.hid (show ND = withDev N L from HND.out.symm.trans PI.2.2.2)
  have OKA := Lib.hid (dev_fits PI.1 PI.2.2.1)
  have ZA := Lib.hid (dev_sz (L := L) ZN.out PI.2.2.1)
  have DVA := Lib.hid (show dvF (withDev N L) L.dev = (S.dv.n : Int) by rw [← NN.out.1]; exact dv_with PI.2.1)
  have NA_ := Lib.hid (show NRead w5 (allB w5) (withDev N L) Ua from EA.out ▸ N_Ua.out)
  have bsd : S.dv.n ≤ 7 := by have := PI.2.2.1; have := NN.out.1; omega
  have ua1 : Ua.dv.n = S.dv.n + 1 := by have := NA_.out.dv.len; have := NN.out.1; simp [withDev] at *; omega
  have UA1 := Lib.hid ua1
  clear hE PI ua1
  go_upto_region 8 with (first
    | (go_at_call 12; (refine (XC.out _ Ua _ _ (NA_.out) Z_Ua.out ZA.out).mono ?_); rintro e w6 ⟨Ux, rfl, hr, hb⟩; have Y6 := Lib.hid (trans_below Y5.out hb); have X6 := Lib.hid (trans_below X5.out hb); have Z_Ua := Lib.hid (trans_below Z_Ua.out hb); have R_Ux := Lib.hid hr; clear hr; skip; clear hb))
  clear f0 f1 f2 f3 f4 f5 f6 f7 g2 g3 g10 lb_ la a0 a1 a2 a3 a4 a5 a6 a7
  have ZA_Ua := Z_Ua
  obtain ⟨w7, hw7⟩ : ∃ w7, w6.alloc (.cells #[.slice Ux.dv.A Ux.dv.n Ux.dv.c, .slice Ux.pt.A Ux.pt.n Ux.pt.c, .slice Ux.lk.A Ux.lk.n Ux.lk.c, .slice Ux.dm.A Ux.dm.n Ux.dm.c, .slice Ux.st.A Ux.st.n Ux.st.c, .slice Ux.fl.A Ux.fl.n Ux.fl.c, .slice Ux.vr.A Ux.vr.n Ux.vr.c, .slice Ux.ir.A Ux.ir.n Ux.ir.c] 31) = w7 := ⟨_, rfl⟩
  have A_ : Below w6.heap.size w6 w7 := by rw [← hw7]; exact alloc_below _ _
  obtain ⟨qUx, hqUx⟩ : ∃ q, w6.heap.size = q := ⟨_, rfl⟩
  have NB_Ux := Lib.hid (show NBox w7 qUx Ux by rw [← hw7, ← hqUx]; exact NBox.new _ _ _)
  have N_Ux := Lib.hid (R_Ux.out.up A_)
  have Y7 := Lib.hid (trans_below Y6.out A_)
  have X7 := Lib.hid (trans_below X6.out A_)
  have Z_Ua := Lib.hid (trans_below Z_Ua.out A_)
  have Z_Ux := Lib.hid (Below.refl w7.heap.size w7)
  have TQ_Ux := Lib.hid (show TBx w7 qUx 31 (netC Ux) by rw [← hw7, ← hqUx]; exact TBx.new w6 _ _)
  have HQ_Ux := Lib.hid hqUx
  have BA_Ux := Lib.hid A_
  rw [hw7, hqUx]
  clear hw7 hqUx A_
  obtain ⟨⟨f0, f1, f2, f3, f4, f5, f6, f7⟩, ⟨g2, g3, g10⟩, lb_, _⟩ := KN.out _ Y7.out
  have nb_ := NB_Ua.out.below Z_Ua.out
  have la := nb_.lt
  obtain ⟨a0, a1, a2, a3, a4, a5, a6, a7⟩ : w7.cell? ⟨qUa, 0, none⟩ = some (.slice Ua.dv.A Ua.dv.n Ua.dv.c) ∧ w7.cell? ⟨qUa, 1, none⟩ = some (.slice Ua.pt.A Ua.pt.n Ua.pt.c) ∧ w7.cell? ⟨qUa, 2, none⟩ = some (.slice Ua.lk.A Ua.lk.n Ua.lk.c) ∧ w7.cell? ⟨qUa, 3, none⟩ = some (.slice Ua.dm.A Ua.dm.n Ua.dm.c) ∧ w7.cell? ⟨qUa, 4, none⟩ = some (.slice Ua.st.A Ua.st.n Ua.st.c) ∧ w7.cell? ⟨qUa, 5, none⟩ = some (.slice Ua.fl.A Ua.fl.n Ua.fl.c) ∧ w7.cell? ⟨qUa, 6, none⟩ = some (.slice Ua.vr.A Ua.vr.n Ua.vr.c) ∧ w7.cell? ⟨qUa, 7, none⟩ = some (.slice Ua.ir.A Ua.ir.n Ua.ir.c) := ⟨nb_.c0, nb_.c1, nb_.c2, nb_.c3, nb_.c4, nb_.c5, nb_.c6, nb_.c7⟩
  clear nb_
  have nb_ := NB_Ux.out.below Z_Ux.out
  have lc := nb_.lt
  obtain ⟨c0, c1, c2, c3, c4, c5, c6, c7⟩ : w7.cell? ⟨qUx, 0, none⟩ = some (.slice Ux.dv.A Ux.dv.n Ux.dv.c) ∧ w7.cell? ⟨qUx, 1, none⟩ = some (.slice Ux.pt.A Ux.pt.n Ux.pt.c) ∧ w7.cell? ⟨qUx, 2, none⟩ = some (.slice Ux.lk.A Ux.lk.n Ux.lk.c) ∧ w7.cell? ⟨qUx, 3, none⟩ = some (.slice Ux.dm.A Ux.dm.n Ux.dm.c) ∧ w7.cell? ⟨qUx, 4, none⟩ = some (.slice Ux.st.A Ux.st.n Ux.st.c) ∧ w7.cell? ⟨qUx, 5, none⟩ = some (.slice Ux.fl.A Ux.fl.n Ux.fl.c) ∧ w7.cell? ⟨qUx, 6, none⟩ = some (.slice Ux.vr.A Ux.vr.n Ux.vr.c) ∧ w7.cell? ⟨qUx, 7, none⟩ = some (.slice Ux.ir.A Ux.ir.n Ux.ir.c) := ⟨nb_.c0, nb_.c1, nb_.c2, nb_.c3, nb_.c4, nb_.c5, nb_.c6, nb_.c7⟩
  clear nb_
  have ux1 : Ux.dv.n = S.dv.n + 1 := by have := N_Ux.out.dv.len; have := NN.out.1; simp [withDev] at *; omega
  have UX1 := Lib.hid ux1
  have c_ := N_Ux.out.dv.le
  have d_ := N_Ux.out.dv.cap
  have z1 : ((Ux.dv.n : Int) == 0) = false := by rw [ux1]; simp; omega
  have z2 : ((S.dv.n : Int) != (Ua.dv.n : Int) - 1) = false := by rw [UA1.out]; simp
  have bua : 1 ≤ Ua.dv.n ∧ Ua.dv.n ≤ 8 := by have := UA1.out; omega
  have wr_ : IntKind.i64.wrap ((Ua.dv.n : Int) - 1) = (Ua.dv.n : Int) - 1 := IntWalk.i64_in _ (by omega)
  clear ux1
  have KR_ := Lib.hid (show ∀ wx, Below w7.heap.size w7 wx → (wx.cell? ⟨w.heap.size, 0, none⟩ = some (.slice S.dv.A S.dv.n S.dv.c) ∧ wx.cell? ⟨w.heap.size, 1, none⟩ = some (.slice S.pt.A S.pt.n S.pt.c) ∧ wx.cell? ⟨w.heap.size, 2, none⟩ = some (.slice S.lk.A S.lk.n S.lk.c) ∧ wx.cell? ⟨w.heap.size, 3, none⟩ = some (.slice S.dm.A S.dm.n S.dm.c) ∧ wx.cell? ⟨w.heap.size, 4, none⟩ = some (.slice S.st.A S.st.n S.st.c) ∧ wx.cell? ⟨w.heap.size, 5, none⟩ = some (.slice S.fl.A S.fl.n S.fl.c) ∧ wx.cell? ⟨w.heap.size, 6, none⟩ = some (.slice S.vr.A S.vr.n S.vr.c) ∧ wx.cell? ⟨w.heap.size, 7, none⟩ = some (.slice S.ir.A S.ir.n S.ir.c)) ∧ (wx.cell? ⟨w.heap.size + 1, 2, none⟩ = some (.string (str L.dev)) ∧ wx.cell? ⟨w.heap.size + 1, 3, none⟩ = some (.string (str L.port)) ∧ wx.cell? ⟨w.heap.size + 1, 10, none⟩ = some (.int .i64 L.vlan)) ∧ w.heap.size + 1 < wx.heap.size ∧ (wx.cell? ⟨qUa, 0, none⟩ = some (.slice Ua.dv.A Ua.dv.n Ua.dv.c) ∧ wx.cell? ⟨qUa, 1, none⟩ = some (.slice Ua.pt.A Ua.pt.n Ua.pt.c) ∧ wx.cell? ⟨qUa, 2, none⟩ = some (.slice Ua.lk.A Ua.lk.n Ua.lk.c) ∧ wx.cell? ⟨qUa, 3, none⟩ = some (.slice Ua.dm.A Ua.dm.n Ua.dm.c) ∧ wx.cell? ⟨qUa, 4, none⟩ = some (.slice Ua.st.A Ua.st.n Ua.st.c) ∧ wx.cell? ⟨qUa, 5, none⟩ = some (.slice Ua.fl.A Ua.fl.n Ua.fl.c) ∧ wx.cell? ⟨qUa, 6, none⟩ = some (.slice Ua.vr.A Ua.vr.n Ua.vr.c) ∧ wx.cell? ⟨qUa, 7, none⟩ = some (.slice Ua.ir.A Ua.ir.n Ua.ir.c)) ∧ qUa < wx.heap.size ∧ (wx.cell? ⟨qUx, 0, none⟩ = some (.slice Ux.dv.A Ux.dv.n Ux.dv.c) ∧ wx.cell? ⟨qUx, 1, none⟩ = some (.slice Ux.pt.A Ux.pt.n Ux.pt.c) ∧ wx.cell? ⟨qUx, 2, none⟩ = some (.slice Ux.lk.A Ux.lk.n Ux.lk.c) ∧ wx.cell? ⟨qUx, 3, none⟩ = some (.slice Ux.dm.A Ux.dm.n Ux.dm.c) ∧ wx.cell? ⟨qUx, 4, none⟩ = some (.slice Ux.st.A Ux.st.n Ux.st.c) ∧ wx.cell? ⟨qUx, 5, none⟩ = some (.slice Ux.fl.A Ux.fl.n Ux.fl.c) ∧ wx.cell? ⟨qUx, 6, none⟩ = some (.slice Ux.vr.A Ux.vr.n Ux.vr.c) ∧ wx.cell? ⟨qUx, 7, none⟩ = some (.slice Ux.ir.A Ux.ir.n Ux.ir.c)) ∧ qUx < wx.heap.size from fun wx hx => by
      have y_ := trans_below Y7.out hx
      obtain ⟨f_, g_, _⟩ := KN.out _ y_
      have zUa := trans_below Z_Ua.out hx
      have nbUa := NB_Ua.out.below zUa
      have zUx := trans_below Z_Ux.out hx
      have nbUx := NB_Ux.out.below zUx
      exact ⟨f_, g_, (by have := ql1; have := y_.size; omega), ⟨nbUa.c0, nbUa.c1, nbUa.c2, nbUa.c3, nbUa.c4, nbUa.c5, nbUa.c6, nbUa.c7⟩, nbUa.lt, ⟨nbUx.c0, nbUx.c1, nbUx.c2, nbUx.c3, nbUx.c4, nbUx.c5, nbUx.c6, nbUx.c7⟩, nbUx.lt⟩)
  clear f0 f1 f2 f3 f4 f5 f6 f7 g2 g3 g10 lb_ la a0 a1 a2 a3 a4 a5 a6 a7 lc c0 c1 c2 c3 c4 c5 c6 c7
  refine wp_region_text (fun wx => Below w7.heap.size w7 wx) (by kernel_rfl) (by kernel_rfl) ((Below.refl _ _).drew) ?_
  repeat
    first
      | (refine Seq.pass rfl ?_; simp only [Act.put, List.setIfInBounds_toArray, List.set_cons_zero, List.set_cons_succ])
      | (refine Seq.run ?_ rfl (fun wx hx => ?_) ?_
         rotate_left
         · obtain ⟨⟨f0, f1, f2, f3, f4, f5, f6, f7⟩, ⟨g2, g3, g10⟩, ql_, ⟨a0, a1, a2, a3, a4, a5, a6, a7⟩, la, ⟨c0, c1, c2, c3, c4, c5, c6, c7⟩, lc⟩ := KR_.out wx hx
           go_simp
           first
             | (refine StepRun.val ?_; exact hx)
             | (refine StepRun.call (v := .int .i64 (S.dv.n : Int)) ?_; (refine Calls.mono (DVA.out ▸ SD.out _ Ua _ (NA_.out.up (trans_below Z_Ua.out hx)) ZA.out OKA.out) ?_); rintro e w' ⟨rfl, hb⟩; exact ⟨rfl, trans_below hx hb⟩)
         simp only [Act.put, List.setIfInBounds_toArray, List.set_cons_zero, List.set_cons_succ])
  refine Seq.last (fun w8 hb => ?_)
  have Y8 := Lib.hid (trans_below Y7.out hb)
  have X8 := Lib.hid (trans_below X7.out hb)
  have Z_Ua := Lib.hid (trans_below Z_Ua.out hb)
  have Z_Ux := Lib.hid (trans_below Z_Ux.out hb)
  clear hb KR_
  obtain ⟨⟨f0, f1, f2, f3, f4, f5, f6, f7⟩, ⟨g2, g3, g10⟩, lb_, _⟩ := KN.out _ Y8.out
  have nb_ := NB_Ua.out.below Z_Ua.out
  have la := nb_.lt
  obtain ⟨a0, a1, a2, a3, a4, a5, a6, a7⟩ : w8.cell? ⟨qUa, 0, none⟩ = some (.slice Ua.dv.A Ua.dv.n Ua.dv.c) ∧ w8.cell? ⟨qUa, 1, none⟩ = some (.slice Ua.pt.A Ua.pt.n Ua.pt.c) ∧ w8.cell? ⟨qUa, 2, none⟩ = some (.slice Ua.lk.A Ua.lk.n Ua.lk.c) ∧ w8.cell? ⟨qUa, 3, none⟩ = some (.slice Ua.dm.A Ua.dm.n Ua.dm.c) ∧ w8.cell? ⟨qUa, 4, none⟩ = some (.slice Ua.st.A Ua.st.n Ua.st.c) ∧ w8.cell? ⟨qUa, 5, none⟩ = some (.slice Ua.fl.A Ua.fl.n Ua.fl.c) ∧ w8.cell? ⟨qUa, 6, none⟩ = some (.slice Ua.vr.A Ua.vr.n Ua.vr.c) ∧ w8.cell? ⟨qUa, 7, none⟩ = some (.slice Ua.ir.A Ua.ir.n Ua.ir.c) := ⟨nb_.c0, nb_.c1, nb_.c2, nb_.c3, nb_.c4, nb_.c5, nb_.c6, nb_.c7⟩
  clear nb_
  have nb_ := NB_Ux.out.below Z_Ux.out
  have lc := nb_.lt
  obtain ⟨c0, c1, c2, c3, c4, c5, c6, c7⟩ : w8.cell? ⟨qUx, 0, none⟩ = some (.slice Ux.dv.A Ux.dv.n Ux.dv.c) ∧ w8.cell? ⟨qUx, 1, none⟩ = some (.slice Ux.pt.A Ux.pt.n Ux.pt.c) ∧ w8.cell? ⟨qUx, 2, none⟩ = some (.slice Ux.lk.A Ux.lk.n Ux.lk.c) ∧ w8.cell? ⟨qUx, 3, none⟩ = some (.slice Ux.dm.A Ux.dm.n Ux.dm.c) ∧ w8.cell? ⟨qUx, 4, none⟩ = some (.slice Ux.st.A Ux.st.n Ux.st.c) ∧ w8.cell? ⟨qUx, 5, none⟩ = some (.slice Ux.fl.A Ux.fl.n Ux.fl.c) ∧ w8.cell? ⟨qUx, 6, none⟩ = some (.slice Ux.vr.A Ux.vr.n Ux.vr.c) ∧ w8.cell? ⟨qUx, 7, none⟩ = some (.slice Ux.ir.A Ux.ir.n Ux.ir.c) := ⟨nb_.c0, nb_.c1, nb_.c2, nb_.c3, nb_.c4, nb_.c5, nb_.c6, nb_.c7⟩
  clear nb_
  have e_ := UX1.out
  have wx_ : IntKind.i64.wrap ((Ux.dv.n : Int) - 1) = (Ux.dv.n : Int) - 1 := IntWalk.i64_in _ (by omega)
  have k_ : (Ux.dv.n : Int) - 1 = (S.dv.n : Int) := by omega
  have z0 := (TQ_Ux.out.below Z_Ux.out).live 0
  clear z1 z2 wr_ bua e_
  go_upto_region 11 with fail
  clear f0 f1 f2 f3 f4 f5 f6 f7 g2 g3 g10 lb_ la a0 a1 a2 a3 a4 a5 a6 a7 lc c0 c1 c2 c3 c4 c5 c6 c7 z0 wx_ k_ c_ d_
  obtain ⟨w9, hw_⟩ : ∃ w9, w8.setCell ⟨qUx, 0, none⟩ (.slice Ux.dv.A S.dv.n Ux.dv.c) = w9 := ⟨_, rfl⟩
  have BA_ := Lib.hid (show Below w6.heap.size w6 w9 by rw [← hw_]; exact (BA_Ux.out.trans (Z_Ux.out.mono BA_Ux.out.size)).setCell (p := ⟨qUx, 0, none⟩) (by rw [HQ_Ux.out]; exact Nat.le_refl _) _)
  have TQ_ := Lib.hid (show TBx w9 qUx 31 (netC { Ux with dv := ⟨Ux.dv.A, S.dv.n, Ux.dv.c⟩ }) by rw [← hw_]; exact (TQ_Ux.out.below Z_Ux.out).set 0 _)
  have NX_ := Lib.hid (show NRead w9 (allB w9) N { Ux with dv := ⟨Ux.dv.A, S.dv.n, Ux.dv.c⟩ } from by have := dev_cut (R_Ux.out.up BA_.out); rw [NN.out.1] at this; exact this)
  rw [hw_]
  clear hw_
  have Y9 := Lib.hid (trans_below Y6.out BA_.out)
  have X9 := Lib.hid (trans_below X6.out BA_.out)
  replace Z_Ua := Lib.hid (trans_below ZA_Ua.out BA_.out)
  obtain ⟨⟨f0, f1, f2, f3, f4, f5, f6, f7⟩, ⟨g2, g3, g10⟩, lb_, _⟩ := KN.out _ Y9.out
  have nb_ := NB_Ua.out.below Z_Ua.out
  have la := nb_.lt
  obtain ⟨a0, a1, a2, a3, a4, a5, a6, a7⟩ : w9.cell? ⟨qUa, 0, none⟩ = some (.slice Ua.dv.A Ua.dv.n Ua.dv.c) ∧ w9.cell? ⟨qUa, 1, none⟩ = some (.slice Ua.pt.A Ua.pt.n Ua.pt.c) ∧ w9.cell? ⟨qUa, 2, none⟩ = some (.slice Ua.lk.A Ua.lk.n Ua.lk.c) ∧ w9.cell? ⟨qUa, 3, none⟩ = some (.slice Ua.dm.A Ua.dm.n Ua.dm.c) ∧ w9.cell? ⟨qUa, 4, none⟩ = some (.slice Ua.st.A Ua.st.n Ua.st.c) ∧ w9.cell? ⟨qUa, 5, none⟩ = some (.slice Ua.fl.A Ua.fl.n Ua.fl.c) ∧ w9.cell? ⟨qUa, 6, none⟩ = some (.slice Ua.vr.A Ua.vr.n Ua.vr.c) ∧ w9.cell? ⟨qUa, 7, none⟩ = some (.slice Ua.ir.A Ua.ir.n Ua.ir.c) := ⟨nb_.c0, nb_.c1, nb_.c2, nb_.c3, nb_.c4, nb_.c5, nb_.c6, nb_.c7⟩
  clear nb_
  have j0 := TQ_.out.cell 0 (.slice Ux.dv.A S.dv.n Ux.dv.c) rfl
  have j1 := TQ_.out.cell 1 (.slice Ux.pt.A Ux.pt.n Ux.pt.c) rfl
  have j2 := TQ_.out.cell 2 (.slice Ux.lk.A Ux.lk.n Ux.lk.c) rfl
  have j3 := TQ_.out.cell 3 (.slice Ux.dm.A Ux.dm.n Ux.dm.c) rfl
  have j4 := TQ_.out.cell 4 (.slice Ux.st.A Ux.st.n Ux.st.c) rfl
  have j5 := TQ_.out.cell 5 (.slice Ux.fl.A Ux.fl.n Ux.fl.c) rfl
  have j6 := TQ_.out.cell 6 (.slice Ux.vr.A Ux.vr.n Ux.vr.c) rfl
  have j7 := TQ_.out.cell 7 (.slice Ux.ir.A Ux.ir.n Ux.ir.c) rfl
  have lj := TQ_.out.lt
  go_upto_region 13 with (first
    | (go_at_call 14; (refine (XR.out _ Ua _ (NA_.out.up Z_Ua.out) ZA.out OKA.out).mono ?_); rintro e w10 ⟨rfl, hb⟩; have Y10 := Lib.hid (trans_below Y9.out hb); have X10 := Lib.hid (trans_below X9.out hb); have Z_Ua := Lib.hid (trans_below Z_Ua.out hb); have TQ2_ := Lib.hid (TQ_.out.below hb); have NX2_ := Lib.hid (NX_.out.up hb); clear j0 j1 j2 j3 j4 j5 j6 j7 lj; have j0 := TQ2_.out.cell 0 (.slice Ux.dv.A S.dv.n Ux.dv.c) rfl; have j1 := TQ2_.out.cell 1 (.slice Ux.pt.A Ux.pt.n Ux.pt.c) rfl; have j2 := TQ2_.out.cell 2 (.slice Ux.lk.A Ux.lk.n Ux.lk.c) rfl; have j3 := TQ2_.out.cell 3 (.slice Ux.dm.A Ux.dm.n Ux.dm.c) rfl; have j4 := TQ2_.out.cell 4 (.slice Ux.st.A Ux.st.n Ux.st.c) rfl; have j5 := TQ2_.out.cell 5 (.slice Ux.fl.A Ux.fl.n Ux.fl.c) rfl; have j6 := TQ2_.out.cell 6 (.slice Ux.vr.A Ux.vr.n Ux.vr.c) rfl; have j7 := TQ2_.out.cell 7 (.slice Ux.ir.A Ux.ir.n Ux.ir.c) rfl; have lj := TQ2_.out.lt; clear f0 f1 f2 f3 f4 f5 f6 f7 g2 g3 g10 lb_ la a0 a1 a2 a3 a4 a5 a6 a7; obtain ⟨⟨f0, f1, f2, f3, f4, f5, f6, f7⟩, ⟨g2, g3, g10⟩, lb_, _⟩ := KN.out _ Y10.out; have nb_ := NB_Ua.out.below Z_Ua.out; have la := nb_.lt; obtain ⟨a0, a1, a2, a3, a4, a5, a6, a7⟩ : w10.cell? ⟨qUa, 0, none⟩ = some (.slice Ua.dv.A Ua.dv.n Ua.dv.c) ∧ w10.cell? ⟨qUa, 1, none⟩ = some (.slice Ua.pt.A Ua.pt.n Ua.pt.c) ∧ w10.cell? ⟨qUa, 2, none⟩ = some (.slice Ua.lk.A Ua.lk.n Ua.lk.c) ∧ w10.cell? ⟨qUa, 3, none⟩ = some (.slice Ua.dm.A Ua.dm.n Ua.dm.c) ∧ w10.cell? ⟨qUa, 4, none⟩ = some (.slice Ua.st.A Ua.st.n Ua.st.c) ∧ w10.cell? ⟨qUa, 5, none⟩ = some (.slice Ua.fl.A Ua.fl.n Ua.fl.c) ∧ w10.cell? ⟨qUa, 6, none⟩ = some (.slice Ua.vr.A Ua.vr.n Ua.vr.c) ∧ w10.cell? ⟨qUa, 7, none⟩ = some (.slice Ua.ir.A Ua.ir.n Ua.ir.c) := ⟨nb_.c0, nb_.c1, nb_.c2, nb_.c3, nb_.c4, nb_.c5, nb_.c6, nb_.c7⟩; clear nb_; clear hb)
    | (go_at_call 15; (refine (XS.out N { Ux with dv := ⟨Ux.dv.A, S.dv.n, Ux.dv.c⟩ } S _ NX2_.out (U1_.out _ X10.out) ZN.out).mono ?_); rintro e w11 ⟨rfl, hb⟩; have Y11 := Lib.hid (trans_below Y10.out hb); have X11 := Lib.hid (trans_below X10.out hb); have Z_Ua := Lib.hid (trans_below Z_Ua.out hb); clear f0 f1 f2 f3 f4 f5 f6 f7 g2 g3 g10 lb_ la a0 a1 a2 a3 a4 a5 a6 a7; obtain ⟨⟨f0, f1, f2, f3, f4, f5, f6, f7⟩, ⟨g2, g3, g10⟩, lb_, _⟩ := KN.out _ Y11.out; have nb_ := NB_Ua.out.below Z_Ua.out; have la := nb_.lt; obtain ⟨a0, a1, a2, a3, a4, a5, a6, a7⟩ : w11.cell? ⟨qUa, 0, none⟩ = some (.slice Ua.dv.A Ua.dv.n Ua.dv.c) ∧ w11.cell? ⟨qUa, 1, none⟩ = some (.slice Ua.pt.A Ua.pt.n Ua.pt.c) ∧ w11.cell? ⟨qUa, 2, none⟩ = some (.slice Ua.lk.A Ua.lk.n Ua.lk.c) ∧ w11.cell? ⟨qUa, 3, none⟩ = some (.slice Ua.dm.A Ua.dm.n Ua.dm.c) ∧ w11.cell? ⟨qUa, 4, none⟩ = some (.slice Ua.st.A Ua.st.n Ua.st.c) ∧ w11.cell? ⟨qUa, 5, none⟩ = some (.slice Ua.fl.A Ua.fl.n Ua.fl.c) ∧ w11.cell? ⟨qUa, 6, none⟩ = some (.slice Ua.vr.A Ua.vr.n Ua.vr.c) ∧ w11.cell? ⟨qUa, 7, none⟩ = some (.slice Ua.ir.A Ua.ir.n Ua.ir.c) := ⟨nb_.c0, nb_.c1, nb_.c2, nb_.c3, nb_.c4, nb_.c5, nb_.c6, nb_.c7⟩; clear nb_; clear hb))
  clear j0 j1 j2 j3 j4 j5 j6 j7 lj x1
  go_upto_region 14 with (first
    | ((with_reducible refine wpList_lineOf ?hg (.tmp 3) ?ho (w.heap.size + 1) ?hx L s1 s2 s3 s4 lb_ ?_); (case hg => rfl); (case ho => rfl); (case hx => rfl))
    | (go_at_call 9; (refine (PP.out _ X11.out).mono ?_); rintro e w12 ⟨Up, rfl, hr, hb⟩; have Y12 := Lib.hid (trans_below Y11.out hb); have X12 := Lib.hid (trans_below X11.out hb); have Z_Ua := Lib.hid (trans_below Z_Ua.out hb); have R_Up := Lib.hid hr; clear hr; skip; clear hb))
  clear f0 f1 f2 f3 f4 f5 f6 f7 g2 g3 g10 lb_ la a0 a1 a2 a3 a4 a5 a6 a7
  obtain ⟨w13, hw13⟩ : ∃ w13, w12.alloc (.cells #[.slice Up.dv.A Up.dv.n Up.dv.c, .slice Up.pt.A Up.pt.n Up.pt.c, .slice Up.lk.A Up.lk.n Up.lk.c, .slice Up.dm.A Up.dm.n Up.dm.c, .slice Up.st.A Up.st.n Up.st.c, .slice Up.fl.A Up.fl.n Up.fl.c, .slice Up.vr.A Up.vr.n Up.vr.c, .slice Up.ir.A Up.ir.n Up.ir.c] 31) = w13 := ⟨_, rfl⟩
  have A_ : Below w12.heap.size w12 w13 := by rw [← hw13]; exact alloc_below _ _
  obtain ⟨qUp, hqUp⟩ : ∃ q, w12.heap.size = q := ⟨_, rfl⟩
  have NB_Up := Lib.hid (show NBox w13 qUp Up by rw [← hw13, ← hqUp]; exact NBox.new _ _ _)
  have N_Up := Lib.hid (R_Up.out.up A_)
  have Y13 := Lib.hid (trans_below Y12.out A_)
  have X13 := Lib.hid (trans_below X12.out A_)
  have Z_Ua := Lib.hid (trans_below Z_Ua.out A_)
  have Z_Up := Lib.hid (Below.refl w13.heap.size w13)
  have TQ_Up := Lib.hid (show TBx w13 qUp 31 (netC Up) by rw [← hw13, ← hqUp]; exact TBx.new w12 _ _)
  have HQ_Up := Lib.hid hqUp
  have BA_Up := Lib.hid A_
  rw [hw13, hqUp]
  clear hw13 hqUp A_
  obtain ⟨⟨f0, f1, f2, f3, f4, f5, f6, f7⟩, ⟨g2, g3, g10⟩, lb_, _⟩ := KN.out _ Y13.out
  have nb_ := NB_Ua.out.below Z_Ua.out
  have la := nb_.lt
  obtain ⟨a0, a1, a2, a3, a4, a5, a6, a7⟩ : w13.cell? ⟨qUa, 0, none⟩ = some (.slice Ua.dv.A Ua.dv.n Ua.dv.c) ∧ w13.cell? ⟨qUa, 1, none⟩ = some (.slice Ua.pt.A Ua.pt.n Ua.pt.c) ∧ w13.cell? ⟨qUa, 2, none⟩ = some (.slice Ua.lk.A Ua.lk.n Ua.lk.c) ∧ w13.cell? ⟨qUa, 3, none⟩ = some (.slice Ua.dm.A Ua.dm.n Ua.dm.c) ∧ w13.cell? ⟨qUa, 4, none⟩ = some (.slice Ua.st.A Ua.st.n Ua.st.c) ∧ w13.cell? ⟨qUa, 5, none⟩ = some (.slice Ua.fl.A Ua.fl.n Ua.fl.c) ∧ w13.cell? ⟨qUa, 6, none⟩ = some (.slice Ua.vr.A Ua.vr.n Ua.vr.c) ∧ w13.cell? ⟨qUa, 7, none⟩ = some (.slice Ua.ir.A Ua.ir.n Ua.ir.c) := ⟨nb_.c0, nb_.c1, nb_.c2, nb_.c3, nb_.c4, nb_.c5, nb_.c6, nb_.c7⟩
  clear nb_
  have nb_ := NB_Up.out.below Z_Up.out
  have lp := nb_.lt
  obtain ⟨p0, p1, p2, p3, p4, p5, p6, p7⟩ : w13.cell? ⟨qUp, 0, none⟩ = some (.slice Up.dv.A Up.dv.n Up.dv.c) ∧ w13.cell? ⟨qUp, 1, none⟩ = some (.slice Up.pt.A Up.pt.n Up.pt.c) ∧ w13.cell? ⟨qUp, 2, none⟩ = some (.slice Up.lk.A Up.lk.n Up.lk.c) ∧ w13.cell? ⟨qUp, 3, none⟩ = some (.slice Up.dm.A Up.dm.n Up.dm.c) ∧ w13.cell? ⟨qUp, 4, none⟩ = some (.slice Up.st.A Up.st.n Up.st.c) ∧ w13.cell? ⟨qUp, 5, none⟩ = some (.slice Up.fl.A Up.fl.n Up.fl.c) ∧ w13.cell? ⟨qUp, 6, none⟩ = some (.slice Up.vr.A Up.vr.n Up.vr.c) ∧ w13.cell? ⟨qUp, 7, none⟩ = some (.slice Up.ir.A Up.ir.n Up.ir.c) := ⟨nb_.c0, nb_.c1, nb_.c2, nb_.c3, nb_.c4, nb_.c5, nb_.c6, nb_.c7⟩
  clear nb_
  by_cases hE2 : EP = 0
  rotate_left
  · have x2 : (EP != 0) = true := by simpa using hE2
    have EZ := Lib.hid (show NP = NV.zero by rw [← HNP.out]; exact pp_no (by rw [HEP.out]; exact hE2))
    clear hE2
    go_wp2_with (go_at_call 15; (refine (XS.out NV.zero Up NSl3.nil _ (EZ.out ▸ N_Up.out.up Z_Up.out) (none_read _) none_sz).mono ?_); rintro e w14 ⟨rfl, hb⟩; have Y14 := Lib.hid (trans_below Y13.out hb); have X14 := Lib.hid (trans_below X13.out hb); have Z_Ua := Lib.hid (trans_below Z_Ua.out hb); have Z_Up := Lib.hid (trans_below Z_Up.out hb); skip; clear hb)
    go_ret
    exact ⟨rfl, X14.out⟩
  have x2 : (EP != 0) = false := by simpa using hE2
  have PI := pp_inv (N := N) (L := L) (HEP.out.trans hE2)
  have EZ := Lib.hid (show NP = withPort N L from HNP.out.symm.trans PI.2.2.2.2.2)
  have OKP := Lib.hid (port_fits PI.1 PI.2.1 PI.2.2.2.1 PI.2.2.2.2.1)
  have ZP := Lib.hid (port_sz ZN.out PI.1 PI.2.2.2.1 PI.2.2.2.2.1)
  obtain ⟨dv, hdv⟩ : ∃ v, dvF N L.dev = v := ⟨_, rfl⟩
  have HDV := Lib.hid (show dvF (withPort N L) L.dev = dv from hdv)
  have HPT := Lib.hid (show ptF (withPort N L) dv L.port = (S.pt.n : Int) by rw [← hdv, ← NN.out.2.1]; exact pt_with PI.2.2.1)
  have HAT := Lib.hid (show ∀ v, v ∈ L.vlan :: L.tagged → v ≠ 0 → 0 ≤ atF (withPort N L) dv v from fun v hm h0 => by rw [← hdv]; exact at_port hm h0)
  have NP_ := Lib.hid (show NRead w13 (allB w13) (withPort N L) Up from EZ.out ▸ N_Up.out.up Z_Up.out)
  have up1 : Up.pt.n = S.pt.n + 1 := by have := NP_.out.pt.len; have := NN.out.2.1; simp [withPort] at *; omega
  have um1 : S.dm.n ≤ Up.dm.n := by have := NP_.out.dm.len; have := NN.out.2.2; simp [withPort] at *; omega
  have bup : Up.pt.n ≤ 41 := by have := PI.2.2.2.1; have := NN.out.2.1; omega
  have UP1 := Lib.hid up1
  have bum : Up.dm.n ≤ 48 := by have := NP_.out.dm.len; have := PI.2.2.2.2.1; simp [withPort] at *; omega
  clear hE2 PI hdv up1
  go_upto_region 17 with (first
    | (go_at_call 13; (refine (SD.out _ Up _ (NP_.out) ZP.out OKP.out).mono ?_); rintro e w14 ⟨rfl, hb⟩; have Y14 := Lib.hid (trans_below Y13.out hb); have X14 := Lib.hid (trans_below X13.out hb); have Z_Ua := Lib.hid (trans_below Z_Ua.out hb); have Z_Up := Lib.hid (trans_below Z_Up.out hb); clear f0 f1 f2 f3 f4 f5 f6 f7 g2 g3 g10 lb_ la a0 a1 a2 a3 a4 a5 a6 a7 lp p0 p1 p2 p3 p4 p5 p6 p7; obtain ⟨⟨f0, f1, f2, f3, f4, f5, f6, f7⟩, ⟨g2, g3, g10⟩, lb_, _⟩ := KN.out _ Y14.out; have nb_ := NB_Ua.out.below Z_Ua.out; have la := nb_.lt; obtain ⟨a0, a1, a2, a3, a4, a5, a6, a7⟩ : w14.cell? ⟨qUa, 0, none⟩ = some (.slice Ua.dv.A Ua.dv.n Ua.dv.c) ∧ w14.cell? ⟨qUa, 1, none⟩ = some (.slice Ua.pt.A Ua.pt.n Ua.pt.c) ∧ w14.cell? ⟨qUa, 2, none⟩ = some (.slice Ua.lk.A Ua.lk.n Ua.lk.c) ∧ w14.cell? ⟨qUa, 3, none⟩ = some (.slice Ua.dm.A Ua.dm.n Ua.dm.c) ∧ w14.cell? ⟨qUa, 4, none⟩ = some (.slice Ua.st.A Ua.st.n Ua.st.c) ∧ w14.cell? ⟨qUa, 5, none⟩ = some (.slice Ua.fl.A Ua.fl.n Ua.fl.c) ∧ w14.cell? ⟨qUa, 6, none⟩ = some (.slice Ua.vr.A Ua.vr.n Ua.vr.c) ∧ w14.cell? ⟨qUa, 7, none⟩ = some (.slice Ua.ir.A Ua.ir.n Ua.ir.c) := ⟨nb_.c0, nb_.c1, nb_.c2, nb_.c3, nb_.c4, nb_.c5, nb_.c6, nb_.c7⟩; clear nb_; have nb_ := NB_Up.out.below Z_Up.out; have lp := nb_.lt; obtain ⟨p0, p1, p2, p3, p4, p5, p6, p7⟩ : w14.cell? ⟨qUp, 0, none⟩ = some (.slice Up.dv.A Up.dv.n Up.dv.c) ∧ w14.cell? ⟨qUp, 1, none⟩ = some (.slice Up.pt.A Up.pt.n Up.pt.c) ∧ w14.cell? ⟨qUp, 2, none⟩ = some (.slice Up.lk.A Up.lk.n Up.lk.c) ∧ w14.cell? ⟨qUp, 3, none⟩ = some (.slice Up.dm.A Up.dm.n Up.dm.c) ∧ w14.cell? ⟨qUp, 4, none⟩ = some (.slice Up.st.A Up.st.n Up.st.c) ∧ w14.cell? ⟨qUp, 5, none⟩ = some (.slice Up.fl.A Up.fl.n Up.fl.c) ∧ w14.cell? ⟨qUp, 6, none⟩ = some (.slice Up.vr.A Up.vr.n Up.vr.c) ∧ w14.cell? ⟨qUp, 7, none⟩ = some (.slice Up.ir.A Up.ir.n Up.ir.c) := ⟨nb_.c0, nb_.c1, nb_.c2, nb_.c3, nb_.c4, nb_.c5, nb_.c6, nb_.c7⟩; clear nb_; clear hb))
  rw [HDV.out]
  have bsn : S.pt.n ≤ 40 := by have := UP1.out; omega
  have wr_ : IntKind.i64.wrap ((S.pt.n : Int) + 1) = (S.pt.n : Int) + 1 := IntWalk.i64_in _ (by omega)
  have z1 : ((Up.pt.n : Int) != (S.pt.n : Int) + 1) = false := by rw [UP1.out]; simp
  have z2 : ¬ (Up.dm.n : Int) < (S.dm.n : Int) := by omega
  have z3 : ((S.pt.n : Int) != (S.pt.n : Int)) = false := by simp
  have KR_ := Lib.hid (show ∀ wx, Below w14.heap.size w14 wx → (wx.cell? ⟨w.heap.size, 0, none⟩ = some (.slice S.dv.A S.dv.n S.dv.c) ∧ wx.cell? ⟨w.heap.size, 1, none⟩ = some (.slice S.pt.A S.pt.n S.pt.c) ∧ wx.cell? ⟨w.heap.size, 2, none⟩ = some (.slice S.lk.A S.lk.n S.lk.c) ∧ wx.cell? ⟨w.heap.size, 3, none⟩ = some (.slice S.dm.A S.dm.n S.dm.c) ∧ wx.cell? ⟨w.heap.size, 4, none⟩ = some (.slice S.st.A S.st.n S.st.c) ∧ wx.cell? ⟨w.heap.size, 5, none⟩ = some (.slice S.fl.A S.fl.n S.fl.c) ∧ wx.cell? ⟨w.heap.size, 6, none⟩ = some (.slice S.vr.A S.vr.n S.vr.c) ∧ wx.cell? ⟨w.heap.size, 7, none⟩ = some (.slice S.ir.A S.ir.n S.ir.c)) ∧ (wx.cell? ⟨w.heap.size + 1, 2, none⟩ = some (.string (str L.dev)) ∧ wx.cell? ⟨w.heap.size + 1, 3, none⟩ = some (.string (str L.port)) ∧ wx.cell? ⟨w.heap.size + 1, 10, none⟩ = some (.int .i64 L.vlan)) ∧ w.heap.size + 1 < wx.heap.size ∧ (wx.cell? ⟨qUa, 0, none⟩ = some (.slice Ua.dv.A Ua.dv.n Ua.dv.c) ∧ wx.cell? ⟨qUa, 1, none⟩ = some (.slice Ua.pt.A Ua.pt.n Ua.pt.c) ∧ wx.cell? ⟨qUa, 2, none⟩ = some (.slice Ua.lk.A Ua.lk.n Ua.lk.c) ∧ wx.cell? ⟨qUa, 3, none⟩ = some (.slice Ua.dm.A Ua.dm.n Ua.dm.c) ∧ wx.cell? ⟨qUa, 4, none⟩ = some (.slice Ua.st.A Ua.st.n Ua.st.c) ∧ wx.cell? ⟨qUa, 5, none⟩ = some (.slice Ua.fl.A Ua.fl.n Ua.fl.c) ∧ wx.cell? ⟨qUa, 6, none⟩ = some (.slice Ua.vr.A Ua.vr.n Ua.vr.c) ∧ wx.cell? ⟨qUa, 7, none⟩ = some (.slice Ua.ir.A Ua.ir.n Ua.ir.c)) ∧ qUa < wx.heap.size ∧ (wx.cell? ⟨qUp, 0, none⟩ = some (.slice Up.dv.A Up.dv.n Up.dv.c) ∧ wx.cell? ⟨qUp, 1, none⟩ = some (.slice Up.pt.A Up.pt.n Up.pt.c) ∧ wx.cell? ⟨qUp, 2, none⟩ = some (.slice Up.lk.A Up.lk.n Up.lk.c) ∧ wx.cell? ⟨qUp, 3, none⟩ = some (.slice Up.dm.A Up.dm.n Up.dm.c) ∧ wx.cell? ⟨qUp, 4, none⟩ = some (.slice Up.st.A Up.st.n Up.st.c) ∧ wx.cell? ⟨qUp, 5, none⟩ = some (.slice Up.fl.A Up.fl.n Up.fl.c) ∧ wx.cell? ⟨qUp, 6, none⟩ = some (.slice Up.vr.A Up.vr.n Up.vr.c) ∧ wx.cell? ⟨qUp, 7, none⟩ = some (.slice Up.ir.A Up.ir.n Up.ir.c)) ∧ qUp < wx.heap.size from fun wx hx => by
      have y_ := trans_below Y14.out hx
      obtain ⟨f_, g_, _⟩ := KN.out _ y_
      have zUa := trans_below Z_Ua.out hx
      have nbUa := NB_Ua.out.below zUa
      have zUp := trans_below Z_Up.out hx
      have nbUp := NB_Up.out.below zUp
      exact ⟨f_, g_, (by have := ql1; have := y_.size; omega), ⟨nbUa.c0, nbUa.c1, nbUa.c2, nbUa.c3, nbUa.c4, nbUa.c5, nbUa.c6, nbUa.c7⟩, nbUa.lt, ⟨nbUp.c0, nbUp.c1, nbUp.c2, nbUp.c3, nbUp.c4, nbUp.c5, nbUp.c6, nbUp.c7⟩, nbUp.lt⟩)
  clear f0 f1 f2 f3 f4 f5 f6 f7 g2 g3 g10 lb_ la a0 a1 a2 a3 a4 a5 a6 a7 lp p0 p1 p2 p3 p4 p5 p6 p7
  refine wp_region_text (fun wx => Below w14.heap.size w14 wx) (by kernel_rfl) (by kernel_rfl) ((Below.refl _ _).drew) ?_
  repeat
    first
      | (refine Seq.pass rfl ?_; simp only [Act.put, List.setIfInBounds_toArray, List.set_cons_zero, List.set_cons_succ])
      | (refine Seq.run ?_ rfl (fun wx hx => ?_) ?_
         rotate_left
         · obtain ⟨⟨f0, f1, f2, f3, f4, f5, f6, f7⟩, ⟨g2, g3, g10⟩, ql_, ⟨a0, a1, a2, a3, a4, a5, a6, a7⟩, la, ⟨p0, p1, p2, p3, p4, p5, p6, p7⟩, lp⟩ := KR_.out wx hx
           go_simp
           first
             | (refine StepRun.val ?_; exact hx)
             | (refine StepRun.call (v := .bool true) ?_; (refine Calls.mono (XR.out _ Up _ (NP_.out.up (trans_below Z_Up.out hx)) ZP.out OKP.out) ?_); rintro e w' ⟨rfl, hb⟩; exact ⟨rfl, trans_below hx hb⟩)
             | (refine StepRun.call (v := .int .i64 (S.pt.n : Int)) ?_; (refine Calls.mono (HPT.out ▸ SP.out _ Up dv _ (NP_.out.up (trans_below Z_Up.out hx)) ZP.out OKP.out) ?_); rintro e w' ⟨rfl, hb⟩; exact ⟨rfl, trans_below hx hb⟩)
         simp only [Act.put, List.setIfInBounds_toArray, List.set_cons_zero, List.set_cons_succ])
  refine Seq.last (fun w15 hb => ?_)
  have Y15 := Lib.hid (trans_below Y14.out hb)
  have X15 := Lib.hid (trans_below X14.out hb)
  have Z_Ua := Lib.hid (trans_below Z_Ua.out hb)
  have Z_Up := Lib.hid (trans_below Z_Up.out hb)
  clear hb KR_
  obtain ⟨⟨f0, f1, f2, f3, f4, f5, f6, f7⟩, ⟨g2, g3, g10⟩, lb_, _⟩ := KN.out _ Y15.out
  have nb_ := NB_Ua.out.below Z_Ua.out
  have la := nb_.lt
  obtain ⟨a0, a1, a2, a3, a4, a5, a6, a7⟩ : w15.cell? ⟨qUa, 0, none⟩ = some (.slice Ua.dv.A Ua.dv.n Ua.dv.c) ∧ w15.cell? ⟨qUa, 1, none⟩ = some (.slice Ua.pt.A Ua.pt.n Ua.pt.c) ∧ w15.cell? ⟨qUa, 2, none⟩ = some (.slice Ua.lk.A Ua.lk.n Ua.lk.c) ∧ w15.cell? ⟨qUa, 3, none⟩ = some (.slice Ua.dm.A Ua.dm.n Ua.dm.c) ∧ w15.cell? ⟨qUa, 4, none⟩ = some (.slice Ua.st.A Ua.st.n Ua.st.c) ∧ w15.cell? ⟨qUa, 5, none⟩ = some (.slice Ua.fl.A Ua.fl.n Ua.fl.c) ∧ w15.cell? ⟨qUa, 6, none⟩ = some (.slice Ua.vr.A Ua.vr.n Ua.vr.c) ∧ w15.cell? ⟨qUa, 7, none⟩ = some (.slice Ua.ir.A Ua.ir.n Ua.ir.c) := ⟨nb_.c0, nb_.c1, nb_.c2, nb_.c3, nb_.c4, nb_.c5, nb_.c6, nb_.c7⟩
  clear nb_
  have nb_ := NB_Up.out.below Z_Up.out
  have lp := nb_.lt
  obtain ⟨p0, p1, p2, p3, p4, p5, p6, p7⟩ : w15.cell? ⟨qUp, 0, none⟩ = some (.slice Up.dv.A Up.dv.n Up.dv.c) ∧ w15.cell? ⟨qUp, 1, none⟩ = some (.slice Up.pt.A Up.pt.n Up.pt.c) ∧ w15.cell? ⟨qUp, 2, none⟩ = some (.slice Up.lk.A Up.lk.n Up.lk.c) ∧ w15.cell? ⟨qUp, 3, none⟩ = some (.slice Up.dm.A Up.dm.n Up.dm.c) ∧ w15.cell? ⟨qUp, 4, none⟩ = some (.slice Up.st.A Up.st.n Up.st.c) ∧ w15.cell? ⟨qUp, 5, none⟩ = some (.slice Up.fl.A Up.fl.n Up.fl.c) ∧ w15.cell? ⟨qUp, 6, none⟩ = some (.slice Up.vr.A Up.vr.n Up.vr.c) ∧ w15.cell? ⟨qUp, 7, none⟩ = some (.slice Up.ir.A Up.ir.n Up.ir.c) := ⟨nb_.c0, nb_.c1, nb_.c2, nb_.c3, nb_.c4, nb_.c5, nb_.c6, nb_.c7⟩
  clear nb_
  go_upto_region 20 with (first
    | (go_at_call 12; (refine (XC.out _ Up _ _ (NP_.out) Z_Up.out ZP.out).mono ?_); rintro e w16 ⟨Uy, rfl, hr, hb⟩; have Y16 := Lib.hid (trans_below Y15.out hb); have X16 := Lib.hid (trans_below X15.out hb); have Z_Ua := Lib.hid (trans_below Z_Ua.out hb); have Z_Up := Lib.hid (trans_below Z_Up.out hb); have R_Uy := Lib.hid hr; clear hr; skip; clear hb))
  clear f0 f1 f2 f3 f4 f5 f6 f7 g2 g3 g10 lb_ la a0 a1 a2 a3 a4 a5 a6 a7 lp p0 p1 p2 p3 p4 p5 p6 p7
  obtain ⟨w17, hw_⟩ : ∃ w17, w16.alloc (.cells #[.slice Uy.dv.A Uy.dv.n Uy.dv.c, .slice Uy.pt.A Uy.pt.n Uy.pt.c, .slice Uy.lk.A Uy.lk.n Uy.lk.c, .slice Uy.dm.A Uy.dm.n Uy.dm.c, .slice Uy.st.A Uy.st.n Uy.st.c, .slice Uy.fl.A Uy.fl.n Uy.fl.c, .slice Uy.vr.A Uy.vr.n Uy.vr.c, .slice Uy.ir.A Uy.ir.n Uy.ir.c] 31) = w17 := ⟨_, rfl⟩
  have BA_ := Lib.hid (show Below w16.heap.size w16 w17 by rw [← hw_]; exact alloc_below _ _)
  obtain ⟨qUy, hq_⟩ : ∃ q, w16.heap.size = q := ⟨_, rfl⟩
  have TQ_ := Lib.hid (show TBx w17 qUy 31 (netC Uy) by rw [← hw_, ← hq_]; exact TBx.new w16 _ _)
  have HQ_ := Lib.hid hq_
  rw [hw_, hq_]
  clear hw_ hq_
  have y_ := trans_below Y16.out BA_.out
  obtain ⟨⟨f0, f1, f2, f3, f4, f5, f6, f7⟩, ⟨g2, g3, g10⟩, lb_, _⟩ := KN.out _ y_
  have ql_ : w.heap.size + 1 < w17.heap.size := by have := ql1; have := y_.size; omega
  have l_ := R_Uy.out.pt.len
  have e_ : Uy.pt.n = S.pt.n + 1 := by have := NN.out.2.1; simp [withPort] at *; omega
  have c_ := R_Uy.out.pt.le
  have d_ := R_Uy.out.pt.cap
  have t1 := TQ_.out.cell 1 (.slice Uy.pt.A Uy.pt.n Uy.pt.c) rfl
  have z1 := TQ_.out.live 1
  have lt_ := TQ_.out.lt
  clear l_
  go_upto_region 21 with fail
  clear f0 f1 f2 f3 f4 f5 f6 f7 g2 g3 g10 lb_ t1 z1 lt_ y_ ql_ e_ c_ d_
  obtain ⟨w18, hw_⟩ : ∃ w18, w17.setCell ⟨qUy, 1, none⟩ (.slice Uy.pt.A S.pt.n Uy.pt.c) = w18 := ⟨_, rfl⟩
  replace BA_ := Lib.hid (show Below w16.heap.size w16 w18 by rw [← hw_]; exact BA_.out.setCell (p := ⟨qUy, 1, none⟩) (by rw [HQ_.out]; exact Nat.le_refl _) _)
  obtain ⟨Uyc1, hc_⟩ : ∃ X : NSl3, ({ Uy with pt := ⟨Uy.pt.A, S.pt.n, Uy.pt.c⟩ } : NSl3) = X := ⟨_, rfl⟩
  replace TQ_ := Lib.hid (show TBx w18 qUy 31 (netC Uyc1) by rw [← hw_, ← hc_]; exact TQ_.out.set 1 _)
  have HC1 := Lib.hid hc_
  rw [hw_]
  clear hw_ hc_
  have y_ := trans_below Y16.out BA_.out
  obtain ⟨⟨f0, f1, f2, f3, f4, f5, f6, f7⟩, ⟨g2, g3, g10⟩, lb_, _⟩ := KN.out _ y_
  have ql_ : w.heap.size + 1 < w18.heap.size := by have := ql1; have := y_.size; omega
  have l_ := R_Uy.out.dm.len
  have e_ : S.dm.n ≤ Uy.dm.n := by have := NN.out.2.2; simp [withPort] at *; omega
  have c_ := R_Uy.out.dm.le
  have d_ := R_Uy.out.dm.cap
  have t3 := TQ_.out.cell 3 (.slice Uy.dm.A Uy.dm.n Uy.dm.c) (by rw [← HC1.out]; rfl)
  have z3 := TQ_.out.live 3
  have lt_ := TQ_.out.lt
  clear l_
  go_upto_region 22 with fail
  clear f0 f1 f2 f3 f4 f5 f6 f7 g2 g3 g10 lb_ t3 z3 lt_ y_ ql_ e_ c_ d_
  obtain ⟨w19, hw_⟩ : ∃ w19, w18.setCell ⟨qUy, 3, none⟩ (.slice Uy.dm.A S.dm.n Uy.dm.c) = w19 := ⟨_, rfl⟩
  replace BA_ := Lib.hid (show Below w16.heap.size w16 w19 by rw [← hw_]; exact BA_.out.setCell (p := ⟨qUy, 3, none⟩) (by rw [HQ_.out]; exact Nat.le_refl _) _)
  obtain ⟨Uyc2, hc_⟩ : ∃ X : NSl3, ({ Uyc1 with dm := ⟨Uy.dm.A, S.dm.n, Uy.dm.c⟩ } : NSl3) = X := ⟨_, rfl⟩
  replace TQ_ := Lib.hid (show TBx w19 qUy 31 (netC Uyc2) by rw [← hw_, ← hc_]; exact TQ_.out.set 3 _)
  have HC2 := Lib.hid hc_
  rw [hw_]
  clear hw_ hc_
  have Y19 := Lib.hid (trans_below Y16.out BA_.out)
  have X19 := Lib.hid (trans_below X16.out BA_.out)
  have Z_Ua := Lib.hid (trans_below Z_Ua.out BA_.out)
  have Z_Up := Lib.hid (trans_below Z_Up.out BA_.out)
  have nbq_ := TQ_.out
  rw [← HC2.out] at nbq_
  rw [← HC1.out] at nbq_
  have j0 : w19.cell? ⟨qUy, 0, none⟩ = some (.slice Uy.dv.A Uy.dv.n Uy.dv.c) := nbq_.cell 0 _ rfl
  have j1 : w19.cell? ⟨qUy, 1, none⟩ = some (.slice Uy.pt.A S.pt.n Uy.pt.c) := nbq_.cell 1 _ rfl
  have j2 : w19.cell? ⟨qUy, 2, none⟩ = some (.slice Uy.lk.A Uy.lk.n Uy.lk.c) := nbq_.cell 2 _ rfl
  have j3 : w19.cell? ⟨qUy, 3, none⟩ = some (.slice Uy.dm.A S.dm.n Uy.dm.c) := nbq_.cell 3 _ rfl
  have j4 : w19.cell? ⟨qUy, 4, none⟩ = some (.slice Uy.st.A Uy.st.n Uy.st.c) := nbq_.cell 4 _ rfl
  have j5 : w19.cell? ⟨qUy, 5, none⟩ = some (.slice Uy.fl.A Uy.fl.n Uy.fl.c) := nbq_.cell 5 _ rfl
  have j6 : w19.cell? ⟨qUy, 6, none⟩ = some (.slice Uy.vr.A Uy.vr.n Uy.vr.c) := nbq_.cell 6 _ rfl
  have j7 : w19.cell? ⟨qUy, 7, none⟩ = some (.slice Uy.ir.A Uy.ir.n Uy.ir.c) := nbq_.cell 7 _ rfl
  have lx_ := nbq_.lt
  clear nbq_
  obtain ⟨⟨f0, f1, f2, f3, f4, f5, f6, f7⟩, ⟨g2, g3, g10⟩, lb_, _⟩ := KN.out _ Y19.out
  have nb_ := NB_Ua.out.below Z_Ua.out
  have la := nb_.lt
  obtain ⟨a0, a1, a2, a3, a4, a5, a6, a7⟩ : w19.cell? ⟨qUa, 0, none⟩ = some (.slice Ua.dv.A Ua.dv.n Ua.dv.c) ∧ w19.cell? ⟨qUa, 1, none⟩ = some (.slice Ua.pt.A Ua.pt.n Ua.pt.c) ∧ w19.cell? ⟨qUa, 2, none⟩ = some (.slice Ua.lk.A Ua.lk.n Ua.lk.c) ∧ w19.cell? ⟨qUa, 3, none⟩ = some (.slice Ua.dm.A Ua.dm.n Ua.dm.c) ∧ w19.cell? ⟨qUa, 4, none⟩ = some (.slice Ua.st.A Ua.st.n Ua.st.c) ∧ w19.cell? ⟨qUa, 5, none⟩ = some (.slice Ua.fl.A Ua.fl.n Ua.fl.c) ∧ w19.cell? ⟨qUa, 6, none⟩ = some (.slice Ua.vr.A Ua.vr.n Ua.vr.c) ∧ w19.cell? ⟨qUa, 7, none⟩ = some (.slice Ua.ir.A Ua.ir.n Ua.ir.c) := ⟨nb_.c0, nb_.c1, nb_.c2, nb_.c3, nb_.c4, nb_.c5, nb_.c6, nb_.c7⟩
  clear nb_
  have nb_ := NB_Up.out.below Z_Up.out
  have lp := nb_.lt
  obtain ⟨p0, p1, p2, p3, p4, p5, p6, p7⟩ : w19.cell? ⟨qUp, 0, none⟩ = some (.slice Up.dv.A Up.dv.n Up.dv.c) ∧ w19.cell? ⟨qUp, 1, none⟩ = some (.slice Up.pt.A Up.pt.n Up.pt.c) ∧ w19.cell? ⟨qUp, 2, none⟩ = some (.slice Up.lk.A Up.lk.n Up.lk.c) ∧ w19.cell? ⟨qUp, 3, none⟩ = some (.slice Up.dm.A Up.dm.n Up.dm.c) ∧ w19.cell? ⟨qUp, 4, none⟩ = some (.slice Up.st.A Up.st.n Up.st.c) ∧ w19.cell? ⟨qUp, 5, none⟩ = some (.slice Up.fl.A Up.fl.n Up.fl.c) ∧ w19.cell? ⟨qUp, 6, none⟩ = some (.slice Up.vr.A Up.vr.n Up.vr.c) ∧ w19.cell? ⟨qUp, 7, none⟩ = some (.slice Up.ir.A Up.ir.n Up.ir.c) := ⟨nb_.c0, nb_.c1, nb_.c2, nb_.c3, nb_.c4, nb_.c5, nb_.c6, nb_.c7⟩
  clear nb_
  have NY_ := Lib.hid (show NRead w19 (allB w19) N { Uy with pt := ⟨Uy.pt.A, S.pt.n, Uy.pt.c⟩, dm := ⟨Uy.dm.A, S.dm.n, Uy.dm.c⟩ } from by have := port_cut (R_Uy.out.up BA_.out); rw [NN.out.2.1, NN.out.2.2] at this; exact this)
  by_cases v0 : L.vlan = 0
  · have x4 : (L.vlan == 0) = true := by simpa using v0
    clear v0
    go_wp2_with (go_at_call 15; (refine (XS.out N { Uy with pt := ⟨Uy.pt.A, S.pt.n, Uy.pt.c⟩, dm := ⟨Uy.dm.A, S.dm.n, Uy.dm.c⟩ } S _ NY_.out (U1_.out _ X19.out) ZN.out).mono ?_); rintro e w20 ⟨rfl, hb⟩; have Y20 := Lib.hid (trans_below Y19.out hb); have X20 := Lib.hid (trans_below X19.out hb); have Z_Ua := Lib.hid (trans_below Z_Ua.out hb); have Z_Up := Lib.hid (trans_below Z_Up.out hb); clear f0 f1 f2 f3 f4 f5 f6 f7 g2 g3 g10 lb_ la a0 a1 a2 a3 a4 a5 a6 a7 lp p0 p1 p2 p3 p4 p5 p6 p7; obtain ⟨⟨f0, f1, f2, f3, f4, f5, f6, f7⟩, ⟨g2, g3, g10⟩, lb_, _⟩ := KN.out _ Y20.out; have nb_ := NB_Ua.out.below Z_Ua.out; have la := nb_.lt; obtain ⟨a0, a1, a2, a3, a4, a5, a6, a7⟩ : w20.cell? ⟨qUa, 0, none⟩ = some (.slice Ua.dv.A Ua.dv.n Ua.dv.c) ∧ w20.cell? ⟨qUa, 1, none⟩ = some (.slice Ua.pt.A Ua.pt.n Ua.pt.c) ∧ w20.cell? ⟨qUa, 2, none⟩ = some (.slice Ua.lk.A Ua.lk.n Ua.lk.c) ∧ w20.cell? ⟨qUa, 3, none⟩ = some (.slice Ua.dm.A Ua.dm.n Ua.dm.c) ∧ w20.cell? ⟨qUa, 4, none⟩ = some (.slice Ua.st.A Ua.st.n Ua.st.c) ∧ w20.cell? ⟨qUa, 5, none⟩ = some (.slice Ua.fl.A Ua.fl.n Ua.fl.c) ∧ w20.cell? ⟨qUa, 6, none⟩ = some (.slice Ua.vr.A Ua.vr.n Ua.vr.c) ∧ w20.cell? ⟨qUa, 7, none⟩ = some (.slice Ua.ir.A Ua.ir.n Ua.ir.c) := ⟨nb_.c0, nb_.c1, nb_.c2, nb_.c3, nb_.c4, nb_.c5, nb_.c6, nb_.c7⟩; clear nb_; have nb_ := NB_Up.out.below Z_Up.out; have lp := nb_.lt; obtain ⟨p0, p1, p2, p3, p4, p5, p6, p7⟩ : w20.cell? ⟨qUp, 0, none⟩ = some (.slice Up.dv.A Up.dv.n Up.dv.c) ∧ w20.cell? ⟨qUp, 1, none⟩ = some (.slice Up.pt.A Up.pt.n Up.pt.c) ∧ w20.cell? ⟨qUp, 2, none⟩ = some (.slice Up.lk.A Up.lk.n Up.lk.c) ∧ w20.cell? ⟨qUp, 3, none⟩ = some (.slice Up.dm.A Up.dm.n Up.dm.c) ∧ w20.cell? ⟨qUp, 4, none⟩ = some (.slice Up.st.A Up.st.n Up.st.c) ∧ w20.cell? ⟨qUp, 5, none⟩ = some (.slice Up.fl.A Up.fl.n Up.fl.c) ∧ w20.cell? ⟨qUp, 6, none⟩ = some (.slice Up.vr.A Up.vr.n Up.vr.c) ∧ w20.cell? ⟨qUp, 7, none⟩ = some (.slice Up.ir.A Up.ir.n Up.ir.c) := ⟨nb_.c0, nb_.c1, nb_.c2, nb_.c3, nb_.c4, nb_.c5, nb_.c6, nb_.c7⟩; clear nb_; clear hb)
    go_ret
    exact ⟨rfl, X20.out⟩
  have x4 : (L.vlan == 0) = false := by simpa using v0
  have HX := Lib.hid (show decide (0 ≤ atF (withPort N L) dv L.vlan) = true from decide_eq_true (HAT.out _ (List.mem_cons_self) v0))
  clear v0
  go_wp2_with (first
    | (go_at_call 15; (refine (XS.out N { Uy with pt := ⟨Uy.pt.A, S.pt.n, Uy.pt.c⟩, dm := ⟨Uy.dm.A, S.dm.n, Uy.dm.c⟩ } S _ NY_.out (U1_.out _ X19.out) ZN.out).mono ?_); rintro e w20 ⟨rfl, hb⟩; have Y20 := Lib.hid (trans_below Y19.out hb); have X20 := Lib.hid (trans_below X19.out hb); have Z_Ua := Lib.hid (trans_below Z_Ua.out hb); have Z_Up := Lib.hid (trans_below Z_Up.out hb); clear f0 f1 f2 f3 f4 f5 f6 f7 g2 g3 g10 lb_ la a0 a1 a2 a3 a4 a5 a6 a7 lp p0 p1 p2 p3 p4 p5 p6 p7; obtain ⟨⟨f0, f1, f2, f3, f4, f5, f6, f7⟩, ⟨g2, g3, g10⟩, lb_, _⟩ := KN.out _ Y20.out; have nb_ := NB_Ua.out.below Z_Ua.out; have la := nb_.lt; obtain ⟨a0, a1, a2, a3, a4, a5, a6, a7⟩ : w20.cell? ⟨qUa, 0, none⟩ = some (.slice Ua.dv.A Ua.dv.n Ua.dv.c) ∧ w20.cell? ⟨qUa, 1, none⟩ = some (.slice Ua.pt.A Ua.pt.n Ua.pt.c) ∧ w20.cell? ⟨qUa, 2, none⟩ = some (.slice Ua.lk.A Ua.lk.n Ua.lk.c) ∧ w20.cell? ⟨qUa, 3, none⟩ = some (.slice Ua.dm.A Ua.dm.n Ua.dm.c) ∧ w20.cell? ⟨qUa, 4, none⟩ = some (.slice Ua.st.A Ua.st.n Ua.st.c) ∧ w20.cell? ⟨qUa, 5, none⟩ = some (.slice Ua.fl.A Ua.fl.n Ua.fl.c) ∧ w20.cell? ⟨qUa, 6, none⟩ = some (.slice Ua.vr.A Ua.vr.n Ua.vr.c) ∧ w20.cell? ⟨qUa, 7, none⟩ = some (.slice Ua.ir.A Ua.ir.n Ua.ir.c) := ⟨nb_.c0, nb_.c1, nb_.c2, nb_.c3, nb_.c4, nb_.c5, nb_.c6, nb_.c7⟩; clear nb_; have nb_ := NB_Up.out.below Z_Up.out; have lp := nb_.lt; obtain ⟨p0, p1, p2, p3, p4, p5, p6, p7⟩ : w20.cell? ⟨qUp, 0, none⟩ = some (.slice Up.dv.A Up.dv.n Up.dv.c) ∧ w20.cell? ⟨qUp, 1, none⟩ = some (.slice Up.pt.A Up.pt.n Up.pt.c) ∧ w20.cell? ⟨qUp, 2, none⟩ = some (.slice Up.lk.A Up.lk.n Up.lk.c) ∧ w20.cell? ⟨qUp, 3, none⟩ = some (.slice Up.dm.A Up.dm.n Up.dm.c) ∧ w20.cell? ⟨qUp, 4, none⟩ = some (.slice Up.st.A Up.st.n Up.st.c) ∧ w20.cell? ⟨qUp, 5, none⟩ = some (.slice Up.fl.A Up.fl.n Up.fl.c) ∧ w20.cell? ⟨qUp, 6, none⟩ = some (.slice Up.vr.A Up.vr.n Up.vr.c) ∧ w20.cell? ⟨qUp, 7, none⟩ = some (.slice Up.ir.A Up.ir.n Up.ir.c) := ⟨nb_.c0, nb_.c1, nb_.c2, nb_.c3, nb_.c4, nb_.c5, nb_.c6, nb_.c7⟩; clear nb_; clear hb)
    | (go_at_call 17; (refine (SA.out _ Up dv L.vlan _ (NP_.out.up Z_Up.out) ZP.out OKP.out).mono ?_); rintro e w21 ⟨rfl, hb⟩; have Y21 := Lib.hid (trans_below Y20.out hb); have X21 := Lib.hid (trans_below X20.out hb); have Z_Ua := Lib.hid (trans_below Z_Ua.out hb); have Z_Up := Lib.hid (trans_below Z_Up.out hb); skip; clear hb))
  go_ret
  exact ⟨by show Ending.returned (.bool (decide (0 ≤ atF (withPort N L) dv L.vlan))) = _; rw [HX.out], X21.out⟩
end Go.Proofs.YthobolmedppneaaGreat

