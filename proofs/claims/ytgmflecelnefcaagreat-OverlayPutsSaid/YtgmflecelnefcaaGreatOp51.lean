import Derived.Test.YtgmflecelnefcaaGreatOp48
import Derived.Test.YtgmflecelnefcaaGreatOp38
import Derived.Test.YtgmflecelnefcaaGreatOp50
import Derived.Test.YtgmflecelnefcaaGreatOp41
import Derived.Test.YtgmflecelnefcaaGreatOp18
import Derived.Test.YtgmflecelnefcaaGreatOp01
import Derived.Test.YtgmflecelnefcaaGreatOp30
import Derived.Test.YtgmflecelnefcaaGreatOp26
import Derived.Test.YtgmflecelnefcaaGreatRows
import Derived.ProofKit
import Derived.Deep.Slices
set_option maxRecDepth 100000
set_option maxHeartbeats 40000000
namespace Go.Proofs.YtgmflecelnefcaaGreat
open Go.Lib (hid)
open Go.RowKit
def OtB (p q:Nat) (w:World):Nat→Prop:=fun b=>(b≠p∧b≠q)∧b<w.heap.size
theorem ot_b {w':World} {v p q:Nat} {N:NV} {S:NSl3} (h:NRead w' (fun b=>v≤b∧b<w'.heap.size) N S) (hp:p<v) (hq:q<v):NRead w' (OtB p q w') N S:=
 h.keep (fun _ _=>rfl) (fun b g=>⟨⟨fun e=>by have:=g.1;omega,fun e=>by have:=g.1;omega⟩,g.2⟩)
theorem ot_f {w' w0:World} {v p q:Nat} {N:NV} {S:NSl3} (h:NRead w' (fun b=>(vAp w0 b∨v≤b)∧b<w'.heap.size) N S) (hp0:w0.heap.size≤p) (hq0:w0.heap.size≤q) (hp:p<v) (hq:q<v):NRead w' (OtB p q w') N S:=
 h.keep (fun _ _=>rfl) (fun b g=>by
   refine ⟨?_,g.2⟩
   rcases g.1 with g1|g1
   · have g1:b<w0.heap.size:=g1
     exact ⟨fun e=>by omega,fun e=>by omega⟩
   · exact ⟨fun e=>by omega,fun e=>by omega⟩)
theorem ot_up {w w':World} {p q:Nat} {N:NV} {S:NSl3} (h:NRead w (OtB p q w) N S) (hb:Below w.heap.size w w'):NRead w' (OtB p q w') N S:=
 h.keep (fun b g=>hb.block b g.2) (fun _ g=>⟨g.1,Nat.lt_of_lt_of_le g.2 hb.size⟩)
theorem ot_p {w:World} {p q:Nat} {N:NV} {S:NSl3} (h:NRead w (OtB p q w) N S) (U:NSl3):NRead (st8 w p U) (OtB p q (st8 w p U)) N S:=
 h.keep (fun b g=>vAx _ _ _ g.1.1) (fun _ g=>⟨g.1,by rw [vBh];exact g.2⟩)
theorem ot_q {w:World} {p q:Nat} {N:NV} {S:NSl3} (h:NRead w (OtB p q w) N S) (U:NSl3):NRead (st8 w q U) (OtB p q (st8 w q U)) N S:=
 h.keep (fun b g=>vAx _ _ _ g.1.2) (fun _ g=>⟨g.1,by rw [vBh];exact g.2⟩)
theorem ot_a {w:World} {p q:Nat} {N:NV} {S:NSl3} (h:NRead w (OtB p q w) N S):NRead w (vAp w) N S:=h.keep (fun _ _=>rfl) (fun _ g=>g.2)
theorem oputs_walk (N:NV) (S:NSl3) (L:LV) (s1 s2 s3 s4:SlV) (w:World) (h:NRead w (vAp w) N S) (hl:LRead w L s1 s2 s3 s4) (hm:NmSz N) (hw:LvW L) (hv:VtOk N):Calls Tryz.prog 3 #[vAm S,vAv L s1 s2 s3 s4] w fun e w'=>e=.returned (.bool true)∧Below w.heap.size w w':=by
 have UP:=hid (fun (w':World) (hb:Below w.heap.size w w')=>h.up hb);have UL:=hid (fun (w':World) (hb:Below w.heap.size w w')=>vAk hl hb);have HM:=hid hm;have HW:=hid hw;have HV:=hid hv;have U1_:=hid (fun (w':World) (hb:Below w.heap.size w w')=>h.up hb);have UF_:=hid (fun (w':World) (hb:Below w.heap.size w w')=>(show NRead w' (vAp w) N S from h.keep (fun b g=>hb.block b g) (fun _ g=>g)))
 have L1_:=hid (fun (w':World) (hb:Below w.heap.size w w')=>vAk hl hb)
 have G1:=fun (w':World) (hb:Below w.heap.size w w')=>great16_any N S L s1 s2 s3 s4 w' (h.up hb) (vAk hl hb)
 unfold GotGr vAm at G1;have G1:=hid G1;clear hm hw hv;clear h hl;unfold vAm;rw [vBw]
 go_enter Tryz.func3,Tryz.ntmps3
 go_upto_region 1 with fail
 generalize hw1:World.alloc _ _=w1;obtain ⟨B1,NB,LB,ql1⟩:=pre_two (S:=S) (L:=L) (s1:=s1) (s2:=s2) (s3:=s3) (s4:=s4) hw1;clear hw1;replace B1:=hid B1;replace NB:=hid NB;replace LB:=hid LB
 have KN:=hid (show ∀wx,Below w1.heap.size w1 wx→NF wx w.heap.size S∧(wx.cell? ⟨w.heap.size+1,1,none⟩=some (.int .i64 L.kind))∧BoxF wx (w.heap.size+1) 17 (lc L s1 s2 s3 s4)∧NRead wx (vAp wx) N S∧LRead wx L s1 s2 s3 s4∧Below w.heap.size w wx from fun wx hx=>by
  have nb:=NB.out.below hx;have bx:=LB.out.below (by omega) hx;have b0:=B1.out.trans (hx.mono B1.out.size)
  exact ⟨⟨nb.c0,nb.c1,nb.c2,nb.c3,nb.c4,nb.c5,nb.c6,nb.c7⟩,bx.cell 1 (by omega),bx,UP.out _ b0,UL.out _ b0,b0⟩)
 have BS:=hid (Below.refl w1.heap.size w1);obtain ⟨⟨f0,f1,f2,f3,f4,f5,f6,f7⟩,g1,lb_,_⟩:=KN.out w1 (Below.refl _ _)
 go_wp2_with (first
  |((with_reducible refine vAf ?hg (.tmp 3) ?ho (w.heap.size+1) ?hx L s1 s2 s3 s4 lb_ ?_);(case hg=>rfl);(case ho=>rfl);(case hx=>rfl))
  |(go_at_call 7;(with_reducible refine (G1.out _ B1.out).mono ?_);rintro e w2 ⟨g,rfl,hg,b_⟩;have Y2:=hid b_;have X2:=hid (vAa B1.out b_);have HG:=hid hg;obtain ⟨⟨f0,f1,f2,f3,f4,f5,f6,f7⟩,g1,lb_,_⟩:=KN.out _ Y2.out;clear hg b_;cases g)
  |(go_at_call 8;(with_reducible refine (works19_any _).mono ?_);rintro e w3 ⟨rfl,b_⟩;have X3:=hid (vAa X2.out b_);clear b_))
 rotate_left
 · go_ret
   exact ⟨rfl,X3.out⟩
 have SZ:=HG.out (by simp)
 have P0:=fun (w':World) (hb:Below w.heap.size w w')=>covtep_b N S L s1 s2 s3 s4 w' (U1_.out _ hb) (L1_.out _ hb) SZ.1 HM.out (by have:=SZ.2.txt;omega) HW.out.addr HW.out.addrs (by have:=SZ.2.lst;omega) HV.out
 have R0:=fun (w':World) (hb:Below w.heap.size w w')=>rvtep_any N S L s1 s2 s3 s4 w' (vAp w) (fun b (g:b<w.heap.size)=>Nat.lt_of_lt_of_le g hb.size) (UF_.out _ hb) (L1_.out _ hb) SZ.1 HW.out SZ.2
 obtain ⟨M0,hM⟩:∃v,vtN N L=v:=⟨_,rfl⟩;obtain ⟨E0,hE⟩:∃v,vtE N L=v:=⟨_,rfl⟩;rw [hM,hE] at P0 R0;clear hM hE;unfold vCn vAm at P0;unfold vHn vAm at R0;replace P0:=hid P0;replace R0:=hid R0
 have P1:=fun (w':World) (hb:Below w.heap.size w w')=>covni_b N S L s1 s2 s3 s4 w' (U1_.out _ hb) (L1_.out _ hb) SZ.1 HM.out (by have:=SZ.2.txt;omega) HW.out.addr HW.out.addrs (by have:=SZ.2.lst;omega) HV.out
 have R1:=fun (w':World) (hb:Below w.heap.size w w')=>rvni_any N S L s1 s2 s3 s4 w' (vAp w) (fun b (g:b<w.heap.size)=>Nat.lt_of_lt_of_le g hb.size) (UF_.out _ hb) (L1_.out _ hb) SZ.1 HW.out SZ.2
 obtain ⟨M1,hM⟩:∃v,vnN N L=v:=⟨_,rfl⟩;obtain ⟨E1,hE⟩:∃v,vnE N L=v:=⟨_,rfl⟩;rw [hM,hE] at P1 R1;clear hM hE;unfold vCn vAm at P1;unfold vHn vAm at R1;replace P1:=hid P1;replace R1:=hid R1
 have P2:=fun (w':World) (hb:Below w.heap.size w w')=>coflood_b N S L s1 s2 s3 s4 w' (U1_.out _ hb) (L1_.out _ hb) SZ.1 HM.out (by have:=SZ.2.txt;omega) HW.out.addr HW.out.addrs (by have:=SZ.2.lst;omega) HV.out
 have R2:=fun (w':World) (hb:Below w.heap.size w w')=>rflood_any N S L s1 s2 s3 s4 w' (vAp w) (fun b (g:b<w.heap.size)=>Nat.lt_of_lt_of_le g hb.size) (UF_.out _ hb) (L1_.out _ hb) SZ.1 HW.out SZ.2
 obtain ⟨M2,hM⟩:∃v,flN N L=v:=⟨_,rfl⟩;obtain ⟨E2,hE⟩:∃v,flE N L=v:=⟨_,rfl⟩;rw [hM,hE] at P2 R2;clear hM hE;unfold vCn vAm at P2;unfold vHn vAm at R2;replace P2:=hid P2;replace R2:=hid R2;have SM:=hid (fun (M:NV) (A B:NSl3) (w':World) (ha:NRead w' (vAp w') M A) (hb:NRead w' (vAp w') M B)=>rnsame_self M A B w' ha hb);unfold vAm at SM;clear SZ HG G1
 go_upto_region 4 with (first
  |((with_reducible refine vAf ?hg (.tmp 3) ?ho (w.heap.size+1) ?hx L s1 s2 s3 s4 lb_ ?_);(case hg=>rfl);(case ho=>rfl);(case hx=>rfl))
  |(go_at_call 9;(with_reducible refine (P0.out _ X2.out).mono ?_);rintro e w3 ⟨U1,rfl,hr,hb⟩;have R_U1:=hid hr;have Y3:=hid (vAa Y2.out hb);clear hr hb))
 clear f0 f1 f2 f3 f4 f5 f6 f7 g1 lb_;obtain ⟨w4,hw4⟩:∃w4,w3.alloc (.cells #[.slice U1.dv.A U1.dv.n U1.dv.c,.slice U1.pt.A U1.pt.n U1.pt.c,.slice U1.lk.A U1.lk.n U1.lk.c,.slice U1.dm.A U1.dm.n U1.dm.c,.slice U1.st.A U1.st.n U1.st.c,.slice U1.fl.A U1.fl.n U1.fl.c,.slice U1.vr.A U1.vr.n U1.vr.c,.slice U1.ir.A U1.ir.n U1.ir.c] 31)=w4:=⟨_,rfl⟩
 have A_:Below w3.heap.size w3 w4:=by rw [←hw4];exact vAc _ _
 obtain ⟨qa,hqa⟩:∃q,w3.heap.size=q:=⟨_,rfl⟩;have Tqa:=hid (show TBx w4 qa 31 (vBk U1) by rw [←hw4,←hqa];exact TBx.new _ _ _);have Lqa:=hid (show w1.heap.size≤qa∧qa<w4.heap.size from ⟨by rw [←hqa];exact Y3.out.size,Tqa.out.lt⟩);have N_U1:=hid ((show NRead w3 (vAp w3) M0 U1 from R_U1.out.keep (fun _ _=>rfl) (fun _ g=>g.2)).up A_);have Y4:=hid (vAa Y3.out A_);have X4:=hid (B1.out.trans (Y4.out.mono B1.out.size))
 rw [hw4,hqa];clear hw4 hqa A_ R_U1;obtain ⟨⟨f0,f1,f2,f3,f4,f5,f6,f7⟩,g1,lb_,_⟩:=KN.out _ Y4.out
 go_upto_region 5 with (first
  |((with_reducible refine vAf ?hg (.tmp 3) ?ho (w.heap.size+1) ?hx L s1 s2 s3 s4 lb_ ?_);(case hg=>rfl);(case ho=>rfl);(case hx=>rfl))
  |(go_at_call 10;(with_reducible refine (R0.out _ X4.out).mono ?_);rintro e w5 ⟨U2,rfl,hr,hb⟩;have R_U2:=hid hr;have Y5:=hid (vAa Y4.out hb);have V5:=hid hb;clear hr hb))
 clear f0 f1 f2 f3 f4 f5 f6 f7 g1 lb_;obtain ⟨w6,hw6⟩:∃w6,w5.alloc (.cells #[.slice U2.dv.A U2.dv.n U2.dv.c,.slice U2.pt.A U2.pt.n U2.pt.c,.slice U2.lk.A U2.lk.n U2.lk.c,.slice U2.dm.A U2.dm.n U2.dm.c,.slice U2.st.A U2.st.n U2.st.c,.slice U2.fl.A U2.fl.n U2.fl.c,.slice U2.vr.A U2.vr.n U2.vr.c,.slice U2.ir.A U2.ir.n U2.ir.c] 31)=w6:=⟨_,rfl⟩
 have A_:Below w5.heap.size w5 w6:=by rw [←hw6];exact vAc _ _
 obtain ⟨qb,hqb⟩:∃q,w5.heap.size=q:=⟨_,rfl⟩;have Tqb:=hid (show TBx w6 qb 31 (vBk U2) by rw [←hw6,←hqb];exact TBx.new _ _ _);have Lqb:=hid (show w1.heap.size≤qb∧qb<w6.heap.size from ⟨by rw [←hqb];exact Y5.out.size,Tqb.out.lt⟩);have N_U2:=hid ((show NRead w5 (vAp w5) M0 U2 from R_U2.out.keep (fun _ _=>rfl) (fun _ g=>g.2)).up A_);have Tqa:=hid ((Tqa.out.below V5.out).below A_);have N_U1:=hid ((N_U1.out.up V5.out).up A_)
 have Sqa:=hid (show qa<w6.heap.size from Nat.lt_of_lt_of_le Lqa.out.2 (Nat.le_trans V5.out.size A_.size));have DQ:=hid (show qa<qb by rw [←hqb];exact Nat.lt_of_lt_of_le Lqa.out.2 V5.out.size);have Y6:=hid (vAa Y5.out A_);have X6:=hid (B1.out.trans (Y6.out.mono B1.out.size));rw [hw6,hqb];clear hw6 hqb A_ R_U2;obtain ⟨⟨f0,f1,f2,f3,f4,f5,f6,f7⟩,g1,lb_,_⟩:=KN.out _ Y6.out;clear f0 f1 f2 f3 f4 f5 f6 f7 g1 lb_
 have LQ:=hid (show w1.heap.size≤qa∧w1.heap.size≤qb∧w.heap.size≤qa∧w.heap.size≤qb from ⟨Lqa.out.1,Lqb.out.1,Nat.le_trans B1.out.size Lqa.out.1,Nat.le_trans B1.out.size Lqb.out.1⟩);have SQ6:=hid (show qa<w6.heap.size∧qb<w6.heap.size from ⟨Sqa.out,Lqb.out.2⟩);have Ta6:=hid Tqa.out;have Tb6:=hid Tqb.out;clear Lqa Lqb Sqa Tqa Tqb V5;have t_:=Ta6.out;have a0:=t_.cell 0 (.slice U1.dv.A U1.dv.n U1.dv.c) rfl;have a1:=t_.cell 1 (.slice U1.pt.A U1.pt.n U1.pt.c) rfl;have a2:=t_.cell 2 (.slice U1.lk.A U1.lk.n U1.lk.c) rfl;have a3:=t_.cell 3 (.slice U1.dm.A U1.dm.n U1.dm.c) rfl;have a4:=t_.cell 4 (.slice U1.st.A U1.st.n U1.st.c) rfl;have a5:=t_.cell 5 (.slice U1.fl.A U1.fl.n U1.fl.c) rfl;have a6:=t_.cell 6 (.slice U1.vr.A U1.vr.n U1.vr.c) rfl;have a7:=t_.cell 7 (.slice U1.ir.A U1.ir.n U1.ir.c) rfl;clear t_
 have t_:=Tb6.out;have b0:=t_.cell 0 (.slice U2.dv.A U2.dv.n U2.dv.c) rfl;have b1:=t_.cell 1 (.slice U2.pt.A U2.pt.n U2.pt.c) rfl;have b2:=t_.cell 2 (.slice U2.lk.A U2.lk.n U2.lk.c) rfl;have b3:=t_.cell 3 (.slice U2.dm.A U2.dm.n U2.dm.c) rfl;have b4:=t_.cell 4 (.slice U2.st.A U2.st.n U2.st.c) rfl;have b5:=t_.cell 5 (.slice U2.fl.A U2.fl.n U2.fl.c) rfl;have b6:=t_.cell 6 (.slice U2.vr.A U2.vr.n U2.vr.c) rfl;have b7:=t_.cell 7 (.slice U2.ir.A U2.ir.n U2.ir.c) rfl;clear t_
 have e0:(E0 == E0)=true:=by simp
 have e1:(E1 == E1)=true:=by simp
 have e2:(E2 == E2)=true:=by simp
 go_upto_region 7 with (go_at_call 11;(with_reducible refine (SM.out M0 U1 U2 _ N_U1.out N_U2.out).mono ?_);rintro e w7 ⟨rfl,hb⟩;have Ta7:=hid (Ta6.out.below hb);have Tb7:=hid (Tb6.out.below hb);have SQ7:=hid (show qa<w7.heap.size∧qb<w7.heap.size from ⟨Nat.lt_of_lt_of_le SQ6.out.1 (Below.size hb),Nat.lt_of_lt_of_le SQ6.out.2 (Below.size hb)⟩);have Y7:=hid (vAa Y6.out hb);have X7:=hid (vAa X6.out hb);clear hb)
 clear a0 a1 a2 a3 a4 a5 a6 a7;clear b0 b1 b2 b3 b4 b5 b6 b7;clear N_U1 N_U2 Ta6 Tb6 SQ6 X6 Y6;obtain ⟨⟨f0,f1,f2,f3,f4,f5,f6,f7⟩,g1,lb_,_⟩:=KN.out _ Y7.out
 go_upto_region 8 with (first
  |((with_reducible refine vAf ?hg (.tmp 3) ?ho (w.heap.size+1) ?hx L s1 s2 s3 s4 lb_ ?_);(case hg=>rfl);(case ho=>rfl);(case hx=>rfl))
  |(go_at_call 12;(with_reducible refine (P1.out _ X7.out).mono ?_);rintro e w8 ⟨U3,rfl,hr,hb⟩;have Ta8:=hid (Ta7.out.below hb);have Tb8:=hid (Tb7.out.below hb);have SQ8:=hid (show qa<w8.heap.size∧qb<w8.heap.size from ⟨Nat.lt_of_lt_of_le SQ7.out.1 (Below.size hb),Nat.lt_of_lt_of_le SQ7.out.2 (Below.size hb)⟩);have Y8:=hid (vAa Y7.out hb);have X8:=hid (vAa X7.out hb);have F_U3:=hid (ot_b hr SQ7.out.1 SQ7.out.2);have t_:=Ta8.out;have c0:=t_.cell 0 (.slice U1.dv.A U1.dv.n U1.dv.c) rfl;have zc0:=t_.live 0;have c1:=t_.cell 1 (.slice U1.pt.A U1.pt.n U1.pt.c) rfl;have zc1:=t_.live 1;have c2:=t_.cell 2 (.slice U1.lk.A U1.lk.n U1.lk.c) rfl;have zc2:=t_.live 2;have c3:=t_.cell 3 (.slice U1.dm.A U1.dm.n U1.dm.c) rfl;have zc3:=t_.live 3;have c4:=t_.cell 4 (.slice U1.st.A U1.st.n U1.st.c) rfl;have zc4:=t_.live 4;have c5:=t_.cell 5 (.slice U1.fl.A U1.fl.n U1.fl.c) rfl;have zc5:=t_.live 5;have c6:=t_.cell 6 (.slice U1.vr.A U1.vr.n U1.vr.c) rfl;have zc6:=t_.live 6;have c7:=t_.cell 7 (.slice U1.ir.A U1.ir.n U1.ir.c) rfl;have zc7:=t_.live 7;have zlc:=t_.lt;clear t_;clear hr hb))
 clear f0 f1 f2 f3 f4 f5 f6 f7 g1 lb_;clear c0 c1 c2 c3 c4 c5 c6 c7 zc0 zc1 zc2 zc3 zc4 zc5 zc6 zc7 zlc;generalize hw9:World.setCell _ _ _=w9;have hw9:st8 w8 qa U3=w9:=hw9
 have hs9:w9.heap.size=w8.heap.size:=by rw [←hw9];exact vBh _ _ _
 have Ta9:=hid (show TBx w9 qa 31 (vBk U3) by rw [←hw9];exact Ta8.out.st8 U3);have Tb9:=hid (Tb8.out.same (show w9.heap[qb]?=w8.heap[qb]? by rw [←hw9];exact vAx _ _ _ (fun e=>by have:=DQ.out;omega)));have SQ9:=hid (show qa<w9.heap.size∧qb<w9.heap.size by rw [hs9];exact SQ8.out);have Y9:=hid (show Below w1.heap.size w1 w9 by rw [←hw9];exact Below.st8 Y8.out LQ.out.1 U3);have X9:=hid (show Below w.heap.size w w9 by rw [←hw9];exact Below.st8 X8.out LQ.out.2.2.1 U3)
 have F_U3:=hid (show NRead w9 (OtB qa qb w9) M1 U3 by rw [←hw9];exact ot_p F_U3.out U3);clear hs9 hw9 Ta8 Tb8 SQ8 X8 Y8 Ta7 Tb7 SQ7 X7 Y7;obtain ⟨⟨f0,f1,f2,f3,f4,f5,f6,f7⟩,g1,lb_,_⟩:=KN.out _ Y9.out
 go_upto_region 9 with (first
  |((with_reducible refine vAf ?hg (.tmp 3) ?ho (w.heap.size+1) ?hx L s1 s2 s3 s4 lb_ ?_);(case hg=>rfl);(case ho=>rfl);(case hx=>rfl))
  |(go_at_call 13;(with_reducible refine (R1.out _ X9.out).mono ?_);rintro e w10 ⟨U4,rfl,hr,hb⟩;have Ta10:=hid (Ta9.out.below hb);have Tb10:=hid (Tb9.out.below hb);have SQ10:=hid (show qa<w10.heap.size∧qb<w10.heap.size from ⟨Nat.lt_of_lt_of_le SQ9.out.1 (Below.size hb),Nat.lt_of_lt_of_le SQ9.out.2 (Below.size hb)⟩);have Y10:=hid (vAa Y9.out hb);have X10:=hid (vAa X9.out hb);have F_U4:=hid (ot_f hr LQ.out.2.2.1 LQ.out.2.2.2 SQ9.out.1 SQ9.out.2);have F_U3:=hid (ot_up F_U3.out hb);have t_:=Tb10.out;have c0:=t_.cell 0 (.slice U2.dv.A U2.dv.n U2.dv.c) rfl;have zc0:=t_.live 0;have c1:=t_.cell 1 (.slice U2.pt.A U2.pt.n U2.pt.c) rfl;have zc1:=t_.live 1;have c2:=t_.cell 2 (.slice U2.lk.A U2.lk.n U2.lk.c) rfl;have zc2:=t_.live 2;have c3:=t_.cell 3 (.slice U2.dm.A U2.dm.n U2.dm.c) rfl;have zc3:=t_.live 3;have c4:=t_.cell 4 (.slice U2.st.A U2.st.n U2.st.c) rfl;have zc4:=t_.live 4;have c5:=t_.cell 5 (.slice U2.fl.A U2.fl.n U2.fl.c) rfl;have zc5:=t_.live 5;have c6:=t_.cell 6 (.slice U2.vr.A U2.vr.n U2.vr.c) rfl;have zc6:=t_.live 6;have c7:=t_.cell 7 (.slice U2.ir.A U2.ir.n U2.ir.c) rfl;have zc7:=t_.live 7;have zlc:=t_.lt;clear t_;clear hr hb))
 clear f0 f1 f2 f3 f4 f5 f6 f7 g1 lb_;clear c0 c1 c2 c3 c4 c5 c6 c7 zc0 zc1 zc2 zc3 zc4 zc5 zc6 zc7 zlc;generalize hw11:World.setCell _ _ _=w11;have hw11:st8 w10 qb U4=w11:=hw11
 have hs11:w11.heap.size=w10.heap.size:=by rw [←hw11];exact vBh _ _ _
 have Tb11:=hid (show TBx w11 qb 31 (vBk U4) by rw [←hw11];exact Tb10.out.st8 U4);have Ta11:=hid (Ta10.out.same (show w11.heap[qa]?=w10.heap[qa]? by rw [←hw11];exact vAx _ _ _ (fun e=>by have:=DQ.out;omega)));have SQ11:=hid (show qa<w11.heap.size∧qb<w11.heap.size by rw [hs11];exact SQ10.out);have Y11:=hid (show Below w1.heap.size w1 w11 by rw [←hw11];exact Below.st8 Y10.out LQ.out.2.1 U4)
 have X11:=hid (show Below w.heap.size w w11 by rw [←hw11];exact Below.st8 X10.out LQ.out.2.2.2 U4);have F_U3:=hid (show NRead w11 (OtB qa qb w11) M1 U3 by rw [←hw11];exact ot_q F_U3.out U4);have F_U4:=hid (show NRead w11 (OtB qa qb w11) M1 U4 by rw [←hw11];exact ot_q F_U4.out U4);clear hs11 hw11 Ta10 Tb10 SQ10 X10 Y10 Ta9 Tb9 SQ9 X9 Y9;obtain ⟨⟨f0,f1,f2,f3,f4,f5,f6,f7⟩,g1,lb_,_⟩:=KN.out _ Y11.out
 clear f0 f1 f2 f3 f4 f5 f6 f7 g1 lb_;have t_:=Ta11.out;have a0:=t_.cell 0 (.slice U3.dv.A U3.dv.n U3.dv.c) rfl;have a1:=t_.cell 1 (.slice U3.pt.A U3.pt.n U3.pt.c) rfl;have a2:=t_.cell 2 (.slice U3.lk.A U3.lk.n U3.lk.c) rfl;have a3:=t_.cell 3 (.slice U3.dm.A U3.dm.n U3.dm.c) rfl;have a4:=t_.cell 4 (.slice U3.st.A U3.st.n U3.st.c) rfl;have a5:=t_.cell 5 (.slice U3.fl.A U3.fl.n U3.fl.c) rfl;have a6:=t_.cell 6 (.slice U3.vr.A U3.vr.n U3.vr.c) rfl;have a7:=t_.cell 7 (.slice U3.ir.A U3.ir.n U3.ir.c) rfl;clear t_
 have t_:=Tb11.out;have b0:=t_.cell 0 (.slice U4.dv.A U4.dv.n U4.dv.c) rfl;have b1:=t_.cell 1 (.slice U4.pt.A U4.pt.n U4.pt.c) rfl;have b2:=t_.cell 2 (.slice U4.lk.A U4.lk.n U4.lk.c) rfl;have b3:=t_.cell 3 (.slice U4.dm.A U4.dm.n U4.dm.c) rfl;have b4:=t_.cell 4 (.slice U4.st.A U4.st.n U4.st.c) rfl;have b5:=t_.cell 5 (.slice U4.fl.A U4.fl.n U4.fl.c) rfl;have b6:=t_.cell 6 (.slice U4.vr.A U4.vr.n U4.vr.c) rfl;have b7:=t_.cell 7 (.slice U4.ir.A U4.ir.n U4.ir.c) rfl;clear t_
 have N_U3:=hid (ot_a F_U3.out);have N_U4:=hid (ot_a F_U4.out);clear F_U3 F_U4
 go_upto_region 11 with (go_at_call 11;(with_reducible refine (SM.out M1 U3 U4 _ N_U3.out N_U4.out).mono ?_);rintro e w12 ⟨rfl,hb⟩;have Ta12:=hid (Ta11.out.below hb);have Tb12:=hid (Tb11.out.below hb);have SQ12:=hid (show qa<w12.heap.size∧qb<w12.heap.size from ⟨Nat.lt_of_lt_of_le SQ11.out.1 (Below.size hb),Nat.lt_of_lt_of_le SQ11.out.2 (Below.size hb)⟩);have Y12:=hid (vAa Y11.out hb);have X12:=hid (vAa X11.out hb);clear hb)
 clear a0 a1 a2 a3 a4 a5 a6 a7;clear b0 b1 b2 b3 b4 b5 b6 b7;clear N_U3 N_U4 Ta11 Tb11 SQ11 X11 Y11;obtain ⟨⟨f0,f1,f2,f3,f4,f5,f6,f7⟩,g1,lb_,_⟩:=KN.out _ Y12.out
 go_upto_region 12 with (first
  |((with_reducible refine vAf ?hg (.tmp 3) ?ho (w.heap.size+1) ?hx L s1 s2 s3 s4 lb_ ?_);(case hg=>rfl);(case ho=>rfl);(case hx=>rfl))
  |(go_at_call 14;(with_reducible refine (P2.out _ X12.out).mono ?_);rintro e w13 ⟨U5,rfl,hr,hb⟩;have Ta13:=hid (Ta12.out.below hb);have Tb13:=hid (Tb12.out.below hb);have SQ13:=hid (show qa<w13.heap.size∧qb<w13.heap.size from ⟨Nat.lt_of_lt_of_le SQ12.out.1 (Below.size hb),Nat.lt_of_lt_of_le SQ12.out.2 (Below.size hb)⟩);have Y13:=hid (vAa Y12.out hb);have X13:=hid (vAa X12.out hb);have F_U5:=hid (ot_b hr SQ12.out.1 SQ12.out.2);have t_:=Ta13.out;have c0:=t_.cell 0 (.slice U3.dv.A U3.dv.n U3.dv.c) rfl;have zc0:=t_.live 0;have c1:=t_.cell 1 (.slice U3.pt.A U3.pt.n U3.pt.c) rfl;have zc1:=t_.live 1;have c2:=t_.cell 2 (.slice U3.lk.A U3.lk.n U3.lk.c) rfl;have zc2:=t_.live 2;have c3:=t_.cell 3 (.slice U3.dm.A U3.dm.n U3.dm.c) rfl;have zc3:=t_.live 3;have c4:=t_.cell 4 (.slice U3.st.A U3.st.n U3.st.c) rfl;have zc4:=t_.live 4;have c5:=t_.cell 5 (.slice U3.fl.A U3.fl.n U3.fl.c) rfl;have zc5:=t_.live 5;have c6:=t_.cell 6 (.slice U3.vr.A U3.vr.n U3.vr.c) rfl;have zc6:=t_.live 6;have c7:=t_.cell 7 (.slice U3.ir.A U3.ir.n U3.ir.c) rfl;have zc7:=t_.live 7;have zlc:=t_.lt;clear t_;clear hr hb))
 clear f0 f1 f2 f3 f4 f5 f6 f7 g1 lb_;clear c0 c1 c2 c3 c4 c5 c6 c7 zc0 zc1 zc2 zc3 zc4 zc5 zc6 zc7 zlc;generalize hw14:World.setCell _ _ _=w14;have hw14:st8 w13 qa U5=w14:=hw14
 have hs14:w14.heap.size=w13.heap.size:=by rw [←hw14];exact vBh _ _ _
 have Ta14:=hid (show TBx w14 qa 31 (vBk U5) by rw [←hw14];exact Ta13.out.st8 U5);have Tb14:=hid (Tb13.out.same (show w14.heap[qb]?=w13.heap[qb]? by rw [←hw14];exact vAx _ _ _ (fun e=>by have:=DQ.out;omega)));have SQ14:=hid (show qa<w14.heap.size∧qb<w14.heap.size by rw [hs14];exact SQ13.out);have Y14:=hid (show Below w1.heap.size w1 w14 by rw [←hw14];exact Below.st8 Y13.out LQ.out.1 U5)
 have X14:=hid (show Below w.heap.size w w14 by rw [←hw14];exact Below.st8 X13.out LQ.out.2.2.1 U5);have F_U5:=hid (show NRead w14 (OtB qa qb w14) M2 U5 by rw [←hw14];exact ot_p F_U5.out U5);clear hs14 hw14 Ta13 Tb13 SQ13 X13 Y13 Ta12 Tb12 SQ12 X12 Y12;obtain ⟨⟨f0,f1,f2,f3,f4,f5,f6,f7⟩,g1,lb_,_⟩:=KN.out _ Y14.out
 go_upto_region 13 with (first
  |((with_reducible refine vAf ?hg (.tmp 3) ?ho (w.heap.size+1) ?hx L s1 s2 s3 s4 lb_ ?_);(case hg=>rfl);(case ho=>rfl);(case hx=>rfl))
  |(go_at_call 15;(with_reducible refine (R2.out _ X14.out).mono ?_);rintro e w15 ⟨U6,rfl,hr,hb⟩;have Ta15:=hid (Ta14.out.below hb);have Tb15:=hid (Tb14.out.below hb);have SQ15:=hid (show qa<w15.heap.size∧qb<w15.heap.size from ⟨Nat.lt_of_lt_of_le SQ14.out.1 (Below.size hb),Nat.lt_of_lt_of_le SQ14.out.2 (Below.size hb)⟩);have Y15:=hid (vAa Y14.out hb);have X15:=hid (vAa X14.out hb);have F_U6:=hid (ot_f hr LQ.out.2.2.1 LQ.out.2.2.2 SQ14.out.1 SQ14.out.2);have F_U5:=hid (ot_up F_U5.out hb);have t_:=Tb15.out;have c0:=t_.cell 0 (.slice U4.dv.A U4.dv.n U4.dv.c) rfl;have zc0:=t_.live 0;have c1:=t_.cell 1 (.slice U4.pt.A U4.pt.n U4.pt.c) rfl;have zc1:=t_.live 1;have c2:=t_.cell 2 (.slice U4.lk.A U4.lk.n U4.lk.c) rfl;have zc2:=t_.live 2;have c3:=t_.cell 3 (.slice U4.dm.A U4.dm.n U4.dm.c) rfl;have zc3:=t_.live 3;have c4:=t_.cell 4 (.slice U4.st.A U4.st.n U4.st.c) rfl;have zc4:=t_.live 4;have c5:=t_.cell 5 (.slice U4.fl.A U4.fl.n U4.fl.c) rfl;have zc5:=t_.live 5;have c6:=t_.cell 6 (.slice U4.vr.A U4.vr.n U4.vr.c) rfl;have zc6:=t_.live 6;have c7:=t_.cell 7 (.slice U4.ir.A U4.ir.n U4.ir.c) rfl;have zc7:=t_.live 7;have zlc:=t_.lt;clear t_;clear hr hb))
 clear f0 f1 f2 f3 f4 f5 f6 f7 g1 lb_;clear c0 c1 c2 c3 c4 c5 c6 c7 zc0 zc1 zc2 zc3 zc4 zc5 zc6 zc7 zlc;generalize hw16:World.setCell _ _ _=w16;have hw16:st8 w15 qb U6=w16:=hw16
 have hs16:w16.heap.size=w15.heap.size:=by rw [←hw16];exact vBh _ _ _
 have Tb16:=hid (show TBx w16 qb 31 (vBk U6) by rw [←hw16];exact Tb15.out.st8 U6);have Ta16:=hid (Ta15.out.same (show w16.heap[qa]?=w15.heap[qa]? by rw [←hw16];exact vAx _ _ _ (fun e=>by have:=DQ.out;omega)));have SQ16:=hid (show qa<w16.heap.size∧qb<w16.heap.size by rw [hs16];exact SQ15.out);have Y16:=hid (show Below w1.heap.size w1 w16 by rw [←hw16];exact Below.st8 Y15.out LQ.out.2.1 U6)
 have X16:=hid (show Below w.heap.size w w16 by rw [←hw16];exact Below.st8 X15.out LQ.out.2.2.2 U6);have F_U5:=hid (show NRead w16 (OtB qa qb w16) M2 U5 by rw [←hw16];exact ot_q F_U5.out U6);have F_U6:=hid (show NRead w16 (OtB qa qb w16) M2 U6 by rw [←hw16];exact ot_q F_U6.out U6);clear hs16 hw16 Ta15 Tb15 SQ15 X15 Y15 Ta14 Tb14 SQ14 X14 Y14;obtain ⟨⟨f0,f1,f2,f3,f4,f5,f6,f7⟩,g1,lb_,_⟩:=KN.out _ Y16.out
 clear f0 f1 f2 f3 f4 f5 f6 f7 g1 lb_;have t_:=Ta16.out;have a0:=t_.cell 0 (.slice U5.dv.A U5.dv.n U5.dv.c) rfl;have a1:=t_.cell 1 (.slice U5.pt.A U5.pt.n U5.pt.c) rfl;have a2:=t_.cell 2 (.slice U5.lk.A U5.lk.n U5.lk.c) rfl;have a3:=t_.cell 3 (.slice U5.dm.A U5.dm.n U5.dm.c) rfl;have a4:=t_.cell 4 (.slice U5.st.A U5.st.n U5.st.c) rfl;have a5:=t_.cell 5 (.slice U5.fl.A U5.fl.n U5.fl.c) rfl;have a6:=t_.cell 6 (.slice U5.vr.A U5.vr.n U5.vr.c) rfl;have a7:=t_.cell 7 (.slice U5.ir.A U5.ir.n U5.ir.c) rfl;clear t_
 have t_:=Tb16.out;have b0:=t_.cell 0 (.slice U6.dv.A U6.dv.n U6.dv.c) rfl;have b1:=t_.cell 1 (.slice U6.pt.A U6.pt.n U6.pt.c) rfl;have b2:=t_.cell 2 (.slice U6.lk.A U6.lk.n U6.lk.c) rfl;have b3:=t_.cell 3 (.slice U6.dm.A U6.dm.n U6.dm.c) rfl;have b4:=t_.cell 4 (.slice U6.st.A U6.st.n U6.st.c) rfl;have b5:=t_.cell 5 (.slice U6.fl.A U6.fl.n U6.fl.c) rfl;have b6:=t_.cell 6 (.slice U6.vr.A U6.vr.n U6.vr.c) rfl;have b7:=t_.cell 7 (.slice U6.ir.A U6.ir.n U6.ir.c) rfl;clear t_
 have N_U5:=hid (ot_a F_U5.out);have N_U6:=hid (ot_a F_U6.out);clear F_U5 F_U6
 go_wp2_with (first
  |(go_at_call 11;(with_reducible refine (SM.out M2 U5 U6 _ N_U5.out N_U6.out).mono ?_);rintro e w17 ⟨rfl,hb⟩;have X17:=hid (vAa X16.out hb);clear hb)
  |(go_at_call 8;(with_reducible refine (works19_any _).mono ?_);rintro e w18 ⟨rfl,hb⟩;have X18:=hid (vAa X17.out hb);clear hb))
 go_ret;exact ⟨rfl,X18.out⟩
theorem u32_of_wf {x:Int} (h:(Lit.int .u32 x).wf=true):0≤x∧x<4294967296:=by
 simp [Lit.wf,IntKind.min,IntKind.max,IntKind.signed,IntKind.bits] at h;exact ⟨by omega,by omega⟩
open Go.ChangeShapes Go.WideShapes Go.ChangeAt Go.RowKit
section
variable {H:Type} {enc:TypeId×Value→H} {P:Program} {w:World} {sp:Nat→Bool} {held:Bool}
theorem add_none (b off i:Nat):(⟨b,off,none⟩:Addr).add i=⟨b,off+i,none⟩:=by unfold Addr.add;split<;>simp_all
def numOfC:Option Value→Int
 |some (.int _ z)=>z
 |_=>0
theorem at1 {cs:List Value} {o:Nat} {v:Value} (h:(cs.drop o).take 1=[v]):cs[o]?=some v:=by
 have:=congrArg (·[0]?) h
 simpa [List.getElem?_take,List.getElem?_drop] using this
theorem vHb (s:ByteArray):str s.data.toList=s:=by
 obtain ⟨⟨l⟩⟩:=s
 rfl
theorem vCj:Tryz.prog.cellsOf 3=1:=by kernel_rfl
theorem vCw:Tryz.prog.cellsOf 9=1:=by kernel_rfl
theorem cells_uint64:Tryz.prog.cellsOf 32=1:=by kernel_rfl
theorem vIg:Tryz.prog.cellsOf 33=1:=by kernel_rfl
theorem vId:Tryz.prog.cellsOf 34=1:=by kernel_rfl
theorem cells_uints:Tryz.prog.cellsOf 35=1:=by kernel_rfl
theorem cells_line:Tryz.prog.cellsOf 37=17:=by kernel_rfl
end
open Go.ChangeShapes Go.WideShapes Go.ChangeAt Go.RowKit
section
variable {H:Type} {enc:TypeId×Value→H} {P:Program} {w:World} {sp:Nat→Bool} {held:Bool}
theorem wf_i {z:Int} (h:(Lit.int .i64 z).wf=true):I64 z:=by simp [Lit.wf,IntKind.min,IntKind.max,IntKind.signed,IntKind.bits] at h;exact ⟨by omega,by omega⟩
theorem wf_u {z:Int} (h:(Lit.int .u64 z).wf=true):0≤z∧z<18446744073709551616:=by simp [Lit.wf,IntKind.min,IntKind.max,IntKind.signed,IntKind.bits] at h;exact ⟨by omega,by omega⟩
theorem wf_v {z:Int} (h:(Lit.int .u32 z).wf=true):0≤z∧z<4294967296:=by simp [Lit.wf,IntKind.min,IntKind.max,IntKind.signed,IntKind.bits] at h;exact ⟨by omega,by omega⟩
theorem isl_wf {fuel:Nat} {t e:TypeId} {k:IntKind} {cs:List Value} {x:DataW H×List MemPlace} (ht:P.underlying t=some (.slice e)) (he:P.underlying e=some (.int k)) (hce:P.cellsOf e=1) (h:DataW.trod enc P w 0 sp held fuel t cs=some x):
 ∃(s:SlV) (xs:List Int),cs=[.slice s.A s.n s.c]∧ISl w k s.A s.n s.c xs∧∀x∈xs,(Lit.int k x).wf=true:=by
 rcases Go.Deep.open_slice ht h with ⟨rfl,_⟩|⟨a,len,cap,m,n,D,Pl,rfl,_,hl,hm,hmm,_,hx⟩
 · exact ⟨SlV.nil,[],rfl,ISl.nil,fun x hx=>by cases hx⟩
 · have hlm:len≤m:=by rw [hmm];split<;>omega
   have hcell:∀i,i<len→∃z,w.cell? (a.add i)=some (.int k z)∧(Lit.int k z).wf=true:=fun i hi=>by
    obtain ⟨cs',h1,h2⟩:=hx i (by omega);obtain ⟨z,rfl,_,hwf⟩:=DataW.trod_int he h2;have h3:=(World.cells?_some h1).2.2 0 (by rw [hce];omega);rw [hce,Nat.mul_one] at h3;refine ⟨z,?_,hwf⟩
    have:(a.add i).add 0=a.add i:=by unfold Addr.add;simp
    rw [this] at h3;exact h3
   refine ⟨⟨some a,len,cap⟩,(List.range len).map fun i=>numOfC (w.cell? (a.add i)),rfl,⟨by simp,hl,hm,fun hn=>?_⟩,fun x hx=>?_⟩
   · obtain ⟨b,off,spot⟩:=a
     obtain ⟨z0,hz0,_⟩:=hcell 0 hn
     have hspot:spot=none:=by simpa [Addr.add] using World.cell?_spot hz0
     subst hspot;refine ⟨b,off,rfl,?_,fun i hi=>?_⟩
     · have:=World.block_lt_of_cell? w _ hz0
       rw [add_none] at this;exact this
     · obtain ⟨z,hz,_⟩:=hcell i hi
       have e2:((List.range len).map fun i=>numOfC (w.cell? ((⟨b,off,none⟩:Addr).add i))).getD i 0=z:=by
        rw [List.getD,List.getElem?_map,List.getElem?_range hi]
        show numOfC (w.cell? _)=z
        rw [hz]
        rfl
       rw [e2,←hz,add_none]
   · obtain ⟨i,hi,rfl⟩:=List.mem_map.1 hx
     obtain ⟨z,hz,hwf⟩:=hcell i (List.mem_range.1 hi);rw [hz];exact hwf
theorem line_par {fuel:Nat} {cs:List Value} {x:DataW H×List MemPlace} (h:DataW.trod enc Tryz.prog w 0 sp held fuel 37 cs=some x):
 ∃(L:LV) (s1 s2 s3 s4:SlV),cs=vEl L s1 s2 s3 s4∧LRead w L s1 s2 s3 s4∧LvW L:=by
 obtain ⟨xs,n,_,rfl,hl,hlen,hf⟩:=DataW.trod_struct Tryz.underlying37 h;rw [cells_line] at hl
 have hx:∀i,i<17→∃y,xs[i]?=some y:=fun i hi=>⟨_,List.getElem?_eq_getElem (by rw [hlen];exact hi)⟩
 obtain ⟨y0,g0⟩:=vFj (cs:=cs) 0 (hf 0 _ rfl) (hx 0 (by omega)) vCj;obtain ⟨z0,q0,_,v0⟩:=DataW.trod_int Tryz.underlying3 g0;obtain ⟨y1,g1⟩:=vFj 1 (hf 1 _ rfl) (hx 1 (by omega)) vCj;obtain ⟨z1,q1,_,v1⟩:=DataW.trod_int Tryz.underlying3 g1;obtain ⟨y2,g2⟩:=vFj 2 (hf 2 _ rfl) (hx 2 (by omega)) vCw;obtain ⟨z2,q2,_⟩:=DataW.trod_string Tryz.underlying9 g2;obtain ⟨y3,g3⟩:=vFj 3 (hf 3 _ rfl) (hx 3 (by omega)) vCw
 obtain ⟨z3,q3,_⟩:=DataW.trod_string Tryz.underlying9 g3;obtain ⟨y4,g4⟩:=vFj 4 (hf 4 _ rfl) (hx 4 (by omega)) vCw;obtain ⟨z4,q4,_⟩:=DataW.trod_string Tryz.underlying9 g4;obtain ⟨y5,g5⟩:=vFj 5 (hf 5 _ rfl) (hx 5 (by omega)) vCw;obtain ⟨z5,q5,_⟩:=DataW.trod_string Tryz.underlying9 g5;obtain ⟨y6,g6⟩:=vFj 6 (hf 6 _ rfl) (hx 6 (by omega)) vCw;obtain ⟨z6,q6,_⟩:=DataW.trod_string Tryz.underlying9 g6
 obtain ⟨y7,g7⟩:=vFj 7 (hf 7 _ rfl) (hx 7 (by omega)) cells_uint64;obtain ⟨z7,q7,_,v7⟩:=DataW.trod_int Tryz.underlying32 g7;obtain ⟨y8,g8⟩:=vFj 8 (hf 8 _ rfl) (hx 8 (by omega)) vIg;obtain ⟨z8,q8,_,v8⟩:=DataW.trod_int Tryz.underlying33 g8;obtain ⟨y9,g9⟩:=vFj 9 (hf 9 _ rfl) (hx 9 (by omega)) vCj;obtain ⟨z9,q9,_,v9⟩:=DataW.trod_int Tryz.underlying3 g9;obtain ⟨y10,g10⟩:=vFj 10 (hf 10 _ rfl) (hx 10 (by omega)) vCj
 obtain ⟨z10,q10,_,v10⟩:=DataW.trod_int Tryz.underlying3 g10;obtain ⟨y11,g11⟩:=vFj 11 (hf 11 _ rfl) (hx 11 (by omega)) vCj;obtain ⟨z11,q11,_,v11⟩:=DataW.trod_int Tryz.underlying3 g11;obtain ⟨y12,g12⟩:=vFj 12 (hf 12 _ rfl) (hx 12 (by omega)) vCj;obtain ⟨z12,q12,_,v12⟩:=DataW.trod_int Tryz.underlying3 g12;obtain ⟨y13,g13⟩:=vFj 13 (hf 13 _ rfl) (hx 13 (by omega)) vId;obtain ⟨z13,l13,q13,r13,v13⟩:=isl_wf Tryz.underlying34 Tryz.underlying3 vCj g13
 obtain ⟨y14,g14⟩:=vFj 14 (hf 14 _ rfl) (hx 14 (by omega)) vId;obtain ⟨z14,l14,q14,r14,v14⟩:=isl_wf Tryz.underlying34 Tryz.underlying3 vCj g14;obtain ⟨y15,g15⟩:=vFj 15 (hf 15 _ rfl) (hx 15 (by omega)) vId;obtain ⟨z15,l15,q15,r15,v15⟩:=isl_wf Tryz.underlying34 Tryz.underlying3 vCj g15;obtain ⟨y16,g16⟩:=vFj 16 (hf 16 _ rfl) (hx 16 (by omega)) cells_uints;obtain ⟨z16,l16,q16,r16,v16⟩:=isl_wf Tryz.underlying35 Tryz.underlying33 vIg g16
 refine ⟨⟨z0,z1,z2.data.toList,z3.data.toList,z4.data.toList,z5.data.toList,z6.data.toList,z7,z8,z9,z10,z11,z12,l13,l14,l15,l16⟩,z13,z14,z15,z16,?_,⟨r13,r14,r15,r16⟩,⟨wf_i v0,wf_i v1,wf_u v7,wf_v v8,wf_i v9,wf_i v10,wf_i v11,wf_i v12,fun x hx=>wf_i (v13 x hx),fun x hx=>wf_i (v14 x hx),fun x hx=>wf_i (v15 x hx),fun x hx=>wf_v (v16 x hx)⟩⟩
 apply List.ext_getElem?
 intro i
 match i with
 |0=>rw [at1 q0];rfl
 |1=>rw [at1 q1];rfl
 |2=>rw [at1 q2];show _=some (Value.string (str z2.data.toList));rw [vHb]
 |3=>rw [at1 q3];show _=some (Value.string (str z3.data.toList));rw [vHb]
 |4=>rw [at1 q4];show _=some (Value.string (str z4.data.toList));rw [vHb]
 |5=>rw [at1 q5];show _=some (Value.string (str z5.data.toList));rw [vHb]
 |6=>rw [at1 q6];show _=some (Value.string (str z6.data.toList));rw [vHb]
 |7=>rw [at1 q7];rfl
 |8=>rw [at1 q8];rfl
 |9=>rw [at1 q9];rfl
 |10=>rw [at1 q10];rfl
 |11=>rw [at1 q11];rfl
 |12=>rw [at1 q12];rfl
 |13=>rw [at1 q13];rfl
 |14=>rw [at1 q14];rfl
 |15=>rw [at1 q15];rfl
 |16=>rw [at1 q16];rfl
 |i+17=>rw [List.getElem?_eq_none (by omega)];rfl
end
open Go.ChangeShapes Go.WideShapes Go.ChangeAt Go.RowKit
theorem int_cell {H:Type} {enc:TypeId×Value→H} {P:Program} {w:World} {sp:Nat→Bool} {held:Bool} {fuel:Nat} {t:TypeId} {cs:List Value} {x:DataW H×List MemPlace} {fs:Array Field} {k:IntKind} (ht:P.underlying t=some (.struct fs)) (h:DataW.trod enc P w 0 sp held fuel t cs=some x) (j:Nat) (f:Field) (hf:fs[j]?=some f) (hs:P.underlying f.type=some (.int k)) (hc:P.cellsOf f.type=1)
 (v:Int) (hv:cs[f.offset]?=some (.int k v)):(Lit.int k v).wf=true:=by
 obtain ⟨y,n,hy,_⟩:=vBz ht h j f hf;obtain ⟨z,hc',_,hw⟩:=DataW.trod_int hs hy;rw [hc] at hc';have e:=vAg hc';rw [hv] at e
 injection e with e
 injection e with _ e
 subst e;exact hw
theorem vtep_dev {H:Type} {enc:TypeId×Value→H} {w:World} {sp:Nat→Bool} {held:Bool} {fuel:Nat} {A:Option Addr} {n c:Nat} {x:DataW H×List MemPlace} (h:DataW.trod enc Tryz.prog w 0 sp held fuel 22 [.slice A n c]=some x) (xs:List DevV) (hr:RSl devR w (vAp w) A n c xs) (k:Nat) (hk:k<xs.length):0≤(xs.getD k DevV.zero).vtep:=by
 have hkn:k<n:=by have:=hr.len;omega
 obtain ⟨a,cs,y,m,rfl,h1,h2,h3⟩:=vEe Tryz.underlying22 h k hkn;obtain ⟨b,off,vs,e,_,_,hvs,r0⟩:=vAi hr k hkn DevV.zero;have hvs:vs=vGt (xs.getD k DevV.zero):=hvs;subst hvs
 injection e with e
 subst e;generalize xs.getD k DevV.zero=X at *;rw [vFs] at h1;have d:=r0 4 (.int .u32 X.vtep) rfl;have hc:=(World.cells?_some h1).2.2 4 (by omega);rw [vBu,vBu] at hc;rw [show off+k * devR.n=off+k * 5 from rfl] at d;rw [d] at hc;exact (u32_of_wf (int_cell Tryz.underlying58 h2 4 _ rfl Tryz.underlying33 (by kernel_rfl) X.vtep (by show cs[4]?=_;exact hc.symm))).1
theorem net_vt {H:Type} {enc:TypeId×Value→H} {w:World} {sp:Nat→Bool} {held:Bool} {fuel:Nat} {x:DataW H×List MemPlace} (N:NV) (S:NSl3) (h:DataW.trod enc Tryz.prog w 0 sp held fuel 31 (vBk S)=some x) (hr:NRead w (vAp w) N S):VtOk N:=by
 intro k hk;obtain ⟨y,n,hy,hwy⟩:=vBz Tryz.underlying31 h 0 _ rfl;have hy2:DataW.trod enc Tryz.prog w 0 sp held n 22 (((vBk S).drop 0).take (Tryz.prog.cellsOf 22))=some y:=hy;rw [vGn] at hy2;exact vtep_dev hy2 N.devices hr.dv k hk
end Go.Proofs.YtgmflecelnefcaaGreat
