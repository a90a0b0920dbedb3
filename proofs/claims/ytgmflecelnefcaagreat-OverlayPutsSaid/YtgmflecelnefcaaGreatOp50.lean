import Derived.Test.YtgmflecelnefcaaGreatOp49
import Derived.RegionTactic
set_option maxRecDepth 100000
set_option maxHeartbeats 40000000
namespace Go.Proofs.YtgmflecelnefcaaGreat
open Go.Lib (hid)
open Go.RowKit
theorem rnsame_self (N:NV) (S S2:NSl3) (w:World) (h:NRead w (vAp w) N S) (h2:NRead w (vAp w) N S2):Calls Tryz.prog 11 #[vAm S,vAm S2] w fun e w'=>e=.returned (.bool true)∧Below w.heap.size w w':=by
 have H_pt:=hid h.pt;have G_pt:=hid h2.pt;have LE_pt:=hid h.pt.len;have LF_pt:=hid h2.pt.len;have hle_pt:=h.pt.le;have hcap_pt:=h.pt.cap;have gle_pt:=h2.pt.le;have gcap_pt:=h2.pt.cap;have H_dm:=hid h.dm;have G_dm:=hid h2.dm;have LE_dm:=hid h.dm.len;have LF_dm:=hid h2.dm.len;have hle_dm:=h.dm.le;have hcap_dm:=h.dm.cap;have gle_dm:=h2.dm.le;have gcap_dm:=h2.dm.cap;have H_fl:=hid h.fl
 have G_fl:=hid h2.fl;have LE_fl:=hid h.fl.len;have LF_fl:=hid h2.fl.len;have hle_fl:=h.fl.le;have hcap_fl:=h.fl.cap;have gle_fl:=h2.fl.le;have gcap_fl:=h2.fl.cap;have H_vr:=hid h.vr;have G_vr:=hid h2.vr;have LE_vr:=hid h.vr.len;have LF_vr:=hid h2.vr.len;have hle_vr:=h.vr.le;have hcap_vr:=h.vr.cap;have gle_vr:=h2.vr.le;have gcap_vr:=h2.vr.cap;have NB:=hid ((NBox.new w S 31).below ((Below.refl _ _).alloc (Nat.le_refl _) (.cells (nA S2) 31)))
 have NC:=hid (NBox.new (w.alloc (.cells (nA S) 31)) S2 31);have B0:=hid (vAj w (.cells (nA S) 31) (.cells (nA S2) 31))
 have TP:=fun (w':World) (hb:Below w.heap.size w w')=>tops_any N N S S2 w' (h.up hb) (h2.up hb)
 rw [(topB_iff N N).2 (tops_of rfl)] at TP;unfold vAm at TP ⊢;have TP:=hid TP;clear h h2
 go_enter Tryz.func11,Tryz.ntmps11
 go_upto_region 1 with fail
 obtain ⟨w1,hw1⟩:∃w1,(w.alloc (.cells (nA S) 31)).alloc (.cells (nA S2) 31)=w1:=⟨_,rfl⟩
 have hz:(w.alloc (.cells (nA S) 31)).heap.size=w.heap.size+1:=by simp
 rw [hz] at NC;rw [hw1] at NB NC B0 ⊢;clear hw1 hz
 have KN:=hid (show ∀wx,Below w1.heap.size w1 wx→(NF wx w.heap.size S)∧(NF wx (w.heap.size+1) S2)∧Below w.heap.size w wx from fun wx hx=>by
  have nb:=NB.out.below hx;have nc:=NC.out.below hx
  exact ⟨⟨nb.c0,nb.c1,nb.c2,nb.c3,nb.c4,nb.c5,nb.c6,nb.c7⟩,⟨nc.c0,nc.c1,nc.c2,nc.c3,nc.c4,nc.c5,nc.c6,nc.c7⟩,B0.out.trans (hx.mono B0.out.size)⟩)
 have NL:=hid (show w.heap.size<w1.heap.size∧w.heap.size+1<w1.heap.size from ⟨NB.out.lt,NC.out.lt⟩);obtain ⟨⟨f0,f1,f2,f3,f4,f5,f6,f7⟩,⟨m0,m1,m2,m3,m4,m5,m6,m7⟩,_⟩:=KN.out w1 (Below.refl _ _);have BT:=hid (Below.refl w1.heap.size w1)
 have c_pt:S.pt.n=S2.pt.n:=by rw [←LE_pt.out,←LF_pt.out]
 have z_pt:((S.pt.n:Int) != (S2.pt.n:Int))=false:=by simp;omega
 have EQ_pt:=hid c_pt;clear c_pt
 have c_dm:S.dm.n=S2.dm.n:=by rw [←LE_dm.out,←LF_dm.out]
 have z_dm:((S.dm.n:Int) != (S2.dm.n:Int))=false:=by simp;omega
 have EQ_dm:=hid c_dm;clear c_dm
 have c_fl:S.fl.n=S2.fl.n:=by rw [←LE_fl.out,←LF_fl.out]
 have z_fl:((S.fl.n:Int) != (S2.fl.n:Int))=false:=by simp;omega
 have EQ_fl:=hid c_fl;clear c_fl
 have c_vr:S.vr.n=S2.vr.n:=by rw [←LE_vr.out,←LF_vr.out]
 have z_vr:((S.vr.n:Int) != (S2.vr.n:Int))=false:=by simp;omega
 have EQ_vr:=hid c_vr;clear c_vr
 go_upto_block 0 with (go_at_call 33;(with_reducible refine (TP.out _ B0.out).mono ?_);rintro e w2_ ⟨rfl,b2_⟩;have Y1:=hid b2_;obtain ⟨⟨f0,f1,f2,f3,f4,f5,f6,f7⟩,⟨m0,m1,m2,m3,m4,m5,m6,m7⟩,hB⟩:=KN.out w2_ b2_;have X1:=hid hB;clear hB b2_)
 clear f0 f1 f2 f3 f4 f5 f6 f7 m0 m1 m2 m3 m4 m5 m6 m7 TP BT
 go_cut [] (fun wx=>Below w1.heap.size w1 wx)
 case first=>
  obtain ⟨⟨f0,f1,f2,f3,f4,f5,f6,f7⟩,⟨m0,m1,m2,m3,m4,m5,m6,m7⟩,_⟩:=KN.out _ Y1.out;go_wp2_with fail;clear f0 f1 f2 f3 f4 f5 f6 f7 m0 m1 m2 m3 m4 m5 m6 m7
  go_loopw [5] (fun i wr=>∃k:Nat,i=.int .i64 k∧k≤S.pt.n∧Below w1.heap.size w1 wr) (fun i _=>match i with| .int _ y=>(S.pt.n - y).toNat|_=>0)
  case atStart=>exact ⟨0,rfl,by omega,Y1.out⟩
  case round=>
  obtain ⟨k,rfl,hk,hb⟩:=hrel;have W:=hid hb;have W0:=hid (B0.out.trans (hb.mono B0.out.size));clear hb;obtain ⟨⟨f0,f1,f2,f3,f4,f5,f6,f7⟩,⟨m0,m1,m2,m3,m4,m5,m6,m7⟩,_⟩:=KN.out wr W.out;have n_:=f1;have m_:=m1;have nl1:w.heap.size<wr.heap.size:=Nat.lt_of_lt_of_le NL.out.1 W.out.size;have nl2:w.heap.size+1<wr.heap.size:=Nat.lt_of_lt_of_le NL.out.2 W.out.size;clear f0 f1 f2 f3 f4 f5 f6 f7 m0 m1 m2 m3 m4 m5 m6 m7
  by_cases hlt:k<S.pt.n
  rotate_left
  · have lt2:¬(k:Int)<(S.pt.n:Int):=by omega
    go_wp2
    go_meet
    exact W.out
  obtain ⟨b0,o0,vs,e0,_,hb0,⟨s,rfl,l0⟩,r0⟩:=vAi H_pt.out k hlt PortV.zero;obtain ⟨b1,o1,us,e1,_,hb1,⟨t,rfl,k0⟩,r1⟩:=vAi G_pt.out k (by have:=EQ_pt.out;omega) PortV.zero;obtain ⟨X,hX⟩:∃X,N.ports.getD k PortV.zero=X:=⟨_,rfl⟩;rw [hX] at r0 l0;rw [hX] at r1 k0;have R0:=vAb r0 (W0.out.block b0 hb0);have R1:=vAb r1 (W0.out.block b1 hb1);have d0:=R0 0 _ rfl;have e0_:=R1 0 _ rfl;have d1:=R0 1 _ rfl
  have e1_:=R1 1 _ rfl;have d2:=R0 2 _ rfl;have e2_:=R1 2 _ rfl;have d3:=R0 3 _ rfl;have e3_:=R1 3 _ rfl;have d4:=R0 4 _ rfl;have e4_:=R1 4 _ rfl;have d5:=R0 5 _ rfl;have e5_:=R1 5 _ rfl;have d6:=R0 6 _ rfl;have e6_:=R1 6 _ rfl;simp only [Nat.add_zero] at d0 e0_;rw [show o0+k * portR.n=o0+k * 7 from rfl] at d0 d1 d2 d3 d4 d5 d6;rw [show o1+k * portR.n=o1+k * 7 from rfl] at e0_ e1_ e2_ e3_ e4_ e5_ e6_
  have lt2:(k:Int)<(S.pt.n:Int):=by omega
  have lt3:(k:Int)<(S2.pt.n:Int):=by have:=EQ_pt.out;omega
  have zb0:b0<wr.heap.size:=Nat.lt_of_lt_of_le hb0 W0.out.size;have zb1:b1<wr.heap.size:=Nat.lt_of_lt_of_le hb1 W0.out.size;rw [e0] at n_;rw [e1] at m_;clear r0 r1 R0 R1 hX e0 e1
  go_upto_region 6 with fail
  go_cut [6,7] (fun p q wx=>∃b6 b7,p=.pointer (some ⟨b6,0,none⟩)∧q=.pointer (some ⟨b7,0,none⟩)∧(wx.cell? ⟨b6,0,none⟩=some (.int .i64 X.row)∧wx.cell? ⟨b6,1,none⟩=some (.int .i64 X.dev)∧wx.cell? ⟨b6,2,none⟩=some (.int .i64 X.native)∧wx.cell? ⟨b6,3,none⟩=some (.int .i64 X.cost)∧wx.cell? ⟨b6,4,none⟩=some (.int .i64 X.link)∧wx.cell? ⟨b6,5,none⟩=some (.string (str X.name))∧wx.cell? ⟨b6,6,none⟩=some (.slice s.A s.n s.c))∧(wx.cell? ⟨b7,0,none⟩=some (.int .i64 X.row)∧wx.cell? ⟨b7,1,none⟩=some (.int .i64 X.dev)∧wx.cell? ⟨b7,2,none⟩=some (.int .i64 X.native)∧wx.cell? ⟨b7,3,none⟩=some (.int .i64 X.cost)∧wx.cell? ⟨b7,4,none⟩=some (.int .i64 X.link)∧wx.cell? ⟨b7,5,none⟩=some (.string (str X.name))∧wx.cell? ⟨b7,6,none⟩=some (.slice t.A t.n t.c))∧b6<wx.heap.size∧b7<wx.heap.size∧Below wr.heap.size wr wx)
  case first=>
   go_region
   all_goals (try go_wp2)
   all_goals go_meet
   all_goals (refine ⟨_,_,rfl,rfl,?_,?_,?_,?_,?_⟩)
   all_goals first
    |exact (((Below.refl _ _).alloc (Nat.le_refl _) _).alloc (by simp) _).drew
    |exact ((Below.refl _ _).alloc (Nat.le_refl _) _).alloc (by simp) _
    |(simp;done)
    |(simp;omega)
  case rest=>
  obtain ⟨b6,b7,rfl,rfl,⟨g0,g1,g2,g3,g4,g5,g6⟩,⟨h0,h1,h2,h3,h4,h5,h6⟩,zb6,zb7,hbw⟩:=hcut;rename World=>w5;have Y5:=hid hbw;have X5:=hid (W0.out.trans (hbw.mono W0.out.size));have C5:=hid (W.out.trans (hbw.mono W.out.size));clear hbw n_ m_ d0 d1 d2 d3 d4 d5 d6 e0_ e1_ e2_ e3_ e4_ e5_ e6_ zb0 zb1 nl1 nl2;have I0:=hid (fun (w':World) (hb:Below w.heap.size w w')=>vFv s.A s.n s.c X.tagged t.A t.n t.c X.tagged w' (vAu (l0.below (fun _ h=>h) hb)) (vAu (k0.below (fun _ h=>h) hb)) true (by simp))
  clear l0 k0
  have y0:(X.row != X.row)=false:=by simp
  have yy0:(X.row == X.row)=true:=by simp
  have y1:(X.dev != X.dev)=false:=by simp
  have yy1:(X.dev == X.dev)=true:=by simp
  have y2:(X.native != X.native)=false:=by simp
  have yy2:(X.native == X.native)=true:=by simp
  have y3:(X.cost != X.cost)=false:=by simp
  have yy3:(X.cost == X.cost)=true:=by simp
  have y4:(X.link != X.link)=false:=by simp
  have yy4:(X.link == X.link)=true:=by simp
  have y5:(X.name != X.name)=false:=by simp
  have yy5:(X.name == X.name)=true:=by simp
  go_wp2_with (first
   |(go_at_call 34;(with_reducible refine (I0.out _ X5.out).mono ?_);rintro e w6 ⟨rfl,b_⟩;have X5:=hid (vAa X5.out b_);have C5:=hid (C5.out.trans (b_.mono C5.out.size));clear b_))
  go_roundw
  case rel=>exact ⟨k+1,by simp,by omega,C5.out⟩
  case measure=>simp only [];omega
 case rest=>
 have hbw:=hcut;clear hcut;rename World=>wB;have YB:=hid hbw;clear hbw
 go_upto_block 2 with fail
 go_cut [] (fun wx=>Below w1.heap.size w1 wx)
 case first=>
  obtain ⟨⟨f0,f1,f2,f3,f4,f5,f6,f7⟩,⟨m0,m1,m2,m3,m4,m5,m6,m7⟩,_⟩:=KN.out _ YB.out;go_wp2_with fail;clear f0 f1 f2 f3 f4 f5 f6 f7 m0 m1 m2 m3 m4 m5 m6 m7
  go_loopw [8] (fun i wr=>∃k:Nat,i=.int .i64 k∧k≤S.dm.n∧Below w1.heap.size w1 wr) (fun i _=>match i with| .int _ y=>(S.dm.n - y).toNat|_=>0)
  case atStart=>exact ⟨0,rfl,by omega,YB.out⟩
  case round=>
  obtain ⟨k,rfl,hk,hb⟩:=hrel;have W:=hid hb;have W0:=hid (B0.out.trans (hb.mono B0.out.size));clear hb;obtain ⟨⟨f0,f1,f2,f3,f4,f5,f6,f7⟩,⟨m0,m1,m2,m3,m4,m5,m6,m7⟩,_⟩:=KN.out wr W.out;have n_:=f3;have m_:=m3;have nl1:w.heap.size<wr.heap.size:=Nat.lt_of_lt_of_le NL.out.1 W.out.size;have nl2:w.heap.size+1<wr.heap.size:=Nat.lt_of_lt_of_le NL.out.2 W.out.size;clear f0 f1 f2 f3 f4 f5 f6 f7 m0 m1 m2 m3 m4 m5 m6 m7
  by_cases hlt:k<S.dm.n
  rotate_left
  · have lt2:¬(k:Int)<(S.dm.n:Int):=by omega
    go_wp2
    go_meet
    exact W.out
  obtain ⟨b0,o0,vs,e0,_,hb0,⟨s,rfl,l0⟩,r0⟩:=vAi H_dm.out k hlt DomV.zero;obtain ⟨b1,o1,us,e1,_,hb1,⟨t,rfl,k0⟩,r1⟩:=vAi G_dm.out k (by have:=EQ_dm.out;omega) DomV.zero;obtain ⟨X,hX⟩:∃X,N.domains.getD k DomV.zero=X:=⟨_,rfl⟩;rw [hX] at r0 l0;rw [hX] at r1 k0;have R0:=vAb r0 (W0.out.block b0 hb0);have R1:=vAb r1 (W0.out.block b1 hb1);have d0:=R0 0 _ rfl;have e0_:=R1 0 _ rfl;have d1:=R0 1 _ rfl
  have e1_:=R1 1 _ rfl;have d2:=R0 2 _ rfl;have e2_:=R1 2 _ rfl;have d3:=R0 3 _ rfl;have e3_:=R1 3 _ rfl;have d4:=R0 4 _ rfl;have e4_:=R1 4 _ rfl;have d5:=R0 5 _ rfl;have e5_:=R1 5 _ rfl;simp only [Nat.add_zero] at d0 e0_;rw [show o0+k * domR.n=o0+k * 6 from rfl] at d0 d1 d2 d3 d4 d5;rw [show o1+k * domR.n=o1+k * 6 from rfl] at e0_ e1_ e2_ e3_ e4_ e5_
  have lt2:(k:Int)<(S.dm.n:Int):=by omega
  have lt3:(k:Int)<(S2.dm.n:Int):=by have:=EQ_dm.out;omega
  have zb0:b0<wr.heap.size:=Nat.lt_of_lt_of_le hb0 W0.out.size;have zb1:b1<wr.heap.size:=Nat.lt_of_lt_of_le hb1 W0.out.size;rw [e0] at n_;rw [e1] at m_;clear r0 r1 R0 R1 hX e0 e1
  go_upto_region 12 with fail
  go_cut [9,10] (fun p q wx=>∃b6 b7,p=.pointer (some ⟨b6,0,none⟩)∧q=.pointer (some ⟨b7,0,none⟩)∧(wx.cell? ⟨b6,0,none⟩=some (.int .i64 X.dev)∧wx.cell? ⟨b6,1,none⟩=some (.int .i64 X.vlan)∧wx.cell? ⟨b6,2,none⟩=some (.int .i64 X.vni)∧wx.cell? ⟨b6,3,none⟩=some (.int .i64 X.irb)∧wx.cell? ⟨b6,4,none⟩=some (.int .i64 X.row)∧wx.cell? ⟨b6,5,none⟩=some (.slice s.A s.n s.c))∧(wx.cell? ⟨b7,0,none⟩=some (.int .i64 X.dev)∧wx.cell? ⟨b7,1,none⟩=some (.int .i64 X.vlan)∧wx.cell? ⟨b7,2,none⟩=some (.int .i64 X.vni)∧wx.cell? ⟨b7,3,none⟩=some (.int .i64 X.irb)∧wx.cell? ⟨b7,4,none⟩=some (.int .i64 X.row)∧wx.cell? ⟨b7,5,none⟩=some (.slice t.A t.n t.c))∧b6<wx.heap.size∧b7<wx.heap.size∧Below wr.heap.size wr wx)
  case first=>
   go_region
   all_goals (try go_wp2)
   all_goals go_meet
   all_goals (refine ⟨_,_,rfl,rfl,?_,?_,?_,?_,?_⟩)
   all_goals first
    |exact (((Below.refl _ _).alloc (Nat.le_refl _) _).alloc (by simp) _).drew
    |exact ((Below.refl _ _).alloc (Nat.le_refl _) _).alloc (by simp) _
    |(simp;done)
    |(simp;omega)
  case rest=>
  obtain ⟨b6,b7,rfl,rfl,⟨g0,g1,g2,g3,g4,g5⟩,⟨h0,h1,h2,h3,h4,h5⟩,zb6,zb7,hbw⟩:=hcut;rename World=>w5;have Y5:=hid hbw;have X5:=hid (W0.out.trans (hbw.mono W0.out.size));have C5:=hid (W.out.trans (hbw.mono W.out.size));clear hbw n_ m_ d0 d1 d2 d3 d4 d5 e0_ e1_ e2_ e3_ e4_ e5_ zb0 zb1 nl1 nl2;have I0:=hid (fun (w':World) (hb:Below w.heap.size w w')=>vFv s.A s.n s.c X.peers t.A t.n t.c X.peers w' (vAu (l0.below (fun _ h=>h) hb)) (vAu (k0.below (fun _ h=>h) hb)) true (by simp))
  clear l0 k0
  have y0:(X.dev != X.dev)=false:=by simp
  have yy0:(X.dev == X.dev)=true:=by simp
  have y1:(X.vlan != X.vlan)=false:=by simp
  have yy1:(X.vlan == X.vlan)=true:=by simp
  have y2:(X.vni != X.vni)=false:=by simp
  have yy2:(X.vni == X.vni)=true:=by simp
  have y3:(X.irb != X.irb)=false:=by simp
  have yy3:(X.irb == X.irb)=true:=by simp
  have y4:(X.row != X.row)=false:=by simp
  have yy4:(X.row == X.row)=true:=by simp
  go_wp2_with (first
   |(go_at_call 34;(with_reducible refine (I0.out _ X5.out).mono ?_);rintro e w6 ⟨rfl,b_⟩;have X5:=hid (vAa X5.out b_);have C5:=hid (C5.out.trans (b_.mono C5.out.size));clear b_))
  go_roundw
  case rel=>exact ⟨k+1,by simp,by omega,C5.out⟩
  case measure=>simp only [];omega
 case rest=>
 have hbw:=hcut;clear hcut;rename World=>wB;have YB:=hid hbw;clear hbw
 go_upto_block 4 with fail
 go_cut [] (fun wx=>Below w1.heap.size w1 wx)
 case first=>
  obtain ⟨⟨f0,f1,f2,f3,f4,f5,f6,f7⟩,⟨m0,m1,m2,m3,m4,m5,m6,m7⟩,_⟩:=KN.out _ YB.out;go_wp2_with fail;clear f0 f1 f2 f3 f4 f5 f6 f7 m0 m1 m2 m3 m4 m5 m6 m7
  go_loopw [11] (fun i wr=>∃k:Nat,i=.int .i64 k∧k≤S.fl.n∧Below w1.heap.size w1 wr) (fun i _=>match i with| .int _ y=>(S.fl.n - y).toNat|_=>0)
  case atStart=>exact ⟨0,rfl,by omega,YB.out⟩
  case round=>
  obtain ⟨k,rfl,hk,hb⟩:=hrel;have W:=hid hb;have W0:=hid (B0.out.trans (hb.mono B0.out.size));clear hb;obtain ⟨⟨f0,f1,f2,f3,f4,f5,f6,f7⟩,⟨m0,m1,m2,m3,m4,m5,m6,m7⟩,_⟩:=KN.out wr W.out;have n_:=f5;have m_:=m5;have nl1:w.heap.size<wr.heap.size:=Nat.lt_of_lt_of_le NL.out.1 W.out.size;have nl2:w.heap.size+1<wr.heap.size:=Nat.lt_of_lt_of_le NL.out.2 W.out.size;clear f0 f1 f2 f3 f4 f5 f6 f7 m0 m1 m2 m3 m4 m5 m6 m7
  by_cases hlt:k<S.fl.n
  rotate_left
  · have lt2:¬(k:Int)<(S.fl.n:Int):=by omega
    go_wp2
    go_meet
    exact W.out
  obtain ⟨b0,o0,vs,e0,_,hb0,⟨s,rfl,l0⟩,r0⟩:=vAi H_fl.out k hlt FloodV.zero;obtain ⟨b1,o1,us,e1,_,hb1,⟨t,rfl,k0⟩,r1⟩:=vAi G_fl.out k (by have:=EQ_fl.out;omega) FloodV.zero;obtain ⟨X,hX⟩:∃X,N.floods.getD k FloodV.zero=X:=⟨_,rfl⟩;rw [hX] at r0 l0;rw [hX] at r1 k0;have R0:=vAb r0 (W0.out.block b0 hb0);have R1:=vAb r1 (W0.out.block b1 hb1);have d0:=R0 0 _ rfl;have e0_:=R1 0 _ rfl
  have d1:=R0 1 _ rfl;have e1_:=R1 1 _ rfl;have d2:=R0 2 _ rfl;have e2_:=R1 2 _ rfl;have d3:=R0 3 _ rfl;have e3_:=R1 3 _ rfl;simp only [Nat.add_zero] at d0 e0_;rw [show o0+k * floodR.n=o0+k * 4 from rfl] at d0 d1 d2 d3;rw [show o1+k * floodR.n=o1+k * 4 from rfl] at e0_ e1_ e2_ e3_
  have lt2:(k:Int)<(S.fl.n:Int):=by omega
  have lt3:(k:Int)<(S2.fl.n:Int):=by have:=EQ_fl.out;omega
  have zb0:b0<wr.heap.size:=Nat.lt_of_lt_of_le hb0 W0.out.size;have zb1:b1<wr.heap.size:=Nat.lt_of_lt_of_le hb1 W0.out.size;rw [e0] at n_;rw [e1] at m_;clear r0 r1 R0 R1 hX e0 e1
  go_upto_region 18 with fail
  go_cut [12,13] (fun p q wx=>∃b6 b7,p=.pointer (some ⟨b6,0,none⟩)∧q=.pointer (some ⟨b7,0,none⟩)∧(wx.cell? ⟨b6,0,none⟩=some (.int .i64 X.row)∧wx.cell? ⟨b6,1,none⟩=some (.int .i64 X.dev)∧wx.cell? ⟨b6,2,none⟩=some (.int .i64 X.vni)∧wx.cell? ⟨b6,3,none⟩=some (.slice s.A s.n s.c))∧(wx.cell? ⟨b7,0,none⟩=some (.int .i64 X.row)∧wx.cell? ⟨b7,1,none⟩=some (.int .i64 X.dev)∧wx.cell? ⟨b7,2,none⟩=some (.int .i64 X.vni)∧wx.cell? ⟨b7,3,none⟩=some (.slice t.A t.n t.c))∧b6<wx.heap.size∧b7<wx.heap.size∧Below wr.heap.size wr wx)
  case first=>
   go_region
   all_goals (try go_wp2)
   all_goals go_meet
   all_goals (refine ⟨_,_,rfl,rfl,?_,?_,?_,?_,?_⟩)
   all_goals first
    |exact (((Below.refl _ _).alloc (Nat.le_refl _) _).alloc (by simp) _).drew
    |exact ((Below.refl _ _).alloc (Nat.le_refl _) _).alloc (by simp) _
    |(simp;done)
    |(simp;omega)
  case rest=>
  obtain ⟨b6,b7,rfl,rfl,⟨g0,g1,g2,g3⟩,⟨h0,h1,h2,h3⟩,zb6,zb7,hbw⟩:=hcut;rename World=>w5;have Y5:=hid hbw;have X5:=hid (W0.out.trans (hbw.mono W0.out.size));have C5:=hid (W.out.trans (hbw.mono W.out.size));clear hbw n_ m_ d0 d1 d2 d3 e0_ e1_ e2_ e3_ zb0 zb1 nl1 nl2;have I0:=hid (fun (w':World) (hb:Below w.heap.size w w')=>raddrs2_any s.A s.n s.c X.addrs t.A t.n t.c X.addrs w' (vAu (l0.below (fun _ h=>h) hb)) (vAu (k0.below (fun _ h=>h) hb)) true (by simp))
  clear l0 k0
  have y0:(X.row != X.row)=false:=by simp
  have yy0:(X.row == X.row)=true:=by simp
  have y1:(X.dev != X.dev)=false:=by simp
  have yy1:(X.dev == X.dev)=true:=by simp
  have y2:(X.vni != X.vni)=false:=by simp
  have yy2:(X.vni == X.vni)=true:=by simp
  go_wp2_with (first
   |(go_at_call 35;(with_reducible refine (I0.out _ X5.out).mono ?_);rintro e w6 ⟨rfl,b_⟩;have X5:=hid (vAa X5.out b_);have C5:=hid (C5.out.trans (b_.mono C5.out.size));clear b_))
  go_roundw
  case rel=>exact ⟨k+1,by simp,by omega,C5.out⟩
  case measure=>simp only [];omega
 case rest=>
 have hbw:=hcut;clear hcut;rename World=>wB;have YB:=hid hbw;clear hbw
 go_upto_block 6 with fail
 go_cut [] (fun wx=>Below w1.heap.size w1 wx)
 case first=>
  obtain ⟨⟨f0,f1,f2,f3,f4,f5,f6,f7⟩,⟨m0,m1,m2,m3,m4,m5,m6,m7⟩,_⟩:=KN.out _ YB.out;go_wp2_with fail;clear f0 f1 f2 f3 f4 f5 f6 f7 m0 m1 m2 m3 m4 m5 m6 m7
  go_loopw [14] (fun i wr=>∃k:Nat,i=.int .i64 k∧k≤S.vr.n∧Below w1.heap.size w1 wr) (fun i _=>match i with| .int _ y=>(S.vr.n - y).toNat|_=>0)
  case atStart=>exact ⟨0,rfl,by omega,YB.out⟩
  case round=>
  obtain ⟨k,rfl,hk,hb⟩:=hrel;have W:=hid hb;have W0:=hid (B0.out.trans (hb.mono B0.out.size));clear hb;obtain ⟨⟨f0,f1,f2,f3,f4,f5,f6,f7⟩,⟨m0,m1,m2,m3,m4,m5,m6,m7⟩,_⟩:=KN.out wr W.out;have n_:=f6;have m_:=m6;have nl1:w.heap.size<wr.heap.size:=Nat.lt_of_lt_of_le NL.out.1 W.out.size;have nl2:w.heap.size+1<wr.heap.size:=Nat.lt_of_lt_of_le NL.out.2 W.out.size;clear f0 f1 f2 f3 f4 f5 f6 f7 m0 m1 m2 m3 m4 m5 m6 m7
  by_cases hlt:k<S.vr.n
  rotate_left
  · have lt2:¬(k:Int)<(S.vr.n:Int):=by omega
    go_wp2
    go_meet
    exact W.out
  obtain ⟨b0,o0,vs,e0,_,hb0,⟨s,s',rfl,l0,l1⟩,r0⟩:=vAi H_vr.out k hlt VrfV.zero;obtain ⟨b1,o1,us,e1,_,hb1,⟨t,t',rfl,k0,k1⟩,r1⟩:=vAi G_vr.out k (by have:=EQ_vr.out;omega) VrfV.zero;obtain ⟨X,hX⟩:∃X,N.vrfs.getD k VrfV.zero=X:=⟨_,rfl⟩;rw [hX] at r0 l0 l1;rw [hX] at r1 k0 k1;have R0:=vAb r0 (W0.out.block b0 hb0);have R1:=vAb r1 (W0.out.block b1 hb1);have d0:=R0 0 _ rfl;have e0_:=R1 0 _ rfl
  have d1:=R0 1 _ rfl;have e1_:=R1 1 _ rfl;have d2:=R0 2 _ rfl;have e2_:=R1 2 _ rfl;have d3:=R0 3 _ rfl;have e3_:=R1 3 _ rfl;have d4:=R0 4 _ rfl;have e4_:=R1 4 _ rfl;simp only [Nat.add_zero] at d0 e0_;rw [show o0+k * vrfR.n=o0+k * 5 from rfl] at d0 d1 d2 d3 d4;rw [show o1+k * vrfR.n=o1+k * 5 from rfl] at e0_ e1_ e2_ e3_ e4_
  have lt2:(k:Int)<(S.vr.n:Int):=by omega
  have lt3:(k:Int)<(S2.vr.n:Int):=by have:=EQ_vr.out;omega
  have zb0:b0<wr.heap.size:=Nat.lt_of_lt_of_le hb0 W0.out.size;have zb1:b1<wr.heap.size:=Nat.lt_of_lt_of_le hb1 W0.out.size;rw [e0] at n_;rw [e1] at m_;clear r0 r1 R0 R1 hX e0 e1
  go_upto_region 24 with fail
  go_cut [15,16] (fun p q wx=>∃b6 b7,p=.pointer (some ⟨b6,0,none⟩)∧q=.pointer (some ⟨b7,0,none⟩)∧(wx.cell? ⟨b6,0,none⟩=some (.int .i64 X.row)∧wx.cell? ⟨b6,1,none⟩=some (.int .i64 X.dev)∧wx.cell? ⟨b6,2,none⟩=some (.string (str X.name))∧wx.cell? ⟨b6,3,none⟩=some (.slice s.A s.n s.c)∧wx.cell? ⟨b6,4,none⟩=some (.slice s'.A s'.n s'.c))∧(wx.cell? ⟨b7,0,none⟩=some (.int .i64 X.row)∧wx.cell? ⟨b7,1,none⟩=some (.int .i64 X.dev)∧wx.cell? ⟨b7,2,none⟩=some (.string (str X.name))∧wx.cell? ⟨b7,3,none⟩=some (.slice t.A t.n t.c)∧wx.cell? ⟨b7,4,none⟩=some (.slice t'.A t'.n t'.c))∧b6<wx.heap.size∧b7<wx.heap.size∧Below wr.heap.size wr wx)
  case first=>
   go_region
   all_goals (try go_wp2)
   all_goals go_meet
   all_goals (refine ⟨_,_,rfl,rfl,?_,?_,?_,?_,?_⟩)
   all_goals first
    |exact (((Below.refl _ _).alloc (Nat.le_refl _) _).alloc (by simp) _).drew
    |exact ((Below.refl _ _).alloc (Nat.le_refl _) _).alloc (by simp) _
    |(simp;done)
    |(simp;omega)
  case rest=>
  obtain ⟨b6,b7,rfl,rfl,⟨g0,g1,g2,g3,g4⟩,⟨h0,h1,h2,h3,h4⟩,zb6,zb7,hbw⟩:=hcut;rename World=>w5;have Y5:=hid hbw;have X5:=hid (W0.out.trans (hbw.mono W0.out.size));have C5:=hid (W.out.trans (hbw.mono W.out.size));clear hbw n_ m_ d0 d1 d2 d3 d4 e0_ e1_ e2_ e3_ e4_ zb0 zb1 nl1 nl2;have I0:=hid (fun (w':World) (hb:Below w.heap.size w w')=>vFv s.A s.n s.c X.imports t.A t.n t.c X.imports w' (vAu (l0.below (fun _ h=>h) hb)) (vAu (k0.below (fun _ h=>h) hb)) true (by simp))
  have I1:=hid (fun (w':World) (hb:Below w.heap.size w w')=>vFv s'.A s'.n s'.c X.exports t'.A t'.n t'.c X.exports w' (vAu (l1.below (fun _ h=>h) hb)) (vAu (k1.below (fun _ h=>h) hb)) true (by simp));clear l0 l1 k0 k1
  have y0:(X.row != X.row)=false:=by simp
  have yy0:(X.row == X.row)=true:=by simp
  have y1:(X.dev != X.dev)=false:=by simp
  have yy1:(X.dev == X.dev)=true:=by simp
  have y2:(X.name != X.name)=false:=by simp
  have yy2:(X.name == X.name)=true:=by simp
  go_wp2_with (first
   |(go_at_call 34;(with_reducible refine (I0.out _ X5.out).mono ?_);rintro e w6 ⟨rfl,b_⟩;have g4:=(b_.cell (p:=⟨b6,4,none⟩) zb6).trans g4;have h4:=(b_.cell (p:=⟨b7,4,none⟩) zb7).trans h4;have X5:=hid (vAa X5.out b_);have C5:=hid (C5.out.trans (b_.mono C5.out.size));clear b_)
   |(go_at_call 34;(with_reducible refine (I1.out _ X5.out).mono ?_);rintro e w6 ⟨rfl,b_⟩;have X5:=hid (vAa X5.out b_);have C5:=hid (C5.out.trans (b_.mono C5.out.size));clear b_))
  go_roundw
  case rel=>exact ⟨k+1,by simp,by omega,C5.out⟩
  case measure=>simp only [];omega
 case rest=>
 have hbw:=hcut;clear hcut;rename World=>wB;have YB:=hid hbw;clear hbw;have XB:=hid (B0.out.trans (YB.out.mono B0.out.size));go_wp2;go_ret;exact ⟨rfl,XB.out⟩
end Go.Proofs.YtgmflecelnefcaaGreat
