import Derived.Test.YtkpbbfehglihlaaGreatDoorDs46
import Derived.Test.YtkpbbfehglihlaaGreatDoorDs44
import Derived.Test.YtkpbbfehglihlaaGreatDoorDs43
import Derived.Test.YtkpbbfehglihlaaGreatDoorDs33
import Derived.Test.YtkpbbfehglihlaaGreatDoorDs24
import Derived.RegionTactic
import Derived.ProofKit
import Derived.Deep.Slices
import Derived.Test.YtkpbbfehglihlaaGreatDoorDs01
import Derived.Test.YtkpbbfehglihlaaGreatDoorDs39
import Derived.LaidMore
import Derived.OpenShut
import Derived.Stop.Joined
import Derived.Stop.LaidErr
import Derived.Lib.LaidTab
import Derived.Lib.ItoaNum
import Derived.Lib.SmallJoins
import Derived.ShutString
import Derived.ChangeOld
import Derived.Below
import Derived.Test.YtkpbbfehglihlaaGreatDoorRows
set_option maxRecDepth 100000
set_option maxHeartbeats 40000000
namespace Go.Proofs.YtkpbbfehglihlaaGreatDoor
open Go.Lib (hid)
open Go.RowKit
theorem rnsame_self (N:NV) (S S2:NSl3) (w:World) (h:NRead w (vAs w) N S) (h2:NRead w (vAs w) N S2):Calls Tryz.prog 10 #[vAx S,vAx S2] w fun e w'=>e=.returned (.bool true)∧Below w.heap.size w w':=by
 have H_pt:=hid h.pt;have G_pt:=hid h2.pt;have LE_pt:=hid h.pt.len;have LF_pt:=hid h2.pt.len;have hle_pt:=h.pt.le;have hcap_pt:=h.pt.cap;have gle_pt:=h2.pt.le;have gcap_pt:=h2.pt.cap;have H_dm:=hid h.dm;have G_dm:=hid h2.dm;have LE_dm:=hid h.dm.len;have LF_dm:=hid h2.dm.len;have hle_dm:=h.dm.le;have hcap_dm:=h.dm.cap;have gle_dm:=h2.dm.le;have gcap_dm:=h2.dm.cap;have H_fl:=hid h.fl
 have G_fl:=hid h2.fl;have LE_fl:=hid h.fl.len;have LF_fl:=hid h2.fl.len;have hle_fl:=h.fl.le;have hcap_fl:=h.fl.cap;have gle_fl:=h2.fl.le;have gcap_fl:=h2.fl.cap;have H_vr:=hid h.vr;have G_vr:=hid h2.vr;have LE_vr:=hid h.vr.len;have LF_vr:=hid h2.vr.len;have hle_vr:=h.vr.le;have hcap_vr:=h.vr.cap;have gle_vr:=h2.vr.le;have gcap_vr:=h2.vr.cap;have NB:=hid ((NBox.new w S 31).below ((Below.refl _ _).alloc (Nat.le_refl _) (.cells (nA S2) 31)))
 have NC:=hid (NBox.new (w.alloc (.cells (nA S) 31)) S2 31);have B0:=hid (vAi w (.cells (nA S) 31) (.cells (nA S2) 31))
 have TP:=fun (w':World) (hb:Below w.heap.size w w')=>tops_any N N S S2 w' (h.up hb) (h2.up hb)
 rw [(topB_iff N N).2 (tops_of rfl)] at TP;unfold vAx at TP ⊢;have TP:=hid TP;clear h h2
 go_enter Tryz.func10,Tryz.ntmps10
 go_upto_region 1 with fail
 obtain ⟨w1,hw1⟩:∃w1,(w.alloc (.cells (nA S) 31)).alloc (.cells (nA S2) 31)=w1:=⟨_,rfl⟩
 have hz:(w.alloc (.cells (nA S) 31)).heap.size=w.heap.size+1:=by simp
 rw [hz] at NC;rw [hw1] at NB NC B0 ⊢;clear hw1 hz
 have KN:=hid (show ∀wx,Below w1.heap.size w1 wx→(NF wx w.heap.size S)∧(NF wx (w.heap.size+1) S2)∧Below w.heap.size w wx from fun wx hx=>by
  have nb:=NB.out.below hx;have nc:=NC.out.below hx
  exact ⟨⟨nb.c0,nb.c1,nb.c2,nb.c3,nb.c4,nb.c5,nb.c6,nb.c7⟩,⟨nc.c0,nc.c1,nc.c2,nc.c3,nc.c4,nc.c5,nc.c6,nc.c7⟩,B0.out.trans (hx.mono B0.out.size)⟩)
 have NL:=hid (show w.heap.size<w1.heap.size∧w.heap.size+1<w1.heap.size from ⟨NB.out.lt,NC.out.lt⟩);obtain ⟨⟨f0,f1,f2,f3,f4,f5,f6,f7⟩,⟨m0,m1,m2,m3,m4,m5,m6,m7⟩,_⟩:=KN.out w1 (Below.refl _ _);have BT:=hid (Below.refl w1.heap.size w1)
 have c_pt:S.pt.n=S2.pt.n:=by rw [←LE_pt.out,←LF_pt.out]
 have z_pt:((S.pt.n:Int) != (S2.pt.n:Int))=false:=by simp;omega
 have EQ_pt:=hid c_pt;clear c_pt
 have c_dm:S.dm.n=S2.dm.n:=by rw [←LE_dm.out,←LF_dm.out]
 have z_dm:((S.dm.n:Int) != (S2.dm.n:Int))=false:=by simp;omega
 have EQ_dm:=hid c_dm;clear c_dm
 have c_fl:S.fl.n=S2.fl.n:=by rw [←LE_fl.out,←LF_fl.out]
 have z_fl:((S.fl.n:Int) != (S2.fl.n:Int))=false:=by simp;omega
 have EQ_fl:=hid c_fl;clear c_fl
 have c_vr:S.vr.n=S2.vr.n:=by rw [←LE_vr.out,←LF_vr.out]
 have z_vr:((S.vr.n:Int) != (S2.vr.n:Int))=false:=by simp;omega
 have EQ_vr:=hid c_vr;clear c_vr
 go_upto_block 0 with (go_at_call 36;(with_reducible refine (TP.out _ B0.out).mono ?_);rintro e w2_ ⟨rfl,b2_⟩;have Y1:=hid b2_;obtain ⟨⟨f0,f1,f2,f3,f4,f5,f6,f7⟩,⟨m0,m1,m2,m3,m4,m5,m6,m7⟩,hB⟩:=KN.out w2_ b2_;have X1:=hid hB;clear hB b2_)
 clear f0 f1 f2 f3 f4 f5 f6 f7 m0 m1 m2 m3 m4 m5 m6 m7 TP BT
 go_cut [] (fun wx=>Below w1.heap.size w1 wx)
 case first=>
  obtain ⟨⟨f0,f1,f2,f3,f4,f5,f6,f7⟩,⟨m0,m1,m2,m3,m4,m5,m6,m7⟩,_⟩:=KN.out _ Y1.out;go_wp2_with fail;clear f0 f1 f2 f3 f4 f5 f6 f7 m0 m1 m2 m3 m4 m5 m6 m7
  go_loopw [5] (fun i wr=>∃k:Nat,i=.int .i64 k∧k≤S.pt.n∧Below w1.heap.size w1 wr) (fun i _=>match i with| .int _ y=>(S.pt.n - y).toNat|_=>0)
  case atStart=>exact ⟨0,rfl,by omega,Y1.out⟩
  case round=>
  obtain ⟨k,rfl,hk,hb⟩:=hrel;have W:=hid hb;have W0:=hid (B0.out.trans (hb.mono B0.out.size));clear hb;obtain ⟨⟨f0,f1,f2,f3,f4,f5,f6,f7⟩,⟨m0,m1,m2,m3,m4,m5,m6,m7⟩,_⟩:=KN.out wr W.out;have n_:=f1;have m_:=m1;have nl1:w.heap.size<wr.heap.size:=Nat.lt_of_lt_of_le NL.out.1 W.out.size;have nl2:w.heap.size+1<wr.heap.size:=Nat.lt_of_lt_of_le NL.out.2 W.out.size;clear f0 f1 f2 f3 f4 f5 f6 f7 m0 m1 m2 m3 m4 m5 m6 m7
  by_cases hlt:k<S.pt.n
  rotate_left
  · have lt2:¬(k:Int)<(S.pt.n:Int):=by omega
    go_wp2
    go_meet
    exact W.out
  obtain ⟨b0,o0,vs,e0,_,hb0,⟨s,rfl,l0⟩,r0⟩:=vAh H_pt.out k hlt PortV.zero;obtain ⟨b1,o1,us,e1,_,hb1,⟨t,rfl,k0⟩,r1⟩:=vAh G_pt.out k (by have:=EQ_pt.out;omega) PortV.zero;obtain ⟨X,hX⟩:∃X,N.ports.getD k PortV.zero=X:=⟨_,rfl⟩;rw [hX] at r0 l0;rw [hX] at r1 k0;have R0:=vAb r0 (W0.out.block b0 hb0);have R1:=vAb r1 (W0.out.block b1 hb1);have d0:=R0 0 _ rfl;have e0_:=R1 0 _ rfl;have d1:=R0 1 _ rfl
  have e1_:=R1 1 _ rfl;have d2:=R0 2 _ rfl;have e2_:=R1 2 _ rfl;have d3:=R0 3 _ rfl;have e3_:=R1 3 _ rfl;have d4:=R0 4 _ rfl;have e4_:=R1 4 _ rfl;have d5:=R0 5 _ rfl;have e5_:=R1 5 _ rfl;have d6:=R0 6 _ rfl;have e6_:=R1 6 _ rfl;simp only [Nat.add_zero] at d0 e0_;rw [show o0+k * portR.n=o0+k * 7 from rfl] at d0 d1 d2 d3 d4 d5 d6;rw [show o1+k * portR.n=o1+k * 7 from rfl] at e0_ e1_ e2_ e3_ e4_ e5_ e6_
  have lt2:(k:Int)<(S.pt.n:Int):=by omega
  have lt3:(k:Int)<(S2.pt.n:Int):=by have:=EQ_pt.out;omega
  have zb0:b0<wr.heap.size:=Nat.lt_of_lt_of_le hb0 W0.out.size;have zb1:b1<wr.heap.size:=Nat.lt_of_lt_of_le hb1 W0.out.size;rw [e0] at n_;rw [e1] at m_;clear r0 r1 R0 R1 hX e0 e1
  go_upto_region 6 with fail
  go_cut [6,7] (fun p q wx=>∃b6 b7,p=.pointer (some ⟨b6,0,none⟩)∧q=.pointer (some ⟨b7,0,none⟩)∧(wx.cell? ⟨b6,0,none⟩=some (.int .i64 X.row)∧wx.cell? ⟨b6,1,none⟩=some (.int .i64 X.dev)∧wx.cell? ⟨b6,2,none⟩=some (.int .i64 X.native)∧wx.cell? ⟨b6,3,none⟩=some (.int .i64 X.cost)∧wx.cell? ⟨b6,4,none⟩=some (.int .i64 X.link)∧wx.cell? ⟨b6,5,none⟩=some (.string (str X.name))∧wx.cell? ⟨b6,6,none⟩=some (.slice s.A s.n s.c))∧(wx.cell? ⟨b7,0,none⟩=some (.int .i64 X.row)∧wx.cell? ⟨b7,1,none⟩=some (.int .i64 X.dev)∧wx.cell? ⟨b7,2,none⟩=some (.int .i64 X.native)∧wx.cell? ⟨b7,3,none⟩=some (.int .i64 X.cost)∧wx.cell? ⟨b7,4,none⟩=some (.int .i64 X.link)∧wx.cell? ⟨b7,5,none⟩=some (.string (str X.name))∧wx.cell? ⟨b7,6,none⟩=some (.slice t.A t.n t.c))∧b6<wx.heap.size∧b7<wx.heap.size∧Below wr.heap.size wr wx)
  case first=>
   go_region
   all_goals (try go_wp2)
   all_goals go_meet
   all_goals (refine ⟨_,_,rfl,rfl,?_,?_,?_,?_,?_⟩)
   all_goals first
    |exact (((Below.refl _ _).alloc (Nat.le_refl _) _).alloc (by simp) _).drew
    |exact ((Below.refl _ _).alloc (Nat.le_refl _) _).alloc (by simp) _
    |(simp;done)
    |(simp;omega)
  case rest=>
  obtain ⟨b6,b7,rfl,rfl,⟨g0,g1,g2,g3,g4,g5,g6⟩,⟨h0,h1,h2,h3,h4,h5,h6⟩,zb6,zb7,hbw⟩:=hcut;rename World=>w5;have Y5:=hid hbw;have X5:=hid (W0.out.trans (hbw.mono W0.out.size));have C5:=hid (W.out.trans (hbw.mono W.out.size));clear hbw n_ m_ d0 d1 d2 d3 d4 d5 d6 e0_ e1_ e2_ e3_ e4_ e5_ e6_ zb0 zb1 nl1 nl2;have I0:=hid (fun (w':World) (hb:Below w.heap.size w w')=>vFu s.A s.n s.c X.tagged t.A t.n t.c X.tagged w' (vAz (l0.below (fun _ h=>h) hb)) (vAz (k0.below (fun _ h=>h) hb)) true (by simp))
  clear l0 k0
  have y0:(X.row != X.row)=false:=by simp
  have yy0:(X.row == X.row)=true:=by simp
  have y1:(X.dev != X.dev)=false:=by simp
  have yy1:(X.dev == X.dev)=true:=by simp
  have y2:(X.native != X.native)=false:=by simp
  have yy2:(X.native == X.native)=true:=by simp
  have y3:(X.cost != X.cost)=false:=by simp
  have yy3:(X.cost == X.cost)=true:=by simp
  have y4:(X.link != X.link)=false:=by simp
  have yy4:(X.link == X.link)=true:=by simp
  have y5:(X.name != X.name)=false:=by simp
  have yy5:(X.name == X.name)=true:=by simp
  go_wp2_with (first
   |(go_at_call 17;(with_reducible refine (I0.out _ X5.out).mono ?_);rintro e w6 ⟨rfl,b_⟩;have X5:=hid (vAa X5.out b_);have C5:=hid (C5.out.trans (b_.mono C5.out.size));clear b_))
  go_roundw
  case rel=>exact ⟨k+1,by simp,by omega,C5.out⟩
  case measure=>simp only [];omega
 case rest=>
 have hbw:=hcut;clear hcut;rename World=>wB;have YB:=hid hbw;clear hbw
 go_upto_block 2 with fail
 go_cut [] (fun wx=>Below w1.heap.size w1 wx)
 case first=>
  obtain ⟨⟨f0,f1,f2,f3,f4,f5,f6,f7⟩,⟨m0,m1,m2,m3,m4,m5,m6,m7⟩,_⟩:=KN.out _ YB.out;go_wp2_with fail;clear f0 f1 f2 f3 f4 f5 f6 f7 m0 m1 m2 m3 m4 m5 m6 m7
  go_loopw [8] (fun i wr=>∃k:Nat,i=.int .i64 k∧k≤S.dm.n∧Below w1.heap.size w1 wr) (fun i _=>match i with| .int _ y=>(S.dm.n - y).toNat|_=>0)
  case atStart=>exact ⟨0,rfl,by omega,YB.out⟩
  case round=>
  obtain ⟨k,rfl,hk,hb⟩:=hrel;have W:=hid hb;have W0:=hid (B0.out.trans (hb.mono B0.out.size));clear hb;obtain ⟨⟨f0,f1,f2,f3,f4,f5,f6,f7⟩,⟨m0,m1,m2,m3,m4,m5,m6,m7⟩,_⟩:=KN.out wr W.out;have n_:=f3;have m_:=m3;have nl1:w.heap.size<wr.heap.size:=Nat.lt_of_lt_of_le NL.out.1 W.out.size;have nl2:w.heap.size+1<wr.heap.size:=Nat.lt_of_lt_of_le NL.out.2 W.out.size;clear f0 f1 f2 f3 f4 f5 f6 f7 m0 m1 m2 m3 m4 m5 m6 m7
  by_cases hlt:k<S.dm.n
  rotate_left
  · have lt2:¬(k:Int)<(S.dm.n:Int):=by omega
    go_wp2
    go_meet
    exact W.out
  obtain ⟨b0,o0,vs,e0,_,hb0,⟨s,rfl,l0⟩,r0⟩:=vAh H_dm.out k hlt DomV.zero;obtain ⟨b1,o1,us,e1,_,hb1,⟨t,rfl,k0⟩,r1⟩:=vAh G_dm.out k (by have:=EQ_dm.out;omega) DomV.zero;obtain ⟨X,hX⟩:∃X,N.domains.getD k DomV.zero=X:=⟨_,rfl⟩;rw [hX] at r0 l0;rw [hX] at r1 k0;have R0:=vAb r0 (W0.out.block b0 hb0);have R1:=vAb r1 (W0.out.block b1 hb1);have d0:=R0 0 _ rfl;have e0_:=R1 0 _ rfl;have d1:=R0 1 _ rfl
  have e1_:=R1 1 _ rfl;have d2:=R0 2 _ rfl;have e2_:=R1 2 _ rfl;have d3:=R0 3 _ rfl;have e3_:=R1 3 _ rfl;have d4:=R0 4 _ rfl;have e4_:=R1 4 _ rfl;have d5:=R0 5 _ rfl;have e5_:=R1 5 _ rfl;simp only [Nat.add_zero] at d0 e0_;rw [show o0+k * domR.n=o0+k * 6 from rfl] at d0 d1 d2 d3 d4 d5;rw [show o1+k * domR.n=o1+k * 6 from rfl] at e0_ e1_ e2_ e3_ e4_ e5_
  have lt2:(k:Int)<(S.dm.n:Int):=by omega
  have lt3:(k:Int)<(S2.dm.n:Int):=by have:=EQ_dm.out;omega
  have zb0:b0<wr.heap.size:=Nat.lt_of_lt_of_le hb0 W0.out.size;have zb1:b1<wr.heap.size:=Nat.lt_of_lt_of_le hb1 W0.out.size;rw [e0] at n_;rw [e1] at m_;clear r0 r1 R0 R1 hX e0 e1
  go_upto_region 12 with fail
  go_cut [9,10] (fun p q wx=>∃b6 b7,p=.pointer (some ⟨b6,0,none⟩)∧q=.pointer (some ⟨b7,0,none⟩)∧(wx.cell? ⟨b6,0,none⟩=some (.int .i64 X.dev)∧wx.cell? ⟨b6,1,none⟩=some (.int .i64 X.vlan)∧wx.cell? ⟨b6,2,none⟩=some (.int .i64 X.vni)∧wx.cell? ⟨b6,3,none⟩=some (.int .i64 X.irb)∧wx.cell? ⟨b6,4,none⟩=some (.int .i64 X.row)∧wx.cell? ⟨b6,5,none⟩=some (.slice s.A s.n s.c))∧(wx.cell? ⟨b7,0,none⟩=some (.int .i64 X.dev)∧wx.cell? ⟨b7,1,none⟩=some (.int .i64 X.vlan)∧wx.cell? ⟨b7,2,none⟩=some (.int .i64 X.vni)∧wx.cell? ⟨b7,3,none⟩=some (.int .i64 X.irb)∧wx.cell? ⟨b7,4,none⟩=some (.int .i64 X.row)∧wx.cell? ⟨b7,5,none⟩=some (.slice t.A t.n t.c))∧b6<wx.heap.size∧b7<wx.heap.size∧Below wr.heap.size wr wx)
  case first=>
   go_region
   all_goals (try go_wp2)
   all_goals go_meet
   all_goals (refine ⟨_,_,rfl,rfl,?_,?_,?_,?_,?_⟩)
   all_goals first
    |exact (((Below.refl _ _).alloc (Nat.le_refl _) _).alloc (by simp) _).drew
    |exact ((Below.refl _ _).alloc (Nat.le_refl _) _).alloc (by simp) _
    |(simp;done)
    |(simp;omega)
  case rest=>
  obtain ⟨b6,b7,rfl,rfl,⟨g0,g1,g2,g3,g4,g5⟩,⟨h0,h1,h2,h3,h4,h5⟩,zb6,zb7,hbw⟩:=hcut;rename World=>w5;have Y5:=hid hbw;have X5:=hid (W0.out.trans (hbw.mono W0.out.size));have C5:=hid (W.out.trans (hbw.mono W.out.size));clear hbw n_ m_ d0 d1 d2 d3 d4 d5 e0_ e1_ e2_ e3_ e4_ e5_ zb0 zb1 nl1 nl2;have I0:=hid (fun (w':World) (hb:Below w.heap.size w w')=>vFu s.A s.n s.c X.peers t.A t.n t.c X.peers w' (vAz (l0.below (fun _ h=>h) hb)) (vAz (k0.below (fun _ h=>h) hb)) true (by simp))
  clear l0 k0
  have y0:(X.dev != X.dev)=false:=by simp
  have yy0:(X.dev == X.dev)=true:=by simp
  have y1:(X.vlan != X.vlan)=false:=by simp
  have yy1:(X.vlan == X.vlan)=true:=by simp
  have y2:(X.vni != X.vni)=false:=by simp
  have yy2:(X.vni == X.vni)=true:=by simp
  have y3:(X.irb != X.irb)=false:=by simp
  have yy3:(X.irb == X.irb)=true:=by simp
  have y4:(X.row != X.row)=false:=by simp
  have yy4:(X.row == X.row)=true:=by simp
  go_wp2_with (first
   |(go_at_call 17;(with_reducible refine (I0.out _ X5.out).mono ?_);rintro e w6 ⟨rfl,b_⟩;have X5:=hid (vAa X5.out b_);have C5:=hid (C5.out.trans (b_.mono C5.out.size));clear b_))
  go_roundw
  case rel=>exact ⟨k+1,by simp,by omega,C5.out⟩
  case measure=>simp only [];omega
 case rest=>
 have hbw:=hcut;clear hcut;rename World=>wB;have YB:=hid hbw;clear hbw
 go_upto_block 4 with fail
 go_cut [] (fun wx=>Below w1.heap.size w1 wx)
 case first=>
  obtain ⟨⟨f0,f1,f2,f3,f4,f5,f6,f7⟩,⟨m0,m1,m2,m3,m4,m5,m6,m7⟩,_⟩:=KN.out _ YB.out;go_wp2_with fail;clear f0 f1 f2 f3 f4 f5 f6 f7 m0 m1 m2 m3 m4 m5 m6 m7
  go_loopw [11] (fun i wr=>∃k:Nat,i=.int .i64 k∧k≤S.fl.n∧Below w1.heap.size w1 wr) (fun i _=>match i with| .int _ y=>(S.fl.n - y).toNat|_=>0)
  case atStart=>exact ⟨0,rfl,by omega,YB.out⟩
  case round=>
  obtain ⟨k,rfl,hk,hb⟩:=hrel;have W:=hid hb;have W0:=hid (B0.out.trans (hb.mono B0.out.size));clear hb;obtain ⟨⟨f0,f1,f2,f3,f4,f5,f6,f7⟩,⟨m0,m1,m2,m3,m4,m5,m6,m7⟩,_⟩:=KN.out wr W.out;have n_:=f5;have m_:=m5;have nl1:w.heap.size<wr.heap.size:=Nat.lt_of_lt_of_le NL.out.1 W.out.size;have nl2:w.heap.size+1<wr.heap.size:=Nat.lt_of_lt_of_le NL.out.2 W.out.size;clear f0 f1 f2 f3 f4 f5 f6 f7 m0 m1 m2 m3 m4 m5 m6 m7
  by_cases hlt:k<S.fl.n
  rotate_left
  · have lt2:¬(k:Int)<(S.fl.n:Int):=by omega
    go_wp2
    go_meet
    exact W.out
  obtain ⟨b0,o0,vs,e0,_,hb0,⟨s,rfl,l0⟩,r0⟩:=vAh H_fl.out k hlt FloodV.zero;obtain ⟨b1,o1,us,e1,_,hb1,⟨t,rfl,k0⟩,r1⟩:=vAh G_fl.out k (by have:=EQ_fl.out;omega) FloodV.zero;obtain ⟨X,hX⟩:∃X,N.floods.getD k FloodV.zero=X:=⟨_,rfl⟩;rw [hX] at r0 l0;rw [hX] at r1 k0;have R0:=vAb r0 (W0.out.block b0 hb0);have R1:=vAb r1 (W0.out.block b1 hb1);have d0:=R0 0 _ rfl;have e0_:=R1 0 _ rfl
  have d1:=R0 1 _ rfl;have e1_:=R1 1 _ rfl;have d2:=R0 2 _ rfl;have e2_:=R1 2 _ rfl;have d3:=R0 3 _ rfl;have e3_:=R1 3 _ rfl;simp only [Nat.add_zero] at d0 e0_;rw [show o0+k * floodR.n=o0+k * 4 from rfl] at d0 d1 d2 d3;rw [show o1+k * floodR.n=o1+k * 4 from rfl] at e0_ e1_ e2_ e3_
  have lt2:(k:Int)<(S.fl.n:Int):=by omega
  have lt3:(k:Int)<(S2.fl.n:Int):=by have:=EQ_fl.out;omega
  have zb0:b0<wr.heap.size:=Nat.lt_of_lt_of_le hb0 W0.out.size;have zb1:b1<wr.heap.size:=Nat.lt_of_lt_of_le hb1 W0.out.size;rw [e0] at n_;rw [e1] at m_;clear r0 r1 R0 R1 hX e0 e1
  go_upto_region 18 with fail
  go_cut [12,13] (fun p q wx=>∃b6 b7,p=.pointer (some ⟨b6,0,none⟩)∧q=.pointer (some ⟨b7,0,none⟩)∧(wx.cell? ⟨b6,0,none⟩=some (.int .i64 X.row)∧wx.cell? ⟨b6,1,none⟩=some (.int .i64 X.dev)∧wx.cell? ⟨b6,2,none⟩=some (.int .i64 X.vni)∧wx.cell? ⟨b6,3,none⟩=some (.slice s.A s.n s.c))∧(wx.cell? ⟨b7,0,none⟩=some (.int .i64 X.row)∧wx.cell? ⟨b7,1,none⟩=some (.int .i64 X.dev)∧wx.cell? ⟨b7,2,none⟩=some (.int .i64 X.vni)∧wx.cell? ⟨b7,3,none⟩=some (.slice t.A t.n t.c))∧b6<wx.heap.size∧b7<wx.heap.size∧Below wr.heap.size wr wx)
  case first=>
   go_region
   all_goals (try go_wp2)
   all_goals go_meet
   all_goals (refine ⟨_,_,rfl,rfl,?_,?_,?_,?_,?_⟩)
   all_goals first
    |exact (((Below.refl _ _).alloc (Nat.le_refl _) _).alloc (by simp) _).drew
    |exact ((Below.refl _ _).alloc (Nat.le_refl _) _).alloc (by simp) _
    |(simp;done)
    |(simp;omega)
  case rest=>
  obtain ⟨b6,b7,rfl,rfl,⟨g0,g1,g2,g3⟩,⟨h0,h1,h2,h3⟩,zb6,zb7,hbw⟩:=hcut;rename World=>w5;have Y5:=hid hbw;have X5:=hid (W0.out.trans (hbw.mono W0.out.size));have C5:=hid (W.out.trans (hbw.mono W.out.size));clear hbw n_ m_ d0 d1 d2 d3 e0_ e1_ e2_ e3_ zb0 zb1 nl1 nl2;have I0:=hid (fun (w':World) (hb:Below w.heap.size w w')=>raddrs2_any s.A s.n s.c X.addrs t.A t.n t.c X.addrs w' (vAz (l0.below (fun _ h=>h) hb)) (vAz (k0.below (fun _ h=>h) hb)) true (by simp))
  clear l0 k0
  have y0:(X.row != X.row)=false:=by simp
  have yy0:(X.row == X.row)=true:=by simp
  have y1:(X.dev != X.dev)=false:=by simp
  have yy1:(X.dev == X.dev)=true:=by simp
  have y2:(X.vni != X.vni)=false:=by simp
  have yy2:(X.vni == X.vni)=true:=by simp
  go_wp2_with (first
   |(go_at_call 37;(with_reducible refine (I0.out _ X5.out).mono ?_);rintro e w6 ⟨rfl,b_⟩;have X5:=hid (vAa X5.out b_);have C5:=hid (C5.out.trans (b_.mono C5.out.size));clear b_))
  go_roundw
  case rel=>exact ⟨k+1,by simp,by omega,C5.out⟩
  case measure=>simp only [];omega
 case rest=>
 have hbw:=hcut;clear hcut;rename World=>wB;have YB:=hid hbw;clear hbw
 go_upto_block 6 with fail
 go_cut [] (fun wx=>Below w1.heap.size w1 wx)
 case first=>
  obtain ⟨⟨f0,f1,f2,f3,f4,f5,f6,f7⟩,⟨m0,m1,m2,m3,m4,m5,m6,m7⟩,_⟩:=KN.out _ YB.out;go_wp2_with fail;clear f0 f1 f2 f3 f4 f5 f6 f7 m0 m1 m2 m3 m4 m5 m6 m7
  go_loopw [14] (fun i wr=>∃k:Nat,i=.int .i64 k∧k≤S.vr.n∧Below w1.heap.size w1 wr) (fun i _=>match i with| .int _ y=>(S.vr.n - y).toNat|_=>0)
  case atStart=>exact ⟨0,rfl,by omega,YB.out⟩
  case round=>
  obtain ⟨k,rfl,hk,hb⟩:=hrel;have W:=hid hb;have W0:=hid (B0.out.trans (hb.mono B0.out.size));clear hb;obtain ⟨⟨f0,f1,f2,f3,f4,f5,f6,f7⟩,⟨m0,m1,m2,m3,m4,m5,m6,m7⟩,_⟩:=KN.out wr W.out;have n_:=f6;have m_:=m6;have nl1:w.heap.size<wr.heap.size:=Nat.lt_of_lt_of_le NL.out.1 W.out.size;have nl2:w.heap.size+1<wr.heap.size:=Nat.lt_of_lt_of_le NL.out.2 W.out.size;clear f0 f1 f2 f3 f4 f5 f6 f7 m0 m1 m2 m3 m4 m5 m6 m7
  by_cases hlt:k<S.vr.n
  rotate_left
  · have lt2:¬(k:Int)<(S.vr.n:Int):=by omega
    go_wp2
    go_meet
    exact W.out
  obtain ⟨b0,o0,vs,e0,_,hb0,⟨s,s',rfl,l0,l1⟩,r0⟩:=vAh H_vr.out k hlt VrfV.zero;obtain ⟨b1,o1,us,e1,_,hb1,⟨t,t',rfl,k0,k1⟩,r1⟩:=vAh G_vr.out k (by have:=EQ_vr.out;omega) VrfV.zero;obtain ⟨X,hX⟩:∃X,N.vrfs.getD k VrfV.zero=X:=⟨_,rfl⟩;rw [hX] at r0 l0 l1;rw [hX] at r1 k0 k1;have R0:=vAb r0 (W0.out.block b0 hb0);have R1:=vAb r1 (W0.out.block b1 hb1);have d0:=R0 0 _ rfl;have e0_:=R1 0 _ rfl
  have d1:=R0 1 _ rfl;have e1_:=R1 1 _ rfl;have d2:=R0 2 _ rfl;have e2_:=R1 2 _ rfl;have d3:=R0 3 _ rfl;have e3_:=R1 3 _ rfl;have d4:=R0 4 _ rfl;have e4_:=R1 4 _ rfl;simp only [Nat.add_zero] at d0 e0_;rw [show o0+k * vrfR.n=o0+k * 5 from rfl] at d0 d1 d2 d3 d4;rw [show o1+k * vrfR.n=o1+k * 5 from rfl] at e0_ e1_ e2_ e3_ e4_
  have lt2:(k:Int)<(S.vr.n:Int):=by omega
  have lt3:(k:Int)<(S2.vr.n:Int):=by have:=EQ_vr.out;omega
  have zb0:b0<wr.heap.size:=Nat.lt_of_lt_of_le hb0 W0.out.size;have zb1:b1<wr.heap.size:=Nat.lt_of_lt_of_le hb1 W0.out.size;rw [e0] at n_;rw [e1] at m_;clear r0 r1 R0 R1 hX e0 e1
  go_upto_region 24 with fail
  go_cut [15,16] (fun p q wx=>∃b6 b7,p=.pointer (some ⟨b6,0,none⟩)∧q=.pointer (some ⟨b7,0,none⟩)∧(wx.cell? ⟨b6,0,none⟩=some (.int .i64 X.row)∧wx.cell? ⟨b6,1,none⟩=some (.int .i64 X.dev)∧wx.cell? ⟨b6,2,none⟩=some (.string (str X.name))∧wx.cell? ⟨b6,3,none⟩=some (.slice s.A s.n s.c)∧wx.cell? ⟨b6,4,none⟩=some (.slice s'.A s'.n s'.c))∧(wx.cell? ⟨b7,0,none⟩=some (.int .i64 X.row)∧wx.cell? ⟨b7,1,none⟩=some (.int .i64 X.dev)∧wx.cell? ⟨b7,2,none⟩=some (.string (str X.name))∧wx.cell? ⟨b7,3,none⟩=some (.slice t.A t.n t.c)∧wx.cell? ⟨b7,4,none⟩=some (.slice t'.A t'.n t'.c))∧b6<wx.heap.size∧b7<wx.heap.size∧Below wr.heap.size wr wx)
  case first=>
   go_region
   all_goals (try go_wp2)
   all_goals go_meet
   all_goals (refine ⟨_,_,rfl,rfl,?_,?_,?_,?_,?_⟩)
   all_goals first
    |exact (((Below.refl _ _).alloc (Nat.le_refl _) _).alloc (by simp) _).drew
    |exact ((Below.refl _ _).alloc (Nat.le_refl _) _).alloc (by simp) _
    |(simp;done)
    |(simp;omega)
  case rest=>
  obtain ⟨b6,b7,rfl,rfl,⟨g0,g1,g2,g3,g4⟩,⟨h0,h1,h2,h3,h4⟩,zb6,zb7,hbw⟩:=hcut;rename World=>w5;have Y5:=hid hbw;have X5:=hid (W0.out.trans (hbw.mono W0.out.size));have C5:=hid (W.out.trans (hbw.mono W.out.size));clear hbw n_ m_ d0 d1 d2 d3 d4 e0_ e1_ e2_ e3_ e4_ zb0 zb1 nl1 nl2;have I0:=hid (fun (w':World) (hb:Below w.heap.size w w')=>vFu s.A s.n s.c X.imports t.A t.n t.c X.imports w' (vAz (l0.below (fun _ h=>h) hb)) (vAz (k0.below (fun _ h=>h) hb)) true (by simp))
  have I1:=hid (fun (w':World) (hb:Below w.heap.size w w')=>vFu s'.A s'.n s'.c X.exports t'.A t'.n t'.c X.exports w' (vAz (l1.below (fun _ h=>h) hb)) (vAz (k1.below (fun _ h=>h) hb)) true (by simp));clear l0 l1 k0 k1
  have y0:(X.row != X.row)=false:=by simp
  have yy0:(X.row == X.row)=true:=by simp
  have y1:(X.dev != X.dev)=false:=by simp
  have yy1:(X.dev == X.dev)=true:=by simp
  have y2:(X.name != X.name)=false:=by simp
  have yy2:(X.name == X.name)=true:=by simp
  go_wp2_with (first
   |(go_at_call 17;(with_reducible refine (I0.out _ X5.out).mono ?_);rintro e w6 ⟨rfl,b_⟩;have g4:=(b_.cell (p:=⟨b6,4,none⟩) zb6).trans g4;have h4:=(b_.cell (p:=⟨b7,4,none⟩) zb7).trans h4;have X5:=hid (vAa X5.out b_);have C5:=hid (C5.out.trans (b_.mono C5.out.size));clear b_)
   |(go_at_call 17;(with_reducible refine (I1.out _ X5.out).mono ?_);rintro e w6 ⟨rfl,b_⟩;have X5:=hid (vAa X5.out b_);have C5:=hid (C5.out.trans (b_.mono C5.out.size));clear b_))
  go_roundw
  case rel=>exact ⟨k+1,by simp,by omega,C5.out⟩
  case measure=>simp only [];omega
 case rest=>
 have hbw:=hcut;clear hcut;rename World=>wB;have YB:=hid hbw;clear hbw;have XB:=hid (B0.out.trans (YB.out.mono B0.out.size));go_wp2;go_ret;exact ⟨rfl,XB.out⟩
theorem dstatics_walk (N:NV) (S:NSl3) (L:LV) (s1 s2 s3 s4:SlV) (w:World) (h:NRead w (vAs w) N S) (hl:LRead w L s1 s2 s3 s4) (hm:NmSz N) (hw:LvW L) (hp:LdP w):Calls Tryz.prog 3 #[vAx S,vBk L s1 s2 s3 s4] w fun e w'=>e=.returned (.bool true)∧Below w.heap.size w w':=by
 have UP:=hid (fun (w':World) (hb:Below w.heap.size w w')=>h.up hb);have UL:=hid (fun (w':World) (hb:Below w.heap.size w w')=>vBg hl hb);have HM:=hid hm;have HW:=hid hw;have HL:=hid (fun (w':World) (hb:Below w.heap.size w w')=>hp.below hb);have U1_:=hid (fun (w':World) (hb:Below w.heap.size w w')=>h.up hb);have L1_:=hid (fun (w':World) (hb:Below w.heap.size w w')=>vBg hl hb)
 have G1:=fun (w':World) (hb:Below w.heap.size w w')=>great16_any N S L s1 s2 s3 s4 w' (h.up hb) (vBg hl hb)
 unfold GotGr vAx at G1;have G1:=hid G1;clear hm hw hp;clear h hl;unfold vAx;rw [vGq]
 go_enter Tryz.func3,Tryz.ntmps3
 go_upto_region 1 with fail
 generalize hw1:World.alloc _ _=w1;obtain ⟨B1,NB,LB,ql1⟩:=pre_two (S:=S) (L:=L) (s1:=s1) (s2:=s2) (s3:=s3) (s4:=s4) hw1;clear hw1;replace B1:=hid B1;replace NB:=hid NB;replace LB:=hid LB
 have KN:=hid (show ∀wx,Below w1.heap.size w1 wx→NF wx w.heap.size S∧(wx.cell? ⟨w.heap.size+1,1,none⟩=some (.int .i64 L.kind))∧BoxF wx (w.heap.size+1) 17 (lc L s1 s2 s3 s4)∧NRead wx (vAs wx) N S∧LRead wx L s1 s2 s3 s4∧Below w.heap.size w wx from fun wx hx=>by
  have nb:=NB.out.below hx;have bx:=LB.out.below (by omega) hx;have b0:=B1.out.trans (hx.mono B1.out.size)
  exact ⟨⟨nb.c0,nb.c1,nb.c2,nb.c3,nb.c4,nb.c5,nb.c6,nb.c7⟩,bx.cell 1 (by omega),bx,UP.out _ b0,UL.out _ b0,b0⟩)
 have BS:=hid (Below.refl w1.heap.size w1);obtain ⟨⟨f0,f1,f2,f3,f4,f5,f6,f7⟩,g1,lb_,_⟩:=KN.out w1 (Below.refl _ _)
 go_wp2_with (first
  |((with_reducible refine vAk ?hg (.tmp 3) ?ho (w.heap.size+1) ?hx L s1 s2 s3 s4 lb_ ?_);(case hg=>rfl);(case ho=>rfl);(case hx=>rfl))
  |(go_at_call 6;(with_reducible refine (G1.out _ B1.out).mono ?_);rintro e w2 ⟨g,rfl,hg,b_⟩;have Y2:=hid b_;have X2:=hid (vAa B1.out b_);have HG:=hid hg;obtain ⟨⟨f0,f1,f2,f3,f4,f5,f6,f7⟩,g1,lb_,_⟩:=KN.out _ Y2.out;clear hg b_;cases g)
  |(go_at_call 7;(with_reducible refine (works18_any _ (HL.out _ X2.out)).mono ?_);rintro e w3 ⟨rfl,b_⟩;have X3:=hid (vAa X2.out b_);clear b_))
 rotate_left
 · go_ret
   exact ⟨rfl,X3.out⟩
 have SZ:=HG.out (by simp)
 have PD:=fun (w':World) (hb:Below w.heap.size w w')=>cstatic_any N S L s1 s2 s3 s4 w' (U1_.out _ hb) (L1_.out _ hb) SZ.1 HM.out (by have:=SZ.2.txt;omega) HW.out.mac
 have RD:=fun (w':World) (hb:Below w.heap.size w w')=>rstatic_any N S L s1 s2 s3 s4 w' (U1_.out _ hb) (L1_.out _ hb) SZ.1 HW.out SZ.2
 obtain ⟨ND,hND⟩:∃v,doN N L=v:=⟨_,rfl⟩;obtain ⟨ED,hED⟩:∃v,doE N L=v:=⟨_,rfl⟩;rw [hND,hED] at PD RD;unfold GotPut vAx at PD RD;replace PD:=hid PD;replace RD:=hid RD;have SM:=hid (fun (M:NV) (A B:NSl3) (w':World) (ha:NRead w' (vAs w') M A) (hb:NRead w' (vAs w') M B)=>rnsame_self M A B w' ha hb);unfold vAx at SM;clear hND hED SZ HG G1
 go_upto_region 4 with (first
  |((with_reducible refine vAk ?hg (.tmp 3) ?ho (w.heap.size+1) ?hx L s1 s2 s3 s4 lb_ ?_);(case hg=>rfl);(case ho=>rfl);(case hx=>rfl))
  |(go_at_call 8;(with_reducible refine (PD.out _ X2.out).mono ?_);rintro e w3 ⟨Ua,rfl,hr,hb⟩;have R_Ua:=hid hr;have Y3:=hid (vAa Y2.out hb);clear hr hb))
 clear f0 f1 f2 f3 f4 f5 f6 f7 g1 lb_;obtain ⟨w4,hw4⟩:∃w4,w3.alloc (.cells #[.slice Ua.dv.A Ua.dv.n Ua.dv.c,.slice Ua.pt.A Ua.pt.n Ua.pt.c,.slice Ua.lk.A Ua.lk.n Ua.lk.c,.slice Ua.dm.A Ua.dm.n Ua.dm.c,.slice Ua.st.A Ua.st.n Ua.st.c,.slice Ua.fl.A Ua.fl.n Ua.fl.c,.slice Ua.vr.A Ua.vr.n Ua.vr.c,.slice Ua.ir.A Ua.ir.n Ua.ir.c] 31)=w4:=⟨_,rfl⟩
 have A_:Below w3.heap.size w3 w4:=by rw [←hw4];exact vAc _ _
 obtain ⟨qUa,hqUa⟩:∃q,w3.heap.size=q:=⟨_,rfl⟩;have NB_Ua:=hid (show NBox w4 qUa Ua by rw [←hw4,←hqUa];exact NBox.new _ _ _);have N_Ua:=hid (R_Ua.out.up A_);have Y4:=hid (vAa Y3.out A_);have X4:=hid (B1.out.trans (Y4.out.mono B1.out.size));have Z_Ua:=hid (Below.refl w4.heap.size w4);rw [hw4,hqUa];clear hw4 hqUa A_ R_Ua;obtain ⟨⟨f0,f1,f2,f3,f4,f5,f6,f7⟩,g1,lb_,_⟩:=KN.out _ Y4.out
 go_upto_region 5 with (first
  |((with_reducible refine vAk ?hg (.tmp 3) ?ho (w.heap.size+1) ?hx L s1 s2 s3 s4 lb_ ?_);(case hg=>rfl);(case ho=>rfl);(case hx=>rfl))
  |(go_at_call 9;(with_reducible refine (RD.out _ X4.out).mono ?_);rintro e w5 ⟨Ub,rfl,hr,hb⟩;have R_Ub:=hid hr;have Y5:=hid (vAa Y4.out hb);have Z_Ua:=hid (vAa Z_Ua.out hb);clear hr hb))
 clear f0 f1 f2 f3 f4 f5 f6 f7 g1 lb_;obtain ⟨w6,hw6⟩:∃w6,w5.alloc (.cells #[.slice Ub.dv.A Ub.dv.n Ub.dv.c,.slice Ub.pt.A Ub.pt.n Ub.pt.c,.slice Ub.lk.A Ub.lk.n Ub.lk.c,.slice Ub.dm.A Ub.dm.n Ub.dm.c,.slice Ub.st.A Ub.st.n Ub.st.c,.slice Ub.fl.A Ub.fl.n Ub.fl.c,.slice Ub.vr.A Ub.vr.n Ub.vr.c,.slice Ub.ir.A Ub.ir.n Ub.ir.c] 31)=w6:=⟨_,rfl⟩
 have A_:Below w5.heap.size w5 w6:=by rw [←hw6];exact vAc _ _
 obtain ⟨qUb,hqUb⟩:∃q,w5.heap.size=q:=⟨_,rfl⟩;have NB_Ub:=hid (show NBox w6 qUb Ub by rw [←hw6,←hqUb];exact NBox.new _ _ _);have N_Ub:=hid (R_Ub.out.up A_);have Y6:=hid (vAa Y5.out A_);have X6:=hid (B1.out.trans (Y6.out.mono B1.out.size));have Z_Ua:=hid (vAa Z_Ua.out A_);have Z_Ub:=hid (Below.refl w6.heap.size w6);rw [hw6,hqUb];clear hw6 hqUb A_ R_Ub;obtain ⟨⟨f0,f1,f2,f3,f4,f5,f6,f7⟩,g1,lb_,_⟩:=KN.out _ Y6.out
 clear f0 f1 f2 f3 f4 f5 f6 f7 g1 lb_
 have KB:=hid (show ∀wx,Below w6.heap.size w6 wx→(wx.cell? ⟨qUa,0,none⟩=some (.slice Ua.dv.A Ua.dv.n Ua.dv.c)∧wx.cell? ⟨qUa,1,none⟩=some (.slice Ua.pt.A Ua.pt.n Ua.pt.c)∧wx.cell? ⟨qUa,2,none⟩=some (.slice Ua.lk.A Ua.lk.n Ua.lk.c)∧wx.cell? ⟨qUa,3,none⟩=some (.slice Ua.dm.A Ua.dm.n Ua.dm.c)∧wx.cell? ⟨qUa,4,none⟩=some (.slice Ua.st.A Ua.st.n Ua.st.c)∧wx.cell? ⟨qUa,5,none⟩=some (.slice Ua.fl.A Ua.fl.n Ua.fl.c)∧wx.cell? ⟨qUa,6,none⟩=some (.slice Ua.vr.A Ua.vr.n Ua.vr.c)∧wx.cell? ⟨qUa,7,none⟩=some (.slice Ua.ir.A Ua.ir.n Ua.ir.c))∧qUa<wx.heap.size∧NRead wx (vAs wx) ND Ua∧(wx.cell? ⟨qUb,0,none⟩=some (.slice Ub.dv.A Ub.dv.n Ub.dv.c)∧wx.cell? ⟨qUb,1,none⟩=some (.slice Ub.pt.A Ub.pt.n Ub.pt.c)∧wx.cell? ⟨qUb,2,none⟩=some (.slice Ub.lk.A Ub.lk.n Ub.lk.c)∧wx.cell? ⟨qUb,3,none⟩=some (.slice Ub.dm.A Ub.dm.n Ub.dm.c)∧wx.cell? ⟨qUb,4,none⟩=some (.slice Ub.st.A Ub.st.n Ub.st.c)∧wx.cell? ⟨qUb,5,none⟩=some (.slice Ub.fl.A Ub.fl.n Ub.fl.c)∧wx.cell? ⟨qUb,6,none⟩=some (.slice Ub.vr.A Ub.vr.n Ub.vr.c)∧wx.cell? ⟨qUb,7,none⟩=some (.slice Ub.ir.A Ub.ir.n Ub.ir.c))∧qUb<wx.heap.size∧NRead wx (vAs wx) ND Ub from fun wx hx=>by
  have zUa:=vAa Z_Ua.out hx;have nbUa:=NB_Ua.out.below zUa;have zUb:=vAa Z_Ub.out hx;have nbUb:=NB_Ub.out.below zUb
  exact ⟨⟨nbUa.c0,nbUa.c1,nbUa.c2,nbUa.c3,nbUa.c4,nbUa.c5,nbUa.c6,nbUa.c7⟩,nbUa.lt,N_Ua.out.up zUa,⟨nbUb.c0,nbUb.c1,nbUb.c2,nbUb.c3,nbUb.c4,nbUb.c5,nbUb.c6,nbUb.c7⟩,nbUb.lt,N_Ub.out.up zUb⟩)
 have I0:=hid (Below.refl w6.heap.size w6);obtain ⟨⟨a0,a1,a2,a3,a4,a5,a6,a7⟩,lUa,nUa,⟨b0,b1,b2,b3,b4,b5,b6,b7⟩,lUb,nUb⟩:=KB.out _ I0.out
 have e1:(ED == ED)=true:=by simp
 go_wp2_with (first
  |(go_at_call 10;(with_reducible refine (SM.out ND Ua Ub _ nUa nUb).mono ?_);rintro e wa ⟨rfl,hb⟩;have I1:=hid (vAa I0.out hb);clear nUa nUb;obtain ⟨⟨a0,a1,a2,a3,a4,a5,a6,a7⟩,lUa,_,⟨b0,b1,b2,b3,b4,b5,b6,b7⟩,lUb,_⟩:=KB.out _ I1.out;clear hb)
  |(go_at_call 7;(with_reducible refine (works18_any _ (HL.out _ (X6.out.trans (I1.out.mono X6.out.size)))).mono ?_);rintro e wc ⟨rfl,hb⟩;have I3:=hid (vAa I1.out hb);clear hb))
 go_ret;exact ⟨rfl,X6.out.trans (I3.out.mono X6.out.size)⟩
open Go.ChangeShapes Go.WideShapes Go.ChangeAt Go.RowKit
section
variable {H:Type} {enc:TypeId×Value→H} {P:Program} {w:World} {sp:Nat→Bool} {held:Bool}
theorem add_none (b off i:Nat):(⟨b,off,none⟩:Addr).add i=⟨b,off+i,none⟩:=by unfold Addr.add;split<;>simp_all
def numOfC:Option Value→Int
 |some (.int _ z)=>z
 |_=>0
theorem at1 {cs:List Value} {o:Nat} {v:Value} (h:(cs.drop o).take 1=[v]):cs[o]?=some v:=by
 have:=congrArg (·[0]?) h
 simpa [List.getElem?_take,List.getElem?_drop] using this
theorem vHf (s:ByteArray):str s.data.toList=s:=by
 obtain ⟨⟨l⟩⟩:=s
 rfl
theorem vCs:Tryz.prog.cellsOf 3=1:=by kernel_rfl
theorem vDg:Tryz.prog.cellsOf 9=1:=by kernel_rfl
theorem cells_uint64:Tryz.prog.cellsOf 32=1:=by kernel_rfl
theorem vIh:Tryz.prog.cellsOf 33=1:=by kernel_rfl
theorem vHo:Tryz.prog.cellsOf 34=1:=by kernel_rfl
theorem cells_uints:Tryz.prog.cellsOf 35=1:=by kernel_rfl
theorem cells_line:Tryz.prog.cellsOf 37=17:=by kernel_rfl
end
end Go.Proofs.YtkpbbfehglihlaaGreatDoor
set_option maxRecDepth 100000
set_option maxHeartbeats 40000000
namespace Go.Proofs.YtkpbbfehglihlaaGreatDoor
open Go.ChangeShapes Go.WideShapes Go.ChangeAt Go.RowKit
section
variable {H:Type} {enc:TypeId×Value→H} {P:Program} {w:World} {sp:Nat→Bool} {held:Bool}
theorem wf_i {z:Int} (h:(Lit.int .i64 z).wf=true):I64 z:=by simp [Lit.wf,IntKind.min,IntKind.max,IntKind.signed,IntKind.bits] at h;exact ⟨by omega,by omega⟩
theorem wf_u {z:Int} (h:(Lit.int .u64 z).wf=true):0≤z∧z<18446744073709551616:=by simp [Lit.wf,IntKind.min,IntKind.max,IntKind.signed,IntKind.bits] at h;exact ⟨by omega,by omega⟩
theorem wf_v {z:Int} (h:(Lit.int .u32 z).wf=true):0≤z∧z<4294967296:=by simp [Lit.wf,IntKind.min,IntKind.max,IntKind.signed,IntKind.bits] at h;exact ⟨by omega,by omega⟩
theorem isl_wf {fuel:Nat} {t e:TypeId} {k:IntKind} {cs:List Value} {x:DataW H×List MemPlace} (ht:P.underlying t=some (.slice e)) (he:P.underlying e=some (.int k)) (hce:P.cellsOf e=1) (h:DataW.trod enc P w 0 sp held fuel t cs=some x):
 ∃(s:SlV) (xs:List Int),cs=[.slice s.A s.n s.c]∧ISl w k s.A s.n s.c xs∧∀x∈xs,(Lit.int k x).wf=true:=by
 rcases Go.Deep.open_slice ht h with ⟨rfl,_⟩|⟨a,len,cap,m,n,D,Pl,rfl,_,hl,hm,hmm,_,hx⟩
 · exact ⟨SlV.nil,[],rfl,ISl.nil,fun x hx=>by cases hx⟩
 · have hlm:len≤m:=by rw [hmm];split<;>omega
   have hcell:∀i,i<len→∃z,w.cell? (a.add i)=some (.int k z)∧(Lit.int k z).wf=true:=fun i hi=>by
    obtain ⟨cs',h1,h2⟩:=hx i (by omega);obtain ⟨z,rfl,_,hwf⟩:=DataW.trod_int he h2;have h3:=(World.cells?_some h1).2.2 0 (by rw [hce];omega);rw [hce,Nat.mul_one] at h3;refine ⟨z,?_,hwf⟩
    have:(a.add i).add 0=a.add i:=by unfold Addr.add;simp
    rw [this] at h3;exact h3
   refine ⟨⟨some a,len,cap⟩,(List.range len).map fun i=>numOfC (w.cell? (a.add i)),rfl,⟨by simp,hl,hm,fun hn=>?_⟩,fun x hx=>?_⟩
   · obtain ⟨b,off,spot⟩:=a
     obtain ⟨z0,hz0,_⟩:=hcell 0 hn
     have hspot:spot=none:=by simpa [Addr.add] using World.cell?_spot hz0
     subst hspot;refine ⟨b,off,rfl,?_,fun i hi=>?_⟩
     · have:=World.block_lt_of_cell? w _ hz0
       rw [add_none] at this;exact this
     · obtain ⟨z,hz,_⟩:=hcell i hi
       have e2:((List.range len).map fun i=>numOfC (w.cell? ((⟨b,off,none⟩:Addr).add i))).getD i 0=z:=by
        rw [List.getD,List.getElem?_map,List.getElem?_range hi]
        show numOfC (w.cell? _)=z
        rw [hz]
        rfl
       rw [e2,←hz,add_none]
   · obtain ⟨i,hi,rfl⟩:=List.mem_map.1 hx
     obtain ⟨z,hz,hwf⟩:=hcell i (List.mem_range.1 hi);rw [hz];exact hwf
theorem line_par {fuel:Nat} {cs:List Value} {x:DataW H×List MemPlace} (h:DataW.trod enc Tryz.prog w 0 sp held fuel 37 cs=some x):
 ∃(L:LV) (s1 s2 s3 s4:SlV),cs=vEk L s1 s2 s3 s4∧LRead w L s1 s2 s3 s4∧LvW L:=by
 obtain ⟨xs,n,_,rfl,hl,hlen,hf⟩:=DataW.trod_struct Tryz.underlying37 h;rw [cells_line] at hl
 have hx:∀i,i<17→∃y,xs[i]?=some y:=fun i hi=>⟨_,List.getElem?_eq_getElem (by rw [hlen];exact hi)⟩
 obtain ⟨y0,g0⟩:=vFh (cs:=cs) 0 (hf 0 _ rfl) (hx 0 (by omega)) vCs;obtain ⟨z0,q0,_,v0⟩:=DataW.trod_int Tryz.underlying3 g0;obtain ⟨y1,g1⟩:=vFh 1 (hf 1 _ rfl) (hx 1 (by omega)) vCs;obtain ⟨z1,q1,_,v1⟩:=DataW.trod_int Tryz.underlying3 g1;obtain ⟨y2,g2⟩:=vFh 2 (hf 2 _ rfl) (hx 2 (by omega)) vDg;obtain ⟨z2,q2,_⟩:=DataW.trod_string Tryz.underlying9 g2;obtain ⟨y3,g3⟩:=vFh 3 (hf 3 _ rfl) (hx 3 (by omega)) vDg
 obtain ⟨z3,q3,_⟩:=DataW.trod_string Tryz.underlying9 g3;obtain ⟨y4,g4⟩:=vFh 4 (hf 4 _ rfl) (hx 4 (by omega)) vDg;obtain ⟨z4,q4,_⟩:=DataW.trod_string Tryz.underlying9 g4;obtain ⟨y5,g5⟩:=vFh 5 (hf 5 _ rfl) (hx 5 (by omega)) vDg;obtain ⟨z5,q5,_⟩:=DataW.trod_string Tryz.underlying9 g5;obtain ⟨y6,g6⟩:=vFh 6 (hf 6 _ rfl) (hx 6 (by omega)) vDg;obtain ⟨z6,q6,_⟩:=DataW.trod_string Tryz.underlying9 g6
 obtain ⟨y7,g7⟩:=vFh 7 (hf 7 _ rfl) (hx 7 (by omega)) cells_uint64;obtain ⟨z7,q7,_,v7⟩:=DataW.trod_int Tryz.underlying32 g7;obtain ⟨y8,g8⟩:=vFh 8 (hf 8 _ rfl) (hx 8 (by omega)) vIh;obtain ⟨z8,q8,_,v8⟩:=DataW.trod_int Tryz.underlying33 g8;obtain ⟨y9,g9⟩:=vFh 9 (hf 9 _ rfl) (hx 9 (by omega)) vCs;obtain ⟨z9,q9,_,v9⟩:=DataW.trod_int Tryz.underlying3 g9;obtain ⟨y10,g10⟩:=vFh 10 (hf 10 _ rfl) (hx 10 (by omega)) vCs
 obtain ⟨z10,q10,_,v10⟩:=DataW.trod_int Tryz.underlying3 g10;obtain ⟨y11,g11⟩:=vFh 11 (hf 11 _ rfl) (hx 11 (by omega)) vCs;obtain ⟨z11,q11,_,v11⟩:=DataW.trod_int Tryz.underlying3 g11;obtain ⟨y12,g12⟩:=vFh 12 (hf 12 _ rfl) (hx 12 (by omega)) vCs;obtain ⟨z12,q12,_,v12⟩:=DataW.trod_int Tryz.underlying3 g12;obtain ⟨y13,g13⟩:=vFh 13 (hf 13 _ rfl) (hx 13 (by omega)) vHo;obtain ⟨z13,l13,q13,r13,v13⟩:=isl_wf Tryz.underlying34 Tryz.underlying3 vCs g13
 obtain ⟨y14,g14⟩:=vFh 14 (hf 14 _ rfl) (hx 14 (by omega)) vHo;obtain ⟨z14,l14,q14,r14,v14⟩:=isl_wf Tryz.underlying34 Tryz.underlying3 vCs g14;obtain ⟨y15,g15⟩:=vFh 15 (hf 15 _ rfl) (hx 15 (by omega)) vHo;obtain ⟨z15,l15,q15,r15,v15⟩:=isl_wf Tryz.underlying34 Tryz.underlying3 vCs g15;obtain ⟨y16,g16⟩:=vFh 16 (hf 16 _ rfl) (hx 16 (by omega)) cells_uints;obtain ⟨z16,l16,q16,r16,v16⟩:=isl_wf Tryz.underlying35 Tryz.underlying33 vIh g16
 refine ⟨⟨z0,z1,z2.data.toList,z3.data.toList,z4.data.toList,z5.data.toList,z6.data.toList,z7,z8,z9,z10,z11,z12,l13,l14,l15,l16⟩,z13,z14,z15,z16,?_,⟨r13,r14,r15,r16⟩,⟨wf_i v0,wf_i v1,wf_u v7,wf_v v8,wf_i v9,wf_i v10,wf_i v11,wf_i v12,fun x hx=>wf_i (v13 x hx),fun x hx=>wf_i (v14 x hx),fun x hx=>wf_i (v15 x hx),fun x hx=>wf_v (v16 x hx)⟩⟩
 apply List.ext_getElem?
 intro i
 match i with
 |0=>rw [at1 q0];rfl
 |1=>rw [at1 q1];rfl
 |2=>rw [at1 q2];show _=some (Value.string (str z2.data.toList));rw [vHf]
 |3=>rw [at1 q3];show _=some (Value.string (str z3.data.toList));rw [vHf]
 |4=>rw [at1 q4];show _=some (Value.string (str z4.data.toList));rw [vHf]
 |5=>rw [at1 q5];show _=some (Value.string (str z5.data.toList));rw [vHf]
 |6=>rw [at1 q6];show _=some (Value.string (str z6.data.toList));rw [vHf]
 |7=>rw [at1 q7];rfl
 |8=>rw [at1 q8];rfl
 |9=>rw [at1 q9];rfl
 |10=>rw [at1 q10];rfl
 |11=>rw [at1 q11];rfl
 |12=>rw [at1 q12];rfl
 |13=>rw [at1 q13];rfl
 |14=>rw [at1 q14];rfl
 |15=>rw [at1 q15];rfl
 |16=>rw [at1 q16];rfl
 |i+17=>rw [List.getElem?_eq_none (by omega)];rfl
end
open Go.ChangeShapes Go.WideShapes Go.ChangeAt Go.RowKit
theorem own:ownKnob Tryz.prog.godebug=none:=by kernel_rfl
theorem laidOut:laidOutB Tryz.prog=true:=by kernel_rfl
abbrev laid18:List (String×DataW Unit):=Rows.domainsStaticsRow.laid
theorem gPow:Tryz.prog.globalNamed "internal/strconv.uint64pow10"=some 0:=by kernel_rfl
theorem tPow:(Tryz.prog.globals[0]?).map (·.type)=some 231:=by kernel_rfl
theorem powData:(Rows.laid_internal_strconv_uint64pow10:DataW Unit)=Lib.tabData .u64 Lib.pow10Tab:=by kernel_rfl
theorem tab_of {W:World} (h:laidMetH Tryz.prog laid18 W):Lib.TabIs Tryz.prog W "internal/strconv.uint64pow10" .u64 Lib.pow10Tab:=by
 rw [MakeChecks.laidMetH_plain _ _ _ (by kernel_rfl)] at h;have h2:=h.tail.tail;rw [powData] at h2;exact Lib.tabIs_of_head gPow tPow Tryz.underlying231 Tryz.underlying32 (by kernel_rfl) (by kernel_rfl) h2
theorem door_met (os:Os) (args:Array Value):laidMetH Tryz.prog laid18 ((World.doorLaid Tryz.prog 24 os).forCall (fun _ _=>0) ⟨#[],args,[]⟩).memory:=
 laidMetH_of_parts3 (fuel:=8) (laidMet_of_run' 8 (by kernel_rfl) (by kernel_rfl)) (by kernel_rfl) (by kernel_rfl)
theorem ldp_of {W:World} (h:laidMetH Tryz.prog laid18 W):LdP W:=tab_of h
end Go.Proofs.YtkpbbfehglihlaaGreatDoor
