import Derived.Test.YtgmflecelnefcaaGreatOp46
import Derived.Test.YtgmflecelnefcaaGreatOp42
import Derived.Test.YtgmflecelnefcaaGreatOp43
import Derived.Test.YtgmflecelnefcaaGreatOp02
import Derived.Test.YtgmflecelnefcaaGreatOp13
set_option maxRecDepth 100000
set_option maxHeartbeats 40000000
namespace Go.Proofs.YtgmflecelnefcaaGreat
open Go.Lib (hid)
open Go.RowKit
theorem vHf (tmps:Array Value) (W:World) (S:NSl3) (q:Nat) (R E:Int) (h2:tmps[2]?.getD undef=.pointer (some ⟨q,0,none⟩)) (h3:tmps[3]?.getD undef=.int .i64 R) (h5:tmps[4]?.getD undef=.int .i64 E) (hb:TBx W q 31 (vBk S)):
 (results Tryz.f17 tmps).run Tryz.prog W=.ok (.tuple #[vAm S,.int .i64 R,.int .i64 E]) W:=by
 have t0:=hb.cell 0 _ rfl;have t1:=hb.cell 1 _ rfl;have t2:=hb.cell 2 _ rfl;have t3:=hb.cell 3 _ rfl;have t4:=hb.cell 4 _ rfl;have t5:=hb.cell 5 _ rfl;have t6:=hb.cell 6 _ rfl;have t7:=hb.cell 7 _ rfl;clear hb;unfold vAm;simp [results,Tryz.results17,go_sem,h2,h3,h5,t0,t1,t2,t3,t4,t5,t6,t7]
structure MeI (S U:NSl3) (D:DomV) (t:Sl3) (k g q6:Nat) (V:Int) (PL:List Int) (y41:Value) (w W:World) (x33 x34 x35 x36 x37 x38 x39 x40:Value) (d:Nat→Bool) (w':World):Prop where
 h33:d 0=true→x33=(.pointer (some ⟨w.heap.size+1,3,none⟩))
 h34:d 1=true→x34=(.slice (some ⟨g,0,none⟩) U.dm.n U.dm.c)
 h35:d 2=true→x35=(.int .i64 (k:Int))
 h36:d 3=true→x36=(.agg #[.slice S.dv.A S.dv.n S.dv.c,.slice S.pt.A S.pt.n S.pt.c,.slice S.lk.A S.lk.n S.lk.c,.slice S.dm.A S.dm.n S.dm.c,.slice S.st.A S.st.n S.st.c,.slice S.fl.A S.fl.n S.fl.c,.slice S.vr.A S.vr.n S.vr.c,.slice S.ir.A S.ir.n S.ir.c])
 h37:d 4=true→x37=(.agg #[.int .i64 D.dev,.int .i64 D.vlan,.int .i64 D.vni,.int .i64 D.irb,.int .i64 D.row,.slice t.A t.n t.c])
 h39:d 6=true→x39=(.pointer (some ⟨g,k * 6,none⟩))
 h40:d 7=true→x40=(.pointer (some ⟨g,k * 6+5,none⟩))
 n81:d 8=true→d 1=true
 n83:d 8=true→d 3=true
 n84:d 8=true→d 4=true
 n85:d 8=true→d 5=true
 n53:d 5=true→d 3=true
 n54:d 5=true→d 4=true
 n6:d 6=true→d 1=true
 n7:d 7=true→d 6=true
 r1:d 5=true→∃s:Sl3,x38=.slice s.A s.n s.c∧(d 8=false→OwnI .i64 3 w' W.heap.size s PL)
 b:d 8=false→Below W.heap.size W w'
 fin:d 8=true→∃(s:Sl3) (wq:World),Below W.heap.size W wq∧OwnI .i64 3 wq W.heap.size s PL∧w'=wq.setCell ⟨g,k * 6+5,none⟩ (.slice s.A s.n s.c)
inductive MeW (S U:NSl3) (D:DomV) (t:Sl3) (k g q6:Nat) (V:Int) (PL:List Int) (y41:Value) (w W:World) (d:Nat→Bool):Act→World→Prop
 |mk {x33 x34 x35 x36 x37 x38 x39 x40:Value} {w':World}:MeI S U D t k g q6 V PL y41 w W x33 x34 x35 x36 x37 x38 x39 x40 d w'→MeW S U D t k g q6 V PL y41 w W d {tmps:=#[(.agg #[.slice S.dv.A S.dv.n S.dv.c,.slice S.pt.A S.pt.n S.pt.c,.slice S.lk.A S.lk.n S.lk.c,.slice S.dm.A S.dm.n S.dm.c,.slice S.st.A S.st.n S.st.c,.slice S.fl.A S.fl.n S.fl.c,.slice S.vr.A S.vr.n S.vr.c,.slice S.ir.A S.ir.n S.ir.c]),(.pointer (some ⟨w.heap.size,0,none⟩)),(.pointer (some ⟨w.heap.size+1,0,none⟩)),(.int .i64 0),(.int .i64 0),(.int .i64 V),(.int .i64 (k:Int)),(.pointer (some ⟨q6,0,none⟩)),(.agg #[.slice S.dv.A S.dv.n S.dv.c,.slice S.pt.A S.pt.n S.pt.c,.slice S.lk.A S.lk.n S.lk.c,.slice S.dm.A S.dm.n S.dm.c,.slice S.st.A S.st.n S.st.c,.slice S.fl.A S.fl.n S.fl.c,.slice S.vr.A S.vr.n S.vr.c,.slice S.ir.A S.ir.n S.ir.c]),(.bool true),(.bool false),undef,(.agg #[.slice S.dv.A S.dv.n S.dv.c,.slice S.pt.A S.pt.n S.pt.c,.slice S.lk.A S.lk.n S.lk.c,.slice S.dm.A S.dm.n S.dm.c,.slice S.st.A S.st.n S.st.c,.slice S.fl.A S.fl.n S.fl.c,.slice S.vr.A S.vr.n S.vr.c,.slice S.ir.A S.ir.n S.ir.c]),(.int .i64 V),(.int .i64 V),(.bool false),undef,undef,undef,undef,undef,undef,undef,(.agg #[.slice S.dv.A S.dv.n S.dv.c,.slice S.pt.A S.pt.n S.pt.c,.slice S.lk.A S.lk.n S.lk.c,.slice S.dm.A S.dm.n S.dm.c,.slice S.st.A S.st.n S.st.c,.slice S.fl.A S.fl.n S.fl.c,.slice S.vr.A S.vr.n S.vr.c,.slice S.ir.A S.ir.n S.ir.c]),(.agg #[.slice U.dv.A U.dv.n U.dv.c,.slice U.pt.A U.pt.n U.pt.c,.slice U.lk.A U.lk.n U.lk.c,.slice U.dm.A U.dm.n U.dm.c,.slice U.st.A U.st.n U.st.c,.slice U.fl.A U.fl.n U.fl.c,.slice U.vr.A U.vr.n U.vr.c,.slice U.ir.A U.ir.n U.ir.c]),(.pointer (some ⟨w.heap.size+1,3,none⟩)),(.slice (some ⟨g,0,none⟩) U.dm.n U.dm.c),(.int .i64 (U.dm.n:Int)),(.int .i64 (k:Int)),(.bool true),(.int .i64 (k:Int)),(.pointer (some ⟨g,k * 6,none⟩)),(.agg #[.int .i64 D.dev,.int .i64 D.vlan,.int .i64 D.vni,.int .i64 D.irb,.int .i64 D.row,.slice t.A t.n t.c]),x33,x34,x35,x36,x37,x38,x39,x40,y41,undef,undef,undef,undef,undef],defers:=[]} w'
theorem xmesh_b (N:NV) (S:NSl3) (w:World) (h:NRead w (vAp w) N S) (hz:NvSz N) (hm:NmSz N):Calls Tryz.prog 17 #[vAm S] w (GotMeB (meN N) (meR N) (meE N) w):=by
 have UP:=hid (fun (w':World) (hb:Below w.heap.size w w')=>h.up hb)
 have NR:=fun (w':World) (hb:Below w.heap.size w w')=>vDt N S w' (h.up hb) hz
 have CP:=fun (w':World) (hb:Below w.heap.size w w')=>xncopy_co N S w' (h.up hb) hz hm
 have HFL:=hid h.fl;have fle:=h.fl.le;have fcap:=h.fl.cap;have FLEN:=hid h.fl.len;have HZ:=hid hz;obtain ⟨nb,hnb⟩:∃b,vHw N=b:=⟨_,rfl⟩;have HNB:=hid hnb;rw [hnb] at NR;unfold vAm at NR CP ⊢;unfold GotCo vAm at CP;replace NR:=hid NR;replace CP:=hid CP
 have K0:=hid (show ∀W,(w.alloc (.cells (nA S) 31)).alloc (.cells zA 31)=W→Below w.heap.size w W∧TBx W w.heap.size 31 (vBk S)∧TBx W (w.heap.size+1) 31 (vBk NSl3.nil) from fun W e=>by
  subst e;refine ⟨vAa (vAc _ _) (vAc _ _),(TBx.new w (nA S) 31).below (vAc _ _),?_⟩;have t:=TBx.new (w.alloc (.cells (nA S) 31)) zA 31;rw [show (w.alloc (.cells (nA S) 31)).heap.size=w.heap.size+1 by simp] at t
  exact t)
 clear h hz hm hnb
 go_enter Tryz.func17,Tryz.ntmps17
 go_upto_region 1 with fail
 generalize hw1:World.alloc _ _=w1;obtain ⟨B1,TB,RB⟩:=K0.out w1 hw1;replace B1:=hid B1;replace TB:=hid TB;replace RB:=hid RB;clear hw1 K0
 have KN:=hid (show ∀wx,Below (w.heap.size+1) w1 wx→NF wx w.heap.size S∧w.heap.size<wx.heap.size∧Below w.heap.size w wx from fun wx hx=>by
  have tb:=TB.out.same (w':=wx) (hx.block w.heap.size (Nat.lt_succ_self _))
  exact ⟨⟨tb.cell 0 _ rfl,tb.cell 1 _ rfl,tb.cell 2 _ rfl,tb.cell 3 _ rfl,tb.cell 4 _ rfl,tb.cell 5 _ rfl,tb.cell 6 _ rfl,tb.cell 7 _ rfl⟩,tb.lt,B1.out.trans (hx.mono (Nat.le_succ _))⟩)
 have LW:=hid (show w.heap.size+1<w1.heap.size from RB.out.lt);have Y1:=hid (Below.refl w1.heap.size w1);obtain ⟨⟨f0,f1,f2,f3,f4,f5,f6,f7⟩,_⟩:=KN.out w1 (Below.refl _ _)
 cases nb
 · have EV:=hid (me_2 HNB.out)
   go_wp2_with (go_at_call 23;(with_reducible refine (NR.out _ B1.out).mono ?_);rintro e w2 ⟨rfl,b_⟩;have X2:=hid (vAa B1.out b_);have R2:=RB.out.below b_;have R2h:=hid R2;have rl_:=R2.lt;obtain ⟨r0,z0,r1,z1,r2,z2,r3,z3,r4,z4,r5,z5,r6,z6,r7,z7⟩:=R2.zero8;clear b_ R2);refine bodyPost_ret (vHf _ (st8 w2 (w.heap.size+1) NSl3.nil) NSl3.nil (w.heap.size+1) 0 2 rfl rfl rfl (R2h.out.st8 NSl3.nil)) rfl ?_
   rw [EV.out.1,EV.out.2.1,EV.out.2.2];exact ⟨NSl3.nil,rfl,vCh _ _,Below.st8 X2.out (by omega) NSl3.nil⟩
 have hn:=(netB_iff N).1 HNB.out;obtain ⟨V,hV,hVK⟩:=agK_fst N N.floods
 have WR:=fun (w':World) (hb:Below w.heap.size w w')=>xwrong_any N S w' (UP.out w' hb) hn V (by rw [←FLEN.out];exact hV)
 unfold vAm at WR;replace WR:=hid WR;have HVK:=hid hVK;clear hV hVK
 by_cases c1:V= -1
 rotate_left
 · have y1:(V != -1)=true:=by simpa using c1
   obtain ⟨k,hk,ek,eg⟩:=HVK.out.resolve_left (fun e=>c1 e.1);subst ek;have EV:=hid (me_36 HNB.out eg);obtain ⟨bf,of,vs,ef,_,hbf,⟨u,rfl,_⟩,rf_⟩:=vAi HFL.out k (by have:=FLEN.out;omega) FloodV.zero
   have lk:(k:Int)<(S.fl.n:Int):=by have:=FLEN.out;omega
   have EF:=hid ef;generalize N.floods.getD k FloodV.zero=f at *;clear c1 eg ef
   go_upto_region 5 with (first
    |(go_at_call 23;(with_reducible refine (NR.out _ B1.out).mono ?_);rintro e w2 ⟨rfl,b_⟩;have Y2:=hid b_;have X2:=hid (vAa B1.out b_);obtain ⟨⟨f0,f1,f2,f3,f4,f5,f6,f7⟩,_⟩:=KN.out _ (b_.mono (Nat.le_of_lt LW.out));clear b_)
    |(go_at_call 41;(with_reducible refine (WR.out _ X2.out).mono ?_);rintro e w3 ⟨rfl,b_⟩;have Y3:=hid (vAa Y2.out b_);have X3:=hid (vAa X2.out b_);obtain ⟨⟨f0,f1,f2,f3,f4,f5,f6,f7⟩,_⟩:=KN.out _ (Y3.out.mono (Nat.le_of_lt LW.out));clear b_))
   clear f0 f1 f2 f3 f4 f5 f6 f7;obtain ⟨W0,hW0⟩:∃W0,w3.drew=W0:=⟨_,rfl⟩;have V0:=hid (show Below w1.heap.size w1 W0 from hW0▸vAd Y3.out 1);have HX:=hid hW0;clear hW0;have R0:=hid (RB.out.below V0.out);obtain ⟨W1,hW1⟩:∃W1,st8 W0 (w.heap.size+1) NSl3.nil=W1:=⟨_,rfl⟩;have H1:=hid hW1;have R1:=hid (show TBx W1 (w.heap.size+1) 31 (vBk NSl3.nil) by rw [←hW1];exact R0.out.st8 NSl3.nil)
   have V1:=hid (show Below (w.heap.size+1) w1 W1 by rw [←hW1];exact Below.st8 (V0.out.mono (Nat.le_of_lt LW.out)) (Nat.le_refl _) NSl3.nil);clear hW1
   have CB:=hid (fun m wx (hx:PhL [W0,W1] m wx)=>hx.all (P:=fun x=>x.cell? ⟨w.heap.size,5,none⟩=some (.slice (some ⟨bf,of,none⟩) S.fl.n S.fl.c)∧x.cell? ⟨bf,of+k * 4,none⟩=some (.int .i64 f.row)∧w.heap.size<x.heap.size) (by
    have key:∀x,Below (w.heap.size+1) w1 x→x.cell? ⟨w.heap.size,5,none⟩=some (.slice (some ⟨bf,of,none⟩) S.fl.n S.fl.c)∧x.cell? ⟨bf,of+k * 4,none⟩=some (.int .i64 f.row)∧w.heap.size<x.heap.size:=fun x hx=>by
     obtain ⟨⟨_,_,_,_,_,f5,_⟩,l,hb⟩:=KN.out x hx;rw [EF.out] at f5;have r:x.cell? ⟨bf,of+k * 4,none⟩=some (.int .i64 f.row):=vAb rf_ (hb.block bf hbf) 0 _ rfl;exact ⟨f5,r,l⟩
    intro x hx;simp only [List.mem_cons,List.not_mem_nil,or_false] at hx
    rcases hx with rfl|rfl
    · exact key _ (V0.out.mono (Nat.le_of_lt LW.out))
    · exact key _ V1.out))
   refine vAs (PhL [W0,W1]) [7] (by kernel_rfl) (by kernel_rfl) (by kernel_rfl) (by rw [HX.out];rfl) ?_
   repeat
    first
     |(refine SeqP.run ?_ 1 (vEk _ _ _ _) rfl (by decide) (fun m hm wx hx=>?_) ?_
       rotate_left
       · obtain ⟨f5,c_,l_⟩:=CB.out m wx hx
         go_simp
         refine StepRun.val ?_;exact hx
       simp only [Act.put,List.setIfInBounds_toArray,List.set_cons_zero,List.set_cons_succ])
     |(refine SeqP.make undef 0 rfl rfl (fun wx hx=>?_) ?_
       · obtain rfl:W0=wx:=Option.some.inj hx
         have rl_:=R0.out.lt;obtain ⟨r0,z0,r1,z1,r2,z2,r3,z3,r4,z4,r5,z5,r6,z6,r7,z7⟩:=R0.out.zero8
         go_simp
         exact ⟨rfl,by rw [←H1.out];rfl⟩
       simp only [Act.put])
   refine SeqP.last rfl (fun w9 h9=>?_);obtain rfl:W1=w9:=Option.some.inj h9;clear CB HX H1;go_wp2;refine bodyPost_ret (vHf _ W1 NSl3.nil (w.heap.size+1) f.row 36 rfl rfl rfl R1.out) rfl ?_;rw [EV.out.1,EV.out.2.1,EV.out.2.2];exact ⟨NSl3.nil,rfl,vCh _ _,B1.out.trans (V1.out.mono (Nat.le_succ _))⟩
 have y1:(V != -1)=false:=by simpa using c1
 have AGN:=hid (agK_none ((HVK.out.resolve_right (fun ⟨k,_,e,_⟩=>by omega)).2));have AG0:=hid ((HVK.out.resolve_right (fun ⟨k,_,e,_⟩=>by omega)).2);clear c1 HVK
 go_upto_region 6 with (first
  |(go_at_call 23;(with_reducible refine (NR.out _ B1.out).mono ?_);rintro e w2 ⟨rfl,b_⟩;have Y2:=hid b_;have X2:=hid (vAa B1.out b_);obtain ⟨⟨f0,f1,f2,f3,f4,f5,f6,f7⟩,_⟩:=KN.out _ (b_.mono (Nat.le_of_lt LW.out));clear b_)
  |(go_at_call 41;(with_reducible refine (WR.out _ X2.out).mono ?_);rintro e w3 ⟨rfl,b_⟩;have Y3:=hid (vAa Y2.out b_);have X3:=hid (vAa X2.out b_);obtain ⟨⟨f0,f1,f2,f3,f4,f5,f6,f7⟩,_⟩:=KN.out _ (Y3.out.mono (Nat.le_of_lt LW.out));clear b_))
 clear f0 f1 f2 f3 f4 f5 f6 f7;have R3:=RB.out.below Y3.out;have rl_:=R3.lt;obtain ⟨r0,z0,r1,z1,r2,z2,r3,z3,r4,z4,r5,z5,r6,z6,r7,z7⟩:=R3.zero8;clear R3;obtain ⟨⟨f0,f1,f2,f3,f4,f5,f6,f7⟩,_⟩:=KN.out _ (Y3.out.mono (Nat.le_of_lt LW.out))
 go_upto_region 7 with (go_at_call 42;(with_reducible refine (CP.out _ X3.out).mono ?_);rintro e w4 ⟨U,rfl,hown,b_⟩;have OW:=hid hown;have Y4:=hid (vAa Y3.out b_);have X4:=hid (vAa X3.out b_);have B34:=hid b_.size;clear f0 f1 f2 f3 f4 f5 f6 f7 r0 z0 r1 z1 r2 z2 r3 z3 r4 z4 r5 z5 r6 z6 r7 z7 rl_;have R4:=RB.out.below Y4.out;have rl_:=R4.lt;obtain ⟨r0,z0,r1,z1,r2,z2,r3,z3,r4,z4,r5,z5,r6,z6,r7,z7⟩:=R4.zero8;clear R4;clear hown b_)
 clear r0 z0 r1 z1 r2 z2 r3 z3 r4 z4 r5 z5 r6 z6 r7 z7 rl_;generalize hw5:World.setCell _ _ _=w5;have hw5:st8 w4 (w.heap.size+1) U=w5:=hw5
 have far:∀b,b≠w.heap.size+1→w5.heap[b]?=w4.heap[b]?:=fun b hb=>by rw [←hw5];exact vAx _ _ _ hb
 have hs5:w5.heap.size=w4.heap.size:=by rw [←hw5];exact vBh _ _ _
 have LW3:w.heap.size+1<w3.heap.size:=Nat.lt_of_lt_of_le LW.out Y3.out.size;have l3:=B34.out;have O5:=hid (show NOwn w5 w3.heap.size (fun _=>False) (msK N 0) U from by rw [msK_0];exact OW.out.far (q:=w.heap.size+1) (by rw [hs5];exact Nat.le_refl _) far (by omega) (fun f=>f.elim));have T5:=hid (show TBx w5 (w.heap.size+1) 31 (vBk U) by rw [←hw5];exact (RB.out.below Y4.out).st8 U);have X5:=hid (show Below (w.heap.size+1) w1 w5 by rw [←hw5];exact Below.st8 (Y4.out.mono (by have:=LW.out;omega)) (Nat.le_refl _) U)
 have S35:=hid (show w3.heap.size≤w5.heap.size by rw [hs5];exact l3);have Q3:=hid LW3;have UN:=hid (show N.domains.length=U.dm.n by have:=OW.out.dm.len;omega);have ule:=OW.out.dm.le
 have u9_:U.dm.n≤200:=by have:=HZ.out.zdm;have:=UN.out;omega
 clear hw5 far hs5 LW3 l3 OW Y4 X4 B34 y1 WR;obtain ⟨UA,hUA⟩:∃A,U.dm.A=A:=⟨_,rfl⟩;have EUA:=hid hUA;clear hUA;have u3_:=T5.out.cell 3 (.slice U.dm.A U.dm.n U.dm.c) rfl;have ul_:=T5.out.lt;rw [EUA.out] at u3_;go_wp2;clear u3_ ul_
 go_loopw [28] (fun i wr=>∃k:Nat,i=.int .i64 k∧k≤U.dm.n∧NOwn wr w3.heap.size (fun _=>False) (msK N k) U∧TBx wr (w.heap.size+1) 31 (vBk U)∧Below (w.heap.size+1) w1 wr∧w3.heap.size≤wr.heap.size) (fun i _=>match i with| .int _ y=>(U.dm.n - y).toNat|_=>0)
 case atStart=>exact ⟨0,rfl,by omega,O5.out,T5.out,X5.out,S35.out⟩
 case round=>
 obtain ⟨k,rfl,hk,hO,hT,hX,hS⟩:=hrel;have OR:=hid hO;have TR:=hid hT;have XR:=hid hX;have SR:=hid hS;clear hO hT hX hS;rename World=>w6
 by_cases hlt:k<U.dm.n
 rotate_left
 · have lt2:¬(k:Int)<(U.dm.n:Int):=by omega
   have OE:=hid (show NOwn w6 w3.heap.size (fun _=>False) (msN N) U by have:=OR.out;rw [msK_all (by have:=UN.out;omega)] at this;exact this);have XW:=hid (KN.out _ XR.out).2.2;have SZ:=ms_sz HZ.out hn
   have NR2:=fun (w':World) (hb:Below w6.heap.size w6 w')=>vDt (msN N) U w' (OE.out.read.up hb) SZ
   obtain ⟨mb,hmb⟩:∃b,vHw (msN N)=b:=⟨_,rfl⟩;rw [hmb] at NR2;unfold vAm at NR2;replace NR2:=hid NR2;have MB:=hid hmb;clear SZ hmb;have ub:=TR.out;have ul_:=ub.lt;have t0:=ub.cell 0 (.slice U.dv.A U.dv.n U.dv.c) rfl;have t1:=ub.cell 1 (.slice U.pt.A U.pt.n U.pt.c) rfl;have t2:=ub.cell 2 (.slice U.lk.A U.lk.n U.lk.c) rfl;have t3:=ub.cell 3 (.slice U.dm.A U.dm.n U.dm.c) rfl;have t4:=ub.cell 4 (.slice U.st.A U.st.n U.st.c) rfl
   have t5:=ub.cell 5 (.slice U.fl.A U.fl.n U.fl.c) rfl;have t6:=ub.cell 6 (.slice U.vr.A U.vr.n U.vr.c) rfl;have t7:=ub.cell 7 (.slice U.ir.A U.ir.n U.ir.c) rfl;clear ub
   cases mb
   · have EV:=hid (me_last HNB.out AG0.out MB.out)
     go_wp2_with (go_at_call 23;(with_reducible refine (NR2.out _ (Below.refl _ _)).mono ?_);rintro e w8 ⟨rfl,b_⟩;have X8:=hid (vAa XW.out b_);have T8:=hid (TR.out.below b_);have O8:=hid (OE.out.up b_);clear t0 t1 t2 t3 t4 t5 t6 t7 ul_;have rl_:=T8.out.lt;have t0:=T8.out.cell 0 (.slice U.dv.A U.dv.n U.dv.c) rfl;have z0:=T8.out.live 0;have t1:=T8.out.cell 1 (.slice U.pt.A U.pt.n U.pt.c) rfl;have z1:=T8.out.live 1;have t2:=T8.out.cell 2 (.slice U.lk.A U.lk.n U.lk.c) rfl;have z2:=T8.out.live 2;have t3:=T8.out.cell 3 (.slice U.dm.A U.dm.n U.dm.c) rfl;have z3:=T8.out.live 3;have t4:=T8.out.cell 4 (.slice U.st.A U.st.n U.st.c) rfl;have z4:=T8.out.live 4;have t5:=T8.out.cell 5 (.slice U.fl.A U.fl.n U.fl.c) rfl;have z5:=T8.out.live 5;have t6:=T8.out.cell 6 (.slice U.vr.A U.vr.n U.vr.c) rfl;have z6:=T8.out.live 6;have t7:=T8.out.cell 7 (.slice U.ir.A U.ir.n U.ir.c) rfl;have z7:=T8.out.live 7;clear b_)
     refine bodyPost_ret (vHf _ (st8 w8 (w.heap.size+1) NSl3.nil) NSl3.nil (w.heap.size+1) 0 36 rfl rfl rfl (T8.out.st8 NSl3.nil)) rfl ?_;rw [EV.out.1,EV.out.2.1,EV.out.2.2];exact ⟨NSl3.nil,rfl,vCh _ _,Below.st8 X8.out (by omega) NSl3.nil⟩
   have EV:=hid (me_ok HNB.out AG0.out MB.out);go_wp2_with (go_at_call 23;(with_reducible refine (NR2.out _ (Below.refl _ _)).mono ?_);rintro e w8 ⟨rfl,b_⟩;have X8:=hid (vAa XW.out b_);have T8:=hid (TR.out.below b_);have O8:=hid (OE.out.up b_);clear t0 t1 t2 t3 t4 t5 t6 t7 ul_;have rl_:=T8.out.lt;have t0:=T8.out.cell 0 (.slice U.dv.A U.dv.n U.dv.c) rfl;have z0:=T8.out.live 0;have t1:=T8.out.cell 1 (.slice U.pt.A U.pt.n U.pt.c) rfl;have z1:=T8.out.live 1;have t2:=T8.out.cell 2 (.slice U.lk.A U.lk.n U.lk.c) rfl;have z2:=T8.out.live 2;have t3:=T8.out.cell 3 (.slice U.dm.A U.dm.n U.dm.c) rfl;have z3:=T8.out.live 3;have t4:=T8.out.cell 4 (.slice U.st.A U.st.n U.st.c) rfl;have z4:=T8.out.live 4;have t5:=T8.out.cell 5 (.slice U.fl.A U.fl.n U.fl.c) rfl;have z5:=T8.out.live 5;have t6:=T8.out.cell 6 (.slice U.vr.A U.vr.n U.vr.c) rfl;have z6:=T8.out.live 6;have t7:=T8.out.cell 7 (.slice U.ir.A U.ir.n U.ir.c) rfl;have z7:=T8.out.live 7;clear b_)
   refine bodyPost_ret (vHf _ (st8 w8 (w.heap.size+1) U) U (w.heap.size+1) 0 0 rfl rfl rfl (T8.out.st8 U)) rfl ?_;rw [EV.out.1,EV.out.2.1,EV.out.2.2];have ON:=O8.out.far (w':=st8 w8 (w.heap.size+1) U) (q:=w.heap.size+1) (by rw [vBh];exact Nat.le_refl _) (fun b hb=>vAx _ _ _ hb) Q3.out (fun g=>g);exact ⟨U,rfl,ON.readB.keep (fun _ _=>rfl) (fun b g=>⟨by have:=Q3.out;have:=g.1;omega,g.2⟩),Below.st8 X8.out (by omega) U⟩
 have lt2:(k:Int)<(U.dm.n:Int):=by omega
 have hkl:k<N.domains.length:=by have:=UN.out;omega
 obtain ⟨g,hg,hgB,hgl,hgz,hgc⟩:=OR.out.pcell (by rw [msK_len];omega);obtain ⟨us,⟨t,rfl,lt_⟩,hr⟩:=OR.out.dm.at_ g hg k (by rw [msK_len];exact hkl) DomV.zero
 have PE:=fun (w':World) (hb:Below w.heap.size w w')=>xpeers_any N S (N.domains.getD k DomV.zero) t w' (UP.out w' hb) AGN.out hn
 have NX:=hid (msK_next hkl);rw [msK_at hkl] at hr;have eA:=EUA.out;rw [hg] at eA;subst eA;have HG:=hid hg;have HGB:=hid hgB;have HGL:=hid hgl;have CK:=hid (show (∃v,w6.cell? ⟨g,k * 6+5,none⟩=some v)∧∀o,w6.frozen? ⟨g,o,none⟩=false from ⟨hgc k (by rw [msK_len];exact hkl),hgz⟩);have MSP:=hid (show msP N (N.domains.getD k DomV.zero).dev (N.domains.getD k DomV.zero).vni=(msD N (N.domains.getD k DomV.zero)).peers from rfl)
 have DD:=hid (show msD N (N.domains.getD k DomV.zero)={N.domains.getD k DomV.zero with peers:=msP N (N.domains.getD k DomV.zero).dev (N.domains.getD k DomV.zero).vni} from rfl);have HD:=hid (msK_at hkl);obtain ⟨D,hD⟩:∃D,N.domains.getD k DomV.zero=D:=⟨_,rfl⟩;rw [hD] at PE hr;have T1:=NX.out;have T2:=HD.out;rw [hD] at T1 T2;replace NX:=hid T1;replace HD:=hid T2;obtain ⟨PL,hPL⟩:∃PL,msP N D.dev D.vni=PL:=⟨_,rfl⟩
 have DE:=hid (show msD N D={D with peers:=PL} by rw [←hPL];rfl);rw [hPL] at PE;unfold vAm at PE;replace PE:=hid PE;have d0:=hr 0 _ rfl;have d1:=hr 1 _ rfl;have d2:=hr 2 _ rfl;have d3:=hr 3 _ rfl;have d4:=hr 4 _ rfl;have d5:=hr 5 _ rfl;simp only [Nat.add_zero] at d0;rw [show k * domR.n=k * 6 from rfl] at d0 d1 d2 d3 d4 d5;clear hg hgB hgz hgc lt_ hr hD hPL MSP DD T1 T2 hn
 go_upto_region 10 with fail
 obtain ⟨w7,hw7⟩:∃w7,w6.alloc (.cells #[.int .i64 D.dev,.int .i64 D.vlan,.int .i64 D.vni,.int .i64 D.irb,.int .i64 D.row,.slice t.A t.n t.c] 54)=w7:=⟨_,rfl⟩;have A67:=hid (show Below w6.heap.size w6 w7 by rw [←hw7];exact vAc _ _);have C7:=hid (show Cs w7 w6.heap.size [.int .i64 D.dev,.int .i64 D.vlan,.int .i64 D.vni,.int .i64 D.irb,.int .i64 D.row,.slice t.A t.n t.c] by rw [←hw7];exact Cs.new w6 [.int .i64 D.dev,.int .i64 D.vlan,.int .i64 D.vni,.int .i64 D.irb,.int .i64 D.row,.slice t.A t.n t.c] _)
 obtain ⟨q6,hq6⟩:∃q,w6.heap.size=q:=⟨_,rfl⟩;rw [hq6] at C7;rw [hw7];rw [hq6];clear hw7 d0 d1 d2 d3 d4 d5 hgl;have X7:=hid (show Below (w.heap.size+1) w1 w7 from XR.out.trans (A67.out.mono (by have:=SR.out;have:=Q3.out;omega)));have T7:=hid (TR.out.below A67.out)
 have KR:=hid (show ∀wx,Below w7.heap.size w7 wx→NF wx w.heap.size S∧wx.cell? ⟨w.heap.size+1,3,none⟩=some (.slice (some ⟨g,0,none⟩) U.dm.n U.dm.c)∧(wx.cell? ⟨q6,0,none⟩=some (.int .i64 D.dev)∧wx.cell? ⟨q6,1,none⟩=some (.int .i64 D.vlan)∧wx.cell? ⟨q6,2,none⟩=some (.int .i64 D.vni)∧wx.cell? ⟨q6,3,none⟩=some (.int .i64 D.irb)∧wx.cell? ⟨q6,4,none⟩=some (.int .i64 D.row)∧wx.cell? ⟨q6,5,none⟩=some (.slice t.A t.n t.c))∧w.heap.size<wx.heap.size∧Below w.heap.size w wx from fun wx hx=>by
  obtain ⟨nf,l1,hb⟩:=KN.out wx (X7.out.trans (hx.mono (by have:=X7.out.size;have:=LW.out;omega)));have r:=(C7.out.below hx).1
  exact ⟨nf,by rw [←HG.out];exact (T7.out.below hx).cell 3 _ rfl,⟨r 0 _ rfl,r 1 _ rfl,r 2 _ rfl,r 3 _ rfl,r 4 _ rfl,r 5 _ rfl⟩,l1,hb⟩)
 have CG:=hid (show ∀wx,Below w7.heap.size w7 wx→(∃v,wx.cell? ⟨g,k * 6+5,none⟩=some v)∧wx.frozen? ⟨g,k * 6+5,none⟩=false from fun wx hx=>by
  have hy:=vAa A67.out hx;obtain ⟨⟨v,hv⟩,hz⟩:=CK.out
  exact ⟨⟨v,(hy.cell (p:=⟨g,k * 6+5,none⟩) HGL.out).trans hv⟩,(hy.frozen (p:=⟨g,k * 6+5,none⟩) HGL.out).trans (hz _)⟩)
 clear CK;refine vCb (MeW S U D t k g q6 V PL u41 w w7) (by kernel_rfl) (by kernel_rfl) ?_ ?_ ?_
 · refine MeW.mk ?_
   constructor
   case b=>exact fun _=>(Below.refl _ _).drew
   all_goals exact fun h=>by cases h
 · rintro d av w' j o @⟨x33,x34,x35,x36,x37,x38,x39,x40,_,hv⟩ ho hd hdep
   obtain ⟨h33,h34,h35,h36,h37,h39,h40,n81,n83,n84,n85,n53,n54,n6,n7,r1,b,fin⟩:=hv
   rcases j with _|_|_|_|_|_|_|_|_|j
   · cases ho
     refine .inl ⟨rfl,?_⟩
     go_simp
     refine MeW.mk ?_
     constructor
     all_goals first|assumption|exact fun _=>rfl|exact fun _=>trivial
   · cases ho
     have e0_:=hdep 0 (by kernel_rfl);obtain rfl:=h33 e0_
     have e8_:d 8=false:=by
      cases hx:d 8 with
      |false=>rfl
      |true=>have:=n81 hx;rw [hd] at this;cases this
     obtain ⟨⟨f0,f1,f2,f3,f4,f5,f6,f7⟩,m3_,⟨g0,g1,g2,g3,g4,g5⟩,l1_,hBx⟩:=KR.out w' (b e8_);refine .inl ⟨rfl,?_⟩
     go_simp
     refine MeW.mk ?_
     constructor
     all_goals first|assumption|exact fun _=>rfl|exact fun _=>trivial
   · cases ho
     refine .inl ⟨rfl,?_⟩
     go_simp
     refine MeW.mk ?_
     constructor
     all_goals first|assumption|exact fun _=>rfl|exact fun _=>trivial
   · cases ho
     have e8_:d 8=false:=by
      cases hx:d 8 with
      |false=>rfl
      |true=>have:=n83 hx;rw [hd] at this;cases this
     obtain ⟨⟨f0,f1,f2,f3,f4,f5,f6,f7⟩,m3_,⟨g0,g1,g2,g3,g4,g5⟩,l1_,hBx⟩:=KR.out w' (b e8_);refine .inl ⟨rfl,?_⟩
     go_simp
     refine MeW.mk ?_
     constructor
     all_goals first|assumption|exact fun _=>rfl|exact fun _=>trivial
   · cases ho
     have e8_:d 8=false:=by
      cases hx:d 8 with
      |false=>rfl
      |true=>have:=n84 hx;rw [hd] at this;cases this
     obtain ⟨⟨f0,f1,f2,f3,f4,f5,f6,f7⟩,m3_,⟨g0,g1,g2,g3,g4,g5⟩,l1_,hBx⟩:=KR.out w' (b e8_);refine .inl ⟨rfl,?_⟩
     go_simp
     refine MeW.mk ?_
     constructor
     all_goals first|assumption|exact fun _=>rfl|exact fun _=>trivial
   · cases ho
     have e3_:=hdep 3 (by kernel_rfl);obtain rfl:=h36 e3_;have e4_:=hdep 4 (by kernel_rfl);obtain rfl:=h37 e4_
     have e8_:d 8=false:=by
      cases hx:d 8 with
      |false=>rfl
      |true=>have:=n85 hx;rw [hd] at this;cases this
     obtain ⟨⟨f0,f1,f2,f3,f4,f5,f6,f7⟩,m3_,⟨g0,g1,g2,g3,g4,g5⟩,l1_,hBx⟩:=KR.out w' (b e8_);refine .inl ⟨rfl,?_⟩
     go_simp
     refine (PE.out _ hBx).mono ?_;rintro e w2 ⟨s,rfl,hown,hb⟩;refine ⟨_,rfl,?_⟩;refine MeW.mk ?_
     constructor
     case n53=>exact fun _=>by simpa using e3_
     case n54=>exact fun _=>by simpa using e4_
     case r1=>exact fun _=>⟨s,rfl,fun _=>hown.low (b e8_).size⟩
     case b=>exact fun _=>vAa (b e8_) hb
     case fin=>exact fun g=>by rw [show (8 == 5 || d 8)=d 8 from rfl,e8_] at g;cases g
     all_goals first|assumption|exact fun _=>rfl|exact fun _=>trivial
   · cases ho
     have e1_:=hdep 1 (by kernel_rfl);obtain rfl:=h34 e1_;have e2_:=hdep 2 (by kernel_rfl);obtain rfl:=h35 e2_;refine .inl ⟨rfl,?_⟩
     go_simp
     refine MeW.mk ?_
     constructor
     case n6=>exact fun _=>by simpa using e1_
     all_goals first|assumption|exact fun _=>rfl|exact fun _=>trivial
   · cases ho
     have e6_:=hdep 6 (by kernel_rfl);obtain rfl:=h39 e6_;refine .inl ⟨rfl,?_⟩
     go_simp
     refine MeW.mk ?_
     constructor
     case n7=>exact fun _=>by simpa using e6_
     all_goals first|assumption|exact fun _=>rfl|exact fun _=>trivial
   · cases ho
     have e7_:=hdep 7 (by kernel_rfl);obtain rfl:=h40 e7_;have e5_:=hdep 5 (by kernel_rfl);obtain ⟨s,rfl,hown⟩:=r1 e5_;obtain ⟨⟨v9,c9⟩,z9⟩:=CG.out w' (b hd);have l9:=World.block_lt_of_cell? w' _ c9;refine .inl ⟨rfl,?_⟩
     go_simp
     refine MeW.mk ?_
     constructor
     case n81=>exact fun _=>by simpa using n6 (n7 e7_)
     case n83=>exact fun _=>by simpa using n53 e5_
     case n84=>exact fun _=>by simpa using n54 e5_
     case n85=>exact fun _=>by simpa using e5_
     case r1=>exact fun _=>⟨s,rfl,fun g=>by simp at g⟩
     case b=>exact fun g=>by simp at g
     case fin=>exact fun _=>⟨s,w',b hd,hown hd,rfl⟩
     all_goals first|assumption|exact fun _=>rfl|exact fun _=>trivial
   · simp at ho
 · rintro d av w8 @⟨x33,x34,x35,x36,x37,x38,x39,x40,_,hv⟩ hall
   obtain ⟨h33,h34,h35,h36,h37,h39,h40,n81,n83,n84,n85,n53,n54,n6,n7,r1,b,fin⟩:=hv;obtain ⟨s,wq,hbq,hown,hw9⟩:=fin (hall 8 (by decide));subst hw9;have BQ:=hid hbq;have OQ:=hid hown;clear n81 n83 n84 n85 n53 n54 n6 n7 r1 b fin hall hbq hown h33 h34 h35 h36 h37 h39 h40;have A6:=vAa A67.out BQ.out;have ORq:=OR.out.up A6;have RS:=(OQ.out.read (.inl rfl)).keep (F':=InB wq w3.heap.size (fun _=>False)) (fun _ _=>rfl) (fun b hb=>⟨hb.2.lt,.inr ⟨Nat.le_trans SR.out (Nat.le_trans A67.out.size hb.1),hb.2⟩⟩)
   have P9:=ORq.pput (fun b f=>f.elim) k (by rw [msK_len];exact hkl) g HG.out s PL RS;obtain ⟨w9,hw9⟩:∃w9,wq.setCell ⟨g,k * 6+5,none⟩ (.slice s.A s.n s.c)=w9:=⟨_,rfl⟩;rw [hw9] at P9 ⊢;have O9:=hid (show NOwn w9 w3.heap.size (fun _=>False) (msK N (k+1)) U by rw [NX.out,DE.out];have e:=P9.1;rw [HD.out] at e;exact e);have T9:=hid ((TR.out.below A6).chg P9.2.1 (by decide));have X9:=hid (show Below (w.heap.size+1) w1 w9 by rw [←hw9];exact (XR.out.trans (A6.mono (by have:=SR.out;have:=Q3.out;omega))).setCell (p:=⟨g,k * 6+5,none⟩) (show w.heap.size+1≤g by have:=Q3.out;have:=HGB.out;omega) _)
   have S9:=hid (show w3.heap.size≤w9.heap.size from Nat.le_trans SR.out (Nat.le_trans A6.size P9.2.1.1));clear hw9 P9 A6 ORq RS;go_wp2
   go_roundw
   case rel=>exact ⟨k+1,by simp,by omega,O9.out,T9.out,X9.out,S9.out⟩
   case measure=>simp only [];omega
theorem rsl_rows {α:Type} (R:Rdr α) (w:World) (F:Nat→Prop) (b:Nat) (xs:List α) (vss:List (List Value)) (T:TypeId) (hF:F b) (hw:w.heap[b]?=some (.cells vss.flatten.toArray T)) (hl:xs.length≤1000) (h:∀(j:Nat) (x:α),xs[j]?=some x→∃vs,vss[j]?=some vs∧R.rd w F vs x):RSl R w F (some ⟨b,0,none⟩) xs.length xs.length xs:=by
 refine ⟨rfl,Nat.le_refl _,by unfold maxLen;omega,(fun h=>by cases h),fun hn=>⟨b,0,rfl,hF,?_,fun j x hx=>?_⟩⟩
 · rcases Nat.lt_or_ge b w.heap.size with g|g
   · exact g
   · rw [Array.getElem?_eq_none g] at hw;cases hw
 · obtain ⟨vs,e,hr⟩:=h j x hx
   refine ⟨vs,hr,fun i v hv=>?_⟩
   have key:∀(k:Nat) (ys:List α) (us:List (List Value)),(∀(j:Nat) (x:α),ys[j]?=some x→∃vs,us[j]?=some vs∧R.rd w F vs x)→∀vs x,ys[k]?=some x→us[k]?=some vs→vs[i]?=some v→us.flatten[k * R.n+i]?=some v:=by
    intro k
    induction k with
    |zero=>
     intro ys us hu vs x hy he hi
     match us,he with
     |u :: us,he=>
      obtain rfl:u=vs:=by simpa using he
      rw [Nat.zero_mul,Nat.zero_add,List.flatten_cons,List.getElem?_append_left]
      · exact hi
      · exact (List.getElem?_eq_some_iff.1 hi).1
    |succ k ih=>
     intro ys us hu vs x hy he hi
     match ys,us,hy,he with
     |y :: ys,u :: us,hy,he=>
      obtain ⟨u',hu',hr'⟩:=hu 0 y rfl
      obtain rfl:u=u':=by simpa using hu'
      have hlen:=R.len hr';rw [List.flatten_cons,List.getElem?_append_right (by rw [hlen,Nat.succ_mul];omega),hlen,show (k+1) * R.n+i - R.n=k * R.n+i by rw [Nat.succ_mul];omega];exact ih ys us (fun j x hx=>by have:=hu (j+1) x (by simpa using hx);simpa using this) vs x (by simpa using hy) (by simpa using he) hi
   have:=key j xs vss h vs x hx e hv
   rw [Nat.zero_add,World.cell?,hw];simpa using this
end Go.Proofs.YtgmflecelnefcaaGreat
