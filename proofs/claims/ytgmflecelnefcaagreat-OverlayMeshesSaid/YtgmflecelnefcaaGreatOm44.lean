import Derived.Test.YtgmflecelnefcaaGreatOm43
import Derived.Test.YtgmflecelnefcaaGreatOm40
import Derived.Test.YtgmflecelnefcaaGreatOm17
import Derived.Test.YtgmflecelnefcaaGreatOm30
import Derived.Test.YtgmflecelnefcaaGreatOm31
set_option maxRecDepth 100000
set_option maxHeartbeats 40000000
namespace Go.Proofs.YtgmflecelnefcaaGreat
open Go.Lib (hid)
open Go.RowKit
theorem OwnI.keepB {k:IntKind} {T:TypeId} {w w':World} {B:Nat} {s:Sl3} {xs:List Int} (h:OwnI k T w B s xs) (hb:∀b,B≤b→w'.heap[b]?=w.heap[b]?):OwnI k T w' B s xs:=by
 refine ⟨h.1,?_⟩
 rcases h.2 with h3|⟨g,cap,cur,hv,hg,hh,r⟩
 · exact .inl h3
 · exact .inr ⟨g,cap,cur,hv,hg,(hb g hg).trans hh,r⟩
theorem px_again {w0 w:World} {g o:Nat} {v:Value} (h:w.heap[g]?=(w0.setCell ⟨g,o,none⟩ v).heap[g]?):w.heap[g]?=(w.setCell ⟨g,o,none⟩ v).heap[g]?:=by
 rw [set_heap,h,set_heap,Option.map_map];congr 1
 funext x
 exact (cset_cset o v v x).symm
theorem res_rmesh (tmps:Array Value) (W:World) (S:NSl3) (q:Nat) (R E:Int) (h2:tmps[2]?.getD undef=.pointer (some ⟨q,0,none⟩)) (h3:tmps[3]?.getD undef=.int .i64 R) (h5:tmps[4]?.getD undef=.int .i64 E) (hb:TBx W q 31 (netC S)):
 (results Tryz.f18 tmps).run Tryz.prog W=.ok (.tuple #[netV S,.int .i64 R,.int .i64 E]) W:=by
 have t0:=hb.cell 0 _ rfl;have t1:=hb.cell 1 _ rfl;have t2:=hb.cell 2 _ rfl;have t3:=hb.cell 3 _ rfl;have t4:=hb.cell 4 _ rfl;have t5:=hb.cell 5 _ rfl;have t6:=hb.cell 6 _ rfl;have t7:=hb.cell 7 _ rfl;clear hb;unfold netV;simp [results,Tryz.results18,go_sem,h2,h3,h5,t0,t1,t2,t3,t4,t5,t6,t7]
structure MrI (S U:NSl3) (D:DomV) (t u:Sl3) (k kd j m c mq q8 g bf of ba oa:Nat) (A:Option Addr) (a o z:Int) (XS:List Int) (y3 y4 y20 y21 y22 y23 y24 y25 y26 y27 y28 y29 y30 y31 y32 y33 y34 y35 y36 y44 y45 y78 y79:Value) (w W:World) (x80 x81 x82 x83 x84 x85 x86 x87 x88 x89 x90 x91 x92 x93 x94 x95 x96 x97 x98 x99 x100 x101 x102 x103 x104 x105 x106 x107:Value) (d:Nat→Bool) (w':World):Prop where
 h80:d 0=true→x80=(.pointer (some ⟨mq,3,none⟩))
 h81:d 1=true→x81=(.slice (some ⟨g,0,none⟩) U.dm.n U.dm.c)
 h82:d 2=true→x82=(.int .i64 (kd:Int))
 h83:d 3=true→x83=(.pointer (some ⟨mq,3,none⟩))
 h84:d 4=true→x84=(.slice (some ⟨g,0,none⟩) U.dm.n U.dm.c)
 h85:d 5=true→x85=(.int .i64 (kd:Int))
 h86:d 6=true→x86=(.pointer (some ⟨g,kd * 6,none⟩))
 h87:d 7=true→x87=(.pointer (some ⟨g,kd * 6+5,none⟩))
 h88:d 8=true→x88=(.slice A m c)
 h89:d 9=true→x89=(.agg #[.slice S.dv.A S.dv.n S.dv.c,.slice S.pt.A S.pt.n S.pt.c,.slice S.lk.A S.lk.n S.lk.c,.slice S.dm.A S.dm.n S.dm.c,.slice S.st.A S.st.n S.st.c,.slice (some ⟨bf,of,none⟩) S.fl.n S.fl.c,.slice S.vr.A S.vr.n S.vr.c,.slice S.ir.A S.ir.n S.ir.c])
 h90:d 10=true→x90=(.agg #[.slice S.dv.A S.dv.n S.dv.c,.slice S.pt.A S.pt.n S.pt.c,.slice S.lk.A S.lk.n S.lk.c,.slice S.dm.A S.dm.n S.dm.c,.slice S.st.A S.st.n S.st.c,.slice (some ⟨bf,of,none⟩) S.fl.n S.fl.c,.slice S.vr.A S.vr.n S.vr.c,.slice S.ir.A S.ir.n S.ir.c])
 h91:d 11=true→x91=(.pointer (some ⟨w.heap.size,5,none⟩))
 h92:d 12=true→x92=(.slice (some ⟨bf,of,none⟩) S.fl.n S.fl.c)
 h93:d 13=true→x93=(.int .i64 (j:Int))
 h94:d 14=true→x94=(.pointer (some ⟨bf,of+j * 4,none⟩))
 h95:d 15=true→x95=(.pointer (some ⟨bf,of+j * 4+3,none⟩))
 h96:d 16=true→x96=(.slice (some ⟨ba,oa,none⟩) u.n u.c)
 h97:d 17=true→x97=(.int .i64 (m:Int))
 h98:d 18=true→x98=(.pointer (some ⟨ba,oa+m,none⟩))
 h99:d 19=true→x99=(.int .u32 a)
 h100:d 20=true→x100=(.int .i64 o)
 h101:d 21=true→x101=(.pointer (some ⟨q8,2,none⟩))
 h102:d 22=true→x102=(.int .i64 D.vni)
 h103:d 23=true→x103=(.int .i64 z)
 h106:d 26=true→x106=(.pointer (some ⟨g,kd * 6,none⟩))
 h107:d 27=true→x107=(.pointer (some ⟨g,kd * 6+5,none⟩))
 n28:d 28=true→d 25=true
 n25:d 25=true→d 8=true
 o1:d 25=false→OwnI .i64 3 w' W.heap.size ⟨A,m,c⟩ XS
 bx:d 24=true→∃q,x104=.slice (some ⟨q,0,none⟩) 1 1∧(d 25=false→ISl w' .i64 (some ⟨q,0,none⟩) 1 1 [z])
 o2:d 25=true→∃s:Sl3,x105=.slice s.A s.n s.c∧OwnI .i64 3 w' W.heap.size s (XS++[z])∧(d 28=true→PX W g (kd * 6+5) (.slice s.A s.n s.c) w')
 b0:d 28=false→PX W g (kd * 6+5) (.slice A m c) w'
 b:∃v,PX W g (kd * 6+5) v w'
inductive MrW (S U:NSl3) (D:DomV) (t u:Sl3) (k kd j m c mq q8 g bf of ba oa:Nat) (A:Option Addr) (a o z:Int) (XS:List Int) (y3 y4 y20 y21 y22 y23 y24 y25 y26 y27 y28 y29 y30 y31 y32 y33 y34 y35 y36 y44 y45 y78 y79:Value) (w W:World) (d:Nat→Bool):Act→World→Prop
 |mk {x80 x81 x82 x83 x84 x85 x86 x87 x88 x89 x90 x91 x92 x93 x94 x95 x96 x97 x98 x99 x100 x101 x102 x103 x104 x105 x106 x107:Value} {w':World}:MrI S U D t u k kd j m c mq q8 g bf of ba oa A a o z XS y3 y4 y20 y21 y22 y23 y24 y25 y26 y27 y28 y29 y30 y31 y32 y33 y34 y35 y36 y44 y45 y78 y79 w W x80 x81 x82 x83 x84 x85 x86 x87 x88 x89 x90 x91 x92 x93 x94 x95 x96 x97 x98 x99 x100 x101 x102 x103 x104 x105 x106 x107 d w'→MrW S U D t u k kd j m c mq q8 g bf of ba oa A a o z XS y3 y4 y20 y21 y22 y23 y24 y25 y26 y27 y28 y29 y30 y31 y32 y33 y34 y35 y36 y44 y45 y78 y79 w W d {tmps:=#[(.agg #[.slice S.dv.A S.dv.n S.dv.c,.slice S.pt.A S.pt.n S.pt.c,.slice S.lk.A S.lk.n S.lk.c,.slice S.dm.A S.dm.n S.dm.c,.slice S.st.A S.st.n S.st.c,.slice S.fl.A S.fl.n S.fl.c,.slice S.vr.A S.vr.n S.vr.c,.slice S.ir.A S.ir.n S.ir.c]),(.pointer (some ⟨w.heap.size,0,none⟩)),(.pointer (some ⟨w.heap.size+1,0,none⟩)),y3,y4,(.int .i64 (k:Int)),(.pointer (some ⟨mq,0,none⟩)),(.int .i64 (kd:Int)),(.pointer (some ⟨q8,0,none⟩)),(.int .i64 (j:Int)),(.int .i64 (m:Int)),(.agg #[.slice S.dv.A S.dv.n S.dv.c,.slice S.pt.A S.pt.n S.pt.c,.slice S.lk.A S.lk.n S.lk.c,.slice S.dm.A S.dm.n S.dm.c,.slice S.st.A S.st.n S.st.c,.slice S.fl.A S.fl.n S.fl.c,.slice S.vr.A S.vr.n S.vr.c,.slice S.ir.A S.ir.n S.ir.c]),(.bool true),(.bool false),undef,(.int .i64 (k:Int)),(.pointer (some ⟨w.heap.size,5,none⟩)),(.slice S.fl.A S.fl.n S.fl.c),(.int .i64 (S.fl.n:Int)),(.bool false),y20,y21,y22,y23,y24,y25,y26,y27,y28,y29,y30,y31,y32,y33,y34,y35,y36,(.agg #[.slice S.dv.A S.dv.n S.dv.c,.slice S.pt.A S.pt.n S.pt.c,.slice S.lk.A S.lk.n S.lk.c,.slice S.dm.A S.dm.n S.dm.c,.slice S.st.A S.st.n S.st.c,.slice S.fl.A S.fl.n S.fl.c,.slice S.vr.A S.vr.n S.vr.c,.slice S.ir.A S.ir.n S.ir.c]),(.agg #[.slice U.dv.A U.dv.n U.dv.c,.slice U.pt.A U.pt.n U.pt.c,.slice U.lk.A U.lk.n U.lk.c,.slice U.dm.A U.dm.n U.dm.c,.slice U.st.A U.st.n U.st.c,.slice U.fl.A U.fl.n U.fl.c,.slice U.vr.A U.vr.n U.vr.c,.slice U.ir.A U.ir.n U.ir.c]),(.int .i64 (kd:Int)),(.pointer (some ⟨mq,3,none⟩)),(.slice (some ⟨g,0,none⟩) U.dm.n U.dm.c),(.int .i64 (U.dm.n:Int)),(.bool true),y44,y45,(.pointer (some ⟨mq,3,none⟩)),(.slice (some ⟨g,0,none⟩) U.dm.n U.dm.c),(.int .i64 (kd:Int)),(.pointer (some ⟨g,kd * 6,none⟩)),(.agg #[.int .i64 D.dev,.int .i64 D.vlan,.int .i64 D.vni,.int .i64 D.irb,.int .i64 D.row,.slice t.A t.n t.c]),(.pointer (some ⟨mq,3,none⟩)),(.slice (some ⟨g,0,none⟩) U.dm.n U.dm.c),(.int .i64 (kd:Int)),(.pointer (some ⟨g,kd * 6,none⟩)),(.pointer (some ⟨g,kd * 6+5,none⟩)),(.agg #[.slice S.dv.A S.dv.n S.dv.c,.slice S.pt.A S.pt.n S.pt.c,.slice S.lk.A S.lk.n S.lk.c,.slice S.dm.A S.dm.n S.dm.c,.slice S.st.A S.st.n S.st.c,.slice S.fl.A S.fl.n S.fl.c,.slice S.vr.A S.vr.n S.vr.c,.slice S.ir.A S.ir.n S.ir.c]),(.pointer (some ⟨q8,0,none⟩)),(.int .i64 D.dev),(.pointer (some ⟨q8,2,none⟩)),(.int .i64 D.vni),(.int .i64 (j:Int)),(.pointer (some ⟨q8,2,none⟩)),(.int .i64 D.vni),(.bool false),(.bool false),(.int .i64 (j:Int)),(.bool false),(.bool false),(.int .i64 (m:Int)),(.pointer (some ⟨w.heap.size,5,none⟩)),(.slice (some ⟨bf,of,none⟩) S.fl.n S.fl.c),(.int .i64 (j:Int)),(.pointer (some ⟨bf,of+j * 4,none⟩)),(.pointer (some ⟨bf,of+j * 4+3,none⟩)),(.slice (some ⟨ba,oa,none⟩) u.n u.c),(.int .i64 (u.n:Int)),(.bool true),y78,y79,x80,x81,x82,x83,x84,x85,x86,x87,x88,x89,x90,x91,x92,x93,x94,x95,x96,x97,x98,x99,x100,x101,x102,x103,x104,x105,x106,x107,undef,undef,undef,undef,undef],defers:=[]} w'
theorem rmesh_any (N:NV) (S:NSl3) (w:World) (h:NRead w (allB w) N S) (hz:NvSz N):Calls Tryz.prog 18 #[netV S] w (GotMe (meN N) (meR N) (meE N) w):=by
 have UP:=hid (fun (w':World) (hb:Below w.heap.size w w')=>h.up hb)
 have NR:=fun (w':World) (hb:Below w.heap.size w w')=>rnright_any N S w' (h.up hb)
 have CP:=fun (w':World) (hb:Below w.heap.size w w')=>rcopy_any (allB w) N S w' (h.keep (F':=allB w) (fun b g=>hb.block b g) (fun _ g=>g)) (fun b g=>Nat.lt_of_lt_of_le g hb.size) hz
 have HFL:=hid h.fl;have fle:=h.fl.le;have fcap:=h.fl.cap;have FLEN:=hid h.fl.len;have HZ:=hid hz;obtain ⟨nb,hnb⟩:∃b,netB N=b:=⟨_,rfl⟩;have HNB:=hid hnb;rw [hnb] at NR;unfold netV at NR CP ⊢;unfold GotCopy netV at CP;replace NR:=hid NR;replace CP:=hid CP
 have K0:=hid (show ∀W,(w.alloc (.cells (nA S) 31)).alloc (.cells zA 31)=W→Below w.heap.size w W∧TBx W w.heap.size 31 (netC S)∧TBx W (w.heap.size+1) 31 (netC NSl3.nil) from fun W e=>by
  subst e;refine ⟨trans_below (alloc_below _ _) (alloc_below _ _),(TBx.new w (nA S) 31).below (alloc_below _ _),?_⟩;have t:=TBx.new (w.alloc (.cells (nA S) 31)) zA 31;rw [show (w.alloc (.cells (nA S) 31)).heap.size=w.heap.size+1 by simp] at t
  exact t)
 clear h hz hnb
 go_enter Tryz.func18,Tryz.ntmps18
 go_upto_region 1 with fail
 generalize hw1:World.alloc _ _=w1;obtain ⟨B1,TB,RB⟩:=K0.out w1 hw1;replace B1:=hid B1;replace TB:=hid TB;replace RB:=hid RB;clear hw1 K0
 have KN:=hid (show ∀wx,Below w1.heap.size w1 wx→NF wx w.heap.size S∧w.heap.size<wx.heap.size∧Below w.heap.size w wx from fun wx hx=>by
  have tb:=TB.out.below hx
  exact ⟨⟨tb.cell 0 _ rfl,tb.cell 1 _ rfl,tb.cell 2 _ rfl,tb.cell 3 _ rfl,tb.cell 4 _ rfl,tb.cell 5 _ rfl,tb.cell 6 _ rfl,tb.cell 7 _ rfl⟩,tb.lt,trans_below B1.out hx⟩)
 have LW:=hid (show w.heap.size+1<w1.heap.size from RB.out.lt);have Y1:=hid (Below.refl w1.heap.size w1);obtain ⟨⟨f0,f1,f2,f3,f4,f5,f6,f7⟩,_⟩:=KN.out w1 (Below.refl _ _)
 cases nb
 · have EV:=hid (me_2 HNB.out)
   go_wp2_with (go_at_call 19;(with_reducible refine (NR.out _ B1.out).mono ?_);rintro e w2 ⟨rfl,b_⟩;have X2:=hid (trans_below B1.out b_);have R2:=RB.out.below b_;have R2h:=hid R2;have rl_:=R2.lt;obtain ⟨r0,z0,r1,z1,r2,z2,r3,z3,r4,z4,r5,z5,r6,z6,r7,z7⟩:=R2.zero8;clear b_ R2);refine bodyPost_ret (res_rmesh _ (st8 w2 (w.heap.size+1) NSl3.nil) NSl3.nil (w.heap.size+1) 0 2 rfl rfl rfl (R2h.out.st8 NSl3.nil)) rfl ?_
   rw [EV.out.1,EV.out.2.1,EV.out.2.2];exact ⟨NSl3.nil,rfl,none_read _,Below.st8 X2.out (by omega) NSl3.nil⟩
 have hn:=(netB_iff N).1 HNB.out;have HN:=hid hn;obtain ⟨V,hV,hVK⟩:=agK_fst N N.floods;have HV:=hid (show IsFst (fun k=>!agB N (N.floods.getD k FloodV.zero)) S.fl.n V by rw [←FLEN.out];exact hV);have HVK:=hid hVK;have AGR:=hid (fun (f:FloodV) (s:Sl3) (w':World) (hb:Below w.heap.size w w') (hs:RSl (Rdr.int .u32) w (allB w) s.A s.n s.c f.addrs) (hf:plB f.dev (N.devices.length:Int)=true)=>ragrees_any N S f s w' (UP.out w' hb) (up_rsl hs hb) hf)
 unfold netV at AGR;clear hV hVK hn
 go_upto_region 3 with (go_at_call 19;(with_reducible refine (NR.out _ B1.out).mono ?_);rintro e w2 ⟨rfl,b_⟩;have Y2:=hid b_;obtain ⟨⟨f0,f1,f2,f3,f4,f5,f6,f7⟩,_⟩:=KN.out _ b_;clear b_)
 go_wp2;clear f0 f1 f2 f3 f4 f5 f6 f7
 go_loopw [5] (fun i wr=>∃k:Nat,i=.int .i64 k∧k≤S.fl.n∧Below w1.heap.size w1 wr∧∀j,j<k→(!agB N (N.floods.getD j FloodV.zero))=false) (fun i _=>match i with| .int _ y=>(S.fl.n - y).toNat|_=>0)
 case atStart=>exact ⟨0,rfl,by omega,Y2.out,fun j hj=>absurd hj (Nat.not_lt_zero _)⟩
 case round=>
 obtain ⟨k,rfl,hk,hb,hall⟩:=hrel;have Y3:=hid hb;have AL:=hid hall;clear hb hall;rename World=>w3
 by_cases hlt:k<S.fl.n
 · have lt2:(k:Int)<(S.fl.n:Int):=by omega
   have hkl:k<N.floods.length:=by have:=FLEN.out;omega
   obtain ⟨bf,of,vs,ef,_,hbf,⟨t,rfl,lt_⟩,rf_⟩:=rsl_at HFL.out k hlt FloodV.zero;have HIT:=hid (fun (g:agB N (N.floods.getD k FloodV.zero)=false)=>HV.out.hit hlt (show (!agB N (N.floods.getD k FloodV.zero))=true by rw [g];rfl) AL.out)
   have ROW:=hid (fun (e:V=(k:Int))=>show agK N N.floods=some (N.floods.getD k FloodV.zero).row by
    rcases HVK.out with ⟨e1,_⟩|⟨i,_,e1,e2⟩
    · omega
    · obtain rfl:i=k:=by omega
      exact e2)
   have FDV:=(HN.out.rs.fl k hkl).dev;have AGk:=AGR.out (N.floods.getD k FloodV.zero) t;obtain ⟨f,hf⟩:∃f,N.floods.getD k FloodV.zero=f:=⟨_,rfl⟩
   have ALk:=hid (show agB N f=true→∀j,j<k+1→(!agB N (N.floods.getD j FloodV.zero))=false from fun g j hj=>by
    rcases Nat.lt_or_ge j k with h'|h'
    · exact AL.out j h'
    · obtain rfl:j=k:=by omega
      rw [hf,g];rfl)
   have T1:=HIT.out;have T2:=ROW.out;rw [hf] at T1 T2 lt_ rf_ FDV AGk
   have AGf:=fun (w':World) (hb:Below w.heap.size w w')=>AGk w' hb lt_ FDV
   rw [ef] at AGf;obtain ⟨r,hr⟩:∃r,agB N f=r:=⟨_,rfl⟩;have T3:=ALk.out;rw [hr] at T1 T3 AGf;have NO:=hid (fun (g:r=false)=>me_36 HNB.out (T2 (T1 g)));replace ALk:=hid T3;have AGf:=hid AGf;have EF:=hid ef
   have KF:=hid (show ∀wx,Below w1.heap.size w1 wx→wx.cell? ⟨bf,of+k * 4,none⟩=some (.int .i64 f.row)∧wx.cell? ⟨bf,of+k * 4+1,none⟩=some (.int .i64 f.dev)∧wx.cell? ⟨bf,of+k * 4+2,none⟩=some (.int .i64 f.vni)∧wx.cell? ⟨bf,of+k * 4+3,none⟩=some (.slice t.A t.n t.c) from fun wx hx=>by
    have q:=rangeAt_keep rf_ ((trans_below B1.out hx).block bf hbf)
    exact ⟨q 0 _ rfl,q 1 _ rfl,q 2 _ rfl,q 3 _ rfl⟩)
   have HBFK:=hid (show bf<w.heap.size+1 from Nat.lt_succ_of_lt hbf);clear T1 T2 T3 HIT ROW lt_ rf_ FDV AGk ef hr hf hbf AL;obtain ⟨⟨f0,f1,f2,f3,f4,f5,f6,f7⟩,hl_⟩:=KN.out _ Y3.out;clear hl_
   go_upto_region 6 with fail
   clear f0 f1 f2 f3 f4 f5 f6 f7;refine wp_region_text (fun wx=>Below w1.heap.size w1 wx) (by kernel_rfl) (by kernel_rfl) (below_drewN Y3.out 1) ?_
   repeat
    first
     |(refine Seq.pass rfl ?_;simp only [Act.put,List.setIfInBounds_toArray,List.set_cons_zero,List.set_cons_succ])
     |(refine Seq.run ?_ rfl (fun wx hx=>?_) ?_
       rotate_left
       · obtain ⟨⟨f0,f1,f2,f3,f4,f5,f6,f7⟩,l_,hBx⟩:=KN.out wx hx
         rw [EF.out] at f5;obtain ⟨c0_,c1_,c2_,c3_⟩:=KF.out wx hx
         go_simp
         first
          |(refine StepRun.val ?_;exact hx)
          |(refine StepRun.call (v:=.bool r) ?_;(with_reducible refine Calls.mono (AGf.out _ hBx) ?_);rintro e w' ⟨rfl,hb⟩;exact ⟨rfl,trans_below hx hb⟩)
       simp only [Act.put,List.setIfInBounds_toArray,List.set_cons_zero,List.set_cons_succ])
   refine Seq.last (fun w4 h4=>?_);have Y4:=hid h4;clear h4
   cases r
   rotate_left
   · have ALL:=hid (ALk.out rfl)
     go_wp2
     go_roundw
     case rel=>exact ⟨k+1,by simp,by omega,Y4.out,ALL.out⟩
     case measure=>simp only [];omega
   have EV:=hid (NO.out rfl)
   go_upto_region 7 with fail
   obtain ⟨W0,hW0⟩:∃W0,w4.drew=W0:=⟨_,rfl⟩;have V0:=hid (show Below w1.heap.size w1 W0 from hW0▸below_drewN Y4.out 1);have HX:=hid hW0;clear hW0;have R0:=hid (RB.out.below V0.out);obtain ⟨W1,hW1⟩:∃W1,st8 W0 (w.heap.size+1) NSl3.nil=W1:=⟨_,rfl⟩;have H1:=hid hW1;have R1:=hid (show TBx W1 (w.heap.size+1) 31 (netC NSl3.nil) by rw [←hW1];exact R0.out.st8 NSl3.nil);have V1:=hid (show Below w.heap.size w W1 by rw [←hW1];exact Below.st8 (trans_below B1.out V0.out) (by omega) NSl3.nil)
   have CB:=hid (fun m wx (hx:PhL [W0,W1] m wx)=>hx.all (P:=fun x=>x.cell? ⟨w.heap.size,5,none⟩=some (.slice (some ⟨bf,of,none⟩) S.fl.n S.fl.c)∧x.cell? ⟨bf,of+k * 4,none⟩=some (.int .i64 f.row)∧w.heap.size<x.heap.size) (by
    obtain ⟨⟨_,_,_,_,_,f5,_⟩,l,hb⟩:=KN.out _ V0.out;rw [EF.out] at f5;have fl0:=f5;have cr:=(KF.out _ V0.out).1;intro x hx;simp only [List.mem_cons,List.not_mem_nil,or_false] at hx
    rcases hx with rfl|rfl
    · exact ⟨f5,cr,l⟩
    · have hs:x.heap.size=W0.heap.size:=by rw [←hW1];exact st8_size _ _ _
      have e1:x.heap[w.heap.size]?=W0.heap[w.heap.size]?:=by rw [←hW1];exact st8_other _ _ _ (by omega)
      have hbf:bf<w.heap.size+1:=HBFK.out
      have e2:x.heap[bf]?=W0.heap[bf]?:=by rw [←hW1];exact st8_other _ _ _ (by omega)
      exact ⟨by simp only [World.cell?,e1];exact f5,by simp only [World.cell?,e2];exact cr,by omega⟩))
   clear hW1;refine wp_region_phases (PhL [W0,W1]) [7] (by kernel_rfl) (by kernel_rfl) (by kernel_rfl) (by rw [HX.out];rfl) ?_
   repeat
    first
     |(refine SeqP.run ?_ 1 (limJ_le _ _ _ _) rfl (by decide) (fun m hm wx hx=>?_) ?_
       rotate_left
       · obtain ⟨f5,c_,l_⟩:=CB.out m wx hx
         go_simp
         refine StepRun.val ?_;exact hx
       simp only [Act.put,List.setIfInBounds_toArray,List.set_cons_zero,List.set_cons_succ])
     |(refine SeqP.make undef 0 rfl rfl (fun wx hx=>?_) ?_
       · obtain rfl:W0=wx:=Option.some.inj hx
         have rl_:=R0.out.lt;obtain ⟨r0,z0,r1,z1,r2,z2,r3,z3,r4,z4,r5,z5,r6,z6,r7,z7⟩:=R0.out.zero8
         go_simp
         exact ⟨rfl,by rw [←H1.out];rfl⟩
       simp only [Act.put])
   refine SeqP.last rfl (fun w9 h9=>?_);obtain rfl:W1=w9:=Option.some.inj h9;clear CB HX H1;go_wp2;refine bodyPost_ret (res_rmesh _ W1 NSl3.nil (w.heap.size+1) f.row 36 rfl rfl rfl R1.out) rfl ?_;rw [EV.out.1,EV.out.2.1,EV.out.2.2];exact ⟨NSl3.nil,rfl,none_read _,V1.out⟩
 have lt2:¬(k:Int)<(S.fl.n:Int):=by omega
 have AG0:=hid (show agK N N.floods=none by
  rcases HVK.out with ⟨_,e2⟩|⟨i,hi,e1,_⟩
  · exact e2
  · have:=HV.out.no (fun j hj=>AL.out j (by omega))
    omega)
 clear AL HV HVK AGR;obtain ⟨⟨f0,f1,f2,f3,f4,f5,f6,f7⟩,hl_⟩:=KN.out _ Y3.out;have X3:=hid hl_.2;clear hl_
 go_upto_region 9 with (go_at_call 27;(with_reducible refine (CP.out _ X3.out).mono ?_);rintro e w4 ⟨U,rfl,hown,b_⟩;have OW:=hid hown;have B34:=hid b_.size;have Y4:=hid (trans_below Y3.out b_);clear hown b_)
 obtain ⟨w5,hw5⟩:∃w5,w4.alloc (.cells (nA U) 31)=w5:=⟨_,rfl⟩
 have A5:Below w4.heap.size w4 w5:=by rw [←hw5];exact alloc_below _ _
 obtain ⟨mq,hmq⟩:∃q,w4.heap.size=q:=⟨_,rfl⟩;have O5:=hid (show NOwn w5 w3.heap.size (allB w) (msK N 0) U by rw [msK_0];exact OW.out.up A5);have T5:=hid (show TBx w5 mq 31 (netC U) by rw [←hw5,←hmq];exact TBx.new w4 _ _);have Y5:=hid (trans_below Y4.out A5);have FF:=hid (show ∀b,allB w b→b<w3.heap.size from fun b g=>Nat.lt_of_lt_of_le g X3.out.size);have S35:=hid (show w3.heap.size≤w5.heap.size from Nat.le_trans B34.out A5.size)
 have Q3:=hid (show w1.heap.size≤w3.heap.size from Y3.out.size);have QM:=hid (show w3.heap.size≤mq by rw [←hmq];exact B34.out);have UN:=hid (show N.domains.length=U.dm.n by have:=OW.out.dm.len;omega);have ule:=OW.out.dm.le
 have u9_:U.dm.n≤200:=by have:=HZ.out.zdm;have:=UN.out;omega
 rw [hw5];rw [hmq];clear hw5 hmq A5 f0 f1 f2 f3 f4 f5 f6 f7 OW B34 Y4 CP NR;go_wp2
 go_loopw [7] (fun i wr=>∃kd:Nat,i=.int .i64 kd∧kd≤U.dm.n∧NOwn wr w3.heap.size (allB w) (msK N kd) U∧TBx wr mq 31 (netC U)∧Below w1.heap.size w1 wr∧w3.heap.size≤wr.heap.size) (fun i _=>match i with| .int _ y=>(U.dm.n - y).toNat|_=>0)
 case atStart=>exact ⟨0,rfl,by omega,O5.out,T5.out,Y5.out,S35.out⟩
 case round=>
 obtain ⟨kd,rfl,hk,hO,hT,hX,hS⟩:=hrel;have OR:=hid hO;have TR:=hid hT;have YR:=hid hX;have SR:=hid hS;clear hO hT hX hS;rename World=>w6;have u3_:=TR.out.cell 3 (.slice U.dm.A U.dm.n U.dm.c) rfl;have ul_:=TR.out.lt
 by_cases hlt:kd<U.dm.n
 rotate_left
 · have lt2:¬(kd:Int)<(U.dm.n:Int):=by omega
   have OE:=hid (show NOwn w6 w3.heap.size (allB w) (msN N) U by have:=OR.out;rw [msK_all (by have:=UN.out;omega)] at this;exact this)
   have NR2:=fun (w':World) (hb:Below w6.heap.size w6 w')=>rnright_any (msN N) U w' (OE.out.read.up hb)
   obtain ⟨mb,hmb⟩:∃b,netB (msN N)=b:=⟨_,rfl⟩;rw [hmb] at NR2;unfold netV at NR2;replace NR2:=hid NR2;have MB:=hid hmb;clear hmb;have ub:=TR.out;have t0:=ub.cell 0 (.slice U.dv.A U.dv.n U.dv.c) rfl;have t1:=ub.cell 1 (.slice U.pt.A U.pt.n U.pt.c) rfl;have t2:=ub.cell 2 (.slice U.lk.A U.lk.n U.lk.c) rfl;have t3:=ub.cell 3 (.slice U.dm.A U.dm.n U.dm.c) rfl;have t4:=ub.cell 4 (.slice U.st.A U.st.n U.st.c) rfl
   have t5:=ub.cell 5 (.slice U.fl.A U.fl.n U.fl.c) rfl;have t6:=ub.cell 6 (.slice U.vr.A U.vr.n U.vr.c) rfl;have t7:=ub.cell 7 (.slice U.ir.A U.ir.n U.ir.c) rfl;clear ub
   cases mb
   · have EV:=hid (me_last HNB.out AG0.out MB.out)
     go_wp2_with (go_at_call 19;(with_reducible refine (NR2.out _ (Below.refl _ _)).mono ?_);rintro e w8 ⟨rfl,b_⟩;have Y8:=hid (YR.out.trans (b_.mono (by have:=SR.out;have:=Q3.out;omega)));have T8:=hid (TR.out.below b_);have O8:=hid (OE.out.up b_);clear t0 t1 t2 t3 t4 t5 t6 t7 ul_ u3_;have ul_:=T8.out.lt;have t0:=T8.out.cell 0 (.slice U.dv.A U.dv.n U.dv.c) rfl;have t1:=T8.out.cell 1 (.slice U.pt.A U.pt.n U.pt.c) rfl;have t2:=T8.out.cell 2 (.slice U.lk.A U.lk.n U.lk.c) rfl;have t3:=T8.out.cell 3 (.slice U.dm.A U.dm.n U.dm.c) rfl;have t4:=T8.out.cell 4 (.slice U.st.A U.st.n U.st.c) rfl;have t5:=T8.out.cell 5 (.slice U.fl.A U.fl.n U.fl.c) rfl;have t6:=T8.out.cell 6 (.slice U.vr.A U.vr.n U.vr.c) rfl;have t7:=T8.out.cell 7 (.slice U.ir.A U.ir.n U.ir.c) rfl;have R8:=RB.out.below Y8.out;have rl_:=R8.lt;obtain ⟨r0,z0,r1,z1,r2,z2,r3,z3,r4,z4,r5,z5,r6,z6,r7,z7⟩:=R8.zero8;clear b_ R8)
     refine bodyPost_ret (res_rmesh _ (st8 w8 (w.heap.size+1) NSl3.nil) NSl3.nil (w.heap.size+1) 0 36 rfl rfl rfl ((RB.out.below Y8.out).st8 NSl3.nil)) rfl ?_;rw [EV.out.1,EV.out.2.1,EV.out.2.2];exact ⟨NSl3.nil,rfl,none_read _,Below.st8 (trans_below B1.out Y8.out) (by omega) NSl3.nil⟩
   have EV:=hid (me_ok HNB.out AG0.out MB.out);go_wp2_with (go_at_call 19;(with_reducible refine (NR2.out _ (Below.refl _ _)).mono ?_);rintro e w8 ⟨rfl,b_⟩;have Y8:=hid (YR.out.trans (b_.mono (by have:=SR.out;have:=Q3.out;omega)));have T8:=hid (TR.out.below b_);have O8:=hid (OE.out.up b_);clear t0 t1 t2 t3 t4 t5 t6 t7 ul_ u3_;have ul_:=T8.out.lt;have t0:=T8.out.cell 0 (.slice U.dv.A U.dv.n U.dv.c) rfl;have t1:=T8.out.cell 1 (.slice U.pt.A U.pt.n U.pt.c) rfl;have t2:=T8.out.cell 2 (.slice U.lk.A U.lk.n U.lk.c) rfl;have t3:=T8.out.cell 3 (.slice U.dm.A U.dm.n U.dm.c) rfl;have t4:=T8.out.cell 4 (.slice U.st.A U.st.n U.st.c) rfl;have t5:=T8.out.cell 5 (.slice U.fl.A U.fl.n U.fl.c) rfl;have t6:=T8.out.cell 6 (.slice U.vr.A U.vr.n U.vr.c) rfl;have t7:=T8.out.cell 7 (.slice U.ir.A U.ir.n U.ir.c) rfl;have R8:=RB.out.below Y8.out;have rl_:=R8.lt;obtain ⟨r0,z0,r1,z1,r2,z2,r3,z3,r4,z4,r5,z5,r6,z6,r7,z7⟩:=R8.zero8;clear b_ R8)
   refine bodyPost_ret (res_rmesh _ (st8 w8 (w.heap.size+1) U) U (w.heap.size+1) 0 0 rfl rfl rfl ((RB.out.below Y8.out).st8 U)) rfl ?_;rw [EV.out.1,EV.out.2.1,EV.out.2.2];have ON:=O8.out.far (w':=st8 w8 (w.heap.size+1) U) (q:=w.heap.size+1) (by rw [st8_size];exact Nat.le_refl _) (fun b hb=>st8_other _ _ _ hb) (by have:=LW.out;have:=Q3.out;omega) (by unfold allB;omega);exact ⟨U,rfl,ON.read,Below.st8 (trans_below B1.out Y8.out) (by omega) U⟩
 have lt2:(kd:Int)<(U.dm.n:Int):=by omega
 have hkl:kd<N.domains.length:=by have:=UN.out;omega
 obtain ⟨g,hg,hgB,hgl,hgz,hgc⟩:=OR.out.pcell (by rw [msK_len];omega);obtain ⟨us,⟨t,rfl,lt_⟩,hr⟩:=OR.out.dm.at_ g hg kd (by rw [msK_len];exact hkl) DomV.zero
 have hgm:g≠mq:=fun e=>by
  obtain ⟨g2,cur,h1,_,h2⟩:=OR.out.dm.row (by rw [msK_len];omega)
  have e2:g2=g:=by rw [hg] at h1;injection h1 with e;injection e with e _;exact e.symm
  rw [e2,e] at h2;have h3:w6.heap[mq]?=_:=TR.out;rw [h2] at h3
  injection h3 with h3
  injection h3 with _ h3
  exact absurd h3 (by decide)
 have HGM:=hid hgm
 have LS:=fun (w':World) (hb:Below w.heap.size w w')=>rlist19_any N S (N.domains.getD kd DomV.zero).dev (N.domains.getD kd DomV.zero).vni w' (UP.out w' hb)
 have OWN:=hid (fun (a:Int) (w':World) (hb:Below w.heap.size w w')=>rowner_any N S a w' (UP.out w' hb));have FND:=hid (fun (x:Int) (w':World) (hb:Below w.heap.size w w')=>rfind_any N S x (N.domains.getD kd DomV.zero).vni w' (UP.out w' hb));have NX:=hid (msK_next hkl);rw [msK_at hkl] at hr;have HG:=hid hg;have HGB:=hid hgB;have HGL:=hid hgl;have HGZ:=hid hgz;have HGC:=hid (hgc kd (by rw [msK_len];exact hkl))
 have HD:=hid (msK_at hkl);have LP:=hid (ls_place N (N.domains.getD kd DomV.zero).dev (N.domains.getD kd DomV.zero).vni);have MSP:=hid (show msP N (N.domains.getD kd DomV.zero).dev (N.domains.getD kd DomV.zero).vni=if (N.domains.getD kd DomV.zero).vni=0∨lsF N (N.domains.getD kd DomV.zero).dev (N.domains.getD kd DomV.zero).vni<0 then [] else (N.floods.getD (lsF N (N.domains.getD kd DomV.zero).dev (N.domains.getD kd DomV.zero).vni).toNat FloodV.zero).addrs.map fun a=>fdF N (owF N a) (N.domains.getD kd DomV.zero).vni from rfl)
 obtain ⟨D,hD⟩:∃D,N.domains.getD kd DomV.zero=D:=⟨_,rfl⟩;have T1:=NX.out;have T2:=HD.out;have T3:=LP.out;have T4:=MSP.out;have T6:=FND.out;rw [hD] at T1 T2 T3 T4 T6 LS hr;replace NX:=hid T1;replace HD:=hid T2;replace LP:=hid T3;replace MSP:=hid T4;replace FND:=hid T6;have DE:=hid (show msD N D={D with peers:=msP N D.dev D.vni} from rfl);obtain ⟨lo,hlo⟩:∃v,lsF N D.dev D.vni=v:=⟨_,rfl⟩
 have T3:=LP.out;have T4:=MSP.out;rw [hlo] at T3 T4 LS;replace LP:=hid T3;replace MSP:=hid T4;obtain ⟨PL,hPL⟩:∃PL,msP N D.dev D.vni=PL:=⟨_,rfl⟩;have T4:=MSP.out;have T5:=DE.out;rw [hPL] at T4 T5;replace MSP:=hid T4;replace DE:=hid T5;unfold netV at LS OWN FND;replace LS:=hid LS;have d0:=hr 0 _ rfl;have d1:=hr 1 _ rfl;have d2:=hr 2 _ rfl;have d3:=hr 3 _ rfl;have d4:=hr 4 _ rfl;have d5:=hr 5 _ rfl
 simp only [Nat.add_zero] at d0;rw [show kd * domR.n=kd * 6 from rfl] at d0 d1 d2 d3 d4 d5;rw [hg] at u3_;clear hg hgB hgz hgc lt_ hr hD hPL hlo T1 T2 T3 T4 T5 T6 hgm
 go_upto_region 13 with fail
 obtain ⟨w7,hw7⟩:∃w7,w6.alloc (.cells #[.int .i64 D.dev,.int .i64 D.vlan,.int .i64 D.vni,.int .i64 D.irb,.int .i64 D.row,.slice t.A t.n t.c] 54)=w7:=⟨_,rfl⟩;have A67:=hid (show Below w6.heap.size w6 w7 by rw [←hw7];exact alloc_below _ _);have C7:=hid (show TBx w7 w6.heap.size 54 [.int .i64 D.dev,.int .i64 D.vlan,.int .i64 D.vni,.int .i64 D.irb,.int .i64 D.row,.slice t.A t.n t.c] by rw [←hw7];exact TBx.new w6 _ _)
 obtain ⟨q8,hq8⟩:∃q,w6.heap.size=q:=⟨_,rfl⟩;have HQ8:=hid (show g<q8 by rw [←hq8];exact HGL.out);rw [hq8] at C7;rw [hw7];rw [hq8];clear hw7 hq8 d0 d1 d2 d3 d4 d5 hgl u3_ ul_;have Y7:=hid (show Below w1.heap.size w1 w7 from YR.out.trans (A67.out.mono (by have:=SR.out;have:=Q3.out;omega)));have T7:=hid (TR.out.below A67.out);have O7:=hid (OR.out.up A67.out);have u3_:=T7.out.cell 3 (.slice U.dm.A U.dm.n U.dm.c) rfl
 have ul_:=T7.out.lt;rw [HG.out] at u3_;obtain ⟨v5,hv5⟩:=HGC.out;have c5_:=(A67.out.cell (p:=⟨g,kd * 6+5,none⟩) HGL.out).trans hv5;have z5_:=(A67.out.frozen (p:=⟨g,kd * 6+5,none⟩) HGL.out).trans (HGZ.out _);have gl_:g<w7.heap.size:=Nat.lt_of_lt_of_le HGL.out A67.out.size
 go_upto_region 14 with fail
 clear u3_ ul_ c5_ z5_ gl_ hv5;have P8:=O7.out.pput FF.out kd (by rw [msK_len];exact hkl) g HG.out Sl3.nil [] RSl.nil;obtain ⟨w8,hw8⟩:∃w8,w7.setCell ⟨g,kd * 6+5,none⟩ (.slice none 0 0)=w8:=⟨_,rfl⟩;have hw8':w7.setCell ⟨g,kd * 6+5,none⟩ (.slice Sl3.nil.A Sl3.nil.n Sl3.nil.c)=w8:=hw8;rw [hw8'] at P8;rw [hw8];have O8:=hid (show NOwn w8 w3.heap.size (allB w) {msK N kd with domains:=(msK N kd).domains.set kd {D with peers:=[]}} U by have e:=P8.1;rw [HD.out] at e;exact e)
 have T8:=hid (T7.out.chg P8.2.1 (by decide));have C8:=hid (show TBx w8 q8 54 [.int .i64 D.dev,.int .i64 D.vlan,.int .i64 D.vni,.int .i64 D.irb,.int .i64 D.row,.slice t.A t.n t.c] from C7.out.same (by rw [←hw8];exact Below.heap_setCell _ _ _ _ (show q8≠g by have:=HQ8.out;omega)));have Y8:=hid (show Below w1.heap.size w1 w8 by rw [←hw8];exact Y7.out.setCell (p:=⟨g,kd * 6+5,none⟩) (show w1.heap.size≤g by have:=Q3.out;have:=HGB.out;omega) _)
 have H8:=hid (show w8.heap[g]?=(w7.setCell ⟨g,kd * 6+5,none⟩ (.slice none 0 0)).heap[g]? by rw [hw8]);have S8:=hid (show w6.heap.size≤w8.heap.size from Nat.le_trans A67.out.size P8.2.1.1)
 have G8:=hid (show (∃u,w8.cell? ⟨g,kd * 6+5,none⟩=some u)∧w8.frozen? ⟨g,kd * 6+5,none⟩=false∧g<w8.heap.size by
  obtain ⟨g9,hg9,_,hl9,hz9,hc9⟩:=O8.out.pcell (by rw [setD_len,msK_len];omega)
  have e9:g9=g:=by have e:=HG.out;rw [hg9] at e;injection e with e;injection e with e _
  subst e9
  exact ⟨hc9 kd (by rw [setD_len,msK_len];exact hkl),hz9 _,hl9⟩)
 clear hw8 hw8' P8;obtain ⟨⟨f0,f1,f2,f3,f4,f5,f6,f7⟩,hl_⟩:=KN.out _ Y8.out;have X8:=hid hl_.2;clear hl_;have b0_:=C8.out.cell 0 _ rfl;have b2_:=C8.out.cell 2 _ rfl;have bl_:=C8.out.lt
 go_upto_region 15 with (go_at_call 39;(with_reducible refine (LS.out _ X8.out).mono ?_);rintro e w9 ⟨rfl,b_⟩;have A89:=hid b_;have Y9:=hid (trans_below Y8.out b_);have O9:=hid (O8.out.up b_);have T9:=hid (T8.out.below b_);have C9:=hid (C8.out.below b_);clear f0 f1 f2 f3 f4 f5 f6 f7 b0_ b2_ bl_;have b2_:=C9.out.cell 2 _ rfl;have bl_:=C9.out.lt;clear b_)
 have S9:=hid (show w3.heap.size≤w9.heap.size from Nat.le_trans SR.out (Nat.le_trans S8.out A89.out.size));have END:=hid (fun (e:PL=[])=>show NOwn w9 w3.heap.size (allB w) (msK N (kd+1)) U by rw [NX.out,DE.out,e];exact O9.out)
 by_cases c1:D.vni=0
 · have y1:(D.vni == 0)=true:=by simpa using c1
   have OE:=hid (END.out (by rw [MSP.out,if_pos (.inl c1)]));clear c1;go_wp2
   go_roundw
   case rel=>exact ⟨kd+1,by simp,by omega,OE.out,T9.out,Y9.out,S9.out⟩
   case measure=>simp only [];omega
 have y1:(D.vni == 0)=false:=by simpa using c1
 by_cases c2:lo<0
 · have OE:=hid (END.out (by rw [MSP.out,if_pos (.inr c2)]))
   clear c1;go_wp2
   go_roundw
   case rel=>exact ⟨kd+1,by simp,by omega,OE.out,T9.out,Y9.out,S9.out⟩
   case measure=>simp only [];omega
 obtain ⟨j,hj,ej,_,_⟩:=LP.out.resolve_left (by omega);subst ej;have EP:=hid (show PL=(N.floods.getD j FloodV.zero).addrs.map (fun a=>fdF N (owF N a) D.vni) by rw [MSP.out,if_neg (fun e=>e.elim c1 c2)];rfl);have MO:=hid (HN.out.rs.fl j hj).most;obtain ⟨bf,of,vs,ef,_,hbf,⟨u,rfl,lu⟩,rf_⟩:=rsl_at HFL.out j (by have:=FLEN.out;omega) FloodV.zero
 have r3:∀wx,Below w.heap.size w wx→wx.cell? ⟨bf,of+j * 4+3,none⟩=some (.slice u.A u.n u.c):=fun wx hb=>rangeAt_keep rf_ (hb.block bf hbf) 3 _ rfl
 have KF:=hid r3;generalize (N.floods.getD j FloodV.zero).addrs=xs at *;have UL:=hid lu;have ULEN:=hid lu.len;have ul1:=lu.le;have ul2:=lu.cap
 have lj:(j:Int)<(S.fl.n:Int):=by have:=FLEN.out;omega
 have EF:=hid ef
 have y2:¬(j:Int)<0:=by omega
 clear c1 c2 r3 rf_ hbf lu ef LS LP MSP END;have PX0:=hid (show PX w9 g (kd * 6+5) (.slice none 0 0) w9 from PX.start (px_again (w0:=w7) ((A89.out.block g G8.out.2.2).trans H8.out)));have GL9:=hid (show g<w9.heap.size from Nat.lt_of_lt_of_le G8.out.2.2 A89.out.size)
 have G9:=hid (show (∃u,w9.cell? ⟨g,kd * 6+5,none⟩=some u)∧w9.frozen? ⟨g,kd * 6+5,none⟩=false by
  obtain ⟨⟨v,hv⟩,hz,hl⟩:=G8.out
  exact ⟨⟨v,(A89.out.cell (p:=⟨g,kd * 6+5,none⟩) hl).trans hv⟩,(A89.out.frozen (p:=⟨g,kd * 6+5,none⟩) hl).trans hz⟩)
 have KI:=hid (show ∀v wx,PX w9 g (kd * 6+5) v wx→NF wx w.heap.size S∧wx.cell? ⟨mq,3,none⟩=some (.slice (some ⟨g,0,none⟩) U.dm.n U.dm.c)∧wx.cell? ⟨q8,2,none⟩=some (.int .i64 D.vni)∧wx.cell? ⟨bf,of+j * 4+3,none⟩=some (.slice u.A u.n u.c)∧wx.cell? ⟨g,kd * 6+5,none⟩=some v∧wx.frozen? ⟨g,kd * 6+5,none⟩=false∧w.heap.size<wx.heap.size∧mq<wx.heap.size∧q8<wx.heap.size∧g<wx.heap.size∧Below w1.heap.size w1 wx∧Below w.heap.size w wx from fun v wx hx=>by
  have hy:Below w1.heap.size w1 wx:=Y9.out.trans (hx.b.mono (by have:=Q3.out;have:=HGB.out;omega));obtain ⟨nf,hl,hb⟩:=KN.out wx hy;have tm:=T9.out.same (hx.other T9.out.lt HGM.out.symm);have cq:=C9.out.same (hx.other C9.out.lt (by have:=HQ8.out;omega))
  exact ⟨nf,by rw [←HG.out];exact tm.cell 3 _ rfl,cq.cell 2 _ rfl,KF.out wx hb,hx.cell G9.out.1,hx.live _ G9.out.2,hl,tm.lt,cq.lt,Nat.lt_of_lt_of_le GL9.out hx.b.size,hy,hb⟩)
 obtain ⟨⟨f0,f1,f2,f3,f4,f5,f6,f7⟩,m3_,q2_,k3_,_,_,l1_,l2_,l3_,l4_,hx_⟩:=KI.out _ _ PX0.out;clear hx_;rw [EF.out] at f5;clear b2_ bl_;go_wp2;clear f0 f1 f2 f3 f4 f5 f6 f7 m3_ q2_ k3_ l1_ l2_ l3_ l4_ y1 y2
 go_loopw [10] (fun i wr=>∃(m c:Nat) (A:Option Addr),i=.int .i64 m∧m≤u.n∧PX w9 g (kd * 6+5) (.slice A m c) wr∧OwnI .i64 3 wr w9.heap.size ⟨A,m,c⟩ ((xs.take m).map (fun a=>fdF N (owF N a) D.vni))) (fun i _=>match i with| .int _ y=>(u.n - y).toNat|_=>0)
 case atStart=>exact ⟨0,0,none,rfl,by omega,PX0.out,OwnI.nil _ _ _ _⟩
 case round=>
 obtain ⟨m,c,A,rfl,hm,hp,hown⟩:=hrel;have PR:=hid hp;have OW:=hid hown;clear hp hown;rename World=>wr;obtain ⟨⟨f0,f1,f2,f3,f4,f5,f6,f7⟩,m3_,q2_,k3_,c5_,z5_,l1_,l2_,l3_,l4_,hy_,hx_⟩:=KI.out _ _ PR.out;have YS:=hid hy_;clear hx_ hy_;rw [EF.out] at f5
 by_cases hl2:m<u.n
 rotate_left
 · have lt3:¬(m:Int)<(u.n:Int):=by omega
   have EK:(xs.take m).map (fun a=>fdF N (owF N a) D.vni)=PL:=by rw [EP.out,List.take_of_length_le (by have:=ULEN.out;omega)]
   have OI:=OW.out;rw [EK] at OI;have RS:=(OI.read (.inl rfl)).keep (F':=InB wr w3.heap.size (allB w)) (fun _ _=>rfl) (fun b hb=>⟨hb.2.lt,.inr ⟨Nat.le_trans S9.out hb.1,hb.2⟩⟩);have P9:=O9.out.xput FF.out kd (by rw [setD_len,msK_len];exact hkl) g HG.out ⟨A,m,c⟩ PL PR.out RS
   have OE:=hid (show NOwn wr w3.heap.size (allB w) (msK N (kd+1)) U by
    rw [NX.out,DE.out];have e:=P9.1;rw [setD_at (by rw [msK_len];exact hkl),List.set_set] at e
    exact e)
   have TE:=hid (T9.out.chg P9.2 (by decide));have SE:=hid (Nat.le_trans S9.out PR.out.b.size);clear EK OI RS P9;go_wp2
   go_roundw
   case rel=>exact ⟨kd+1,by simp,by omega,OE.out,TE.out,YS.out,SE.out⟩
   case measure=>simp only [];omega
 have lt3:(m:Int)<(u.n:Int):=by omega
 have hml:m<xs.length:=by have:=ULEN.out;omega
 have TK:=hid (show (xs.take (m+1)).map (fun a=>fdF N (owF N a) D.vni)=(xs.take m).map (fun a=>fdF N (owF N a) D.vni)++[fdF N (owF N (xs.getD m 0)) D.vni] by rw [List.take_succ_eq_append_getElem hml,List.map_append,List.map_singleton,show xs.getD m 0=xs[m] by simp [List.getD,hml]]);have LX:=hid (show ((xs.take m).map (fun a=>fdF N (owF N a) D.vni)).length+1≤100000 by rw [List.length_map,List.length_take];have:=MO.out;omega)
 obtain ⟨XS,hXS⟩:∃XS,(xs.take m).map (fun a=>fdF N (owF N a) D.vni)=XS:=⟨_,rfl⟩;obtain ⟨ba,oa,es,hba,hca⟩:=(isl_rsl UL.out).2.2.2 (by omega);have cell:=hca m hl2;obtain ⟨a,ha⟩:∃a,xs.getD m 0=a:=⟨_,rfl⟩;have T0:=TK.out;have T1:=LX.out;have T2:=OW.out;rw [ha,hXS] at T0;rw [hXS] at T1 T2;rw [ha] at cell;replace OW:=hid T2;replace LX:=hid T1;have OWa:=OWN.out a;have FDa:=FND.out (owF N a);obtain ⟨o,ho⟩:∃o,owF N a=o:=⟨_,rfl⟩
 rw [ho] at OWa FDa T0;obtain ⟨z,hz⟩:∃z,fdF N o D.vni=z:=⟨_,rfl⟩;rw [hz] at FDa T0;replace TK:=hid T0;rw [EF.out] at OWa FDa;have OWa:=hid OWa;have FDa:=hid FDa
 have KJ:=hid (show ∀v wx,PX w9 g (kd * 6+5) v wx→(wx.cell? ⟨w.heap.size,0,none⟩=some (.slice S.dv.A S.dv.n S.dv.c)∧wx.cell? ⟨w.heap.size,1,none⟩=some (.slice S.pt.A S.pt.n S.pt.c)∧wx.cell? ⟨w.heap.size,2,none⟩=some (.slice S.lk.A S.lk.n S.lk.c)∧wx.cell? ⟨w.heap.size,3,none⟩=some (.slice S.dm.A S.dm.n S.dm.c)∧wx.cell? ⟨w.heap.size,4,none⟩=some (.slice S.st.A S.st.n S.st.c)∧wx.cell? ⟨w.heap.size,5,none⟩=some (.slice (some ⟨bf,of,none⟩) S.fl.n S.fl.c)∧wx.cell? ⟨w.heap.size,6,none⟩=some (.slice S.vr.A S.vr.n S.vr.c)∧wx.cell? ⟨w.heap.size,7,none⟩=some (.slice S.ir.A S.ir.n S.ir.c))∧wx.cell? ⟨mq,3,none⟩=some (.slice (some ⟨g,0,none⟩) U.dm.n U.dm.c)∧wx.cell? ⟨q8,2,none⟩=some (.int .i64 D.vni)∧wx.cell? ⟨bf,of+j * 4+3,none⟩=some (.slice (some ⟨ba,oa,none⟩) u.n u.c)∧wx.cell? ⟨ba,oa+m,none⟩=some (.int .u32 a)∧wx.cell? ⟨g,kd * 6+5,none⟩=some v∧wx.frozen? ⟨g,kd * 6+5,none⟩=false∧w.heap.size<wx.heap.size∧mq<wx.heap.size∧q8<wx.heap.size∧g<wx.heap.size∧Below w.heap.size w wx from fun v wx hx=>by
  obtain ⟨⟨f0,f1,f2,f3,f4,f5,f6,f7⟩,m3,q2,k3,c5,z5,l1,l2,l3,l4,_,hb⟩:=KI.out v wx hx;rw [EF.out] at f5;rw [es] at k3
  exact ⟨⟨f0,f1,f2,f3,f4,f5,f6,f7⟩,m3,q2,k3,(hb.cell (p:=⟨ba,oa+m,none⟩) hba).trans cell,c5,z5,l1,l2,l3,l4,hb⟩)
 clear ha ho hz hca hba cell T0 T1 T2 hXS;rw [es] at k3_;clear es
 go_upto_region 19 with fail
 clear f0 f1 f2 f3 f4 f5 f6 f7 m3_ q2_ k3_ c5_ z5_ l1_ l2_ l3_ l4_;refine wp_region_inv (MrW S U D t u k kd j m c mq q8 g bf of ba oa A a o z XS u3 u4 u20 u21 u22 u23 u24 u25 u26 u27 u28 u29 u30 u31 u32 u33 u34 u35 u36 u44 u45 u78 u79 w w9) (by kernel_rfl) (by kernel_rfl) ?_ ?_ ?_
 · refine MrW.mk ?_
   constructor
   case o1=>exact fun _=>OW.out.below ((Below.refl _ _).drew)
   case b0=>exact fun _=>PR.out.below GL9.out (((Below.refl _ _).drew).mono PR.out.b.size)
   case b=>exact ⟨_,PR.out.below GL9.out (((Below.refl _ _).drew).mono PR.out.b.size)⟩
   all_goals exact fun h=>by cases h
 · rintro d av w' j o @⟨x80,x81,x82,x83,x84,x85,x86,x87,x88,x89,x90,x91,x92,x93,x94,x95,x96,x97,x98,x99,x100,x101,x102,x103,x104,x105,x106,x107,_,hv⟩ ho hd hdep
   obtain ⟨h80,h81,h82,h83,h84,h85,h86,h87,h88,h89,h90,h91,h92,h93,h94,h95,h96,h97,h98,h99,h100,h101,h102,h103,h106,h107,n28,n25,o1,bx,o2,b0,b⟩:=hv
   rcases j with _|_|_|_|_|_|_|_|_|_|_|_|_|_|_|_|_|_|_|_|_|_|_|_|_|_|_|_|_|j
   · cases ho
     refine .inl ⟨rfl,?_⟩
     go_simp
     refine MrW.mk ?_
     constructor
     all_goals first|assumption|exact fun _=>rfl|exact fun _=>trivial
   · cases ho
     have e0_:=hdep 0 (by kernel_rfl);obtain rfl:=h80 e0_;obtain ⟨v_,hv_⟩:=b;obtain ⟨⟨f0,f1,f2,f3,f4,f5,f6,f7⟩,m3_,q2_,k3_,ca_,c5_,z5_,l1_,l2_,l3_,l4_,hBx⟩:=KJ.out v_ w' hv_;refine .inl ⟨rfl,?_⟩
     go_simp
     refine MrW.mk ?_
     constructor
     case b=>exact ⟨v_,hv_⟩
     all_goals first|assumption|exact fun _=>rfl|exact fun _=>trivial
   · cases ho
     refine .inl ⟨rfl,?_⟩
     go_simp
     refine MrW.mk ?_
     constructor
     all_goals first|assumption|exact fun _=>rfl|exact fun _=>trivial
   · cases ho
     refine .inl ⟨rfl,?_⟩
     go_simp
     refine MrW.mk ?_
     constructor
     all_goals first|assumption|exact fun _=>rfl|exact fun _=>trivial
   · cases ho
     have e3_:=hdep 3 (by kernel_rfl);obtain rfl:=h83 e3_;obtain ⟨v_,hv_⟩:=b;obtain ⟨⟨f0,f1,f2,f3,f4,f5,f6,f7⟩,m3_,q2_,k3_,ca_,c5_,z5_,l1_,l2_,l3_,l4_,hBx⟩:=KJ.out v_ w' hv_;refine .inl ⟨rfl,?_⟩
     go_simp
     refine MrW.mk ?_
     constructor
     case b=>exact ⟨v_,hv_⟩
     all_goals first|assumption|exact fun _=>rfl|exact fun _=>trivial
   · cases ho
     refine .inl ⟨rfl,?_⟩
     go_simp
     refine MrW.mk ?_
     constructor
     all_goals first|assumption|exact fun _=>rfl|exact fun _=>trivial
   · cases ho
     have e4_:=hdep 4 (by kernel_rfl);obtain rfl:=h84 e4_;have e5_:=hdep 5 (by kernel_rfl);obtain rfl:=h85 e5_;refine .inl ⟨rfl,?_⟩
     go_simp
     refine MrW.mk ?_
     constructor
     all_goals first|assumption|exact fun _=>rfl|exact fun _=>trivial
   · cases ho
     have e6_:=hdep 6 (by kernel_rfl);obtain rfl:=h86 e6_;refine .inl ⟨rfl,?_⟩
     go_simp
     refine MrW.mk ?_
     constructor
     all_goals first|assumption|exact fun _=>rfl|exact fun _=>trivial
   · cases ho
     have e7_:=hdep 7 (by kernel_rfl);obtain rfl:=h87 e7_
     have e28_:d 28=false:=by
      cases hx:d 28 with
      |false=>rfl
      |true=>have:=n25 (n28 hx);rw [hd] at this;cases this
     obtain ⟨⟨f0,f1,f2,f3,f4,f5,f6,f7⟩,m3_,q2_,k3_,ca_,c5_,z5_,l1_,l2_,l3_,l4_,hBx⟩:=KJ.out _ w' (b0 e28_);refine .inl ⟨rfl,?_⟩
     go_simp
     refine MrW.mk ?_
     constructor
     case b=>exact b
     all_goals first|assumption|exact fun _=>rfl|exact fun _=>trivial
   · cases ho
     obtain ⟨v_,hv_⟩:=b;obtain ⟨⟨f0,f1,f2,f3,f4,f5,f6,f7⟩,m3_,q2_,k3_,ca_,c5_,z5_,l1_,l2_,l3_,l4_,hBx⟩:=KJ.out v_ w' hv_;refine .inl ⟨rfl,?_⟩
     go_simp
     refine MrW.mk ?_
     constructor
     case b=>exact ⟨v_,hv_⟩
     all_goals first|assumption|exact fun _=>rfl|exact fun _=>trivial
   · cases ho
     obtain ⟨v_,hv_⟩:=b;obtain ⟨⟨f0,f1,f2,f3,f4,f5,f6,f7⟩,m3_,q2_,k3_,ca_,c5_,z5_,l1_,l2_,l3_,l4_,hBx⟩:=KJ.out v_ w' hv_;refine .inl ⟨rfl,?_⟩
     go_simp
     refine MrW.mk ?_
     constructor
     case b=>exact ⟨v_,hv_⟩
     all_goals first|assumption|exact fun _=>rfl|exact fun _=>trivial
   · cases ho
     refine .inl ⟨rfl,?_⟩
     go_simp
     refine MrW.mk ?_
     constructor
     all_goals first|assumption|exact fun _=>rfl|exact fun _=>trivial
   · cases ho
     have e11_:=hdep 11 (by kernel_rfl);obtain rfl:=h91 e11_;obtain ⟨v_,hv_⟩:=b;obtain ⟨⟨f0,f1,f2,f3,f4,f5,f6,f7⟩,m3_,q2_,k3_,ca_,c5_,z5_,l1_,l2_,l3_,l4_,hBx⟩:=KJ.out v_ w' hv_;refine .inl ⟨rfl,?_⟩
     go_simp
     refine MrW.mk ?_
     constructor
     case b=>exact ⟨v_,hv_⟩
     all_goals first|assumption|exact fun _=>rfl|exact fun _=>trivial
   · cases ho
     refine .inl ⟨rfl,?_⟩
     go_simp
     refine MrW.mk ?_
     constructor
     all_goals first|assumption|exact fun _=>rfl|exact fun _=>trivial
   · cases ho
     have e12_:=hdep 12 (by kernel_rfl);obtain rfl:=h92 e12_;have e13_:=hdep 13 (by kernel_rfl);obtain rfl:=h93 e13_;refine .inl ⟨rfl,?_⟩
     go_simp
     refine MrW.mk ?_
     constructor
     all_goals first|assumption|exact fun _=>rfl|exact fun _=>trivial
   · cases ho
     have e14_:=hdep 14 (by kernel_rfl);obtain rfl:=h94 e14_;refine .inl ⟨rfl,?_⟩
     go_simp
     refine MrW.mk ?_
     constructor
     all_goals first|assumption|exact fun _=>rfl|exact fun _=>trivial
   · cases ho
     have e15_:=hdep 15 (by kernel_rfl);obtain rfl:=h95 e15_;obtain ⟨v_,hv_⟩:=b;obtain ⟨⟨f0,f1,f2,f3,f4,f5,f6,f7⟩,m3_,q2_,k3_,ca_,c5_,z5_,l1_,l2_,l3_,l4_,hBx⟩:=KJ.out v_ w' hv_;refine .inl ⟨rfl,?_⟩
     go_simp
     refine MrW.mk ?_
     constructor
     case b=>exact ⟨v_,hv_⟩
     all_goals first|assumption|exact fun _=>rfl|exact fun _=>trivial
   · cases ho
     refine .inl ⟨rfl,?_⟩
     go_simp
     refine MrW.mk ?_
     constructor
     all_goals first|assumption|exact fun _=>rfl|exact fun _=>trivial
   · cases ho
     have e16_:=hdep 16 (by kernel_rfl);obtain rfl:=h96 e16_;have e17_:=hdep 17 (by kernel_rfl);obtain rfl:=h97 e17_;refine .inl ⟨rfl,?_⟩
     go_simp
     refine MrW.mk ?_
     constructor
     all_goals first|assumption|exact fun _=>rfl|exact fun _=>trivial
   · cases ho
     have e18_:=hdep 18 (by kernel_rfl);obtain rfl:=h98 e18_;obtain ⟨v_,hv_⟩:=b;obtain ⟨⟨f0,f1,f2,f3,f4,f5,f6,f7⟩,m3_,q2_,k3_,ca_,c5_,z5_,l1_,l2_,l3_,l4_,hBx⟩:=KJ.out v_ w' hv_;refine .inl ⟨rfl,?_⟩
     go_simp
     refine MrW.mk ?_
     constructor
     case b=>exact ⟨v_,hv_⟩
     all_goals first|assumption|exact fun _=>rfl|exact fun _=>trivial
   · cases ho
     have e10_:=hdep 10 (by kernel_rfl);obtain rfl:=h90 e10_;have e19_:=hdep 19 (by kernel_rfl);obtain rfl:=h99 e19_;obtain ⟨v_,hv_⟩:=b;obtain ⟨⟨f0,f1,f2,f3,f4,f5,f6,f7⟩,m3_,q2_,k3_,ca_,c5_,z5_,l1_,l2_,l3_,l4_,hBx⟩:=KJ.out v_ w' hv_;refine .inl ⟨rfl,?_⟩
     go_simp
     refine (OWa.out _ hBx).mono ?_;rintro e w2 ⟨rfl,hb⟩;refine ⟨_,rfl,?_⟩;refine MrW.mk ?_
     constructor
     case o1=>exact fun g1=>(o1 g1).below hb
     case bx=>exact fun g1=>(bx g1).imp fun q h=>⟨h.1,fun g2=>isl_low (h.2 g2) hb⟩
     case o2=>exact fun g1=>(o2 g1).imp fun s h=>⟨h.1,h.2.1.below hb,fun g2=>(h.2.2 g2).below GL9.out (hb.mono hv_.b.size)⟩
     case b0=>exact fun g1=>(b0 g1).below GL9.out (hb.mono hv_.b.size)
     case b=>exact ⟨v_,hv_.below GL9.out (hb.mono hv_.b.size)⟩
     all_goals first|assumption|exact fun _=>rfl|exact fun _=>trivial
   · cases ho
     refine .inl ⟨rfl,?_⟩
     go_simp
     refine MrW.mk ?_
     constructor
     all_goals first|assumption|exact fun _=>rfl|exact fun _=>trivial
   · cases ho
     have e21_:=hdep 21 (by kernel_rfl);obtain rfl:=h101 e21_;obtain ⟨v_,hv_⟩:=b;obtain ⟨⟨f0,f1,f2,f3,f4,f5,f6,f7⟩,m3_,q2_,k3_,ca_,c5_,z5_,l1_,l2_,l3_,l4_,hBx⟩:=KJ.out v_ w' hv_;refine .inl ⟨rfl,?_⟩
     go_simp
     refine MrW.mk ?_
     constructor
     case b=>exact ⟨v_,hv_⟩
     all_goals first|assumption|exact fun _=>rfl|exact fun _=>trivial
   · cases ho
     have e9_:=hdep 9 (by kernel_rfl);obtain rfl:=h89 e9_;have e20_:=hdep 20 (by kernel_rfl);obtain rfl:=h100 e20_;have e22_:=hdep 22 (by kernel_rfl);obtain rfl:=h102 e22_;obtain ⟨v_,hv_⟩:=b;obtain ⟨⟨f0,f1,f2,f3,f4,f5,f6,f7⟩,m3_,q2_,k3_,ca_,c5_,z5_,l1_,l2_,l3_,l4_,hBx⟩:=KJ.out v_ w' hv_;refine .inl ⟨rfl,?_⟩
     go_simp
     refine (FDa.out _ hBx).mono ?_;rintro e w2 ⟨rfl,hb⟩;refine ⟨_,rfl,?_⟩;refine MrW.mk ?_
     constructor
     case o1=>exact fun g1=>(o1 g1).below hb
     case bx=>exact fun g1=>(bx g1).imp fun q h=>⟨h.1,fun g2=>isl_low (h.2 g2) hb⟩
     case o2=>exact fun g1=>(o2 g1).imp fun s h=>⟨h.1,h.2.1.below hb,fun g2=>(h.2.2 g2).below GL9.out (hb.mono hv_.b.size)⟩
     case b0=>exact fun g1=>(b0 g1).below GL9.out (hb.mono hv_.b.size)
     case b=>exact ⟨v_,hv_.below GL9.out (hb.mono hv_.b.size)⟩
     all_goals first|assumption|exact fun _=>rfl|exact fun _=>trivial
   · cases ho
     have e23_:=hdep 23 (by kernel_rfl);obtain rfl:=h103 e23_;obtain ⟨v_,hv_⟩:=b;obtain ⟨⟨f0,f1,f2,f3,f4,f5,f6,f7⟩,m3_,q2_,k3_,ca_,c5_,z5_,l1_,l2_,l3_,l4_,hBx⟩:=KJ.out v_ w' hv_;refine .inl ⟨rfl,?_⟩
     go_simp
     have hb:=alloc_below w' (.cells #[.int .i64 z] 3);refine MrW.mk ?_
     constructor
     case o1=>exact fun g1=>(o1 g1).below hb
     case bx=>exact fun _=>⟨w'.heap.size,rfl,fun _=>isl_one w' z _⟩
     case o2=>exact fun g1=>(o2 g1).imp fun s h=>⟨h.1,h.2.1.below hb,fun g2=>(h.2.2 g2).below GL9.out (hb.mono hv_.b.size)⟩
     case b0=>exact fun g1=>(b0 g1).below GL9.out (hb.mono hv_.b.size)
     case b=>exact ⟨v_,hv_.below GL9.out (hb.mono hv_.b.size)⟩
     all_goals first|assumption|exact fun _=>rfl|exact fun _=>trivial
   · cases ho
     have e8_:=hdep 8 (by kernel_rfl);obtain rfl:=h88 e8_;have e24_:=hdep 24 (by kernel_rfl)
     have e28_:d 28=false:=by
      cases hx:d 28 with
      |false=>rfl
      |true=>have:=n28 hx;rw [hd] at this;cases this
     obtain ⟨q,rfl,hq⟩:=bx e24_;obtain ⟨s',w2,hr,own2,_,hb2⟩:=run_ints (P:=Tryz.prog) 34 34 3 Tryz.underlying34 (Desc.of (by kernel_rfl)) ⟨A,m,c⟩ XS (o1 hd) (some ⟨q,0,none⟩) 1 1 [z] (hq hd) LX.out (b0 e28_).b.size;refine .inl ⟨rfl,?_⟩;rw [exec_app (t:=34) rfl rfl rfl hr];simp only [RunI,Act.put,List.setIfInBounds_toArray,List.set_cons_zero,List.set_cons_succ];refine MrW.mk ?_
     constructor
     case n28=>exact fun _=>rfl
     case n25=>exact fun _=>by simpa using e8_
     case o1=>exact fun g1=>by simp at g1
     case bx=>exact fun _=>⟨q,rfl,fun g1=>by simp at g1⟩
     case o2=>exact fun _=>⟨s',rfl,own2,fun g1=>by rw [show (28 == 25 || d 28)=d 28 from rfl,e28_] at g1;cases g1⟩
     case b0=>exact fun _=>(b0 e28_).below GL9.out hb2
     case b=>exact ⟨_,(b0 e28_).below GL9.out hb2⟩
     all_goals first|assumption|exact fun _=>rfl|exact fun _=>trivial
   · cases ho
     have e1_:=hdep 1 (by kernel_rfl);obtain rfl:=h81 e1_;have e2_:=hdep 2 (by kernel_rfl);obtain rfl:=h82 e2_;refine .inl ⟨rfl,?_⟩
     go_simp
     refine MrW.mk ?_
     constructor
     all_goals first|assumption|exact fun _=>rfl|exact fun _=>trivial
   · cases ho
     have e26_:=hdep 26 (by kernel_rfl);obtain rfl:=h106 e26_;refine .inl ⟨rfl,?_⟩
     go_simp
     refine MrW.mk ?_
     constructor
     all_goals first|assumption|exact fun _=>rfl|exact fun _=>trivial
   · cases ho
     have e27_:=hdep 27 (by kernel_rfl);obtain rfl:=h107 e27_;have e25_:=hdep 25 (by kernel_rfl);obtain ⟨v_,hv_⟩:=b;obtain ⟨⟨f0,f1,f2,f3,f4,f5,f6,f7⟩,m3_,q2_,k3_,ca_,c5_,z5_,l1_,l2_,l3_,l4_,hBx⟩:=KJ.out v_ w' hv_;obtain ⟨s,rfl,own2,_⟩:=o2 e25_;refine .inl ⟨rfl,?_⟩
     go_simp
     refine MrW.mk ?_
     constructor
     case n28=>exact fun _=>by simpa using e25_
     case o1=>exact fun g1=>by rw [show (25 == 28 || d 25)=d 25 from rfl,e25_] at g1;cases g1
     case bx=>exact fun g1=>(bx (by simpa using g1)).imp fun q h=>⟨h.1,fun g2=>by rw [show (25 == 28 || d 25)=d 25 from rfl,e25_] at g2;cases g2⟩
     case o2=>exact fun _=>⟨s,rfl,own2.keepB (fun i hi=>Below.heap_setCell _ _ _ _ (show i≠g by have:=GL9.out;omega)),fun _=>hv_.set _⟩
     case b0=>exact fun g1=>by simp at g1
     case b=>exact ⟨_,hv_.set _⟩
     all_goals first|assumption|exact fun _=>rfl|exact fun _=>trivial
   · simp at ho
 · rintro d av w8 @⟨x80,x81,x82,x83,x84,x85,x86,x87,x88,x89,x90,x91,x92,x93,x94,x95,x96,x97,x98,x99,x100,x101,x102,x103,x104,x105,x106,x107,_,hv⟩ hall
   obtain ⟨h80,h81,h82,h83,h84,h85,h86,h87,h88,h89,h90,h91,h92,h93,h94,h95,h96,h97,h98,h99,h100,h101,h102,h103,h106,h107,n28,n25,o1,bx,o2,b0,b⟩:=hv;obtain ⟨s9,rfl,own9,px9⟩:=o2 (hall 25 (by decide));have OW9:=hid own9;have PX9:=hid (px9 (hall 28 (by decide)));have SN9:=hid (show s9.n=m+1 by have h1:=own9.len;have h2:=OW.out.len;rw [List.length_append,←h2] at h1;exact h1);clear h80 h81 h82 h83 h84 h85 h86 h87 h88 h89 h90 h91 h92 h93 h94 h95 h96 h97 h98 h99 h100 h101 h102 h103 h106 h107 n28 n25 o1 bx o2 b0 b own9 px9 hall
   go_wp2
   go_roundw
   case rel=>exact ⟨m+1,s9.c,s9.A,by simp,by omega,by rw [←SN9.out];exact PX9.out,by rw [TK.out,←SN9.out];exact OW9.out⟩
   case measure=>simp only [];omega
end Go.Proofs.YtgmflecelnefcaaGreat
