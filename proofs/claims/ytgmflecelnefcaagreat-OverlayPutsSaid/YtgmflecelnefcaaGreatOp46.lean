import Derived.Test.YtgmflecelnefcaaGreatOp45
import Derived.Test.YtgmflecelnefcaaGreatOp17
import Derived.Test.YtgmflecelnefcaaGreatOp07
import Derived.Test.YtgmflecelnefcaaGreatOp30
import Derived.Test.YtgmflecelnefcaaGreatOp37
import Derived.Test.YtgmflecelnefcaaGreatOp12
import Derived.WalkMore
set_option maxRecDepth 100000
set_option maxHeartbeats 40000000
namespace Go.Proofs.YtgmflecelnefcaaGreat
open Go.Lib (hid)
open Go.RowKit
theorem agB_at {N:NV} {f:FloodV} (h0:fdF N f.dev f.vni≠-1) (h:∀k,k<f.addrs.length→agA N f (f.addrs.getD k 0)=true):agB N f=true:=
 agB_all (by rcases vGw N f.dev f.vni with e|⟨j,_,e,_⟩<;>omega) h
theorem xwrong_any (N:NV) (S:NSl3) (w:World) (h:NRead w (vAp w) N S) (hn:NetOk N) (V:Int) (hV:IsFst (fun k=>!agB N (N.floods.getD k FloodV.zero)) S.fl.n V):Calls Tryz.prog 41 #[vAm S] w fun e w'=>e=.returned (.int .i64 V)∧Below w.heap.size w w':=by
 have FD:=hid (fun (x v:Int) (w':World) (hb:Below w.heap.size w w')=>vFd N S x v w' (h.up hb));have AN:=hid (fun (f:FloodV) (t:Sl3) (a:Int) (w':World) (hb:Below w.heap.size w w') (hs:RSl (Rdr.int .u32) w (vAp w) t.A t.n t.c f.addrs) (hf:plB f.dev (N.devices.length:Int)=true)=>xanswers_any N S f t a w' (h.up hb) (vAn hs hb) hn hf);have FOK:=hid (fun i (hi:i<N.floods.length)=>(hn.rs.fl i hi).dev)
 have HV:=hid hV;have HFL:=hid h.fl;have hle:=h.fl.le;have hcap:=h.fl.cap;have FLEN:=hid h.fl.len;unfold vAm at FD AN ⊢
 have K0:=hid (show ∀W,w.alloc (.cells (nA S) 31)=W→Below w.heap.size w W∧∀wx,Below W.heap.size W wx→NF wx w.heap.size S∧Below w.heap.size w wx from fun W hW=>by
  have NC:=net_c1 S _ hW;refine ⟨NC.2,fun wx hx=>?_⟩;have n:=(NC.1.below hx).1
  exact ⟨⟨n 0 _ rfl,n 1 _ rfl,n 2 _ rfl,n 3 _ rfl,n 4 _ rfl,n 5 _ rfl,n 6 _ rfl,n 7 _ rfl⟩,vAa NC.2 hx⟩)
 clear h hn hV;obtain ⟨FA,hFA⟩:∃A,S.fl.A=A:=⟨_,rfl⟩;have EA:=hid hFA;clear hFA
 go_enter Tryz.func41,Tryz.ntmps41
 go_upto_region 1 with fail
 obtain ⟨W,hW⟩:∃W,w.alloc (.cells (nA S) 31)=W:=⟨_,rfl⟩;have B0:=hid (K0.out W hW).1;have KQ:=hid (K0.out W hW).2;rw [hW];clear hW K0;have Y0:=hid (Below.refl W.heap.size W);obtain ⟨⟨f0,f1,f2,f3,f4,f5,f6,f7⟩,_⟩:=KQ.out _ Y0.out;rw [EA.out] at f5;go_wp2
 go_step3
 go_wp2
 go_step3
 go_wp2;clear f0 f1 f2 f3 f4 f5 f6 f7
 go_loopw [3,11] (fun p i wr=>p=.int .i64 (-1)∧∃k:Nat,i=.int .i64 k∧k≤S.fl.n∧Below W.heap.size W wr∧∀j,j<k→(!agB N (N.floods.getD j FloodV.zero))=false) (fun _ i _=>match i with| .int _ y=>(S.fl.n - y).toNat|_=>0)
 case atStart=>exact ⟨rfl,0,rfl,by omega,Y0.out,fun j hj=>absurd hj (Nat.not_lt_zero _)⟩
 case round=>
 obtain ⟨rfl,k,rfl,hk,hb,hall⟩:=hrel;have YR:=hid hb;have AL:=hid hall;clear hb hall
 by_cases hlt:k<S.fl.n
 rotate_left
 · have lt2:¬(k:Int)<(S.fl.n:Int):=by omega
   have EV:=hid (HV.out.no (fun j hj=>AL.out j (by omega)));have XR:=hid (KQ.out _ YR.out).2;go_wp2;go_ret;exact ⟨by rw [EV.out];rfl,XR.out⟩
 have lt2:(k:Int)<(S.fl.n:Int):=by omega
 have hkl:k<N.floods.length:=by have:=FLEN.out;omega
 obtain ⟨bf,of,vs,ef,_,hbf,⟨t,rfl,lt_⟩,rf_⟩:=vAi HFL.out k hlt FloodV.zero;have eA:=EA.out;rw [ef] at eA;subst eA;have FDV:=FOK.out k hkl;have HIT:=hid (fun (g:agB N (N.floods.getD k FloodV.zero)=false)=>HV.out.hit hlt (show (!agB N (N.floods.getD k FloodV.zero))=true by rw [g];rfl) AL.out);obtain ⟨f,hf⟩:∃f,N.floods.getD k FloodV.zero=f:=⟨_,rfl⟩
 have ALk:=hid (show agB N f=true→∀j,j<k+1→(!agB N (N.floods.getD j FloodV.zero))=false from fun g j hj=>by
  rcases Nat.lt_or_ge j k with h'|h'
  · exact AL.out j h'
  · obtain rfl:j=k:=by omega
    rw [hf,g];rfl)
 have T0:=HIT.out;rw [hf] at T0 lt_ rf_ FDV;replace HIT:=hid T0;have XR:=hid (KQ.out _ YR.out).2;have R1:=vAb rf_ (XR.out.block bf hbf);have d0:=R1 0 _ rfl;have d1:=R1 1 _ rfl;have d2:=R1 2 _ rfl;have d3:=R1 3 _ rfl;simp only [Nat.add_zero] at d0;rw [show of+k * floodR.n=of+k * 4 from rfl] at d0 d1 d2 d3;have sle:=lt_.le;have scap:=lt_.cap;have FDf:=FD.out f.dev f.vni;have ANf:=hid (fun (a:Int) (w':World) (hb:Below w.heap.size w w')=>AN.out f t a w' hb lt_ FDV)
 have HS:=hid lt_;have SLEN:=hid lt_.len;have EF:=hid ef;have NO1:=hid (fun (g:fdF N f.dev f.vni= -1)=>HIT.out (agB_fd (N:=N) (f:=f) (by omega)));have NO2:=hid (fun i hi g=>HIT.out (agB_no (N:=N) (f:=f) (k:=i) hi g));have YES:=hid (fun (g:fdF N f.dev f.vni≠-1) a=>ALk.out (agB_at (N:=N) (f:=f) g a));generalize fdF N f.dev f.vni=fd at *;have FDf:=hid FDf;clear T0 HIT ALk AL hf rf_ R1 FDV lt_ ef hbf
 rename World=>w2
 go_upto_region 5 with fail
 obtain ⟨w4,hw4⟩:∃w4,w2.alloc (.cells #[.int .i64 f.row,.int .i64 f.dev,.int .i64 f.vni,.slice t.A t.n t.c] 71)=w4:=⟨_,rfl⟩;have Y4:=hid (show Below W.heap.size W w4 by rw [←hw4];exact vAa YR.out (vAc _ _));have C4:=hid (show Cs w4 w2.heap.size [.int .i64 f.row,.int .i64 f.dev,.int .i64 f.vni,.slice t.A t.n t.c] by rw [←hw4];exact Cs.new w2 [.int .i64 f.row,.int .i64 f.dev,.int .i64 f.vni,.slice t.A t.n t.c] _)
 obtain ⟨q,hq⟩:∃q,w2.heap.size=q:=⟨_,rfl⟩;rw [hq] at C4;rw [hw4];rw [hq];clear hw4 hq d0 d1 d2 d3
 have KA:=hid (show ∀wx,Below w4.heap.size w4 wx→NF wx w.heap.size S∧(wx.cell? ⟨q,0,none⟩=some (.int .i64 f.row)∧wx.cell? ⟨q,1,none⟩=some (.int .i64 f.dev)∧wx.cell? ⟨q,2,none⟩=some (.int .i64 f.vni)∧wx.cell? ⟨q,3,none⟩=some (.slice t.A t.n t.c))∧Below w.heap.size w wx from fun wx hx=>by
  obtain ⟨nf,hb⟩:=KQ.out wx (vAa Y4.out hx);have r:=(C4.out.below hx).1
  exact ⟨nf,⟨r 0 _ rfl,r 1 _ rfl,r 2 _ rfl,r 3 _ rfl⟩,hb⟩)
 have Z4:=hid (Below.refl w4.heap.size w4);obtain ⟨⟨f0,f1,f2,f3,f4,f5,f6,f7⟩,⟨g0,g1,g2,g3⟩,hx_⟩:=KA.out _ Z4.out;have X4:=hid hx_;clear hx_
 by_cases c1:fd= -1
 · have y1:(fd == -1)=true:=by simpa using c1
   have EV:=hid (NO1.out c1);clear c1;go_wp2_with (go_at_call 49;(with_reducible refine (FDf.out _ X4.out).mono ?_);rintro e w5_ ⟨rfl,hb⟩;have Z5_:=hid (vAa Z4.out hb);obtain ⟨⟨f0,f1,f2,f3,f4,f5,f6,f7⟩,⟨g0,g1,g2,g3⟩,hx_⟩:=KA.out _ Z5_.out;have X5_:=hid hx_;clear hb hx_);rw [Exit.noGoto_ret];go_ret;exact ⟨by rw [EV.out];rfl,X5_.out⟩
 have y1:(fd == -1)=false:=by simpa using c1
 replace YES:=hid (YES.out c1);obtain ⟨TA,hTA⟩:∃A,t.A=A:=⟨_,rfl⟩;have ETA:=hid hTA
 go_upto_region 7 with (go_at_call 49;(with_reducible refine (FDf.out _ X4.out).mono ?_);rintro e w5_ ⟨rfl,hb⟩;have Z5_:=hid (vAa Z4.out hb);obtain ⟨⟨f0,f1,f2,f3,f4,f5,f6,f7⟩,⟨g0,g1,g2,g3⟩,hx_⟩:=KA.out _ Z5_.out;have X5_:=hid hx_;clear hb hx_)
 clear c1 hTA;rw [ETA.out] at g3;go_wp2;clear f0 f1 f2 f3 f4 f5 f6 f7 g0 g1 g2 g3
 go_loopw [3,27] (fun p i wr=>p=.int .i64 (-1)∧∃m:Nat,i=.int .i64 m∧m≤t.n∧Below w4.heap.size w4 wr∧∀j,j<m→agA N f (f.addrs.getD j 0)=true) (fun _ i _=>match i with| .int _ y=>(t.n - y).toNat|_=>0)
 case atStart=>exact ⟨rfl,0,rfl,by omega,Z5_.out,fun j hj=>absurd hj (Nat.not_lt_zero _)⟩
 case round=>
 obtain ⟨rfl,m,rfl,hm,hb,hall⟩:=hrel;have ZR:=hid hb;have AL:=hid hall;clear hb hall
 by_cases hl2:m<t.n
 rotate_left
 · have lt3:¬(m:Int)<(t.n:Int):=by omega
   have ALL:=hid (YES.out (fun j hj=>AL.out j (by have:=SLEN.out;omega)));have YE:=hid (vAa Y4.out ZR.out);go_wp2
   go_roundw
   case rel=>exact ⟨rfl,k+1,by simp,by omega,YE.out,ALL.out⟩
   case measure=>simp only [];omega
 have lt3:(m:Int)<(t.n:Int):=by omega
 have hml:m<f.addrs.length:=by have:=SLEN.out;omega
 obtain ⟨ba,oa,es,hba,hca⟩:=(vAu HS.out).2.2.2 (by omega);have eA:=ETA.out;rw [es] at eA;subst eA;have cell:=hca m hl2;obtain ⟨a,ha⟩:∃a,f.addrs.getD m 0=a:=⟨_,rfl⟩;have NOm:=NO2.out m hml
 have ALm:=hid (show agA N f a=true→∀j,j<m+1→agA N f (f.addrs.getD j 0)=true from fun g j hj=>by
  rcases Nat.lt_or_ge j m with h'|h'
  · exact AL.out j h'
  · obtain rfl:j=m:=by omega
    rw [ha];exact g)
 rw [ha] at cell NOm;obtain ⟨⟨f0,f1,f2,f3,f4,f5,f6,f7⟩,⟨g0,g1,g2,g3⟩,hx_⟩:=KA.out _ ZR.out;have XS:=hid hx_;have ca_:=(hx_.cell (p:=⟨ba,oa+m,none⟩) hba).trans cell;have AN0:=ANf.out a;obtain ⟨r,hr⟩:∃b,agA N f a=b:=⟨_,rfl⟩;have T1:=ALm.out;rw [hr] at AN0 NOm T1;have ANa:=hid AN0;replace ALm:=hid T1;have NOm:=hid NOm;clear ha hca hba cell AL T1 hr AN0 hx_ es
 cases r
 · have EV:=hid (NOm.out rfl)
   go_wp2_with (first
    |(go_at_call 94;(with_reducible refine (ANa.out _ XS.out).mono ?_);rintro e w6_ ⟨rfl,hb⟩;have Z6_:=hid (vAa ZR.out hb);have X6_:=hid (vAa XS.out hb);clear hb))
   rw [Exit.noGoto_ret];go_ret;exact ⟨by rw [EV.out];rfl,X6_.out⟩
 have ALL:=hid (ALm.out rfl)
 go_wp2_with (first
  |(go_at_call 94;(with_reducible refine (ANa.out _ XS.out).mono ?_);rintro e w6_ ⟨rfl,hb⟩;have Z6_:=hid (vAa ZR.out hb);have X6_:=hid (vAa XS.out hb);clear hb))
 go_roundw
 case rel=>exact ⟨rfl,m+1,by simp,by omega,Z6_.out,ALL.out⟩
 case measure=>simp only [];omega
theorem OwnI.below {k:IntKind} {T:TypeId} {w w':World} {B:Nat} {s:Sl3} {xs:List Int} (h:OwnI k T w B s xs) (hb:Below w.heap.size w w'):OwnI k T w' B s xs:=
 h.kept (row:=none) ⟨hb.os,hb.tape,hb.output,hb.size,fun k hk _=>hb.block k hk⟩ (by cases hx:(Value.slice s.A s.n s.c).ownBlock<;>simp)
theorem OwnI.low {k:IntKind} {T:TypeId} {w:World} {B B':Nat} {s:Sl3} {xs:List Int} (h:OwnI k T w B s xs) (hB:B'≤B):OwnI k T w B' s xs:=by
 refine ⟨h.1,?_⟩
 rcases h.2 with h3|⟨g,cap,cur,hv,hg,r⟩
 · exact .inl h3
 · exact .inr ⟨g,cap,cur,hv,Nat.le_trans hB hg,r⟩
theorem OwnI.nil (k:IntKind) (T:TypeId) (w:World) (B:Nat):OwnI k T w B ⟨none,0,0⟩ []:=World.ownsRow_nil _ _ _ _
theorem isl_one (w:World) (x:Int) (T:TypeId):ISl (w.alloc (.cells #[.int .i64 x] T)) .i64 (some ⟨w.heap.size,0,none⟩) 1 1 [x]:=vAu (own_one w x T)
theorem isl_low {w w':World} {k:IntKind} {A:Option Addr} {n c:Nat} {xs:List Int} (h:ISl w k A n c xs) (hb:Below w.heap.size w w'):ISl w' k A n c xs:=h.below hb
theorem ms_nil {N:NV} {dev v:Int} (h:lsF N dev v= -1):msP N dev v=[]:=by unfold msP;rw [if_pos (.inr (by omega))]
theorem ms_at_ {N:NV} (hg:∀f∈N.floods,agB N f=true) {dev v:Int} {j:Nat} (h:lsF N dev v=(j:Int)) (hj:j<N.floods.length):msP N dev v=(N.floods.getD j FloodV.zero).addrs.map (fun a=>fdF N (odF N a) v):=by
 have g:=hg (N.floods.getD j FloodV.zero) (by simp [List.getD,hj])
 rcases vFr N dev v with e|⟨i,_,h2,h3,h4⟩
 · omega
 · obtain rfl:i=j:=by omega
   unfold agB at g;rw [Bool.and_eq_true,List.all_eq_true] at g
   have v0:v≠0:=by
    have g1:=of_decide_eq_true g.1;rw [h3,h4] at g1
    rcases vGw N dev v with e|⟨_,_,_,_,_,e⟩
    · omega
    · exact e
   unfold msP;rw [if_neg (fun e=>by rcases e with e|e;exact v0 e;omega),h];exact List.map_congr_left (fun a ha=>by unfold odF;rw [if_neg (agA_iff.1 (g.2 a ha)).1])
structure PeI (S:NSl3) (D:DomV) (t u:Sl3) (j k c bf of ba oa:Nat) (A:Option Addr) (a o z:Int) (xs:List Int) (y38:Value) (w W:World) (x6 x28 x29 x30 x31 x32 x33 x34 x35 x36 x37:Value) (d:Nat→Bool) (w':World):Prop where
 h28:d 0=true→x28=(.slice A k c)
 h29:d 1=true→x29=(.agg #[.slice S.dv.A S.dv.n S.dv.c,.slice S.pt.A S.pt.n S.pt.c,.slice S.lk.A S.lk.n S.lk.c,.slice S.dm.A S.dm.n S.dm.c,.slice S.st.A S.st.n S.st.c,.slice S.fl.A S.fl.n S.fl.c,.slice S.vr.A S.vr.n S.vr.c,.slice S.ir.A S.ir.n S.ir.c])
 h30:d 2=true→x30=(.agg #[.slice S.dv.A S.dv.n S.dv.c,.slice S.pt.A S.pt.n S.pt.c,.slice S.lk.A S.lk.n S.lk.c,.slice S.dm.A S.dm.n S.dm.c,.slice S.st.A S.st.n S.st.c,.slice S.fl.A S.fl.n S.fl.c,.slice S.vr.A S.vr.n S.vr.c,.slice S.ir.A S.ir.n S.ir.c])
 h31:d 3=true→x31=(.int .u32 a)
 h32:d 4=true→x32=(.int .i64 o)
 h33:d 5=true→x33=(.pointer (some ⟨w.heap.size+1,2,none⟩))
 h34:d 6=true→x34=(.int .i64 D.vni)
 h35:d 7=true→x35=(.int .i64 z)
 n10:d 10=true→d 9=true
 n9:d 9=true→d 0=true
 k6:d 10=false→x6=.slice A k c
 l6:d 10=true→x6=x37
 o1:d 9=false→OwnI .i64 3 w' W.heap.size ⟨A,k,c⟩ xs
 bx:d 8=true→∃q,x36=.slice (some ⟨q,0,none⟩) 1 1∧(d 9=false→ISl w' .i64 (some ⟨q,0,none⟩) 1 1 [z])
 o2:d 9=true→∃s:Sl3,x37=.slice s.A s.n s.c∧OwnI .i64 3 w' W.heap.size s (xs++[z])
 b:Below W.heap.size W w'
inductive PeW (S:NSl3) (D:DomV) (t u:Sl3) (j k c bf of ba oa:Nat) (A:Option Addr) (a o z:Int) (xs:List Int) (y38:Value) (w W:World) (d:Nat→Bool):Act→World→Prop
 |mk {x6 x28 x29 x30 x31 x32 x33 x34 x35 x36 x37:Value} {w':World}:PeI S D t u j k c bf of ba oa A a o z xs y38 w W x6 x28 x29 x30 x31 x32 x33 x34 x35 x36 x37 d w'→PeW S D t u j k c bf of ba oa A a o z xs y38 w W d {tmps:=#[(.agg #[.slice S.dv.A S.dv.n S.dv.c,.slice S.pt.A S.pt.n S.pt.c,.slice S.lk.A S.lk.n S.lk.c,.slice S.dm.A S.dm.n S.dm.c,.slice S.st.A S.st.n S.st.c,.slice S.fl.A S.fl.n S.fl.c,.slice S.vr.A S.vr.n S.vr.c,.slice S.ir.A S.ir.n S.ir.c]),(.agg #[.int .i64 D.dev,.int .i64 D.vlan,.int .i64 D.vni,.int .i64 D.irb,.int .i64 D.row,.slice t.A t.n t.c]),(.pointer (some ⟨w.heap.size,0,none⟩)),(.pointer (some ⟨w.heap.size+1,0,none⟩)),(.slice none 0 0),(.int .i64 (j:Int)),x6,undef,(.int .u32 a),(.agg #[.slice S.dv.A S.dv.n S.dv.c,.slice S.pt.A S.pt.n S.pt.c,.slice S.lk.A S.lk.n S.lk.c,.slice S.dm.A S.dm.n S.dm.c,.slice S.st.A S.st.n S.st.c,.slice S.fl.A S.fl.n S.fl.c,.slice S.vr.A S.vr.n S.vr.c,.slice S.ir.A S.ir.n S.ir.c]),(.pointer (some ⟨w.heap.size+1,0,none⟩)),(.int .i64 D.dev),(.pointer (some ⟨w.heap.size+1,2,none⟩)),(.int .i64 D.vni),(.int .i64 (j:Int)),(.int .i64 (j:Int)),(.bool false),(.pointer (some ⟨w.heap.size,5,none⟩)),(.slice (some ⟨bf,of,none⟩) S.fl.n S.fl.c),(.int .i64 (j:Int)),(.pointer (some ⟨bf,of+j * 4,none⟩)),(.pointer (some ⟨bf,of+j * 4+3,none⟩)),(.slice (some ⟨ba,oa,none⟩) u.n u.c),(.int .i64 (u.n:Int)),(.int .i64 (k:Int)),(.bool true),(.pointer (some ⟨ba,oa+k,none⟩)),(.int .u32 a),x28,x29,x30,x31,x32,x33,x34,x35,x36,x37,y38,undef],defers:=[]} w'
theorem xpeers_any (N:NV) (S:NSl3) (D:DomV) (t:Sl3) (w:World) (h:NRead w (vAp w) N S) (hg:∀f∈N.floods,agB N f=true) (hn:NetOk N):Calls Tryz.prog 43 #[vAm S,.agg #[.int .i64 D.dev,.int .i64 D.vlan,.int .i64 D.vni,.int .i64 D.irb,.int .i64 D.row,.slice t.A t.n t.c]] w fun e w'=>∃s:Sl3,e=.returned (.slice s.A s.n s.c)∧OwnI .i64 3 w' w.heap.size s (msP N D.dev D.vni)∧Below w.heap.size w w':=by
 have LS:=fun (w':World) (hb:Below w.heap.size w w')=>xolst_any N S D.dev D.vni w' (h.up hb)
 have DV:=hid (fun (a:Int) (w':World) (hb:Below w.heap.size w w')=>xodev_any N S a w' (h.up hb));have FD:=hid (fun (x:Int) (w':World) (hb:Below w.heap.size w w')=>vFd N S x D.vni w' (h.up hb));have NIL:=hid (ms_nil (N:=N) (dev:=D.dev) (v:=D.vni));have MAT:=hid (fun j h hj=>ms_at_ (N:=N) hg (dev:=D.dev) (v:=D.vni) (j:=j) h hj);have LP:=hid (vFr N D.dev D.vni);have FMO:=hid (fun i (hi:i<N.floods.length)=>(hn.rs.fl i hi).most)
 obtain ⟨P,hP⟩:∃P,msP N D.dev D.vni=P:=⟨_,rfl⟩;obtain ⟨at_,hat⟩:∃v,lsF N D.dev D.vni=v:=⟨_,rfl⟩;have T1:=NIL.out;have T2:=MAT.out;have T3:=LP.out;rw [hP,hat] at T1;rw [hP,hat] at T2;rw [hat] at T3 LS;rw [hP];replace NIL:=hid T1;replace MAT:=hid T2;replace LP:=hid T3;have HFL:=hid h.fl;have hle:=h.fl.le;have hcap:=h.fl.cap;have FLEN:=hid h.fl.len;unfold vAm at LS DV FD ⊢;replace LS:=hid LS
 have K0:=hid (show ∀W,(w.alloc (.cells (nA S) 31)).alloc (.cells #[.int .i64 D.dev,.int .i64 D.vlan,.int .i64 D.vni,.int .i64 D.irb,.int .i64 D.row,.slice t.A t.n t.c] 54)=W→Below w.heap.size w W∧∀wx,Below W.heap.size W wx→NF wx w.heap.size S∧(wx.cell? ⟨w.heap.size+1,0,none⟩=some (.int .i64 D.dev)∧wx.cell? ⟨w.heap.size+1,1,none⟩=some (.int .i64 D.vlan)∧wx.cell? ⟨w.heap.size+1,2,none⟩=some (.int .i64 D.vni)∧wx.cell? ⟨w.heap.size+1,3,none⟩=some (.int .i64 D.irb)∧wx.cell? ⟨w.heap.size+1,4,none⟩=some (.int .i64 D.row)∧wx.cell? ⟨w.heap.size+1,5,none⟩=some (.slice t.A t.n t.c))∧Below w.heap.size w wx from fun W hW=>by
  have NC:=vHk S _ _ [.int .i64 D.dev,.int .i64 D.vlan,.int .i64 D.vni,.int .i64 D.irb,.int .i64 D.row,.slice t.A t.n t.c] hW;refine ⟨NC.2.2,fun wx hx=>?_⟩;have n:=(NC.1.below hx).1;have r:=(NC.2.1.below hx).1
  exact ⟨⟨n 0 _ rfl,n 1 _ rfl,n 2 _ rfl,n 3 _ rfl,n 4 _ rfl,n 5 _ rfl,n 6 _ rfl,n 7 _ rfl⟩,⟨r 0 _ rfl,r 1 _ rfl,r 2 _ rfl,r 3 _ rfl,r 4 _ rfl,r 5 _ rfl⟩,vAa NC.2.2 hx⟩)
 clear h hg hn hP hat T1 T2 T3
 go_enter Tryz.func43,Tryz.ntmps43
 go_upto_region 1 with fail
 obtain ⟨W,hW⟩:∃W,(w.alloc (.cells (nA S) 31)).alloc (.cells #[.int .i64 D.dev,.int .i64 D.vlan,.int .i64 D.vni,.int .i64 D.irb,.int .i64 D.row,.slice t.A t.n t.c] 54)=W:=⟨_,rfl⟩;have B0:=hid (K0.out W hW).1;have KQ:=hid (K0.out W hW).2;rw [hW];clear hW K0;have Y0:=hid (Below.refl W.heap.size W);obtain ⟨⟨f0,f1,f2,f3,f4,f5,f6,f7⟩,⟨g0,g1,g2,g3,g4,g5⟩,hx_⟩:=KQ.out _ Y0.out;clear hx_
 by_cases c1:at_= -1
 · have y1:(at_ == -1)=true:=by simpa using c1
   have EV:=hid (NIL.out c1);clear c1;go_wp2_with (go_at_call 92;(with_reducible refine (LS.out _ B0.out).mono ?_);rintro e w1_ ⟨rfl,hb⟩;have Y1_:=hid hb;obtain ⟨⟨f0,f1,f2,f3,f4,f5,f6,f7⟩,⟨g0,g1,g2,g3,g4,g5⟩,hx_⟩:=KQ.out _ hb;have X1_:=hid hx_;clear hb hx_);go_ret;exact ⟨⟨none,0,0⟩,rfl,by rw [EV.out];exact OwnI.nil _ _ _ _,X1_.out⟩
 have y1:(at_ == -1)=false:=by simpa using c1
 obtain ⟨j,hj,ej,_,_⟩:=LP.out.resolve_left c1;subst ej;have EP:=hid (MAT.out j rfl hj);have MO:=hid (FMO.out j hj);obtain ⟨bf,of,vs,ef,_,hbf,⟨u,rfl,lu⟩,rf_⟩:=vAi HFL.out j (by have:=FLEN.out;omega) FloodV.zero
 have r3:=fun wx (hb:Below w.heap.size w wx)=>vAb rf_ (hb.block bf hbf) 3 _ rfl
 generalize (N.floods.getD j FloodV.zero).addrs=xs at *;have KF:=hid (show ∀wx,Below w.heap.size w wx→wx.cell? ⟨bf,of+j * 4+3,none⟩=some (.slice u.A u.n u.c) from r3);have UL:=hid lu;have ULEN:=hid lu.len;have ule:=lu.le;have ucap:=lu.cap
 have lj:(j:Int)<(S.fl.n:Int):=by have:=FLEN.out;omega
 have EF:=hid ef;clear c1 r3 rf_ hbf lu ef;obtain ⟨UA,hUA⟩:∃A,u.A=A:=⟨_,rfl⟩;have EUA:=hid hUA;clear hUA
 go_upto_region 5 with (go_at_call 92;(with_reducible refine (LS.out _ B0.out).mono ?_);rintro e w1_ ⟨rfl,hb⟩;have Y1_:=hid hb;obtain ⟨⟨f0,f1,f2,f3,f4,f5,f6,f7⟩,⟨g0,g1,g2,g3,g4,g5⟩,hx_⟩:=KQ.out _ hb;have X1_:=hid hx_;clear hb hx_)
 rw [EF.out] at f5;have k3_:=KF.out _ X1_.out;rw [EUA.out] at k3_;go_wp2;clear f0 f1 f2 f3 f4 f5 f6 f7 g0 g1 g2 g3 g4 g5 k3_
 go_loopw [6,24] (fun l i wr=>∃(k c:Nat) (A:Option Addr),l=.slice A k c∧i=.int .i64 k∧k≤u.n∧OwnI .i64 3 wr W.heap.size ⟨A,k,c⟩ ((xs.take k).map (fun a=>fdF N (odF N a) D.vni))∧Below W.heap.size W wr) (fun _ i _=>match i with| .int _ y=>(u.n - y).toNat|_=>0)
 case atStart=>exact ⟨0,0,none,rfl,rfl,by omega,OwnI.nil _ _ _ _,Y1_.out⟩
 case round=>
 obtain ⟨k,c,A,rfl,rfl,hk,hown,hb⟩:=hrel;have OW:=hid hown;have YR:=hid hb;clear hown hb;rename World=>w3
 by_cases hlt:k<u.n
 rotate_left
 · have lt2:¬(k:Int)<(u.n:Int):=by omega
   have EK:=hid (show (xs.take k).map (fun a=>fdF N (odF N a) D.vni)=P by rw [EP.out,List.take_of_length_le (by have:=ULEN.out;omega)]);have XE:=hid (KQ.out _ YR.out).2.2;go_wp2;go_ret;exact ⟨⟨A,k,c⟩,rfl,by rw [←EK.out];exact OW.out.low B0.out.size,XE.out⟩
 have lt2:(k:Int)<(u.n:Int):=by omega
 have hkl:k<xs.length:=by have:=ULEN.out;omega
 have TK:=hid (show (xs.take (k+1)).map (fun a=>fdF N (odF N a) D.vni)=(xs.take k).map (fun a=>fdF N (odF N a) D.vni)++[fdF N (odF N (xs.getD k 0)) D.vni] by rw [List.take_succ_eq_append_getElem hkl,List.map_append,List.map_singleton,show xs.getD k 0=xs[k] by simp [List.getD,hkl]]);have LX:=hid (show ((xs.take k).map (fun a=>fdF N (odF N a) D.vni)).length+1≤100000 by rw [List.length_map,List.length_take];have:=MO.out;omega)
 obtain ⟨XS,hXS⟩:∃XS,(xs.take k).map (fun a=>fdF N (odF N a) D.vni)=XS:=⟨_,rfl⟩;obtain ⟨ba,oa,es,hba,hca⟩:=(vAu UL.out).2.2.2 (by omega);have eA:=EUA.out;rw [es] at eA;subst eA;have cell:=hca k hlt;obtain ⟨a,ha⟩:∃a,xs.getD k 0=a:=⟨_,rfl⟩;have T0:=TK.out;have T9:=LX.out;have T8:=OW.out;rw [ha,hXS] at T0;rw [hXS] at T8 T9;rw [ha] at cell;replace OW:=hid T8;replace LX:=hid T9;have DVa:=DV.out a
 have FDa:=FD.out (odF N a);obtain ⟨o,ho⟩:∃o,odF N a=o:=⟨_,rfl⟩;rw [ho] at DVa FDa T0;obtain ⟨z,hz⟩:∃z,fdF N o D.vni=z:=⟨_,rfl⟩;rw [hz] at FDa T0;replace TK:=hid T0;have DVa:=hid DVa;have FDa:=hid FDa;obtain ⟨⟨f0,f1,f2,f3,f4,f5,f6,f7⟩,⟨g0,g1,g2,g3,g4,g5⟩,hx_⟩:=KQ.out _ YR.out;have ca_:=(hx_.cell (p:=⟨ba,oa+k,none⟩) hba).trans cell;clear ha ho hz hca hba cell es T0 T8 T9 hXS hx_
 go_upto_region 8 with fail
 clear f0 f1 f2 f3 f4 f5 f6 f7 g0 g1 g2 g3 g4 g5 ca_;refine vCb (PeW S D t u j k c bf of ba oa A a o z XS u38 w W) (by kernel_rfl) (by kernel_rfl) ?_ ?_ ?_
 · refine PeW.mk ?_
   constructor
   case k6=>exact fun _=>rfl
   case o1=>exact fun _=>OW.out.below ((Below.refl _ _).drew)
   case b=>exact vAd YR.out 1
   all_goals exact fun h=>by cases h
 · rintro d av w' j o @⟨x6,x28,x29,x30,x31,x32,x33,x34,x35,x36,x37,_,hv⟩ ho hd hdep
   obtain ⟨h28,h29,h30,h31,h32,h33,h34,h35,n10,n9,k6,l6,o1,bx,o2,b⟩:=hv
   rcases j with _|_|_|_|_|_|_|_|_|_|_|j
   · cases ho
     have e10_:d 10=false:=by
      cases hx:d 10 with
      |false=>rfl
      |true=>have:=n9 (n10 hx);rw [hd] at this;cases this
     obtain rfl:=k6 e10_;refine .inl ⟨rfl,?_⟩
     go_simp
     refine PeW.mk ?_
     constructor
     all_goals first|assumption|exact fun _=>rfl|exact fun _=>trivial
   · cases ho
     obtain ⟨⟨f0,f1,f2,f3,f4,f5,f6,f7⟩,⟨g0,g1,g2,g3,g4,g5⟩,hBx⟩:=KQ.out w' b;refine .inl ⟨rfl,?_⟩
     go_simp
     refine PeW.mk ?_
     constructor
     all_goals first|assumption|exact fun _=>rfl|exact fun _=>trivial
   · cases ho
     obtain ⟨⟨f0,f1,f2,f3,f4,f5,f6,f7⟩,⟨g0,g1,g2,g3,g4,g5⟩,hBx⟩:=KQ.out w' b;refine .inl ⟨rfl,?_⟩
     go_simp
     refine PeW.mk ?_
     constructor
     all_goals first|assumption|exact fun _=>rfl|exact fun _=>trivial
   · cases ho
     refine .inl ⟨rfl,?_⟩
     go_simp
     refine PeW.mk ?_
     constructor
     all_goals first|assumption|exact fun _=>rfl|exact fun _=>trivial
   · cases ho
     have e2_:=hdep 2 (by kernel_rfl);obtain rfl:=h30 e2_;have e3_:=hdep 3 (by kernel_rfl);obtain rfl:=h31 e3_;obtain ⟨⟨f0,f1,f2,f3,f4,f5,f6,f7⟩,⟨g0,g1,g2,g3,g4,g5⟩,hBx⟩:=KQ.out w' b;refine .inl ⟨rfl,?_⟩
     go_simp
     refine (DVa.out _ hBx).mono ?_;rintro e w2 ⟨rfl,hb⟩;refine ⟨_,rfl,?_⟩;refine PeW.mk ?_
     constructor
     case o1=>exact fun g=>(o1 g).below hb
     case bx=>exact fun g=>(bx g).imp fun q h=>⟨h.1,fun g2=>isl_low (h.2 g2) hb⟩
     case o2=>exact fun g=>(o2 g).imp fun s h=>⟨h.1,h.2.below hb⟩
     case b=>exact vAa b hb
     all_goals first|assumption|exact fun _=>rfl|exact fun _=>trivial
   · cases ho
     refine .inl ⟨rfl,?_⟩
     go_simp
     refine PeW.mk ?_
     constructor
     all_goals first|assumption|exact fun _=>rfl|exact fun _=>trivial
   · cases ho
     have e5_:=hdep 5 (by kernel_rfl);obtain rfl:=h33 e5_;obtain ⟨⟨f0,f1,f2,f3,f4,f5,f6,f7⟩,⟨g0,g1,g2,g3,g4,g5⟩,hBx⟩:=KQ.out w' b;refine .inl ⟨rfl,?_⟩
     go_simp
     refine PeW.mk ?_
     constructor
     all_goals first|assumption|exact fun _=>rfl|exact fun _=>trivial
   · cases ho
     have e1_:=hdep 1 (by kernel_rfl);obtain rfl:=h29 e1_;have e4_:=hdep 4 (by kernel_rfl);obtain rfl:=h32 e4_;have e6_:=hdep 6 (by kernel_rfl);obtain rfl:=h34 e6_;obtain ⟨⟨f0,f1,f2,f3,f4,f5,f6,f7⟩,⟨g0,g1,g2,g3,g4,g5⟩,hBx⟩:=KQ.out w' b;refine .inl ⟨rfl,?_⟩
     go_simp
     refine (FDa.out _ hBx).mono ?_;rintro e w2 ⟨rfl,hb⟩;refine ⟨_,rfl,?_⟩;refine PeW.mk ?_
     constructor
     case o1=>exact fun g=>(o1 g).below hb
     case bx=>exact fun g=>(bx g).imp fun q h=>⟨h.1,fun g2=>isl_low (h.2 g2) hb⟩
     case o2=>exact fun g=>(o2 g).imp fun s h=>⟨h.1,h.2.below hb⟩
     case b=>exact vAa b hb
     all_goals first|assumption|exact fun _=>rfl|exact fun _=>trivial
   · cases ho
     have e7_:=hdep 7 (by kernel_rfl);obtain rfl:=h35 e7_;refine .inl ⟨rfl,?_⟩
     go_simp
     have hb:=vAc w' (.cells #[.int .i64 z] 3);refine PeW.mk ?_
     constructor
     case o1=>exact fun g=>(o1 g).below hb
     case bx=>exact fun _=>⟨w'.heap.size,rfl,fun _=>isl_one w' z _⟩
     case o2=>exact fun g=>(o2 g).imp fun s h=>⟨h.1,h.2.below hb⟩
     case b=>exact b.alloc b.size _
     all_goals first|assumption|exact fun _=>rfl|exact fun _=>trivial
   · cases ho
     have e0_:=hdep 0 (by kernel_rfl);obtain rfl:=h28 e0_;have e8_:=hdep 8 (by kernel_rfl);obtain ⟨q,rfl,hq⟩:=bx e8_;obtain ⟨s',w2,hr,own2,_,hb2⟩:=run_ints (P:=Tryz.prog) 34 34 3 Tryz.underlying34 (Desc.of (by kernel_rfl)) ⟨A,k,c⟩ XS (o1 hd) (some ⟨q,0,none⟩) 1 1 [z] (hq hd) LX.out b.size;refine .inl ⟨rfl,?_⟩;rw [vDo (t:=34) rfl rfl rfl hr];simp only [RunI,Act.put,List.setIfInBounds_toArray,List.set_cons_zero,List.set_cons_succ]
     refine PeW.mk ?_
     constructor
     case l6=>exact fun g=>absurd (n10 (by simpa using g)) (by rw [hd];decide)
     case n9=>exact fun _=>by simpa using e0_
     case o1=>exact fun g=>by simp at g
     case bx=>exact fun _=>⟨q,rfl,fun g=>by simp at g⟩
     case o2=>exact fun _=>⟨s',rfl,own2⟩
     case b=>exact b.trans hb2
     all_goals first|assumption|exact fun _=>rfl|exact fun _=>trivial
   · cases ho
     have e9_:=hdep 9 (by kernel_rfl);refine .inl ⟨rfl,?_⟩
     go_simp
     refine PeW.mk ?_
     constructor
     case n10=>exact fun _=>by simpa using e9_
     case k6=>exact fun g=>by simp at g
     case l6=>exact fun _=>rfl
     all_goals first|assumption|exact fun _=>rfl|exact fun _=>trivial
   · simp at ho
 · rintro d av w9 @⟨x6,x28,x29,x30,x31,x32,x33,x34,x35,x36,x37,_,hv⟩ hall
   obtain ⟨h28,h29,h30,h31,h32,h33,h34,h35,n10,n9,k6,l6,o1,bx,o2,b⟩:=hv;obtain rfl:=l6 (hall 10 (by decide));obtain ⟨s9,rfl,own9⟩:=o2 (hall 9 (by decide));have OW9:=hid own9;have Y9:=hid b;have SN9:=hid (show s9.n=k+1 by have h1:=own9.len;have h2:=OW.out.len;rw [List.length_append,←h2] at h1;exact h1);clear k6 h28 h29 h30 h31 h32 h33 h34 h35 o1 bx o2 b own9 hall l6;go_wp2
   go_roundw
   case rel=>exact ⟨k+1,s9.c,s9.A,by rw [SN9.out],by simp,by omega,by rw [TK.out,←SN9.out];exact OW9.out,Y9.out⟩
   case measure=>simp only [];omega
def GotMeB (N:NV) (R E:Int) (w:World) (e:Ending) (w':World):Prop:=∃U,e=.returned (.tuple #[vAm U,.int .i64 R,.int .i64 E])∧NRead w' (fun b=>w.heap.size≤b∧b<w'.heap.size) N U∧Below w.heap.size w w'
theorem me_2 {N:NV} (h:vHw N=false):meN N=NV.zero∧meR N=0∧meE N=2:=by
 have e:meE N=2:=by unfold meE;rw [if_pos h]
 exact ⟨by unfold meN;rw [if_neg (by rw [e];decide)],by unfold meR;rw [if_pos h],e⟩
theorem me_36 {N:NV} {r:Int} (h:vHw N=true) (g:agK N N.floods=some r):meN N=NV.zero∧meR N=r∧meE N=36:=by
 have e:meE N=36:=by unfold meE;rw [if_neg (by rw [h];decide),g]
 exact ⟨by unfold meN;rw [if_neg (by rw [e];decide)],by unfold meR;rw [if_neg (by rw [h];decide),g],e⟩
theorem me_last {N:NV} (h:vHw N=true) (g:agK N N.floods=none) (k:vHw (msN N)=false):meN N=NV.zero∧meR N=0∧meE N=36:=by
 have e:meE N=36:=by unfold meE;rw [if_neg (by rw [h];decide),g];show (if vHw (msN N)=true then (0:Int) else 36)=36;rw [if_neg (by rw [k];decide)]
 exact ⟨by unfold meN;rw [if_neg (by rw [e];decide)],by unfold meR;rw [if_neg (by rw [h];decide),g],e⟩
theorem me_ok {N:NV} (h:vHw N=true) (g:agK N N.floods=none) (k:vHw (msN N)=true):meN N=msN N∧meR N=0∧meE N=0:=by
 have e:meE N=0:=by unfold meE;rw [if_neg (by rw [h];decide),g];show (if vHw (msN N)=true then (0:Int) else 36)=0;rw [if_pos k]
 exact ⟨by unfold meN;rw [if_pos e],by unfold meR;rw [if_neg (by rw [h];decide),g],e⟩
theorem agK_fst (N:NV):∀xs:List FloodV,∃V:Int,IsFst (fun k=>!agB N (xs.getD k FloodV.zero)) xs.length V∧((V= -1∧agK N xs=none)∨∃k:Nat,k<xs.length∧V=(k:Int)∧agK N xs=some (xs.getD k FloodV.zero).row)
 | []=>⟨-1,.inr ⟨rfl,fun j hj=>absurd hj (Nat.not_lt_zero _)⟩,.inl ⟨rfl,rfl⟩⟩
 |f :: r=>by
  by_cases g:agB N f=true
  · obtain ⟨V,h1,h2⟩:=agK_fst N r
    have e:agK N (f :: r)=agK N r:=by rw [agK,if_pos g]
    rcases h1 with ⟨k,k1,k2,k3,k4⟩|⟨k1,k2⟩
    · refine ⟨((k+1:Nat):Int),.inl ⟨k+1,by simpa using k1,rfl,by simpa using k3,fun j hj=>?_⟩,.inr ⟨k+1,by simpa using k1,rfl,?_⟩⟩
      · match j with
        |0=>simp [g]
        |j+1=>simpa using k4 j (by omega)
      · rcases h2 with ⟨e1,_⟩|⟨i,_,e1,e2⟩
        · omega
        · obtain rfl:i=k:=by omega
          rw [e,e2];simp
    · refine ⟨-1,.inr ⟨rfl,fun j hj=>?_⟩,.inl ⟨rfl,?_⟩⟩
      · match j with
        |0=>simp [g]
        |j+1=>simpa using k2 j (by simpa using hj)
      · rcases h2 with ⟨_,e2⟩|⟨i,_,e1,_⟩
        · rw [e,e2]
        · omega
  · refine ⟨0,.inl ⟨0,by simp,rfl,by simp [Bool.eq_false_iff.2 g],fun j hj=>absurd hj (Nat.not_lt_zero _)⟩,.inr ⟨0,by simp,rfl,?_⟩⟩
    rw [agK,if_neg g]
    rfl
def msK (N:NV) (k:Nat):NV:={N with domains:=(N.domains.take k).map (msD N)++N.domains.drop k}
theorem msK_0 (N:NV):msK N 0=N:=rfl
theorem msK_all {N:NV} {k:Nat} (h:N.domains.length≤k):msK N k=msN N:=by
 unfold msK msN;rw [List.take_of_length_le h,List.drop_of_length_le h,List.append_nil]
theorem msK_len (N:NV) (k:Nat):(msK N k).domains.length=N.domains.length:=by
 show ((N.domains.take k).map (msD N)++N.domains.drop k).length=_
 rw [List.length_append,List.length_map,List.length_take,List.length_drop];omega
theorem msK_at {N:NV} {k:Nat} (h:k<N.domains.length):(msK N k).domains.getD k DomV.zero=N.domains.getD k DomV.zero:=by
 show ((N.domains.take k).map (msD N)++N.domains.drop k).getD k DomV.zero=_
 simp only [List.getD];rw [List.getElem?_append_right (by simp;omega)];simp [Nat.min_eq_left (Nat.le_of_lt h)]
theorem msK_next {N:NV} {k:Nat} (h:k<N.domains.length):msK N (k+1)={msK N k with domains:=(msK N k).domains.set k (msD N (N.domains.getD k DomV.zero))}:=by
 unfold msK
 have e:(N.domains.take (k+1)).map (msD N)++N.domains.drop (k+1)=((N.domains.take k).map (msD N)++N.domains.drop k).set k (msD N (N.domains.getD k DomV.zero)):=by
  have e1:N.domains.drop k=N.domains.getD k DomV.zero :: N.domains.drop (k+1):=by rw [List.drop_eq_getElem_cons h];simp [List.getD,List.getElem?_eq_getElem h]
  have l1:((N.domains.take k).map (msD N)).length=k:=by rw [List.length_map,List.length_take];omega
  rw [e1,List.set_append_right _ _ (by rw [l1];exact Nat.le_refl _),l1,Nat.sub_self,List.set_cons_zero,List.take_succ_eq_append_getElem h,List.map_append,List.map_singleton,List.append_assoc,show N.domains[k]=N.domains.getD k DomV.zero by simp [List.getD,h]]
  rfl
 rw [e]
theorem NOwn.pput {w:World} {B:Nat} {F:Nat→Prop} {N:NV} {S:NSl3} (h:NOwn w B F N S) (hF:∀b,F b→b<B) (k:Nat) (hk:k<N.domains.length) (g:Nat) (hg:S.dm.A=some ⟨g,0,none⟩) (s:Sl3) (xs:List Int) (hs:RSl (Rdr.int .i64) w (InB w B F) s.A s.n s.c xs):
 NOwn (w.setCell ⟨g,k * 6+5,none⟩ (.slice s.A s.n s.c)) B F {N with domains:=N.domains.set k {N.domains.getD k DomV.zero with peers:=xs}} S∧ChgT B 54 w (w.setCell ⟨g,k * 6+5,none⟩ (.slice s.A s.n s.c))∧B≤g:=by
 obtain ⟨h1,hc⟩:=h.dm.put (d:=DomV.zero) vDh hF k hk 5 (by decide) (.slice s.A s.n s.c) {N.domains.getD k DomV.zero with peers:=xs} g hg (fun us hu=>by
  obtain ⟨t,rfl,l⟩:=hu
  exact ⟨s,rfl,hs⟩)
 obtain ⟨g2,cur,hg2,hB,_⟩:=h.dm.row (by omega)
 have eg:g2=g:=by rw [hg] at hg2;injection hg2 with e;injection e with e _;exact e.symm
 rw [eg] at hB;exact ⟨h.setDm hc hF h1,hc,hB⟩
theorem NOwn.pcell {w:World} {B:Nat} {F:Nat→Prop} {N:NV} {S:NSl3} (h:NOwn w B F N S) (hn:0<N.domains.length):∃g,S.dm.A=some ⟨g,0,none⟩∧B≤g∧g<w.heap.size∧(∀o,w.frozen? ⟨g,o,none⟩=false)∧∀k,k<N.domains.length→∃v,w.cell? ⟨g,k * 6+5,none⟩=some v:=by
 obtain ⟨g,cur,hg,hB,hh⟩:=h.dm.row hn
 have tb:TBx w g 54 cur.toList:=by unfold TBx;rw [hh]
 refine ⟨g,hg,hB,tb.lt,fun o=>tb.live o,fun k hk=>?_⟩;obtain ⟨us,⟨s,rfl,_⟩,hr⟩:=h.dm.at_ g hg k hk DomV.zero;exact ⟨_,hr 5 _ rfl⟩
end Go.Proofs.YtgmflecelnefcaaGreat
