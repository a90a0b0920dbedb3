import Derived.Test.YtgmflecelnefcaaGreatOp13
import Derived.Test.YtgmflecelnefcaaGreatOp04
set_option maxRecDepth 100000
set_option maxHeartbeats 40000000
namespace Go.Proofs.YtgmflecelnefcaaGreat
open Go.Lib (hid)
open Go.RowKit
def nstB (N:NV) (T:StatV):Bool:=plB T.dom (N.domains.length:Int) && (plB T.port (N.ports.length:Int) && (decide ((N.ports.getD T.port.toNat PortV.zero).dev=(N.domains.getD T.dom.toNat DomV.zero).dev) && mbrB (N.ports.getD T.port.toNat PortV.zero) (N.domains.getD T.dom.toNat DomV.zero).vlan))
theorem stB_iff (N:NV) (T:StatV):nstB N T=true↔StatOk N T:=by
 simp only [nstB,Bool.and_eq_true,decide_eq_true_eq];exact ⟨fun ⟨h1,h2,h3,h4⟩=>⟨h1,h2,h3,h4⟩,fun h=>⟨h.dom,h.port,h.dev,h.mbr⟩⟩
theorem static_any (N:NV) (S:NSl3) (T:StatV) (w:World) (h:NRead w (vAp w) N S):Calls Tryz.prog 75 #[vAm S,.agg #[.int .i64 T.row,.int .i64 T.dom,.int .i64 T.port,.int .u64 T.mac]] w fun e w'=>e=.returned (.bool (nstB N T))∧Below w.heap.size w w':=by
 have HP:=hid h.pt;have HD:=hid h.dm;have hle:=h.pt.le;have hcap:=h.pt.cap;have hle2:=h.dm.le;have hcap2:=h.dm.cap;have ptl:=h.pt.len;have dml:=h.dm.len
 have PA:=fun w'=>place_dom T.dom S.dm.A S.dm.n S.dm.c hle2 hcap2 w'
 have PB:=fun w'=>vHq T.port S.pt.A S.pt.n S.pt.c hle hcap w'
 obtain ⟨V,E⟩:∃V,nstB N T=V:=⟨_,rfl⟩;rw [E];unfold nstB at E;rw [ptl,dml] at E;obtain ⟨va,ha⟩:∃v,plB T.dom (S.dm.n:Int)=v:=⟨_,rfl⟩;obtain ⟨vb,hb⟩:∃v,plB T.port (S.pt.n:Int)=v:=⟨_,rfl⟩;rw [ha] at PA E;rw [hb] at PB E;have HA:=hid ha;have HB:=hid hb;have E:=hid E;clear h ptl dml ha hb;unfold vAm
 go_enter Tryz.func75,Tryz.ntmps75
 go_upto_region 1 with fail
 obtain ⟨W,hW⟩:∃W,(w.alloc (.cells (nA S) 31)).alloc (.cells #[.int .i64 T.row,.int .i64 T.dom,.int .i64 T.port,.int .u64 T.mac] 89)=W:=⟨_,rfl⟩;have NC:=vHk S _ _ [.int .i64 T.row,.int .i64 T.dom,.int .i64 T.port,.int .u64 T.mac] hW;rw [hW];clear hW
 have KQ:=hid (show ∀wx,Below W.heap.size W wx→(NF wx w.heap.size S)∧(wx.cell? ⟨w.heap.size+1,0,none⟩=some (.int .i64 T.row)∧wx.cell? ⟨w.heap.size+1,1,none⟩=some (.int .i64 T.dom)∧wx.cell? ⟨w.heap.size+1,2,none⟩=some (.int .i64 T.port)∧wx.cell? ⟨w.heap.size+1,3,none⟩=some (.int .u64 T.mac))∧Below w.heap.size w wx from fun wx hx=>by
  have n:=(NC.1.below hx).1;have r:=(NC.2.1.below hx).1
  exact ⟨⟨n 0 _ rfl,n 1 _ rfl,n 2 _ rfl,n 3 _ rfl,n 4 _ rfl,n 5 _ rfl,n 6 _ rfl,n 7 _ rfl⟩,⟨r 0 _ rfl,r 1 _ rfl,r 2 _ rfl,r 3 _ rfl⟩,NC.2.2.trans (hx.mono NC.2.2.size)⟩)
 obtain ⟨⟨f0,f1,f2,f3,f4,f5,f6,f7⟩,⟨g0,g1,g2,g3⟩,hB0⟩:=KQ.out W (Below.refl _ _);have ql:w.heap.size<W.heap.size:=NC.1.2;have ql2:w.heap.size+1<W.heap.size:=NC.2.1.2;have B0:=hid hB0;clear hB0 NC;have PA:=hid PA;have PB:=hid PB;clear f0 f1 f2 f3 f4 f5 f6 f7 g0 g1 g2 g3
 cases va with
 |false=>
  have EV:=hid (show V=false by rw [←E.out];rfl);refine vAe (fun wx=>Below W.heap.size W wx) (by kernel_rfl) (by kernel_rfl) ((Below.refl _ _).drew) ?_
  repeat
   first
    |(refine Seq.pass rfl ?_;simp only [Act.put,List.setIfInBounds_toArray,List.set_cons_zero,List.set_cons_succ])
    |(refine Seq.run ?_ rfl (fun wx hx=>?_) ?_
      rotate_left
      · obtain ⟨⟨f0,f1,f2,f3,f4,f5,f6,f7⟩,⟨g0,g1,g2,g3⟩,hBx⟩:=KQ.out wx hx
        go_simp
        first
         |(refine StepRun.val ?_;exact hx)
         |(refine StepRun.call (v:=.bool false) ?_;(with_reducible refine Calls.mono (PA.out _) ?_);rintro e w' ⟨rfl,hb⟩;subst hb;exact ⟨rfl,hx⟩)
      simp only [Act.put,List.setIfInBounds_toArray,List.set_cons_zero,List.set_cons_succ])
  refine Seq.last (fun w7 h7=>?_);have B7:=hid (KQ.out _ h7).2.2;go_wp2;go_ret;exact ⟨by rw [EV.out];rfl,B7.out⟩
 |true=>
 cases vb with
 |false=>
  have EV:=hid (show V=false by rw [←E.out];rfl);refine vAe (fun wx=>Below W.heap.size W wx) (by kernel_rfl) (by kernel_rfl) ((Below.refl _ _).drew) ?_
  repeat
   first
    |(refine Seq.pass rfl ?_;simp only [Act.put,List.setIfInBounds_toArray,List.set_cons_zero,List.set_cons_succ])
    |(refine Seq.run ?_ rfl (fun wx hx=>?_) ?_
      rotate_left
      · obtain ⟨⟨f0,f1,f2,f3,f4,f5,f6,f7⟩,⟨g0,g1,g2,g3⟩,hBx⟩:=KQ.out wx hx
        go_simp
        first
         |(refine StepRun.val ?_;exact hx)
         |(refine StepRun.call (v:=.bool true) ?_;(with_reducible refine Calls.mono (PA.out _) ?_);rintro e w' ⟨rfl,hb⟩;subst hb;exact ⟨rfl,hx⟩)
         |(refine StepRun.call (v:=.bool false) ?_;(with_reducible refine Calls.mono (PB.out _) ?_);rintro e w' ⟨rfl,hb⟩;subst hb;exact ⟨rfl,hx⟩)
      simp only [Act.put,List.setIfInBounds_toArray,List.set_cons_zero,List.set_cons_succ])
  refine Seq.last (fun w7 h7=>?_);have B7:=hid (KQ.out _ h7).2.2;go_wp2;go_ret;exact ⟨by rw [EV.out];rfl,B7.out⟩
 |true=>
 obtain ⟨a1,a2⟩:=(vBb _ _).1 HA.out;obtain ⟨c1,c2⟩:=(vBb _ _).1 HB.out;obtain ⟨x,hx⟩:=Int.eq_ofNat_of_zero_le a1;obtain ⟨y,hy⟩:=Int.eq_ofNat_of_zero_le c1
 have hxl:x<S.dm.n:=by omega
 have hyl:y<S.pt.n:=by omega
 obtain ⟨bp,op,vp,ep,_,hbp,⟨t,rfl,_⟩,rp⟩:=vAi HD.out x hxl DomV.zero;obtain ⟨bq,oq,vq,eq_,_,hbq,⟨s,rfl,rs⟩,rq⟩:=vAi HP.out y hyl PortV.zero;have RP:=vAb rp (B0.out.block bp hbp);have RQ:=vAb rq (B0.out.block bq hbq);have E2:=E.out;rw [show T.dom.toNat=x by rw [hx];rfl,show T.port.toNat=y by rw [hy];rfl] at E2;clear E;generalize N.domains.getD x DomV.zero=D at *;generalize N.ports.getD y PortV.zero=P at *
 have HS:=hid (fun (w':World) (hb:Below w.heap.size w w')=>has_any P s D t w' (vAn rs hb));obtain ⟨vc,hc⟩:∃v,(decide (P.dev=D.dev) && mbrB P D.vlan)=v:=⟨_,rfl⟩;rw [hc] at HS E2;have EV:=hid (show V=vc by rw [←E2];rfl);have p0:=RP 0 _ rfl;have p1:=RP 1 _ rfl;have p2:=RP 2 _ rfl;have p3:=RP 3 _ rfl;have p4:=RP 4 _ rfl;have p5:=RP 5 _ rfl;have q0:=RQ 0 _ rfl;have q1:=RQ 1 _ rfl;have q2:=RQ 2 _ rfl
 have q3:=RQ 3 _ rfl;have q4:=RQ 4 _ rfl;have q5:=RQ 5 _ rfl;have q6:=RQ 6 _ rfl;simp only [Nat.add_zero] at p0 q0;rw [show op+x * domR.n=op+x * 6 from rfl] at p0 p1 p2 p3 p4 p5;rw [show oq+y * portR.n=oq+y * 7 from rfl] at q0 q1 q2 q3 q4 q5 q6
 have lx:(x:Int)<(S.dm.n:Int):=by omega
 have ly:(y:Int)<(S.pt.n:Int):=by omega
 have hbp1:bp<W.heap.size:=Nat.lt_of_lt_of_le hbp B0.out.size;have hbq1:bq<W.heap.size:=Nat.lt_of_lt_of_le hbq B0.out.size;have PA:=PA.out;have PB:=PB.out;rw [hx,ep] at PA;rw [hy,eq_] at PB;have PA:=hid PA;have PB:=hid PB
 have KX:=hid (show ∀wx,Below W.heap.size W wx→(wx.cell? ⟨w.heap.size,1,none⟩=some (.slice (some ⟨bq,oq,none⟩) S.pt.n S.pt.c)∧wx.cell? ⟨w.heap.size,3,none⟩=some (.slice (some ⟨bp,op,none⟩) S.dm.n S.dm.c)∧wx.cell? ⟨w.heap.size+1,1,none⟩=some (.int .i64 (x:Int))∧wx.cell? ⟨w.heap.size+1,2,none⟩=some (.int .i64 (y:Int))∧wx.cell? ⟨bp,op+x * 6,none⟩=some (.int .i64 D.dev)∧wx.cell? ⟨bp,op+x * 6+1,none⟩=some (.int .i64 D.vlan)∧wx.cell? ⟨bp,op+x * 6+2,none⟩=some (.int .i64 D.vni)∧wx.cell? ⟨bp,op+x * 6+3,none⟩=some (.int .i64 D.irb)∧wx.cell? ⟨bp,op+x * 6+4,none⟩=some (.int .i64 D.row)∧wx.cell? ⟨bp,op+x * 6+5,none⟩=some (.slice t.A t.n t.c)∧wx.cell? ⟨bq,oq+y * 7,none⟩=some (.int .i64 P.row)∧wx.cell? ⟨bq,oq+y * 7+1,none⟩=some (.int .i64 P.dev)∧wx.cell? ⟨bq,oq+y * 7+2,none⟩=some (.int .i64 P.native)∧wx.cell? ⟨bq,oq+y * 7+3,none⟩=some (.int .i64 P.cost)∧wx.cell? ⟨bq,oq+y * 7+4,none⟩=some (.int .i64 P.link)∧wx.cell? ⟨bq,oq+y * 7+5,none⟩=some (.string (str P.name))∧wx.cell? ⟨bq,oq+y * 7+6,none⟩=some (.slice s.A s.n s.c)∧Below w.heap.size w wx) from fun wx hxx=>by
  obtain ⟨⟨f0,f1,f2,f3,f4,f5,f6,f7⟩,⟨g0,g1,g2,g3⟩,hBx⟩:=KQ.out wx hxx;rw [ep] at f3;rw [eq_] at f1;rw [hx] at g1;rw [hy] at g2
  exact ⟨f1,f3,g1,g2,(hxx.cell (p:=⟨bp,_,none⟩) hbp1).trans p0,(hxx.cell (p:=⟨bp,_,none⟩) hbp1).trans p1,(hxx.cell (p:=⟨bp,_,none⟩) hbp1).trans p2,(hxx.cell (p:=⟨bp,_,none⟩) hbp1).trans p3,(hxx.cell (p:=⟨bp,_,none⟩) hbp1).trans p4,(hxx.cell (p:=⟨bp,_,none⟩) hbp1).trans p5,(hxx.cell (p:=⟨bq,_,none⟩) hbq1).trans q0,(hxx.cell (p:=⟨bq,_,none⟩) hbq1).trans q1,(hxx.cell (p:=⟨bq,_,none⟩) hbq1).trans q2,(hxx.cell (p:=⟨bq,_,none⟩) hbq1).trans q3,(hxx.cell (p:=⟨bq,_,none⟩) hbq1).trans q4,(hxx.cell (p:=⟨bq,_,none⟩) hbq1).trans q5,(hxx.cell (p:=⟨bq,_,none⟩) hbq1).trans q6,hBx⟩)
 clear rp rq RP RQ a1 a2 c1 c2 hx hy ep eq_ HA HB p0 p1 p2 p3 p4 p5 q0 q1 q2 q3 q4 q5 q6 rs hc E2
 cases vc
 all_goals
  refine vAe (fun wx=>Below W.heap.size W wx) (by kernel_rfl) (by kernel_rfl) ((Below.refl _ _).drew) ?_
  repeat
   first
    |(refine Seq.pass rfl ?_;simp only [Act.put,List.setIfInBounds_toArray,List.set_cons_zero,List.set_cons_succ])
    |(refine Seq.run ?_ rfl (fun wx hx=>?_) ?_
      rotate_left
      · obtain ⟨f1,f3,g1,g2,p0,p1,p2,p3,p4,p5,q0,q1,q2,q3,q4,q5,q6,hBx⟩:=KX.out wx hx
        go_simp
        first
         |(refine StepRun.val ?_;exact hx)
         |(refine StepRun.call (v:=.bool true) ?_;(with_reducible refine Calls.mono (PA.out _) ?_);rintro e w' ⟨rfl,hb⟩;subst hb;exact ⟨rfl,hx⟩)
         |(refine StepRun.call (v:=.bool true) ?_;(with_reducible refine Calls.mono (PB.out _) ?_);rintro e w' ⟨rfl,hb⟩;subst hb;exact ⟨rfl,hx⟩)
         |(refine StepRun.call (v:=.bool true) ?_;(with_reducible refine Calls.mono (HS.out _ hBx) ?_);rintro e w' ⟨rfl,hb⟩;exact ⟨rfl,vAa hx hb⟩)
         |(refine StepRun.call (v:=.bool false) ?_;(with_reducible refine Calls.mono (HS.out _ hBx) ?_);rintro e w' ⟨rfl,hb⟩;exact ⟨rfl,vAa hx hb⟩)
      simp only [Act.put,List.setIfInBounds_toArray,List.set_cons_zero,List.set_cons_succ])
  refine Seq.last (fun w7 h7=>?_);have B7:=hid (KQ.out _ h7).2.2;go_wp2;go_ret;exact ⟨by rw [EV.out];rfl,B7.out⟩
def irB (N:NV) (i:Nat) (T:IrbV):Bool:=plB T.dom (N.domains.length:Int) && (plB T.vrf (N.vrfs.length:Int) && (decide (1≤T.bits) && (decide (T.bits≤30) && (decide ((N.domains.getD T.dom.toNat DomV.zero).irb=(i:Int)) && decide ((N.domains.getD T.dom.toNat DomV.zero).dev=(N.vrfs.getD T.vrf.toNat VrfV.zero).dev)))))
theorem irB_iff (N:NV) (i:Nat) (T:IrbV):irB N i T=true↔IrbOk N i T:=by
 simp only [irB,Bool.and_eq_true,decide_eq_true_eq];exact ⟨fun ⟨h1,h2,h3,h4,h5,h6⟩=>⟨h1,h2,⟨h3,h4⟩,h6,h5⟩,fun h=>⟨h.dom,h.vrf,h.bits.1,h.bits.2,h.irb,h.dev⟩⟩
theorem irb_any (N:NV) (S:NSl3) (i:Nat) (T:IrbV) (w:World) (h:NRead w (vAp w) N S):Calls Tryz.prog 83 #[vAm S,.int .i64 (i:Int),.agg #[.int .i64 T.row,.int .i64 T.dom,.int .i64 T.vrf,.int .u32 T.addr,.int .i64 T.bits]] w fun e w'=>e=.returned (.bool (irB N i T))∧Below w.heap.size w w':=by
 have HVR:=hid h.vr;have HD:=hid h.dm;have hle:=h.vr.le;have hcap:=h.vr.cap;have hle2:=h.dm.le;have hcap2:=h.dm.cap;have vrl:=h.vr.len;have dml:=h.dm.len
 have PA:=fun w'=>place_dom T.dom S.dm.A S.dm.n S.dm.c hle2 hcap2 w'
 have PV:=fun w'=>place_vrf T.vrf S.vr.A S.vr.n S.vr.c hle hcap w'
 obtain ⟨V,E⟩:∃V,irB N i T=V:=⟨_,rfl⟩;rw [E];unfold irB at E;rw [vrl,dml] at E;obtain ⟨va,ha⟩:∃v,plB T.dom (S.dm.n:Int)=v:=⟨_,rfl⟩;obtain ⟨vb,hb⟩:∃v,plB T.vrf (S.vr.n:Int)=v:=⟨_,rfl⟩;rw [ha] at PA E;rw [hb] at PV E;have HA:=hid ha;have HB:=hid hb;have E:=hid E;clear h vrl dml ha hb;unfold vAm
 go_enter Tryz.func83,Tryz.ntmps83
 go_upto_region 1 with fail
 obtain ⟨W,hW⟩:∃W,(w.alloc (.cells (nA S) 31)).alloc (.cells #[.int .i64 T.row,.int .i64 T.dom,.int .i64 T.vrf,.int .u32 T.addr,.int .i64 T.bits] 98)=W:=⟨_,rfl⟩;have NC:=vHk S _ _ [.int .i64 T.row,.int .i64 T.dom,.int .i64 T.vrf,.int .u32 T.addr,.int .i64 T.bits] hW;rw [hW];clear hW
 have KQ:=hid (show ∀wx,Below W.heap.size W wx→(NF wx w.heap.size S)∧(wx.cell? ⟨w.heap.size+1,0,none⟩=some (.int .i64 T.row)∧wx.cell? ⟨w.heap.size+1,1,none⟩=some (.int .i64 T.dom)∧wx.cell? ⟨w.heap.size+1,2,none⟩=some (.int .i64 T.vrf)∧wx.cell? ⟨w.heap.size+1,3,none⟩=some (.int .u32 T.addr)∧wx.cell? ⟨w.heap.size+1,4,none⟩=some (.int .i64 T.bits))∧Below w.heap.size w wx from fun wx hx=>by
  have n:=(NC.1.below hx).1;have r:=(NC.2.1.below hx).1
  exact ⟨⟨n 0 _ rfl,n 1 _ rfl,n 2 _ rfl,n 3 _ rfl,n 4 _ rfl,n 5 _ rfl,n 6 _ rfl,n 7 _ rfl⟩,⟨r 0 _ rfl,r 1 _ rfl,r 2 _ rfl,r 3 _ rfl,r 4 _ rfl⟩,NC.2.2.trans (hx.mono NC.2.2.size)⟩)
 obtain ⟨⟨f0,f1,f2,f3,f4,f5,f6,f7⟩,⟨g0,g1,g2,g3,g4⟩,hB0⟩:=KQ.out W (Below.refl _ _);have ql:w.heap.size<W.heap.size:=NC.1.2;have ql2:w.heap.size+1<W.heap.size:=NC.2.1.2;have B0:=hid hB0;clear hB0 NC;have PA:=hid PA;have PV:=hid PV
 cases va with
 |false=>
  have EV:=hid (show V=false by rw [←E.out];rfl);go_wp2_with ((go_at_call 130;(with_reducible refine (PA.out _).mono ?_);rintro e wp ⟨rfl,hwp⟩;subst hwp));go_ret;exact ⟨by rw [EV.out];rfl,B0.out⟩
 |true=>
 cases vb with
 |false=>
  have EV:=hid (show V=false by rw [←E.out];rfl);go_wp2_with (first|(go_at_call 130;(with_reducible refine (PA.out _).mono ?_);rintro e wp ⟨rfl,hwp⟩;subst hwp)|(go_at_call 134;(with_reducible refine (PV.out _).mono ?_);rintro e wp ⟨rfl,hwp⟩;subst hwp));go_ret;exact ⟨by rw [EV.out];rfl,B0.out⟩
 |true=>
 by_cases t1:1≤T.bits
 rotate_left
 · have z1:T.bits<1:=by omega
   have EV:=hid (show V=false by rw [←E.out,decide_eq_false t1];rfl);clear t1;go_wp2_with (first|(go_at_call 130;(with_reducible refine (PA.out _).mono ?_);rintro e wp ⟨rfl,hwp⟩;subst hwp)|(go_at_call 134;(with_reducible refine (PV.out _).mono ?_);rintro e wp ⟨rfl,hwp⟩;subst hwp));go_ret;exact ⟨by rw [EV.out];rfl,B0.out⟩
 have z1:¬T.bits<1:=by omega
 by_cases t2:T.bits≤30
 rotate_left
 · have z2:30<T.bits:=by omega
   have EV:=hid (show V=false by rw [←E.out,decide_eq_false t2];simp);clear t1 t2;go_wp2_with (first|(go_at_call 130;(with_reducible refine (PA.out _).mono ?_);rintro e wp ⟨rfl,hwp⟩;subst hwp)|(go_at_call 134;(with_reducible refine (PV.out _).mono ?_);rintro e wp ⟨rfl,hwp⟩;subst hwp));go_ret;exact ⟨by rw [EV.out];rfl,B0.out⟩
 have z2:¬30<T.bits:=by omega
 have E3:=E.out;rw [decide_eq_true t1,decide_eq_true t2] at E3;clear E t1 t2
 go_upto_region 3 with (first|(go_at_call 130;(with_reducible refine (PA.out _).mono ?_);rintro e wp ⟨rfl,hwp⟩;subst hwp)|(go_at_call 134;(with_reducible refine (PV.out _).mono ?_);rintro e wp ⟨rfl,hwp⟩;subst hwp))
 obtain ⟨a1,a2⟩:=(vBb _ _).1 HA.out;obtain ⟨c1,c2⟩:=(vBb _ _).1 HB.out;obtain ⟨x,hx⟩:=Int.eq_ofNat_of_zero_le a1;obtain ⟨y,hy⟩:=Int.eq_ofNat_of_zero_le c1
 have hxl:x<S.dm.n:=by omega
 have hyl:y<S.vr.n:=by omega
 obtain ⟨bp,op,vp,ep,_,hbp,⟨t,rfl,_⟩,rp⟩:=vAi HD.out x hxl DomV.zero;obtain ⟨bq,oq,vq,eq_,_,hbq,⟨s1,s2,rfl,_,_⟩,rq⟩:=vAi HVR.out y hyl VrfV.zero;have RP:=vAb rp (B0.out.block bp hbp);have RQ:=vAb rq (B0.out.block bq hbq);rw [show T.dom.toNat=x by rw [hx];rfl,show T.vrf.toNat=y by rw [hy];rfl] at E3;generalize N.domains.getD x DomV.zero=D at *;generalize N.vrfs.getD y VrfV.zero=U at *
 have E:=hid (show (decide (D.irb=(i:Int)) && decide (D.dev=U.dev))=V by rw [←E3];rfl);clear E3;have p0:=RP 0 _ rfl;have p1:=RP 1 _ rfl;have p2:=RP 2 _ rfl;have p3:=RP 3 _ rfl;have p4:=RP 4 _ rfl;have p5:=RP 5 _ rfl;have q1:=RQ 1 _ rfl;simp only [Nat.add_zero] at p0;rw [show op+x * domR.n=op+x * 6 from rfl] at p0 p1 p2 p3 p4 p5;rw [show oq+y * vrfR.n=oq+y * 5 from rfl] at q1
 have lx:(x:Int)<(S.dm.n:Int):=by omega
 have ly:(y:Int)<(S.vr.n:Int):=by omega
 have hbq1:bq<W.heap.size:=Nat.lt_of_lt_of_le hbq B0.out.size;rw [ep] at f3;rw [hx] at g1
 have KX:=hid (show ∀wx,Below W.heap.size W wx→wx.cell? ⟨w.heap.size,6,none⟩=some (.slice (some ⟨bq,oq,none⟩) S.vr.n S.vr.c)∧wx.cell? ⟨w.heap.size+1,2,none⟩=some (.int .i64 (y:Int))∧wx.cell? ⟨bq,oq+y * 5+1,none⟩=some (.int .i64 U.dev)∧Below w.heap.size w wx from fun wx hxx=>by
  obtain ⟨⟨f0,f1,f2,f3,f4,f5,f6,f7⟩,⟨g0,g1,g2,g3,g4⟩,hBx⟩:=KQ.out wx hxx;rw [eq_] at f6;rw [hy] at g2
  exact ⟨f6,g2,(hxx.cell (p:=⟨bq,_,none⟩) hbq1).trans q1,hBx⟩)
 clear rp rq RP RQ a1 a2 c1 c2 hx hy ep eq_ HA HB q1 PA PV
 go_cut [7] (fun p wx=>∃b7,p=.pointer (some ⟨b7,0,none⟩)∧Cs wx b7 [.int .i64 D.dev,.int .i64 D.vlan,.int .i64 D.vni,.int .i64 D.irb,.int .i64 D.row,.slice t.A t.n t.c]∧Below W.heap.size W wx)
 case first=>
  go_wp2
  go_meet
  exact ⟨_,rfl,Cs.new _ _ _,vAc _ _⟩
 case rest=>
 obtain ⟨b7,rfl,C7,hbw⟩:=hcut;rename World=>w5;have B5:=hid hbw;have KD:=hid (show ∀wx,Below w5.heap.size w5 wx→wx.cell? ⟨b7,0,none⟩=some (.int .i64 D.dev)∧wx.cell? ⟨b7,3,none⟩=some (.int .i64 D.irb) from fun wx hxx=>⟨(hxx.cell (p:=⟨b7,0,none⟩) C7.2).trans (C7.1 0 _ rfl),(hxx.cell (p:=⟨b7,3,none⟩) C7.2).trans (C7.1 3 _ rfl)⟩);clear C7 hbw f0 f1 f2 f3 f4 f5 f6 f7 g0 g1 g2 g3 g4 p0 p1 p2 p3 p4 p5
 by_cases t1:D.irb=(i:Int)
 rotate_left
 · have z1:(D.irb == (i:Int))=false:=by simpa using t1
   have EV:=hid (show V=false by rw [←E.out,decide_eq_false t1];rfl);clear t1;go_wp2;refine vAe (fun wx=>Below w5.heap.size w5 wx) (by kernel_rfl) (by kernel_rfl) ((Below.refl _ _).drew) ?_
   repeat
    first
     |(refine Seq.pass rfl ?_;simp only [Act.put,List.setIfInBounds_toArray,List.set_cons_zero,List.set_cons_succ])
     |(refine Seq.run ?_ rfl (fun wx hx=>?_) ?_
       rotate_left
       · obtain ⟨f6,g2,q1,hBx⟩:=KX.out wx (vAa B5.out hx)
         obtain ⟨m0,m3⟩:=KD.out wx hx
         go_simp
         first
          |(refine StepRun.val ?_;exact hx)
       simp only [Act.put,List.setIfInBounds_toArray,List.set_cons_zero,List.set_cons_succ])
   refine Seq.last (fun w7 h7=>?_);have B7:=hid (KX.out _ (vAa B5.out h7)).2.2.2;go_wp2;go_ret;exact ⟨by rw [EV.out];rfl,B7.out⟩
 have z1:(D.irb == (i:Int))=true:=by simpa using t1
 by_cases t2:D.dev=U.dev
 rotate_left
 · have z2:(D.dev == U.dev)=false:=by simpa using t2
   have EV:=hid (show V=false by rw [←E.out,decide_eq_false t2];simp);clear t1 t2;go_wp2;refine vAe (fun wx=>Below w5.heap.size w5 wx) (by kernel_rfl) (by kernel_rfl) ((Below.refl _ _).drew) ?_
   repeat
    first
     |(refine Seq.pass rfl ?_;simp only [Act.put,List.setIfInBounds_toArray,List.set_cons_zero,List.set_cons_succ])
     |(refine Seq.run ?_ rfl (fun wx hx=>?_) ?_
       rotate_left
       · obtain ⟨f6,g2,q1,hBx⟩:=KX.out wx (vAa B5.out hx)
         obtain ⟨m0,m3⟩:=KD.out wx hx
         go_simp
         first
          |(refine StepRun.val ?_;exact hx)
       simp only [Act.put,List.setIfInBounds_toArray,List.set_cons_zero,List.set_cons_succ])
   refine Seq.last (fun w7 h7=>?_);have B7:=hid (KX.out _ (vAa B5.out h7)).2.2.2;go_wp2;go_ret;exact ⟨by rw [EV.out];rfl,B7.out⟩
 have z2:(D.dev == U.dev)=true:=by simpa using t2
 have EV:=hid (show V=true by rw [←E.out,decide_eq_true t1,decide_eq_true t2];rfl);clear t1 t2;go_wp2;refine vAe (fun wx=>Below w5.heap.size w5 wx) (by kernel_rfl) (by kernel_rfl) ((Below.refl _ _).drew) ?_
 repeat
  first
   |(refine Seq.pass rfl ?_;simp only [Act.put,List.setIfInBounds_toArray,List.set_cons_zero,List.set_cons_succ])
   |(refine Seq.run ?_ rfl (fun wx hx=>?_) ?_
     rotate_left
     · obtain ⟨f6,g2,q1,hBx⟩:=KX.out wx (vAa B5.out hx)
       obtain ⟨m0,m3⟩:=KD.out wx hx
       go_simp
       first
        |(refine StepRun.val ?_;exact hx)
     simp only [Act.put,List.setIfInBounds_toArray,List.set_cons_zero,List.set_cons_succ])
 refine Seq.last (fun w7 h7=>?_);have B7:=hid (KX.out _ (vAa B5.out h7)).2.2.2;go_wp2;go_ret;exact ⟨by rw [EV.out];rfl,B7.out⟩
theorem known_any (N:NV) (S:NSl3) (P:PortV) (q0 q1:Nat) (j v:Int) (w:World) (h:NRead w (vAp w) N S) (nc:Cs w q0 (vBk S)) (c1:w.cell? ⟨q1,1,none⟩=some (.int .i64 P.dev)):
 Calls Tryz.prog 125 #[.int .i64 j,.int .i64 v,.pointer (some ⟨q0,0,none⟩),.pointer (some ⟨q1,0,none⟩)] w fun e w'=>e=.returned (.bool (decide (atF N P.dev v≠-1)))∧Below w.heap.size w w':=by
 have FD:=find_any N S P.dev v w h;have ql1:q1<w.heap.size:=World.block_lt_of_cell? w _ c1;have ql:=nc.2;have n:=nc.1;have f0:=n 0 _ rfl;have f1:=n 1 _ rfl;have f2:=n 2 _ rfl;have f3:=n 3 _ rfl;have f4:=n 4 _ rfl;have f5:=n 5 _ rfl;have f6:=n 6 _ rfl;have f7:=n 7 _ rfl;unfold vAm at FD;generalize atF N P.dev v=F at *;have FD:=hid FD;clear h nc n
 by_cases hF:F= -1
 · have z:(F != -1)=false:=by simpa using hF
   rw [decide_eq_false (show ¬F≠-1 from fun g=>g hF)];clear hF
   go_enter Tryz.func125,Tryz.ntmps125
   go_wp2_with (go_at_call 86;(with_reducible refine FD.out.mono ?_);rintro e w1 ⟨rfl,hb⟩;have B:=hid hb;clear hb);go_ret;exact ⟨rfl,B.out⟩
 · have z:(F != -1)=true:=by simpa using hF
   rw [decide_eq_true (show F≠-1 from hF)];clear hF
   go_enter Tryz.func125,Tryz.ntmps125
   go_wp2_with (go_at_call 86;(with_reducible refine FD.out.mono ?_);rintro e w1 ⟨rfl,hb⟩;have B:=hid hb;clear hb);go_ret;exact ⟨rfl,B.out⟩
theorem enters_port1:vAz Tryz.prog 125:=vAt Tryz.func125 (by kernel_rfl) rfl
def ptR (N:NV) (i:Nat) (P:PortV):Bool:=decide (0≤P.native) && (decide (P.native≤4094) && (rsB P.tagged 4094 && (!memB P.tagged P.native && (!(decide (P.native=0) && decide (P.tagged.length=0)) && ((decide (P.link= -1) || (plB P.link (N.links.length:Int) && (decide ((N.links.getD P.link.toNat LinkV.zero).a=(i:Int)) || decide ((N.links.getD P.link.toNat LinkV.zero).b=(i:Int))))) &&
 ((decide (P.native=0) || decide (atF N P.dev P.native≠-1)) && (List.range P.tagged.length).all (fun j=>decide (atF N P.dev (P.tagged.getD j 0)≠-1))))))))
theorem port_any (N:NV) (S:NSl3) (i:Nat) (P:PortV) (s:Sl3) (w:World) (h:NRead w (vAp w) N S) (l1:RSl (Rdr.int .i64) w (vAp w) s.A s.n s.c P.tagged):Calls Tryz.prog 66 #[vAm S,.int .i64 (i:Int),.agg #[.int .i64 P.row,.int .i64 P.dev,.int .i64 P.native,.int .i64 P.cost,.int .i64 P.link,.string (str P.name),.slice s.A s.n s.c]] w fun e w'=>e=.returned (.bool (ptR N i P))∧Below w.heap.size w w':=by
 have HL:=hid h.lk;have UPN:=hid (fun (w':World) (hb:Below w.heap.size w w')=>h.up hb);have hle:=h.lk.le;have hcap:=h.lk.cap;have lkl:=h.lk.len;have tgl:=l1.len;have sle:=l1.le;have scap:=l1.cap
 have PK:=fun w'=>place_link P.link S.lk.A S.lk.n S.lk.c hle hcap w'
 have RS:=fun (w':World) (hb:Below w.heap.size w w')=>rises_any s.A s.n s.c P.tagged 4094 w' (vAu (vAn l1 hb))
 have CT:=fun (w':World) (hb:Below w.heap.size w w')=>cont_of s.A s.n s.c P.tagged P.native w' (vAu (vAn l1 hb))
 have KN:=hid (fun (j v:Int) (w':World) (hb:Below w.heap.size w w') (q0 q1:Nat) (nc:Cs w' q0 (vBk S)) (c1:w'.cell? ⟨q1,1,none⟩=some (.int .i64 P.dev))=>known_any N S P q0 q1 j v w' (h.up hb) nc c1);obtain ⟨V,E⟩:∃V,ptR N i P=V:=⟨_,rfl⟩;rw [E];unfold ptR at E;obtain ⟨vr,hr⟩:∃v,rsB P.tagged 4094=v:=⟨_,rfl⟩;obtain ⟨vc,hc⟩:∃v,memB P.tagged P.native=v:=⟨_,rfl⟩;obtain ⟨vk,hk⟩:∃v,decide (atF N P.dev P.native≠-1)=v:=⟨_,rfl⟩
 obtain ⟨va,hva⟩:∃v,(List.range P.tagged.length).all (fun j=>decide (atF N P.dev (P.tagged.getD j 0)≠-1))=v:=⟨_,rfl⟩;obtain ⟨vp,hp⟩:∃v,plB P.link (S.lk.n:Int)=v:=⟨_,rfl⟩;rw [lkl,hr,hc,hk,hva,hp,tgl] at E;rw [hr] at RS;rw [hc] at CT;rw [hp] at PK;have HP:=hid hp
 have AL:=hid (fun (w':World) (hb:Below w.heap.size w w') (q0 q1:Nat) (nc:Cs w' q0 (vBk S)) (c1:w'.cell? ⟨q1,1,none⟩=some (.int .i64 P.dev))=>
  all_int 125 #[.pointer (some ⟨q0,0,none⟩),.pointer (some ⟨q1,0,none⟩)] enters_port1 s.A s.n s.c P.tagged w' (vAu (vAn l1 hb)) (fun j=>decide (atF N P.dev (P.tagged.getD j 0)≠-1)) (fun k w2 hk hb2=>by
   rw [app22]
   exact known_any N S P q0 q1 k _ w2 ((h.up hb).up hb2) (nc.below hb2) ((hb2.cell (p:=⟨q1,1,none⟩) (World.block_lt_of_cell? w' _ c1)).trans c1)) va (by
    rw [←hva,List.all_eq_true,tgl]
    exact ⟨fun g k hk=>g k (List.mem_range.2 hk),fun g k hk=>g k (List.mem_range.1 hk)⟩))
 have KN:=hid (fun (w':World) (hb:Below w.heap.size w w') (q0 q1:Nat) (nc:Cs w' q0 (vBk S)) (c1:w'.cell? ⟨q1,1,none⟩=some (.int .i64 P.dev))=>hk▸KN.out 0 P.native w' hb q0 q1 nc c1);have E:=hid E;have RS:=hid RS;have CT:=hid CT;have PK:=hid PK;clear h l1 lkl tgl hr hc hk hva hp;unfold vAm
 go_enter Tryz.func66,Tryz.ntmps66
 go_upto_region 1 with fail
 obtain ⟨W,hW⟩:∃W,(w.alloc (.cells (nA S) 31)).alloc (.cells #[.int .i64 P.row,.int .i64 P.dev,.int .i64 P.native,.int .i64 P.cost,.int .i64 P.link,.string (str P.name),.slice s.A s.n s.c] 68)=W:=⟨_,rfl⟩;have NC:=vHk S _ _ [.int .i64 P.row,.int .i64 P.dev,.int .i64 P.native,.int .i64 P.cost,.int .i64 P.link,.string (str P.name),.slice s.A s.n s.c] hW;rw [hW];clear hW
 have KQ:=hid (show ∀wx,Below W.heap.size W wx→(NF wx w.heap.size S)∧(wx.cell? ⟨w.heap.size+1,0,none⟩=some (.int .i64 P.row)∧wx.cell? ⟨w.heap.size+1,1,none⟩=some (.int .i64 P.dev)∧wx.cell? ⟨w.heap.size+1,2,none⟩=some (.int .i64 P.native)∧wx.cell? ⟨w.heap.size+1,3,none⟩=some (.int .i64 P.cost)∧wx.cell? ⟨w.heap.size+1,4,none⟩=some (.int .i64 P.link)∧wx.cell? ⟨w.heap.size+1,5,none⟩=some (.string (str P.name))∧wx.cell? ⟨w.heap.size+1,6,none⟩=some (.slice s.A s.n s.c))∧Below w.heap.size w wx from fun wx hx=>by
  have n:=(NC.1.below hx).1;have r:=(NC.2.1.below hx).1
  exact ⟨⟨n 0 _ rfl,n 1 _ rfl,n 2 _ rfl,n 3 _ rfl,n 4 _ rfl,n 5 _ rfl,n 6 _ rfl,n 7 _ rfl⟩,⟨r 0 _ rfl,r 1 _ rfl,r 2 _ rfl,r 3 _ rfl,r 4 _ rfl,r 5 _ rfl,r 6 _ rfl⟩,NC.2.2.trans (hx.mono NC.2.2.size)⟩)
 obtain ⟨⟨f0,f1,f2,f3,f4,f5,f6,f7⟩,⟨g0,g1,g2,g3,g4,g5,g6⟩,hB0⟩:=KQ.out W (Below.refl _ _);have ql:w.heap.size<W.heap.size:=NC.1.2;have ql2:w.heap.size+1<W.heap.size:=NC.2.1.2;have B0:=hid hB0;have NCS:=hid (show ∀wx,Below W.heap.size W wx→Cs wx w.heap.size (vBk S) from fun wx hx=>NC.1.below hx);clear hB0 NC
 by_cases t1:0≤P.native
 rotate_left
 · have z1:P.native<0:=by omega
   have EV:=hid (show V=false by rw [←E.out,decide_eq_false t1];rfl);clear t1;go_wp2;go_ret;exact ⟨by rw [EV.out];rfl,B0.out⟩
 have z1:¬P.native<0:=by omega
 by_cases t2:P.native≤4094
 rotate_left
 · have z2:4094<P.native:=by omega
   have EV:=hid (show V=false by rw [←E.out,decide_eq_false t2];simp);clear t1 t2;go_wp2;go_ret;exact ⟨by rw [EV.out];rfl,B0.out⟩
 have z2:¬4094<P.native:=by omega
 have E3:=E.out;rw [decide_eq_true t1,decide_eq_true t2] at E3;have E:=hid E3;clear E3 t1 t2
 cases vr with
 |false=>
  have EV:=hid (show V=false by rw [←E.out];rfl);go_wp2_with ((go_at_call 80;(with_reducible refine (RS.out _ B0.out).mono ?_);rintro e w1 ⟨rfl,hd⟩;have Y:=hid (show Below W.heap.size W w1 from Below.drew (Below.refl _ _) hd);have X:=hid (KQ.out _ Y.out).2.2;obtain ⟨⟨f0,f1,f2,f3,f4,f5,f6,f7⟩,⟨g0,g1,g2,g3,g4,g5,g6⟩,_⟩:=KQ.out _ Y.out;clear hd));go_ret;exact ⟨by rw [EV.out];rfl,X.out⟩
 |true=>
 cases vc with
 |true=>
  have EV:=hid (show V=false by rw [←E.out];rfl);go_wp2_with (first|(go_at_call 80;(with_reducible refine (RS.out _ B0.out).mono ?_);rintro e w1 ⟨rfl,hd⟩;have Y:=hid (show Below W.heap.size W w1 from Below.drew (Below.refl _ _) hd);have X:=hid (KQ.out _ Y.out).2.2;obtain ⟨⟨f0,f1,f2,f3,f4,f5,f6,f7⟩,⟨g0,g1,g2,g3,g4,g5,g6⟩,_⟩:=KQ.out _ Y.out;clear hd)|(go_at_call 122;(with_reducible refine (CT.out _ X.out).mono ?_);rintro e w2 ⟨rfl,hw2⟩;subst hw2))
  go_ret;exact ⟨by rw [EV.out];rfl,X.out⟩
 |false=>
 have E3:=E.out;simp only [Bool.true_and,Bool.not_false] at E3;have E:=hid E3;clear E3
 go_upto_region 3 with (first|(go_at_call 80;(with_reducible refine (RS.out _ B0.out).mono ?_);rintro e w1 ⟨rfl,hd⟩;have Y:=hid (show Below W.heap.size W w1 from Below.drew (Below.refl _ _) hd);have X:=hid (KQ.out _ Y.out).2.2;obtain ⟨⟨f0,f1,f2,f3,f4,f5,f6,f7⟩,⟨g0,g1,g2,g3,g4,g5,g6⟩,_⟩:=KQ.out _ Y.out;clear hd)|(go_at_call 122;(with_reducible refine (CT.out _ X.out).mono ?_);rintro e w2 ⟨rfl,hw2⟩;subst hw2))
 by_cases t3:P.native=0
 · have z3:(P.native == 0)=true:=by simpa using t3
   by_cases t4:s.n=0
   · have z4:((s.n:Int) == 0)=true:=by simp;omega
     have EV:=hid (show V=false by rw [←E.out,decide_eq_true t3,decide_eq_true t4];rfl);clear t3 t4;go_wp2;go_ret;exact ⟨by rw [EV.out];rfl,X.out⟩
   have z4:((s.n:Int) == 0)=false:=by simp;omega
   have E3:=E.out;rw [decide_eq_true t3,decide_eq_false t4] at E3;simp only [Bool.and_false,Bool.not_false,Bool.true_and,Bool.true_or] at E3;have E:=hid E3;clear E3 t3 t4
   go_upto_region 5 with fail
   by_cases t5:P.link= -1
   · have z5:(P.link != -1)=false:=by simpa using t5
     have E3:=E.out;rw [decide_eq_true t5] at E3;simp only [Bool.true_or,Bool.true_and] at E3;have E:=hid E3;clear E3 t5
     have EV:=hid (show va=V by (rw [←E.out]<;>rfl))
     go_wp2_with (first|(go_at_call 126;(with_reducible refine (AL.out _ X.out _ _ (NCS.out _ Y.out) ?hd).mono ?_);(case hd=>exact (KQ.out _ Y.out).2.1.2.1);rintro e w5 ⟨rfl,hb5⟩;have X5:=hid (vAa X.out hb5);clear hb5)|fail);go_ret;exact ⟨by rw [←EV.out];rfl,X5.out⟩
   have z5:(P.link != -1)=true:=by simpa using t5
   have E3:=E.out;rw [decide_eq_false t5] at E3;simp only [Bool.false_or] at E3;have E:=hid E3;clear E3 t5
   cases vp with
   |false=>
    have EV:=hid (show V=false by (rw [←E.out]<;>rfl))
    go_wp2_with ((go_at_call 123;(with_reducible refine (PK.out _).mono ?_);rintro e wp ⟨rfl,hwp⟩;subst hwp));go_ret;exact ⟨by rw [EV.out];rfl,X.out⟩
   |true=>
   obtain ⟨a1,a2⟩:=(vBb _ _).1 HP.out;obtain ⟨x,hx⟩:=Int.eq_ofNat_of_zero_le a1
   have hxl:x<S.lk.n:=by omega
   obtain ⟨bp,op,vp,ep,_,hbp,hvs,rp⟩:=vAi HL.out x hxl LinkV.zero;have hvs:vp=vHl (N.links.getD x LinkV.zero):=hvs;subst hvs;have RP:=vAb rp (X.out.block bp hbp);have E3:=E.out;rw [show P.link.toNat=x by rw [hx];rfl] at E3;generalize N.links.getD x LinkV.zero=L at *;have d0:=RP 0 _ rfl;have d1:=RP 1 _ rfl;have d2:=RP 2 _ rfl;simp only [Nat.add_zero] at d0;rw [show op+x * linkR.n=op+x * 3 from rfl] at d0 d1 d2
   have lx:(x:Int)<(S.lk.n:Int):=by omega
   have PK2:=PK.out;rw [hx,ep] at PK2;rw [ep] at f2;rw [hx] at g4 z5;have PK:=hid PK2;obtain ⟨vj,hj⟩:∃v,(decide (L.a=(i:Int)) || decide (L.b=(i:Int)))=v:=⟨_,rfl⟩
   have JN:=fun w'=>joins_any L (i:Int) w'
   rw [hj] at JN E3;have JN:=hid JN;have E:=hid E3;have HX:=hid hx;have EP:=hid ep;clear rp RP a1 a2 hx ep hj E3 PK2
   cases vj with
   |false=>
    have EV:=hid (show V=false by (rw [←E.out]<;>rfl))
    go_wp2_with (first|(go_at_call 123;(with_reducible refine (PK.out _).mono ?_);rintro e wp ⟨rfl,hwp⟩;subst hwp)|(go_at_call 124;(with_reducible refine (JN.out _).mono ?_);rintro e w3 ⟨rfl,hb3⟩;have X3:=hid (vAa X.out hb3);have Y3:=hid (vAa Y.out hb3);clear hb3));go_ret;exact ⟨by rw [EV.out];rfl,X3.out⟩
   |true=>
   have E3:=E.out;simp only [Bool.true_and,Bool.and_true] at E3;have E:=hid E3;clear E3
   have EV:=hid (show va=V by (rw [←E.out]<;>rfl))
   go_wp2_with (first|(go_at_call 123;(with_reducible refine (PK.out _).mono ?_);rintro e wp ⟨rfl,hwp⟩;subst hwp)|(go_at_call 124;(with_reducible refine (JN.out _).mono ?_);rintro e w3 ⟨rfl,hb3⟩;have X3:=hid (vAa X.out hb3);have Y3:=hid (vAa Y.out hb3);obtain ⟨⟨f0,f1,f2,f3,f4,f5,f6,f7⟩,⟨g0,g1,g2,g3,g4,g5,g6⟩,_⟩:=KQ.out _ Y3.out;clear hb3)|(go_at_call 126;(with_reducible refine (AL.out _ X3.out _ _ (NCS.out _ Y3.out) ?hd).mono ?_);(case hd=>exact (KQ.out _ Y3.out).2.1.2.1);rintro e w5 ⟨rfl,hb5⟩;have X5:=hid (vAa X3.out hb5);clear hb5)|fail)
   go_ret;exact ⟨by rw [←EV.out];rfl,X5.out⟩
 have z3:(P.native == 0)=false:=by simpa using t3
 have E3:=E.out;rw [decide_eq_false t3] at E3;simp only [Bool.false_and,Bool.not_false,Bool.true_and,Bool.false_or] at E3;have E:=hid E3;clear E3 t3
 go_upto_region 5 with fail
 by_cases t5:P.link= -1
 · have z5:(P.link != -1)=false:=by simpa using t5
   have E3:=E.out;rw [decide_eq_true t5] at E3;simp only [Bool.true_or,Bool.true_and] at E3;have E:=hid E3;clear E3 t5
   cases vk with
   |false=>
    have EV:=hid (show V=false by (rw [←E.out]<;>rfl))
    go_wp2_with (first|(go_at_call 125;(with_reducible refine (KN.out _ X.out _ _ (NCS.out _ Y.out) ?hc).mono ?_);(case hc=>exact (KQ.out _ Y.out).2.1.2.1);rintro e w4 ⟨rfl,hb4⟩;have X4:=hid (vAa X.out hb4);have Y4:=hid (vAa Y.out hb4);obtain ⟨⟨f0,f1,f2,f3,f4,f5,f6,f7⟩,⟨g0,g1,g2,g3,g4,g5,g6⟩,_⟩:=KQ.out _ Y4.out;clear hb4)|fail);go_ret;exact ⟨by rw [EV.out];rfl,X4.out⟩
   |true=>
   have EV:=hid (show va=V by (rw [←E.out]<;>rfl))
   go_wp2_with (first|(go_at_call 125;(with_reducible refine (KN.out _ X.out _ _ (NCS.out _ Y.out) ?hc).mono ?_);(case hc=>exact (KQ.out _ Y.out).2.1.2.1);rintro e w4 ⟨rfl,hb4⟩;have X4:=hid (vAa X.out hb4);have Y4:=hid (vAa Y.out hb4);obtain ⟨⟨f0,f1,f2,f3,f4,f5,f6,f7⟩,⟨g0,g1,g2,g3,g4,g5,g6⟩,_⟩:=KQ.out _ Y4.out;clear hb4)|(go_at_call 126;(with_reducible refine (AL.out _ X4.out _ _ (NCS.out _ Y4.out) ?hd).mono ?_);(case hd=>exact (KQ.out _ Y4.out).2.1.2.1);rintro e w5 ⟨rfl,hb5⟩;have X5:=hid (vAa X4.out hb5);clear hb5)|fail)
   go_ret;exact ⟨by rw [←EV.out];rfl,X5.out⟩
 have z5:(P.link != -1)=true:=by simpa using t5
 have E3:=E.out;rw [decide_eq_false t5] at E3;simp only [Bool.false_or] at E3;have E:=hid E3;clear E3 t5
 cases vp with
 |false=>
  have EV:=hid (show V=false by (rw [←E.out]<;>rfl))
  go_wp2_with ((go_at_call 123;(with_reducible refine (PK.out _).mono ?_);rintro e wp ⟨rfl,hwp⟩;subst hwp));go_ret;exact ⟨by rw [EV.out];rfl,X.out⟩
 |true=>
 obtain ⟨a1,a2⟩:=(vBb _ _).1 HP.out;obtain ⟨x,hx⟩:=Int.eq_ofNat_of_zero_le a1
 have hxl:x<S.lk.n:=by omega
 obtain ⟨bp,op,vp,ep,_,hbp,hvs,rp⟩:=vAi HL.out x hxl LinkV.zero;have hvs:vp=vHl (N.links.getD x LinkV.zero):=hvs;subst hvs;have RP:=vAb rp (X.out.block bp hbp);have E3:=E.out;rw [show P.link.toNat=x by rw [hx];rfl] at E3;generalize N.links.getD x LinkV.zero=L at *;have d0:=RP 0 _ rfl;have d1:=RP 1 _ rfl;have d2:=RP 2 _ rfl;simp only [Nat.add_zero] at d0;rw [show op+x * linkR.n=op+x * 3 from rfl] at d0 d1 d2
 have lx:(x:Int)<(S.lk.n:Int):=by omega
 have PK2:=PK.out;rw [hx,ep] at PK2;rw [ep] at f2;rw [hx] at g4 z5;have PK:=hid PK2;obtain ⟨vj,hj⟩:∃v,(decide (L.a=(i:Int)) || decide (L.b=(i:Int)))=v:=⟨_,rfl⟩
 have JN:=fun w'=>joins_any L (i:Int) w'
 rw [hj] at JN E3;have JN:=hid JN;have E:=hid E3;have HX:=hid hx;have EP:=hid ep;clear rp RP a1 a2 hx ep hj E3 PK2
 cases vj with
 |false=>
  have EV:=hid (show V=false by (rw [←E.out]<;>rfl))
  go_wp2_with (first|(go_at_call 123;(with_reducible refine (PK.out _).mono ?_);rintro e wp ⟨rfl,hwp⟩;subst hwp)|(go_at_call 124;(with_reducible refine (JN.out _).mono ?_);rintro e w3 ⟨rfl,hb3⟩;have X3:=hid (vAa X.out hb3);have Y3:=hid (vAa Y.out hb3);clear hb3));go_ret;exact ⟨by rw [EV.out];rfl,X3.out⟩
 |true=>
 have E3:=E.out;simp only [Bool.true_and,Bool.and_true] at E3;have E:=hid E3;clear E3
 cases vk with
 |false=>
  have EV:=hid (show V=false by (rw [←E.out]<;>rfl))
  go_wp2_with (first|(go_at_call 123;(with_reducible refine (PK.out _).mono ?_);rintro e wp ⟨rfl,hwp⟩;subst hwp)|(go_at_call 124;(with_reducible refine (JN.out _).mono ?_);rintro e w3 ⟨rfl,hb3⟩;have X3:=hid (vAa X.out hb3);have Y3:=hid (vAa Y.out hb3);obtain ⟨⟨f0,f1,f2,f3,f4,f5,f6,f7⟩,⟨g0,g1,g2,g3,g4,g5,g6⟩,_⟩:=KQ.out _ Y3.out;clear hb3)|(go_at_call 125;(with_reducible refine (KN.out _ X3.out _ _ (NCS.out _ Y3.out) ?hc).mono ?_);(case hc=>exact (KQ.out _ Y3.out).2.1.2.1);rintro e w4 ⟨rfl,hb4⟩;have X4:=hid (vAa X3.out hb4);have Y4:=hid (vAa Y3.out hb4);obtain ⟨⟨f0,f1,f2,f3,f4,f5,f6,f7⟩,⟨g0,g1,g2,g3,g4,g5,g6⟩,_⟩:=KQ.out _ Y4.out;clear hb4)|fail)
  go_ret;exact ⟨by rw [EV.out];rfl,X4.out⟩
 |true=>
 have EV:=hid (show va=V by (rw [←E.out]<;>rfl))
 go_wp2_with (first|(go_at_call 123;(with_reducible refine (PK.out _).mono ?_);rintro e wp ⟨rfl,hwp⟩;subst hwp)|(go_at_call 124;(with_reducible refine (JN.out _).mono ?_);rintro e w3 ⟨rfl,hb3⟩;have X3:=hid (vAa X.out hb3);have Y3:=hid (vAa Y.out hb3);obtain ⟨⟨f0,f1,f2,f3,f4,f5,f6,f7⟩,⟨g0,g1,g2,g3,g4,g5,g6⟩,_⟩:=KQ.out _ Y3.out;clear hb3)|(go_at_call 125;(with_reducible refine (KN.out _ X3.out _ _ (NCS.out _ Y3.out) ?hc).mono ?_);(case hc=>exact (KQ.out _ Y3.out).2.1.2.1);rintro e w4 ⟨rfl,hb4⟩;have X4:=hid (vAa X3.out hb4);have Y4:=hid (vAa Y3.out hb4);obtain ⟨⟨f0,f1,f2,f3,f4,f5,f6,f7⟩,⟨g0,g1,g2,g3,g4,g5,g6⟩,_⟩:=KQ.out _ Y4.out;clear hb4)|(go_at_call 126;(with_reducible refine (AL.out _ X4.out _ _ (NCS.out _ Y4.out) ?hd).mono ?_);(case hd=>exact (KQ.out _ Y4.out).2.1.2.1);rintro e w5 ⟨rfl,hb5⟩;have X5:=hid (vAa X4.out hb5);clear hb5)|fail)
 go_ret;exact ⟨by rw [←EV.out];rfl,X5.out⟩
end Go.Proofs.YtgmflecelnefcaaGreat
