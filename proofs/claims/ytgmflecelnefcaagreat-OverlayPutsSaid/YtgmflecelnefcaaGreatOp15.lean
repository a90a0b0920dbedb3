import Derived.Test.YtgmflecelnefcaaGreatOp14
import Derived.Test.YtgmflecelnefcaaGreatOp07
import Derived.Deep.CutBlock
import Derived.Deep.DeepCutAuto
set_option maxRecDepth 100000
set_option maxHeartbeats 40000000
namespace Go.Proofs.YtgmflecelnefcaaGreat
open Go.Lib (hid)
open Go.RowKit
def prB (N:NV) (x:Nat) (D:DomV) (j:Nat) (y:Int):Bool:=plB y (N.domains.length:Int) && (meetB N x y.toNat && !memB (D.peers.take j) y)
theorem dom1_any (N:NV) (S:NSl3) (x:Nat) (D:DomV) (s:Sl3) (j:Nat) (y:Int) (q0 q1 q2:Nat) (w:World) (h:NRead w (vAp w) N S) (hxl:x<S.dm.n) (hd:∀j,j<N.domains.length→plB (N.domains.getD j DomV.zero).dev (N.devices.length:Int)=true)
 (nc:Cs w q0 (vBk S)) (c1:w.cell? ⟨q1,0,none⟩=some (.int .i64 (x:Int))) (c2:w.cell? ⟨q2,5,none⟩=some (.slice s.A s.n s.c)) (l1:ISl w .i64 s.A s.n s.c D.peers) (hj:j<s.n):
 Calls Tryz.prog 129 #[.int .i64 (j:Int),.int .i64 y,.pointer (some ⟨q0,0,none⟩),.pointer (some ⟨q1,0,none⟩),.pointer (some ⟨q2,0,none⟩)] w fun e w'=>e=.returned (.bool (prB N x D j y))∧Below w.heap.size w w':=by
 have ql1:q1<w.heap.size:=World.block_lt_of_cell? w _ c1;have ql2:q2<w.heap.size:=World.block_lt_of_cell? w _ c2;have hle:=h.dm.le;have hcap:=h.dm.cap;have dml:=h.dm.len
 have PD:=fun w'=>place_dom y S.dm.A S.dm.n S.dm.c hle hcap w'
 obtain ⟨V,E⟩:∃V,prB N x D j y=V:=⟨_,rfl⟩;rw [E];unfold prB at E;rw [dml] at E;obtain ⟨va,ha⟩:∃v,plB y (S.dm.n:Int)=v:=⟨_,rfl⟩;rw [ha] at PD E;have HA:=hid ha
 have KQ:=hid (show ∀wx,Below w.heap.size w wx→(NF wx q0 S)∧wx.cell? ⟨q1,0,none⟩=some (.int .i64 (x:Int))∧wx.cell? ⟨q2,5,none⟩=some (.slice s.A s.n s.c) from fun wx hx=>by
  have n:=(nc.below hx).1
  exact ⟨⟨n 0 _ rfl,n 1 _ rfl,n 2 _ rfl,n 3 _ rfl,n 4 _ rfl,n 5 _ rfl,n 6 _ rfl,n 7 _ rfl⟩,(hx.cell (p:=⟨q1,0,none⟩) ql1).trans c1,(hx.cell (p:=⟨q2,5,none⟩) ql2).trans c2⟩)
 obtain ⟨⟨f0,f1,f2,f3,f4,f5,f6,f7⟩,g1,g5⟩:=KQ.out w (Below.refl _ _);have ql:q0<w.heap.size:=nc.2
 cases va with
 |false=>
  have EV:=hid (show V=false by (rw [←E]<;>rfl))
  have PD:=hid PD;clear h hd nc c1 c2 l1 ha E dml
  go_enter Tryz.func129,Tryz.ntmps129
  go_wp2_with ((go_at_call 130;(with_reducible refine (PD.out _).mono ?_);rintro e wp ⟨rfl,hwp⟩;subst hwp));go_ret;exact ⟨by rw [EV.out];rfl,Below.refl _ _⟩
 |true=>
 obtain ⟨a1,a2⟩:=(vBb _ _).1 HA.out;obtain ⟨z,hz⟩:=Int.eq_ofNat_of_zero_le a1;subst hz
 have hzl:z<S.dm.n:=by omega
 have MT:=meet_any N S x z w h hxl hzl hd;rw [show ((z:Int)).toNat=z from rfl] at E;obtain ⟨b2,o2,e2,hb2,hc2⟩:=l1.2.2.2 (by omega)
 have CT:=fun (w':World) (hb:Below w.heap.size w w')=>cont_of s.A j s.c (D.peers.take j) (z:Int) w' (isl_take (l1.below hb) (Nat.le_of_lt hj))
 obtain ⟨vm,hm⟩:∃v,meetB N x z=v:=⟨_,rfl⟩;obtain ⟨vc,hc⟩:∃v,memB (D.peers.take j) (z:Int)=v:=⟨_,rfl⟩;rw [hm] at MT E;rw [hc] at CT E;have sle:=l1.le;have scap:=l1.cap
 have j1:(j:Int)≤(s.c:Int):=by omega
 have j2:j≤s.c:=by omega
 have j3:(0:Int)≤(j:Int):=by omega
 unfold vAm at MT;rw [e2] at CT g5;have E2:=hid e2;have MT:=hid MT;have CT:=hid CT;have PD:=hid PD;have E:=hid E;clear h hd nc c1 c2 l1 ha dml a1 a2 hb2 hc2 hm hc e2
 cases vm with
 |false=>
  have EV:=hid (show V=false by (rw [←E.out]<;>rfl))
  go_enter Tryz.func129,Tryz.ntmps129
  go_wp2_with (first|(go_at_call 130;(with_reducible refine (PD.out _).mono ?_);rintro e wp ⟨rfl,hwp⟩;subst hwp)|(go_at_call 131;(with_reducible refine MT.out.mono ?_);rintro e w1 ⟨rfl,hb⟩;have B:=hid hb;obtain ⟨⟨f0,f1,f2,f3,f4,f5,f6,f7⟩,g1,g5⟩:=KQ.out _ hb;rw [E2.out] at g5;clear hb));go_ret;exact ⟨by rw [EV.out];rfl,B.out⟩
 |true=>
 have EV:=hid (show (!vc)=V by (rw [←E.out]<;>rfl))
 go_enter Tryz.func129,Tryz.ntmps129
 go_wp2_with (first|(go_at_call 130;(with_reducible refine (PD.out _).mono ?_);rintro e wp ⟨rfl,hwp⟩;subst hwp)|(go_at_call 131;(with_reducible refine MT.out.mono ?_);rintro e w1 ⟨rfl,hb⟩;have B:=hid hb;obtain ⟨⟨f0,f1,f2,f3,f4,f5,f6,f7⟩,g1,g5⟩:=KQ.out _ hb;rw [E2.out] at g5;clear hb)|(go_at_call 122;(with_reducible refine (CT.out _ B.out).mono ?_);rintro e w2 ⟨rfl,hw2⟩;subst hw2));go_ret
 exact ⟨by rw [←EV.out];cases vc<;>rfl,B.out⟩
theorem enters_dom1:vAz Tryz.prog 129:=vAt Tryz.func129 (by kernel_rfl) rfl
theorem net_cs3 {w:World} (S:NSl3) (T U X:TypeId) (l m:List Value) {W:World} (hW:((w.alloc (.cells (nA S) T)).alloc (.cells l.toArray U)).alloc (.cells m.toArray X)=W):Cs W w.heap.size (vBk S)∧Cs W (w.heap.size+1) l∧Cs W (w.heap.size+2) m∧Below w.heap.size w W:=by
 subst hW;obtain ⟨h1,h2,h3⟩:=vHk (w:=w) S T U l rfl;have h4:=Cs.new ((w.alloc (.cells (nA S) T)).alloc (.cells l.toArray U)) m X;rw [show ((w.alloc (.cells (nA S) T)).alloc (.cells l.toArray U)).heap.size=w.heap.size+2 by simp] at h4;exact ⟨h1.below (vAc _ _),h2.below (vAc _ _),h4,alloc3_below _ _ _ _⟩
def dmR (N:NV) (i:Nat) (D:DomV):Bool:=decide (1≤D.vlan) && (decide (D.vlan≤4094) && (decide (0≤D.vni) && (decide (D.vni≤16777215) && ((decide (D.irb= -1) || (plB D.irb (N.irbs.length:Int) && decide ((N.irbs.getD D.irb.toNat IrbV.zero).dom=(i:Int)))) &&
 (decide (atF N D.dev D.vlan=(i:Int)) && (List.range D.peers.length).all (fun j=>prB N i D j (D.peers.getD j 0)))))))
theorem domain_any (N:NV) (S:NSl3) (i:Nat) (D:DomV) (s:Sl3) (w:World) (h:NRead w (vAp w) N S) (l1:RSl (Rdr.int .i64) w (vAp w) s.A s.n s.c D.peers) (hil:i<S.dm.n) (hd:∀j,j<N.domains.length→plB (N.domains.getD j DomV.zero).dev (N.devices.length:Int)=true):
 Calls Tryz.prog 72 #[vAm S,.int .i64 (i:Int),.agg #[.int .i64 D.dev,.int .i64 D.vlan,.int .i64 D.vni,.int .i64 D.irb,.int .i64 D.row,.slice s.A s.n s.c]] w fun e w'=>e=.returned (.bool (dmR N i D))∧Below w.heap.size w w':=by
 have HI:=hid h.ir;have hle:=h.ir.le;have hcap:=h.ir.cap;have irl:=h.ir.len;have prl:=l1.len
 have PI:=fun w'=>place_irb D.irb S.ir.A S.ir.n S.ir.c hle hcap w'
 have FD:=fun (w':World) (hb:Below w.heap.size w w')=>find_any N S D.dev D.vlan w' (h.up hb)
 obtain ⟨V,E⟩:∃V,dmR N i D=V:=⟨_,rfl⟩;rw [E];unfold dmR at E;obtain ⟨vi,hi⟩:∃v,plB D.irb (S.ir.n:Int)=v:=⟨_,rfl⟩;obtain ⟨F,hF⟩:∃v,atF N D.dev D.vlan=v:=⟨_,rfl⟩;obtain ⟨va,hva⟩:∃v,(List.range D.peers.length).all (fun j=>prB N i D j (D.peers.getD j 0))=v:=⟨_,rfl⟩;rw [irl,hi,hF,hva] at E;rw [hF] at FD;rw [hi] at PI;have HA:=hid hi
 have AL:=hid (fun (w':World) (hb:Below w.heap.size w w') (q0 q1 q2:Nat) (nc:Cs w' q0 (vBk S)) (c1:w'.cell? ⟨q1,0,none⟩=some (.int .i64 (i:Int))) (c2:w'.cell? ⟨q2,5,none⟩=some (.slice s.A s.n s.c))=>
  all_int 129 #[.pointer (some ⟨q0,0,none⟩),.pointer (some ⟨q1,0,none⟩),.pointer (some ⟨q2,0,none⟩)] enters_dom1 s.A s.n s.c D.peers w' (vAu (vAn l1 hb)) (fun j=>prB N i D j (D.peers.getD j 0)) (fun k w2 hk hb2=>by
   rw [app23]
   exact dom1_any N S i D s k _ q0 q1 q2 w2 ((h.up hb).up hb2) hil hd (nc.below hb2) ((hb2.cell (p:=⟨q1,0,none⟩) (World.block_lt_of_cell? w' _ c1)).trans c1) ((hb2.cell (p:=⟨q2,5,none⟩) (World.block_lt_of_cell? w' _ c2)).trans c2) (vAu (vAn (vAn l1 hb) hb2)) hk) va (by
    rw [←hva,List.all_eq_true,prl]
    exact ⟨fun g k hk=>g k (List.mem_range.2 hk),fun g k hk=>g k (List.mem_range.1 hk)⟩))
 have E:=hid E;unfold vAm at FD;have FD:=hid FD;have PI:=hid PI;clear h hd irl prl hi hF hva l1;unfold vAm
 go_enter Tryz.func72,Tryz.ntmps72
 go_upto_region 1 with fail
 obtain ⟨W,hW⟩:∃W,((w.alloc (.cells (nA S) 31)).alloc (.cells #[.int .i64 (i:Int)] 3)).alloc (.cells #[.int .i64 D.dev,.int .i64 D.vlan,.int .i64 D.vni,.int .i64 D.irb,.int .i64 D.row,.slice s.A s.n s.c] 54)=W:=⟨_,rfl⟩;have NC:=net_cs3 S _ _ _ [.int .i64 (i:Int)] [.int .i64 D.dev,.int .i64 D.vlan,.int .i64 D.vni,.int .i64 D.irb,.int .i64 D.row,.slice s.A s.n s.c] hW;rw [hW];clear hW;have NCS:=hid (show ∀wx,Below W.heap.size W wx→Cs wx w.heap.size (vBk S) from fun wx hx=>NC.1.below hx)
 have KQ:=hid (show ∀wx,Below W.heap.size W wx→(NF wx w.heap.size S)∧wx.cell? ⟨w.heap.size+1,0,none⟩=some (.int .i64 (i:Int))∧(wx.cell? ⟨w.heap.size+2,0,none⟩=some (.int .i64 D.dev)∧wx.cell? ⟨w.heap.size+2,1,none⟩=some (.int .i64 D.vlan)∧wx.cell? ⟨w.heap.size+2,2,none⟩=some (.int .i64 D.vni)∧wx.cell? ⟨w.heap.size+2,3,none⟩=some (.int .i64 D.irb)∧wx.cell? ⟨w.heap.size+2,4,none⟩=some (.int .i64 D.row)∧wx.cell? ⟨w.heap.size+2,5,none⟩=some (.slice s.A s.n s.c))∧Below w.heap.size w wx from fun wx hx=>by
  have n:=(NC.1.below hx).1;have m:=(NC.2.1.below hx).1;have r:=(NC.2.2.1.below hx).1
  exact ⟨⟨n 0 _ rfl,n 1 _ rfl,n 2 _ rfl,n 3 _ rfl,n 4 _ rfl,n 5 _ rfl,n 6 _ rfl,n 7 _ rfl⟩,m 0 _ rfl,⟨r 0 _ rfl,r 1 _ rfl,r 2 _ rfl,r 3 _ rfl,r 4 _ rfl,r 5 _ rfl⟩,NC.2.2.2.trans (hx.mono NC.2.2.2.size)⟩)
 obtain ⟨⟨f0,f1,f2,f3,f4,f5,f6,f7⟩,g0,⟨d0,d1,d2,d3,d4,d5⟩,hB0⟩:=KQ.out W (Below.refl _ _);have ql:w.heap.size<W.heap.size:=NC.1.2;have ql1:w.heap.size+1<W.heap.size:=NC.2.1.2;have ql2:w.heap.size+2<W.heap.size:=NC.2.2.1.2;have B0:=hid hB0;clear hB0 NC
 by_cases t1:1≤D.vlan
 rotate_left
 · have z1:D.vlan<1:=by omega
   have EV:=hid (show V=false by rw [←E.out,decide_eq_false t1];simp);clear t1;go_wp2;go_ret;exact ⟨by rw [EV.out];rfl,B0.out⟩
 have z1:¬D.vlan<1:=by omega
 by_cases t2:D.vlan≤4094
 rotate_left
 · have z2:4094<D.vlan:=by omega
   have EV:=hid (show V=false by rw [←E.out,decide_eq_false t2];simp);clear t1 t2;go_wp2;go_ret;exact ⟨by rw [EV.out];rfl,B0.out⟩
 have z2:¬4094<D.vlan:=by omega
 by_cases t3:0≤D.vni
 rotate_left
 · have z3:D.vni<0:=by omega
   have EV:=hid (show V=false by rw [←E.out,decide_eq_false t3];simp);clear t1 t2 t3;go_wp2;go_ret;exact ⟨by rw [EV.out];rfl,B0.out⟩
 have z3:¬D.vni<0:=by omega
 by_cases t4:D.vni≤16777215
 rotate_left
 · have z4:16777215<D.vni:=by omega
   have EV:=hid (show V=false by rw [←E.out,decide_eq_false t4];simp);clear t1 t2 t3 t4;go_wp2;go_ret;exact ⟨by rw [EV.out];rfl,B0.out⟩
 have z4:¬16777215<D.vni:=by omega
 have E3:=E.out;rw [decide_eq_true t1,decide_eq_true t2,decide_eq_true t3,decide_eq_true t4] at E3;simp only [Bool.true_and] at E3;have E:=hid E3;clear E3 t1 t2 t3 t4
 go_upto_region 3 with fail
 obtain ⟨c3,hc3⟩:∃v,(decide (D.irb= -1) || (vi && decide ((N.irbs.getD D.irb.toNat IrbV.zero).dom=(i:Int))))=v:=⟨_,rfl⟩;have E3:=E.out;rw [hc3] at E3;have E:=hid E3;have HC3:=hid hc3;clear E3 hc3
 go_cut [46] (fun c wx=>c=.bool (!c3)∧Below W.heap.size W wx)
 case first=>
  clear f0 f1 f2 f3 f4 f5 f6 f7 g0 d0 d1 d2 d3 d4 d5
  by_cases t1:D.irb= -1
  · have z1_:(D.irb != -1)=false:=by simpa using t1
    have EC:=hid (show c3=true by rw [←HC3.out,decide_eq_true t1];rfl);clear t1;refine vAe (fun wx=>Below W.heap.size W wx) (by kernel_rfl) (by kernel_rfl) ((Below.refl _ _).drew) ?_
    repeat
     first
      |(refine Seq.pass rfl ?_;simp only [Act.put,List.setIfInBounds_toArray,List.set_cons_zero,List.set_cons_succ])
      |(refine Seq.run ?_ rfl (fun wx hx=>?_) ?_
        rotate_left
        · obtain ⟨⟨f0,f1,f2,f3,f4,f5,f6,f7⟩,g0,⟨d0,d1,d2,d3,d4,d5⟩,hBx⟩:=KQ.out wx hx
          go_simp
          first
           |(refine StepRun.val ?_;exact hx)
        simp only [Act.put,List.setIfInBounds_toArray,List.set_cons_zero,List.set_cons_succ])
    refine Seq.last (fun w7 h7=>?_);go_wp2
    go_meet
    exact ⟨by rw [EC.out];rfl,h7⟩
  have z1_:(D.irb != -1)=true:=by simpa using t1
  cases vi with
  |false=>
   have EC:=hid (show c3=false by rw [←HC3.out,decide_eq_false t1];rfl);clear t1;refine vAe (fun wx=>Below W.heap.size W wx) (by kernel_rfl) (by kernel_rfl) ((Below.refl _ _).drew) ?_
   repeat
    first
     |(refine Seq.pass rfl ?_;simp only [Act.put,List.setIfInBounds_toArray,List.set_cons_zero,List.set_cons_succ])
     |(refine Seq.run ?_ rfl (fun wx hx=>?_) ?_
       rotate_left
       · obtain ⟨⟨f0,f1,f2,f3,f4,f5,f6,f7⟩,g0,⟨d0,d1,d2,d3,d4,d5⟩,hBx⟩:=KQ.out wx hx
         go_simp
         first
          |(refine StepRun.val ?_;exact hx)
          |(refine StepRun.call (v:=.bool false) ?_;(with_reducible refine Calls.mono (PI.out _) ?_);rintro e w' ⟨rfl,hb⟩;subst hb;exact ⟨rfl,hx⟩)
       simp only [Act.put,List.setIfInBounds_toArray,List.set_cons_zero,List.set_cons_succ])
   refine Seq.last (fun w7 h7=>?_);go_wp2
   go_meet
   exact ⟨by rw [EC.out];rfl,h7⟩
  |true=>
  obtain ⟨a1,a2⟩:=(vBb _ _).1 HA.out;obtain ⟨x,hx⟩:=Int.eq_ofNat_of_zero_le a1
  have hxl:x<S.ir.n:=by omega
  obtain ⟨bp,op,vp,ep,_,hbp,hvs,rp⟩:=vAi HI.out x hxl IrbV.zero;have hvs:vp=irbC (N.irbs.getD x IrbV.zero):=hvs;subst hvs;have RP:=vAb rp (B0.out.block bp hbp);have E5:=HC3.out;rw [show D.irb.toNat=x by rw [hx];rfl,decide_eq_false t1] at E5;generalize N.irbs.getD x IrbV.zero=R at *;have r1:=RP 1 _ rfl;rw [show op+x * irbR.n=op+x * 5 from rfl] at r1
  have lx:(x:Int)<(S.ir.n:Int):=by omega
  have hbp1:bp<W.heap.size:=Nat.lt_of_lt_of_le hbp B0.out.size;have PI2:=PI.out;rw [hx,ep] at PI2;rw [hx] at z1_;have PI:=hid PI2;have HX:=hid hx;have EP:=hid ep;have KR:=hid (show ∀wx,Below W.heap.size W wx→wx.cell? ⟨bp,op+x * 5+1,none⟩=some (.int .i64 R.dom) from fun wx hxx=>(hxx.cell (p:=⟨bp,_,none⟩) hbp1).trans r1);have HC4:=hid E5;clear rp RP a1 a2 hx ep E5 r1 t1 PI2
  by_cases t2:R.dom=(i:Int)
  · have z2_:(R.dom != (i:Int))=false:=by simpa using t2
    have EC:=hid (show c3=true by rw [←HC4.out,decide_eq_true t2];rfl);clear t2;refine vAe (fun wx=>Below W.heap.size W wx) (by kernel_rfl) (by kernel_rfl) ((Below.refl _ _).drew) ?_
    repeat
     first
      |(refine Seq.pass rfl ?_;simp only [Act.put,List.setIfInBounds_toArray,List.set_cons_zero,List.set_cons_succ])
      |(refine Seq.run ?_ rfl (fun wx hx=>?_) ?_
        rotate_left
        · obtain ⟨⟨f0,f1,f2,f3,f4,f5,f6,f7⟩,g0,⟨d0,d1,d2,d3,d4,d5⟩,hBx⟩:=KQ.out wx hx
          have r1:=KR.out wx hx;rw [EP.out] at f7;rw [HX.out] at d3
          go_simp
          first
           |(refine StepRun.val ?_;exact hx)
           |(refine StepRun.call (v:=.bool true) ?_;(with_reducible refine Calls.mono (PI.out _) ?_);rintro e w' ⟨rfl,hb⟩;subst hb;exact ⟨rfl,hx⟩)
        simp only [Act.put,List.setIfInBounds_toArray,List.set_cons_zero,List.set_cons_succ])
    refine Seq.last (fun w7 h7=>?_);go_wp2
    go_meet
    exact ⟨by rw [EC.out];rfl,h7⟩
  · have z2_:(R.dom != (i:Int))=true:=by simpa using t2
    have EC:=hid (show c3=false by rw [←HC4.out,decide_eq_false t2];rfl);clear t2;refine vAe (fun wx=>Below W.heap.size W wx) (by kernel_rfl) (by kernel_rfl) ((Below.refl _ _).drew) ?_
    repeat
     first
      |(refine Seq.pass rfl ?_;simp only [Act.put,List.setIfInBounds_toArray,List.set_cons_zero,List.set_cons_succ])
      |(refine Seq.run ?_ rfl (fun wx hx=>?_) ?_
        rotate_left
        · obtain ⟨⟨f0,f1,f2,f3,f4,f5,f6,f7⟩,g0,⟨d0,d1,d2,d3,d4,d5⟩,hBx⟩:=KQ.out wx hx
          have r1:=KR.out wx hx;rw [EP.out] at f7;rw [HX.out] at d3
          go_simp
          first
           |(refine StepRun.val ?_;exact hx)
           |(refine StepRun.call (v:=.bool true) ?_;(with_reducible refine Calls.mono (PI.out _) ?_);rintro e w' ⟨rfl,hb⟩;subst hb;exact ⟨rfl,hx⟩)
        simp only [Act.put,List.setIfInBounds_toArray,List.set_cons_zero,List.set_cons_succ])
    refine Seq.last (fun w7 h7=>?_);go_wp2
    go_meet
    exact ⟨by rw [EC.out];rfl,h7⟩
 case rest=>
 obtain ⟨rfl,hbw⟩:=hcut;rename World=>w5;have B5:=hid hbw;have X5:=hid (KQ.out _ hbw).2.2.2;clear hbw f0 f1 f2 f3 f4 f5 f6 f7 g0 d0 d1 d2 d3 d4 d5
 cases c3 with
 |false=>
  have EV:=hid (show V=false by (rw [←E.out]<;>rfl))
  go_wp2;go_ret;exact ⟨by rw [EV.out];rfl,X5.out⟩
 |true=>
 have E3:=E.out;simp only [Bool.true_and] at E3;have E:=hid E3;clear E3
 by_cases t1:F=(i:Int)
 rotate_left
 · have z1_:(F == (i:Int))=false:=by simpa using t1
   have EV:=hid (show V=false by rw [←E.out,decide_eq_false t1];rfl);clear t1;go_wp2;refine vAe (fun wx=>Below w5.heap.size w5 wx) (by kernel_rfl) (by kernel_rfl) ((Below.refl _ _).drew) ?_
   repeat
    first
     |(refine Seq.pass rfl ?_;simp only [Act.put,List.setIfInBounds_toArray,List.set_cons_zero,List.set_cons_succ])
     |(refine Seq.run ?_ rfl (fun wx hx=>?_) ?_
       rotate_left
       · obtain ⟨⟨f0,f1,f2,f3,f4,f5,f6,f7⟩,g0,⟨d0,d1,d2,d3,d4,d5⟩,hBx⟩:=KQ.out wx (vAa B5.out hx)
         go_simp
         first
          |(refine StepRun.val ?_;exact hx)
          |(refine StepRun.call (v:=.int .i64 F) ?_;(with_reducible refine Calls.mono (FD.out _ hBx) ?_);rintro e w' ⟨rfl,hb⟩;exact ⟨rfl,vAa hx hb⟩)
       simp only [Act.put,List.setIfInBounds_toArray,List.set_cons_zero,List.set_cons_succ])
   refine Seq.last (fun w7 h7=>?_);have B7:=hid (KQ.out _ (vAa B5.out h7)).2.2.2;go_wp2;go_ret;exact ⟨by rw [EV.out];rfl,B7.out⟩
 have z1_:(F == (i:Int))=true:=by simpa using t1
 have EV:=hid (show va=V by rw [←E.out,decide_eq_true t1];rfl);clear t1
 cases va
 all_goals
  go_wp2;refine vAe (fun wx=>Below w5.heap.size w5 wx) (by kernel_rfl) (by kernel_rfl) ((Below.refl _ _).drew) ?_
  repeat
   first
    |(refine Seq.pass rfl ?_;simp only [Act.put,List.setIfInBounds_toArray,List.set_cons_zero,List.set_cons_succ])
    |(refine Seq.run ?_ rfl (fun wx hx=>?_) ?_
      rotate_left
      · obtain ⟨⟨f0,f1,f2,f3,f4,f5,f6,f7⟩,g0,⟨d0,d1,d2,d3,d4,d5⟩,hBx⟩:=KQ.out wx (vAa B5.out hx)
        go_simp
        first
         |(refine StepRun.val ?_;exact hx)
         |(refine StepRun.call (v:=.int .i64 F) ?_;(with_reducible refine Calls.mono (FD.out _ hBx) ?_);rintro e w' ⟨rfl,hb⟩;exact ⟨rfl,vAa hx hb⟩)
         |(refine StepRun.call (v:=.bool true) ?_;(with_reducible refine Calls.mono (AL.out _ hBx _ _ _ (NCS.out _ (vAa B5.out hx)) g0 d5) ?_);rintro e w' ⟨rfl,hb⟩;exact ⟨rfl,vAa hx hb⟩)
         |(refine StepRun.call (v:=.bool false) ?_;(with_reducible refine Calls.mono (AL.out _ hBx _ _ _ (NCS.out _ (vAa B5.out hx)) g0 d5) ?_);rintro e w' ⟨rfl,hb⟩;exact ⟨rfl,vAa hx hb⟩)
      simp only [Act.put,List.setIfInBounds_toArray,List.set_cons_zero,List.set_cons_succ])
  refine Seq.last (fun w7 h7=>?_);have B7:=hid (KQ.out _ (vAa B5.out h7)).2.2.2;go_wp2;go_ret;exact ⟨by rw [←EV.out];rfl,B7.out⟩
structure NvSz (N:NV):Prop where
 zdv:N.devices.length≤200
 zpt:N.ports.length≤200
 zlk:N.links.length≤200
 zdm:N.domains.length≤200
 zst:N.statics.length≤200
 zfl:N.floods.length≤200
 zvr:N.vrfs.length≤200
 zir:N.irbs.length≤200
 ipt:∀j,j<N.ports.length→(N.ports.getD j PortV.zero).tagged.length≤100
 idm:∀j,j<N.domains.length→(N.domains.getD j DomV.zero).peers.length≤100
 ifl:∀j,j<N.floods.length→(N.floods.getD j FloodV.zero).addrs.length≤100
 ivr:∀j,j<N.vrfs.length→(N.vrfs.getD j VrfV.zero).imports.length≤100∧(N.vrfs.getD j VrfV.zero).exports.length≤100
def GotNG (N:NV) (w:World) (e:Ending) (w':World):Prop:=∃g,e=.returned (.bool g)∧(g=false→NvSz N)∧Below w.heap.size w w'
theorem ngreat_any (N:NV) (S:NSl3) (w:World) (h:NRead w (vAp w) N S):Calls Tryz.prog 16 #[vAm S] w (GotNG N w):=by
 have LE_dv:=hid h.dv.len;have hle_dv:=h.dv.le;have hcap_dv:=h.dv.cap;have LE_pt:=hid h.pt.len;have hle_pt:=h.pt.le;have hcap_pt:=h.pt.cap;have LE_lk:=hid h.lk.len;have hle_lk:=h.lk.le;have hcap_lk:=h.lk.cap;have LE_dm:=hid h.dm.len;have hle_dm:=h.dm.le;have hcap_dm:=h.dm.cap;have LE_st:=hid h.st.len;have hle_st:=h.st.le;have hcap_st:=h.st.cap;have LE_fl:=hid h.fl.len;have hle_fl:=h.fl.le
 have hcap_fl:=h.fl.cap;have LE_vr:=hid h.vr.len;have hle_vr:=h.vr.le;have hcap_vr:=h.vr.cap;have LE_ir:=hid h.ir.len;have hle_ir:=h.ir.le;have hcap_ir:=h.ir.cap;have H_pt:=hid h.pt;have H_dm:=hid h.dm;have H_fl:=hid h.fl;have H_vr:=hid h.vr;have NB:=hid (NBox.new w S 31);have B0:=hid (show Below w.heap.size w (w.alloc (.cells (nA S) 31)) from (Below.refl _ _).alloc (Nat.le_refl _) _)
 unfold vAm;clear h
 by_cases c_dv:200<S.dv.n
 · have z_dv:(200:Int)<(S.dv.n:Int):=by omega
   clear c_dv
   go_enter Tryz.func16,Tryz.ntmps16
   go_wp2;go_ret;exact ⟨true,rfl,fun e=>(by cases e),B0.out⟩
 have z_dv:¬(200:Int)<(S.dv.n:Int):=by omega
 have hz_dv:S.dv.n≤200:=by omega
 clear c_dv
 by_cases c_pt:200<S.pt.n
 · have z_pt:(200:Int)<(S.pt.n:Int):=by omega
   clear c_pt
   go_enter Tryz.func16,Tryz.ntmps16
   go_wp2;go_ret;exact ⟨true,rfl,fun e=>(by cases e),B0.out⟩
 have z_pt:¬(200:Int)<(S.pt.n:Int):=by omega
 have hz_pt:S.pt.n≤200:=by omega
 clear c_pt
 by_cases c_lk:200<S.lk.n
 · have z_lk:(200:Int)<(S.lk.n:Int):=by omega
   clear c_lk
   go_enter Tryz.func16,Tryz.ntmps16
   go_wp2;go_ret;exact ⟨true,rfl,fun e=>(by cases e),B0.out⟩
 have z_lk:¬(200:Int)<(S.lk.n:Int):=by omega
 have hz_lk:S.lk.n≤200:=by omega
 clear c_lk
 by_cases c_dm:200<S.dm.n
 · have z_dm:(200:Int)<(S.dm.n:Int):=by omega
   clear c_dm
   go_enter Tryz.func16,Tryz.ntmps16
   go_wp2;go_ret;exact ⟨true,rfl,fun e=>(by cases e),B0.out⟩
 have z_dm:¬(200:Int)<(S.dm.n:Int):=by omega
 have hz_dm:S.dm.n≤200:=by omega
 clear c_dm
 by_cases c_st:200<S.st.n
 · have z_st:(200:Int)<(S.st.n:Int):=by omega
   clear c_st
   go_enter Tryz.func16,Tryz.ntmps16
   go_wp2;go_ret;exact ⟨true,rfl,fun e=>(by cases e),B0.out⟩
 have z_st:¬(200:Int)<(S.st.n:Int):=by omega
 have hz_st:S.st.n≤200:=by omega
 clear c_st
 by_cases c_fl:200<S.fl.n
 · have z_fl:(200:Int)<(S.fl.n:Int):=by omega
   clear c_fl
   go_enter Tryz.func16,Tryz.ntmps16
   go_wp2;go_ret;exact ⟨true,rfl,fun e=>(by cases e),B0.out⟩
 have z_fl:¬(200:Int)<(S.fl.n:Int):=by omega
 have hz_fl:S.fl.n≤200:=by omega
 clear c_fl
 by_cases c_vr:200<S.vr.n
 · have z_vr:(200:Int)<(S.vr.n:Int):=by omega
   clear c_vr
   go_enter Tryz.func16,Tryz.ntmps16
   go_wp2;go_ret;exact ⟨true,rfl,fun e=>(by cases e),B0.out⟩
 have z_vr:¬(200:Int)<(S.vr.n:Int):=by omega
 have hz_vr:S.vr.n≤200:=by omega
 clear c_vr
 by_cases c_ir:200<S.ir.n
 · have z_ir:(200:Int)<(S.ir.n:Int):=by omega
   clear c_ir
   go_enter Tryz.func16,Tryz.ntmps16
   go_wp2;go_ret;exact ⟨true,rfl,fun e=>(by cases e),B0.out⟩
 have z_ir:¬(200:Int)<(S.ir.n:Int):=by omega
 have hz_ir:S.ir.n≤200:=by omega
 clear c_ir
 go_enter Tryz.func16,Tryz.ntmps16
 go_upto_block 0 with fail
 obtain ⟨w1,hw1⟩:∃w1,w.alloc (.cells (nA S) 31)=w1:=⟨_,rfl⟩;rw [hw1] at NB B0 ⊢;clear hw1
 go_cut [] (fun wx=>(∀j,j<S.pt.n→(N.ports.getD j PortV.zero).tagged.length≤100)∧w1=wx)
 case first=>
  have nx:=NB.out.c1;go_wp2_with fail
  go_loopw [3] (fun i wr=>∃k:Nat,i=.int .i64 k∧k≤S.pt.n∧wr=w1∧∀j,j<k→(N.ports.getD j PortV.zero).tagged.length≤100) (fun i _=>match i with| .int _ y=>(S.pt.n - y).toNat|_=>0)
  case atStart=>exact ⟨0,rfl,by omega,rfl,fun j hj=>absurd hj (by omega)⟩
  case round=>
  obtain ⟨k,rfl,hk,hwr,hall⟩:=hrel;subst hwr;have AL:=hid hall;clear hall
  by_cases hlt:k<S.pt.n
  rotate_left
  · have lt2:¬(k:Int)<(S.pt.n:Int):=by omega
    go_wp2
    go_meet
    exact ⟨fun j hj=>AL.out j (by omega),rfl⟩
  obtain ⟨b0,o0,vs,e0,_,hb0,⟨s,rfl,l1⟩,r0⟩:=vAi H_pt.out k hlt PortV.zero
  have ALk:=hid (show ((N.ports.getD k PortV.zero).tagged.length≤100)→∀j,j<k+1→(N.ports.getD j PortV.zero).tagged.length≤100 from fun hp j hj=>by
   rcases Nat.lt_or_ge j k with h'|h'
   · exact AL.out j h'
   · obtain rfl:j=k:=by omega
     exact hp)
  have R0:=vAb r0 (B0.out.block b0 hb0);have d6:=R0 6 _ rfl;have hs0:=hid l1.len;have qa0:=l1.le;have qb0:=l1.cap;rw [show o0+k * portR.n=o0+k * 7 from rfl] at d6;generalize N.ports.getD k PortV.zero=X at *
  have lt2:(k:Int)<(S.pt.n:Int):=by omega
  rw [e0] at nx;clear r0 R0 e0 l1
  by_cases g0:100<s.n
  · have y0:(100:Int)<(s.n:Int):=by omega
    clear g0;go_wp2;go_ret;exact ⟨true,rfl,fun e=>(by cases e),B0.out⟩
  have y0:¬(100:Int)<(s.n:Int):=by omega
  have OK:=hid (ALk.out (by rw [hs0.out];omega));go_wp2
  go_roundw
  case rel=>exact ⟨k+1,by simp,by omega,(by first|rfl|trivial),OK.out⟩
  case measure=>simp only [];omega
 case rest=>
 obtain ⟨hall0,rfl⟩:=hcut;have ALL0:=hid hall0;clear hall0
 go_upto_block 2 with fail
 go_cut [] (fun wx=>(∀j,j<S.dm.n→(N.domains.getD j DomV.zero).peers.length≤100)∧w1=wx)
 case first=>
  have nx:=NB.out.c3;go_wp2_with fail
  go_loopw [4] (fun i wr=>∃k:Nat,i=.int .i64 k∧k≤S.dm.n∧wr=w1∧∀j,j<k→(N.domains.getD j DomV.zero).peers.length≤100) (fun i _=>match i with| .int _ y=>(S.dm.n - y).toNat|_=>0)
  case atStart=>exact ⟨0,rfl,by omega,rfl,fun j hj=>absurd hj (by omega)⟩
  case round=>
  obtain ⟨k,rfl,hk,hwr,hall⟩:=hrel;subst hwr;have AL:=hid hall;clear hall
  by_cases hlt:k<S.dm.n
  rotate_left
  · have lt2:¬(k:Int)<(S.dm.n:Int):=by omega
    go_wp2
    go_meet
    exact ⟨fun j hj=>AL.out j (by omega),rfl⟩
  obtain ⟨b0,o0,vs,e0,_,hb0,⟨s,rfl,l1⟩,r0⟩:=vAi H_dm.out k hlt DomV.zero
  have ALk:=hid (show ((N.domains.getD k DomV.zero).peers.length≤100)→∀j,j<k+1→(N.domains.getD j DomV.zero).peers.length≤100 from fun hp j hj=>by
   rcases Nat.lt_or_ge j k with h'|h'
   · exact AL.out j h'
   · obtain rfl:j=k:=by omega
     exact hp)
  have R0:=vAb r0 (B0.out.block b0 hb0);have d5:=R0 5 _ rfl;have hs0:=hid l1.len;have qa0:=l1.le;have qb0:=l1.cap;rw [show o0+k * domR.n=o0+k * 6 from rfl] at d5;generalize N.domains.getD k DomV.zero=X at *
  have lt2:(k:Int)<(S.dm.n:Int):=by omega
  rw [e0] at nx;clear r0 R0 e0 l1
  by_cases g0:100<s.n
  · have y0:(100:Int)<(s.n:Int):=by omega
    clear g0;go_wp2;go_ret;exact ⟨true,rfl,fun e=>(by cases e),B0.out⟩
  have y0:¬(100:Int)<(s.n:Int):=by omega
  have OK:=hid (ALk.out (by rw [hs0.out];omega));go_wp2
  go_roundw
  case rel=>exact ⟨k+1,by simp,by omega,(by first|rfl|trivial),OK.out⟩
  case measure=>simp only [];omega
 case rest=>
 obtain ⟨hall1,rfl⟩:=hcut;have ALL1:=hid hall1;clear hall1
 go_upto_block 4 with fail
 go_cut [] (fun wx=>(∀j,j<S.fl.n→(N.floods.getD j FloodV.zero).addrs.length≤100)∧w1=wx)
 case first=>
  have nx:=NB.out.c5;go_wp2_with fail
  go_loopw [5] (fun i wr=>∃k:Nat,i=.int .i64 k∧k≤S.fl.n∧wr=w1∧∀j,j<k→(N.floods.getD j FloodV.zero).addrs.length≤100) (fun i _=>match i with| .int _ y=>(S.fl.n - y).toNat|_=>0)
  case atStart=>exact ⟨0,rfl,by omega,rfl,fun j hj=>absurd hj (by omega)⟩
  case round=>
  obtain ⟨k,rfl,hk,hwr,hall⟩:=hrel;subst hwr;have AL:=hid hall;clear hall
  by_cases hlt:k<S.fl.n
  rotate_left
  · have lt2:¬(k:Int)<(S.fl.n:Int):=by omega
    go_wp2
    go_meet
    exact ⟨fun j hj=>AL.out j (by omega),rfl⟩
  obtain ⟨b0,o0,vs,e0,_,hb0,⟨s,rfl,l1⟩,r0⟩:=vAi H_fl.out k hlt FloodV.zero
  have ALk:=hid (show ((N.floods.getD k FloodV.zero).addrs.length≤100)→∀j,j<k+1→(N.floods.getD j FloodV.zero).addrs.length≤100 from fun hp j hj=>by
   rcases Nat.lt_or_ge j k with h'|h'
   · exact AL.out j h'
   · obtain rfl:j=k:=by omega
     exact hp)
  have R0:=vAb r0 (B0.out.block b0 hb0);have d3:=R0 3 _ rfl;have hs0:=hid l1.len;have qa0:=l1.le;have qb0:=l1.cap;rw [show o0+k * floodR.n=o0+k * 4 from rfl] at d3;generalize N.floods.getD k FloodV.zero=X at *
  have lt2:(k:Int)<(S.fl.n:Int):=by omega
  rw [e0] at nx;clear r0 R0 e0 l1
  by_cases g0:100<s.n
  · have y0:(100:Int)<(s.n:Int):=by omega
    clear g0;go_wp2;go_ret;exact ⟨true,rfl,fun e=>(by cases e),B0.out⟩
  have y0:¬(100:Int)<(s.n:Int):=by omega
  have OK:=hid (ALk.out (by rw [hs0.out];omega));go_wp2
  go_roundw
  case rel=>exact ⟨k+1,by simp,by omega,(by first|rfl|trivial),OK.out⟩
  case measure=>simp only [];omega
 case rest=>
 obtain ⟨hall2,rfl⟩:=hcut;have ALL2:=hid hall2;clear hall2
 go_upto_block 6 with fail
 go_cut [] (fun wx=>(∀j,j<S.vr.n→(N.vrfs.getD j VrfV.zero).imports.length≤100∧(N.vrfs.getD j VrfV.zero).exports.length≤100)∧w1=wx)
 case first=>
  have nx:=NB.out.c6;go_wp2_with fail
  go_loopw [6] (fun i wr=>∃k:Nat,i=.int .i64 k∧k≤S.vr.n∧wr=w1∧∀j,j<k→(N.vrfs.getD j VrfV.zero).imports.length≤100∧(N.vrfs.getD j VrfV.zero).exports.length≤100) (fun i _=>match i with| .int _ y=>(S.vr.n - y).toNat|_=>0)
  case atStart=>exact ⟨0,rfl,by omega,rfl,fun j hj=>absurd hj (by omega)⟩
  case round=>
  obtain ⟨k,rfl,hk,hwr,hall⟩:=hrel;subst hwr;have AL:=hid hall;clear hall
  by_cases hlt:k<S.vr.n
  rotate_left
  · have lt2:¬(k:Int)<(S.vr.n:Int):=by omega
    go_wp2
    go_meet
    exact ⟨fun j hj=>AL.out j (by omega),rfl⟩
  obtain ⟨b0,o0,vs,e0,_,hb0,⟨s,t,rfl,l1,l2⟩,r0⟩:=vAi H_vr.out k hlt VrfV.zero
  have ALk:=hid (show ((N.vrfs.getD k VrfV.zero).imports.length≤100∧(N.vrfs.getD k VrfV.zero).exports.length≤100)→∀j,j<k+1→(N.vrfs.getD j VrfV.zero).imports.length≤100∧(N.vrfs.getD j VrfV.zero).exports.length≤100 from fun hp j hj=>by
   rcases Nat.lt_or_ge j k with h'|h'
   · exact AL.out j h'
   · obtain rfl:j=k:=by omega
     exact hp)
  have R0:=vAb r0 (B0.out.block b0 hb0);have d3:=R0 3 _ rfl;have hs0:=hid l1.len;have qa0:=l1.le;have qb0:=l1.cap;have d4:=R0 4 _ rfl;have hs1:=hid l2.len;have qa1:=l2.le;have qb1:=l2.cap;rw [show o0+k * vrfR.n=o0+k * 5 from rfl] at d3 d4;generalize N.vrfs.getD k VrfV.zero=X at *
  have lt2:(k:Int)<(S.vr.n:Int):=by omega
  rw [e0] at nx;clear r0 R0 e0 l1 l2
  by_cases g0:100<s.n
  · have y0:(100:Int)<(s.n:Int):=by omega
    clear g0;go_wp2;go_ret;exact ⟨true,rfl,fun e=>(by cases e),B0.out⟩
  have y0:¬(100:Int)<(s.n:Int):=by omega
  by_cases g1:100<t.n
  · have y1:(100:Int)<(t.n:Int):=by omega
    clear g1;go_wp2;go_ret;exact ⟨true,rfl,fun e=>(by cases e),B0.out⟩
  have y1:¬(100:Int)<(t.n:Int):=by omega
  have OK:=hid (ALk.out ⟨by rw [hs0.out];omega,by rw [hs1.out];omega⟩);go_wp2
  go_roundw
  case rel=>exact ⟨k+1,by simp,by omega,(by first|rfl|trivial),OK.out⟩
  case measure=>simp only [];omega
 case rest=>
 obtain ⟨hall3,rfl⟩:=hcut;have ALL3:=hid hall3;clear hall3;have EV:=hid (show NvSz N from ⟨by rw [LE_dv.out];exact hz_dv,by rw [LE_pt.out];exact hz_pt,by rw [LE_lk.out];exact hz_lk,by rw [LE_dm.out];exact hz_dm,by rw [LE_st.out];exact hz_st,by rw [LE_fl.out];exact hz_fl,by rw [LE_vr.out];exact hz_vr,by rw [LE_ir.out];exact hz_ir,fun j hj=>ALL0.out j (by rw [LE_pt.out] at hj;exact hj),fun j hj=>ALL1.out j (by rw [LE_dm.out] at hj;exact hj),fun j hj=>ALL2.out j (by rw [LE_fl.out] at hj;exact hj),fun j hj=>ALL3.out j (by rw [LE_vr.out] at hj;exact hj)⟩)
 go_wp2;go_ret;exact ⟨false,rfl,fun _=>EV.out,B0.out⟩
end Go.Proofs.YtgmflecelnefcaaGreat
