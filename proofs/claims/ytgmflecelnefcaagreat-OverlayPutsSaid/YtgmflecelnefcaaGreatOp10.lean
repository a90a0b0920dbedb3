import Derived.Test.YtgmflecelnefcaaGreatOp09
import Derived.Deep.CutBlock
set_option maxRecDepth 100000
set_option maxHeartbeats 40000000
namespace Go.Proofs.YtgmflecelnefcaaGreat
open Go.Lib (hid)
open Go.RowKit
structure StatOk (N:NV) (T:StatV):Prop where
 dom:plB T.dom (N.domains.length:Int)=true
 port:plB T.port (N.ports.length:Int)=true
 dev:(N.ports.getD T.port.toNat PortV.zero).dev=(N.domains.getD T.dom.toNat DomV.zero).dev
 mbr:mbrB (N.ports.getD T.port.toNat PortV.zero) (N.domains.getD T.dom.toNat DomV.zero).vlan=true
structure FloodOk (N:NV) (T:FloodV):Prop where
 dev:plB T.dev (N.devices.length:Int)=true
 most:T.addrs.length≤16
structure VrfOk (N:NV) (T:VrfV):Prop where
 dev:plB T.dev (N.devices.length:Int)=true
 imp:rsB T.imports 65535=true
 exp:rsB T.exports 65535=true
structure IrbOk (N:NV) (i:Nat) (T:IrbV):Prop where
 dom:plB T.dom (N.domains.length:Int)=true
 vrf:plB T.vrf (N.vrfs.length:Int)=true
 bits:1≤T.bits∧T.bits≤30
 dev:(N.domains.getD T.dom.toNat DomV.zero).dev=(N.vrfs.getD T.vrf.toNat VrfV.zero).dev
 irb:(N.domains.getD T.dom.toNat DomV.zero).irb=(i:Int)
structure RestOk (N:NV):Prop where
 st:∀i,i<N.statics.length→StatOk N (N.statics.getD i StatV.zero)
 fl:∀i,i<N.floods.length→FloodOk N (N.floods.getD i FloodV.zero)
 vr:∀i,i<N.vrfs.length→VrfOk N (N.vrfs.getD i VrfV.zero)
 ir:∀i,i<N.irbs.length→IrbOk N i (N.irbs.getD i IrbV.zero)
noncomputable def rstB (N:NV):Bool:=@decide (RestOk N) (Classical.propDecidable _)
theorem rstB_no {N:NV} (h:¬RestOk N):rstB N=false:=by
 unfold rstB;exact @decide_eq_false _ (Classical.propDecidable _) h
theorem rstB_yes {N:NV} (h:RestOk N):rstB N=true:=by
 unfold rstB;exact @decide_eq_true _ (Classical.propDecidable _) h
theorem rstB_iff (N:NV):rstB N=true↔RestOk N:=by
 unfold rstB;exact @decide_eq_true_iff _ (Classical.propDecidable _)
theorem rest_any (N:NV) (S:NSl3) (w:World) (h:NRead w (vAp w) N S):Calls Tryz.prog 48 #[vAm S] w fun e w'=>e=.returned (.bool (rstB N))∧Below w.heap.size w w':=by
 have LE_dv:=hid h.dv.len;have H_pt:=hid h.pt;have hle_pt:=h.pt.le;have hcap_pt:=h.pt.cap;have LE_pt:=hid h.pt.len;have LE_lk:=hid h.lk.len;have H_dm:=hid h.dm;have hle_dm:=h.dm.le;have hcap_dm:=h.dm.cap;have LE_dm:=hid h.dm.len;have H_st:=hid h.st;have hle_st:=h.st.le;have hcap_st:=h.st.cap;have LE_st:=hid h.st.len;have H_fl:=hid h.fl;have hle_fl:=h.fl.le;have hcap_fl:=h.fl.cap
 have LE_fl:=hid h.fl.len;have H_vr:=hid h.vr;have hle_vr:=h.vr.le;have hcap_vr:=h.vr.cap;have LE_vr:=hid h.vr.len;have H_ir:=hid h.ir;have hle_ir:=h.ir.le;have hcap_ir:=h.ir.cap;have LE_ir:=hid h.ir.len;have NO:=hid (@rstB_no N);have YES:=hid (@rstB_yes N);have NB:=hid (NBox.new w S 31);generalize rstB N=V at *;clear h;unfold vAm
 go_enter Tryz.func48,Tryz.ntmps48
 go_upto_block 0 with fail
 obtain ⟨w1,hw1⟩:∃w1,w.alloc (.cells (nA S) 31)=w1:=⟨_,rfl⟩;have B1:=hid (show Below w.heap.size w w1 by rw [←hw1];exact (Below.refl _ _).alloc (Nat.le_refl _) _);rw [hw1] at NB ⊢;clear hw1
 go_cut [] (fun wx=>(∀i,i<S.st.n→StatOk N (N.statics.getD i StatV.zero))∧Below w1.heap.size w1 wx)
 case first=>
  go_wp2_with fail
  go_loopw [3] (fun i wr=>∃k:Nat,i=.int .i64 k∧k≤S.st.n∧Below w1.heap.size w1 wr∧∀j,j<k→StatOk N (N.statics.getD j StatV.zero)) (fun i _=>match i with| .int _ y=>(S.st.n - y).toNat|_=>0)
  case atStart=>exact ⟨0,rfl,by omega,Below.refl _ _,fun j hj=>absurd hj (by omega)⟩
  case round=>
  obtain ⟨k,rfl,hk,hb,hall⟩:=hrel;have W:=hid hb;have W0:=hid (B1.out.trans (hb.mono B1.out.size));have AL:=hid hall;clear hb hall;have NBr:=NB.out.below W.out;have nx:=NBr.c4;have nl:=NBr.lt
  by_cases hlt:k<S.st.n
  rotate_left
  · have lt2:¬(k:Int)<(S.st.n:Int):=by omega
    clear NBr;go_wp2
    go_meet
    exact ⟨fun i hi=>AL.out i (by omega),W.out⟩
  obtain ⟨b0,o0,vs,e0,_,hb0,hvs,r0⟩:=vAi H_st.out k hlt StatV.zero;have hvs:vs=statC (N.statics.getD k StatV.zero):=hvs;subst hvs;have hk2:k<S.st.n:=hlt
  have ALk:=hid (show StatOk N (N.statics.getD k StatV.zero)→∀j,j<k+1→StatOk N (N.statics.getD j StatV.zero) from fun hp j hj=>by
   rcases Nat.lt_or_ge j k with h'|h'
   · exact AL.out j h'
   · obtain rfl:j=k:=by omega
     exact hp)
  obtain ⟨T,hX⟩:∃X,N.statics.getD k StatV.zero=X:=⟨_,rfl⟩;have HXX:=hid hX;rw [hX] at r0 ALk;have R1:=vAb r0 (W0.out.block b0 hb0);have d0:=R1 0 _ rfl;have d1:=R1 1 _ rfl;have d2:=R1 2 _ rfl;have d3:=R1 3 _ rfl;simp only [Nat.add_zero] at d0;rw [show o0+k * statR.n=o0+k * 4 from rfl] at d0 d1 d2 d3
  have lt2:(k:Int)<(S.st.n:Int):=by omega
  have KP:=hid (show ∀w4,wr.alloc (.cells #[.int .i64 T.row,.int .i64 T.dom,.int .i64 T.port,.int .u64 T.mac] 89)=w4→∀wx,Below w4.heap.size w4 wx→(NF wx w.heap.size S)∧(wx.cell? ⟨wr.heap.size,0,none⟩=some (.int .i64 T.row)∧wx.cell? ⟨wr.heap.size,1,none⟩=some (.int .i64 T.dom)∧wx.cell? ⟨wr.heap.size,2,none⟩=some (.int .i64 T.port)∧wx.cell? ⟨wr.heap.size,3,none⟩=some (.int .u64 T.mac))∧Below w.heap.size w wx∧Below w1.heap.size w1 wx from fun w4 e wx hx=>by
   have k0:Below wr.heap.size wr w4:=by rw [←e];exact (Below.refl _ _).alloc (Nat.le_refl _) _
   have k1:Below wr.heap.size wr wx:=k0.trans (hx.mono k0.size);have nb:=(NB.out.below W.out).below k1
   have q:wr.heap.size<w4.heap.size:=by rw [←e];simp
   have pc:w4.cell? ⟨wr.heap.size,0,none⟩=some (.int .i64 T.row)∧w4.cell? ⟨wr.heap.size,1,none⟩=some (.int .i64 T.dom)∧w4.cell? ⟨wr.heap.size,2,none⟩=some (.int .i64 T.port)∧w4.cell? ⟨wr.heap.size,3,none⟩=some (.int .u64 T.mac):=by rw [←e];simp
   obtain ⟨p0,p1,p2,p3⟩:=pc
   exact ⟨⟨nb.c0,nb.c1,nb.c2,nb.c3,nb.c4,nb.c5,nb.c6,nb.c7⟩,⟨(hx.cell (p:=⟨_,0,none⟩) q).trans p0,(hx.cell (p:=⟨_,1,none⟩) q).trans p1,(hx.cell (p:=⟨_,2,none⟩) q).trans p2,(hx.cell (p:=⟨_,3,none⟩) q).trans p3⟩,W0.out.trans (k1.mono W0.out.size),W.out.trans (k1.mono W.out.size)⟩)
  rw [e0] at nx;clear r0 R1 NBr hX
  go_upto_region 5 with fail
  obtain ⟨w4,hw4⟩:∃w4,wr.alloc (.cells #[.int .i64 T.row,.int .i64 T.dom,.int .i64 T.port,.int .u64 T.mac] 89)=w4:=⟨_,rfl⟩;rw [hw4];have KQ:=hid (KP.out w4 hw4);clear hw4 nx nl KP e0 d0 d1 d2 d3;have NOk:=hid (show ¬StatOk N T→V=false from fun hn=>NO.out (fun g=>hn (by have:=g.st k (by rw [LE_st.out];exact hlt);rwa [HXX.out] at this)));obtain ⟨⟨f0,f1,f2,f3,f4,f5,f6,f7⟩,⟨g0,g1,g2,g3⟩,hB,hC⟩:=KQ.out w4 (Below.refl _ _)
  have X4:=hid hB;have C4:=hid hC;clear hB hC
  have PA:=fun w'=>vBj T.dom (S.dm.n:Int) w'
  have PB:=fun w'=>vBj T.port (S.pt.n:Int) w'
  cases ha:plB T.dom (S.dm.n:Int) with
  |false=>
   rw [ha] at PA;have PA:=hid PA;have EV:=hid (NOk.out (fun g=>by have:=g.dom;rw [LE_dm.out,ha] at this;cases this));clear ha PB;go_wp2_with (go_at_call 108;(with_reducible refine (PA.out _).mono ?_);rintro e wp ⟨rfl,hwp⟩;subst hwp);go_ret;exact ⟨by rw [EV.out];rfl,X4.out⟩
  |true=>
  rw [ha] at PA
  cases hb:plB T.port (S.pt.n:Int) with
  |false=>
   rw [hb] at PB;have PA:=hid PA;have PB:=hid PB;have EV:=hid (NOk.out (fun g=>by have:=g.port;rw [LE_pt.out,hb] at this;cases this));clear ha hb
   go_wp2_with (first
    |(go_at_call 108;(with_reducible refine (PA.out _).mono ?_);rintro e wp ⟨rfl,hwp⟩;subst hwp)
    |(go_at_call 108;(with_reducible refine (PB.out _).mono ?_);rintro e wp ⟨rfl,hwp⟩;subst hwp))
   go_ret;exact ⟨by rw [EV.out];rfl,X4.out⟩
  |true=>
  rw [hb] at PB;obtain ⟨a1,a2⟩:=(vBb _ _).1 ha;obtain ⟨c1,c2⟩:=(vBb _ _).1 hb;obtain ⟨x,hx⟩:=Int.eq_ofNat_of_zero_le a1;obtain ⟨y,hy⟩:=Int.eq_ofNat_of_zero_le c1
  have hxl:x<S.dm.n:=by omega
  have hyl:y<S.pt.n:=by omega
  have AH:=hid (show plB T.dom (N.domains.length:Int)=true by rw [LE_dm.out];exact ha);have BH:=hid (show plB T.port (N.ports.length:Int)=true by rw [LE_pt.out];exact hb);obtain ⟨bd,od,vd,ed,_,hbd,⟨sd,rfl,ld⟩,rd⟩:=vAi H_dm.out x hxl DomV.zero;obtain ⟨bp,op,vp,ep,_,hbp,⟨sp,rfl,lp⟩,rp⟩:=vAi H_pt.out y hyl PortV.zero;have RD:=vAb rd (X4.out.block bd hbd);have GX:=hid (show N.domains.getD T.dom.toNat DomV.zero=N.domains.getD x DomV.zero by rw [hx];rfl)
  have GY:=hid (show N.ports.getD T.port.toNat PortV.zero=N.ports.getD y PortV.zero by rw [hy];rfl);generalize N.domains.getD x DomV.zero=D at *;generalize N.ports.getD y PortV.zero=P at *;have e0_:=RD 0 _ rfl;have e1_:=RD 1 _ rfl;have e2_:=RD 2 _ rfl;have e3_:=RD 3 _ rfl;have e4_:=RD 4 _ rfl;have e5_:=RD 5 _ rfl;simp only [Nat.add_zero] at e0_;rw [show od+x * domR.n=od+x * 6 from rfl] at e0_ e1_ e2_ e3_ e4_ e5_
  have lx:(x:Int)<(S.dm.n:Int):=by omega
  have ly:(y:Int)<(S.pt.n:Int):=by omega
  have f3k:=f3;rw [ed] at f3;rw [hx] at g1 PA;rw [hy] at PB;have PA:=hid PA;have PB:=hid PB;have HYY:=hid hy;have EP:=hid ep;have LP:=hid lp;have RPH:=hid rp;have HBP:=hid hbp;have hbd4:bd<w4.heap.size:=Nat.lt_of_lt_of_le hbd X4.out.size;rw [hy] at g2;clear rd RD a1 a2 c1 c2 ha hb hx hy ed ep lp rp ld
  go_upto_region 8 with (first
   |(go_at_call 108;(with_reducible refine (PA.out _).mono ?_);rintro e wp ⟨rfl,hwp⟩;subst hwp)
   |(go_at_call 108;(with_reducible refine (PB.out _).mono ?_);rintro e wp ⟨rfl,hwp⟩;subst hwp))
  obtain ⟨w7,hw7⟩:∃w7,w4.alloc (.cells #[.int .i64 D.dev,.int .i64 D.vlan,.int .i64 D.vni,.int .i64 D.irb,.int .i64 D.row,.slice sd.A sd.n sd.c] 54)=w7:=⟨_,rfl⟩;rw [hw7]
  have k47:Below w4.heap.size w4 w7:=by rw [←hw7];exact (Below.refl _ _).alloc (Nat.le_refl _) _
  have K7:=hid k47
  have KD:=hid (show ∀wx,Below w7.heap.size w7 wx→wx.cell? ⟨w4.heap.size,0,none⟩=some (.int .i64 D.dev)∧wx.cell? ⟨w4.heap.size,1,none⟩=some (.int .i64 D.vlan)∧Below w4.heap.size w4 wx from fun wx hx=>by
   have q:w4.heap.size<w7.heap.size:=by rw [←hw7];simp
   have i0:w7.cell? ⟨w4.heap.size,0,none⟩=some (.int .i64 D.dev):=by rw [←hw7];simp
   have i1:w7.cell? ⟨w4.heap.size,1,none⟩=some (.int .i64 D.vlan):=by rw [←hw7];simp
   exact ⟨(hx.cell (p:=⟨_,0,none⟩) q).trans i0,(hx.cell (p:=⟨_,1,none⟩) q).trans i1,K7.out.trans (hx.mono K7.out.size)⟩)
  have KPT:=hid (show ∀wx,Below w.heap.size w wx→wx.cell? ⟨bp,op+y * 7,none⟩=some (.int .i64 P.row)∧wx.cell? ⟨bp,op+y * 7+1,none⟩=some (.int .i64 P.dev)∧wx.cell? ⟨bp,op+y * 7+2,none⟩=some (.int .i64 P.native)∧wx.cell? ⟨bp,op+y * 7+3,none⟩=some (.int .i64 P.cost)∧wx.cell? ⟨bp,op+y * 7+4,none⟩=some (.int .i64 P.link)∧wx.cell? ⟨bp,op+y * 7+5,none⟩=some (.string (str P.name))∧wx.cell? ⟨bp,op+y * 7+6,none⟩=some (.slice sp.A sp.n sp.c) from fun wx hx=>by
   have r1:=vAb RPH.out (hx.block bp HBP.out);rw [show op+y * portR.n=op+y * 7 from rfl] at r1
   exact ⟨r1 0 _ rfl,r1 1 _ rfl,r1 2 _ rfl,r1 3 _ rfl,r1 4 _ rfl,r1 5 _ rfl,r1 6 _ rfl⟩)
  obtain ⟨v2,hv2⟩:∃v,mbrB P D.vlan=v:=⟨_,rfl⟩
  have MB:=fun (w':World) (hb:Below w.heap.size w w')=>rmember_any P sp D.vlan w' _ (fun b h=>Nat.lt_of_lt_of_le h hb.size) (LP.out.below (fun _ h=>h) hb)
  rw [hv2] at MB;unfold portC at MB;have MB:=hid MB;have HV2:=hid hv2;clear hw7 k47 f0 f1 f2 f3 f4 f5 f6 f7 g0 g1 g2 g3 e0_ e1_ e2_ e3_ e4_ e5_ PA PB hv2 f3k
  by_cases c3:P.dev=D.dev
  · have z1:(P.dev != D.dev)=false:=by simpa using c3
    have OK:=hid (show v2=true→StatOk N T from fun h2=>⟨AH.out,BH.out,by rw [GX.out,GY.out];exact c3,by rw [GX.out,GY.out,HV2.out];exact h2⟩);have BAD:=hid (show v2=false→V=false from fun h2=>NOk.out (fun g=>by have:=g.mbr;rw [GX.out,GY.out,HV2.out,h2] at this;cases this));clear c3
    cases v2
    all_goals
     refine vAe (fun wx=>Below w7.heap.size w7 wx) (by kernel_rfl) (by kernel_rfl) ((Below.refl _ _).drew) ?_
     repeat
      first
       |(refine Seq.pass rfl ?_;simp only [Act.put,List.setIfInBounds_toArray,List.set_cons_zero,List.set_cons_succ])
       |(refine Seq.run ?_ rfl (fun wx hx=>?_) ?_
         rotate_left
         · obtain ⟨h0,h1,hx4⟩:=KD.out wx hx
           obtain ⟨⟨f0,f1,f2,f3,f4,f5,f6,f7⟩,⟨g0,g1,g2,g3⟩,hBx,_⟩:=KQ.out wx hx4;obtain ⟨p0,p1,p2,p3,p4,p5,p6⟩:=KPT.out wx hBx;rw [EP.out] at f1;rw [HYY.out] at g2
           go_simp
           first
            |(refine StepRun.val ?_;exact hx)
            |(refine StepRun.call (v:=.bool true) ?_;(with_reducible refine Calls.mono (MB.out _ hBx) ?_);rintro e w' ⟨rfl,hb⟩;exact ⟨rfl,vAa hx hb⟩)
            |(refine StepRun.call (v:=.bool false) ?_;(with_reducible refine Calls.mono (MB.out _ hBx) ?_);rintro e w' ⟨rfl,hb⟩;exact ⟨rfl,vAa hx hb⟩)
         simp only [Act.put,List.setIfInBounds_toArray,List.set_cons_zero,List.set_cons_succ])
     refine Seq.last (fun w7 h7=>?_);have X7:=hid ((KQ.out w7 (KD.out w7 h7).2.2).2.2.1);have C7:=hid ((KQ.out w7 (KD.out w7 h7).2.2).2.2.2);go_wp2
     first
      |(go_ret
        exact ⟨by rw [BAD.out (by simp)];rfl,X7.out⟩)
      |(go_roundw
        case rel=>exact ⟨k+1,by simp,by omega,C7.out,ALk.out (OK.out (by simp))⟩
        case measure=>simp only [];omega)
  · have z1:(P.dev != D.dev)=true:=by simpa using c3
    have EV:=hid (NOk.out (fun g=>c3 (by have:=g.dev;rwa [GX.out,GY.out] at this)));clear c3;refine vAe (fun wx=>Below w7.heap.size w7 wx) (by kernel_rfl) (by kernel_rfl) ((Below.refl _ _).drew) ?_
    repeat
     first
      |(refine Seq.pass rfl ?_;simp only [Act.put,List.setIfInBounds_toArray,List.set_cons_zero,List.set_cons_succ])
      |(refine Seq.run ?_ rfl (fun wx hx=>?_) ?_
        rotate_left
        · obtain ⟨h0,h1,hx4⟩:=KD.out wx hx
          obtain ⟨⟨f0,f1,f2,f3,f4,f5,f6,f7⟩,⟨g0,g1,g2,g3⟩,hBx,_⟩:=KQ.out wx hx4;obtain ⟨p0,p1,p2,p3,p4,p5,p6⟩:=KPT.out wx hBx;rw [EP.out] at f1;rw [HYY.out] at g2
          go_simp
          first
           |(refine StepRun.val ?_;exact hx)
        simp only [Act.put,List.setIfInBounds_toArray,List.set_cons_zero,List.set_cons_succ])
    refine Seq.last (fun w7 h7=>?_);have X7:=hid ((KQ.out w7 (KD.out w7 h7).2.2).2.2.1);go_wp2;go_ret;exact ⟨by rw [EV.out];rfl,X7.out⟩
 case rest=>
 obtain ⟨hall1,hbw⟩:=hcut;rename World=>wB;have ALL1:=hid hall1;have YB:=hid hbw;clear hall1 hbw
 go_upto_block 2 with fail
 go_cut [] (fun wx=>(∀i,i<S.fl.n→FloodOk N (N.floods.getD i FloodV.zero))∧Below w1.heap.size w1 wx)
 case first=>
  go_wp2_with fail
  go_loopw [6] (fun i wr=>∃k:Nat,i=.int .i64 k∧k≤S.fl.n∧Below w1.heap.size w1 wr∧∀j,j<k→FloodOk N (N.floods.getD j FloodV.zero)) (fun i _=>match i with| .int _ y=>(S.fl.n - y).toNat|_=>0)
  case atStart=>exact ⟨0,rfl,by omega,YB.out,fun j hj=>absurd hj (by omega)⟩
  case round=>
  obtain ⟨k,rfl,hk,hb,hall⟩:=hrel;have W:=hid hb;have W0:=hid (B1.out.trans (hb.mono B1.out.size));have AL:=hid hall;clear hb hall;have NBr:=NB.out.below W.out;have n0:=NBr.c0;have n5:=NBr.c5;have nl:=NBr.lt
  by_cases hlt:k<S.fl.n
  rotate_left
  · have lt2:¬(k:Int)<(S.fl.n:Int):=by omega
    clear NBr;go_wp2
    go_meet
    exact ⟨fun i hi=>AL.out i (by omega),W.out⟩
  obtain ⟨b0,o0,vs,e0,_,hb0,⟨s,rfl,l1⟩,r0⟩:=vAi H_fl.out k hlt FloodV.zero
  have ALk:=hid (show FloodOk N (N.floods.getD k FloodV.zero)→∀j,j<k+1→FloodOk N (N.floods.getD j FloodV.zero) from fun hp j hj=>by
   rcases Nat.lt_or_ge j k with h'|h'
   · exact AL.out j h'
   · obtain rfl:j=k:=by omega
     exact hp)
  have NOk:=hid (show ¬FloodOk N (N.floods.getD k FloodV.zero)→V=false from fun hn=>NO.out (fun g=>hn (g.fl k (by rw [LE_fl.out];exact hlt))));obtain ⟨T,hX⟩:∃X,N.floods.getD k FloodV.zero=X:=⟨_,rfl⟩;rw [hX] at r0 ALk l1 NOk;have RX:=hid r0;have hsl1:=l1.len;have qa1:=l1.le;have qb1:=l1.cap
  have KF:=hid (show ∀wx,Below wr.heap.size wr wx→wx.cell? ⟨w.heap.size,0,none⟩=some (.slice S.dv.A S.dv.n S.dv.c)∧wx.cell? ⟨w.heap.size,5,none⟩=some (.slice S.fl.A S.fl.n S.fl.c)∧wx.cell? ⟨b0,o0+k * 4+1,none⟩=some (.int .i64 T.dev)∧wx.cell? ⟨b0,o0+k * 4+3,none⟩=some (.slice s.A s.n s.c) from fun wx hx=>by
   have nb:=(NB.out.below W.out).below hx;have r1:=vAb RX.out ((W0.out.trans (hx.mono W0.out.size)).block b0 hb0);rw [show o0+k * floodR.n=o0+k * 4 from rfl] at r1
   exact ⟨nb.c0,nb.c5,r1 1 _ rfl,r1 3 _ rfl⟩)
  have lt2:(k:Int)<(S.fl.n:Int):=by omega
  have E0:=hid e0;obtain ⟨v1,hv1⟩:∃v,plB T.dev (S.dv.n:Int)=v:=⟨_,rfl⟩
  have PA:=fun w'=>vBj T.dev (S.dv.n:Int) w'
  rw [hv1] at PA;have PA:=hid PA;have HV1:=hid hv1;have TL:=hid hsl1;clear r0 l1 hX NBr n0 e0 hv1 hsl1;rw [E0.out] at n5
  go_upto_region 13 with fail
  clear n5 nl
  by_cases h16:16<s.n
  · have z1:(16:Int)<(s.n:Int):=by omega
    have EV:=hid (NOk.out (fun g=>by have:=g.most;rw [TL.out] at this;omega));clear h16
    cases v1
    all_goals
     refine vAe (fun wx=>Below wr.heap.size wr wx) (by kernel_rfl) (by kernel_rfl) ((Below.refl _ _).drew) ?_
     repeat
      first
       |(refine Seq.pass rfl ?_;simp only [Act.put,List.setIfInBounds_toArray,List.set_cons_zero,List.set_cons_succ])
       |(refine Seq.run ?_ rfl (fun wx hx=>?_) ?_
         rotate_left
         · obtain ⟨f0,f5,d1,d3⟩:=KF.out wx hx
           rw [E0.out] at f5
           go_simp
           first
            |(refine StepRun.val ?_;exact hx)
            |(refine StepRun.call (v:=.bool true) ?_;(with_reducible refine Calls.mono (PA.out _) ?_);rintro e w' ⟨rfl,hb⟩;subst hb;exact ⟨rfl,hx⟩)
            |(refine StepRun.call (v:=.bool false) ?_;(with_reducible refine Calls.mono (PA.out _) ?_);rintro e w' ⟨rfl,hb⟩;subst hb;exact ⟨rfl,hx⟩)
         simp only [Act.put,List.setIfInBounds_toArray,List.set_cons_zero,List.set_cons_succ])
     refine Seq.last (fun w7 h7=>?_);have X7:=hid (W0.out.trans (h7.mono W0.out.size));go_wp2;go_ret;exact ⟨by rw [EV.out];rfl,X7.out⟩
  · have z1:¬(16:Int)<(s.n:Int):=by omega
    have OK:=hid (show v1=true→FloodOk N T from fun h2=>⟨by rw [LE_dv.out,HV1.out];exact h2,by rw [TL.out];omega⟩);have BAD:=hid (show v1=false→V=false from fun h2=>NOk.out (fun g=>by have:=g.dev;rw [LE_dv.out,HV1.out,h2] at this;cases this));clear h16
    cases v1
    all_goals
     refine vAe (fun wx=>Below wr.heap.size wr wx) (by kernel_rfl) (by kernel_rfl) ((Below.refl _ _).drew) ?_
     repeat
      first
       |(refine Seq.pass rfl ?_;simp only [Act.put,List.setIfInBounds_toArray,List.set_cons_zero,List.set_cons_succ])
       |(refine Seq.run ?_ rfl (fun wx hx=>?_) ?_
         rotate_left
         · obtain ⟨f0,f5,d1,d3⟩:=KF.out wx hx
           rw [E0.out] at f5
           go_simp
           first
            |(refine StepRun.val ?_;exact hx)
            |(refine StepRun.call (v:=.bool true) ?_;(with_reducible refine Calls.mono (PA.out _) ?_);rintro e w' ⟨rfl,hb⟩;subst hb;exact ⟨rfl,hx⟩)
            |(refine StepRun.call (v:=.bool false) ?_;(with_reducible refine Calls.mono (PA.out _) ?_);rintro e w' ⟨rfl,hb⟩;subst hb;exact ⟨rfl,hx⟩)
         simp only [Act.put,List.setIfInBounds_toArray,List.set_cons_zero,List.set_cons_succ])
     refine Seq.last (fun w7 h7=>?_);have X7:=hid (W0.out.trans (h7.mono W0.out.size));have C7:=hid (W.out.trans (h7.mono W.out.size));go_wp2
     first
      |(go_ret
        exact ⟨by rw [BAD.out (by simp)];rfl,X7.out⟩)
      |(go_roundw
        case rel=>exact ⟨k+1,by simp,by omega,C7.out,ALk.out (OK.out (by simp))⟩
        case measure=>simp only [];omega)
 case rest=>
 obtain ⟨hall2,hbw⟩:=hcut;rename World=>wB;have ALL2:=hid hall2;have YB:=hid hbw;clear hall2 hbw
 go_upto_block 4 with fail
 go_cut [] (fun wx=>(∀i,i<S.vr.n→VrfOk N (N.vrfs.getD i VrfV.zero))∧Below w1.heap.size w1 wx)
 case first=>
  go_wp2_with fail
  go_loopw [7] (fun i wr=>∃k:Nat,i=.int .i64 k∧k≤S.vr.n∧Below w1.heap.size w1 wr∧∀j,j<k→VrfOk N (N.vrfs.getD j VrfV.zero)) (fun i _=>match i with| .int _ y=>(S.vr.n - y).toNat|_=>0)
  case atStart=>exact ⟨0,rfl,by omega,YB.out,fun j hj=>absurd hj (by omega)⟩
  case round=>
  obtain ⟨k,rfl,hk,hb,hall⟩:=hrel;have W:=hid hb;have W0:=hid (B1.out.trans (hb.mono B1.out.size));have AL:=hid hall;clear hb hall;have NBr:=NB.out.below W.out;have nx:=NBr.c6;have nl:=NBr.lt
  by_cases hlt:k<S.vr.n
  rotate_left
  · have lt2:¬(k:Int)<(S.vr.n:Int):=by omega
    clear NBr;go_wp2
    go_meet
    exact ⟨fun i hi=>AL.out i (by omega),W.out⟩
  obtain ⟨b0,o0,vs,e0,_,hb0,⟨s,t,rfl,l1,l2⟩,r0⟩:=vAi H_vr.out k hlt VrfV.zero;have hk2:k<S.vr.n:=hlt
  have ALk:=hid (show VrfOk N (N.vrfs.getD k VrfV.zero)→∀j,j<k+1→VrfOk N (N.vrfs.getD j VrfV.zero) from fun hp j hj=>by
   rcases Nat.lt_or_ge j k with h'|h'
   · exact AL.out j h'
   · obtain rfl:j=k:=by omega
     exact hp)
  obtain ⟨T,hX⟩:∃X,N.vrfs.getD k VrfV.zero=X:=⟨_,rfl⟩;have HXX:=hid hX;rw [hX] at r0 ALk l1 l2;have R1:=vAb r0 (W0.out.block b0 hb0);have d0:=R1 0 _ rfl;have d1:=R1 1 _ rfl;have d2:=R1 2 _ rfl;have d3:=R1 3 _ rfl;have d4:=R1 4 _ rfl;simp only [Nat.add_zero] at d0;rw [show o0+k * vrfR.n=o0+k * 5 from rfl] at d0 d1 d2 d3 d4
  have lt2:(k:Int)<(S.vr.n:Int):=by omega
  have KP:=hid (show ∀w4,wr.alloc (.cells #[.int .i64 T.row,.int .i64 T.dev,.string (str T.name),.slice s.A s.n s.c,.slice t.A t.n t.c] 74)=w4→∀wx,Below w4.heap.size w4 wx→(NF wx w.heap.size S)∧(wx.cell? ⟨wr.heap.size,0,none⟩=some (.int .i64 T.row)∧wx.cell? ⟨wr.heap.size,1,none⟩=some (.int .i64 T.dev)∧wx.cell? ⟨wr.heap.size,2,none⟩=some (.string (str T.name))∧wx.cell? ⟨wr.heap.size,3,none⟩=some (.slice s.A s.n s.c)∧wx.cell? ⟨wr.heap.size,4,none⟩=some (.slice t.A t.n t.c))∧Below w.heap.size w wx∧Below w1.heap.size w1 wx from fun w4 e wx hx=>by
   have k0:Below wr.heap.size wr w4:=by rw [←e];exact (Below.refl _ _).alloc (Nat.le_refl _) _
   have k1:Below wr.heap.size wr wx:=k0.trans (hx.mono k0.size);have nb:=(NB.out.below W.out).below k1
   have q:wr.heap.size<w4.heap.size:=by rw [←e];simp
   have pc:w4.cell? ⟨wr.heap.size,0,none⟩=some (.int .i64 T.row)∧w4.cell? ⟨wr.heap.size,1,none⟩=some (.int .i64 T.dev)∧w4.cell? ⟨wr.heap.size,2,none⟩=some (.string (str T.name))∧w4.cell? ⟨wr.heap.size,3,none⟩=some (.slice s.A s.n s.c)∧w4.cell? ⟨wr.heap.size,4,none⟩=some (.slice t.A t.n t.c):=by rw [←e];simp
   obtain ⟨p0,p1,p2,p3,p4⟩:=pc
   exact ⟨⟨nb.c0,nb.c1,nb.c2,nb.c3,nb.c4,nb.c5,nb.c6,nb.c7⟩,⟨(hx.cell (p:=⟨_,0,none⟩) q).trans p0,(hx.cell (p:=⟨_,1,none⟩) q).trans p1,(hx.cell (p:=⟨_,2,none⟩) q).trans p2,(hx.cell (p:=⟨_,3,none⟩) q).trans p3,(hx.cell (p:=⟨_,4,none⟩) q).trans p4⟩,W0.out.trans (k1.mono W0.out.size),W.out.trans (k1.mono W.out.size)⟩)
  rw [e0] at nx;clear r0 R1 NBr hX;have L1:=hid l1;have hsl1:=l1.len;have qa1:=l1.le;have qb1:=l1.cap;clear l1;have L2:=hid l2;have hsl2:=l2.len;have qa2:=l2.le;have qb2:=l2.cap;clear l2
  go_upto_region 19 with fail
  obtain ⟨w4,hw4⟩:∃w4,wr.alloc (.cells #[.int .i64 T.row,.int .i64 T.dev,.string (str T.name),.slice s.A s.n s.c,.slice t.A t.n t.c] 74)=w4:=⟨_,rfl⟩;rw [hw4];have KQ:=hid (KP.out w4 hw4);clear hw4 nx nl KP e0 d0 d1 d2 d3 d4;have NOk:=hid (show ¬VrfOk N T→V=false from fun hn=>NO.out (fun g=>hn (by have:=g.vr k (by rw [LE_vr.out];exact hlt);rwa [HXX.out] at this)));obtain ⟨⟨f0,f1,f2,f3,f4,f5,f6,f7⟩,⟨g0,g1,g2,g3,g4⟩,hB,hC⟩:=KQ.out w4 (Below.refl _ _)
  have X4:=hid hB;have C4:=hid hC;have Y4:=hid (Below.refl w4.heap.size w4);clear hB hC
  have PA:=fun w'=>vBj T.dev (S.dv.n:Int) w'
  have RA:=fun (w':World) (hb:Below w.heap.size w w')=>vGh s.A s.n s.c T.imports 65535 w' (vAu (L1.out.below (fun _ h=>h) hb))
  have RB:=fun (w':World) (hb:Below w.heap.size w w')=>vGh t.A t.n t.c T.exports 65535 w' (vAu (L2.out.below (fun _ h=>h) hb))
  cases ha:plB T.dev (S.dv.n:Int) with
  |false=>
   rw [ha] at PA;have PA:=hid PA;have EV:=hid (NOk.out (fun g=>by have:=g.dev;rw [LE_dv.out,ha] at this;cases this));clear ha RA RB;go_wp2_with (go_at_call 108;(with_reducible refine (PA.out _).mono ?_);rintro e wp ⟨rfl,hwp⟩;subst hwp);go_ret;exact ⟨by rw [EV.out];rfl,X4.out⟩
  |true=>
  rw [ha] at PA;have PA:=hid PA;have AH:=hid (show plB T.dev (N.devices.length:Int)=true by rw [LE_dv.out];exact ha);clear ha
  cases hb:rsB T.imports 65535 with
  |false=>
   rw [hb] at RA;have RA:=hid RA;have EV:=hid (NOk.out (fun g=>by have:=g.imp;rw [hb] at this;cases this));clear hb RB
   go_wp2_with (first
    |(go_at_call 108;(with_reducible refine (PA.out _).mono ?_);rintro e wp ⟨rfl,hwp⟩;subst hwp)
    |(go_at_call 111;(with_reducible refine (RA.out _ X4.out).mono ?_);rintro e w5 ⟨rfl,d5_⟩;have b5:=vCr d5_;clear d5_;have Y5:=hid (vAa Y4.out b5);obtain ⟨⟨f0,f1,f2,f3,f4,f5,f6,f7⟩,⟨g0,g1,g2,g3,g4⟩,hB5,hC5⟩:=KQ.out w5 Y5.out;have X5:=hid hB5;have C5:=hid hC5;clear hB5 hC5 b5))
   go_ret;exact ⟨by rw [EV.out];rfl,X5.out⟩
  |true=>
  rw [hb] at RA;have RA:=hid RA;have BH:=hid hb;clear hb
  cases hc:rsB T.exports 65535 with
  |false=>
   rw [hc] at RB;have RB:=hid RB;have EV:=hid (NOk.out (fun g=>by have:=g.exp;rw [hc] at this;cases this));clear hc
   go_wp2_with (first
    |(go_at_call 108;(with_reducible refine (PA.out _).mono ?_);rintro e wp ⟨rfl,hwp⟩;subst hwp)
    |(go_at_call 111;(with_reducible refine (RA.out _ X4.out).mono ?_);rintro e w5 ⟨rfl,d5_⟩;have b5:=vCr d5_;clear d5_;have Y5:=hid (vAa Y4.out b5);obtain ⟨⟨f0,f1,f2,f3,f4,f5,f6,f7⟩,⟨g0,g1,g2,g3,g4⟩,hB5,hC5⟩:=KQ.out w5 Y5.out;have X5:=hid hB5;have C5:=hid hC5;clear hB5 hC5 b5)
    |(go_at_call 111;(with_reducible refine (RB.out _ X5.out).mono ?_);rintro e w5 ⟨rfl,d5_⟩;have b5:=vCr d5_;clear d5_;have Y5:=hid (vAa Y5.out b5);obtain ⟨⟨f0,f1,f2,f3,f4,f5,f6,f7⟩,⟨g0,g1,g2,g3,g4⟩,hB5,hC5⟩:=KQ.out w5 Y5.out;have X5:=hid hB5;have C5:=hid hC5;clear hB5 hC5 b5))
   go_ret;exact ⟨by rw [EV.out];rfl,X5.out⟩
  |true=>
  rw [hc] at RB;have RB:=hid RB;have OK:=hid (ALk.out ⟨AH.out,BH.out,hc⟩);clear hc
  go_wp2_with (first
   |(go_at_call 108;(with_reducible refine (PA.out _).mono ?_);rintro e wp ⟨rfl,hwp⟩;subst hwp)
   |(go_at_call 111;(with_reducible refine (RA.out _ X4.out).mono ?_);rintro e w5 ⟨rfl,d5_⟩;have b5:=vCr d5_;clear d5_;have Y5:=hid (vAa Y4.out b5);obtain ⟨⟨f0,f1,f2,f3,f4,f5,f6,f7⟩,⟨g0,g1,g2,g3,g4⟩,hB5,hC5⟩:=KQ.out w5 Y5.out;have X5:=hid hB5;have C5:=hid hC5;clear hB5 hC5 b5)
   |(go_at_call 111;(with_reducible refine (RB.out _ X5.out).mono ?_);rintro e w5 ⟨rfl,d5_⟩;have b5:=vCr d5_;clear d5_;have Y5:=hid (vAa Y5.out b5);obtain ⟨⟨f0,f1,f2,f3,f4,f5,f6,f7⟩,⟨g0,g1,g2,g3,g4⟩,hB5,hC5⟩:=KQ.out w5 Y5.out;have X5:=hid hB5;have C5:=hid hC5;clear hB5 hC5 b5))
  go_roundw
  case rel=>exact ⟨k+1,by simp,by omega,C5.out,OK.out⟩
  case measure=>simp only [];omega
 case rest=>
 obtain ⟨hall3,hbw⟩:=hcut;rename World=>wB;have ALL3:=hid hall3;have YB:=hid hbw;clear hall3 hbw
 go_upto_block 6 with fail
 go_cut [] (fun wx=>(∀i,i<S.ir.n→IrbOk N i (N.irbs.getD i IrbV.zero))∧Below w1.heap.size w1 wx)
 case first=>
  go_wp2_with fail
  go_loopw [9] (fun i wr=>∃k:Nat,i=.int .i64 k∧k≤S.ir.n∧Below w1.heap.size w1 wr∧∀j,j<k→IrbOk N j (N.irbs.getD j IrbV.zero)) (fun i _=>match i with| .int _ y=>(S.ir.n - y).toNat|_=>0)
  case atStart=>exact ⟨0,rfl,by omega,YB.out,fun j hj=>absurd hj (by omega)⟩
  case round=>
  obtain ⟨k,rfl,hk,hb,hall⟩:=hrel;have W:=hid hb;have W0:=hid (B1.out.trans (hb.mono B1.out.size));have AL:=hid hall;clear hb hall;have NBr:=NB.out.below W.out;have nx:=NBr.c7;have nl:=NBr.lt
  by_cases hlt:k<S.ir.n
  rotate_left
  · have lt2:¬(k:Int)<(S.ir.n:Int):=by omega
    clear NBr;go_wp2
    go_meet
    exact ⟨fun i hi=>AL.out i (by omega),W.out⟩
  obtain ⟨b0,o0,vs,e0,_,hb0,hvs,r0⟩:=vAi H_ir.out k hlt IrbV.zero;have hvs:vs=irbC (N.irbs.getD k IrbV.zero):=hvs;subst hvs;have hk2:k<S.ir.n:=hlt
  have ALk:=hid (show IrbOk N k (N.irbs.getD k IrbV.zero)→∀j,j<k+1→IrbOk N j (N.irbs.getD j IrbV.zero) from fun hp j hj=>by
   rcases Nat.lt_or_ge j k with h'|h'
   · exact AL.out j h'
   · obtain rfl:j=k:=by omega
     exact hp)
  obtain ⟨T,hX⟩:∃X,N.irbs.getD k IrbV.zero=X:=⟨_,rfl⟩;have HXX:=hid hX;rw [hX] at r0 ALk;have R1:=vAb r0 (W0.out.block b0 hb0);have d0:=R1 0 _ rfl;have d1:=R1 1 _ rfl;have d2:=R1 2 _ rfl;have d3:=R1 3 _ rfl;have d4:=R1 4 _ rfl;simp only [Nat.add_zero] at d0;rw [show o0+k * irbR.n=o0+k * 5 from rfl] at d0 d1 d2 d3 d4
  have lt2:(k:Int)<(S.ir.n:Int):=by omega
  have KP:=hid (show ∀w4,wr.alloc (.cells #[.int .i64 T.row,.int .i64 T.dom,.int .i64 T.vrf,.int .u32 T.addr,.int .i64 T.bits] 98)=w4→∀wx,Below w4.heap.size w4 wx→(NF wx w.heap.size S)∧(wx.cell? ⟨wr.heap.size,0,none⟩=some (.int .i64 T.row)∧wx.cell? ⟨wr.heap.size,1,none⟩=some (.int .i64 T.dom)∧wx.cell? ⟨wr.heap.size,2,none⟩=some (.int .i64 T.vrf)∧wx.cell? ⟨wr.heap.size,3,none⟩=some (.int .u32 T.addr)∧wx.cell? ⟨wr.heap.size,4,none⟩=some (.int .i64 T.bits))∧Below w.heap.size w wx∧Below w1.heap.size w1 wx from fun w4 e wx hx=>by
   have k0:Below wr.heap.size wr w4:=by rw [←e];exact (Below.refl _ _).alloc (Nat.le_refl _) _
   have k1:Below wr.heap.size wr wx:=k0.trans (hx.mono k0.size);have nb:=(NB.out.below W.out).below k1
   have q:wr.heap.size<w4.heap.size:=by rw [←e];simp
   have pc:w4.cell? ⟨wr.heap.size,0,none⟩=some (.int .i64 T.row)∧w4.cell? ⟨wr.heap.size,1,none⟩=some (.int .i64 T.dom)∧w4.cell? ⟨wr.heap.size,2,none⟩=some (.int .i64 T.vrf)∧w4.cell? ⟨wr.heap.size,3,none⟩=some (.int .u32 T.addr)∧w4.cell? ⟨wr.heap.size,4,none⟩=some (.int .i64 T.bits):=by rw [←e];simp
   obtain ⟨p0,p1,p2,p3,p4⟩:=pc
   exact ⟨⟨nb.c0,nb.c1,nb.c2,nb.c3,nb.c4,nb.c5,nb.c6,nb.c7⟩,⟨(hx.cell (p:=⟨_,0,none⟩) q).trans p0,(hx.cell (p:=⟨_,1,none⟩) q).trans p1,(hx.cell (p:=⟨_,2,none⟩) q).trans p2,(hx.cell (p:=⟨_,3,none⟩) q).trans p3,(hx.cell (p:=⟨_,4,none⟩) q).trans p4⟩,W0.out.trans (k1.mono W0.out.size),W.out.trans (k1.mono W.out.size)⟩)
  rw [e0] at nx;clear r0 R1 NBr hX
  go_upto_region 25 with fail
  obtain ⟨w4,hw4⟩:∃w4,wr.alloc (.cells #[.int .i64 T.row,.int .i64 T.dom,.int .i64 T.vrf,.int .u32 T.addr,.int .i64 T.bits] 98)=w4:=⟨_,rfl⟩;rw [hw4];have KQ:=hid (KP.out w4 hw4);clear hw4 nx nl KP e0 d0 d1 d2 d3 d4;have NOk:=hid (show ¬IrbOk N k T→V=false from fun hn=>NO.out (fun g=>hn (by have:=g.ir k (by rw [LE_ir.out];exact hlt);rwa [HXX.out] at this)));obtain ⟨⟨f0,f1,f2,f3,f4,f5,f6,f7⟩,⟨g0,g1,g2,g3,g4⟩,hB,hC⟩:=KQ.out w4 (Below.refl _ _)
  have X4:=hid hB;have C4:=hid hC;clear hB hC
  have PA:=fun w'=>vBj T.dom (S.dm.n:Int) w'
  have PB:=fun w'=>vBj T.vrf (S.vr.n:Int) w'
  cases ha:plB T.dom (S.dm.n:Int) with
  |false=>
   rw [ha] at PA;have PA:=hid PA;have EV:=hid (NOk.out (fun g=>by have:=g.dom;rw [LE_dm.out,ha] at this;cases this));clear ha PB;go_wp2_with (go_at_call 108;(with_reducible refine (PA.out _).mono ?_);rintro e wp ⟨rfl,hwp⟩;subst hwp);go_ret;exact ⟨by rw [EV.out];rfl,X4.out⟩
  |true=>
  rw [ha] at PA
  cases hb:plB T.vrf (S.vr.n:Int) with
  |false=>
   rw [hb] at PB;have PA:=hid PA;have PB:=hid PB;have EV:=hid (NOk.out (fun g=>by have:=g.vrf;rw [LE_vr.out,hb] at this;cases this));clear ha hb
   go_wp2_with (first
    |(go_at_call 108;(with_reducible refine (PA.out _).mono ?_);rintro e wp ⟨rfl,hwp⟩;subst hwp)
    |(go_at_call 108;(with_reducible refine (PB.out _).mono ?_);rintro e wp ⟨rfl,hwp⟩;subst hwp))
   go_ret;exact ⟨by rw [EV.out];rfl,X4.out⟩
  |true=>
  rw [hb] at PB;obtain ⟨a1,a2⟩:=(vBb _ _).1 ha;obtain ⟨c1,c2⟩:=(vBb _ _).1 hb;obtain ⟨x,hx⟩:=Int.eq_ofNat_of_zero_le a1;obtain ⟨y,hy⟩:=Int.eq_ofNat_of_zero_le c1
  have hxl:x<S.dm.n:=by omega
  have hyl:y<S.vr.n:=by omega
  have AH:=hid (show plB T.dom (N.domains.length:Int)=true by rw [LE_dm.out];exact ha);have BH:=hid (show plB T.vrf (N.vrfs.length:Int)=true by rw [LE_vr.out];exact hb);obtain ⟨bd,od,vd,ed,_,hbd,⟨sd,rfl,ld⟩,rd⟩:=vAi H_dm.out x hxl DomV.zero;obtain ⟨bp,op,vp,ep,_,hbp,⟨sp,tp,rfl,lp,lq⟩,rp⟩:=vAi H_vr.out y hyl VrfV.zero;have RD:=vAb rd (X4.out.block bd hbd);have RP:=vAb rp (X4.out.block bp hbp)
  have GX:=hid (show N.domains.getD T.dom.toNat DomV.zero=N.domains.getD x DomV.zero by rw [hx];rfl);have GY:=hid (show N.vrfs.getD T.vrf.toNat VrfV.zero=N.vrfs.getD y VrfV.zero by rw [hy];rfl);generalize N.domains.getD x DomV.zero=D at *;generalize N.vrfs.getD y VrfV.zero=R at *;have m0:=RD 0 _ rfl;have m3:=RD 3 _ rfl;have q1:=RP 1 _ rfl;simp only [Nat.add_zero] at m0;rw [show od+x * domR.n=od+x * 6 from rfl] at m0 m3
  rw [show op+y * vrfR.n=op+y * 5 from rfl] at q1
  have lx:(x:Int)<(S.dm.n:Int):=by omega
  have ly:(y:Int)<(S.vr.n:Int):=by omega
  rw [ed] at f3;rw [ep] at f6;rw [hx] at g1 PA;rw [hy] at g2 PB;have PA:=hid PA;have PB:=hid PB;clear rd rp RD RP a1 a2 c1 c2 ha hb hx hy ed ep lp lq ld
  by_cases b1:T.bits<1
  · have EV:=hid (NOk.out (fun g=>by have:=g.bits;omega))
    go_wp2_with (first
     |(go_at_call 108;(with_reducible refine (PA.out _).mono ?_);rintro e wp ⟨rfl,hwp⟩;subst hwp)
     |(go_at_call 108;(with_reducible refine (PB.out _).mono ?_);rintro e wp ⟨rfl,hwp⟩;subst hwp))
    go_ret;exact ⟨by rw [EV.out];rfl,X4.out⟩
  by_cases b2:30<T.bits
  · have EV:=hid (NOk.out (fun g=>by have:=g.bits;omega))
    go_wp2_with (first
     |(go_at_call 108;(with_reducible refine (PA.out _).mono ?_);rintro e wp ⟨rfl,hwp⟩;subst hwp)
     |(go_at_call 108;(with_reducible refine (PB.out _).mono ?_);rintro e wp ⟨rfl,hwp⟩;subst hwp))
    go_ret;exact ⟨by rw [EV.out];rfl,X4.out⟩
  by_cases t1:D.dev=R.dev
  rotate_left
  · have z1:(D.dev != R.dev)=true:=by simpa using t1
    have EV:=hid (NOk.out (fun g=>t1 (by have:=g.dev;rwa [GX.out,GY.out] at this)));clear t1
    go_wp2_with (first
     |(go_at_call 108;(with_reducible refine (PA.out _).mono ?_);rintro e wp ⟨rfl,hwp⟩;subst hwp)
     |(go_at_call 108;(with_reducible refine (PB.out _).mono ?_);rintro e wp ⟨rfl,hwp⟩;subst hwp))
    go_quiet (fail)
    go_wp2;go_ret;exact ⟨by rw [EV.out];rfl,vAd X4.out _⟩
  have z1:(D.dev != R.dev)=false:=by simpa using t1
  by_cases t2:D.irb=(k:Int)
  rotate_left
  · have z2:(D.irb != (k:Int))=true:=by simpa using t2
    have EV:=hid (NOk.out (fun g=>t2 (by have:=g.irb;rwa [GX.out] at this)));clear t1 t2
    go_wp2_with (first
     |(go_at_call 108;(with_reducible refine (PA.out _).mono ?_);rintro e wp ⟨rfl,hwp⟩;subst hwp)
     |(go_at_call 108;(with_reducible refine (PB.out _).mono ?_);rintro e wp ⟨rfl,hwp⟩;subst hwp))
    go_quiet (fail)
    go_wp2;go_ret;exact ⟨by rw [EV.out];rfl,vAd X4.out _⟩
  have z2:(D.irb != (k:Int))=false:=by simpa using t2
  have OK:=hid (ALk.out ⟨AH.out,BH.out,⟨by omega,by omega⟩,by rw [GX.out,GY.out];exact t1,by rw [GX.out];exact t2⟩);clear t1 t2
  go_wp2_with (first
   |(go_at_call 108;(with_reducible refine (PA.out _).mono ?_);rintro e wp ⟨rfl,hwp⟩;subst hwp)
   |(go_at_call 108;(with_reducible refine (PB.out _).mono ?_);rintro e wp ⟨rfl,hwp⟩;subst hwp))
  go_quiet (fail)
  go_wp2
  go_roundw
  case rel=>exact ⟨k+1,by simp,by omega,vAd C4.out _,OK.out⟩
  case measure=>simp only [];omega
 case rest=>
 obtain ⟨hall4,hbw⟩:=hcut;have EV:=hid (YES.out ⟨fun i hi=>ALL1.out i (by rw [LE_st.out] at hi;exact hi),fun i hi=>ALL2.out i (by rw [LE_fl.out] at hi;exact hi),fun i hi=>ALL3.out i (by rw [LE_vr.out] at hi;exact hi),fun i hi=>hall4 i (by rw [LE_ir.out] at hi;exact hi)⟩);have XB:=hid (B1.out.trans (hbw.mono B1.out.size));clear hall4 hbw;go_wp2;go_ret;exact ⟨by rw [EV.out];rfl,XB.out⟩
end Go.Proofs.YtgmflecelnefcaaGreat
