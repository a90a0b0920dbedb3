import Derived.Test.YtgmflecelnefcaaGreatOp07
import Derived.Test.YtgmflecelnefcaaGreatOp04
import Derived.Deep.CutBlock
set_option maxRecDepth 100000
set_option maxHeartbeats 40000000
namespace Go.Proofs.YtgmflecelnefcaaGreat
open Go.Lib (hid)
open Go.RowKit
structure DomOk (N:NV) (i:Nat) (D:DomV):Prop where
 dev:plB D.dev (N.devices.length:Int)=true
 vlan:1≤D.vlan∧D.vlan≤4094
 vni:0≤D.vni∧D.vni<16777216
 one:atF N D.dev D.vlan=(i:Int)
 irb:D.irb= -1∨(plB D.irb (N.irbs.length:Int)=true∧(N.irbs.getD D.irb.toNat IrbV.zero).dom=(i:Int))
def vHs (N:NV) (i:Nat) (D:DomV):Prop:=∀j,j<D.peers.length→vGx N i (D.peers.getD j 0)=true∧memB (D.peers.take j) (D.peers.getD j 0)=false
def DomsOk (N:NV):Prop:=(∀i,i<N.domains.length→DomOk N i (N.domains.getD i DomV.zero))∧∀i,i<N.domains.length→vHs N i (N.domains.getD i DomV.zero)
noncomputable def dmsB (N:NV):Bool:=@decide (DomsOk N) (Classical.propDecidable _)
theorem dmsB_no {N:NV} (h:¬DomsOk N):dmsB N=false:=by
 unfold dmsB;exact @decide_eq_false _ (Classical.propDecidable _) h
theorem dmsB_yes {N:NV} (h:DomsOk N):dmsB N=true:=by
 unfold dmsB;exact @decide_eq_true _ (Classical.propDecidable _) h
theorem dmsB_iff (N:NV):dmsB N=true↔DomsOk N:=by
 unfold dmsB;exact @decide_eq_true_iff _ (Classical.propDecidable _)
def dm1B (N:NV) (i:Nat) (D:DomV):Bool:=plB D.dev (N.devices.length:Int) && (decide (1≤D.vlan) && (decide (D.vlan≤4094) && (decide (0≤D.vni) && (decide (D.vni<16777216) && decide (atF N D.dev D.vlan=(i:Int))))))
def dm2B (N:NV) (i:Nat) (D:DomV):Bool:=plB D.irb (N.irbs.length:Int) && decide ((N.irbs.getD D.irb.toNat IrbV.zero).dom=(i:Int))
theorem dm_ok {N:NV} {i:Nat} {D:DomV} (h1:dm1B N i D=true) (h2:D.irb= -1∨dm2B N i D=true):DomOk N i D:=by
 simp only [dm1B,dm2B,Bool.and_eq_true,decide_eq_true_eq] at h1 h2;obtain ⟨a1,a2,a3,a4,a5,a6⟩:=h1;exact ⟨a1,⟨a2,a3⟩,⟨a4,a5⟩,a6,h2⟩
theorem dm_no1 {N:NV} {i:Nat} {D:DomV} (h:dm1B N i D=false):¬DomOk N i D:=fun g=>by
 have e:dm1B N i D=true:=by simp only [dm1B,g.dev,g.one,decide_eq_true g.vlan.1,decide_eq_true g.vlan.2,decide_eq_true g.vni.1,decide_eq_true g.vni.2,decide_true];rfl
 rw [h] at e;cases e
theorem dm_no2 {N:NV} {i:Nat} {D:DomV} (hi:D.irb≠-1) (h:dm2B N i D=false):¬DomOk N i D:=fun g=>by
 rcases g.irb with e|e
 · exact hi e
 · have e2:dm2B N i D=true:=by simp only [dm2B,Bool.and_eq_true,decide_eq_true_eq];exact e
   rw [h] at e2;cases e2
theorem isl_take {w:World} {k:IntKind} {A:Option Addr} {n c j:Nat} {xs:List Int} (h:ISl w k A n c xs) (hj:j≤n):ISl w k A j c (xs.take j):=
 ⟨by rw [List.length_take,h.1];omega,Nat.le_trans hj h.2.1,h.2.2.1,fun hn=>by
   obtain ⟨b,off,e,hl,hc⟩:=h.2.2.2 (by omega);refine ⟨b,off,e,hl,fun i hi=>?_⟩;rw [hc i (by omega)]
   simp [List.getD,hi]⟩
theorem domains_any (N:NV) (S:NSl3) (w:World) (h:NRead w (vAp w) N S):Calls Tryz.prog 45 #[vAm S] w fun e w'=>e=.returned (.bool (dmsB N))∧Below w.heap.size w w':=by
 have H_dm:=hid h.dm;have H_ir:=hid h.ir;have hle:=h.dm.le;have hcap:=h.dm.cap;have hle2:=h.ir.le;have hcap2:=h.ir.cap;have ML:=hid h.dm.len;have IL:=hid h.ir.len;have DL:=hid h.dv.len;have NO:=hid (@dmsB_no N);have YES:=hid (@dmsB_yes N);have UPN:=hid (fun (w':World) (hb:Below w.heap.size w w')=>h.up hb);have NB:=hid (NBox.new w S 31);generalize dmsB N=V at *;clear h
 unfold vAm
 go_enter Tryz.func45,Tryz.ntmps45
 go_upto_block 0 with fail
 obtain ⟨w1,hw1⟩:∃w1,w.alloc (.cells (nA S) 31)=w1:=⟨_,rfl⟩;have B1:=hid (show Below w.heap.size w w1 by rw [←hw1];exact (Below.refl _ _).alloc (Nat.le_refl _) _);rw [hw1] at NB ⊢;clear hw1
 go_cut [] (fun wx=>(∀i,i<S.dm.n→DomOk N i (N.domains.getD i DomV.zero))∧Below w1.heap.size w1 wx)
 case first=>
  go_wp2_with fail
  go_loopw [3] (fun i wr=>∃k:Nat,i=.int .i64 k∧k≤S.dm.n∧Below w1.heap.size w1 wr∧∀j,j<k→DomOk N j (N.domains.getD j DomV.zero)) (fun i _=>match i with| .int _ y=>(S.dm.n - y).toNat|_=>0)
  case atStart=>exact ⟨0,rfl,by omega,Below.refl _ _,fun j hj=>absurd hj (by omega)⟩
  case round=>
  obtain ⟨k,rfl,hk,hb,hall⟩:=hrel;have W:=hid hb;have W0:=hid (B1.out.trans (hb.mono B1.out.size));have AL:=hid hall;clear hb hall;have NBr:=NB.out.below W.out;have nx:=NBr.c3;have nl:=NBr.lt
  by_cases hlt:k<S.dm.n
  rotate_left
  · have lt2:¬(k:Int)<(S.dm.n:Int):=by omega
    clear NBr;go_wp2
    go_meet
    exact ⟨fun i hi=>AL.out i (by omega),W.out⟩
  obtain ⟨b0,o0,vs,e0,_,hb0,⟨s,rfl,l1⟩,r0⟩:=vAi H_dm.out k hlt DomV.zero;have hk2:k<S.dm.n:=hlt
  have ALk:=hid (show DomOk N k (N.domains.getD k DomV.zero)→∀j,j<k+1→DomOk N j (N.domains.getD j DomV.zero) from fun hp j hj=>by
   rcases Nat.lt_or_ge j k with h'|h'
   · exact AL.out j h'
   · obtain rfl:j=k:=by omega
     exact hp)
  obtain ⟨D,hX⟩:∃X,N.domains.getD k DomV.zero=X:=⟨_,rfl⟩;have HXX:=hid hX;rw [hX] at r0 ALk l1;have R1:=vAb r0 (W0.out.block b0 hb0);have d0:=R1 0 _ rfl;have d1:=R1 1 _ rfl;have d2:=R1 2 _ rfl;have d3:=R1 3 _ rfl;have d4:=R1 4 _ rfl;have d5:=R1 5 _ rfl;simp only [Nat.add_zero] at d0;rw [show o0+k * domR.n=o0+k * 6 from rfl] at d0 d1 d2 d3 d4 d5
  have lt2:(k:Int)<(S.dm.n:Int):=by omega
  have KP:=hid (show ∀w4,wr.alloc (.cells #[.int .i64 D.dev,.int .i64 D.vlan,.int .i64 D.vni,.int .i64 D.irb,.int .i64 D.row,.slice s.A s.n s.c] 54)=w4→∀wx,Below w4.heap.size w4 wx→(NF wx w.heap.size S)∧(wx.cell? ⟨wr.heap.size,0,none⟩=some (.int .i64 D.dev)∧wx.cell? ⟨wr.heap.size,1,none⟩=some (.int .i64 D.vlan)∧wx.cell? ⟨wr.heap.size,2,none⟩=some (.int .i64 D.vni)∧wx.cell? ⟨wr.heap.size,3,none⟩=some (.int .i64 D.irb)∧wx.cell? ⟨wr.heap.size,4,none⟩=some (.int .i64 D.row)∧wx.cell? ⟨wr.heap.size,5,none⟩=some (.slice s.A s.n s.c))∧Below w.heap.size w wx∧Below w1.heap.size w1 wx from fun w4 e wx hx=>by
   have k0:Below wr.heap.size wr w4:=by rw [←e];exact (Below.refl _ _).alloc (Nat.le_refl _) _
   have k1:Below wr.heap.size wr wx:=k0.trans (hx.mono k0.size);have nb:=(NB.out.below W.out).below k1
   have q:wr.heap.size<w4.heap.size:=by rw [←e];simp
   have pc:w4.cell? ⟨wr.heap.size,0,none⟩=some (.int .i64 D.dev)∧w4.cell? ⟨wr.heap.size,1,none⟩=some (.int .i64 D.vlan)∧w4.cell? ⟨wr.heap.size,2,none⟩=some (.int .i64 D.vni)∧w4.cell? ⟨wr.heap.size,3,none⟩=some (.int .i64 D.irb)∧w4.cell? ⟨wr.heap.size,4,none⟩=some (.int .i64 D.row)∧w4.cell? ⟨wr.heap.size,5,none⟩=some (.slice s.A s.n s.c):=by rw [←e];simp
   obtain ⟨p0,p1,p2,p3,p4,p5⟩:=pc
   exact ⟨⟨nb.c0,nb.c1,nb.c2,nb.c3,nb.c4,nb.c5,nb.c6,nb.c7⟩,⟨(hx.cell (p:=⟨_,0,none⟩) q).trans p0,(hx.cell (p:=⟨_,1,none⟩) q).trans p1,(hx.cell (p:=⟨_,2,none⟩) q).trans p2,(hx.cell (p:=⟨_,3,none⟩) q).trans p3,(hx.cell (p:=⟨_,4,none⟩) q).trans p4,(hx.cell (p:=⟨_,5,none⟩) q).trans p5⟩,W0.out.trans (k1.mono W0.out.size),W.out.trans (k1.mono W.out.size)⟩)
  rw [e0] at nx;clear r0 R1 NBr hX;have L1:=hid l1;have hsl1:=l1.len;have qa1:=l1.le;have qb1:=l1.cap;clear l1
  go_upto_region 5 with fail
  obtain ⟨w4,hw4⟩:∃w4,wr.alloc (.cells #[.int .i64 D.dev,.int .i64 D.vlan,.int .i64 D.vni,.int .i64 D.irb,.int .i64 D.row,.slice s.A s.n s.c] 54)=w4:=⟨_,rfl⟩;rw [hw4];have KQ:=hid (KP.out w4 hw4);clear hw4 nx nl KP e0 d0 d1 d2 d3 d4 d5;have NOk:=hid (show ¬DomOk N k D→V=false from fun hn=>NO.out (fun g=>hn (by have:=g.1 k (by rw [ML.out];exact hlt);rwa [HXX.out] at this)));obtain ⟨v1,hv1⟩:∃v,plB D.dev (S.dv.n:Int)=v:=⟨_,rfl⟩
  obtain ⟨z,hz⟩:∃z,atF N D.dev D.vlan=z:=⟨_,rfl⟩;have E1:=hid (show dm1B N k D=(v1 && (decide (1≤D.vlan) && (decide (D.vlan≤4094) && (decide (0≤D.vni) && (decide (D.vni<16777216) && decide (z=(k:Int))))))) by rw [dm1B,DL.out,hv1,hz])
  have PD:=fun w'=>vBj D.dev (S.dv.n:Int) w'
  have AT:=fun (w':World) (hb:Below w.heap.size w w')=>rat_any N S D.dev D.vlan w' (UPN.out w' hb)
  unfold vAm at AT;rw [hv1] at PD;rw [hz] at AT;have PD:=hid PD;have AT:=hid AT;clear hv1 hz
  go_cut [56] (fun c wx=>c=.bool (!dm1B N k D)∧Below w4.heap.size w4 wx)
  case first=>
   obtain ⟨⟨f0,f1,f2,f3,f4,f5,f6,f7⟩,⟨g0,g1,g2,g3,g4,g5⟩,hB,hC⟩:=KQ.out w4 (Below.refl _ _);have X4:=hid hB;have Y4:=hid (Below.refl w4.heap.size w4);clear hB hC
   cases v1
   · go_wp2_with (go_at_call 108;(with_reducible refine (PD.out _).mono ?_);rintro e wp ⟨rfl,hwp⟩;subst hwp)
     go_meet
     exact ⟨by rw [E1.out];rfl,Below.refl _ _⟩
   by_cases c1:D.vlan<1
   · go_wp2_with (go_at_call 108;(with_reducible refine (PD.out _).mono ?_);rintro e wp ⟨rfl,hwp⟩;subst hwp)
     go_meet
     exact ⟨by rw [E1.out,decide_eq_false (show ¬1≤D.vlan by omega)];rfl,Below.refl _ _⟩
   by_cases c2:4094<D.vlan
   · go_wp2_with (go_at_call 108;(with_reducible refine (PD.out _).mono ?_);rintro e wp ⟨rfl,hwp⟩;subst hwp)
     go_meet
     exact ⟨by rw [E1.out,decide_eq_false (show ¬D.vlan≤4094 by omega)];simp,Below.refl _ _⟩
   by_cases c3:D.vni<0
   · go_wp2_with (go_at_call 108;(with_reducible refine (PD.out _).mono ?_);rintro e wp ⟨rfl,hwp⟩;subst hwp)
     go_meet
     exact ⟨by rw [E1.out,decide_eq_false (show ¬0≤D.vni by omega)];simp,Below.refl _ _⟩
   by_cases c4:16777216≤D.vni
   · go_wp2_with (go_at_call 108;(with_reducible refine (PD.out _).mono ?_);rintro e wp ⟨rfl,hwp⟩;subst hwp)
     go_meet
     exact ⟨by rw [E1.out,decide_eq_false (show ¬D.vni<16777216 by omega)];simp,Below.refl _ _⟩
   have E2:=hid (show dm1B N k D=decide (z=(k:Int)) by rw [E1.out,decide_eq_true (show 1≤D.vlan by omega),decide_eq_true (show D.vlan≤4094 by omega),decide_eq_true (show 0≤D.vni by omega),decide_eq_true (show D.vni<16777216 by omega)];rfl)
   by_cases c5:z=(k:Int)
   · have y:(z != (k:Int))=false:=by simpa using c5
     have E3:=hid (E2.out.trans (decide_eq_true c5));clear c5
     go_wp2_with (first
      |(go_at_call 108;(with_reducible refine (PD.out _).mono ?_);rintro e wp ⟨rfl,hwp⟩;subst hwp)
      |(go_at_call 37;(with_reducible refine (AT.out _ X4.out).mono ?_);rintro e w6 ⟨rfl,b6⟩;have Y6:=hid (vAa Y4.out b6);clear b6))
     go_meet
     exact ⟨by rw [E3.out];first|rfl|(simp;try omega),Y6.out⟩
   · have y:(z != (k:Int))=true:=by simpa using c5
     have E3:=hid (E2.out.trans (decide_eq_false c5));clear c5
     go_wp2_with (first
      |(go_at_call 108;(with_reducible refine (PD.out _).mono ?_);rintro e wp ⟨rfl,hwp⟩;subst hwp)
      |(go_at_call 37;(with_reducible refine (AT.out _ X4.out).mono ?_);rintro e w6 ⟨rfl,b6⟩;have Y6:=hid (vAa Y4.out b6);clear b6))
     go_meet
     exact ⟨by rw [E3.out];first|rfl|(simp;try omega),Y6.out⟩
  case rest=>
  obtain ⟨rfl,hb5⟩:=hcut;rename World=>w5;have Y5:=hid hb5;clear hb5 E1 PD AT;obtain ⟨⟨f0,f1,f2,f3,f4,f5,f6,f7⟩,⟨g0,g1,g2,g3,g4,g5⟩,hB,hC⟩:=KQ.out w5 Y5.out;have X5:=hid hB;have C5:=hid hC;clear hB hC
  cases hp1:dm1B N k D with
  |false=>
   have EV:=hid (NOk.out (dm_no1 hp1));clear hp1;go_wp2;go_ret;exact ⟨by rw [EV.out];rfl,X5.out⟩
  |true=>
  have HP1:=hid hp1;clear hp1
  by_cases hi1:D.irb= -1
  · have z1:(D.irb != -1)=false:=by simpa using hi1
    have z1b:(D.irb != Int.negSucc 0)=false:=z1;have OK:=hid (ALk.out (dm_ok HP1.out (.inl hi1)));rw [hi1] at g3;clear hi1;go_wp2
    go_roundw
    case rel=>exact ⟨k+1,by simp,by omega,C5.out,OK.out⟩
    case measure=>simp only [];omega
  have z1:(D.irb != -1)=true:=by simpa using hi1
  have z1b:(D.irb != Int.negSucc 0)=true:=z1
  have PI:=fun w'=>vBj D.irb (S.ir.n:Int) w'
  cases hpl:plB D.irb (S.ir.n:Int) with
  |false=>
   rw [hpl] at PI;have PI:=hid PI;have EV:=hid (NOk.out (dm_no2 hi1 (by rw [dm2B,IL.out,hpl];rfl)));clear hi1 hpl;go_wp2_with (go_at_call 108;(with_reducible refine (PI.out _).mono ?_);rintro e wp ⟨rfl,hwp⟩;subst hwp);go_ret;exact ⟨by rw [EV.out];rfl,X5.out⟩
  |true=>
  rw [hpl] at PI;obtain ⟨hl2,hl3⟩:=(vBb _ _).1 hpl;obtain ⟨x,hx⟩:=Int.eq_ofNat_of_zero_le hl2
  have hx3:x<S.ir.n:=by omega
  obtain ⟨b3,o3,vs3,e3,_,hb3,hr3,rg3⟩:=vAi H_ir.out x hx3 IrbV.zero;have hr3:vs3=irbC (N.irbs.getD x IrbV.zero):=hr3;subst hr3;have E3:=hid (show dm2B N k D=decide ((N.irbs.getD x IrbV.zero).dom=(k:Int)) by rw [dm2B,IL.out,hpl,hx];rfl);obtain ⟨I,hI⟩:∃I,N.irbs.getD x IrbV.zero=I:=⟨_,rfl⟩;rw [hI] at rg3 E3;have RQ:=vAb rg3 (X5.out.block b3 hb3);have u1:=RQ 1 _ rfl;rw [show o3+x * irbR.n=o3+x * 5 from rfl] at u1
  have lx:(x:Int)<(S.ir.n:Int):=by omega
  have HNL:=hid hi1;rw [e3] at f7;rw [hx] at g3 z1 z1b PI;have PI:=hid PI;clear rg3 RQ hl2 hl3 hpl hI hx hi1 e3
  by_cases ha:I.dom=(k:Int)
  · have y1:(I.dom != (k:Int))=false:=by simpa using ha
    have OK:=hid (ALk.out (dm_ok HP1.out (.inr (by rw [E3.out,decide_eq_true ha]))));clear ha;go_wp2_with (go_at_call 108;(with_reducible refine (PI.out _).mono ?_);rintro e wp ⟨rfl,hwp⟩;subst hwp)
    go_roundw
    case rel=>exact ⟨k+1,by simp,by omega,C5.out,OK.out⟩
    case measure=>simp only [];omega
  · have y1:(I.dom != (k:Int))=true:=by simpa using ha
    have EV:=hid (NOk.out (dm_no2 HNL.out (by rw [E3.out,decide_eq_false ha])));clear ha;go_wp2_with (go_at_call 108;(with_reducible refine (PI.out _).mono ?_);rintro e wp ⟨rfl,hwp⟩;subst hwp);go_ret;exact ⟨by rw [EV.out];rfl,X5.out⟩
 case rest=>
 obtain ⟨hall1,hbw⟩:=hcut;rename World=>wB;have ALL1:=hid hall1;have YB:=hid hbw;clear hall1 hbw;go_wp2_with fail
 go_loopw [5] (fun i wr=>∃k:Nat,i=.int .i64 k∧k≤S.dm.n∧Below w1.heap.size w1 wr∧∀j,j<k→vHs N j (N.domains.getD j DomV.zero)) (fun i _=>match i with| .int _ y=>(S.dm.n - y).toNat|_=>0)
 case atStart=>exact ⟨0,rfl,by omega,YB.out,fun j hj=>absurd hj (by omega)⟩
 case round=>
 obtain ⟨k,rfl,hk,hb,hall⟩:=hrel;have W:=hid hb;have W0:=hid (B1.out.trans (hb.mono B1.out.size));have AL:=hid hall;clear hb hall;have NBr:=NB.out.below W.out;have nx:=NBr.c3;have nl:=NBr.lt
 by_cases hlt:k<S.dm.n
 rotate_left
 · have lt2:¬(k:Int)<(S.dm.n:Int):=by omega
   clear NBr;go_wp2;have EVT:=YES.out ⟨fun i hi=>ALL1.out i (by rw [ML.out] at hi;exact hi),fun i hi=>AL.out i (by rw [ML.out] at hi;omega)⟩;go_ret;exact ⟨by rw [EVT];rfl,W0.out⟩
 obtain ⟨b0,o0,vs,e0,_,hb0,⟨s,rfl,l1⟩,r0⟩:=vAi H_dm.out k hlt DomV.zero;have hk2:k<S.dm.n:=hlt
 have ALk:=hid (show vHs N k (N.domains.getD k DomV.zero)→∀j,j<k+1→vHs N j (N.domains.getD j DomV.zero) from fun hp j hj=>by
  rcases Nat.lt_or_ge j k with h'|h'
  · exact AL.out j h'
  · obtain rfl:j=k:=by omega
    exact hp)
 obtain ⟨D,hX⟩:∃X,N.domains.getD k DomV.zero=X:=⟨_,rfl⟩;have HXX:=hid hX;rw [hX] at r0 ALk l1;have R1:=vAb r0 (W0.out.block b0 hb0);have d0:=R1 0 _ rfl;have d1:=R1 1 _ rfl;have d2:=R1 2 _ rfl;have d3:=R1 3 _ rfl;have d4:=R1 4 _ rfl;have d5:=R1 5 _ rfl;simp only [Nat.add_zero] at d0;rw [show o0+k * domR.n=o0+k * 6 from rfl] at d0 d1 d2 d3 d4 d5
 have lt2:(k:Int)<(S.dm.n:Int):=by omega
 have KP:=hid (show ∀w4,wr.alloc (.cells #[.int .i64 D.dev,.int .i64 D.vlan,.int .i64 D.vni,.int .i64 D.irb,.int .i64 D.row,.slice s.A s.n s.c] 54)=w4→∀wx,Below w4.heap.size w4 wx→(NF wx w.heap.size S)∧(wx.cell? ⟨wr.heap.size,0,none⟩=some (.int .i64 D.dev)∧wx.cell? ⟨wr.heap.size,1,none⟩=some (.int .i64 D.vlan)∧wx.cell? ⟨wr.heap.size,2,none⟩=some (.int .i64 D.vni)∧wx.cell? ⟨wr.heap.size,3,none⟩=some (.int .i64 D.irb)∧wx.cell? ⟨wr.heap.size,4,none⟩=some (.int .i64 D.row)∧wx.cell? ⟨wr.heap.size,5,none⟩=some (.slice s.A s.n s.c))∧Below w.heap.size w wx∧Below w1.heap.size w1 wx from fun w4 e wx hx=>by
  have k0:Below wr.heap.size wr w4:=by rw [←e];exact (Below.refl _ _).alloc (Nat.le_refl _) _
  have k1:Below wr.heap.size wr wx:=k0.trans (hx.mono k0.size);have nb:=(NB.out.below W.out).below k1
  have q:wr.heap.size<w4.heap.size:=by rw [←e];simp
  have pc:w4.cell? ⟨wr.heap.size,0,none⟩=some (.int .i64 D.dev)∧w4.cell? ⟨wr.heap.size,1,none⟩=some (.int .i64 D.vlan)∧w4.cell? ⟨wr.heap.size,2,none⟩=some (.int .i64 D.vni)∧w4.cell? ⟨wr.heap.size,3,none⟩=some (.int .i64 D.irb)∧w4.cell? ⟨wr.heap.size,4,none⟩=some (.int .i64 D.row)∧w4.cell? ⟨wr.heap.size,5,none⟩=some (.slice s.A s.n s.c):=by rw [←e];simp
  obtain ⟨p0,p1,p2,p3,p4,p5⟩:=pc
  exact ⟨⟨nb.c0,nb.c1,nb.c2,nb.c3,nb.c4,nb.c5,nb.c6,nb.c7⟩,⟨(hx.cell (p:=⟨_,0,none⟩) q).trans p0,(hx.cell (p:=⟨_,1,none⟩) q).trans p1,(hx.cell (p:=⟨_,2,none⟩) q).trans p2,(hx.cell (p:=⟨_,3,none⟩) q).trans p3,(hx.cell (p:=⟨_,4,none⟩) q).trans p4,(hx.cell (p:=⟨_,5,none⟩) q).trans p5⟩,W0.out.trans (k1.mono W0.out.size),W.out.trans (k1.mono W.out.size)⟩)
 rw [e0] at nx;clear r0 R1 NBr hX;have L1:=hid l1;have hsl1:=l1.len;have qa1:=l1.le;have qb1:=l1.cap;clear l1
 go_upto_region 13 with fail
 obtain ⟨w4,hw4⟩:∃w4,wr.alloc (.cells #[.int .i64 D.dev,.int .i64 D.vlan,.int .i64 D.vni,.int .i64 D.irb,.int .i64 D.row,.slice s.A s.n s.c] 54)=w4:=⟨_,rfl⟩;rw [hw4];have KQ:=hid (KP.out w4 hw4);clear hw4 nx nl KP e0 d0 d1 d2 d3 d4 d5;have NOk:=hid (show ¬vHs N k D→V=false from fun hn=>NO.out (fun g=>hn (by have:=g.2 k (by rw [ML.out];exact hlt);rwa [HXX.out] at this)));have DEVS:=hid (show ∀j,j<N.domains.length→plB (N.domains.getD j DomV.zero).dev (N.devices.length:Int)=true from fun j hj=>(ALL1.out j (by rw [ML.out] at hj;exact hj)).dev)
 have HKL:=hid (show k<N.domains.length by rw [ML.out];exact hlt);have HSL:=hid hsl1;clear hsl1;go_wp2_with fail
 go_loopw [7] (fun j wq=>∃m:Nat,j=.int .i64 m∧m≤s.n∧Below w4.heap.size w4 wq∧∀j,j<m→vGx N k (D.peers.getD j 0)=true∧memB (D.peers.take j) (D.peers.getD j 0)=false) (fun j _=>match j with| .int _ y=>(s.n - y).toNat|_=>0)
 case atStart=>exact ⟨0,rfl,by omega,Below.refl _ _,fun j hj=>absurd hj (by omega)⟩
 case round=>
  obtain ⟨m,rfl,hm,hbq,hdq⟩:=hrel;have DQ:=hid hdq;clear hdq;obtain ⟨⟨f0,f1,f2,f3,f4,f5,f6,f7⟩,⟨g0,g1,g2,g3,g4,g5⟩,hB,hC⟩:=KQ.out wr hbq;have XQ:=hid hB;have CQ:=hid hC;have YQ:=hid hbq;clear hB hbq hC
  by_cases hmt:m<s.n
  rotate_left
  · have mt2:¬(m:Int)<(s.n:Int):=by omega
    have OK:=hid (ALk.out (fun j hj=>DQ.out j (by rw [HSL.out] at hj;omega)));go_wp2
    go_roundw
    case rel=>exact ⟨k+1,by simp,by omega,CQ.out,OK.out⟩
    case measure=>simp only [];omega
  have L1q:=L1.out.below (fun _ h=>h) XQ.out;obtain ⟨b2,o2,vs2,e2,hb2_,hb2,hr2,rg2⟩:=vAi L1q m hmt 0;have t0:=rg2 0 (.int .i64 (D.peers.getD m 0)) (by rw [show vs2=[.int .i64 (D.peers.getD m 0)] from hr2];rfl);simp only [Nat.add_zero] at t0;rw [show o2+m * (Rdr.int .i64).n=o2+m from by show o2+m * 1=o2+m;omega] at t0
  have mt2:(m:Int)<(s.n:Int):=by omega
  have mt3:(m:Int)≤(s.c:Int):=by omega
  have mt4:m≤s.c:=by omega
  obtain ⟨y,hy⟩:∃y,D.peers.getD m 0=y:=⟨_,rfl⟩;rw [hy] at t0;have HY:=hid hy;obtain ⟨v1,hv1⟩:∃v,vGx N k y=v:=⟨_,rfl⟩;obtain ⟨v2,hv2⟩:∃v,memB (D.peers.take m) y=v:=⟨_,rfl⟩
  have PE:=fun (w':World) (hb:Below w.heap.size w w')=>peer_any N S k y w' (UPN.out w' hb) HKL.out DEVS.out
  have IN:=fun (w':World) (hb:Below w.heap.size w w')=>rin_any s.A m s.c (D.peers.take m) y w' (isl_take (vAu (L1.out.below (fun _ h=>h) hb)) (Nat.le_of_lt hmt))
  unfold vAm at PE;rw [hv1] at PE;rw [hv2] at IN;have HV1:=hid hv1;have HV2:=hid hv2;have KT:=hid (show ∀wx,Below wr.heap.size wr wx→wx.cell? ⟨b2,o2+m,none⟩=some (.int .i64 y) from fun wx hx=>(hx.cell (p:=⟨b2,_,none⟩) hb2).trans t0);rw [e2] at g5 IN;have PE:=hid PE;have IN:=hid IN;have E2:=hid e2;clear hr2 rg2 hy hv1 hv2 L1q hb2_ e2
  have FIN:=hid (show v1=true→v2=false→∀j,j<m+1→vGx N k (D.peers.getD j 0)=true∧memB (D.peers.take j) (D.peers.getD j 0)=false from fun h1 h2 j hj=>by
   rcases Nat.lt_or_ge j m with h'|h'
   · exact DQ.out j h'
   · obtain rfl:j=m:=by omega
     rw [HY.out,HV1.out,HV2.out]
     exact ⟨h1,h2⟩)
  have BAD:=hid (show (v1=false∨v2=true)→V=false from fun hbad=>NOk.out (fun g=>by
   have:=g m (by rw [HSL.out];exact hmt)
   rw [HY.out,HV1.out,HV2.out] at this
   rcases hbad with e|e
   · rw [e] at this;cases this.1
   · rw [e] at this;cases this.2))
  cases v1<;>cases v2
  all_goals
   go_wp2;refine vAe (fun wx=>Below wr.heap.size wr wx) (by kernel_rfl) (by kernel_rfl) ((Below.refl _ _).drew) ?_
   repeat
    first
     |(refine Seq.pass rfl ?_;simp only [Act.put,List.setIfInBounds_toArray,List.set_cons_zero,List.set_cons_succ])
     |(refine Seq.run ?_ rfl (fun wx hx=>?_) ?_
       rotate_left
       · have hx4:=vAa YQ.out hx
         obtain ⟨⟨f0,f1,f2,f3,f4,f5,f6,f7⟩,⟨g0,g1,g2,g3,g4,g5⟩,hBx,_⟩:=KQ.out wx hx4;have tt:=KT.out wx hx;rw [E2.out] at g5
         go_simp
         first
          |(refine StepRun.val ?_;exact hx)
          |(refine StepRun.call (v:=.bool true) ?_;(with_reducible refine Calls.mono (PE.out _ hBx) ?_);rintro e w' ⟨rfl,hb⟩;exact ⟨rfl,vAa hx hb⟩)
          |(refine StepRun.call (v:=.bool false) ?_;(with_reducible refine Calls.mono (PE.out _ hBx) ?_);rintro e w' ⟨rfl,hb⟩;exact ⟨rfl,vAa hx hb⟩)
          |(refine StepRun.call (v:=.bool true) ?_;(with_reducible refine Calls.mono (IN.out _ hBx) ?_);rintro e w' ⟨rfl,hb⟩;subst hb;exact ⟨rfl,hx⟩)
          |(refine StepRun.call (v:=.bool false) ?_;(with_reducible refine Calls.mono (IN.out _ hBx) ?_);rintro e w' ⟨rfl,hb⟩;subst hb;exact ⟨rfl,hx⟩)
       simp only [Act.put,List.setIfInBounds_toArray,List.set_cons_zero,List.set_cons_succ])
   refine Seq.last (fun w7 h7=>?_);have X7:=hid (vAa XQ.out h7);have Y7:=hid (vAa YQ.out h7);go_wp2
   first
    |(go_ret
      exact ⟨by rw [BAD.out (by simp)];rfl,X7.out⟩)
    |(go_roundw
      case rel=>exact ⟨m+1,by simp,by omega,Y7.out,FIN.out (by simp) (by simp)⟩
      case measure=>simp only [];omega)
end Go.Proofs.YtgmflecelnefcaaGreat
