import Derived.Test.YtgmflecelnefcaaGreatOp07
import Derived.Test.YtgmflecelnefcaaGreatOp04
import Derived.Deep.DeepCutAuto
set_option maxRecDepth 100000
set_option maxHeartbeats 40000000
namespace Go.Proofs.YtgmflecelnefcaaGreat
open Go.Lib (hid)
open Go.RowKit
structure PortOk (N:NV) (i:Nat) (P:PortV):Prop where
 dev:plB P.dev (N.devices.length:Int)=true
 lo:0≤P.native
 hi:P.native≤4094
 tag:rsB P.tagged 4094=true
 out:memB P.tagged P.native=false
 one:¬(P.native=0∧P.tagged=[])
 dom:0<P.native→0≤atF N P.dev P.native
 doms:∀j,j<P.tagged.length→0≤atF N P.dev (P.tagged.getD j 0)
 link:P.link= -1∨(plB P.link (N.links.length:Int)=true∧((N.links.getD P.link.toNat LinkV.zero).a=(i:Int)∨(N.links.getD P.link.toNat LinkV.zero).b=(i:Int)))
noncomputable def ptsB (N:NV):Bool:=@decide (∀i,i<N.ports.length→PortOk N i (N.ports.getD i PortV.zero)) (Classical.propDecidable _)
theorem ptsB_no {N:NV} {i:Nat} (h:i<N.ports.length) (hn:¬PortOk N i (N.ports.getD i PortV.zero)):ptsB N=false:=by
 unfold ptsB;exact @decide_eq_false _ (Classical.propDecidable _) (fun g=>hn (g i h))
theorem ptsB_yes {N:NV} (h:∀i,i<N.ports.length→PortOk N i (N.ports.getD i PortV.zero)):ptsB N=true:=by
 unfold ptsB;exact @decide_eq_true _ (Classical.propDecidable _) h
theorem ptsB_iff (N:NV):ptsB N=true↔∀i,i<N.ports.length→PortOk N i (N.ports.getD i PortV.zero):=by
 unfold ptsB;exact @decide_eq_true_iff _ (Classical.propDecidable _)
theorem vCr {w w':World} (h:Drew w w'):Below w.heap.size w w':=by
 obtain ⟨m,rfl⟩:=h;exact vAd (Below.refl _ _) m
def pt1B (N:NV) (P:PortV):Bool:=plB P.dev (N.devices.length:Int) && (decide (0≤P.native) && (decide (P.native≤4094) && (rsB P.tagged 4094 && !memB P.tagged P.native)))
def pt2B (N:NV) (P:PortV):Bool:=!(decide (P.native=0) && decide (P.tagged=[])) && !(decide (0<P.native) && decide (atF N P.dev P.native<0))
def pt3B (N:NV) (i:Nat) (P:PortV):Bool:=plB P.link (N.links.length:Int) && (decide ((N.links.getD P.link.toNat LinkV.zero).a=(i:Int)) || decide ((N.links.getD P.link.toNat LinkV.zero).b=(i:Int)))
theorem pt_ok {N:NV} {i:Nat} {P:PortV} (h1:pt1B N P=true) (h2:pt2B N P=true) (hd:∀j,j<P.tagged.length→0≤atF N P.dev (P.tagged.getD j 0)) (h3:P.link= -1∨pt3B N i P=true):PortOk N i P:=by
 simp only [pt1B,pt2B,pt3B,Bool.and_eq_true,Bool.or_eq_true,decide_eq_true_eq,Bool.not_eq_true',Bool.and_eq_false_iff,decide_eq_false_iff_not] at h1 h2 h3;obtain ⟨a1,a2,a3,a4,a5⟩:=h1;obtain ⟨b1,b2⟩:=h2;exact ⟨a1,a2,a3,a4,a5,fun g=>by rcases b1 with b|b;exact b g.1;exact b g.2,fun g=>by rcases b2 with b|b;exact absurd g b;omega,hd,h3⟩
theorem pt_no1 {N:NV} {i:Nat} {P:PortV} (h:pt1B N P=false):¬PortOk N i P:=fun g=>by
 have e:pt1B N P=true:=by simp only [pt1B,g.dev,g.tag,g.out,decide_eq_true g.lo,decide_eq_true g.hi];rfl
 rw [h] at e;cases e
theorem pt_no2 {N:NV} {i:Nat} {P:PortV} (h:pt2B N P=false):¬PortOk N i P:=fun g=>by
 have e:pt2B N P=true:=by
  simp only [pt2B,Bool.and_eq_true,Bool.not_eq_true',Bool.and_eq_false_iff,decide_eq_false_iff_not];refine ⟨?_,?_⟩
  · by_cases e:P.native=0
    · exact .inr fun e2=>g.one ⟨e,e2⟩
    · exact .inl e
  · by_cases e:0<P.native
    · right;have:=g.dom e;omega
    · exact .inl e
 rw [h] at e;cases e
theorem pt_no3 {N:NV} {i:Nat} {P:PortV} (hl:P.link≠-1) (h:pt3B N i P=false):¬PortOk N i P:=fun g=>by
 rcases g.link with e|e
 · exact hl e
 · have e2:pt3B N i P=true:=by simp only [pt3B,Bool.and_eq_true,Bool.or_eq_true,decide_eq_true_eq];exact e
   rw [h] at e2;cases e2
theorem ports_any (N:NV) (S:NSl3) (w:World) (h:NRead w (vAp w) N S):Calls Tryz.prog 46 #[vAm S] w fun e w'=>e=.returned (.bool (ptsB N))∧Below w.heap.size w w':=by
 have H:=hid h.pt;have HK:=hid h.lk;have hle:=h.pt.le;have hcap:=h.pt.cap;have hle2:=h.lk.le;have hcap2:=h.lk.cap;have HL:=hid h.pt.len;have LL:=hid h.lk.len;have DL:=hid h.dv.len;have NO:=hid (fun i=>@ptsB_no N i);have YES:=hid (@ptsB_yes N);have UPN:=hid (fun (w':World) (hb:Below w.heap.size w w')=>h.up hb);have NB:=hid (NBox.new w S 31);generalize ptsB N=V at *
 clear h;unfold vAm
 go_enter Tryz.func46,Tryz.ntmps46
 go_wp2;obtain ⟨w1,hw1⟩:∃w1,w.alloc (.cells (nA S) 31)=w1:=⟨_,rfl⟩;have B1:=hid (show Below w.heap.size w w1 by rw [←hw1];exact (Below.refl _ _).alloc (Nat.le_refl _) _);rw [hw1] at NB ⊢;clear hw1
 go_loopw [3] (fun i wr=>∃k:Nat,i=.int .i64 k∧k≤S.pt.n∧Below w1.heap.size w1 wr∧∀j,j<k→PortOk N j (N.ports.getD j PortV.zero)) (fun i _=>match i with| .int _ y=>(S.pt.n - y).toNat|_=>0)
 case atStart=>exact ⟨0,rfl,by omega,Below.refl _ _,fun j hj=>absurd hj (by omega)⟩
 case round=>
  obtain ⟨k,rfl,hk,hb,hall⟩:=hrel;have W:=hid hb;have W0:=hid (B1.out.trans (hb.mono B1.out.size));have AL:=hid hall;clear hb hall;have NBr:=NB.out.below W.out;have n0:=NBr.c0;have n1:=NBr.c1;have n2:=NBr.c2;have nl:=NBr.lt
  by_cases hlt:k<S.pt.n
  rotate_left
  · have lt2:¬(k:Int)<(S.pt.n:Int):=by omega
    have EV:=hid (show V=true from YES.out (fun i hi=>AL.out i (by rw [HL.out] at hi;omega)));clear NBr;go_wp2;go_ret;exact ⟨by rw [EV.out];rfl,W0.out⟩
  obtain ⟨b0,o0,vs,e0,_,hb0,⟨s,rfl,l1⟩,r0⟩:=vAi H.out k hlt PortV.zero
  have hk2:k<N.ports.length:=by rw [HL.out];exact hlt
  have NOk:=hid (fun hn=>NO.out k hk2 hn)
  have ALk:=hid (show PortOk N k (N.ports.getD k PortV.zero)→∀j,j<k+1→PortOk N j (N.ports.getD j PortV.zero) from fun hp j hj=>by
   rcases Nat.lt_or_ge j k with h'|h'
   · exact AL.out j h'
   · obtain rfl:j=k:=by omega
     exact hp)
  obtain ⟨P,hP⟩:∃P,N.ports.getD k PortV.zero=P:=⟨_,rfl⟩;rw [hP] at NOk l1 r0 ALk;have R1:=vAb r0 (W0.out.block b0 hb0);have d0:=R1 0 _ rfl;have d1:=R1 1 _ rfl;have d2:=R1 2 _ rfl;have d3:=R1 3 _ rfl;have d4:=R1 4 _ rfl;have d5:=R1 5 _ rfl;have d6:=R1 6 _ rfl;simp only [Nat.add_zero] at d0;rw [show o0+k * portR.n=o0+k * 7 from rfl] at d0 d1 d2 d3 d4 d5 d6
  have lt2:(k:Int)<(S.pt.n:Int):=by omega
  have KP:=hid (show ∀w4,wr.alloc (.cells #[.int .i64 P.row,.int .i64 P.dev,.int .i64 P.native,.int .i64 P.cost,.int .i64 P.link,.string (str P.name),.slice s.A s.n s.c] 68)=w4→∀wx,Below w4.heap.size w4 wx→(NF wx w.heap.size S)∧(wx.cell? ⟨wr.heap.size,0,none⟩=some (.int .i64 P.row)∧wx.cell? ⟨wr.heap.size,1,none⟩=some (.int .i64 P.dev)∧wx.cell? ⟨wr.heap.size,2,none⟩=some (.int .i64 P.native)∧wx.cell? ⟨wr.heap.size,3,none⟩=some (.int .i64 P.cost)∧wx.cell? ⟨wr.heap.size,4,none⟩=some (.int .i64 P.link)∧wx.cell? ⟨wr.heap.size,5,none⟩=some (.string (str P.name))∧wx.cell? ⟨wr.heap.size,6,none⟩=some (.slice s.A s.n s.c))∧Below w.heap.size w wx∧Below w1.heap.size w1 wx from fun w4 e wx hx=>by
   have k0:Below wr.heap.size wr w4:=by rw [←e];exact (Below.refl _ _).alloc (Nat.le_refl _) _
   have k1:Below wr.heap.size wr wx:=k0.trans (hx.mono k0.size);have nb:=(NB.out.below W.out).below k1
   have q:wr.heap.size<w4.heap.size:=by rw [←e];simp
   have pc:w4.cell? ⟨wr.heap.size,0,none⟩=some (.int .i64 P.row)∧w4.cell? ⟨wr.heap.size,1,none⟩=some (.int .i64 P.dev)∧w4.cell? ⟨wr.heap.size,2,none⟩=some (.int .i64 P.native)∧w4.cell? ⟨wr.heap.size,3,none⟩=some (.int .i64 P.cost)∧w4.cell? ⟨wr.heap.size,4,none⟩=some (.int .i64 P.link)∧w4.cell? ⟨wr.heap.size,5,none⟩=some (.string (str P.name))∧w4.cell? ⟨wr.heap.size,6,none⟩=some (.slice s.A s.n s.c):=by rw [←e];simp
   obtain ⟨p0,p1,p2,p3,p4,p5,p6⟩:=pc
   exact ⟨⟨nb.c0,nb.c1,nb.c2,nb.c3,nb.c4,nb.c5,nb.c6,nb.c7⟩,⟨(hx.cell (p:=⟨_,0,none⟩) q).trans p0,(hx.cell (p:=⟨_,1,none⟩) q).trans p1,(hx.cell (p:=⟨_,2,none⟩) q).trans p2,(hx.cell (p:=⟨_,3,none⟩) q).trans p3,(hx.cell (p:=⟨_,4,none⟩) q).trans p4,(hx.cell (p:=⟨_,5,none⟩) q).trans p5,(hx.cell (p:=⟨_,6,none⟩) q).trans p6⟩,W0.out.trans (k1.mono W0.out.size),W.out.trans (k1.mono W.out.size)⟩)
  rw [e0] at n1;clear r0 R1 hk2 NBr hP;have hsl:=l1.len;have q1:=l1.le;have q2:=l1.cap;have L1:=hid l1;clear l1
  go_upto_region 5 with fail
  obtain ⟨w4,hw4⟩:∃w4,wr.alloc (.cells #[.int .i64 P.row,.int .i64 P.dev,.int .i64 P.native,.int .i64 P.cost,.int .i64 P.link,.string (str P.name),.slice s.A s.n s.c] 68)=w4:=⟨_,rfl⟩;rw [hw4];have KQ:=hid (KP.out w4 hw4);have E0:=hid e0;clear hw4 n0 n1 n2 d0 d1 d2 d3 d4 d5 d6 nl KP e0;obtain ⟨v1,hv1⟩:∃v,plB P.dev (S.dv.n:Int)=v:=⟨_,rfl⟩;obtain ⟨v2,hv2⟩:∃v,rsB P.tagged 4094=v:=⟨_,rfl⟩;obtain ⟨v3,hv3⟩:∃v,memB P.tagged P.native=v:=⟨_,rfl⟩
  have E1:=hid (show pt1B N P=(v1 && (decide (0≤P.native) && (decide (P.native≤4094) && (v2 && !v3)))) by rw [pt1B,DL.out,hv1,hv2,hv3])
  have PD:=fun w'=>vBj P.dev (S.dv.n:Int) w'
  have RI:=fun (w':World) (hb:Below w.heap.size w w')=>vGh s.A s.n s.c P.tagged 4094 w' (vAu (L1.out.below (fun _ h=>h) hb))
  have IN:=fun (w':World) (hb:Below w.heap.size w w')=>rin_any s.A s.n s.c P.tagged P.native w' (vAu (L1.out.below (fun _ h=>h) hb))
  rw [hv1] at PD;rw [hv2] at RI;rw [hv3] at IN;have PD:=hid PD;have RI:=hid RI;have IN:=hid IN;clear hv1 hv2 hv3
  go_cut [47] (fun c wx=>c=.bool (!pt1B N P)∧Below w4.heap.size w4 wx)
  case first=>
   obtain ⟨⟨f0,f1,f2,f3,f4,f5,f6,f7⟩,⟨g0,g1,g2,g3,g4,g5,g6⟩,hB,hB1⟩:=KQ.out w4 (Below.refl _ _);have X4:=hid hB;clear hB hB1
   cases v1
   · go_wp2_with (go_at_call 108;(with_reducible refine (PD.out _).mono ?_);rintro e wp ⟨rfl,hwp⟩;subst hwp)
     go_meet
     exact ⟨by rw [E1.out];rfl,Below.refl _ _⟩
   by_cases hlo:P.native<0
   · go_wp2_with (go_at_call 108;(with_reducible refine (PD.out _).mono ?_);rintro e wp ⟨rfl,hwp⟩;subst hwp)
     go_meet
     exact ⟨by rw [E1.out,decide_eq_false (show ¬0≤P.native by omega)];rfl,Below.refl _ _⟩
   by_cases hhi:4094<P.native
   · go_wp2_with (go_at_call 108;(with_reducible refine (PD.out _).mono ?_);rintro e wp ⟨rfl,hwp⟩;subst hwp)
     go_meet
     exact ⟨by rw [E1.out,decide_eq_false (show ¬P.native≤4094 by omega),Bool.false_and,Bool.and_false];rfl,Below.refl _ _⟩
   have E2:=hid (show pt1B N P=(v2 && !v3) by rw [E1.out,decide_eq_true (show 0≤P.native by omega),decide_eq_true (show P.native≤4094 by omega)];rfl)
   cases v2
   · go_wp2_with (first
      |(go_at_call 108;(with_reducible refine (PD.out _).mono ?_);rintro e wp ⟨rfl,hwp⟩;subst hwp)
      |(go_at_call 111;(with_reducible refine (RI.out _ X4.out).mono ?_);rintro e w5 ⟨rfl,d5_⟩;have b5:=vCr d5_;clear d5_;obtain ⟨⟨f0,f1,f2,f3,f4,f5,f6,f7⟩,⟨g0,g1,g2,g3,g4,g5,g6⟩,hB5,hC5⟩:=KQ.out w5 b5;have X5:=hid hB5;clear hB5 hC5;have Y5:=hid b5;clear b5))
     go_meet
     exact ⟨by rw [E2.out];first|rfl|(simp;try omega),Y5.out⟩
   cases v3
   all_goals
    go_wp2_with (first
     |(go_at_call 108;(with_reducible refine (PD.out _).mono ?_);rintro e wp ⟨rfl,hwp⟩;subst hwp)
     |(go_at_call 111;(with_reducible refine (RI.out _ X4.out).mono ?_);rintro e w5 ⟨rfl,d5_⟩;have b5:=vCr d5_;clear d5_;obtain ⟨⟨f0,f1,f2,f3,f4,f5,f6,f7⟩,⟨g0,g1,g2,g3,g4,g5,g6⟩,hB5,hC5⟩:=KQ.out w5 b5;have X5:=hid hB5;clear hB5 hC5;have Y5:=hid b5;clear b5)
     |(go_at_call 110;(with_reducible refine (IN.out _ X5.out).mono ?_);rintro e wi ⟨rfl,hwi⟩;subst hwi))
    go_meet
    exact ⟨by rw [E2.out];first|rfl|(simp;try omega),Y5.out⟩
  case rest=>
  obtain ⟨rfl,hb5⟩:=hcut;rename World=>w5;have Y5:=hid hb5;clear hb5 E1 PD RI IN
  cases hp1:pt1B N P with
  |false=>
   have EV:=hid (NOk.out (pt_no1 hp1));have X5:=hid (KQ.out w5 Y5.out).2.2.1;clear hp1;go_wp2;go_ret;exact ⟨by rw [EV.out];rfl,X5.out⟩
  |true=>
  have HP1:=hid hp1
  have hlo:0≤P.native:=by
   simp only [pt1B,Bool.and_eq_true,decide_eq_true_eq] at hp1;exact hp1.2.1
  clear hp1
  go_upto_region 7 with fail
  go_cut [70] (fun c wx=>c=.bool (!pt2B N P)∧Below w4.heap.size w4 wx)
  case first=>
   obtain ⟨⟨f0,f1,f2,f3,f4,f5,f6,f7⟩,⟨g0,g1,g2,g3,g4,g5,g6⟩,hB,hB1⟩:=KQ.out w5 Y5.out;have X5:=hid hB;clear hB hB1
   by_cases hn0:P.native=0
   · have z1:(P.native == 0)=true:=by simpa using hn0
     by_cases hs0:s.n=0
     · have z2:((s.n:Int) == 0)=true:=by simp;omega
       have E:=hid (show pt2B N P=false by rw [pt2B,decide_eq_true hn0,decide_eq_true (List.eq_nil_of_length_eq_zero (by omega))];rfl);clear hn0 hs0;go_wp2
       go_meet
       exact ⟨by rw [E.out];rfl,Y5.out⟩
     · have z2:((s.n:Int) == 0)=false:=by simp;omega
       have z3:¬(0:Int)<P.native:=by omega
       have E:=hid (show pt2B N P=true by rw [pt2B,decide_eq_false (show ¬P.tagged=[] from fun g=>by rw [g] at hsl;exact hs0 hsl.symm),decide_eq_false z3];simp);clear hn0 hs0;go_wp2
       go_meet
       exact ⟨by rw [E.out];rfl,Y5.out⟩
   · have z1:(P.native == 0)=false:=by simpa using hn0
     have z3:(0:Int)<P.native:=by omega
     obtain ⟨z,hz⟩:∃z,atF N P.dev P.native=z:=⟨_,rfl⟩;have E:=hid (show pt2B N P=!decide (z<0) by rw [pt2B,decide_eq_false hn0,decide_eq_true z3,hz];rfl)
     have AT:=fun (w':World) (hb:Below w.heap.size w w')=>rat_any N S P.dev P.native w' (UPN.out w' hb)
     unfold vAm at AT;rw [hz] at AT;have AT:=hid AT;clear hz hn0
     by_cases hneg:z<0
     · go_wp2_with (go_at_call 37;(with_reducible refine (AT.out _ X5.out).mono ?_);rintro e w6 ⟨rfl,b6⟩;have Y6:=hid (vAa Y5.out b6);clear b6)
       go_meet
       exact ⟨by rw [E.out];simp;try omega,Y6.out⟩
     · go_wp2_with (go_at_call 37;(with_reducible refine (AT.out _ X5.out).mono ?_);rintro e w6 ⟨rfl,b6⟩;have Y6:=hid (vAa Y5.out b6);clear b6)
       go_meet
       exact ⟨by rw [E.out];simp;try omega,Y6.out⟩
  case rest=>
  obtain ⟨rfl,hb6⟩:=hcut;rename World=>w6;have Y6:=hid hb6;clear hb6 Y5
  cases hp2:pt2B N P with
  |false=>
   have EV:=hid (NOk.out (pt_no2 hp2));have X6:=hid (KQ.out w6 Y6.out).2.2.1;clear hp2;go_wp2;go_ret;exact ⟨by rw [EV.out];rfl,X6.out⟩
  |true=>
  have HP2:=hid hp2;clear hp2 hlo;have HSL:=hid hsl;clear hsl;go_wp2
  go_loopw [5] (fun j wq=>∃m:Nat,j=.int .i64 m∧m≤s.n∧Below w4.heap.size w4 wq∧∀j,j<m→0≤atF N P.dev (P.tagged.getD j 0)) (fun j _=>match j with| .int _ y=>(s.n - y).toNat|_=>0)
  case atStart=>exact ⟨0,rfl,by omega,Y6.out,fun j hj=>absurd hj (by omega)⟩
  case round=>
   obtain ⟨m,rfl,hm,hbq,hdq⟩:=hrel;have DQ:=hid hdq;clear hdq;obtain ⟨⟨f0,f1,f2,f3,f4,f5,f6,f7⟩,⟨g0,g1,g2,g3,g4,g5,g6⟩,hBq,hCq⟩:=KQ.out wr hbq;have XQ:=hid hBq;have CQ:=hid hCq;have YQ:=hid hbq;clear hBq hbq hCq
   by_cases hmt:m<s.n
   · have L1q:=L1.out.below (fun _ h=>h) XQ.out
     obtain ⟨b2,o2,vs2,e2,hb2_,hb2,hr2,rg2⟩:=vAi L1q m hmt 0;have t0:=rg2 0 (.int .i64 (P.tagged.getD m 0)) (by rw [show vs2=[.int .i64 (P.tagged.getD m 0)] from hr2];rfl);simp only [Nat.add_zero] at t0;rw [show o2+m * (Rdr.int .i64).n=o2+m from by show o2+m * 1=o2+m;omega] at t0
     have mt2:(m:Int)<(s.n:Int):=by omega
     have hm2:m<P.tagged.length:=by rw [HSL.out];exact hmt
     obtain ⟨y,hy⟩:∃y,P.tagged.getD m 0=y:=⟨_,rfl⟩;rw [hy] at t0;have HY:=hid hy
     have A2:=fun (w':World) (hb:Below w.heap.size w w')=>rat_any N S P.dev y w' (UPN.out w' hb)
     unfold vAm at A2;obtain ⟨z,hz2⟩:∃z,atF N P.dev y=z:=⟨_,rfl⟩;rw [hz2] at A2;have HZ:=hid hz2;have A2:=hid A2;have KT:=hid (show ∀wx,Below wr.heap.size wr wx→wx.cell? ⟨b2,o2+m,none⟩=some (.int .i64 y) from fun wx hx=>(hx.cell (p:=⟨b2,_,none⟩) hb2).trans t0);rw [e2] at g6;clear hr2 rg2 hm2 hy hz2 L1q hb2_;go_wp2;refine vAe (fun wx=>Below wr.heap.size wr wx) (by kernel_rfl) (by kernel_rfl) ((Below.refl _ _).drew) ?_
     repeat
      first
       |(refine Seq.pass rfl ?_;simp only [Act.put,List.setIfInBounds_toArray,List.set_cons_zero,List.set_cons_succ])
       |(refine Seq.run ?_ rfl (fun wx hx=>?_) ?_
         rotate_left
         · have hx4:=vAa YQ.out hx
           obtain ⟨⟨f0,f1,f2,f3,f4,f5,f6,f7⟩,⟨g0,g1,g2,g3,g4,g5,g6⟩,hBx,_⟩:=KQ.out wx hx4;have tt:=KT.out wx hx;rw [e2] at g6
           go_simp
           first
            |(refine StepRun.val ?_;exact hx)
            |(refine StepRun.call (v:=.int .i64 z) ?_;(with_reducible refine Calls.mono (A2.out _ hBx) ?_);rintro e w' ⟨rfl,hb⟩;exact ⟨rfl,vAa hx hb⟩)
         simp only [Act.put,List.setIfInBounds_toArray,List.set_cons_zero,List.set_cons_succ])
     refine Seq.last (fun w7 h7=>?_);have X7:=hid (vAa XQ.out h7);have Y7:=hid (vAa YQ.out h7)
     by_cases hneg:z<0
     · have EV:=hid (NOk.out (fun g=>by have:=g.doms m (by rw [HSL.out];exact hmt);rw [HY.out,HZ.out] at this;omega))
       go_wp2;go_ret;exact ⟨by rw [EV.out];rfl,X7.out⟩
     · have DN:=hid (show ∀j,j<m+1→0≤atF N P.dev (P.tagged.getD j 0) from fun j hj=>by
        rcases Nat.lt_or_ge j m with h'|h'
        · exact DQ.out j h'
        · obtain rfl:j=m:=by omega
          rw [HY.out,HZ.out];omega)
       go_wp2
       go_roundw
       case rel=>exact ⟨m+1,by simp,by omega,Y7.out,DN.out⟩
       case measure=>simp only [];omega
   · have mt2:¬(m:Int)<(s.n:Int):=by omega
     have DALL:=hid (show ∀j,j<P.tagged.length→0≤atF N P.dev (P.tagged.getD j 0) from fun j hj=>DQ.out j (by rw [HSL.out] at hj;omega))
     by_cases hl1:P.link= -1
     · have z1:(P.link == -1)=true:=by simpa using hl1
       have OK:=hid (ALk.out (pt_ok HP1.out HP2.out DALL.out (.inl hl1)));rw [hl1] at g4;clear hl1 z1;go_wp2
       go_roundw
       case rel=>exact ⟨k+1,by simp,by omega,CQ.out,OK.out⟩
       case measure=>simp only [];omega
     have z1:(P.link == -1)=false:=by simpa using hl1
     have z1b:(P.link == Int.negSucc 0)=false:=z1
     have PL:=fun w'=>vBj P.link (S.lk.n:Int) w'
     cases hpl:plB P.link (S.lk.n:Int) with
     |false=>
      rw [hpl] at PL;have PL:=hid PL;have EV:=hid (NOk.out (pt_no3 hl1 (by rw [pt3B,LL.out,hpl];rfl)));clear hl1 hpl;go_wp2_with (go_at_call 108;(with_reducible refine (PL.out _).mono ?_);rintro e wp ⟨rfl,hwp⟩;subst hwp);go_ret;exact ⟨by rw [EV.out];rfl,XQ.out⟩
     |true=>
      rw [hpl] at PL;have PL:=hid PL;obtain ⟨hl2,hl3⟩:=(vBb _ _).1 hpl;obtain ⟨x,hx⟩:=Int.eq_ofNat_of_zero_le hl2
      have hx3:x<S.lk.n:=by omega
      obtain ⟨b3,o3,vs3,e3,_,hb3,hr3,rg3⟩:=vAi HK.out x hx3 LinkV.zero;have hr3:vs3=vHl (N.links.getD x LinkV.zero):=hr3;subst hr3;have E3:=hid (show pt3B N k P=(decide ((N.links.getD x LinkV.zero).a=(k:Int)) || decide ((N.links.getD x LinkV.zero).b=(k:Int))) by rw [pt3B,LL.out,hpl,hx];rfl);obtain ⟨L,hL⟩:∃L,N.links.getD x LinkV.zero=L:=⟨_,rfl⟩;rw [hL] at rg3 E3;have RQ:=vAb rg3 (XQ.out.block b3 hb3)
      have u1:=RQ 1 _ rfl;have u2:=RQ 2 _ rfl;rw [show o3+x * linkR.n=o3+x * 3 from rfl] at u1 u2
      have lx:(x:Int)<(S.lk.n:Int):=by omega
      have HNL:=hid hl1;rw [e3] at f2;clear e3;rw [hx] at g4 z1 z1b;have PL:=PL.out;rw [hx] at PL;have PL:=hid PL;clear rg3 RQ hl2 hl3 hpl hL hx hl1
      by_cases ha:L.a=(k:Int)
      · have y1:(L.a != (k:Int))=false:=by simpa using ha
        have OK:=hid (ALk.out (pt_ok HP1.out HP2.out DALL.out (.inr (by rw [E3.out,decide_eq_true ha];rfl))));go_wp2_with (go_at_call 108;(with_reducible refine (PL.out _).mono ?_);rintro e wp ⟨rfl,hwp⟩;subst hwp)
        go_roundw
        case rel=>exact ⟨k+1,by simp,by omega,CQ.out,OK.out⟩
        case measure=>simp only [];omega
      have y1:(L.a != (k:Int))=true:=by simpa using ha
      by_cases hbb:L.b=(k:Int)
      · have y2:(L.b != (k:Int))=false:=by simpa using hbb
        have OK:=hid (ALk.out (pt_ok HP1.out HP2.out DALL.out (.inr (by rw [E3.out,decide_eq_true hbb,Bool.or_true]))));go_wp2_with (go_at_call 108;(with_reducible refine (PL.out _).mono ?_);rintro e wp ⟨rfl,hwp⟩;subst hwp)
        go_roundw
        case rel=>exact ⟨k+1,by simp,by omega,CQ.out,OK.out⟩
        case measure=>simp only [];omega
      have y2:(L.b != (k:Int))=true:=by simpa using hbb
      have EV:=hid (NOk.out (pt_no3 HNL.out (by rw [E3.out,decide_eq_false ha,decide_eq_false hbb];rfl)));clear ha hbb;go_wp2_with (go_at_call 108;(with_reducible refine (PL.out _).mono ?_);rintro e wp ⟨rfl,hwp⟩;subst hwp);go_ret;exact ⟨by rw [EV.out];rfl,XQ.out⟩
structure LinkOk (N:NV) (i:Nat) (L:LinkV):Prop where
 a:plB L.a (N.ports.length:Int)=true
 b:plB L.b (N.ports.length:Int)=true
 dev:(N.ports.getD L.a.toNat PortV.zero).dev≠(N.ports.getD L.b.toNat PortV.zero).dev
 la:(N.ports.getD L.a.toNat PortV.zero).link=(i:Int)
 lb:(N.ports.getD L.b.toNat PortV.zero).link=(i:Int)
noncomputable def lksB (N:NV):Bool:=@decide (∀i,i<N.links.length→LinkOk N i (N.links.getD i LinkV.zero)) (Classical.propDecidable _)
theorem lksB_no {N:NV} {i:Nat} (h:i<N.links.length) (hn:¬LinkOk N i (N.links.getD i LinkV.zero)):lksB N=false:=by
 unfold lksB;exact @decide_eq_false _ (Classical.propDecidable _) (fun g=>hn (g i h))
theorem lksB_yes {N:NV} (h:∀i,i<N.links.length→LinkOk N i (N.links.getD i LinkV.zero)):lksB N=true:=by
 unfold lksB;exact @decide_eq_true _ (Classical.propDecidable _) h
theorem lksB_iff (N:NV):lksB N=true↔∀i,i<N.links.length→LinkOk N i (N.links.getD i LinkV.zero):=by
 unfold lksB;exact @decide_eq_true_iff _ (Classical.propDecidable _)
theorem links_any (N:NV) (S:NSl3) (w:World) (h:NRead w (vAp w) N S):Calls Tryz.prog 47 #[vAm S] w fun e w'=>e=.returned (.bool (lksB N))∧Below w.heap.size w w':=by
 have H:=hid h.lk;have HP:=hid h.pt;have hle:=h.lk.le;have hcap:=h.lk.cap;have hle2:=h.pt.le;have hcap2:=h.pt.cap;have HL:=hid h.lk.len;have PL:=hid h.pt.len;have NO:=hid (fun i=>@lksB_no N i);have YES:=hid (@lksB_yes N);have NB:=hid (NBox.new w S 31);generalize lksB N=V at *;clear h;unfold vAm
 go_enter Tryz.func47,Tryz.ntmps47
 go_wp2;obtain ⟨w1,hw1⟩:∃w1,w.alloc (.cells (nA S) 31)=w1:=⟨_,rfl⟩;have B1:=hid (show Below w.heap.size w w1 by rw [←hw1];exact (Below.refl _ _).alloc (Nat.le_refl _) _);rw [hw1] at NB ⊢;clear hw1
 go_loopw [3] (fun i wr=>∃k:Nat,i=.int .i64 k∧k≤S.lk.n∧Below w1.heap.size w1 wr∧∀j,j<k→LinkOk N j (N.links.getD j LinkV.zero)) (fun i _=>match i with| .int _ y=>(S.lk.n - y).toNat|_=>0)
 case atStart=>exact ⟨0,rfl,by omega,Below.refl _ _,fun j hj=>absurd hj (by omega)⟩
 case round=>
  obtain ⟨k,rfl,hk,hb,hall⟩:=hrel;have W:=hid hb;have W0:=hid (B1.out.trans (hb.mono B1.out.size));have AL:=hid hall;clear hb hall;have NBr:=NB.out.below W.out;have n1:=NBr.c1;have n2:=NBr.c2;have nl:=NBr.lt
  by_cases hlt:k<S.lk.n
  rotate_left
  · have lt2:¬(k:Int)<(S.lk.n:Int):=by omega
    have EV:=hid (show V=true from YES.out (fun i hi=>AL.out i (by rw [HL.out] at hi;omega)));clear NBr;go_wp2;go_ret;exact ⟨by rw [EV.out];rfl,W0.out⟩
  obtain ⟨b0,o0,vs,e0,_,hb0,hvs,r0⟩:=vAi H.out k hlt LinkV.zero;have hvs:vs=vHl (N.links.getD k LinkV.zero):=hvs;subst hvs
  have hk2:k<N.links.length:=by rw [HL.out];exact hlt
  have NOk:=hid (fun hn=>NO.out k hk2 hn)
  have ALk:=hid (show LinkOk N k (N.links.getD k LinkV.zero)→∀j,j<k+1→LinkOk N j (N.links.getD j LinkV.zero) from fun hp j hj=>by
   rcases Nat.lt_or_ge j k with h'|h'
   · exact AL.out j h'
   · obtain rfl:j=k:=by omega
     exact hp)
  obtain ⟨L,hL⟩:∃L,N.links.getD k LinkV.zero=L:=⟨_,rfl⟩;rw [hL] at NOk r0 ALk;have R1:=vAb r0 (W0.out.block b0 hb0);have d0:=R1 0 _ rfl;have d1:=R1 1 _ rfl;have d2:=R1 2 _ rfl;simp only [Nat.add_zero] at d0;rw [show o0+k * linkR.n=o0+k * 3 from rfl] at d0 d1 d2
  have lt2:(k:Int)<(S.lk.n:Int):=by omega
  rw [e0] at n2;clear r0 R1 hk2 hL
  go_upto_region 5 with fail
  obtain ⟨w4,hw4⟩:∃w4,wr.alloc (.cells #[.int .i64 L.row,.int .i64 L.a,.int .i64 L.b] 84)=w4:=⟨_,rfl⟩;rw [hw4]
  have k0:Below wr.heap.size wr w4:=by rw [←hw4];exact (Below.refl _ _).alloc (Nat.le_refl _) _
  have X4:=hid (W0.out.trans (k0.mono W0.out.size));have Y4:=hid (W.out.trans (k0.mono W.out.size));have nb:=NBr.below k0;have f1:=nb.c1;have f2:=nb.c2
  obtain ⟨g0,g1,g2⟩:w4.cell? ⟨wr.heap.size,0,none⟩=some (.int .i64 L.row)∧w4.cell? ⟨wr.heap.size,1,none⟩=some (.int .i64 L.a)∧w4.cell? ⟨wr.heap.size,2,none⟩=some (.int .i64 L.b):=by rw [←hw4];simp
  clear hw4 n1 n2 d0 d1 d2 nl e0 nb k0 NBr
  have PA:=fun w'=>vBj L.a (S.pt.n:Int) w'
  have PB:=fun w'=>vBj L.b (S.pt.n:Int) w'
  cases ha:plB L.a (S.pt.n:Int) with
  |false=>
   rw [ha] at PA;have PA:=hid PA;have EV:=hid (NOk.out (fun g=>by have:=g.a;rw [PL.out,ha] at this;cases this));clear ha PB;go_wp2_with (go_at_call 108;(with_reducible refine (PA.out _).mono ?_);rintro e wp ⟨rfl,hwp⟩;subst hwp);go_ret;exact ⟨by rw [EV.out];rfl,X4.out⟩
  |true=>
  rw [ha] at PA;have PA:=hid PA
  cases hb:plB L.b (S.pt.n:Int) with
  |false=>
   rw [hb] at PB;have PB:=hid PB;have EV:=hid (NOk.out (fun g=>by have:=g.b;rw [PL.out,hb] at this;cases this));clear ha hb
   go_wp2_with (first
    |(go_at_call 108;(with_reducible refine (PA.out _).mono ?_);rintro e wp ⟨rfl,hwp⟩;subst hwp)
    |(go_at_call 108;(with_reducible refine (PB.out _).mono ?_);rintro e wp ⟨rfl,hwp⟩;subst hwp))
   go_ret;exact ⟨by rw [EV.out];rfl,X4.out⟩
  |true=>
  rw [hb] at PB;have PB:=hid PB;obtain ⟨a1,a2⟩:=(vBb _ _).1 ha;obtain ⟨c1,c2⟩:=(vBb _ _).1 hb;obtain ⟨x,hx⟩:=Int.eq_ofNat_of_zero_le a1;obtain ⟨y,hy⟩:=Int.eq_ofNat_of_zero_le c1
  have hxl:x<S.pt.n:=by omega
  have hyl:y<S.pt.n:=by omega
  have AH:=hid (show plB L.a (N.ports.length:Int)=true by rw [PL.out];exact ha);have BH:=hid (show plB L.b (N.ports.length:Int)=true by rw [PL.out];exact hb);obtain ⟨bp,op,vp,ep,_,hbp,⟨sp,rfl,_⟩,rp⟩:=vAi HP.out x hxl PortV.zero;obtain ⟨bq,oq,vq,eq_,_,_,⟨sq,rfl,_⟩,rq⟩:=vAi HP.out y hyl PortV.zero;rw [ep] at eq_
  injection eq_ with eq_
  injection eq_ with h1 h2
  subst h1 h2;have RP:=vAb rp (X4.out.block bp hbp);have RQ:=vAb rq (X4.out.block bp hbp);have GX:=hid (show N.ports.getD L.a.toNat PortV.zero=N.ports.getD x PortV.zero by rw [hx];rfl);have GY:=hid (show N.ports.getD L.b.toNat PortV.zero=N.ports.getD y PortV.zero by rw [hy];rfl);generalize N.ports.getD x PortV.zero=P at *;generalize N.ports.getD y PortV.zero=Q at *;have p1:=RP 1 _ rfl
  have p4:=RP 4 _ rfl;have q1:=RQ 1 _ rfl;have q4:=RQ 4 _ rfl;rw [show op+x * portR.n=op+x * 7 from rfl] at p1 p4;rw [show op+y * portR.n=op+y * 7 from rfl] at q1 q4
  have lx:(x:Int)<(S.pt.n:Int):=by omega
  have ly:(y:Int)<(S.pt.n:Int):=by omega
  rw [ep] at f1;rw [hx] at g1;rw [hy] at g2;have PA:=PA.out;have PB:=PB.out;rw [hx] at PA;rw [hy] at PB;have PA:=hid PA;have PB:=hid PB;clear rp rq RP RQ a1 a2 c1 c2 ha hb hx hy ep
  by_cases t1:P.dev=Q.dev
  · have z1:(P.dev == Q.dev)=true:=by simpa using t1
    have EV:=hid (NOk.out (fun g=>g.dev (by rw [GX.out,GY.out];exact t1)));clear t1
    go_wp2_with (first
     |(go_at_call 108;(with_reducible refine (PA.out _).mono ?_);rintro e wp ⟨rfl,hwp⟩;subst hwp)
     |(go_at_call 108;(with_reducible refine (PB.out _).mono ?_);rintro e wp ⟨rfl,hwp⟩;subst hwp))
    go_quiet (fail)
    go_wp2;go_ret;exact ⟨by rw [EV.out];rfl,vAd X4.out _⟩
  have z1:(P.dev == Q.dev)=false:=by simpa using t1
  by_cases t2:P.link=(k:Int)
  rotate_left
  · have z2:(P.link != (k:Int))=true:=by simpa using t2
    have EV:=hid (NOk.out (fun g=>t2 (by rw [←GX.out];exact g.la)));clear t1 t2
    go_wp2_with (first
     |(go_at_call 108;(with_reducible refine (PA.out _).mono ?_);rintro e wp ⟨rfl,hwp⟩;subst hwp)
     |(go_at_call 108;(with_reducible refine (PB.out _).mono ?_);rintro e wp ⟨rfl,hwp⟩;subst hwp))
    go_quiet (fail)
    go_wp2;go_ret;exact ⟨by rw [EV.out];rfl,vAd X4.out _⟩
  have z2:(P.link != (k:Int))=false:=by simpa using t2
  by_cases t3:Q.link=(k:Int)
  rotate_left
  · have z3:(Q.link != (k:Int))=true:=by simpa using t3
    have EV:=hid (NOk.out (fun g=>t3 (by rw [←GY.out];exact g.lb)));clear t1 t2 t3
    go_wp2_with (first
     |(go_at_call 108;(with_reducible refine (PA.out _).mono ?_);rintro e wp ⟨rfl,hwp⟩;subst hwp)
     |(go_at_call 108;(with_reducible refine (PB.out _).mono ?_);rintro e wp ⟨rfl,hwp⟩;subst hwp))
    go_quiet (fail)
    go_wp2;go_ret;exact ⟨by rw [EV.out];rfl,vAd X4.out _⟩
  have z3:(Q.link != (k:Int))=false:=by simpa using t3
  have OK:=hid (ALk.out ⟨AH.out,BH.out,by rw [GX.out,GY.out];exact t1,by rw [GX.out];exact t2,by rw [GY.out];exact t3⟩);clear t1 t2 t3
  go_wp2_with (first
   |(go_at_call 108;(with_reducible refine (PA.out _).mono ?_);rintro e wp ⟨rfl,hwp⟩;subst hwp)
   |(go_at_call 108;(with_reducible refine (PB.out _).mono ?_);rintro e wp ⟨rfl,hwp⟩;subst hwp))
  go_quiet (fail)
  go_wp2
  go_roundw
  case rel=>exact ⟨k+1,by simp,by omega,vAd Y4.out _,OK.out⟩
  case measure=>simp only [];omega
end Go.Proofs.YtgmflecelnefcaaGreat
