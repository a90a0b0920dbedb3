import Derived.Test.YtkpbbfehglihlaaGreatDoorDs41
import Derived.Test.YtkpbbfehglihlaaGreatDoorDs42
import Derived.Test.YtkpbbfehglihlaaGreatDoorDs20
import Derived.Test.YtkpbbfehglihlaaGreatDoorDs33
import Derived.Test.YtkpbbfehglihlaaGreatDoorDs31
import Derived.Test.YtkpbbfehglihlaaGreatDoorDs04
import Derived.Test.YtkpbbfehglihlaaGreatDoorDs14
import Derived.Test.YtkpbbfehglihlaaGreatDoorDs32
import Derived.Test.YtkpbbfehglihlaaGreatDoorDs29
import Derived.Test.YtkpbbfehglihlaaGreatDoorDs01
import Derived.Test.YtkpbbfehglihlaaGreatDoorDs30
import Derived.Test.YtkpbbfehglihlaaGreatDoorDs38
import Derived.Test.YtkpbbfehglihlaaGreatDoorDs35
import Derived.Lib.SliceRun
import Derived.Deep.CutBlock
import Derived.Deep.DeepCutAuto
import Derived.Test.YtkpbbfehglihlaaGreatDoorDs05
import Derived.Test.YtkpbbfehglihlaaGreatDoorDs08
set_option maxRecDepth 100000
set_option maxHeartbeats 40000000
namespace Go.Proofs.YtkpbbfehglihlaaGreatDoor
open Go.Lib (hid)
open Go.RowKit
def LdP (w:World):Prop:=Lib.TabIs Tryz.prog w tabName .u64 Lib.pow10Tab
theorem LdP.below {w w':World} (h:LdP w) (hb:Below w.heap.size w w'):LdP w':=tab_below h hb
theorem xitoa18_any (n:Int) (h0: -9223372036854775808≤n) (h1:n≤9223372036854775807) (w:World) (hl:LdP w):Calls Tryz.prog 42 #[.int .i64 n] w fun e w'=>e=.returned (.string (str (Lib.itoa n)))∧Below w.heap.size w w':=
 (Tryz.strconv_Itoa n h0 h1 _ hl).mono (by rintro e w1 ⟨rfl,k,os,rfl⟩;exact ⟨rfl,Lib.below_grow _ _ (Nat.le_refl _) _ _⟩)
theorem xlook_any (N:NV) (S:NSl3) (d m:Int) (w:World) (h:NRead w (vAs w) N S) (hs:NvSz N):Calls Tryz.prog 12 #[vAx S,.int .i64 d,.int .u64 m] w fun e w'=>e=.returned (.int .i64 (lkX N d m))∧Below w.heap.size w w':=by
 have XR:=fun (w':World) (hb:Below w.heap.size w w')=>vCb N S w' (h.up hb) hs
 obtain ⟨b,hb⟩:∃b,netB N=b:=⟨_,rfl⟩;rw [hb] at XR
 have EX:lkX N d m=if b=true then stK (N.statics.drop 0) d m else -1:=by unfold lkX;rw [hb];rfl
 generalize lkX N d m=V at *;replace EX:=hid EX;clear hb;have hst:=h.st;obtain ⟨sd,sp,sl,sm,⟨PA,pn,pc⟩,sf,sv,si⟩:=S;dsimp only at hst;have hle:=hst.le;have hcap:=hst.cap;have HL:=hid hst.len;have H:=hid hst;clear h hs hst;have NB:=NBox.new w ⟨sd,sp,sl,sm,⟨PA,pn,pc⟩,sf,sv,si⟩ 31;unfold vAx at XR ⊢;dsimp only at XR ⊢;replace XR:=hid XR
 go_enter Tryz.func12,Tryz.ntmps12
 go_upto_region 1 with fail
 generalize hw1:World.alloc _ _=w1;have hw1:w.alloc (.cells (nA ⟨sd,sp,sl,sm,⟨PA,pn,pc⟩,sf,sv,si⟩) 31)=w1:=hw1;have B1:=hid (show Below w.heap.size w w1 by rw [←hw1];exact vAc _ _);rw [hw1] at NB;clear hw1;have K4:=hid (show ∀wx,Below w1.heap.size w1 wx→wx.cell? ⟨w.heap.size,4,none⟩=some (.slice PA pn pc)∧w.heap.size<wx.heap.size∧Below w.heap.size w wx from fun wx hx=>⟨(NB.below hx).c4,(NB.below hx).lt,B1.out.trans (hx.mono B1.out.size)⟩)
 obtain ⟨f0,f1,f2,f3,f4,f5,f6,f7,ql⟩:=NB;dsimp only at f0 f1 f2 f3 f4 f5 f6 f7
 cases b
 · have EV:=hid (show V= -1 by rw [EX.out];rfl)
   go_wp2_with (go_at_call 23;(with_reducible refine (XR.out _ B1.out).mono ?_);rintro e w2 ⟨rfl,hb⟩;have X2:=hid (vAa B1.out hb);clear hb);go_ret;exact ⟨by rw [EV.out];rfl,X2.out⟩
 replace EX:=hid (show V=stK (N.statics.drop 0) d m from EX.out.trans (if_pos rfl));go_wp2_with (go_at_call 23;(with_reducible refine (XR.out _ B1.out).mono ?_);rintro e w2 ⟨rfl,hb⟩;have Y2:=hid hb;clear f0 f1 f2 f3 f4 f5 f6 f7 ql;obtain ⟨f4,ql,hx2⟩:=K4.out _ hb;have X2:=hid hx2;clear hb hx2)
 go_loopw [15] (fun i wr=>∃k:Nat,i=.int .i64 k∧k≤pn∧Below w1.heap.size w1 wr∧V=stK (N.statics.drop k) d m) (fun i _=>match i with| .int _ y=>(pn - y).toNat|_=>0)
 case atStart=>exact ⟨0,rfl,by omega,Y2.out,EX.out⟩
 case round=>
  obtain ⟨k,rfl,hk,hb,hv⟩:=hrel;have YR:=hid hb;have XB:=hid (K4.out _ hb).2.2;have HV:=hid hv;clear hb hv f4 ql
  by_cases hlt:k<pn
  · obtain ⟨b0,o0,vs,rfl,_,hb0,hvs,r0⟩:=vAh H.out k hlt StatV.zero
    have hvs:vs=vDz (N.statics.getD k StatV.zero):=hvs;subst hvs
    have hk2:k<N.statics.length:=by rw [HL.out];exact hlt
    have AT:=hid (stK_at hk2 d m);generalize N.statics.getD k StatV.zero=D at *;have R1:=vAb r0 (XB.out.block b0 hb0);have d0:=R1 0 _ rfl;have d1:=R1 1 _ rfl;have d2:=R1 2 _ rfl;have d3:=R1 3 _ rfl;simp only [Nat.add_zero] at d0;rw [show o0+k * statR.n=o0+k * 4 from rfl] at d0 d1 d2 d3
    have lt2:(k:Int)<(pn:Int):=by omega
    clear r0 R1 hk2
    by_cases ha:D.dom=d
    · have x1:(D.dom == d)=true:=by simpa using ha
      by_cases hb:D.mac=m
      · have x2:(D.mac == m)=true:=by simpa using hb
        have EV:=hid (show V=D.port by rw [HV.out,AT.out,if_pos ⟨ha,hb⟩]);clear ha hb;go_wp2;go_ret;exact ⟨by rw [EV.out];rfl,XB.out.alloc XB.out.size _⟩
      have x2:(D.mac == m)=false:=by simpa using hb
      have EV:=hid (show V=stK (N.statics.drop (k+1)) d m by rw [HV.out,AT.out,if_neg (fun e=>hb e.2)]);clear ha hb;go_wp2
      go_roundw
      case rel=>exact ⟨k+1,by simp,by omega,YR.out.alloc YR.out.size _,EV.out⟩
      case measure=>simp only [];omega
    have x1:(D.dom == d)=false:=by simpa using ha
    have EV:=hid (show V=stK (N.statics.drop (k+1)) d m by rw [HV.out,AT.out,if_neg (fun e=>ha e.1)]);clear ha;go_wp2
    go_roundw
    case rel=>exact ⟨k+1,by simp,by omega,YR.out.alloc YR.out.size _,EV.out⟩
    case measure=>simp only [];omega
  · have lt2:¬(k:Int)<(pn:Int):=by omega
    have EV:=hid (show V= -1 by rw [HV.out,List.drop_of_length_le (by rw [HL.out];omega)];rfl);go_wp2;go_ret;exact ⟨by rw [EV.out];rfl,XB.out⟩
theorem crefusal18_any (N:NV) (S:NSl3) (tr td tp tm v:Int) (w:World) (h:NRead w (vAs w) N S) (hs:NvSz N) (hn:NetOk N) (ha:tp= -1∨∃x:Nat,x<N.ports.length∧tp=(x:Int)) (hb:td= -1∨∃y:Nat,y<N.domains.length∧td=(y:Int)∧(N.domains.getD y DomV.zero).vlan=v):Calls Tryz.prog 29 #[vAx S,.agg #[.int .i64 tr,.int .i64 td,.int .i64 tp,.int .u64 tm]] w fun e w'=>e=.returned (.int .i64 (doR N td tp v tm))∧Below w.heap.size w w':=by
 have HP:=hid h.pt;have HD:=hid h.dm;have hle:=h.pt.le;have hcap:=h.pt.cap;have hle2:=h.dm.le;have hcap2:=h.dm.cap;have hle3:=h.st.le;have hcap3:=h.st.cap;have PL:=h.pt.len;have DL:=h.dm.len;have KLEN:=hid h.st.len
 have LK:=fun (w':World) (hb:Below w.heap.size w w')=>xlook_any N S td tm w' (h.up hb) hs
 rw [lkX_ok hn] at LK;obtain ⟨V,hV⟩:∃V,doR N td tp v tm=V:=⟨_,rfl⟩;rw [hV];have E:=hid (show V=doR N td tp v tm from hV.symm);unfold vAx at LK ⊢;replace LK:=hid LK;clear h hs hn hV
 go_enter Tryz.func29,Tryz.ntmps29
 go_upto_region 1 with fail
 obtain ⟨W,hW⟩:∃W,(w.alloc (.cells (nA S) 31)).alloc (.cells #[.int .i64 tr,.int .i64 td,.int .i64 tp,.int .u64 tm] 67)=W:=⟨_,rfl⟩;have NC:=vIf S _ _ [.int .i64 tr,.int .i64 td,.int .i64 tp,.int .u64 tm] hW;rw [hW];clear hW
 have KQ:=hid (show ∀wx,Below W.heap.size W wx→(NF wx w.heap.size S)∧(wx.cell? ⟨w.heap.size+1,0,none⟩=some (.int .i64 tr)∧wx.cell? ⟨w.heap.size+1,1,none⟩=some (.int .i64 td)∧wx.cell? ⟨w.heap.size+1,2,none⟩=some (.int .i64 tp)∧wx.cell? ⟨w.heap.size+1,3,none⟩=some (.int .u64 tm))∧w.heap.size+1<wx.heap.size∧Below w.heap.size w wx from fun wx hx=>by
  have n:=(NC.1.below hx).1;have r:=(NC.2.1.below hx).1
  exact ⟨⟨n 0 _ rfl,n 1 _ rfl,n 2 _ rfl,n 3 _ rfl,n 4 _ rfl,n 5 _ rfl,n 6 _ rfl,n 7 _ rfl⟩,⟨r 0 _ rfl,r 1 _ rfl,r 2 _ rfl,r 3 _ rfl⟩,(NC.2.1.below hx).2,NC.2.2.trans (hx.mono NC.2.2.size)⟩)
 obtain ⟨⟨f0,f1,f2,f3,f4,f5,f6,f7⟩,⟨g0,g1,g2,g3⟩,ql2,hB0⟩:=KQ.out W (Below.refl _ _)
 have ql:w.heap.size<W.heap.size:=by omega
 have B0:=hid hB0;clear hB0 NC
 by_cases a0:tp= -1
 · have y0:(tp == -1)=true:=by simpa using a0
   have EV:=hid (show V=31 by rw [E.out];unfold doR;rw [if_pos a0]);clear a0 ha hb E;go_wp2;go_ret;exact ⟨by rw [EV.out];rfl,B0.out⟩
 have y0:(tp == -1)=false:=by simpa using a0
 obtain ⟨x,hx,rfl⟩:=ha.resolve_left a0;replace E:=hid (show V=if td= -1∨vIk (N.ports.getD x PortV.zero) v=false then 32 else if lkF N td tm≠-1 then 30 else if 64≤N.statics.length then 3 else 0 by rw [E.out];unfold doR;rw [if_neg a0];rfl)
 have hxl:x<S.pt.n:=by omega
 have lx:(x:Int)<(S.pt.n:Int):=by omega
 clear ha a0
 go_upto_region 3 with fail
 clear f0 f1 f2 f3 f4 f5 f6 f7 g0 g1 g2 g3 ql ql2
 by_cases d0:td= -1
 · have y1:(td == -1)=true:=by simpa using d0
   have EV:=hid (show V=32 by rw [E.out,if_pos (.inl d0)]);clear d0 hb E;refine vAe (fun wx=>Below W.heap.size W wx) (by kernel_rfl) (by kernel_rfl) ((Below.refl _ _).drew) ?_
   repeat
    first
     |(refine Seq.pass rfl ?_;simp only [Act.put,List.setIfInBounds_toArray,List.set_cons_zero,List.set_cons_succ])
     |(refine Seq.run ?_ rfl (fun wx hx=>?_) ?_
       rotate_left
       · obtain ⟨⟨f0,f1,f2,f3,f4,f5,f6,f7⟩,⟨g0,g1,g2,g3⟩,ql2,hBx⟩:=KQ.out wx hx
         go_simp
         first
          |(refine StepRun.val ?_;exact hx)
       simp only [Act.put,List.setIfInBounds_toArray,List.set_cons_zero,List.set_cons_succ])
   refine Seq.last (fun w7 h7=>?_);have B7:=hid (KQ.out _ h7).2.2.2;go_wp2;go_ret;exact ⟨by rw [EV.out];rfl,B7.out⟩
 have y1:(td == -1)=false:=by simpa using d0
 obtain ⟨y,hy,rfl,hv⟩:=hb.resolve_left d0
 have hyl:y<S.dm.n:=by omega
 have ly:(y:Int)<(S.dm.n:Int):=by omega
 obtain ⟨bp,op,vp,ep,_,hbp,⟨s,rfl,lp⟩,rp⟩:=vAh HP.out x hxl PortV.zero;obtain ⟨bd,od,vd,ed,_,hbd,⟨t,rfl,_⟩,rd⟩:=vAh HD.out y hyl DomV.zero;generalize N.ports.getD x PortV.zero=P at *;generalize N.domains.getD y DomV.zero=D at *;subst hv;obtain ⟨mb,hmb⟩:∃mb,vIk P D.vlan=mb:=⟨_,rfl⟩;have MB:=hid (fun (w':World) (hb:Below w.heap.size w w')=>hmb▸member_any2 P s D.vlan w' (vAs w') (fun _ h=>h) (vAn lp hb))
 rw [hmb] at E;have EP:=hid ep;have ED:=hid ed
 have KR:=hid (show ∀wx,Below W.heap.size W wx→(wx.cell? ⟨w.heap.size,1,none⟩=some (.slice (some ⟨bp,op,none⟩) S.pt.n S.pt.c)∧wx.cell? ⟨w.heap.size,3,none⟩=some (.slice (some ⟨bd,od,none⟩) S.dm.n S.dm.c))∧(wx.cell? ⟨w.heap.size+1,1,none⟩=some (.int .i64 (y:Int))∧wx.cell? ⟨w.heap.size+1,2,none⟩=some (.int .i64 (x:Int)))∧(wx.cell? ⟨bp,op+x * 7,none⟩=some (.int .i64 P.row)∧wx.cell? ⟨bp,op+x * 7+1,none⟩=some (.int .i64 P.dev)∧wx.cell? ⟨bp,op+x * 7+2,none⟩=some (.int .i64 P.native)∧wx.cell? ⟨bp,op+x * 7+3,none⟩=some (.int .i64 P.cost)∧wx.cell? ⟨bp,op+x * 7+4,none⟩=some (.int .i64 P.link)∧wx.cell? ⟨bp,op+x * 7+5,none⟩=some (.string (str P.name))∧wx.cell? ⟨bp,op+x * 7+6,none⟩=some (.slice s.A s.n s.c))∧wx.cell? ⟨bd,od+y * 6+1,none⟩=some (.int .i64 D.vlan)∧Below w.heap.size w wx from fun wx hx=>by
  obtain ⟨⟨_,f1,_,f3,_⟩,⟨_,g1,g2,_⟩,_,hb⟩:=KQ.out wx hx;rw [EP.out] at f1;rw [ED.out] at f3;have r:=vAb rp (hb.block bp hbp);have q:=vAb rd (hb.block bd hbd)
  exact ⟨⟨f1,f3⟩,⟨g1,g2⟩,⟨r 0 _ rfl,r 1 _ rfl,r 2 _ rfl,r 3 _ rfl,r 4 _ rfl,r 5 _ rfl,r 6 _ rfl⟩,q 1 _ rfl,hb⟩)
 clear rp rd lp ep ed hmb
 cases mb
 · have EV:=hid (show V=32 by rw [E.out,if_pos (.inr rfl)])
   clear d0 E;refine vAe (fun wx=>Below W.heap.size W wx) (by kernel_rfl) (by kernel_rfl) ((Below.refl _ _).drew) ?_
   repeat
    first
     |(refine Seq.pass rfl ?_;simp only [Act.put,List.setIfInBounds_toArray,List.set_cons_zero,List.set_cons_succ])
     |(refine Seq.run ?_ rfl (fun wx hx=>?_) ?_
       rotate_left
       · obtain ⟨⟨f1,f3⟩,⟨g1,g2⟩,⟨p0,p1,p2,p3,p4,p5,p6⟩,q1,hBx⟩:=KR.out wx hx
         go_simp
         first
          |(refine StepRun.val ?_;exact hx)
          |(refine StepRun.call (v:=.bool false) ?_;(with_reducible refine Calls.mono (MB.out _ hBx) ?_);rintro e w' ⟨rfl,hb⟩;exact ⟨rfl,vAa hx hb⟩)
       simp only [Act.put,List.setIfInBounds_toArray,List.set_cons_zero,List.set_cons_succ])
   refine Seq.last (fun w7 h7=>?_);have B7:=hid (KQ.out _ h7).2.2.2;go_wp2;go_ret;exact ⟨by rw [EV.out];rfl,B7.out⟩
 replace E:=hid (show V=if lkF N (y:Int) tm≠-1 then 30 else if 64≤N.statics.length then 3 else 0 by rw [E.out,if_neg (fun e=>e.elim d0 (fun g=>by cases g))]);clear d0;refine vAe (fun wx=>Below W.heap.size W wx) (by kernel_rfl) (by kernel_rfl) ((Below.refl _ _).drew) ?_
 repeat
  first
   |(refine Seq.pass rfl ?_;simp only [Act.put,List.setIfInBounds_toArray,List.set_cons_zero,List.set_cons_succ])
   |(refine Seq.run ?_ rfl (fun wx hx=>?_) ?_
     rotate_left
     · obtain ⟨⟨f1,f3⟩,⟨g1,g2⟩,⟨p0,p1,p2,p3,p4,p5,p6⟩,q1,hBx⟩:=KR.out wx hx
       go_simp
       first
        |(refine StepRun.val ?_;exact hx)
        |(refine StepRun.call (v:=.bool true) ?_;(with_reducible refine Calls.mono (MB.out _ hBx) ?_);rintro e w' ⟨rfl,hb⟩;exact ⟨rfl,vAa hx hb⟩)
     simp only [Act.put,List.setIfInBounds_toArray,List.set_cons_zero,List.set_cons_succ])
 refine Seq.last (fun w7 h7=>?_);obtain ⟨⟨f0,f1,f2,f3,f4,f5,f6,f7⟩,⟨g0,g1,g2,g3⟩,ql2,hB7⟩:=KQ.out _ h7;have Y7:=hid h7;have X7:=hid hB7;clear h7 hB7;generalize lkF N (y:Int) tm=k at *
 by_cases k0:k= -1
 rotate_left
 · have y2:(k != -1)=true:=by simpa using k0
   have EV:=hid (show V=30 by rw [E.out,if_pos k0]);clear k0 E;go_wp2_with (go_at_call 12;(with_reducible refine (LK.out _ X7.out).mono ?_);rintro e w8 ⟨rfl,hb⟩;have X8:=hid (vAa X7.out hb);obtain ⟨⟨f0,f1,f2,f3,f4,f5,f6,f7⟩,⟨g0,g1,g2,g3⟩,ql2,_⟩:=KQ.out _ (vAa Y7.out hb);clear hb);go_ret;exact ⟨by rw [EV.out];rfl,X8.out⟩
 have y2:(k != -1)=false:=by simpa using k0
 replace E:=hid (show V=if 64≤N.statics.length then 3 else 0 by rw [E.out,if_neg (fun e=>e k0)]);clear k0
 by_cases c4:64≤S.st.n
 · have y4:(S.st.n:Int)≥64:=by omega
   have EV:=hid (show V=3 by rw [E.out,if_pos (by rw [KLEN.out];exact c4)]);clear c4 E;go_wp2_with (go_at_call 12;(with_reducible refine (LK.out _ X7.out).mono ?_);rintro e w8 ⟨rfl,hb⟩;have X8:=hid (vAa X7.out hb);obtain ⟨⟨f0,f1,f2,f3,f4,f5,f6,f7⟩,⟨g0,g1,g2,g3⟩,ql2,_⟩:=KQ.out _ (vAa Y7.out hb);clear hb);go_ret;exact ⟨by rw [EV.out];rfl,X8.out⟩
 have y4:¬(S.st.n:Int)≥64:=by omega
 have EV:=hid (show V=0 by rw [E.out,if_neg (by rw [KLEN.out];exact c4)]);clear c4 E;go_wp2_with (go_at_call 12;(with_reducible refine (LK.out _ X7.out).mono ?_);rintro e w8 ⟨rfl,hb⟩;have X8:=hid (vAa X7.out hb);obtain ⟨⟨f0,f1,f2,f3,f4,f5,f6,f7⟩,⟨g0,g1,g2,g3⟩,ql2,_⟩:=KQ.out _ (vAa Y7.out hb);clear hb);go_ret;exact ⟨by rw [EV.out];rfl,X8.out⟩
noncomputable def hsX (N:NV) (d:Int):List Int:=if netB N=true then hsL N d else []
theorem hsX_ok {N:NV} (h:NetOk N) (d:Int):hsX N d=hsL N d:=by unfold hsX;rw [if_pos (vEb h)]
theorem rdall_ints {k:IntKind} {w:World} {G:Nat→Prop}:∀{xs:List Int} {vs:List Value},RdAll (Rdr.int k) w G vs xs→vs=xs.map (Value.int k)
 | [],_,h=>h
 |x :: r,_,⟨us,ws,e,h1,h2⟩=>by
  have h1:us=[.int k x]:=h1;subst h1;rw [e,rdall_ints h2]
  rfl
theorem ROwn.owni {w:World} {B:Nat} {A:Option Addr} {n c:Nat} {xs:List Int} (h:ROwn (Rdr.int .i64) w B 3 (.slice A n c) xs):OwnI .i64 3 w B ⟨A,n,c⟩ xs:=by
 obtain ⟨vs,h1,h2⟩:=h;rw [rdall_ints h2] at h1;exact h1
theorem delf_none (f:FuncId) (caps:Array Value) (hcf:vBi Tryz.prog f) (A:Option Addr) (c:Nat) (w:World) (h:ISl w .i64 A 0 c []):
 Calls Tryz.prog 38 #[.slice A 0 c,.func (.func f) #[] caps] w fun e w'=>e=.returned (.slice A 0 c)∧Below w.heap.size w w':=by
 have IX:=hid (idx_int f caps hcf A 0 c [] w h (fun _=>false) (fun k w' hk _=>absurd hk (Nat.not_lt_zero _)) (-1) (.inr ⟨rfl,fun _ _=>rfl⟩));clear h hcf
 go_enter Tryz.func38,Tryz.ntmps38
 go_wp2_with (go_at_call 109;(with_reducible refine IX.out.mono ?_);rintro e w2 ⟨rfl,hb⟩;have X2:=hid hb;clear hb);go_ret;exact ⟨rfl,X2.out⟩
theorem hosts1_any (N:NV) (S:NSl3) (q k:Nat) (w:World) (h:NRead w (vAs w) N S) (hb:NBox w q S) (hk:k<N.ports.length):Calls Tryz.prog 40 #[.int .i64 (k:Int),.pointer (some ⟨q,0,none⟩)] w fun e w'=>e=.returned (.bool (!decide ((ptA N (k:Int)).link= -1)))∧Below w.heap.size w w':=by
 have hle:=h.pt.le;have hcap:=h.pt.cap
 have hkn:k<S.pt.n:=by have:=h.pt.len;omega
 have lk:(k:Int)<(S.pt.n:Int):=by omega
 obtain ⟨bp,op,vp,ep,_,hbp,⟨s,rfl,_⟩,rp⟩:=vAh h.pt k hkn PortV.zero;have hE:(ptA N (k:Int)).link=(N.ports.getD k PortV.zero).link:=rfl;rw [hE];generalize N.ports.getD k PortV.zero=P at *;have c1:=hb.c1;have ql:=hb.lt;rw [ep] at c1;have p4:=rp 4 _ rfl;rw [show op+k * portR.n=op+k * 7 from rfl] at p4;obtain ⟨v,hv⟩:∃v,(P.link != -1)=v:=⟨_,rfl⟩
 have EV:=hid (show (!decide (P.link= -1))=v by rw [←hv];by_cases e:P.link= -1<;>simp [e])
 rw [EV.out];clear h hb rp ep hE
 go_enter Tryz.func40,Tryz.ntmps40
 go_wp2;go_ret;exact ⟨by first|rfl|simp [hv],Below.refl _ _⟩
theorem enters_hosts1:vBi Tryz.prog 40:=vBc Tryz.func40 (by kernel_rfl) rfl
theorem xnmembers_no (N:NV) (S:NSl3) (d:Int) (w:World) (h:NRead w (vAs w) N S) (hs:NvSz N) (hn:netB N=false):Calls Tryz.prog 39 #[vAx S,.int .i64 d] w fun e w'=>e=.returned (.slice none 0 0)∧Below w.heap.size w w':=by
 have RT:=fun (w':World) (hb:Below w.heap.size w w')=>vCb N S w' (h.up hb) hs
 rw [hn] at RT;unfold vAx at RT ⊢;have RT:=hid RT;clear h hs hn
 go_enter Tryz.func39,Tryz.ntmps39
 go_wp2_with (go_at_call 23;(with_reducible refine (RT.out _ (vAc _ _)).mono ?_);rintro e wr ⟨rfl,hb⟩;have X:=hid (vAa (vAc _ _) hb);clear hb);go_ret;exact ⟨rfl,X.out⟩
theorem xhosts_any (N:NV) (S:NSl3) (d:Int) (w:World) (h:NRead w (vAs w) N S) (hs:NvSz N):Calls Tryz.prog 13 #[vAx S,.int .i64 d] w (GotIs (hsX N d) w):=by
 have UP:=hid (fun (w':World) (hb:Below w.heap.size w w')=>h.up hb);have NB:=NBox.new w S 31;have EN:=enters_hosts1
 have key:∃(Q:Ending→World→Prop),(∀w',Below w.heap.size w w'→NBox w' w.heap.size S→Calls Tryz.prog 39 #[vAx S,.int .i64 d] w' (fun e w2=>∃A n c,e=.returned (.slice A n c)∧Below w'.heap.size w' w2∧Calls Tryz.prog 38 #[.slice A n c,.func (.func 40) #[] #[.pointer (some ⟨w.heap.size,0,none⟩)]] w2 (fun e w3=>Q e w3)))∧∀e w',Q e w'→GotIs (hsX N d) w e w':=by
  refine ⟨GotIs (hsX N d) w,fun w' hb nb=>?_,fun _ _ g=>g⟩
  by_cases hn:NetOk N
  · refine (xnmembers_own N S d w' (h.up hb) hs hn).mono fun e w2 ⟨A,n,c,e1,ho,b2⟩=>⟨A,n,c,e1,b2,?_⟩
    have bw:=vAa hb b2;rw [hsX_ok hn]
    by_cases h0:0<(mmL N d).length
    · refine (delfm_any 40 #[.pointer (some ⟨w.heap.size,0,none⟩)] EN w'.heap.size ⟨A,n,c⟩ (mmL N d) w2 ho.owni h0 b2.size (fun x=>!decide ((ptA N x).link= -1)) (fun x w3 hx b3=>?_)).mono fun e w4 ⟨m,e2,r4,b4⟩=>⟨A,m,c,e2,?_,hb.trans ((b2.trans b4).mono hb.size)⟩
      · obtain ⟨k,hk,rfl⟩:=mm_range hx
        have b03:=hb.trans ((b2.trans b3).mono hb.size);exact hosts1_any N S w.heap.size k w3 (UP.out _ b03) (nb.below (b2.trans b3)) hk
      · have e5:((mmL N d).filter fun x=>!(!decide ((ptA N x).link= -1)))=hsL N d:=by unfold hsL;congr 1;funext x;simp
        rw [e5] at r4;exact r4.keep (fun _ _=>rfl) (fun b g=>g.2.lt)
    · have e0:mmL N d=[]:=List.eq_nil_of_length_eq_zero (by omega)
      have el:hsL N d=[]:=by unfold hsL;rw [e0];rfl
      rw [e0] at ho;have hr:=ho.read
      obtain rfl:n=0:=by have:=hr.len;simpa using this.symm
      refine (delf_none 40 #[.pointer (some ⟨w.heap.size,0,none⟩)] EN A c w2 (vAz hr)).mono fun e w4 ⟨e2,b4⟩=>⟨A,0,c,e2,?_,vAa bw b4⟩
      rw [el];exact vAn hr b4
  · have nb0:=netB_no hn
    refine (xnmembers_no N S d w' (h.up hb) hs nb0).mono fun e w2 ⟨e1,b2⟩=>⟨none,0,0,e1,b2,?_⟩
    have bw:=vAa hb b2
    refine (delf_none 40 #[.pointer (some ⟨w.heap.size,0,none⟩)] EN none 0 w2 ISl.nil).mono fun e w4 ⟨e2,b4⟩=>⟨none,0,0,e2,?_,vAa bw b4⟩
    rw [show hsX N d=[] by unfold hsX;rw [if_neg (by rw [nb0];decide)]];exact RSl.nil
 obtain ⟨Q,hk,hq⟩:=key;have K:=hid hk;have HQ:=hid hq;clear h hs hk hq;unfold vAx at K ⊢
 go_enter Tryz.func13,Tryz.ntmps13
 go_upto_region 1 with fail
 obtain ⟨w1,hw1⟩:∃w1,w.alloc (.cells (nA S) 31)=w1:=⟨_,rfl⟩;have B1:=hid (show Below w.heap.size w w1 by rw [←hw1];exact vAc _ _);rw [hw1] at NB ⊢;clear hw1;have NB:=hid NB;obtain ⟨c0,c1,c2,c3,c4,c5,c6,c7,ql⟩:=NB.out
 go_wp2_with (first
  |(go_at_call 39;(with_reducible refine (K.out _ B1.out NB.out).mono ?_);rintro e w2 ⟨A,n,c,rfl,b2,k2⟩;have K2:=hid k2;clear b2 k2)
  |(go_at_call 38;(with_reducible refine K2.out.mono ?_);intro e w3 hq3;obtain ⟨A3,n3,c3_,rfl,hr3,hb3⟩:=HQ.out _ _ hq3;have R3:=hid hr3;have B3:=hid hb3;clear hq3 hr3 hb3))
 go_ret;exact ⟨A3,n3,c3_,rfl,R3.out,B3.out⟩
noncomputable def tdX (N:NV) (d:Int):List UInt8:=if netB N=true then tdF N d else []
theorem tdX_ok {N:NV} (h:NetOk N) (d:Int):tdX N d=tdF N d:=by unfold tdX;rw [if_pos (vEb h)]
theorem itoa_small {v:Int} (h:1≤v∧v≤4094):(Lib.itoa v).length≤20:=itoa_len v (by omega) (by omega)
theorem xtogether_any (q:Nat) (a b c:List UInt8) (w:World) (h0:w.cell? ⟨q,0,none⟩=some (.string (str a))) (h1:w.cell? ⟨q,1,none⟩=some (.string (str b))) (h2:w.cell? ⟨q,2,none⟩=some (.string (str c))) (hl:a.length+(b.length+c.length)≤140737488355328):Calls Tryz.prog 41 #[.slice (some ⟨q,0,none⟩) 3 3] w fun e w'=>e=.returned (.string (str (a++(b++c))))∧Below w.heap.size w w':=by
 have hq:q<w.heap.size:=World.block_lt_of_cell? w _ h0
 have e0:Lib.join [a,b,c] (ByteArray.data ⟨#[]⟩).toList=a++(b++c):=by
  rw [Lib.join_cons];simp [Lib.joinTail]
 have J:Calls Tryz.prog 112 #[.slice (some ⟨q,0,none⟩) 3 3,.string ⟨#[]⟩] w fun e w'=>e=.returned (.string (str (a++(b++c))))∧Below w.heap.size w w':=by
  have e1:([a,b,c].map str).map (·.data.toList)=[a,b,c]:=rfl
  have key:=Tryz.strings_Join q 0 3 ([a,b,c].map str) ⟨#[]⟩ w (fun j x hx=>by
   match j,hx with
   |0,hx=>obtain rfl:str a=x:=by simpa using hx
          simpa using h0
   |1,hx=>obtain rfl:str b=x:=by simpa using hx
          simpa using h1
   |2,hx=>obtain rfl:str c=x:=by simpa using hx
          simpa using h2
   |j+3,hx=>simp at hx) hq (by simp) (by simp) (by rw [e1,e0];simpa using hl)
  rw [e1,e0] at key;exact key
 have J:=hid J;clear h0 h1 h2 hl e0
 go_enter Tryz.func41,Tryz.ntmps41
 go_wp2_with (go_at_call 112;(with_reducible refine J.out.mono ?_);rintro e w1 ⟨rfl,hb1⟩);go_ret;exact ⟨rfl,hb1⟩
theorem xtext18_any (N:NV) (S:NSl3) (d:Int) (w:World) (h:NRead w (vAs w) N S) (hs:NvSz N) (hm:NmSz N) (hl:LdP w):Calls Tryz.prog 14 #[vAx S,.int .i64 d] w fun e w'=>e=.returned (.string (str (tdX N d)))∧Below w.heap.size w w':=by
 have XR:=fun (w':World) (hb:Below w.heap.size w w')=>vCb N S w' (h.up hb) hs
 have HD:=hid h.dm;have HV:=hid h.dv;have hle:=h.dm.le;have hcap:=h.dm.cap;have gle:=h.dv.le;have gcap:=h.dv.cap;have DL:=h.dm.len;have VL:=h.dv.len;have PL:=hid (fun (w':World) (hb:Below w.heap.size w w')=>hl.below hb);obtain ⟨b,hb⟩:∃b,netB N=b:=⟨_,rfl⟩;rw [hb] at XR;obtain ⟨V,hV⟩:∃V,tdX N d=V:=⟨_,rfl⟩;rw [hV];have EX:=hid (show V=if b=true then tdF N d else [] by rw [←hV];unfold tdX;rw [hb])
 have HN:=hid (show b=true→NetOk N from fun g=>(netB_iff N).1 (hb.trans g));have HM:=hid hm.dv;unfold vAx at XR ⊢;replace XR:=hid XR;clear h hs hm hl hV hb;have NB:=hid (NBox.new w S 31)
 go_enter Tryz.func14,Tryz.ntmps14
 go_upto_region 1 with fail
 obtain ⟨w1,hw1⟩:∃w1,w.alloc (.cells (nA S) 31)=w1:=⟨_,rfl⟩;have B1:=hid (show Below w.heap.size w w1 by rw [←hw1];exact vAc _ _);rw [hw1] at NB ⊢;clear hw1
 have KN:=hid (show ∀wx,Below w1.heap.size w1 wx→(NF wx w.heap.size S)∧w.heap.size<wx.heap.size∧Below w.heap.size w wx from fun wx hx=>by
  have nb:=NB.out.below hx
  exact ⟨⟨nb.c0,nb.c1,nb.c2,nb.c3,nb.c4,nb.c5,nb.c6,nb.c7⟩,nb.lt,B1.out.trans (hx.mono B1.out.size)⟩)
 obtain ⟨⟨f0,f1,f2,f3,f4,f5,f6,f7⟩,ql,_⟩:=KN.out w1 (Below.refl _ _)
 cases b
 · have EV:=hid (show V=[] by rw [EX.out];rfl)
   go_wp2_with (go_at_call 23;(with_reducible refine (XR.out _ B1.out).mono ?_);rintro e w2 ⟨rfl,hb⟩;have Y2:=hid hb;have X2:=hid (vAa B1.out hb);obtain ⟨⟨f0,f1,f2,f3,f4,f5,f6,f7⟩,ql,_⟩:=KN.out _ hb;clear hb);go_ret;exact ⟨by rw [EV.out];rfl,X2.out⟩
 have hn:=HN.out rfl
 by_cases d0:d<0
 · have EV:=hid (show V=[] by rw [EX.out,if_pos rfl];unfold tdF;rw [if_neg];intro g;have:=(vAw _ _).1 g;omega)
   clear EX hn HN;go_wp2_with (go_at_call 23;(with_reducible refine (XR.out _ B1.out).mono ?_);rintro e w2 ⟨rfl,hb⟩;have Y2:=hid hb;have X2:=hid (vAa B1.out hb);obtain ⟨⟨f0,f1,f2,f3,f4,f5,f6,f7⟩,ql,_⟩:=KN.out _ hb;clear hb);go_ret;exact ⟨by rw [EV.out];rfl,X2.out⟩
 by_cases d1:d<(S.dm.n:Int)
 rotate_left
 · have z1:d≥(S.dm.n:Int):=by omega
   have EV:=hid (show V=[] by rw [EX.out,if_pos rfl];unfold tdF;rw [if_neg];intro g;have:=(vAw _ _).1 g;omega);clear EX hn HN;go_wp2_with (go_at_call 23;(with_reducible refine (XR.out _ B1.out).mono ?_);rintro e w2 ⟨rfl,hb⟩;have Y2:=hid hb;have X2:=hid (vAa B1.out hb);obtain ⟨⟨f0,f1,f2,f3,f4,f5,f6,f7⟩,ql,_⟩:=KN.out _ hb;clear hb);go_ret;exact ⟨by rw [EV.out];rfl,X2.out⟩
 have z1:¬d≥(S.dm.n:Int):=by omega
 obtain ⟨x,rfl⟩:∃x:Nat,d=(x:Int):=⟨d.toNat,by omega⟩
 have hxl:x<S.dm.n:=by omega
 have DO:=hn.dm.1 x (by omega)
 have EV:=show V=(N.devices.getD (N.domains.getD x DomV.zero).dev.toNat DevV.zero).name++(47 :: Lib.itoa (N.domains.getD x DomV.zero).vlan) by
  rw [EX.out,if_pos rfl];unfold tdF;rw [if_pos ((vAw _ _).2 ⟨by omega,by omega⟩)]
  rfl
 obtain ⟨bd,od,vd,ed,_,hbd,⟨t,rfl,_⟩,rd⟩:=vAh HD.out x hxl DomV.zero;have dv:=DO.dev;have vl:=DO.vlan;generalize N.domains.getD x DomV.zero=D at *;obtain ⟨y,hy,hyl⟩:=plB_nat dv;rw [show D.dev.toNat=y by rw [hy];rfl] at EV
 have hyn:y<S.dv.n:=by omega
 obtain ⟨bv,ov,vv,ev,_,hbv,hvv,rv⟩:=vAh HV.out y hyn DevV.zero;have hvv:vv=devC (N.devices.getD y DevV.zero):=hvv;subst hvv;have NM:=HM.out y hyl;generalize N.devices.getD y DevV.zero=X at *
 have ly:(y:Int)<(S.dv.n:Int):=by omega
 have lx:(x:Int)<(S.dm.n:Int):=by omega
 replace EV:=hid EV;have IT:=hid (fun (w':World) (hb:Below w.heap.size w w')=>xitoa18_any D.vlan (by omega) (by omega) w' (PL.out w' hb));have IL:=hid (itoa_small vl);obtain ⟨Z,hZ⟩:∃Z,Lib.itoa D.vlan=Z:=⟨_,rfl⟩;rw [hZ] at IT EV IL;obtain ⟨nm,hnm⟩:∃nm,X.name=nm:=⟨_,rfl⟩;have EDD:=hid hy;have EE:=hid ed;have EW:=hid ev;rw [hnm] at EV NM;have HNM:=hid hnm;have NM:=hid NM
 have KC:=hid (show ∀wx,Below w1.heap.size w1 wx→wx.cell? ⟨w.heap.size,3,none⟩=some (.slice (some ⟨bd,od,none⟩) S.dm.n S.dm.c)∧wx.cell? ⟨w.heap.size,0,none⟩=some (.slice (some ⟨bv,ov,none⟩) S.dv.n S.dv.c)∧(wx.cell? ⟨bd,od+x * 6,none⟩=some (.int .i64 (y:Int))∧wx.cell? ⟨bd,od+x * 6+1,none⟩=some (.int .i64 D.vlan)∧wx.cell? ⟨bd,od+x * 6+2,none⟩=some (.int .i64 D.vni)∧wx.cell? ⟨bd,od+x * 6+3,none⟩=some (.int .i64 D.irb)∧wx.cell? ⟨bd,od+x * 6+4,none⟩=some (.int .i64 D.row)∧wx.cell? ⟨bd,od+x * 6+5,none⟩=some (.slice t.A t.n t.c))∧wx.cell? ⟨bv,ov+y * 5+2,none⟩=some (.string (str nm))∧w.heap.size<wx.heap.size∧Below w.heap.size w wx from fun wx hx=>by
  obtain ⟨⟨f0,_,_,f3,_⟩,ql,hb⟩:=KN.out wx hx;rw [EW.out] at f0;rw [EE.out] at f3;have r:=vAb rd (hb.block bd hbd);have q:=vAb rv (hb.block bv hbv)
  exact ⟨f3,f0,⟨EDD.out▸r 0 _ rfl,r 1 _ rfl,r 2 _ rfl,r 3 _ rfl,r 4 _ rfl,r 5 _ rfl⟩,HNM.out▸q 2 _ rfl,ql,hb⟩)
 clear rd rv ed ev hy hZ hnm dv vl DO hn HN EX d0 d1
 go_upto_region 3 with (go_at_call 23;(with_reducible refine (XR.out _ B1.out).mono ?_);rintro e w2 ⟨rfl,hb⟩;have Y2:=hid hb;have X2:=hid (vAa B1.out hb);obtain ⟨⟨f0,f1,f2,f3,f4,f5,f6,f7⟩,ql,_⟩:=KN.out _ hb;clear hb)
 clear f0 f1 f2 f3 f4 f5 f6 f7 ql;obtain ⟨f3,f0,⟨p0,p1,p2,p3,p4,p5⟩,n2,ql,_⟩:=KC.out _ Y2.out
 go_upto_region 4 with fail
 obtain ⟨w3,hw3⟩:∃w3,w2.alloc (.cells #[.int .i64 (y:Int),.int .i64 D.vlan,.int .i64 D.vni,.int .i64 D.irb,.int .i64 D.row,.slice t.A t.n t.c] 63)=w3:=⟨_,rfl⟩;have C3:=hid (show Cs w3 w2.heap.size [.int .i64 (y:Int),.int .i64 D.vlan,.int .i64 D.vni,.int .i64 D.irb,.int .i64 D.row,.slice t.A t.n t.c] by rw [←hw3];exact Cs.new _ [.int .i64 (y:Int),.int .i64 D.vlan,.int .i64 D.vni,.int .i64 D.irb,.int .i64 D.row,.slice t.A t.n t.c] _)
 have Y3:=hid (show Below w1.heap.size w1 w3 by rw [←hw3];exact vAa Y2.out (vAc _ _));rw [hw3];clear hw3 f3 f0 p0 p1 p2 p3 p4 p5 n2 ql;refine wp_region_tail (fun wx=>Below w3.heap.size w3 wx) 10 (by kernel_rfl) (by kernel_rfl) ((Below.refl _ _).drew) ?_;simp only [List.take_succ_cons,List.take_zero,List.drop_succ_cons,List.drop_zero]
 repeat
  first
   |(refine SeqT.pass rfl ?_;simp only [Act.put,List.setIfInBounds_toArray,List.set_cons_zero,List.set_cons_succ])
   |(refine SeqT.run ?_ rfl (fun wx hx=>?_) ?_
     rotate_left
     · obtain ⟨f3,f0,⟨p0,p1,p2,p3,p4,p5⟩,n2,ql,hBx⟩:=KC.out wx (vAa Y3.out hx)
       have cc:=(C3.out.below hx).1;have c0_:=cc 0 _ rfl;have c1_:=cc 1 _ rfl
       go_simp
       first
        |(refine StepRun.val ?_;exact hx)
        |(refine StepRun.call (v:=.string (str Z)) ?_;(with_reducible refine Calls.mono (IT.out _ hBx) ?_);rintro e w' ⟨rfl,hb⟩;exact ⟨rfl,vAa hx hb⟩)
     simp only [Act.put,List.setIfInBounds_toArray,List.set_cons_zero,List.set_cons_succ])
 refine SeqT.last (fun w5 h5=>?_);have B5:=hid (KC.out _ (vAa Y3.out h5)).2.2.2.2.2;have TG:=hid (fun T=>xtogether_any w5.heap.size nm [47] Z (w5.alloc (.cells #[.string (str nm),.string ⟨#[47]⟩,.string (str Z)] T)) (by simp) (by simp) (by simp) (by have:=NM.out;have:=IL.out;simp;omega));clear h5;go_wp2_with (go_at_call 41;refine (TG.out _).mono ?_;rintro e w6 ⟨rfl,b6⟩);go_ret;exact ⟨by rw [EV.out];rfl,vAa (B5.out.alloc B5.out.size _) b6⟩
end Go.Proofs.YtkpbbfehglihlaaGreatDoor
set_option maxRecDepth 100000
set_option maxHeartbeats 40000000
namespace Go.Proofs.YtkpbbfehglihlaaGreatDoor
open Go.Lib (hid)
open Go.RowKit
def GotPut (N:NV) (E:Int) (w:World) (e:Ending) (w':World):Prop:=∃U,e=.returned (.tuple #[vAx U,.int .i64 E])∧NRead w' (vAs w') N U∧Below w.heap.size w w'
theorem NOwn.far {w w':World} {B q:Nat} {F:Nat→Prop} {N:NV} {S:NSl3} (h:NOwn w B F N S) (hs:w.heap.size≤w'.heap.size) (hc:∀b,b≠q→w'.heap[b]?=w.heap[b]?) (hq:q<B) (hF:¬F q):NOwn w' B F N S:=by
 have key:∀{α:Type} {R:Rdr α} {T:TypeId} {s:Sl3} {xs:List α},RI R w B F T s xs→RI R w' B F T s xs:=fun g=>
  g.keep hs (fun b cur hB _=>hc b (by omega)) (fun b hb=>hc b (fun e=>by
    subst e
    rcases hb.2 with g|g
    · exact hF g
    · have:=g.1;omega))
 exact ⟨key h.dv,key h.pt,key h.lk,key h.dm,key h.st,key h.fl,key h.vr,key h.ir⟩
theorem dvK_at {xs:List DevV} {k:Nat} (h:k<xs.length) (l:List UInt8):dvK (xs.drop k) l k=if (xs.getD k DevV.zero).name=l then (k:Int) else dvK (xs.drop (k+1)) l (k+1):=by
 rw [List.drop_eq_getElem_cons h,dvK];simp [List.getD,h]
theorem ptK_at {xs:List PortV} {k:Nat} (h:k<xs.length) (dev:Int) (l:List UInt8):ptK (xs.drop k) dev l k=if (xs.getD k PortV.zero).dev=dev∧(xs.getD k PortV.zero).name=l then (k:Int) else ptK (xs.drop (k+1)) dev l (k+1):=by
 rw [List.drop_eq_getElem_cons h,ptK];simp [List.getD,h]
theorem rdevice_any (N:NV) (S:NSl3) (l:List UInt8) (w:World) (h:NRead w (vAs w) N S):Calls Tryz.prog 32 #[vAx S,.string (str l)] w fun e w'=>e=.returned (.int .i64 (dvF N l))∧Below w.heap.size w w':=by
 have H:=hid h.dv;have hle:=h.dv.le;have hcap:=h.dv.cap;have HL:=hid h.dv.len;have E:=hid (show dvF N l=dvK (N.devices.drop 0) l 0 from rfl);generalize dvF N l=V at *;have NB:=hid (NBox.new w S 31);clear h;unfold vAx
 go_enter Tryz.func32,Tryz.ntmps32
 go_wp2;obtain ⟨w1,hw1⟩:∃w1,w.alloc (.cells (nA S) 31)=w1:=⟨_,rfl⟩;have B1:=hid (show Below w.heap.size w w1 by rw [←hw1];exact (Below.refl _ _).alloc (Nat.le_refl _) _);rw [hw1] at NB ⊢;clear hw1;have c3:=NB.out.c0
 go_loopw [5] (fun i wr=>∃k:Nat,i=.int .i64 k∧k≤S.dv.n∧wr=w1∧V=dvK (N.devices.drop k) l k) (fun i _=>match i with| .int _ y=>(S.dv.n - y).toNat|_=>0)
 case atStart=>exact ⟨0,rfl,by omega,rfl,E.out⟩
 case round=>
  obtain ⟨k,rfl,hk,hwr,hv⟩:=hrel;subst hwr;have HV:=hid hv;clear hv
  by_cases hlt:k<S.dv.n
  · obtain ⟨b0,o0,vs,e0,_,hb0,hvs,r0⟩:=vAh H.out k hlt DevV.zero
    have hvs:vs=devC (N.devices.getD k DevV.zero):=hvs;subst hvs
    have hk2:k<N.devices.length:=by rw [HL.out];exact hlt
    have AT:=hid (dvK_at hk2 l);generalize N.devices.getD k DevV.zero=D at *;have R1:=vAb r0 (B1.out.block b0 hb0);have d2:=R1 2 _ rfl;rw [show o0+k * devR.n=o0+k * 5 from rfl] at d2
    have lt2:(k:Int)<(S.dv.n:Int):=by omega
    rw [e0] at c3 ⊢;clear r0 R1 hk2
    by_cases hn:D.name=l
    · have x1:(D.name == l)=true:=by simpa using hn
      have EV:=hid (show V=(k:Int) by rw [HV.out,AT.out,if_pos hn]);clear hn;go_wp2;go_ret;exact ⟨by rw [EV.out];rfl,B1.out⟩
    · have x1:(D.name == l)=false:=by simpa using hn
      have EV:=hid (show V=dvK (N.devices.drop (k+1)) l (k+1) by rw [HV.out,AT.out,if_neg (by intro g;exact hn g)]);clear hn;go_wp2
      go_roundw
      case rel=>exact ⟨k+1,by simp,by omega,(by first|rfl|trivial),EV.out⟩
      case measure=>simp only [];omega
  · have lt2:¬(k:Int)<(S.dv.n:Int):=by omega
    have EV:=hid (show V= -1 by rw [HV.out,List.drop_of_length_le (by rw [HL.out];omega)];rfl);go_wp2;go_ret;exact ⟨by rw [EV.out];rfl,B1.out⟩
theorem rport_any (N:NV) (S:NSl3) (dev:Int) (l:List UInt8) (w:World) (h:NRead w (vAs w) N S):Calls Tryz.prog 33 #[vAx S,.int .i64 dev,.string (str l)] w fun e w'=>e=.returned (.int .i64 (ptF N dev l))∧Below w.heap.size w w':=by
 have H:=hid h.pt;have hle:=h.pt.le;have hcap:=h.pt.cap;have HL:=hid h.pt.len;have E:=hid (show ptF N dev l=ptK (N.ports.drop 0) dev l 0 from rfl);generalize ptF N dev l=V at *;have NB:=hid (NBox.new w S 31);clear h;unfold vAx
 go_enter Tryz.func33,Tryz.ntmps33
 go_wp2;obtain ⟨w1,hw1⟩:∃w1,w.alloc (.cells (nA S) 31)=w1:=⟨_,rfl⟩;have B1:=hid (show Below w.heap.size w w1 by rw [←hw1];exact (Below.refl _ _).alloc (Nat.le_refl _) _);rw [hw1] at NB ⊢;clear hw1;have c3:=NB.out.c1
 go_loopw [7] (fun i wr=>∃k:Nat,i=.int .i64 k∧k≤S.pt.n∧wr=w1∧V=ptK (N.ports.drop k) dev l k) (fun i _=>match i with| .int _ y=>(S.pt.n - y).toNat|_=>0)
 case atStart=>exact ⟨0,rfl,by omega,rfl,E.out⟩
 case round=>
  obtain ⟨k,rfl,hk,hwr,hv⟩:=hrel;subst hwr;have HV:=hid hv;clear hv
  by_cases hlt:k<S.pt.n
  · obtain ⟨b0,o0,vs,e0,_,hb0,⟨s,rfl,_⟩,r0⟩:=vAh H.out k hlt PortV.zero
    have hk2:k<N.ports.length:=by rw [HL.out];exact hlt
    have AT:=hid (ptK_at hk2 dev l);generalize N.ports.getD k PortV.zero=D at *;have R1:=vAb r0 (B1.out.block b0 hb0);have d1:=R1 1 _ rfl;have d5:=R1 5 _ rfl;rw [show o0+k * portR.n=o0+k * 7 from rfl] at d1 d5
    have lt2:(k:Int)<(S.pt.n:Int):=by omega
    rw [e0] at c3 ⊢;clear r0 R1 hk2
    by_cases hd:D.dev=dev
    · have x1:(D.dev == dev)=true:=by simpa using hd
      by_cases hn:D.name=l
      · have x2:(D.name == l)=true:=by simpa using hn
        have EV:=hid (show V=(k:Int) by rw [HV.out,AT.out,if_pos ⟨hd,hn⟩]);clear hd hn;go_wp2;go_ret;exact ⟨by rw [EV.out];rfl,B1.out⟩
      · have x2:(D.name == l)=false:=by simpa using hn
        have EV:=hid (show V=ptK (N.ports.drop (k+1)) dev l (k+1) by rw [HV.out,AT.out,if_neg (by intro g;exact hn g.2)]);clear hn;go_wp2
        go_roundw
        case rel=>exact ⟨k+1,by simp,by omega,(by first|rfl|trivial),EV.out⟩
        case measure=>simp only [];omega
    · have x1:(D.dev == dev)=false:=by simpa using hd
      have EV:=hid (show V=ptK (N.ports.drop (k+1)) dev l (k+1) by rw [HV.out,AT.out,if_neg (by intro g;exact hd g.1)]);clear hd;go_wp2
      go_roundw
      case rel=>exact ⟨k+1,by simp,by omega,(by first|rfl|trivial),EV.out⟩
      case measure=>simp only [];omega
  · have lt2:¬(k:Int)<(S.pt.n:Int):=by omega
    have EV:=hid (show V= -1 by rw [HV.out,List.drop_of_length_le (by rw [HL.out];omega)];rfl);go_wp2;go_ret;exact ⟨by rw [EV.out];rfl,B1.out⟩
def GotCo (N:NV) (w:World) (e:Ending) (w':World):Prop:=∃S,e=.returned (vAx S)∧NOwn w' w.heap.size (fun _=>False) N S∧Below w.heap.size w w'
theorem xncopy_co (N:NV) (S:NSl3) (w:World) (h:NRead w (vAs w) N S) (hs:NvSz N) (hm:NmSz N):Calls Tryz.prog 30 #[vAx S] w (GotCo N w):=(xncopy_own N S w h hs hm).mono fun _ _ g=>g.own
theorem lvk4 {L:LV} (hk:L.kind=4) (ht:L.dev.length≤1000000∧L.port.length≤1000000) (hc:0≤L.mac∧L.mac<18446744073709551616):LvK L:=by
 unfold LvK LvF;rw [show pts L.kind true=[(0,0),(4,7),(7,9),(0,1)] by rw [hk];rfl];intro f hf;simp only [List.map_cons,List.map_nil,List.mem_cons,List.not_mem_nil,or_false] at hf
 rcases hf with rfl|rfl|rfl|rfl
 · exact ⟨ht.1,vGe,vGj,vFc⟩
 · exact ⟨vo_t,vGe,vGj,vFc⟩
 · exact ⟨vo_t,hc,vGj,vFc⟩
 · exact ⟨ht.2,vGe,vGj,vFc⟩
theorem pre_tb4 {w w1:World} {S:NSl3} {L:LV} {s1 s2 s3 s4:SlV} (e:((w.alloc (.cells (nA S) 31)).alloc (.cells (lA L s1 s2 s3 s4) 37)).alloc (.cells zA 31)=w1):TBx w1 w.heap.size 31 (vCk S):=by
 subst e;exact ((TBx.new w (nA S) 31).below (vAc _ _)).below (vAc _ _)
structure DI (S:NSl3) (L:LV) (s1 s2 s3 s4:SlV) (D dm a:Int) (w W:World) (q:Nat) (x7 x27 x28 x29 x30 x31 x32 x33 x34 x35 x36 x37 x38 x39 x40 x41:Value) (d:Nat→Bool) (w':World):Prop where
 h7:d 15=true→x7=.pointer (some ⟨q,0,none⟩)
 h27:d 0=true→x27=.pointer (some ⟨w.heap.size+1,0,none⟩)
 h28:d 1=true→x28=.int .i64 L.row
 h29:d 2=true→x29=.agg #[.slice S.dv.A S.dv.n S.dv.c,.slice S.pt.A S.pt.n S.pt.c,.slice S.lk.A S.lk.n S.lk.c,.slice S.dm.A S.dm.n S.dm.c,.slice S.st.A S.st.n S.st.c,.slice S.fl.A S.fl.n S.fl.c,.slice S.vr.A S.vr.n S.vr.c,.slice S.ir.A S.ir.n S.ir.c]
 h30:d 3=true→x30=.int .i64 D
 h31:d 4=true→x31=.pointer (some ⟨w.heap.size+1,10,none⟩)
 h32:d 5=true→x32=.int .i64 L.vlan
 h33:d 6=true→x33=.int .i64 dm
 h34:d 7=true→x34=.agg #[.slice S.dv.A S.dv.n S.dv.c,.slice S.pt.A S.pt.n S.pt.c,.slice S.lk.A S.lk.n S.lk.c,.slice S.dm.A S.dm.n S.dm.c,.slice S.st.A S.st.n S.st.c,.slice S.fl.A S.fl.n S.fl.c,.slice S.vr.A S.vr.n S.vr.c,.slice S.ir.A S.ir.n S.ir.c]
 h35:d 8=true→x35=.int .i64 D
 h36:d 9=true→x36=.pointer (some ⟨w.heap.size+1,3,none⟩)
 h37:d 10=true→x37=.string (str L.port)
 h38:d 11=true→x38=.int .i64 a
 h39:d 12=true→x39=.pointer (some ⟨w.heap.size+1,7,none⟩)
 h40:d 13=true→x40=.int .u64 L.mac
 h41:d 14=true→x41=.agg #[.int .i64 L.row,.int .i64 dm,.int .i64 a,.int .u64 L.mac]
 k16:d 16=true→d 15=true
 bx:d 15=true→W.heap.size≤q∧TBx w' q 67 (if d 16=true then [.int .i64 L.row,.int .i64 dm,.int .i64 a,.int .u64 L.mac] else [.int .i64 0,.int .i64 0,.int .i64 0,.int .u64 0])
 b:Below W.heap.size W w'
inductive DW (S:NSl3) (L:LV) (s1 s2 s3 s4:SlV) (D dm a:Int) (w W:World) (d:Nat→Bool):Act→World→Prop
 |mk (q:Nat) {x7 x27 x28 x29 x30 x31 x32 x33 x34 x35 x36 x37 x38 x39 x40 x41:Value} {w':World}:DI S L s1 s2 s3 s4 D dm a w W q x7 x27 x28 x29 x30 x31 x32 x33 x34 x35 x36 x37 x38 x39 x40 x41 d w'→DW S L s1 s2 s3 s4 D dm a w W d {tmps:=#[.agg #[.slice S.dv.A S.dv.n S.dv.c,.slice S.pt.A S.pt.n S.pt.c,.slice S.lk.A S.lk.n S.lk.c,.slice S.dm.A S.dm.n S.dm.c,.slice S.st.A S.st.n S.st.c,.slice S.fl.A S.fl.n S.fl.c,.slice S.vr.A S.vr.n S.vr.c,.slice S.ir.A S.ir.n S.ir.c],.agg (lA L s1 s2 s3 s4),.pointer (some ⟨w.heap.size,0,none⟩),.pointer (some ⟨w.heap.size+1,0,none⟩),.pointer (some ⟨w.heap.size+1+1,0,none⟩),.int .i64 0,.int .i64 D,x7,undef,.pointer (some ⟨w.heap.size+1,1,none⟩),.int .i64 L.kind,.bool false,.bool false,vBk L s1 s2 s3 s4,.bool true,.bool false,.bool false,.bool false,.agg #[.slice S.dv.A S.dv.n S.dv.c,.slice S.pt.A S.pt.n S.pt.c,.slice S.lk.A S.lk.n S.lk.c,.slice S.dm.A S.dm.n S.dm.c,.slice S.st.A S.st.n S.st.c,.slice S.fl.A S.fl.n S.fl.c,.slice S.vr.A S.vr.n S.vr.c,.slice S.ir.A S.ir.n S.ir.c],.bool true,.bool false,.bool false,undef,.agg #[.slice S.dv.A S.dv.n S.dv.c,.slice S.pt.A S.pt.n S.pt.c,.slice S.lk.A S.lk.n S.lk.c,.slice S.dm.A S.dm.n S.dm.c,.slice S.st.A S.st.n S.st.c,.slice S.fl.A S.fl.n S.fl.c,.slice S.vr.A S.vr.n S.vr.c,.slice S.ir.A S.ir.n S.ir.c],.pointer (some ⟨w.heap.size+1,2,none⟩),.string (str L.dev),.int .i64 D,x27,x28,x29,x30,x31,x32,x33,x34,x35,x36,x37,x38,x39,x40,x41,undef,undef,undef,undef,undef,undef,undef,undef,undef,undef,undef,undef,undef,undef,undef,undef],defers:=[]} w'
theorem DI.grow {L:LV} {dm a:Int} {W:World} {q:Nat} {d:Nat→Bool} {w' w2:World} (h:d 15=true→W.heap.size≤q∧TBx w' q 67 (if d 16=true then [.int .i64 L.row,.int .i64 dm,.int .i64 a,.int .u64 L.mac] else [.int .i64 0,.int .i64 0,.int .i64 0,.int .u64 0])) (hb:Below w'.heap.size w' w2):d 15=true→W.heap.size≤q∧TBx w2 q 67 (if d 16=true then [.int .i64 L.row,.int .i64 dm,.int .i64 a,.int .u64 L.mac] else [.int .i64 0,.int .i64 0,.int .i64 0,.int .u64 0]):=fun g=>⟨(h g).1,(h g).2.below hb⟩
theorem vFj (tmps:Array Value) (W:World) (S:NSl3) (q:Nat) (E:Int) (h2:tmps[4]?.getD undef=.pointer (some ⟨q,0,none⟩)) (h5:tmps[5]?.getD undef=.int .i64 E) (hb:TBx W q 31 (vCk S)):
 (results Tryz.f8 tmps).run Tryz.prog W=.ok (.tuple #[vAx S,.int .i64 E]) W:=by
 have t0:=hb.cell 0 _ rfl;have t1:=hb.cell 1 _ rfl;have t2:=hb.cell 2 _ rfl;have t3:=hb.cell 3 _ rfl;have t4:=hb.cell 4 _ rfl;have t5:=hb.cell 5 _ rfl;have t6:=hb.cell 6 _ rfl;have t7:=hb.cell 7 _ rfl;clear hb;unfold vAx;simp [results,Tryz.results8,go_sem,h2,h5,t0,t1,t2,t3,t4,t5,t6,t7]
theorem cstatic_any (N:NV) (S:NSl3) (L:LV) (s1 s2 s3 s4:SlV) (w:World) (h:NRead w (vAs w) N S) (hl:LRead w L s1 s2 s3 s4) (hz:NvSz N) (hm:NmSz N) (ht:L.dev.length≤1000000∧L.port.length≤1000000) (hc:0≤L.mac∧L.mac<18446744073709551616):Calls Tryz.prog 8 #[vAx S,vBk L s1 s2 s3 s4] w (GotPut (doN N L) (doE N L) w):=by
 have UP:=hid (fun (w':World) (hb:Below w.heap.size w w')=>h.up hb);have UL:=hid (fun (w':World) (hb:Below w.heap.size w w')=>vBg hl hb)
 have RT:=fun (w':World) (hb:Below w.heap.size w w') (e:L.kind=4)=>cright_k L s1 s2 s3 s4 w' (vBg hl hb) (lvk4 e ht hc)
 have RN:=fun (w':World) (hb:Below w.heap.size w w')=>vCb N S w' (h.up hb) hz
 have CP:=fun (w':World) (hb:Below w.heap.size w w')=>xncopy_co N S w' (h.up hb) hz hm
 obtain ⟨b1,hb1⟩:∃b,rgB L=b:=⟨_,rfl⟩;obtain ⟨b2,hb2⟩:∃b,netB N=b:=⟨_,rfl⟩;have FI:=hid (show vFe N L 4=(decide (L.kind=4) && (b1 && b2)) by unfold vFe;rw [hb1,hb2]);rw [hb1] at RT;rw [hb2] at RN;unfold vAx at RN CP;unfold GotCo vAx at CP;replace RT:=hid RT;replace RN:=hid RN;replace CP:=hid CP;have HZ:=hid hz;have HT:=hid ht;have KLEN:=hid h.st.len;clear hb1 hb2 hz hm ht hc
 clear h hl;unfold vAx;rw [vGq]
 go_enter Tryz.func8,Tryz.ntmps8
 go_upto_region 1 with fail
 generalize hw1:World.alloc _ _=w1;obtain ⟨B1,NB,LB,ql1,RB⟩:=pre_three (S:=S) (L:=L) (s1:=s1) (s2:=s2) (s3:=s3) (s4:=s4) hw1;have TB:=pre_tb4 (S:=S) (L:=L) (s1:=s1) (s2:=s2) (s3:=s3) (s4:=s4) hw1;replace TB:=hid TB;clear hw1;replace B1:=hid B1;replace NB:=hid NB;replace LB:=hid LB;replace RB:=hid RB
 have KN:=hid (show ∀wx,Below w1.heap.size w1 wx→NF wx w.heap.size S∧(wx.cell? ⟨w.heap.size+1,0,none⟩=some (.int .i64 L.row)∧wx.cell? ⟨w.heap.size+1,1,none⟩=some (.int .i64 L.kind)∧wx.cell? ⟨w.heap.size+1,2,none⟩=some (.string (str L.dev))∧wx.cell? ⟨w.heap.size+1,3,none⟩=some (.string (str L.port))∧wx.cell? ⟨w.heap.size+1,7,none⟩=some (.int .u64 L.mac)∧wx.cell? ⟨w.heap.size+1,10,none⟩=some (.int .i64 L.vlan))∧BoxF wx (w.heap.size+1) 17 (lc L s1 s2 s3 s4)∧NRead wx (vAs wx) N S∧LRead wx L s1 s2 s3 s4∧Below w.heap.size w wx from fun wx hx=>by
  have nb:=NB.out.below hx;have bx:=LB.out.below (by omega) hx;have b0:=B1.out.trans (hx.mono B1.out.size)
  exact ⟨⟨nb.c0,nb.c1,nb.c2,nb.c3,nb.c4,nb.c5,nb.c6,nb.c7⟩,⟨bx.cell 0 (by omega),bx.cell 1 (by omega),bx.cell 2 (by omega),bx.cell 3 (by omega),bx.cell 7 (by omega),bx.cell 10 (by omega)⟩,bx,UP.out _ b0,UL.out _ b0,b0⟩)
 have BS:=hid (Below.refl w1.heap.size w1);obtain ⟨⟨f0,f1,f2,f3,f4,f5,f6,f7⟩,⟨g0,g1,g2,g3,g7,g10⟩,lb_,_⟩:=KN.out w1 (Below.refl _ _)
 by_cases hk:L.kind=4
 rotate_left
 · have y0:(L.kind != 4)=true:=by simpa using hk
   have EV:=hid (do_2 (N:=N) (L:=L) (by rw [FI.out,decide_eq_false hk];rfl));have rb_:=RB.out.below BS.out;have rl_:=rb_.lt;obtain ⟨r0,z0,r1,z1,r2,z2,r3,z3,r4,z4,r5,z5,r6,z6,r7,z7⟩:=rb_.zero8;clear hk rb_;go_wp2;refine bodyPost_ret (vFj _ (st8 w1 (w.heap.size+2) NSl3.nil) NSl3.nil (w.heap.size+2) 2 rfl rfl ((RB.out.below BS.out).st8 NSl3.nil)) rfl ?_;rw [EV.out.1,EV.out.2];exact ⟨NSl3.nil,rfl,vCa _,Below.st8 (B1.out.trans (BS.out.mono B1.out.size)) (by omega) NSl3.nil⟩
 have y0:(L.kind != 4)=false:=by simpa using hk
 have HK:=hid hk;replace FI:=hid (show vFe N L 4=(b1 && b2) by rw [FI.out,decide_eq_true hk];rfl);clear hk
 cases b1
 · have EV:=hid (do_2 (N:=N) (L:=L) (by rw [FI.out];rfl))
   go_wp2_with (first
    |((with_reducible refine vAk ?hg (.tmp 3) ?ho (w.heap.size+1) ?hx L s1 s2 s3 s4 lb_ ?_);(case hg=>rfl);(case ho=>rfl);(case hx=>rfl))
    |(go_at_call 27;(with_reducible refine (RT.out _ B1.out HK.out).mono ?_);rintro e w2 ⟨rfl,b_⟩;have Y2:=hid b_;have rb_:=RB.out.below Y2.out;have rl_:=rb_.lt;obtain ⟨r0,z0,r1,z1,r2,z2,r3,z3,r4,z4,r5,z5,r6,z6,r7,z7⟩:=rb_.zero8;clear b_ rb_))
   refine bodyPost_ret (vFj _ (st8 w2 (w.heap.size+2) NSl3.nil) NSl3.nil (w.heap.size+2) 2 rfl rfl ((RB.out.below Y2.out).st8 NSl3.nil)) rfl ?_;rw [EV.out.1,EV.out.2];exact ⟨NSl3.nil,rfl,vCa _,Below.st8 (B1.out.trans (Y2.out.mono B1.out.size)) (by omega) NSl3.nil⟩
 cases b2
 · have EV:=hid (do_2 (N:=N) (L:=L) (by rw [FI.out];rfl))
   go_wp2_with (first
    |((with_reducible refine vAk ?hg (.tmp 3) ?ho (w.heap.size+1) ?hx L s1 s2 s3 s4 lb_ ?_);(case hg=>rfl);(case ho=>rfl);(case hx=>rfl))
    |(go_at_call 27;(with_reducible refine (RT.out _ B1.out HK.out).mono ?_);rintro e w2 ⟨rfl,b_⟩;have Y2:=hid b_;have X2:=hid (vAa B1.out b_);obtain ⟨⟨f0,f1,f2,f3,f4,f5,f6,f7⟩,⟨g0,g1,g2,g3,g7,g10⟩,lb_,_⟩:=KN.out _ Y2.out;clear b_)
    |(go_at_call 23;(with_reducible refine (RN.out _ X2.out).mono ?_);rintro e w3 ⟨rfl,b_⟩;have Y3:=hid (vAa Y2.out b_);have rb_:=RB.out.below Y3.out;have rl_:=rb_.lt;obtain ⟨r0,z0,r1,z1,r2,z2,r3,z3,r4,z4,r5,z5,r6,z6,r7,z7⟩:=rb_.zero8;clear b_ rb_))
   refine bodyPost_ret (vFj _ (st8 w3 (w.heap.size+2) NSl3.nil) NSl3.nil (w.heap.size+2) 2 rfl rfl ((RB.out.below Y3.out).st8 NSl3.nil)) rfl ?_;rw [EV.out.1,EV.out.2];exact ⟨NSl3.nil,rfl,vCa _,Below.st8 (B1.out.trans (Y3.out.mono B1.out.size)) (by omega) NSl3.nil⟩
 have HV:=hid (show vFe N L 4=true by rw [FI.out];rfl);have hn:=(vHa.1 HV.out).2.2
 have DV:=fun (w':World) (hb:Below w.heap.size w w')=>xndevice_any N S L.dev w' (UP.out w' hb) HZ.out hn (by have:=HT.out.1;omega)
 have FA:=fun (w':World) (hb:Below w.heap.size w w')=>xndomain_any N S (dvF N L.dev) L.vlan w' (UP.out w' hb) HZ.out hn
 have FB:=fun (w':World) (hb:Below w.heap.size w w')=>xnport_any N S (dvF N L.dev) L.port w' (UP.out w' hb) HZ.out hn (by have:=HT.out.2;omega)
 have PA:=nd_place (N:=N) (dev:=dvF N L.dev) (s:=L.port);have AP:=at_place N (dvF N L.dev) L.vlan
 have CR:=fun (w':World) (hb:Below w.heap.size w w')=>crefusal18_any N S L.row (atF N (dvF N L.dev) L.vlan) (ptF N (dvF N L.dev) L.port) L.mac L.vlan w' (UP.out w' hb) HZ.out hn (PA.imp id (fun ⟨x,h1,h2,_⟩=>⟨x,h1,h2⟩)) (AP.imp id (fun ⟨y,h1,h2,_,h4⟩=>⟨y,h1,h2,h4⟩))
 have LE:=hid (fun (e:Int)=>do_e (N:=N) (L:=L) HV.out (e:=e));have L0:=hid (do_0 (N:=N) (L:=L) HV.out);have RI_:=hid (fun (e:doR N (atF N (dvF N L.dev) L.vlan) (ndF N L.dev L.port) L.vlan L.mac=0)=>do_inv ((do_r HV.out).trans e));have LS:=hid hn.zst;rw [show ptF N (dvF N L.dev) L.port=ndF N L.dev L.port from rfl] at FB CR PA;clear hn PA AP;obtain ⟨E,hE⟩:∃E,doR N (atF N (dvF N L.dev) L.vlan) (ndF N L.dev L.port) L.vlan L.mac=E:=⟨_,rfl⟩
 rw [hE] at CR;have EE:=hid hE;clear hE;generalize ndF N L.dev L.port=a at *;generalize atF N (dvF N L.dev) L.vlan=dm at *;generalize dvF N L.dev=D at *;unfold vAx at DV FA FB CR;replace DV:=hid DV;replace FA:=hid FA;replace FB:=hid FB;replace CR:=hid CR
 go_upto_region 4 with (first
  |((with_reducible refine vAk ?hg (.tmp 3) ?ho (w.heap.size+1) ?hx L s1 s2 s3 s4 lb_ ?_);(case hg=>rfl);(case ho=>rfl);(case hx=>rfl))
  |(go_at_call 27;(with_reducible refine (RT.out _ B1.out HK.out).mono ?_);rintro e w2 ⟨rfl,b_⟩;have Y2:=hid b_;have X2:=hid (vAa B1.out b_);obtain ⟨⟨f0,f1,f2,f3,f4,f5,f6,f7⟩,⟨g0,g1,g2,g3,g7,g10⟩,lb_,_⟩:=KN.out _ Y2.out;clear b_)
  |(go_at_call 23;(with_reducible refine (RN.out _ X2.out).mono ?_);rintro e w3 ⟨rfl,b_⟩;have Y3:=hid (vAa Y2.out b_);have X3:=hid (vAa X2.out b_);obtain ⟨⟨f0,f1,f2,f3,f4,f5,f6,f7⟩,⟨g0,g1,g2,g3,g7,g10⟩,lb_,_⟩:=KN.out _ Y3.out;clear b_)
  |(go_at_call 21;(with_reducible refine (DV.out _ X3.out).mono ?_);rintro e w4 ⟨rfl,b_⟩;have Y4:=hid (vAa Y3.out b_);have X4:=hid (vAa X3.out b_);obtain ⟨⟨f0,f1,f2,f3,f4,f5,f6,f7⟩,⟨g0,g1,g2,g3,g7,g10⟩,lb_,_⟩:=KN.out _ Y4.out;clear b_))
 have KR:=hid (show ∀wx,Below w4.heap.size w4 wx→(wx.cell? ⟨w.heap.size,0,none⟩=some (.slice S.dv.A S.dv.n S.dv.c)∧wx.cell? ⟨w.heap.size,1,none⟩=some (.slice S.pt.A S.pt.n S.pt.c)∧wx.cell? ⟨w.heap.size,2,none⟩=some (.slice S.lk.A S.lk.n S.lk.c)∧wx.cell? ⟨w.heap.size,3,none⟩=some (.slice S.dm.A S.dm.n S.dm.c)∧wx.cell? ⟨w.heap.size,4,none⟩=some (.slice S.st.A S.st.n S.st.c)∧wx.cell? ⟨w.heap.size,5,none⟩=some (.slice S.fl.A S.fl.n S.fl.c)∧wx.cell? ⟨w.heap.size,6,none⟩=some (.slice S.vr.A S.vr.n S.vr.c)∧wx.cell? ⟨w.heap.size,7,none⟩=some (.slice S.ir.A S.ir.n S.ir.c))∧(wx.cell? ⟨w.heap.size+1,0,none⟩=some (.int .i64 L.row)∧wx.cell? ⟨w.heap.size+1,3,none⟩=some (.string (str L.port))∧wx.cell? ⟨w.heap.size+1,7,none⟩=some (.int .u64 L.mac)∧wx.cell? ⟨w.heap.size+1,10,none⟩=some (.int .i64 L.vlan)) from fun wx hx=>by
  obtain ⟨⟨f0,f1,f2,f3,f4,f5,f6,f7⟩,⟨g0,g1,g2,g3,g7,g10⟩,_⟩:=KN.out wx (vAa Y4.out hx)
  exact ⟨⟨f0,f1,f2,f3,f4,f5,f6,f7⟩,⟨g0,g3,g7,g10⟩⟩)
 clear f0 f1 f2 f3 f4 f5 f6 f7 g0 g1 g2 g3 g7 g10 lb_;refine vCr (DW S L s1 s2 s3 s4 D dm a w w4) (by kernel_rfl) (by kernel_rfl) ?_ ?_ ?_
 · refine DW.mk 0 ?_
   constructor
   case b=>exact (Below.refl _ _).drew
   all_goals exact fun h=>by cases h
 · rintro d av w' j o @⟨q,x7,x27,x28,x29,x30,x31,x32,x33,x34,x35,x36,x37,x38,x39,x40,x41,_,hv⟩ ho hd hdep
   obtain ⟨h7,h27,h28,h29,h30,h31,h32,h33,h34,h35,h36,h37,h38,h39,h40,h41,k16,bx,b⟩:=hv
   rcases j with _|_|_|_|_|_|_|_|_|_|_|_|_|_|_|_|_|j
   · cases ho
     refine .inl ⟨rfl,?_⟩
     go_simp
     refine DW.mk q ?_
     constructor
     all_goals first|assumption|exact fun _=>rfl|exact fun _=>trivial
   · cases ho
     have e0_:=hdep 0 (by kernel_rfl);obtain rfl:=h27 e0_;obtain ⟨⟨f0,f1,f2,f3,f4,f5,f6,f7⟩,⟨g0,g3,g7,g10⟩⟩:=KR.out w' b;refine .inl ⟨rfl,?_⟩
     go_simp
     refine DW.mk q ?_
     constructor
     all_goals first|assumption|exact fun _=>rfl|exact fun _=>trivial
   · cases ho
     obtain ⟨⟨f0,f1,f2,f3,f4,f5,f6,f7⟩,⟨g0,g3,g7,g10⟩⟩:=KR.out w' b;refine .inl ⟨rfl,?_⟩
     go_simp
     refine DW.mk q ?_
     constructor
     all_goals first|assumption|exact fun _=>rfl|exact fun _=>trivial
   · cases ho
     refine .inl ⟨rfl,?_⟩
     go_simp
     refine DW.mk q ?_
     constructor
     all_goals first|assumption|exact fun _=>rfl|exact fun _=>trivial
   · cases ho
     refine .inl ⟨rfl,?_⟩
     go_simp
     refine DW.mk q ?_
     constructor
     all_goals first|assumption|exact fun _=>rfl|exact fun _=>trivial
   · cases ho
     have e4_:=hdep 4 (by kernel_rfl);obtain rfl:=h31 e4_;obtain ⟨⟨f0,f1,f2,f3,f4,f5,f6,f7⟩,⟨g0,g3,g7,g10⟩⟩:=KR.out w' b;refine .inl ⟨rfl,?_⟩
     go_simp
     refine DW.mk q ?_
     constructor
     all_goals first|assumption|exact fun _=>rfl|exact fun _=>trivial
   · cases ho
     have e2_:=hdep 2 (by kernel_rfl);obtain rfl:=h29 e2_;have e3_:=hdep 3 (by kernel_rfl);obtain rfl:=h30 e3_;have e5_:=hdep 5 (by kernel_rfl);obtain rfl:=h32 e5_;refine .inl ⟨rfl,?_⟩
     go_simp
     refine (FA.out _ (vAa X4.out b)).mono ?_;rintro e w2 ⟨rfl,hb⟩;refine ⟨_,rfl,?_⟩;refine DW.mk q ?_
     constructor
     case bx=>exact DI.grow bx hb
     case b=>exact vAa b hb
     all_goals first|assumption|exact fun _=>rfl|exact fun _=>trivial
   · cases ho
     obtain ⟨⟨f0,f1,f2,f3,f4,f5,f6,f7⟩,⟨g0,g3,g7,g10⟩⟩:=KR.out w' b;refine .inl ⟨rfl,?_⟩
     go_simp
     refine DW.mk q ?_
     constructor
     all_goals first|assumption|exact fun _=>rfl|exact fun _=>trivial
   · cases ho
     refine .inl ⟨rfl,?_⟩
     go_simp
     refine DW.mk q ?_
     constructor
     all_goals first|assumption|exact fun _=>rfl|exact fun _=>trivial
   · cases ho
     refine .inl ⟨rfl,?_⟩
     go_simp
     refine DW.mk q ?_
     constructor
     all_goals first|assumption|exact fun _=>rfl|exact fun _=>trivial
   · cases ho
     have e9_:=hdep 9 (by kernel_rfl);obtain rfl:=h36 e9_;obtain ⟨⟨f0,f1,f2,f3,f4,f5,f6,f7⟩,⟨g0,g3,g7,g10⟩⟩:=KR.out w' b;refine .inl ⟨rfl,?_⟩
     go_simp
     refine DW.mk q ?_
     constructor
     all_goals first|assumption|exact fun _=>rfl|exact fun _=>trivial
   · cases ho
     have e7_:=hdep 7 (by kernel_rfl);obtain rfl:=h34 e7_;have e8_:=hdep 8 (by kernel_rfl);obtain rfl:=h35 e8_;have e10_:=hdep 10 (by kernel_rfl);obtain rfl:=h37 e10_;refine .inl ⟨rfl,?_⟩
     go_simp
     refine (FB.out _ (vAa X4.out b)).mono ?_;rintro e w2 ⟨rfl,hb⟩;refine ⟨_,rfl,?_⟩;refine DW.mk q ?_
     constructor
     case bx=>exact DI.grow bx hb
     case b=>exact vAa b hb
     all_goals first|assumption|exact fun _=>rfl|exact fun _=>trivial
   · cases ho
     refine .inl ⟨rfl,?_⟩
     go_simp
     refine DW.mk q ?_
     constructor
     all_goals first|assumption|exact fun _=>rfl|exact fun _=>trivial
   · cases ho
     have e12_:=hdep 12 (by kernel_rfl);obtain rfl:=h39 e12_;obtain ⟨⟨f0,f1,f2,f3,f4,f5,f6,f7⟩,⟨g0,g3,g7,g10⟩⟩:=KR.out w' b;refine .inl ⟨rfl,?_⟩
     go_simp
     refine DW.mk q ?_
     constructor
     all_goals first|assumption|exact fun _=>rfl|exact fun _=>trivial
   · cases ho
     have e1_:=hdep 1 (by kernel_rfl);obtain rfl:=h28 e1_;have e6_:=hdep 6 (by kernel_rfl);obtain rfl:=h33 e6_;have e11_:=hdep 11 (by kernel_rfl);obtain rfl:=h38 e11_;have e13_:=hdep 13 (by kernel_rfl);obtain rfl:=h40 e13_;refine .inl ⟨rfl,?_⟩
     go_simp
     refine DW.mk q ?_
     constructor
     all_goals first|assumption|exact fun _=>rfl|exact fun _=>trivial
   · cases ho
     refine .inl ⟨rfl,?_⟩
     go_simp
     refine DW.mk w'.heap.size ?_
     constructor
     case k16=>exact fun _=>by simp
     case bx=>exact fun _=>⟨b.size,by
      have e16:d 16=false:=by
       cases hx:d 16 with
       |false=>rfl
       |true=>have:=k16 hx;rw [hd] at this;cases this
      have t:=TBx.new w' #[.int .i64 0,.int .i64 0,.int .i64 0,.int .u64 0] 67
      simpa [e16] using t⟩
     case b=>exact b.alloc b.size _
     all_goals first|assumption|exact fun _=>rfl|exact fun _=>trivial
   · cases ho
     have e15_:=hdep 15 (by kernel_rfl);obtain rfl:=h7 e15_;have e14_:=hdep 14 (by kernel_rfl);obtain rfl:=h41 e14_;have B0:=bx e15_;rw [hd] at B0;simp only [Bool.false_eq_true,if_false] at B0;have B:=B0.2;have n0_:=B.cell 0 _ rfl;have n1_:=B.cell 1 _ rfl;have n2_:=B.cell 2 _ rfl;have n3_:=B.cell 3 _ rfl;have m0_:=B.live 0;have m1_:=B.live 1;have m2_:=B.live 2;have m3_:=B.live 3;have n4_:=B.lt;refine .inl ⟨rfl,?_⟩
     go_simp
     refine DW.mk q ?_
     constructor
     case k16=>exact fun _=>by simpa using e15_
     case bx=>exact fun _=>⟨B0.1,by simpa using (((B.set 0 _).set 1 _).set 2 _).set 3 _⟩
     case b=>exact (((b.setCell (p:=⟨q,0,none⟩) B0.1 _).setCell (p:=⟨q,1,none⟩) B0.1 _).setCell (p:=⟨q,2,none⟩) B0.1 _).setCell (p:=⟨q,3,none⟩) B0.1 _
     all_goals first|assumption|exact fun _=>rfl|exact fun _=>trivial
   · simp at ho
 · rintro d av w5 @⟨q,x7,x27,x28,x29,x30,x31,x32,x33,x34,x35,x36,x37,x38,x39,x40,x41,_,hv⟩ hall
   obtain ⟨h7,h27,h28,h29,h30,h31,h32,h33,h34,h35,h36,h37,h38,h39,h40,h41,k16,bx,b⟩:=hv;obtain rfl:=h7 (hall 15 (by decide));have hbx:=bx (hall 15 (by decide));rw [hall 16 (by decide)] at hbx;simp only [if_true] at hbx;have SD:=hid hbx.2;have B7:=hid hbx.1;have Y5:=hid (vAa Y4.out b);have X5:=hid (vAa X4.out b);clear h7 h27 h28 h29 h30 h31 h32 h33 h34 h35 h36 h37 h38 h39 h40 h41 k16 bx b hall hbx FA FB KR
   obtain ⟨⟨f0,f1,f2,f3,f4,f5,f6,f7⟩,_⟩:=KN.out _ Y5.out;have ql5:w.heap.size+2<w5.heap.size:=(RB.out.below Y5.out).lt;have t0:=SD.out.cell 0 _ rfl;have t1:=SD.out.cell 1 _ rfl;have t2:=SD.out.cell 2 _ rfl;have t3:=SD.out.cell 3 _ rfl;have tl:=SD.out.lt
   go_upto_region 6 with (go_at_call 29;(with_reducible refine (CR.out _ X5.out).mono ?_);rintro e w6 ⟨rfl,b_⟩;have Y6:=hid (vAa Y5.out b_);have X6:=hid (vAa X5.out b_);have SD6:=hid (SD.out.below b_);clear b_)
   clear f0 f1 f2 f3 f4 f5 f6 f7 t0 t1 t2 t3 tl ql5
   by_cases e0:E=0
   rotate_left
   · have y1:(E != 0)=true:=by simpa using e0
     have EV:=hid (LE.out E EE.out e0);have rb_:=RB.out.below Y6.out;have rl_:=rb_.lt;obtain ⟨r0,z0,r1,z1,r2,z2,r3,z3,r4,z4,r5,z5,r6,z6,r7,z7⟩:=rb_.zero8;clear e0 rb_;go_wp2;refine bodyPost_ret (vFj _ (st8 w6 (w.heap.size+2) NSl3.nil) NSl3.nil (w.heap.size+2) E rfl rfl ((RB.out.below Y6.out).st8 NSl3.nil)) rfl ?_;rw [EV.out.1,EV.out.2];exact ⟨NSl3.nil,rfl,vCa _,Below.st8 (B1.out.trans (Y6.out.mono B1.out.size)) (by omega) NSl3.nil⟩
   subst e0;have EV:=hid (L0.out EE.out)
   obtain ⟨y,x,ed,ea,hy,hx,k64⟩:∃y x:Nat,dm=(y:Int)∧a=(x:Int)∧y<N.domains.length∧x<N.ports.length∧N.statics.length<64:=by
    obtain ⟨_,_,y,x,ed,ea,hy,hx,_,_,_,_,_,k64,_⟩:=RI_.out EE.out;exact ⟨y,x,ed,ea,hy,hx,k64⟩
   subst ea;subst ed;have KS:=hid (show N.statics.length≤63 by omega);clear hy hx k64 LE L0 RI_ EE CR;have LW:=hid (show w.heap.size+2<w4.heap.size from (RB.out.below Y4.out).lt);have tb_:=TB.out.below Y6.out;have f0:=tb_.cell 0 (.slice S.dv.A S.dv.n S.dv.c) rfl;have z0:=tb_.live 0;have f1:=tb_.cell 1 (.slice S.pt.A S.pt.n S.pt.c) rfl;have z1:=tb_.live 1;have f2:=tb_.cell 2 (.slice S.lk.A S.lk.n S.lk.c) rfl
   have z2:=tb_.live 2;have f3:=tb_.cell 3 (.slice S.dm.A S.dm.n S.dm.c) rfl;have z3:=tb_.live 3;have f4:=tb_.cell 4 (.slice S.st.A S.st.n S.st.c) rfl;have z4:=tb_.live 4;have f5:=tb_.cell 5 (.slice S.fl.A S.fl.n S.fl.c) rfl;have z5:=tb_.live 5;have f6:=tb_.cell 6 (.slice S.vr.A S.vr.n S.vr.c) rfl;have z6:=tb_.live 6;have f7:=tb_.cell 7 (.slice S.ir.A S.ir.n S.ir.c) rfl;have z7:=tb_.live 7;have tl_:=tb_.lt
   clear tb_
   go_upto_region 9 with (go_at_call 30;(with_reducible refine (CP.out _ X6.out).mono ?_);rintro e w7 ⟨U,rfl,hown,b_⟩;have OW:=hid hown;have Y7:=hid (vAa Y6.out b_);have X7:=hid (vAa X6.out b_);have SD7:=hid (SD6.out.below b_);have B67:=hid b_.size;have tb_:=TB.out.below Y7.out;have f0:=tb_.cell 0 (.slice S.dv.A S.dv.n S.dv.c) rfl;have z0:=tb_.live 0;have f1:=tb_.cell 1 (.slice S.pt.A S.pt.n S.pt.c) rfl;have z1:=tb_.live 1;have f2:=tb_.cell 2 (.slice S.lk.A S.lk.n S.lk.c) rfl;have z2:=tb_.live 2;have f3:=tb_.cell 3 (.slice S.dm.A S.dm.n S.dm.c) rfl;have z3:=tb_.live 3;have f4:=tb_.cell 4 (.slice S.st.A S.st.n S.st.c) rfl;have z4:=tb_.live 4;have f5:=tb_.cell 5 (.slice S.fl.A S.fl.n S.fl.c) rfl;have z5:=tb_.live 5;have f6:=tb_.cell 6 (.slice S.vr.A S.vr.n S.vr.c) rfl;have z6:=tb_.live 6;have f7:=tb_.cell 7 (.slice S.ir.A S.ir.n S.ir.c) rfl;have z7:=tb_.live 7;have tl_:=tb_.lt;clear tb_;clear hown b_)
   clear f0 f1 f2 f3 f4 f5 f6 f7 z0 z1 z2 z3 z4 z5 z6 z7 tl_;generalize hw8:World.setCell _ _ _=w8;have hw8:st8 w7 w.heap.size U=w8:=hw8
   have far:∀k,k≠w.heap.size→w8.heap[k]?=w7.heap[k]?:=fun k hk=>by rw [←hw8];exact vGt _ _ _ hk
   have hs8:w8.heap.size=w7.heap.size:=by rw [←hw8];exact st8_size _ _ _
   have l1:=LW.out;have l2:=B7.out;have l3:=SD6.out.lt;have O8:=hid (show NOwn w8 w6.heap.size (fun _=>False) N U from OW.out.far (q:=w.heap.size) (by rw [hs8];exact Nat.le_refl _) far (by omega) (fun f=>f.elim));have T8:=hid (show TBx w8 w.heap.size 31 (vCk U) by rw [←hw8];exact (TB.out.below Y7.out).st8 U);have R8:=hid (show TBx w8 (w.heap.size+2) 31 (vCk NSl3.nil) from (RB.out.below Y7.out).same (far _ (by omega)))
   have D8:=hid (show TBx w8 q 67 [.int .i64 L.row,.int .i64 (y:Int),.int .i64 (x:Int),.int .u64 L.mac] from SD7.out.same (far _ (by omega)));have X8:=hid (show Below w.heap.size w w8 by rw [←hw8];exact Below.st8 X7.out (Nat.le_refl _) U);have S68:=hid (show w6.heap.size≤w8.heap.size by rw [hs8];exact B67.out);have Q6:=hid (show w.heap.size+2<w6.heap.size by omega);clear hw8 far hs8 l1 l2 l3 OW SD7 SD6 Y7 X7 B67 LW
   have t0:=D8.out.cell 0 _ rfl;have t1:=D8.out.cell 1 _ rfl;have t2:=D8.out.cell 2 _ rfl;have t3:=D8.out.cell 3 _ rfl;have tl:=D8.out.lt;have tb:=T8.out.lt;have u4:=T8.out.cell 4 (.slice U.st.A U.st.n U.st.c) rfl
   go_upto_region 10 with (at_builtin;(refine wpList_ri1 statR rfl (.tmp 52) (.tmp 54) 26 Tryz.underlying26 (Desc.of (by kernel_rfl)) (by decide) rfl U.st (O8.out.st.up (vAc w8 (.cells (vDz ⟨L.row,(y:Int),(x:Int),L.mac⟩).toArray 67))) vDb ?hF w8.heap.size (vDz ⟨L.row,(y:Int),(x:Int),L.mac⟩) ⟨L.row,(y:Int),(x:Int),L.mac⟩ ?hu ?hy ?hn ?hB rfl rfl ?_);(case hF=>exact fun b hb=>hb.elim);(case hu=>exact (TBx.new w8 (vDz ⟨L.row,(y:Int),(x:Int),L.mac⟩).toArray 67).range);(case hy=>rfl);(case hn=>have:=KS.out;omega);(case hB=>have:=S68.out;simp;omega);intro u' w10 hr hc hb;have R10:=hid hr;have C10:=hid ((ChgT.of_below (B:=w6.heap.size) (T:=67) (vAc w8 (.cells (vDz ⟨L.row,(y:Int),(x:Int),L.mac⟩).toArray 67))).trans hc);have B10:=hid (show Below w6.heap.size w8 w10 from ((Below.refl _ _).alloc S68.out (.cells (vDz ⟨L.row,(y:Int),(x:Int),L.mac⟩).toArray 67)).trans hb);have T10:=hid (T8.out.chg C10.out (by decide));have v4:=T10.out.cell 4 (.slice U.st.A U.st.n U.st.c) rfl;have y4_:=T10.out.live 4;clear hr hc hb)
   generalize hw11:World.setCell _ _ _=w11;have hw11:w10.setCell ⟨w.heap.size,4,none⟩ (.slice u'.A u'.n u'.c)=w11:=hw11;obtain ⟨U',hU'⟩:∃U':NSl3,({U with st:=u'}:NSl3)=U':=⟨_,rfl⟩
   have hs11:w11.heap.size=w10.heap.size:=by rw [←hw11];simp
   have far:∀b,b≠w.heap.size→w11.heap[b]?=w10.heap[b]?:=fun b hn=>by rw [←hw11];exact Below.heap_setCell _ _ _ _ hn
   have O11:=hid (show NOwn w11 w6.heap.size (fun _=>False) (vCu N L.row y x L.mac) U' by rw [←hU'];exact (O8.out.setSt C10.out (fun b hb=>hb.elim) R10.out).far (q:=w.heap.size) (by rw [hs11];exact Nat.le_refl _) far (by have:=Q6.out;omega) (fun f=>f.elim));have T11:=hid (show TBx w11 w.heap.size 31 (vCk U') by rw [←hw11,←hU'];exact T10.out.set 4 _);have R11:=hid (show TBx w11 (w.heap.size+2) 31 (vCk NSl3.nil) from (R8.out.chg C10.out (by decide)).same (far _ (by omega)))
   have X11:=hid (show Below w.heap.size w w11 by rw [←hw11];exact (X8.out.trans (B10.out.mono (by have:=Q6.out;omega))).setCell (Nat.le_refl _) _);have S11:=hid (show w6.heap.size≤w11.heap.size by rw [hs11];exact Nat.le_trans S68.out C10.out.1);clear hw11 hU' hs11 far v4 y4_ u4 t0 t1 t2 t3 tl tb R10 C10 B10 T10 O8 T8 R8 D8;have tl_:=T11.out.lt;have rl_:=R11.out.lt;have t0:=T11.out.cell 0 (.slice U'.dv.A U'.dv.n U'.dv.c) rfl
   have r0:=R11.out.cell 0 (.slice none 0 0) rfl;have z0:=R11.out.live 0;have t1:=T11.out.cell 1 (.slice U'.pt.A U'.pt.n U'.pt.c) rfl;have r1:=R11.out.cell 1 (.slice none 0 0) rfl;have z1:=R11.out.live 1;have t2:=T11.out.cell 2 (.slice U'.lk.A U'.lk.n U'.lk.c) rfl;have r2:=R11.out.cell 2 (.slice none 0 0) rfl;have z2:=R11.out.live 2;have t3:=T11.out.cell 3 (.slice U'.dm.A U'.dm.n U'.dm.c) rfl;have r3:=R11.out.cell 3 (.slice none 0 0) rfl
   have z3:=R11.out.live 3;have t4:=T11.out.cell 4 (.slice U'.st.A U'.st.n U'.st.c) rfl;have r4:=R11.out.cell 4 (.slice none 0 0) rfl;have z4:=R11.out.live 4;have t5:=T11.out.cell 5 (.slice U'.fl.A U'.fl.n U'.fl.c) rfl;have r5:=R11.out.cell 5 (.slice none 0 0) rfl;have z5:=R11.out.live 5;have t6:=T11.out.cell 6 (.slice U'.vr.A U'.vr.n U'.vr.c) rfl;have r6:=R11.out.cell 6 (.slice none 0 0) rfl;have z6:=R11.out.live 6
   have t7:=T11.out.cell 7 (.slice U'.ir.A U'.ir.n U'.ir.c) rfl;have r7:=R11.out.cell 7 (.slice none 0 0) rfl;have z7:=R11.out.live 7;go_wp2;refine bodyPost_ret (vFj _ (st8 w11 (w.heap.size+2) U') U' (w.heap.size+2) 0 rfl rfl (R11.out.st8 U')) rfl ?_;rw [EV.out.1,EV.out.2];have ON:=O11.out.far (w':=st8 w11 (w.heap.size+2) U') (q:=w.heap.size+2) (by rw [st8_size];exact Nat.le_refl _) (fun b hb=>vGt _ _ _ hb) (by have:=Q6.out;omega) (fun f=>f.elim)
   exact ⟨U',rfl,ON.read,Below.st8 X11.out (by omega) U'⟩
end Go.Proofs.YtkpbbfehglihlaaGreatDoor
