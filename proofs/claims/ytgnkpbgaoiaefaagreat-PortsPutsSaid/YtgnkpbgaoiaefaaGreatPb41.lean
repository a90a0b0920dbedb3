import Derived.Test.YtgnkpbgaoiaefaaGreatPb39
import Derived.Test.YtgnkpbgaoiaefaaGreatPb40
import Derived.Test.YtgnkpbgaoiaefaaGreatPb23
set_option maxRecDepth 100000
set_option maxHeartbeats 40000000
namespace Go.Proofs.YtgnkpbgaoiaefaaGreat
open Go.Lib (hid)
open Go.RowKit
def vIs (N:NV) (E:Int) (w:World) (e:Ending) (w':World):Prop:=∃U,e=.returned (.tuple #[vBb U,.int .i64 E])∧NRead w' (vAs w') N U∧Below w.heap.size w w'
theorem vHc (tmps:Array Value) (W:World) (S:NSl3) (q:Nat) (E:Int) (h2:tmps[4]?.getD undef=.pointer (some ⟨q,0,none⟩)) (h5:tmps[5]?.getD undef=.int .i64 E) (hb:TBx W q 31 (vBx S)):
 (results Tryz.f7 tmps).run Tryz.prog W=.ok (.tuple #[vBb S,.int .i64 E]) W:=by
 have t0:=hb.cell 0 _ rfl;have t1:=hb.cell 1 _ rfl;have t2:=hb.cell 2 _ rfl;have t3:=hb.cell 3 _ rfl;have t4:=hb.cell 4 _ rfl;have t5:=hb.cell 5 _ rfl;have t6:=hb.cell 6 _ rfl;have t7:=hb.cell 7 _ rfl;clear hb;unfold vBb;simp [results,Tryz.results7,go_sem,h2,h5,t0,t1,t2,t3,t4,t5,t6,t7]
theorem pd_err {N:NV} {L:LV} {E:Int} (h:pdE N L=E) (h0:E≠0):pdN N L=NV.zero∧pdE N L=E:=⟨by unfold pdN;rw [if_neg (by rw [h];exact h0)],h⟩
theorem pd_2 {N:NV} {L:LV} (h:vCh N L 1=false):pdN N L=NV.zero∧pdE N L=2:=pd_err (by unfold pdE;rw [if_pos h]) (by decide)
theorem pd_30 {N:NV} {L:LV} (h:vCh N L 1=true) (g:vGi N L=true):pdN N L=NV.zero∧pdE N L=30:=pd_err (by unfold pdE;rw [if_neg (by rw [h];decide),if_pos g]) (by decide)
theorem pd_3 {N:NV} {L:LV} (h:vCh N L 1=true) (g:vGi N L=false) (z:8≤N.devices.length):pdN N L=NV.zero∧pdE N L=3:=pd_err (by unfold pdE;rw [if_neg (by rw [h];decide),if_neg (by rw [g];decide),if_pos z]) (by decide)
theorem pd_0 {N:NV} {L:LV} (h:vCh N L 1=true) (g:vGi N L=false) (z:¬8≤N.devices.length):pdN N L=vCt N L∧pdE N L=0:=by
 have e:pdE N L=0:=by unfold pdE;rw [if_neg (by rw [h];decide),if_neg (by rw [g];decide),if_neg z]
 exact ⟨by unfold pdN;rw [if_pos e],e⟩
theorem NOwn.far {w w':World} {B q:Nat} {F:Nat→Prop} {N:NV} {S:NSl3} (h:NOwn w B F N S) (hs:w.heap.size≤w'.heap.size) (hc:∀b,b≠q→w'.heap[b]?=w.heap[b]?) (hq:q<B) (hF:¬F q):NOwn w' B F N S:=by
 have key:∀{α:Type} {R:Rdr α} {T:TypeId} {s:Sl3} {xs:List α},RI R w B F T s xs→RI R w' B F T s xs:=fun g=>
  g.keep hs (fun b cur hB _=>hc b (by omega)) (fun b hb=>hc b (fun e=>by
    subst e
    rcases hb.2 with g|g
    · exact hF g
    · have:=g.1;omega))
 exact ⟨key h.dv,key h.pt,key h.lk,key h.dm,key h.st,key h.fl,key h.vr,key h.ir⟩
theorem dup_some {N:NV} {L:LV} {k:Nat} (hk:k<N.devices.length) (h:(N.devices.getD k DevV.zero).name=L.dev∨(N.devices.getD k DevV.zero).mac=L.mac):vGi N L=true:=by
 unfold vGi;rw [List.any_eq_true];refine ⟨N.devices.getD k DevV.zero,by simp [List.getD,hk],?_⟩;rw [Bool.or_eq_true,decide_eq_true_eq,decide_eq_true_eq];exact h
theorem dup_none {N:NV} {L:LV} (h:∀k,k<N.devices.length→¬((N.devices.getD k DevV.zero).name=L.dev∨(N.devices.getD k DevV.zero).mac=L.mac)):vGi N L=false:=by
 cases e:vGi N L with
 |false=>rfl
 |true=>
  unfold vGi at e;rw [List.any_eq_true] at e;obtain ⟨X,hX,hp⟩:=e;rw [Bool.or_eq_true,decide_eq_true_eq,decide_eq_true_eq] at hp;obtain ⟨k,hk,rfl⟩:=List.getElem_of_mem hX;exact absurd hp (by have:=h k hk;simpa [List.getD,hk] using this)
theorem rpdev_any (N:NV) (S:NSl3) (L:LV) (s1 s2 s3 s4:SlV) (w:World) (h:NRead w (vAs w) N S) (hl:LRead w L s1 s2 s3 s4) (hz:NvSz N) (hw:LvW L) (hs:LvSm L):Calls Tryz.prog 7 #[vBb S,vAw L s1 s2 s3 s4] w (vIs (pdN N L) (pdE N L) w):=by
 have UP:=hid (fun (w':World) (hb:Below w.heap.size w w')=>h.up hb);have UL:=hid (fun (w':World) (hb:Below w.heap.size w w')=>vAq hl hb)
 have FT:=fun (w':World) (hb:Below w.heap.size w w')=>fits_any N S L s1 s2 s3 s4 1 w' (h.up hb) (vAq hl hb) hw hs (.inl rfl)
 have CP:=fun (w':World) (hb:Below w.heap.size w w')=>rcopy_any (vAs w) N S w' (h.keep (F':=vAs w) (fun b g=>hb.block b g) (fun _ g=>g)) (fun b g=>Nat.lt_of_lt_of_le g hb.size) hz
 obtain ⟨v,hv⟩:∃v,vCh N L 1=v:=⟨_,rfl⟩;rw [hv] at FT;have HV:=hid hv;unfold vBb at FT CP;unfold GotCopy vBb at CP;have FT:=hid FT;have CP:=hid CP;have NLEN:=hid h.dv.len;have hle:=h.dv.le;have hcap:=h.dv.cap;clear hv hz hw hs;clear h hl;unfold vBb;rw [vEi]
 go_enter Tryz.func7,Tryz.ntmps7
 go_upto_region 1 with fail
 generalize hw1:World.alloc _ _=w1;obtain ⟨B1,NB,LB,ql1,RB⟩:=vFu (S:=S) (L:=L) (s1:=s1) (s2:=s2) (s3:=s3) (s4:=s4) hw1;clear hw1;replace B1:=hid B1;replace NB:=hid NB;replace LB:=hid LB;replace RB:=hid RB
 have KN:=hid (show ∀wx,Below w1.heap.size w1 wx→NF wx w.heap.size S∧(wx.cell? ⟨w.heap.size+1,0,none⟩=some (.int .i64 L.row)∧wx.cell? ⟨w.heap.size+1,2,none⟩=some (.string (str L.dev))∧wx.cell? ⟨w.heap.size+1,7,none⟩=some (.int .u64 L.mac)∧wx.cell? ⟨w.heap.size+1,11,none⟩=some (.int .i64 L.num))∧BoxF wx (w.heap.size+1) 17 (lc L s1 s2 s3 s4)∧NRead wx (vAs wx) N S∧LRead wx L s1 s2 s3 s4∧Below w.heap.size w wx from fun wx hx=>by
  have nb:=NB.out.below hx;have bx:=LB.out.below (by omega) hx;have b0:=B1.out.trans (hx.mono B1.out.size)
  exact ⟨⟨nb.c0,nb.c1,nb.c2,nb.c3,nb.c4,nb.c5,nb.c6,nb.c7⟩,⟨bx.cell 0 (by omega),bx.cell 2 (by omega),bx.cell 7 (by omega),bx.cell 11 (by omega)⟩,bx,UP.out _ b0,UL.out _ b0,b0⟩)
 have BS:=hid (Below.refl w1.heap.size w1);obtain ⟨⟨f0,f1,f2,f3,f4,f5,f6,f7⟩,⟨g0,g2,g7,g11⟩,lb_,_⟩:=KN.out w1 (Below.refl _ _)
 cases v
 · have EV:=hid (pd_2 HV.out)
   go_wp2_with (first
    |((with_reducible refine vAf ?hg (.tmp 3) ?ho (w.heap.size+1) ?hx L s1 s2 s3 s4 lb_ ?_);(case hg=>rfl);(case ho=>rfl);(case hx=>rfl))
    |(go_at_call 15;(with_reducible refine (FT.out _ B1.out).mono ?_);rintro e w2 ⟨rfl,b_⟩;have Y2:=hid b_;have rb_:=RB.out.below Y2.out;have rl_:=rb_.lt;obtain ⟨r0,z0,r1,z1,r2,z2,r3,z3,r4,z4,r5,z5,r6,z6,r7,z7⟩:=rb_.zero8;clear b_ rb_))
   refine bodyPost_ret (vHc _ (st8 w2 (w.heap.size+2) NSl3.nil) NSl3.nil (w.heap.size+2) 2 rfl rfl ((RB.out.below Y2.out).st8 NSl3.nil)) rfl ?_;rw [EV.out.1,EV.out.2];exact ⟨NSl3.nil,rfl,vCl _,Below.st8 (B1.out.trans (Y2.out.mono B1.out.size)) (by omega) NSl3.nil⟩
 have FI:=hid (vEl.1 HV.out)
 go_upto_block 0 with (first
  |((with_reducible refine vAf ?hg (.tmp 3) ?ho (w.heap.size+1) ?hx L s1 s2 s3 s4 lb_ ?_);(case hg=>rfl);(case ho=>rfl);(case hx=>rfl))
  |(go_at_call 15;(with_reducible refine (FT.out _ B1.out).mono ?_);rintro e w2 ⟨rfl,b_⟩;have Y2:=hid b_;have X2:=hid (vAa B1.out b_);obtain ⟨⟨f0,f1,f2,f3,f4,f5,f6,f7⟩,⟨g0,g2,g7,g11⟩,lb_,_⟩:=KN.out _ Y2.out;clear b_))
 clear f0 f1 f2 f3 f4 f5 f6 f7 g0 g2 g7 g11 lb_
 go_cut [] (fun wx=>vGi N L=false∧Below w1.heap.size w1 wx)
 case first=>
  obtain ⟨⟨f0,f1,f2,f3,f4,f5,f6,f7⟩,_⟩:=KN.out _ Y2.out;go_wp2_with fail;clear f0 f1 f2 f3 f4 f5 f6 f7
  go_loopw [6] (fun i wr=>∃k:Nat,i=.int .i64 k∧k≤S.dv.n∧Below w1.heap.size w1 wr∧∀j,j<k→¬((N.devices.getD j DevV.zero).name=L.dev∨(N.devices.getD j DevV.zero).mac=L.mac)) (fun i _=>match i with| .int _ y=>(S.dv.n - y).toNat|_=>0)
  case atStart=>exact ⟨0,rfl,by omega,Y2.out,fun j hj=>absurd hj (by omega)⟩
  case round=>
  obtain ⟨k,rfl,hk,hb,hall⟩:=hrel;have W:=hid hb;have AL:=hid hall;obtain ⟨⟨f0,_⟩,⟨g0,g2,g7,g11⟩,_,hrd,_,hbb⟩:=KN.out wr hb;have wl:w.heap.size+1<wr.heap.size:=Nat.lt_of_lt_of_le ql1 hb.size;clear hb hall
  by_cases hlt:k<S.dv.n
  rotate_left
  · have lt2:¬(k:Int)<(S.dv.n:Int):=by omega
    go_wp2
    go_meet
    exact ⟨dup_none (fun j hj=>AL.out j (by have:=NLEN.out;omega)),W.out⟩
  have lt2:(k:Int)<(S.dv.n:Int):=by omega
  have hkn:k<N.devices.length:=by rw [NLEN.out];exact hlt
  obtain ⟨b0,o0,vs,e0,_,hb0,hvs,r0⟩:=vAj hrd.dv k hlt DevV.zero;have hvs:vs=vId (N.devices.getD k DevV.zero):=hvs;subst hvs;obtain ⟨D,hD⟩:∃D,N.devices.getD k DevV.zero=D:=⟨_,rfl⟩;have HD:=hid hD;rw [hD] at r0;have d2:=r0 2 _ rfl;have d3:=r0 3 _ rfl;rw [show o0+k * devR.n=o0+k * 5 from rfl] at d2 d3;rw [e0] at f0;have DUP:=hid (fun (c:D.name=L.dev∨D.mac=L.mac)=>dup_some (L:=L) hkn (by rw [hD];exact c))
  clear hrd r0 e0 hD hbb hkn
  by_cases hn:D.name=L.dev
  · have x1:(D.name == L.dev)=true:=by simpa using hn
    have EV:=hid (pd_30 HV.out (DUP.out (.inl hn)));have rb_:=RB.out.below W.out;have rl_:=rb_.lt;obtain ⟨r0,z0,r1,z1,r2,z2,r3,z3,r4,z4,r5,z5,r6,z6,r7,z7⟩:=rb_.zero8;clear hn rb_;go_wp2
    go_quiet (fail)
    go_wp2;refine bodyPost_ret (vHc _ (st8 (wr.drewN _) (w.heap.size+2) NSl3.nil) NSl3.nil (w.heap.size+2) 30 rfl rfl ((RB.out.below (vAd W.out _)).st8 NSl3.nil)) rfl ?_;rw [EV.out.1,EV.out.2];exact ⟨NSl3.nil,rfl,vCl _,Below.st8 (B1.out.trans ((vAd W.out _).mono B1.out.size)) (by omega) NSl3.nil⟩
  · have x1:(D.name == L.dev)=false:=by simpa using hn
    by_cases hm:D.mac=L.mac
    · have x2:(D.mac == L.mac)=true:=by simpa using hm
      have EV:=hid (pd_30 HV.out (DUP.out (.inr hm)));have rb_:=RB.out.below W.out;have rl_:=rb_.lt;obtain ⟨r0,z0,r1,z1,r2,z2,r3,z3,r4,z4,r5,z5,r6,z6,r7,z7⟩:=rb_.zero8;clear hn hm rb_;go_wp2
      go_quiet (fail)
      go_wp2;refine bodyPost_ret (vHc _ (st8 (wr.drewN _) (w.heap.size+2) NSl3.nil) NSl3.nil (w.heap.size+2) 30 rfl rfl ((RB.out.below (vAd W.out _)).st8 NSl3.nil)) rfl ?_;rw [EV.out.1,EV.out.2];exact ⟨NSl3.nil,rfl,vCl _,Below.st8 (B1.out.trans ((vAd W.out _).mono B1.out.size)) (by omega) NSl3.nil⟩
    · have x2:(D.mac == L.mac)=false:=by simpa using hm
      have ALk:=hid (show ∀j,j<k+1→¬((N.devices.getD j DevV.zero).name=L.dev∨(N.devices.getD j DevV.zero).mac=L.mac) from fun j hj=>by
       rcases Nat.lt_or_ge j k with h'|h'
       · exact AL.out j h'
       · obtain rfl:j=k:=by omega
         rw [HD.out]
         exact fun c=>c.elim hn hm)
      clear hn hm;go_wp2
      go_quiet (fail)
      go_wp2
      go_roundw
      case rel=>exact ⟨k+1,by simp,by omega,by first|exact W.out|exact vAd W.out _,ALk.out⟩
      case measure=>simp only [];omega
 case rest=>
 obtain ⟨hdup,hbx⟩:=hcut;rename World=>w3;have ND:=hid hdup;have Y3:=hid hbx;clear hdup hbx;obtain ⟨⟨f0,f1,f2,f3,f4,f5,f6,f7⟩,⟨g0,g2,g7,g11⟩,_,_,_,hb3_⟩:=KN.out _ Y3.out;have X3:=hid hb3_;clear hb3_
 by_cases h8:8≤S.dv.n
 · have lt8:(8:Int)≤(S.dv.n:Int):=by omega
   have EV:=hid (pd_3 HV.out ND.out (by rw [NLEN.out];exact h8));have rb_:=RB.out.below Y3.out;have rl_:=rb_.lt;obtain ⟨r0,z0,r1,z1,r2,z2,r3,z3,r4,z4,r5,z5,r6,z6,r7,z7⟩:=rb_.zero8;clear rb_;go_wp2;refine bodyPost_ret (vHc _ (st8 w3 (w.heap.size+2) NSl3.nil) NSl3.nil (w.heap.size+2) 3 rfl rfl ((RB.out.below Y3.out).st8 NSl3.nil)) rfl ?_;rw [EV.out.1,EV.out.2];exact ⟨NSl3.nil,rfl,vCl _,Below.st8 (B1.out.trans (Y3.out.mono B1.out.size)) (by omega) NSl3.nil⟩
 have lt8:¬(8:Int)≤(S.dv.n:Int):=by omega
 have EV:=hid (pd_0 HV.out ND.out (by rw [NLEN.out];exact h8))
 go_upto_region 11 with (first
  |(go_at_call 16;(with_reducible refine (CP.out _ X3.out).mono ?_);rintro e w4 ⟨U,rfl,hown,hb_⟩;have OW:=hid hown;have B4:=hid hb_;have Y4:=hid (vAa Y3.out hb_);clear hown hb_))
 obtain ⟨w5,hw5⟩:∃w5,w4.alloc (.cells (nA U) 31)=w5:=⟨_,rfl⟩
 have A5:Below w4.heap.size w4 w5:=by rw [←hw5];exact (Below.refl _ _).alloc (Nat.le_refl _) _
 have O5:=hid (OW.out.up A5);have T5:=hid (show TBx w5 w4.heap.size 31 (vBx U) by rw [←hw5];exact TBx.new w4 _ _);have Y5:=hid (vAa Y4.out A5);have G5:=hid (show w3.heap.size≤w4.heap.size∧w4.heap.size≤w5.heap.size from ⟨B4.out.size,A5.size⟩);have Z3:=hid (show w.heap.size+2<w3.heap.size by have:=(RB.out.below Y3.out).lt;exact this);rw [hw5];clear hw5 A5 f0 f1 f2 f3 f4 f5 f6 f7 g0 g2 g7 g11
 obtain ⟨_,⟨g0,g2,g7,g11⟩,_⟩:=KN.out _ Y5.out;have ul_:=T5.out.lt;have u0:=T5.out.cell 0 (.slice U.dv.A U.dv.n U.dv.c) rfl
 have wl_:w.heap.size+1<w5.heap.size:=by have:=Z3.out;have:=G5.out;omega
 have HLEN:=hid (show N.devices.length≤7 by have:=NLEN.out;omega)
 go_upto_region 12 with (at_builtin;(refine wpList_ri1 devR rfl (.tmp 49) (.tmp 59) 22 Tryz.underlying22 (Desc.of (by kernel_rfl)) (by decide) rfl U.dv (O5.out.dv.up ((Below.refl _ _).alloc (Nat.le_refl _) (.cells (vId (devOf L)).toArray 57))) vEo ?hF w5.heap.size (vId (devOf L)) (devOf L) ?hu ?hy ?hn ?hB rfl rfl ?_);(case hF=>exact fun b g=>Nat.lt_of_lt_of_le g X3.out.size);(case hu=>exact (TBx.new w5 (vId (devOf L)).toArray 57).range);(case hy=>rfl);(case hn=>have:=HLEN.out;omega);(case hB=>have:=G5.out;simp;omega);intro u' w6 hr hc hb;have R6:=hid hr;have C6:=hid ((ChgT.of_below (B:=w3.heap.size) (T:=57) ((Below.refl _ _).alloc (Nat.le_refl _) (.cells (vId (devOf L)).toArray 57))).trans hc);have B6:=hid (show Below w3.heap.size w5 w6 from ((Below.refl _ _).alloc (by have:=G5.out;omega) (.cells (vId (devOf L)).toArray 57)).trans hb);have T6:=hid (T5.out.chg C6.out (by decide));have v0:=T6.out.cell 0 (.slice U.dv.A U.dv.n U.dv.c) rfl;have y0:=T6.out.live 0;clear hr hc hb)
 obtain ⟨w7,hw7⟩:∃w7,w6.setCell ⟨w4.heap.size,0,none⟩ (.slice u'.A u'.n u'.c)=w7:=⟨_,rfl⟩;obtain ⟨U',hU'⟩:∃U':NSl3,({U with dv:=u'}:NSl3)=U':=⟨_,rfl⟩;have T7:=hid (show TBx w7 w4.heap.size 31 (vBx U') by rw [←hw7,←hU'];exact T6.out.set 0 _);have C7:=hid (show ChgT w3.heap.size 31 w6 w7 by rw [←hw7];exact T6.out.chgT G5.out.1 0 _);have B7:=hid (show Below w3.heap.size w5 w7 by rw [←hw7];exact B6.out.setCell G5.out.1 _)
 have FF:=hid (show ∀b,vAs w b→b<w3.heap.size from fun b g=>Nat.lt_of_lt_of_le g X3.out.size);have O7:=hid (show NOwn w7 w3.heap.size (vAs w) (vCt N L) U' by rw [←hU'];exact ((O5.out.low (Nat.le_refl _)).setDv C6.out FF.out R6.out).box C7.out vDr FF.out);have Y7:=hid (show Below w1.heap.size w1 w7 from Y5.out.trans (B7.out.mono (by have:=Y3.out.size;exact this)));rw [hw7];clear hw7 hU' v0 y0 u0 ul_ g0 g2 g7 g11
 have rb_:=RB.out.below Y7.out;have rl_:=rb_.lt;have tl_:=T7.out.lt;have t0:=T7.out.cell 0 (.slice U'.dv.A U'.dv.n U'.dv.c) rfl;have r0:=rb_.cell 0 (.slice none 0 0) rfl;have z0:=rb_.live 0;have t1:=T7.out.cell 1 (.slice U'.pt.A U'.pt.n U'.pt.c) rfl;have r1:=rb_.cell 1 (.slice none 0 0) rfl;have z1:=rb_.live 1;have t2:=T7.out.cell 2 (.slice U'.lk.A U'.lk.n U'.lk.c) rfl;have r2:=rb_.cell 2 (.slice none 0 0) rfl
 have z2:=rb_.live 2;have t3:=T7.out.cell 3 (.slice U'.dm.A U'.dm.n U'.dm.c) rfl;have r3:=rb_.cell 3 (.slice none 0 0) rfl;have z3:=rb_.live 3;have t4:=T7.out.cell 4 (.slice U'.st.A U'.st.n U'.st.c) rfl;have r4:=rb_.cell 4 (.slice none 0 0) rfl;have z4:=rb_.live 4;have t5:=T7.out.cell 5 (.slice U'.fl.A U'.fl.n U'.fl.c) rfl;have r5:=rb_.cell 5 (.slice none 0 0) rfl;have z5:=rb_.live 5;have t6:=T7.out.cell 6 (.slice U'.vr.A U'.vr.n U'.vr.c) rfl
 have r6:=rb_.cell 6 (.slice none 0 0) rfl;have z6:=rb_.live 6;have t7:=T7.out.cell 7 (.slice U'.ir.A U'.ir.n U'.ir.c) rfl;have r7:=rb_.cell 7 (.slice none 0 0) rfl;have z7:=rb_.live 7;clear rb_;go_wp2;refine bodyPost_ret (vHc _ (st8 w7 (w.heap.size+2) U') U' (w.heap.size+2) 0 rfl rfl ((RB.out.below Y7.out).st8 U')) rfl ?_;rw [EV.out.1,EV.out.2];have ON:=O7.out.far (w':=st8 w7 (w.heap.size+2) U') (q:=w.heap.size+2) (by rw [vHd];exact Nat.le_refl _) (fun b hb=>vFy _ _ _ hb) Z3.out (by unfold vAs;omega)
 exact ⟨U',rfl,ON.read,Below.st8 (B1.out.trans (Y7.out.mono B1.out.size)) (by omega) U'⟩
theorem dvK_at {xs:List DevV} {k:Nat} (h:k<xs.length) (l:List UInt8):dvK (xs.drop k) l k=if (xs.getD k DevV.zero).name=l then (k:Int) else dvK (xs.drop (k+1)) l (k+1):=by
 rw [List.drop_eq_getElem_cons h,dvK];simp [List.getD,h]
theorem ptK_at {xs:List PortV} {k:Nat} (h:k<xs.length) (dev:Int) (l:List UInt8):ptK (xs.drop k) dev l k=if (xs.getD k PortV.zero).dev=dev∧(xs.getD k PortV.zero).name=l then (k:Int) else ptK (xs.drop (k+1)) dev l (k+1):=by
 rw [List.drop_eq_getElem_cons h,ptK];simp [List.getD,h]
theorem rdevice_any (N:NV) (S:NSl3) (l:List UInt8) (w:World) (h:NRead w (vAs w) N S):Calls Tryz.prog 18 #[vBb S,.string (str l)] w fun e w'=>e=.returned (.int .i64 (dvF N l))∧Below w.heap.size w w':=by
 have H:=hid h.dv;have hle:=h.dv.le;have hcap:=h.dv.cap;have HL:=hid h.dv.len;have E:=hid (show dvF N l=dvK (N.devices.drop 0) l 0 from rfl);generalize dvF N l=V at *;have NB:=hid (NBox.new w S 31);clear h;unfold vBb
 go_enter Tryz.func18,Tryz.ntmps18
 go_wp2;obtain ⟨w1,hw1⟩:∃w1,w.alloc (.cells (nA S) 31)=w1:=⟨_,rfl⟩;have B1:=hid (show Below w.heap.size w w1 by rw [←hw1];exact (Below.refl _ _).alloc (Nat.le_refl _) _);rw [hw1] at NB ⊢;clear hw1;have c3:=NB.out.c0
 go_loopw [5] (fun i wr=>∃k:Nat,i=.int .i64 k∧k≤S.dv.n∧wr=w1∧V=dvK (N.devices.drop k) l k) (fun i _=>match i with| .int _ y=>(S.dv.n - y).toNat|_=>0)
 case atStart=>exact ⟨0,rfl,by omega,rfl,E.out⟩
 case round=>
  obtain ⟨k,rfl,hk,hwr,hv⟩:=hrel;subst hwr;have HV:=hid hv;clear hv
  by_cases hlt:k<S.dv.n
  · obtain ⟨b0,o0,vs,e0,_,hb0,hvs,r0⟩:=vAj H.out k hlt DevV.zero
    have hvs:vs=vId (N.devices.getD k DevV.zero):=hvs;subst hvs
    have hk2:k<N.devices.length:=by rw [HL.out];exact hlt
    have AT:=hid (dvK_at hk2 l);generalize N.devices.getD k DevV.zero=D at *;have R1:=vAb r0 (B1.out.block b0 hb0);have d2:=R1 2 _ rfl;rw [show o0+k * devR.n=o0+k * 5 from rfl] at d2
    have lt2:(k:Int)<(S.dv.n:Int):=by omega
    rw [e0] at c3 ⊢;clear r0 R1 hk2
    by_cases hn:D.name=l
    · have x1:(D.name == l)=true:=by simpa using hn
      have EV:=hid (show V=(k:Int) by rw [HV.out,AT.out,if_pos hn]);clear hn;go_wp2;go_ret;exact ⟨by rw [EV.out];rfl,B1.out⟩
    · have x1:(D.name == l)=false:=by simpa using hn
      have EV:=hid (show V=dvK (N.devices.drop (k+1)) l (k+1) by rw [HV.out,AT.out,if_neg (by intro g;exact hn g)]);clear hn;go_wp2
      go_roundw
      case rel=>exact ⟨k+1,by simp,by omega,(by first|rfl|trivial),EV.out⟩
      case measure=>simp only [];omega
  · have lt2:¬(k:Int)<(S.dv.n:Int):=by omega
    have EV:=hid (show V= -1 by rw [HV.out,List.drop_of_length_le (by rw [HL.out];omega)];rfl);go_wp2;go_ret;exact ⟨by rw [EV.out];rfl,B1.out⟩
theorem rport_any (N:NV) (S:NSl3) (dev:Int) (l:List UInt8) (w:World) (h:NRead w (vAs w) N S):Calls Tryz.prog 19 #[vBb S,.int .i64 dev,.string (str l)] w fun e w'=>e=.returned (.int .i64 (ptF N dev l))∧Below w.heap.size w w':=by
 have H:=hid h.pt;have hle:=h.pt.le;have hcap:=h.pt.cap;have HL:=hid h.pt.len;have E:=hid (show ptF N dev l=ptK (N.ports.drop 0) dev l 0 from rfl);generalize ptF N dev l=V at *;have NB:=hid (NBox.new w S 31);clear h;unfold vBb
 go_enter Tryz.func19,Tryz.ntmps19
 go_wp2;obtain ⟨w1,hw1⟩:∃w1,w.alloc (.cells (nA S) 31)=w1:=⟨_,rfl⟩;have B1:=hid (show Below w.heap.size w w1 by rw [←hw1];exact (Below.refl _ _).alloc (Nat.le_refl _) _);rw [hw1] at NB ⊢;clear hw1;have c3:=NB.out.c1
 go_loopw [7] (fun i wr=>∃k:Nat,i=.int .i64 k∧k≤S.pt.n∧wr=w1∧V=ptK (N.ports.drop k) dev l k) (fun i _=>match i with| .int _ y=>(S.pt.n - y).toNat|_=>0)
 case atStart=>exact ⟨0,rfl,by omega,rfl,E.out⟩
 case round=>
  obtain ⟨k,rfl,hk,hwr,hv⟩:=hrel;subst hwr;have HV:=hid hv;clear hv
  by_cases hlt:k<S.pt.n
  · obtain ⟨b0,o0,vs,e0,_,hb0,⟨s,rfl,_⟩,r0⟩:=vAj H.out k hlt PortV.zero
    have hk2:k<N.ports.length:=by rw [HL.out];exact hlt
    have AT:=hid (ptK_at hk2 dev l);generalize N.ports.getD k PortV.zero=D at *;have R1:=vAb r0 (B1.out.block b0 hb0);have d1:=R1 1 _ rfl;have d5:=R1 5 _ rfl;rw [show o0+k * portR.n=o0+k * 7 from rfl] at d1 d5
    have lt2:(k:Int)<(S.pt.n:Int):=by omega
    rw [e0] at c3 ⊢;clear r0 R1 hk2
    by_cases hd:D.dev=dev
    · have x1:(D.dev == dev)=true:=by simpa using hd
      by_cases hn:D.name=l
      · have x2:(D.name == l)=true:=by simpa using hn
        have EV:=hid (show V=(k:Int) by rw [HV.out,AT.out,if_pos ⟨hd,hn⟩]);clear hd hn;go_wp2;go_ret;exact ⟨by rw [EV.out];rfl,B1.out⟩
      · have x2:(D.name == l)=false:=by simpa using hn
        have EV:=hid (show V=ptK (N.ports.drop (k+1)) dev l (k+1) by rw [HV.out,AT.out,if_neg (by intro g;exact hn g.2)]);clear hn;go_wp2
        go_roundw
        case rel=>exact ⟨k+1,by simp,by omega,(by first|rfl|trivial),EV.out⟩
        case measure=>simp only [];omega
    · have x1:(D.dev == dev)=false:=by simpa using hd
      have EV:=hid (show V=ptK (N.ports.drop (k+1)) dev l (k+1) by rw [HV.out,AT.out,if_neg (by intro g;exact hd g.1)]);clear hd;go_wp2
      go_roundw
      case rel=>exact ⟨k+1,by simp,by omega,(by first|rfl|trivial),EV.out⟩
      case measure=>simp only [];omega
  · have lt2:¬(k:Int)<(S.pt.n:Int):=by omega
    have EV:=hid (show V= -1 by rw [HV.out,List.drop_of_length_le (by rw [HL.out];omega)];rfl);go_wp2;go_ret;exact ⟨by rw [EV.out];rfl,B1.out⟩
end Go.Proofs.YtgnkpbgaoiaefaaGreat
