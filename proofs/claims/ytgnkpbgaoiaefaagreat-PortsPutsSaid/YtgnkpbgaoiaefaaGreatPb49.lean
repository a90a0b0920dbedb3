import Derived.Test.YtgnkpbgaoiaefaaGreatPb44
import Derived.Test.YtgnkpbgaoiaefaaGreatPb45
import Derived.Test.YtgnkpbgaoiaefaaGreatPb34
import Derived.Test.YtgnkpbgaoiaefaaGreatPb48
import Derived.Test.YtgnkpbgaoiaefaaGreatPb23
import Derived.Test.YtgnkpbgaoiaefaaGreatPb21
import Derived.Test.YtgnkpbgaoiaefaaGreatPb38
import Derived.Test.YtgnkpbgaoiaefaaGreatPb17
import Derived.Test.YtgnkpbgaoiaefaaGreatPb39
set_option maxRecDepth 100000
set_option maxHeartbeats 40000000
namespace Go.Proofs.YtgnkpbgaoiaefaaGreat
open Go.Lib (hid)
open Go.RowKit
theorem pd_dd {N:NV} {L:LV} (h:vCh N L 1=true):pdE N L=ddE N L:=by unfold pdE ddE;rw [if_neg (by rw [h];decide)]
theorem pd_h3 {N:NV} {L:LV} (h:vCh N L 1=true) (g:ddE N L≠0):pdN N L=NV.zero∧pdE N L=ddE N L:=pd_err (pd_dd h) g
theorem pd_h0 {N:NV} {L:LV} (h:vCh N L 1=true) (g:ddE N L=0):pdN N L=ddN N L∧pdE N L=0:=by
 have e:=(pd_dd h).trans g;exact ⟨by rw [(dd_ok g).1];unfold pdN;rw [if_pos e],e⟩
theorem dvF_cases (N:NV) (s:List UInt8):dvF N s= -1∨0≤dvF N s:=by
 rcases dvF_fst N s _ rfl with ⟨k,_,h,_⟩|⟨h,_⟩
 · exact .inr (by omega)
 · exact .inl h
theorem ptF_cases (N:NV) (dev:Int) (s:List UInt8):ptF N dev s= -1∨0≤ptF N dev s:=by
 rcases ptF_fst N dev s _ rfl with ⟨k,_,h,_⟩|⟨h,_⟩
 · exact .inr (by omega)
 · exact .inl h
theorem pp_dp {N:NV} {L:LV} (h:vCh N L 2=true):ppE N L=dpE N L:=by
 unfold ppE dpE;rw [if_neg (by rw [h];decide)]
 rcases dvF_cases N L.dev with d|d
 · rw [if_pos (show dvF N L.dev<0 by omega),if_pos d]
 · rw [if_neg (show ¬dvF N L.dev<0 by omega),if_neg (show ¬dvF N L.dev= -1 by omega)]
   rcases ptF_cases N (dvF N L.dev) L.port with p|p
   · rw [if_neg (show ¬0≤ptF N (dvF N L.dev) L.port by omega),if_neg (show ¬ptF N (dvF N L.dev) L.port≠-1 from fun g=>g p)]
   · rw [if_pos p,if_pos (show ptF N (dvF N L.dev) L.port≠-1 by omega)]
theorem pp_h3 {N:NV} {L:LV} (h:vCh N L 2=true) (g:dpE N L≠0):ppN N L=NV.zero∧ppE N L=dpE N L:=pp_err (pp_dp h) g
theorem pp_h0 {N:NV} {L:LV} (h:vCh N L 2=true) (g:dpE N L=0):ppN N L=dpN N L∧ppE N L=0:=by
 have e:=(pp_dp h).trans g;exact ⟨by unfold ppN dpN;rw [if_pos e,if_pos g],e⟩
theorem fits_tagged {N:NV} {L:LV} (h:vCh N L 2=true):L.tagged.length≤300:=by
 have f:=vEl.1 h;obtain ⟨_,_,_,_,t,e,_,_,_,_,ht⟩:=(rg_kd2 f.2.1 f.1).1;rw [e];exact Nat.le_trans (ls_len ht) (by decide)
theorem NRead.st8 {w:World} {q:Nat} {A U:NSl3} {N:NV} {P:Nat→Prop} (h:NRead w P N U) (hq:¬P q) (hP:∀b,P b→b<w.heap.size):NRead (Go.Proofs.YtgnkpbgaoiaefaaGreat.st8 w q A) (vAs (Go.Proofs.YtgnkpbgaoiaefaaGreat.st8 w q A)) N U:=
 h.keep (fun b g=>vFy _ _ _ (fun e=>hq (e▸g))) (fun b g=>by unfold vAs;rw [vHd];exact hP b g)
theorem RI.readB {α:Type} {R:Rdr α} {w:World} {B:Nat} {T:TypeId} {s:Sl3} {xs:List α} (h:RI R w B (fun _=>False) T s xs):RSl R w (fun b=>B≤b∧b<w.heap.size) s.A s.n s.c xs:=by
 obtain ⟨vs,h1,h2⟩:=h;obtain ⟨A,n,c⟩:=s
 rcases h1.2 with ⟨hv,hn⟩|⟨g,cap,cur,hv,hB,hh,hnc,hm,hs,ht⟩
 · injection hv with e1 e2 e3
   subst e1 e2 e3;exact ⟨hn,Nat.le_refl _,Nat.zero_le _,fun _=>rfl,fun h=>absurd h (Nat.lt_irrefl 0)⟩
 · injection hv with e1 e2 e3
   subst e1 e2 e3
   have hg:g<w.heap.size:=by
    rcases Nat.lt_or_ge g w.heap.size with h'|h'
    · exact h'
    · rw [Array.getElem?_eq_none h'] at hh;cases hh
   refine ⟨rfl,hnc,hm,fun e=>(by cases e),fun hn=>⟨g,0,rfl,⟨hB,hg⟩,hg,fun j x hx=>?_⟩⟩;obtain ⟨us,g1,g2⟩:=h2.at_ j x hx;refine ⟨us,R.keep g1 (fun _ _=>rfl) (fun b hb=>⟨hb.2.elim (fun f=>f.elim) (fun g=>g.1),hb.1⟩),fun i v hv=>?_⟩;have hi:=g2 i v hv;rw [←ht] at hi
   have hlt:j * R.n+i<xs.length * R.n:=by
    have:=(List.getElem?_eq_some_iff.1 hi).1
    rw [List.length_take] at this;omega
   rw [List.getElem?_take,if_pos hlt] at hi;rw [Nat.zero_add];simp only [World.cell?,hh];simpa using hi
theorem NOwn.readB {w:World} {B:Nat} {N:NV} {S:NSl3} (h:NOwn w B (fun _=>False) N S):NRead w (fun b=>B≤b∧b<w.heap.size) N S:=⟨h.dv.readB,h.pt.readB,h.lk.readB,h.dm.readB,h.st.readB,h.fl.readB,h.vr.readB,h.ir.readB⟩
def GotPutB (N:NV) (E:Int) (w:World) (e:Ending) (w':World):Prop:=∃U,e=.returned (.tuple #[vBb U,.int .i64 E])∧NRead w' (fun b=>w.heap.size≤b∧b<w'.heap.size) N U∧Below w.heap.size w w'
theorem vGf (w:World) (F:Nat→Prop):NRead w F NV.zero NSl3.nil:=⟨RSl.nil,RSl.nil,RSl.nil,RSl.nil,RSl.nil,RSl.nil,RSl.nil,RSl.nil⟩
def GotCo (N:NV) (w:World) (e:Ending) (w':World):Prop:=∃S,e=.returned (vBb S)∧NOwn w' w.heap.size (fun _=>False) N S∧Below w.heap.size w w'
theorem xncopy_co (N:NV) (S:NSl3) (w:World) (h:NRead w (vAs w) N S) (hs:NvSz N) (hm:NmSz N):Calls Tryz.prog 26 #[vBb S] w (GotCo N w):=(xncopy_own N S w h hs hm).mono fun _ _ g=>g.own
theorem res_put (tmps:Array Value) (W:World) (S:NSl3) (q:Nat) (E:Int) (h2:tmps[8]?.getD undef=.pointer (some ⟨q,0,none⟩)) (h5:tmps[9]?.getD undef=.int .i64 E) (hb:TBx W q 31 (vBx S)):
 (results Tryz.f13 tmps).run Tryz.prog W=.ok (.tuple #[vBb S,.int .i64 E]) W:=by
 have t0:=hb.cell 0 _ rfl;have t1:=hb.cell 1 _ rfl;have t2:=hb.cell 2 _ rfl;have t3:=hb.cell 3 _ rfl;have t4:=hb.cell 4 _ rfl;have t5:=hb.cell 5 _ rfl;have t6:=hb.cell 6 _ rfl;have t7:=hb.cell 7 _ rfl;clear hb;unfold vBb;simp [results,Tryz.results13,go_sem,h2,h5,t0,t1,t2,t3,t4,t5,t6,t7]
theorem put_any (f:FuncId) (hcf:vBk Tryz.prog f) (k:Int) (N:NV) (S:NSl3) (L:LV) (s1 s2 s3 s4:SlV) (w:World) (h:NRead w (vAs w) N S) (hl:LRead w L s1 s2 s3 s4) (hz:NvSz N) (hm:NmSz N) (hL:LvM L) (N':NV) (E:Int) (RN:NV) (RE:Int)
 (h2:vCh N L k=false→RN=NV.zero∧RE=2) (h3:vCh N L k=true→E≠0→RN=NV.zero∧RE=E) (h0:vCh N L k=true→E=0→RN=N'∧RE=0)
 (hf:vCh N L k=true→∀(U:NSl3) (q B:Nat) (t1 t2 t3 t4:SlV) (w':World),NOwn w' B (fun _=>False) N U→B≤q→TBx w' q 72 (vBx U)→LRead w' L t1 t2 t3 t4→RSl (Rdr.int .i64) w' (InB w' B (fun _=>False)) t1.A t1.n t1.c L.tagged→Calls Tryz.prog f #[.pointer (some ⟨q,0,none⟩),vAw L t1 t2 t3 t4] w' (GotDr N' E q B (fun _=>False) w')):
 Calls Tryz.prog 13 #[vBb S,vAw L s1 s2 s3 s4,.int .i64 k,.func (.func f) #[] #[]] w (GotPutB RN RE w):=by
 have UP:=hid (fun (w':World) (hb:Below w.heap.size w w')=>h.up hb);have UL:=hid (fun (w':World) (hb:Below w.heap.size w w')=>vAq hl hb)
 have RT:=fun (w':World) (hb:Below w.heap.size w w')=>cright_m L s1 s2 s3 s4 w' (vAq hl hb) hL
 have NR:=fun (w':World) (hb:Below w.heap.size w w')=>vEy N S w' (h.up hb) hz
 have CP:=fun (w':World) (hb:Below w.heap.size w w')=>xncopy_co N S w' (h.up hb) hz hm
 have CL:=fun (w':World) (hb:Below w.heap.size w w')=>copy_nil L s1 s2 s3 s4 w' (vAq hl hb) hL.sz
 obtain ⟨rv,hrv⟩:∃v,rgB L=v:=⟨_,rfl⟩;obtain ⟨nv,hnv⟩:∃v,netB N=v:=⟨_,rfl⟩
 have FB:vCh N L k=(decide (L.kind=k) && (rv && nv)):=by unfold vCh;rw [hrv,hnv]
 rw [hrv] at RT;rw [hnv] at NR;rw [FB] at h2 h3 h0 hf;unfold vBb at NR;unfold GotCo vBb at CP;unfold GotCpZ at CL;have RT:=hid RT;have NR:=hid NR;have CP:=hid CP;have CL:=hid CL;have H2:=hid h2;have H3:=hid h3;have H0:=hid h0;have HF:=hid hf;have CF:=hid hcf;have M0:=hid hL.mac.1;clear hz hm hL hrv hnv FB h2 h3 h0 hf hcf;clear h hl;unfold vBb;rw [vEi]
 go_enter Tryz.func13,Tryz.ntmps13
 go_upto_region 1 with fail
 generalize hw1:World.alloc _ _=w1;obtain ⟨B1,NB,LB,ql1,RB⟩:=vFu (S:=S) (L:=L) (s1:=s1) (s2:=s2) (s3:=s3) (s4:=s4) hw1;clear hw1;replace B1:=hid B1;replace NB:=hid NB;replace LB:=hid LB;replace RB:=hid RB
 have KN:=hid (show ∀wx,Below w1.heap.size w1 wx→NF wx w.heap.size S∧(wx.cell? ⟨w.heap.size+1,1,none⟩=some (.int .i64 L.kind))∧BoxF wx (w.heap.size+1) 17 (lc L s1 s2 s3 s4)∧NRead wx (vAs wx) N S∧LRead wx L s1 s2 s3 s4∧Below w.heap.size w wx from fun wx hx=>by
  have nb:=NB.out.below hx;have bx:=LB.out.below (by omega) hx;have b0:=B1.out.trans (hx.mono B1.out.size)
  exact ⟨⟨nb.c0,nb.c1,nb.c2,nb.c3,nb.c4,nb.c5,nb.c6,nb.c7⟩,bx.cell 1 (by omega),bx,UP.out _ b0,UL.out _ b0,b0⟩)
 have BS:=hid (Below.refl w1.heap.size w1);obtain ⟨⟨f0,f1,f2,f3,f4,f5,f6,f7⟩,g1,lb_,_⟩:=KN.out w1 (Below.refl _ _)
 by_cases hk:L.kind=k
 rotate_left
 · have x1:(L.kind != k)=true:=by simpa using hk
   have EV:=hid (H2.out (by simp [hk]));have rb_:=RB.out.below (Below.refl _ _);have rl_:=rb_.lt;obtain ⟨r0,z0,r1,z1,r2,z2,r3,z3,r4,z4,r5,z5,r6,z6,r7,z7⟩:=rb_.zero8;clear hk rb_;go_wp2;refine bodyPost_ret (res_put _ (st8 w1 (w.heap.size+2) NSl3.nil) NSl3.nil (w.heap.size+2) 2 rfl rfl ((RB.out.below (Below.refl _ _)).st8 NSl3.nil)) rfl ?_;rw [EV.out.1,EV.out.2];exact ⟨NSl3.nil,rfl,vGf _ _,Below.st8 (B1.out.trans ((Below.refl _ _).mono B1.out.size)) (by omega) NSl3.nil⟩
 have x1:(L.kind != k)=false:=by simpa using hk
 cases rv with
 |false=>
  have EV:=hid (H2.out (by simp));clear hk
  go_wp2_with (first
   |((with_reducible refine vAf ?hg (.tmp 5) ?ho (w.heap.size+1) ?hx L s1 s2 s3 s4 lb_ ?_);(case hg=>rfl);(case ho=>rfl);(case hx=>rfl))
   |(go_at_call 24;(with_reducible refine (RT.out _ B1.out).mono ?_);rintro e w2 ⟨rfl,b_⟩;have Y2:=hid b_;have X2:=hid (vAa B1.out b_);obtain ⟨⟨f0,f1,f2,f3,f4,f5,f6,f7⟩,g1,lb_,_⟩:=KN.out _ Y2.out;have rb_:=RB.out.below Y2.out;have rl_:=rb_.lt;obtain ⟨r0,z0,r1,z1,r2,z2,r3,z3,r4,z4,r5,z5,r6,z6,r7,z7⟩:=rb_.zero8;clear b_ rb_))
  refine bodyPost_ret (res_put _ (st8 w2 (w.heap.size+2) NSl3.nil) NSl3.nil (w.heap.size+2) 2 rfl rfl ((RB.out.below Y2.out).st8 NSl3.nil)) rfl ?_;rw [EV.out.1,EV.out.2];exact ⟨NSl3.nil,rfl,vGf _ _,Below.st8 (B1.out.trans (Y2.out.mono B1.out.size)) (by omega) NSl3.nil⟩
 |true=>
 cases nv with
 |false=>
  have EV:=hid (H2.out (by simp));clear hk
  go_wp2_with (first
   |((with_reducible refine vAf ?hg (.tmp 5) ?ho (w.heap.size+1) ?hx L s1 s2 s3 s4 lb_ ?_);(case hg=>rfl);(case ho=>rfl);(case hx=>rfl))
   |(go_at_call 24;(with_reducible refine (RT.out _ B1.out).mono ?_);rintro e w2 ⟨rfl,b_⟩;have Y2:=hid b_;have X2:=hid (vAa B1.out b_);obtain ⟨⟨f0,f1,f2,f3,f4,f5,f6,f7⟩,g1,lb_,_⟩:=KN.out _ Y2.out;clear b_)
   |(go_at_call 25;(with_reducible refine (NR.out _ X2.out).mono ?_);rintro e w3 ⟨rfl,b_⟩;have Y3:=hid (vAa Y2.out b_);have X3:=hid (vAa X2.out b_);obtain ⟨⟨f0,f1,f2,f3,f4,f5,f6,f7⟩,g1,lb_,_⟩:=KN.out _ Y3.out;have rb_:=RB.out.below Y3.out;have rl_:=rb_.lt;obtain ⟨r0,z0,r1,z1,r2,z2,r3,z3,r4,z4,r5,z5,r6,z6,r7,z7⟩:=rb_.zero8;clear b_ rb_))
  refine bodyPost_ret (res_put _ (st8 w3 (w.heap.size+2) NSl3.nil) NSl3.nil (w.heap.size+2) 2 rfl rfl ((RB.out.below Y3.out).st8 NSl3.nil)) rfl ?_;rw [EV.out.1,EV.out.2];exact ⟨NSl3.nil,rfl,vGf _ _,Below.st8 (B1.out.trans (Y3.out.mono B1.out.size)) (by omega) NSl3.nil⟩
 |true=>
 have TR:=hid (show (decide (L.kind=k) && (true && true))=true by simp [hk]);clear hk
 go_upto_region 4 with (first
  |((with_reducible refine vAf ?hg (.tmp 5) ?ho (w.heap.size+1) ?hx L s1 s2 s3 s4 lb_ ?_);(case hg=>rfl);(case ho=>rfl);(case hx=>rfl))
  |(go_at_call 24;(with_reducible refine (RT.out _ B1.out).mono ?_);rintro e w2 ⟨rfl,b_⟩;have Y2:=hid b_;have X2:=hid (vAa B1.out b_);obtain ⟨⟨f0,f1,f2,f3,f4,f5,f6,f7⟩,g1,lb_,_⟩:=KN.out _ Y2.out;clear b_)
  |(go_at_call 25;(with_reducible refine (NR.out _ X2.out).mono ?_);rintro e w3 ⟨rfl,b_⟩;have Y3:=hid (vAa Y2.out b_);have X3:=hid (vAa X2.out b_);obtain ⟨⟨f0,f1,f2,f3,f4,f5,f6,f7⟩,g1,lb_,_⟩:=KN.out _ Y3.out;clear b_)
  |(go_at_call 26;(with_reducible refine (CP.out _ X3.out).mono ?_);rintro e w4 ⟨U,rfl,hown,hb_⟩;have OW:=hid hown;have B4:=hid hb_;have Y4:=hid (vAa Y3.out hb_);clear hown hb_))
 obtain ⟨w5,hw5⟩:∃w5,w4.alloc (.cells (nA U) 72)=w5:=⟨_,rfl⟩
 have A5:Below w4.heap.size w4 w5:=by rw [←hw5];exact (Below.refl _ _).alloc (Nat.le_refl _) _
 obtain ⟨q7,hq7⟩:∃q,w4.heap.size=q:=⟨_,rfl⟩;have O5:=hid (OW.out.up A5);have T5:=hid (show TBx w5 q7 72 (vBx U) by rw [←hw5,←hq7];exact TBx.new w4 _ _);have Y5:=hid (vAa Y4.out A5);have X5:=hid (B1.out.trans (Y5.out.mono B1.out.size));have G5:=hid (show w3.heap.size≤q7∧q7<w5.heap.size from ⟨by rw [←hq7];exact B4.out.size,T5.out.lt⟩);have Z3:=hid (show w.heap.size+2<w3.heap.size by have:=(RB.out.below Y3.out).lt;exact this)
 rw [hw5,hq7];clear hw5 hq7 A5 f0 f1 f2 f3 f4 f5 f6 f7 g1 lb_ x1;obtain ⟨_,_,lb_,_⟩:=KN.out _ Y5.out
 go_upto_region 5 with (first
  |((with_reducible refine vAf ?hg (.tmp 5) ?ho (w.heap.size+1) ?hx L s1 s2 s3 s4 lb_ ?_);(case hg=>rfl);(case ho=>rfl);(case hx=>rfl))
  |(go_at_call 27;(with_reducible refine (CL.out _ X5.out).mono ?_);rintro e w6 ⟨t1,t2,t3,t4,rfl,hlr,hnew,hty,hnil,hb_⟩;have LR:=hid hlr;have TG:=hid (isl_own hlr.1 hnew.1 hty.1 hnil.1);have Y6:=hid (vAa Y5.out hb_);have T6:=hid (T5.out.below hb_);have O6:=hid (O5.out.up hb_);have S6:=hid hb_.size;clear hlr hnew hty hnil hb_)
  |((rw [CF.out _ _]);(refine (HF.out TR.out U q7 w3.heap.size t1 t2 t3 t4 _ O6.out G5.out.1 T6.out LR.out (TG.out.keep (fun _ _=>rfl) (fun b hb=>⟨hb.2.lt,.inr ⟨by have:=G5.out;have:=hb.1;omega,hb.2⟩⟩))).mono ?_);rintro e w7 ⟨U9,rfl,htb,hno,hb_⟩;have T7:=hid htb;have O7:=hid hno;have B7:=hid hb_;clear htb hno hb_))
 clear lb_;have Y7:=hid (show Below w1.heap.size w1 w7 from Y6.out.trans (B7.out.mono (by have:=Y3.out.size;exact this)));have rb_:=RB.out.below Y7.out;have rl_:=rb_.lt;obtain ⟨r0,z0,r1,z1,r2,z2,r3,z3,r4,z4,r5,z5,r6,z6,r7,z7⟩:=rb_.zero8
 by_cases he:E=0
 rotate_left
 · have x1:(E != 0)=true:=by simpa using he
   have EV:=hid (H3.out TR.out he);clear he rb_;go_wp2;refine bodyPost_ret (res_put _ (st8 w7 (w.heap.size+2) NSl3.nil) NSl3.nil (w.heap.size+2) E rfl rfl ((RB.out.below Y7.out).st8 NSl3.nil)) rfl ?_;rw [EV.out.1,EV.out.2];exact ⟨NSl3.nil,rfl,vGf _ _,Below.st8 (B1.out.trans (Y7.out.mono B1.out.size)) (by omega) NSl3.nil⟩
 have x1:(E != 0)=false:=by simpa using he
 have EV:=hid (H0.out TR.out he);have tl_:=T7.out.lt;have t_0:=T7.out.cell 0 (.slice U9.dv.A U9.dv.n U9.dv.c) rfl;have t_1:=T7.out.cell 1 (.slice U9.pt.A U9.pt.n U9.pt.c) rfl;have t_2:=T7.out.cell 2 (.slice U9.lk.A U9.lk.n U9.lk.c) rfl;have t_3:=T7.out.cell 3 (.slice U9.dm.A U9.dm.n U9.dm.c) rfl;have t_4:=T7.out.cell 4 (.slice U9.st.A U9.st.n U9.st.c) rfl;have t_5:=T7.out.cell 5 (.slice U9.fl.A U9.fl.n U9.fl.c) rfl
 have t_6:=T7.out.cell 6 (.slice U9.vr.A U9.vr.n U9.vr.c) rfl;have t_7:=T7.out.cell 7 (.slice U9.ir.A U9.ir.n U9.ir.c) rfl;clear he rb_;go_wp2;refine bodyPost_ret (res_put _ (st8 w7 (w.heap.size+2) U9) U9 (w.heap.size+2) 0 rfl rfl ((RB.out.below Y7.out).st8 U9)) rfl ?_;rw [EV.out.1,EV.out.2];have ON:=O7.out.far (w':=st8 w7 (w.heap.size+2) U9) (q:=w.heap.size+2) (by rw [vHd];exact Nat.le_refl _) (fun b hb=>vFy _ _ _ hb) Z3.out (fun g=>g)
 exact ⟨U9,rfl,ON.readB.keep (fun _ _=>rfl) (fun b g=>⟨by have:=B1.out.size;have:=Y3.out.size;have:=g.1;omega,g.2⟩),Below.st8 (B1.out.trans (Y7.out.mono B1.out.size)) (by omega) U9⟩
theorem res_pdev (tmps:Array Value) (W:World) (S:NSl3) (q:Nat) (E:Int) (h2:tmps[4]?.getD undef=.pointer (some ⟨q,0,none⟩)) (h5:tmps[5]?.getD undef=.int .i64 E) (hb:TBx W q 31 (vBx S)):
 (results Tryz.f6 tmps).run Tryz.prog W=.ok (.tuple #[vBb S,.int .i64 E]) W:=by
 have t0:=hb.cell 0 _ rfl;have t1:=hb.cell 1 _ rfl;have t2:=hb.cell 2 _ rfl;have t3:=hb.cell 3 _ rfl;have t4:=hb.cell 4 _ rfl;have t5:=hb.cell 5 _ rfl;have t6:=hb.cell 6 _ rfl;have t7:=hb.cell 7 _ rfl;clear hb;unfold vBb;simp [results,Tryz.results6,go_sem,h2,h5,t0,t1,t2,t3,t4,t5,t6,t7]
theorem enters_pdev:vBk Tryz.prog 14:=vBd Tryz.func14 (by kernel_rfl) rfl
theorem pdev_any (N:NV) (S:NSl3) (L:LV) (s1 s2 s3 s4:SlV) (w:World) (h:NRead w (vAs w) N S) (hl:LRead w L s1 s2 s3 s4) (hz:NvSz N) (hm:NmSz N) (hL:LvM L):Calls Tryz.prog 6 #[vBb S,vAw L s1 s2 s3 s4] w (vIs (pdN N L) (pdE N L) w):=by
 have PU:=fun (w':World) (hb:Below w.heap.size w w')=>put_any 14 enters_pdev 1 N S L s1 s2 s3 s4 w' (h.up hb) (vAq hl hb) hz hm hL (ddN N L) (ddE N L) (pdN N L) (pdE N L) pd_2 pd_h3 pd_h0 (fun f U q B t1 t2 t3 t4 w' hN hB hb _ _=>ddev_any N U q B _ L t1 t2 t3 t4 w' hN (fun _ g=>g.elim) hB hb hz (vEl.1 f).2.2 (by have:=hL.sz.txt.1;omega))
 have UP:=hid (fun (w':World) (hb:Below w.heap.size w w')=>h.up hb);have UL:=hid (fun (w':World) (hb:Below w.heap.size w w')=>vAq hl hb);obtain ⟨RN,hRN⟩:∃v,pdN N L=v:=⟨_,rfl⟩;obtain ⟨RE,hRE⟩:∃v,pdE N L=v:=⟨_,rfl⟩;rw [hRN,hRE] at PU ⊢;clear hRN hRE;unfold GotPutB vBb at PU;have PU:=hid PU;clear hz hm hL;clear h hl;unfold vBb;rw [vEi]
 go_enter Tryz.func6,Tryz.ntmps6
 go_upto_region 1 with fail
 generalize hw1:World.alloc _ _=w1;obtain ⟨B1,NB,LB,ql1,RB⟩:=vFu (S:=S) (L:=L) (s1:=s1) (s2:=s2) (s3:=s3) (s4:=s4) hw1;clear hw1;replace B1:=hid B1;replace NB:=hid NB;replace LB:=hid LB;replace RB:=hid RB
 have KN:=hid (show ∀wx,Below w1.heap.size w1 wx→NF wx w.heap.size S∧(wx.cell? ⟨w.heap.size+1,1,none⟩=some (.int .i64 L.kind))∧BoxF wx (w.heap.size+1) 17 (lc L s1 s2 s3 s4)∧NRead wx (vAs wx) N S∧LRead wx L s1 s2 s3 s4∧Below w.heap.size w wx from fun wx hx=>by
  have nb:=NB.out.below hx;have bx:=LB.out.below (by omega) hx;have b0:=B1.out.trans (hx.mono B1.out.size)
  exact ⟨⟨nb.c0,nb.c1,nb.c2,nb.c3,nb.c4,nb.c5,nb.c6,nb.c7⟩,bx.cell 1 (by omega),bx,UP.out _ b0,UL.out _ b0,b0⟩)
 have BS:=hid (Below.refl w1.heap.size w1);obtain ⟨⟨f0,f1,f2,f3,f4,f5,f6,f7⟩,g1,lb_,_⟩:=KN.out w1 (Below.refl _ _)
 go_wp2_with (first
  |((with_reducible refine vAf ?hg (.tmp 3) ?ho (w.heap.size+1) ?hx L s1 s2 s3 s4 lb_ ?_);(case hg=>rfl);(case ho=>rfl);(case hx=>rfl))
  |(go_at_call 13;(with_reducible refine (PU.out _ B1.out).mono ?_);rintro e w2 ⟨U,rfl,hr,b_⟩;have R2:=hid hr;have Y2:=hid b_;have rb_:=RB.out.below Y2.out;have rl_:=rb_.lt;obtain ⟨r0,z0,r1,z1,r2,z2,r3,z3,r4,z4,r5,z5,r6,z6,r7,z7⟩:=rb_.zero8;clear hr b_ rb_))
 refine bodyPost_ret (res_pdev _ (st8 w2 (w.heap.size+2) U) U (w.heap.size+2) RE rfl rfl ((RB.out.below Y2.out).st8 U)) rfl ?_;exact ⟨U,rfl,R2.out.st8 (q:=w.heap.size+2) (A:=U) (fun g=>by have:=g.1;have:=ql1;have:=RB.out.lt;omega) (fun b g=>g.2),Below.st8 (B1.out.trans (Y2.out.mono B1.out.size)) (by omega) U⟩
theorem res_pport (tmps:Array Value) (W:World) (S:NSl3) (q:Nat) (E:Int) (h2:tmps[4]?.getD undef=.pointer (some ⟨q,0,none⟩)) (h5:tmps[5]?.getD undef=.int .i64 E) (hb:TBx W q 31 (vBx S)):
 (results Tryz.f8 tmps).run Tryz.prog W=.ok (.tuple #[vBb S,.int .i64 E]) W:=by
 have t0:=hb.cell 0 _ rfl;have t1:=hb.cell 1 _ rfl;have t2:=hb.cell 2 _ rfl;have t3:=hb.cell 3 _ rfl;have t4:=hb.cell 4 _ rfl;have t5:=hb.cell 5 _ rfl;have t6:=hb.cell 6 _ rfl;have t7:=hb.cell 7 _ rfl;clear hb;unfold vBb;simp [results,Tryz.results8,go_sem,h2,h5,t0,t1,t2,t3,t4,t5,t6,t7]
theorem enters_pport:vBk Tryz.prog 17:=vBd Tryz.func17 (by kernel_rfl) rfl
theorem pport_any (N:NV) (S:NSl3) (L:LV) (s1 s2 s3 s4:SlV) (w:World) (h:NRead w (vAs w) N S) (hl:LRead w L s1 s2 s3 s4) (hz:NvSz N) (hm:NmSz N) (hL:LvM L):Calls Tryz.prog 8 #[vBb S,vAw L s1 s2 s3 s4] w (vIs (ppN N L) (ppE N L) w):=by
 have PU:=fun (w':World) (hb:Below w.heap.size w w')=>put_any 17 enters_pport 2 N S L s1 s2 s3 s4 w' (h.up hb) (vAq hl hb) hz hm hL (dpN N L) (dpE N L) (ppN N L) (ppE N L) pp_2 pp_h3 pp_h0 (fun f U q B t1 t2 t3 t4 w' hN hB hb hl2 ht=>dport_any N U q B _ L t1 t2 t3 t4 w' hN (fun _ g=>g.elim) hB hb hz (vEl.1 f).2.2 hl2 ht (fits_tagged f) (by have:=hL.sz.txt.1;omega) (by have:=hL.sz.txt.2.1;omega))
 have UP:=hid (fun (w':World) (hb:Below w.heap.size w w')=>h.up hb);have UL:=hid (fun (w':World) (hb:Below w.heap.size w w')=>vAq hl hb);obtain ⟨RN,hRN⟩:∃v,ppN N L=v:=⟨_,rfl⟩;obtain ⟨RE,hRE⟩:∃v,ppE N L=v:=⟨_,rfl⟩;rw [hRN,hRE] at PU ⊢;clear hRN hRE;unfold GotPutB vBb at PU;have PU:=hid PU;clear hz hm hL;clear h hl;unfold vBb;rw [vEi]
 go_enter Tryz.func8,Tryz.ntmps8
 go_upto_region 1 with fail
 generalize hw1:World.alloc _ _=w1;obtain ⟨B1,NB,LB,ql1,RB⟩:=vFu (S:=S) (L:=L) (s1:=s1) (s2:=s2) (s3:=s3) (s4:=s4) hw1;clear hw1;replace B1:=hid B1;replace NB:=hid NB;replace LB:=hid LB;replace RB:=hid RB
 have KN:=hid (show ∀wx,Below w1.heap.size w1 wx→NF wx w.heap.size S∧(wx.cell? ⟨w.heap.size+1,1,none⟩=some (.int .i64 L.kind))∧BoxF wx (w.heap.size+1) 17 (lc L s1 s2 s3 s4)∧NRead wx (vAs wx) N S∧LRead wx L s1 s2 s3 s4∧Below w.heap.size w wx from fun wx hx=>by
  have nb:=NB.out.below hx;have bx:=LB.out.below (by omega) hx;have b0:=B1.out.trans (hx.mono B1.out.size)
  exact ⟨⟨nb.c0,nb.c1,nb.c2,nb.c3,nb.c4,nb.c5,nb.c6,nb.c7⟩,bx.cell 1 (by omega),bx,UP.out _ b0,UL.out _ b0,b0⟩)
 have BS:=hid (Below.refl w1.heap.size w1);obtain ⟨⟨f0,f1,f2,f3,f4,f5,f6,f7⟩,g1,lb_,_⟩:=KN.out w1 (Below.refl _ _)
 go_wp2_with (first
  |((with_reducible refine vAf ?hg (.tmp 3) ?ho (w.heap.size+1) ?hx L s1 s2 s3 s4 lb_ ?_);(case hg=>rfl);(case ho=>rfl);(case hx=>rfl))
  |(go_at_call 13;(with_reducible refine (PU.out _ B1.out).mono ?_);rintro e w2 ⟨U,rfl,hr,b_⟩;have R2:=hid hr;have Y2:=hid b_;have rb_:=RB.out.below Y2.out;have rl_:=rb_.lt;obtain ⟨r0,z0,r1,z1,r2,z2,r3,z3,r4,z4,r5,z5,r6,z6,r7,z7⟩:=rb_.zero8;clear hr b_ rb_))
 refine bodyPost_ret (res_pport _ (st8 w2 (w.heap.size+2) U) U (w.heap.size+2) RE rfl rfl ((RB.out.below Y2.out).st8 U)) rfl ?_;exact ⟨U,rfl,R2.out.st8 (q:=w.heap.size+2) (A:=U) (fun g=>by have:=g.1;have:=ql1;have:=RB.out.lt;omega) (fun b g=>g.2),Below.st8 (B1.out.trans (Y2.out.mono B1.out.size)) (by omega) U⟩
def xL1:LV:=⟨0,1,[97],[],[],[],[],1,0,0,0,0,0,[],[],[],[]⟩
def xL2:LV:=⟨0,2,[97],[112],[],[],[],0,0,0,10,0,1,[],[],[],[]⟩
def exN1:NV:={NV.zero with devices:=[⟨0,0,[97],1,0⟩]}
def exN2:NV:={NV.zero with devices:=[⟨0,0,[97],1,0⟩],ports:=[⟨0,0,10,1,-1,[112],[]⟩],domains:=[⟨0,10,0,-1,0,[]⟩]}
theorem nm_a:nmB [97]=true:=(vGv _).2 ⟨by decide,by decide,by unfold Lc;decide,fun j hj=>by
 obtain rfl:j=0:=by have h:j<1:=hj;omega
 exact .inl (by unfold Lc;decide)⟩
theorem nm_p:nmB [112]=true:=(vGv _).2 ⟨by decide,by decide,by unfold Lc;decide,fun j hj=>by
 obtain rfl:j=0:=by have h:j<1:=hj;omega
 exact .inl (by unfold Lc;decide)⟩
theorem ex_rg1:rgB xL1=true:=rgB_read 0 xL1 (.inl ⟨[97],0,1,rfl,nm_a,⟨by decide,by decide⟩,⟨by decide,by decide,by decide⟩⟩)
theorem ex_rg2:rgB xL2=true:=rgB_read 0 xL2 (.inr (.inl ⟨⟨[97],[112],1,10,[],rfl,nm_a,nm_p,⟨by decide,by decide⟩,⟨by decide,by decide⟩,.inl rfl⟩,by decide⟩))
theorem ex_f1:vCh NV.zero xL1 1=true:=vEl.2 ⟨rfl,ex_rg1,none_ok⟩
theorem ex_d1:pdN NV.zero xL1=exN1∧pdE NV.zero xL1=0:=by
 have h:=pd_0 ex_f1 (by decide) (by decide);exact ⟨h.1.trans rfl,h.2⟩
theorem ex_ok1:NetOk exN1:=by
 have h:=withDev_ok (L:=xL1) none_ok (by decide);exact (show vCt NV.zero xL1=exN1 from rfl)▸h
theorem ex_f2:vCh exN1 xL2 2=true:=vEl.2 ⟨rfl,ex_rg2,ex_ok1⟩
theorem ex_p2:ppN exN1 xL2=exN2∧ppE exN1 xL2=0:=by
 have h:=pp_0 ex_f2 (by decide) (by decide) (by decide);exact ⟨h.1.trans rfl,h.2⟩
theorem ex_ok2:NetOk exN2:=by
 have k:=rg_kd2 ex_rg2 rfl;have h:=withPort_ok (N:=exN1) (L:=xL2) ex_ok1 k.1 k.2 (by decide) (by decide) (by decide);exact (show vAp exN1 xL2=exN2 from rfl)▸h
theorem ex_f3:vCh exN2 xL2 2=true:=vEl.2 ⟨rfl,ex_rg2,ex_ok2⟩
theorem ex_p3:ppN exN2 xL2=NV.zero∧ppE exN2 xL2=30:=pp_30 ex_f3 (by decide) (by decide)
theorem ex_sz1:NvSz exN1:=by
 refine ⟨by decide,by decide,by decide,by decide,by decide,by decide,by decide,by decide,?_,?_,?_,?_⟩<;>(intro j hj;exact absurd hj (by simp [exN1,NV.zero]))
theorem ex_sz2:NvSz exN2:=by
 refine ⟨by decide,by decide,by decide,by decide,by decide,by decide,by decide,by decide,fun j hj=>?_,fun j hj=>?_,fun j hj=>?_,fun j hj=>?_⟩
 · obtain rfl:j=0:=by simp [exN2] at hj;omega
   decide
 · obtain rfl:j=0:=by simp [exN2] at hj;omega
   decide
 · exact absurd hj (by simp [exN2,NV.zero])
 · exact absurd hj (by simp [exN2,NV.zero])
theorem zero_nm:NmSz NV.zero:=⟨fun k hk=>absurd hk (by simp [NV.zero]),fun k hk=>absurd hk (by simp [NV.zero]),fun k hk=>absurd hk (by simp [NV.zero])⟩
theorem ex_nm1:NmSz exN1:=by
 refine ⟨fun k hk=>?_,fun k hk=>absurd hk (by simp [exN1,NV.zero]),fun k hk=>absurd hk (by simp [exN1,NV.zero])⟩
 obtain rfl:k=0:=by simp [exN1] at hk;omega
 decide
theorem ex_nm2:NmSz exN2:=by
 refine ⟨fun k hk=>?_,fun k hk=>?_,fun k hk=>absurd hk (by simp [exN2,NV.zero])⟩
 · obtain rfl:k=0:=by simp [exN2] at hk;omega
   decide
 · obtain rfl:k=0:=by simp [exN2] at hk;omega
   decide
theorem ex_m1:LvM xL1:=⟨⟨by decide,by decide⟩,by decide,by decide⟩
theorem ex_m2:LvM xL2:=⟨⟨by decide,by decide⟩,by decide,by decide⟩
theorem nil_read (w:World) (L:LV) (h:L.tagged=[]∧L.imports=[]∧L.exports=[]∧L.addrs=[]):LRead w L SlV.nil SlV.nil SlV.nil SlV.nil:=by
 obtain ⟨h1,h2,h3,h4⟩:=h;unfold LRead;rw [h1,h2,h3,h4];exact ⟨ISl.nil,ISl.nil,ISl.nil,ISl.nil⟩
theorem ex_put1 (w:World):Calls Tryz.prog 6 #[.agg #[.slice none 0 0,.slice none 0 0,.slice none 0 0,.slice none 0 0,.slice none 0 0,.slice none 0 0,.slice none 0 0,.slice none 0 0],.agg #[.int .i64 0,.int .i64 1,.string ⟨#[97]⟩,.string ⟨#[]⟩,.string ⟨#[]⟩,.string ⟨#[]⟩,.string ⟨#[]⟩,.int .u64 1,.int .u32 0,.int .i64 0,.int .i64 0,.int .i64 0,.int .i64 0,.slice none 0 0,.slice none 0 0,.slice none 0 0,.slice none 0 0]] w (vIs exN1 0 w):=by
 have h:=pdev_any NV.zero NSl3.nil xL1 SlV.nil SlV.nil SlV.nil SlV.nil w (vCl w) (nil_read w xL1 ⟨rfl,rfl,rfl,rfl⟩) none_sz zero_nm ex_m1;rw [ex_d1.1,ex_d1.2] at h;exact h
theorem ex_put2 (N:NV) (S:NSl3) (w:World) (h:NRead w (vAs w) N S) (hz:NvSz N) (hm:NmSz N):Calls Tryz.prog 8 #[.agg #[.slice S.dv.A S.dv.n S.dv.c,.slice S.pt.A S.pt.n S.pt.c,.slice S.lk.A S.lk.n S.lk.c,.slice S.dm.A S.dm.n S.dm.c,.slice S.st.A S.st.n S.st.c,.slice S.fl.A S.fl.n S.fl.c,.slice S.vr.A S.vr.n S.vr.c,.slice S.ir.A S.ir.n S.ir.c],.agg #[.int .i64 0,.int .i64 2,.string ⟨#[97]⟩,.string ⟨#[112]⟩,.string ⟨#[]⟩,.string ⟨#[]⟩,.string ⟨#[]⟩,.int .u64 0,.int .u32 0,.int .i64 0,.int .i64 10,.int .i64 0,.int .i64 1,.slice none 0 0,.slice none 0 0,.slice none 0 0,.slice none 0 0]] w (vIs (ppN N xL2) (ppE N xL2) w):=
 pport_any N S xL2 SlV.nil SlV.nil SlV.nil SlV.nil w h (nil_read w xL2 ⟨rfl,rfl,rfl,rfl⟩) hz hm ex_m2
theorem works16_any (w:World):Calls Tryz.prog 5 #[] w fun e w'=>e=.returned (.bool true)∧Below w.heap.size w w':=by
 have P1:=fun (w':World)=>ex_put1 w'
 have P2:=fun (U:NSl3) (w':World) (h:NRead w' (vAs w') exN1 U)=>ex_put2 exN1 U w' h ex_sz1 ex_nm1
 have P3:=fun (U:NSl3) (w':World) (h:NRead w' (vAs w') exN2 U)=>ex_put2 exN2 U w' h ex_sz2 ex_nm2
 rw [ex_p2.1,ex_p2.2] at P2;rw [ex_p3.1,ex_p3.2] at P3;unfold vIs vBb at P1 P2 P3;have P1:=hid P1;have P2:=hid P2;have P3:=hid P3
 go_enter Tryz.func5,Tryz.ntmps5
 go_upto_region 2 with (go_at_call 6;(refine (P1.out _).mono ?_);rintro e w1 ⟨U,rfl,hr,hb⟩;have R1:=hid hr;have B1:=hid hb;clear hr hb)
 obtain ⟨w2,hw2⟩:∃w2,w1.alloc (.cells (nA U) 31)=w2:=⟨_,rfl⟩
 have A2:Below w1.heap.size w1 w2:=by rw [←hw2];exact vAc _ _
 have NB2:=hid (show NBox w2 w1.heap.size U by rw [←hw2];exact NBox.new _ _ _);have R2:=hid (R1.out.up A2);have B2:=hid (B1.out.trans (A2.mono B1.out.size));rw [hw2];clear hw2 A2;have q1:=NB2.out.lt
 obtain ⟨f0,f1,f2,f3,f4,f5,f6,f7⟩:w2.cell? ⟨w1.heap.size,0,none⟩=some (.slice U.dv.A U.dv.n U.dv.c)∧w2.cell? ⟨w1.heap.size,1,none⟩=some (.slice U.pt.A U.pt.n U.pt.c)∧w2.cell? ⟨w1.heap.size,2,none⟩=some (.slice U.lk.A U.lk.n U.lk.c)∧w2.cell? ⟨w1.heap.size,3,none⟩=some (.slice U.dm.A U.dm.n U.dm.c)∧w2.cell? ⟨w1.heap.size,4,none⟩=some (.slice U.st.A U.st.n U.st.c)∧w2.cell? ⟨w1.heap.size,5,none⟩=some (.slice U.fl.A U.fl.n U.fl.c)∧w2.cell? ⟨w1.heap.size,6,none⟩=some (.slice U.vr.A U.vr.n U.vr.c)∧w2.cell? ⟨w1.heap.size,7,none⟩=some (.slice U.ir.A U.ir.n U.ir.c):=by have nb:=NB2.out;exact ⟨nb.c0,nb.c1,nb.c2,nb.c3,nb.c4,nb.c5,nb.c6,nb.c7⟩
 go_upto_region 3 with (go_at_call 8;(refine (P2.out U _ R2.out).mono ?_);rintro e w3 ⟨V,rfl,hr,hb⟩;have R3:=hid hr;have B3:=hid (B2.out.trans (hb.mono B2.out.size));clear hr hb)
 clear f0 f1 f2 f3 f4 f5 f6 f7 q1;obtain ⟨w4,hw4⟩:∃w4,w3.alloc (.cells (nA V) 31)=w4:=⟨_,rfl⟩
 have A4:Below w3.heap.size w3 w4:=by rw [←hw4];exact vAc _ _
 have NB4:=hid (show NBox w4 w3.heap.size V by rw [←hw4];exact NBox.new _ _ _);have R4:=hid (R3.out.up A4);have B4:=hid (B3.out.trans (A4.mono B3.out.size));rw [hw4];clear hw4 A4;have q1:=NB4.out.lt
 obtain ⟨f0,f1,f2,f3,f4,f5,f6,f7⟩:w4.cell? ⟨w3.heap.size,0,none⟩=some (.slice V.dv.A V.dv.n V.dv.c)∧w4.cell? ⟨w3.heap.size,1,none⟩=some (.slice V.pt.A V.pt.n V.pt.c)∧w4.cell? ⟨w3.heap.size,2,none⟩=some (.slice V.lk.A V.lk.n V.lk.c)∧w4.cell? ⟨w3.heap.size,3,none⟩=some (.slice V.dm.A V.dm.n V.dm.c)∧w4.cell? ⟨w3.heap.size,4,none⟩=some (.slice V.st.A V.st.n V.st.c)∧w4.cell? ⟨w3.heap.size,5,none⟩=some (.slice V.fl.A V.fl.n V.fl.c)∧w4.cell? ⟨w3.heap.size,6,none⟩=some (.slice V.vr.A V.vr.n V.vr.c)∧w4.cell? ⟨w3.heap.size,7,none⟩=some (.slice V.ir.A V.ir.n V.ir.c):=by have nb:=NB4.out;exact ⟨nb.c0,nb.c1,nb.c2,nb.c3,nb.c4,nb.c5,nb.c6,nb.c7⟩
 go_upto_region 4 with (go_at_call 8;(refine (P3.out V _ R4.out).mono ?_);rintro e w5 ⟨X,rfl,hr,hb⟩;have NB5:=hid (NB4.out.below hb);have R5:=hid (R4.out.up hb);have B5:=hid (B4.out.trans (hb.mono B4.out.size));clear hr hb)
 clear f0 f1 f2 f3 f4 f5 f6 f7 q1;obtain ⟨w6,hw6⟩:∃w6,w5.alloc (.cells (nA X) 31)=w6:=⟨_,rfl⟩
 have A6:Below w5.heap.size w5 w6:=by rw [←hw6];exact vAc _ _
 have nb:=NB5.out.below A6;have q1:=nb.lt;have f1:=nb.c1;have f3:=nb.c3;have B6:=hid (B5.out.trans (A6.mono B5.out.size));have R6:=R5.out.up A6
 have n1:V.pt.n=1:=by have:=R6.pt.len;exact this.symm
 have n3:V.dm.n=1:=by have:=R6.dm.len;exact this.symm
 have lp:=R6.dm.le;have cp:=R6.dm.cap;obtain ⟨b0,o0,vs,e0,_,hb0,⟨t,hvs,_⟩,r0⟩:=vAj R6.dm 0 (by omega) DomV.zero;subst hvs
 have d1:w6.cell? ⟨b0,o0+1,none⟩=some (.int .i64 10):=by have:=r0 1 _ rfl;simpa [exN2] using this
 rw [e0] at f3;rw [n3] at f3 lp;rw [n1] at f1;rw [hw6];clear hw6 A6 nb R6 n1 n3 r0 e0;go_wp2;go_ret;exact ⟨rfl,B6.out⟩
theorem isl_nsl {w:World} {k:IntKind} {s:SlV} {xs:List Int} (h:ISl w k s.A s.n s.c xs):NSl w (vAs w) k s xs:=⟨h,fun hn ad e=>by
 obtain ⟨b,off,e2,hl,_⟩:=h.2.2.2 hn;rw [e] at e2
 injection e2 with e2
 rw [e2]
 exact hl⟩
theorem line_row {w:World} {L:LV} {s1 s2 s3 s4:SlV} {q:Nat} (h:LRead w L s1 s2 s3 s4) (e:w.heap[q]?=some (.cells (vEu L s1 s2 s3 s4).toArray 37)):RSl lineR w (vAs w) (some ⟨q,0,none⟩) 1 1 [L]:=by
 have hq:q<w.heap.size:=by
  rcases Nat.lt_or_ge q w.heap.size with h'|h'
  · exact h'
  · rw [Array.getElem?_eq_none h'] at e;cases e
 exact rsl_one lineR w _ q (vEu L s1 s2 s3 s4) L hq hq ⟨s1,s2,s3,s4,rfl,isl_nsl h.1,isl_nsl h.2.1,isl_nsl h.2.2.1,isl_nsl h.2.2.2⟩ (range_list (T:=37) e)
theorem great16_any (N:NV) (S:NSl3) (L:LV) (s1 s2 s3 s4:SlV) (w:World) (h:NRead w (vAs w) N S) (hl:LRead w L s1 s2 s3 s4):Calls Tryz.prog 4 #[vBb S,vAw L s1 s2 s3 s4] w (GotGr N L w):=by
 have UP:=hid (fun (w':World) (hb:Below w.heap.size w w')=>h.up hb);have UL:=hid (fun (w':World) (hb:Below w.heap.size w w')=>vAq hl hb)
 have G1:=fun (w':World) (hb:Below w.heap.size w w')=>ngreat_any N S w' (h.up hb)
 unfold GotNG vBb at G1;have G1:=hid G1;have G2:=hid (fun (q:Nat) (w':World) (hb:Below w.heap.size w w') (e:w'.heap[q]?=some (.cells (vEu L s1 s2 s3 s4).toArray 37))=>great12_any (some ⟨q,0,none⟩) 1 1 [L] w' (line_row (vAq hl hb) e));clear h hl;unfold vBb;rw [vEi]
 go_enter Tryz.func4,Tryz.ntmps4
 go_upto_region 1 with fail
 generalize hw1:World.alloc _ _=w1;obtain ⟨B1,NB,LB,ql1⟩:=pre_two (S:=S) (L:=L) (s1:=s1) (s2:=s2) (s3:=s3) (s4:=s4) hw1;clear hw1;replace B1:=hid B1;replace NB:=hid NB;replace LB:=hid LB
 have KN:=hid (show ∀wx,Below w1.heap.size w1 wx→NF wx w.heap.size S∧(wx.cell? ⟨w.heap.size+1,1,none⟩=some (.int .i64 L.kind))∧BoxF wx (w.heap.size+1) 17 (lc L s1 s2 s3 s4)∧NRead wx (vAs wx) N S∧LRead wx L s1 s2 s3 s4∧Below w.heap.size w wx from fun wx hx=>by
  have nb:=NB.out.below hx;have bx:=LB.out.below (by omega) hx;have b0:=B1.out.trans (hx.mono B1.out.size)
  exact ⟨⟨nb.c0,nb.c1,nb.c2,nb.c3,nb.c4,nb.c5,nb.c6,nb.c7⟩,bx.cell 1 (by omega),bx,UP.out _ b0,UL.out _ b0,b0⟩)
 have BS:=hid (Below.refl w1.heap.size w1);obtain ⟨⟨f0,f1,f2,f3,f4,f5,f6,f7⟩,g1,lb_,_⟩:=KN.out w1 (Below.refl _ _)
 go_wp2_with (first
  |(((with_reducible refine vAf ?hg (.tmp 3) ?ho (w.heap.size+1) ?hx L s1 s2 s3 s4 lb_ ?_);(case hg=>rfl);(case ho=>rfl);(case hx=>rfl));unfold vAw)
  |(go_at_call 11;(with_reducible refine (G1.out _ B1.out).mono ?_);rintro e w2 ⟨g,rfl,hg,b_⟩;have Y2:=hid b_;have X2:=hid (vAa B1.out b_);have HG:=hid hg;obtain ⟨⟨f0,f1,f2,f3,f4,f5,f6,f7⟩,g1,lb_,_⟩:=KN.out _ Y2.out;clear hg b_;cases g)
  |(go_at_call 12;(refine (G2.out w2.heap.size _ (vAa X2.out (vAc _ _)) (heap_alloc_new _ _)).mono ?_);rintro e w3 ⟨g,rfl,hg,b_⟩;have X3:=hid (vAa (X2.out.trans ((vAc _ _).mono X2.out.size)) b_);have HG3:=hid hg;clear hg b_))
 · go_ret
   exact ⟨g,rfl,fun e=>⟨HG.out (by simp),(HG3.out e).2 0 (by omega)⟩,X3.out⟩
 · go_ret
   exact ⟨true,rfl,(fun e=>by cases e),X2.out⟩
end Go.Proofs.YtgnkpbgaoiaefaaGreat
