import Derived.Test.YtgmflecelnefcaaGreatOm31
import Derived.Test.YtgmflecelnefcaaGreatOm35
import Derived.Test.YtgmflecelnefcaaGreatOm36
import Derived.Test.YtgmflecelnefcaaGreatOm25
import Derived.Deep.CutBlock
import Derived.Deep.DeepCutAuto
set_option maxRecDepth 100000
set_option maxHeartbeats 40000000
namespace Go.Proofs.YtgmflecelnefcaaGreat
open Go.Lib (hid)
open Go.RowKit
theorem lvk567 {L:LV} (hk:L.kind=5∨L.kind=6∨L.kind=7) (ht:L.dev.length≤1000000) (ha:0≤L.addr∧L.addr<4294967296) (hx:L.addrs.length≤1000000):LvK L:=by
 unfold LvK LvF
 rcases hk with k|k|k
 · rw [show pts L.kind true=[(0,0),(8,10)] by rw [k];rfl]
   intro f hf;simp only [List.map_cons,List.map_nil,List.mem_cons,List.not_mem_nil,or_false] at hf
   rcases hf with rfl|rfl
   · exact ⟨ht,vo_m,vo_a,vo_l⟩
   · exact ⟨vo_t,vo_m,ha,vo_l⟩
 · rw [show pts L.kind true=[(0,0),(4,7),(6,6)] by rw [k];rfl]
   intro f hf;simp only [List.map_cons,List.map_nil,List.mem_cons,List.not_mem_nil,or_false] at hf
   rcases hf with rfl|rfl|rfl
   · exact ⟨ht,vo_m,vo_a,vo_l⟩
   · exact ⟨vo_t,vo_m,vo_a,vo_l⟩
   · exact ⟨vo_t,vo_m,vo_a,vo_l⟩
 · rw [show pts L.kind true=[(0,0),(6,6),(12,15)] by rw [k];rfl]
   intro f hf;simp only [List.map_cons,List.map_nil,List.mem_cons,List.not_mem_nil,or_false] at hf
   rcases hf with rfl|rfl|rfl
   · exact ⟨ht,vo_m,vo_a,vo_l⟩
   · exact ⟨vo_t,vo_m,vo_a,vo_l⟩
   · exact ⟨vo_t,vo_m,vo_a,⟨vo_l.1,hx⟩⟩
theorem lvsz567 {L:LV} (h:rgB L=true) (hk:L.kind=5∨L.kind=6∨L.kind=7) (ha:0≤L.addr∧L.addr<4294967296) (hx:∀x∈L.addrs,0≤x∧x<4294967296):LvSz L:=by
 rcases hk with k|k|k
 · obtain ⟨s,a,e,g,_⟩:=rg_kd5 h k ha
   have:=nm_len g
   rw [e];exact ⟨⟨by show s.length≤1000000;omega,Nat.zero_le _,Nat.zero_le _,Nat.zero_le _,Nat.zero_le _⟩,Nat.zero_le _,Nat.zero_le _,Nat.zero_le _,Nat.zero_le _⟩
 · obtain ⟨s,v,a,e,g,_⟩:=rg_kd6 h k
   have:=nm_len g
   rw [e];exact ⟨⟨by show s.length≤1000000;omega,Nat.zero_le _,Nat.zero_le _,Nat.zero_le _,Nat.zero_le _⟩,Nat.zero_le _,Nat.zero_le _,Nat.zero_le _,Nat.zero_le _⟩
 · obtain ⟨s,a,xs,e,g,_,g2,_⟩:=rg_kd7 h k hx
   have:=nm_len g
   rw [e];unfold risIn at g2;rw [Bool.and_eq_true] at g2;have g3:=((risB_iff xs).1 g2.1).2.1;exact ⟨⟨by show s.length≤1000000;omega,Nat.zero_le _,Nat.zero_le _,Nat.zero_le _,Nat.zero_le _⟩,Nat.zero_le _,Nat.zero_le _,Nat.zero_le _,by show xs.length≤1000000;omega⟩
theorem pre_tb5 {w w1:World} {S:NSl3} {L:LV} {s1 s2 s3 s4:SlV} (e:((w.alloc (.cells (nA S) 31)).alloc (.cells (lA L s1 s2 s3 s4) 37)).alloc (.cells zA 31)=w1):TBx w1 w.heap.size 31 (netC S):=by
 subst e;exact ((TBx.new w (nA S) 31).below (alloc_below _ _)).below (alloc_below _ _)
theorem BoxF.far {w w':World} {q n:Nat} {f:Nat→Value} (h:BoxF w q n f) (e:w'.heap[q]?=w.heap[q]?):BoxF w' q n f:=
 h.same (fun o=>by simp only [World.cell?,e]) (fun o=>by simp only [World.frozen?,e])
def GotOw (N:NV) (E:Int) (q B:Nat) (w:World) (e:Ending) (w':World):Prop:=∃U,e=.returned (.int .i64 E)∧TBx w' q 31 (netC U)∧(E=0→NOwn w' B (fun _=>False) N U)∧Below q w w'∧∀b,q<b→b<B→w'.heap[b]?=w.heap[b]?
theorem res_oput (tmps:Array Value) (W:World) (S:NSl3) (q:Nat) (E:Int) (h2:tmps[8]?.getD undef=.pointer (some ⟨q,0,none⟩)) (h5:tmps[9]?.getD undef=.int .i64 E) (hb:TBx W q 31 (netC S)):
 (results Tryz.f29 tmps).run Tryz.prog W=.ok (.tuple #[netV S,.int .i64 E]) W:=by
 have t0:=hb.cell 0 _ rfl;have t1:=hb.cell 1 _ rfl;have t2:=hb.cell 2 _ rfl;have t3:=hb.cell 3 _ rfl;have t4:=hb.cell 4 _ rfl;have t5:=hb.cell 5 _ rfl;have t6:=hb.cell 6 _ rfl;have t7:=hb.cell 7 _ rfl;clear hb;unfold netV;simp [results,Tryz.results29,go_sem,h2,h5,t0,t1,t2,t3,t4,t5,t6,t7]
theorem oput_any (f:FuncId) (hcf:Enters Tryz.prog f) (k:Int) (hk:k=5∨k=6∨k=7) (N:NV) (S:NSl3) (L:LV) (s1 s2 s3 s4:SlV) (w:World) (h:NRead w (allB w) N S) (hl:LRead w L s1 s2 s3 s4) (hz:NvSz N) (hm:NmSz N)
 (ht:L.dev.length≤1000000) (ha:0≤L.addr∧L.addr<4294967296) (hx:∀x∈L.addrs,0≤x∧x<4294967296) (hxl:L.addrs.length≤1000000) (RN:NV) (RE:Int)
 (hz0:RE≠0→RN=NV.zero) (hb:bgE N L k≠0→RE=bgE N L k)
 (hf:bgE N L k=0→∀(U:NSl3) (q B:Nat) (t1 t2 t3 t4:SlV) (w':World),NOwn w' B (fun _=>False) N U→q<B→B≤w'.heap.size→TBx w' q 31 (netC U)→LRead w' L t1 t2 t3 t4→RSl (Rdr.int .u32) w' (InB w' B (fun _=>False)) t4.A t4.n t4.c L.addrs→Calls Tryz.prog f #[.pointer (some ⟨q,0,none⟩),.int .i64 (dvF N L.dev),lineV L t1 t2 t3 t4] w' (GotOw RN RE q B w')):
 Calls Tryz.prog 29 #[netV S,lineV L s1 s2 s3 s4,.int .i64 k,.func (.func f) #[] #[]] w (GotPutB RN RE w):=by
 have UP:=hid (fun (w':World) (hb:Below w.heap.size w w')=>h.up hb);have UL:=hid (fun (w':World) (hb:Below w.heap.size w w')=>lread_below hl hb)
 have RT:=fun (w':World) (hb:Below w.heap.size w w') (e:L.kind=k)=>cright_k L s1 s2 s3 s4 w' (lread_below hl hb) (lvk567 (by rw [e];exact hk) ht ha hxl)
 have NR:=fun (w':World) (hb:Below w.heap.size w w')=>xnright_any N S w' (h.up hb) hz
 have CP:=fun (w':World) (hb:Below w.heap.size w w')=>xncopy_co N S w' (h.up hb) hz hm
 have CL:=hid (fun (w':World) (hb:Below w.heap.size w w') (g:rgB L=true) (e:L.kind=k)=>copy_nil L s1 s2 s3 s4 w' (lread_below hl hb) (lvsz567 g (by rw [e];exact hk) ha hx));obtain ⟨rv,hrv⟩:∃v,rgB L=v:=⟨_,rfl⟩;obtain ⟨nv,hnv⟩:∃v,netB N=v:=⟨_,rfl⟩;have FI:=hid (show fitsB N L k=(decide (L.kind=k) && (rv && nv)) by unfold fitsB;rw [hrv,hnv]);rw [hrv] at RT;rw [hnv] at NR;have RG:=hid hrv;unfold netV at NR
 unfold GotCo netV at CP;replace RT:=hid RT;replace NR:=hid NR;replace CP:=hid CP;have HB:=hid (fun (e:Int) (g:bgE N L k=e) (h0:e≠0)=>show RN=NV.zero∧RE=e from (fun r=>⟨hz0 (by rw [r];exact h0),r⟩) ((hb (by rw [g];exact h0)).trans g));have H0:=hid hz0;have HF:=hid hf;have CF:=hid hcf;have HT:=hid ht;have HZ:=hid hz;clear hz hm hrv hnv hz0 hb hf hcf ht ha hx hxl hk
 clear h hl;unfold netV;rw [line_agg]
 go_enter Tryz.func29,Tryz.ntmps29
 go_upto_region 1 with fail
 generalize hw1:World.alloc _ _=w1;obtain ⟨B1,NB,LB,ql1,RB⟩:=pre_three (S:=S) (L:=L) (s1:=s1) (s2:=s2) (s3:=s3) (s4:=s4) hw1;have TB:=pre_tb5 (S:=S) (L:=L) (s1:=s1) (s2:=s2) (s3:=s3) (s4:=s4) hw1;replace TB:=hid TB;clear hw1;replace B1:=hid B1;replace NB:=hid NB;replace LB:=hid LB;replace RB:=hid RB
 have KN:=hid (show ∀wx,Below w1.heap.size w1 wx→NF wx w.heap.size S∧(wx.cell? ⟨w.heap.size+1,1,none⟩=some (.int .i64 L.kind)∧wx.cell? ⟨w.heap.size+1,2,none⟩=some (.string (str L.dev)))∧BoxF wx (w.heap.size+1) 17 (lc L s1 s2 s3 s4)∧NRead wx (allB wx) N S∧LRead wx L s1 s2 s3 s4∧Below w.heap.size w wx from fun wx hx=>by
  have nb:=NB.out.below hx;have bx:=LB.out.below (by omega) hx;have b0:=B1.out.trans (hx.mono B1.out.size)
  exact ⟨⟨nb.c0,nb.c1,nb.c2,nb.c3,nb.c4,nb.c5,nb.c6,nb.c7⟩,⟨bx.cell 1 (by omega),bx.cell 2 (by omega)⟩,bx,UP.out _ b0,UL.out _ b0,b0⟩)
 have BS:=hid (Below.refl w1.heap.size w1);obtain ⟨⟨f0,f1,f2,f3,f4,f5,f6,f7⟩,⟨g1,g2⟩,lb_,_⟩:=KN.out w1 (Below.refl _ _)
 by_cases hk:L.kind=k
 rotate_left
 · have y0:(L.kind != k)=true:=by simpa using hk
   have EV:=hid (HB.out 2 (bg_2 (by rw [FI.out,decide_eq_false hk];rfl)).1 (by decide));have rb_:=RB.out.below BS.out;have rl_:=rb_.lt;obtain ⟨r0,z0,r1,z1,r2,z2,r3,z3,r4,z4,r5,z5,r6,z6,r7,z7⟩:=rb_.zero8;clear hk rb_;go_wp2;refine bodyPost_ret (res_oput _ (st8 w1 (w.heap.size+2) NSl3.nil) NSl3.nil (w.heap.size+2) 2 rfl rfl ((RB.out.below BS.out).st8 NSl3.nil)) rfl ?_;rw [EV.out.1,EV.out.2];exact ⟨NSl3.nil,rfl,none_readF _ _,Below.st8 (B1.out.trans (BS.out.mono B1.out.size)) (by omega) NSl3.nil⟩
 have y0:(L.kind != k)=false:=by simpa using hk
 have HK:=hid hk;replace FI:=hid (show fitsB N L k=(rv && nv) by rw [FI.out,decide_eq_true hk];rfl);clear hk
 cases rv
 · have EV:=hid (HB.out 2 (bg_2 (by rw [FI.out];rfl)).1 (by decide))
   go_wp2_with (first
    |((with_reducible refine wpList_lineOf ?hg (.tmp 5) ?ho (w.heap.size+1) ?hx L s1 s2 s3 s4 lb_ ?_);(case hg=>rfl);(case ho=>rfl);(case hx=>rfl))
    |(go_at_call 87;(with_reducible refine (RT.out _ B1.out HK.out).mono ?_);rintro e w2 ⟨rfl,b_⟩;have Y2:=hid b_;have X2:=hid (trans_below B1.out b_);obtain ⟨⟨f0,f1,f2,f3,f4,f5,f6,f7⟩,⟨g1,g2⟩,lb_,_⟩:=KN.out _ Y2.out;have rb_:=RB.out.below Y2.out;have rl_:=rb_.lt;obtain ⟨r0,z0,r1,z1,r2,z2,r3,z3,r4,z4,r5,z5,r6,z6,r7,z7⟩:=rb_.zero8;clear b_ rb_))
   refine bodyPost_ret (res_oput _ (st8 w2 (w.heap.size+2) NSl3.nil) NSl3.nil (w.heap.size+2) 2 rfl rfl ((RB.out.below Y2.out).st8 NSl3.nil)) rfl ?_;rw [EV.out.1,EV.out.2];exact ⟨NSl3.nil,rfl,none_readF _ _,Below.st8 (B1.out.trans (Y2.out.mono B1.out.size)) (by omega) NSl3.nil⟩
 cases nv
 · have EV:=hid (HB.out 2 (bg_2 (by rw [FI.out];rfl)).1 (by decide))
   go_wp2_with (first
    |((with_reducible refine wpList_lineOf ?hg (.tmp 5) ?ho (w.heap.size+1) ?hx L s1 s2 s3 s4 lb_ ?_);(case hg=>rfl);(case ho=>rfl);(case hx=>rfl))
    |(go_at_call 87;(with_reducible refine (RT.out _ B1.out HK.out).mono ?_);rintro e w2 ⟨rfl,b_⟩;have Y2:=hid b_;have X2:=hid (trans_below B1.out b_);obtain ⟨⟨f0,f1,f2,f3,f4,f5,f6,f7⟩,⟨g1,g2⟩,lb_,_⟩:=KN.out _ Y2.out;clear b_)
    |(go_at_call 23;(with_reducible refine (NR.out _ X2.out).mono ?_);rintro e w3 ⟨rfl,b_⟩;have Y3:=hid (trans_below Y2.out b_);have X3:=hid (trans_below X2.out b_);obtain ⟨⟨f0,f1,f2,f3,f4,f5,f6,f7⟩,⟨g1,g2⟩,lb_,_⟩:=KN.out _ Y3.out;have rb_:=RB.out.below Y3.out;have rl_:=rb_.lt;obtain ⟨r0,z0,r1,z1,r2,z2,r3,z3,r4,z4,r5,z5,r6,z6,r7,z7⟩:=rb_.zero8;clear b_ rb_))
   refine bodyPost_ret (res_oput _ (st8 w3 (w.heap.size+2) NSl3.nil) NSl3.nil (w.heap.size+2) 2 rfl rfl ((RB.out.below Y3.out).st8 NSl3.nil)) rfl ?_;rw [EV.out.1,EV.out.2];exact ⟨NSl3.nil,rfl,none_readF _ _,Below.st8 (B1.out.trans (Y3.out.mono B1.out.size)) (by omega) NSl3.nil⟩
 have HV:=hid (show fitsB N L k=true by rw [FI.out];rfl);have hn:=(fits_iff.1 HV.out).2.2
 have DV:=fun (w':World) (hb:Below w.heap.size w w')=>xndevice_any N S L.dev w' (UP.out w' hb) HZ.out hn (by have:=HT.out;omega)
 have DN:=hid (dv_neg (N:=N) (s:=L.dev));have B31:=hid (fun (g:dvF N L.dev<0)=>HB.out 31 (bg_31 HV.out g).1 (by decide));have BOK:=hid (fun (g:¬dvF N L.dev<0)=>(bg_ok HV.out g).1);clear hn HB FI;obtain ⟨D,hD⟩:∃D,dvF N L.dev=D:=⟨_,rfl⟩;have HF0:=HF.out;rw [hD] at DV DN B31 BOK HF0;replace HF:=hid HF0;clear HF0 hD;unfold netV at DV;replace DV:=hid DV
 by_cases d0:D<0
 · have EV:=hid (B31.out d0)
   have y1:(D == -1)=true:=by simpa using DN.out d0
   clear d0
   go_wp2_with (first
    |((with_reducible refine wpList_lineOf ?hg (.tmp 5) ?ho (w.heap.size+1) ?hx L s1 s2 s3 s4 lb_ ?_);(case hg=>rfl);(case ho=>rfl);(case hx=>rfl))
    |(go_at_call 87;(with_reducible refine (RT.out _ B1.out HK.out).mono ?_);rintro e w2 ⟨rfl,b_⟩;have Y2:=hid b_;have X2:=hid (trans_below B1.out b_);obtain ⟨⟨f0,f1,f2,f3,f4,f5,f6,f7⟩,⟨g1,g2⟩,lb_,_⟩:=KN.out _ Y2.out;clear b_)
    |(go_at_call 23;(with_reducible refine (NR.out _ X2.out).mono ?_);rintro e w3 ⟨rfl,b_⟩;have Y3:=hid (trans_below Y2.out b_);have X3:=hid (trans_below X2.out b_);obtain ⟨⟨f0,f1,f2,f3,f4,f5,f6,f7⟩,⟨g1,g2⟩,lb_,_⟩:=KN.out _ Y3.out;clear b_)
    |(go_at_call 25;(with_reducible refine (DV.out _ X3.out).mono ?_);rintro e w4 ⟨rfl,b_⟩;have Y4:=hid (trans_below Y3.out b_);have X4:=hid (trans_below X3.out b_);obtain ⟨⟨f0,f1,f2,f3,f4,f5,f6,f7⟩,⟨g1,g2⟩,lb_,_⟩:=KN.out _ Y4.out;have rb_:=RB.out.below Y4.out;have rl_:=rb_.lt;obtain ⟨r0,z0,r1,z1,r2,z2,r3,z3,r4,z4,r5,z5,r6,z6,r7,z7⟩:=rb_.zero8;clear b_ rb_))
   refine bodyPost_ret (res_oput _ (st8 w4 (w.heap.size+2) NSl3.nil) NSl3.nil (w.heap.size+2) 31 rfl rfl ((RB.out.below Y4.out).st8 NSl3.nil)) rfl ?_;rw [EV.out.1,EV.out.2];exact ⟨NSl3.nil,rfl,none_readF _ _,Below.st8 (B1.out.trans (Y4.out.mono B1.out.size)) (by omega) NSl3.nil⟩
 have y1:(D == -1)=false:=by simp;omega
 have BK:=hid (BOK.out d0);clear d0 BOK B31 DN
 go_upto_region 6 with (first
  |((with_reducible refine wpList_lineOf ?hg (.tmp 5) ?ho (w.heap.size+1) ?hx L s1 s2 s3 s4 lb_ ?_);(case hg=>rfl);(case ho=>rfl);(case hx=>rfl))
  |(go_at_call 87;(with_reducible refine (RT.out _ B1.out HK.out).mono ?_);rintro e w2 ⟨rfl,b_⟩;have Y2:=hid b_;have X2:=hid (trans_below B1.out b_);obtain ⟨⟨f0,f1,f2,f3,f4,f5,f6,f7⟩,⟨g1,g2⟩,lb_,_⟩:=KN.out _ Y2.out;clear b_)
  |(go_at_call 23;(with_reducible refine (NR.out _ X2.out).mono ?_);rintro e w3 ⟨rfl,b_⟩;have Y3:=hid (trans_below Y2.out b_);have X3:=hid (trans_below X2.out b_);obtain ⟨⟨f0,f1,f2,f3,f4,f5,f6,f7⟩,⟨g1,g2⟩,lb_,_⟩:=KN.out _ Y3.out;clear b_)
  |(go_at_call 25;(with_reducible refine (DV.out _ X3.out).mono ?_);rintro e w4 ⟨rfl,b_⟩;have Y4:=hid (trans_below Y3.out b_);have X4:=hid (trans_below X3.out b_);obtain ⟨⟨f0,f1,f2,f3,f4,f5,f6,f7⟩,⟨g1,g2⟩,lb_,_⟩:=KN.out _ Y4.out;clear b_))
 clear f0 f1 f2 f3 f4 f5 f6 f7;have tb_:=TB.out.below Y4.out;have f0:=tb_.cell 0 (.slice S.dv.A S.dv.n S.dv.c) rfl;have z0:=tb_.live 0;have f1:=tb_.cell 1 (.slice S.pt.A S.pt.n S.pt.c) rfl;have z1:=tb_.live 1;have f2:=tb_.cell 2 (.slice S.lk.A S.lk.n S.lk.c) rfl;have z2:=tb_.live 2;have f3:=tb_.cell 3 (.slice S.dm.A S.dm.n S.dm.c) rfl;have z3:=tb_.live 3;have f4:=tb_.cell 4 (.slice S.st.A S.st.n S.st.c) rfl
 have z4:=tb_.live 4;have f5:=tb_.cell 5 (.slice S.fl.A S.fl.n S.fl.c) rfl;have z5:=tb_.live 5;have f6:=tb_.cell 6 (.slice S.vr.A S.vr.n S.vr.c) rfl;have z6:=tb_.live 6;have f7:=tb_.cell 7 (.slice S.ir.A S.ir.n S.ir.c) rfl;have z7:=tb_.live 7;have tl_:=tb_.lt;clear tb_
 go_upto_region 7 with (go_at_call 42;(with_reducible refine (CP.out _ X4.out).mono ?_);rintro e w5 ⟨U,rfl,hown,b_⟩;have OW:=hid hown;have Y5:=hid (trans_below Y4.out b_);have X5:=hid (trans_below X4.out b_);have B45:=hid b_.size;clear f0 f1 f2 f3 f4 f5 f6 f7 z0 z1 z2 z3 z4 z5 z6 z7 tl_;have tb_:=TB.out.below Y5.out;have f0:=tb_.cell 0 (.slice S.dv.A S.dv.n S.dv.c) rfl;have z0:=tb_.live 0;have f1:=tb_.cell 1 (.slice S.pt.A S.pt.n S.pt.c) rfl;have z1:=tb_.live 1;have f2:=tb_.cell 2 (.slice S.lk.A S.lk.n S.lk.c) rfl;have z2:=tb_.live 2;have f3:=tb_.cell 3 (.slice S.dm.A S.dm.n S.dm.c) rfl;have z3:=tb_.live 3;have f4:=tb_.cell 4 (.slice S.st.A S.st.n S.st.c) rfl;have z4:=tb_.live 4;have f5:=tb_.cell 5 (.slice S.fl.A S.fl.n S.fl.c) rfl;have z5:=tb_.live 5;have f6:=tb_.cell 6 (.slice S.vr.A S.vr.n S.vr.c) rfl;have z6:=tb_.live 6;have f7:=tb_.cell 7 (.slice S.ir.A S.ir.n S.ir.c) rfl;have z7:=tb_.live 7;have tl_:=tb_.lt;clear tb_;clear hown b_)
 clear f0 f1 f2 f3 f4 f5 f6 f7 z0 z1 z2 z3 z4 z5 z6 z7 tl_ g1 g2 lb_;generalize hw6:World.setCell _ _ _=w6;have hw6:st8 w5 w.heap.size U=w6:=hw6
 have far:∀b,b≠w.heap.size→w6.heap[b]?=w5.heap[b]?:=fun b hb=>by rw [←hw6];exact st8_other _ _ _ hb
 have hs6:w6.heap.size=w5.heap.size:=by rw [←hw6];exact st8_size _ _ _
 have LW:w.heap.size+2<w4.heap.size:=(RB.out.below Y4.out).lt;have l3:=B45.out;have O6:=hid (show NOwn w6 w4.heap.size (fun _=>False) N U from OW.out.far (q:=w.heap.size) (by rw [hs6];exact Nat.le_refl _) far (by omega) (fun f=>f.elim));have T6:=hid (show TBx w6 w.heap.size 31 (netC U) by rw [←hw6];exact (TB.out.below Y5.out).st8 U);have R6:=hid (show TBx w6 (w.heap.size+2) 31 (netC NSl3.nil) from (RB.out.below Y5.out).same (far _ (by omega)))
 have X6:=hid (show Below w.heap.size w w6 by rw [←hw6];exact Below.st8 X5.out (Nat.le_refl _) U);have L6:=hid (show BoxF w6 (w.heap.size+1) 17 (lc L s1 s2 s3 s4) from ((KN.out _ Y5.out).2.2.1).far (far _ (by omega)));have S46:=hid (show w4.heap.size≤w6.heap.size by rw [hs6];exact l3);have Q4:=hid LW;clear hw6 far hs6 LW l3 OW Y5 X5 B45;have lb_:=L6.out
 go_upto_region 8 with (first
  |((with_reducible refine wpList_lineOf ?hg (.tmp 5) ?ho (w.heap.size+1) ?hx L s1 s2 s3 s4 lb_ ?_);(case hg=>rfl);(case ho=>rfl);(case hx=>rfl))
  |(go_at_call 88;(with_reducible refine (CL.out _ X6.out RG.out HK.out).mono ?_);rintro e w7 ⟨t1,t2,t3,t4,rfl,hlr,hnew,hty,hnil,hb_⟩;have LR:=hid hlr;have TG:=hid (isl_own hlr.2.2.2 hnew.2.2.2 hty.2.2.2 hnil.2.2.2);have T7:=hid (T6.out.below hb_);have R7:=hid (R6.out.below hb_);have O7:=hid (O6.out.up hb_);have X7:=hid (trans_below X6.out hb_);have S67:=hid hb_.size;clear hlr hnew hty hnil hb_)
  |((rw [CF.out _ _]);(refine (HF.out BK.out U w.heap.size w4.heap.size t1 t2 t3 t4 _ O7.out (by have:=Q4.out;omega) (Nat.le_trans S46.out S67.out) T7.out LR.out (TG.out.keep (fun _ _=>rfl) (fun b hb=>⟨hb.2.lt,.inr ⟨Nat.le_trans S46.out hb.1,hb.2⟩⟩))).mono ?_);rintro e w8 ⟨U9,rfl,htb,hno,hbl,hsm⟩;have T8:=hid htb;have O8:=hid hno;have X8:=hid (X7.out.trans hbl);have R8:=hid (R7.out.same (hsm _ (by omega) Q4.out));clear htb hno hbl hsm))
 clear lb_;have rl_:=R8.out.lt
 by_cases he:RE=0
 rotate_left
 · have x1:(RE != 0)=true:=by simpa using he
   have EV:=hid (H0.out he);obtain ⟨r0,z0,r1,z1,r2,z2,r3,z3,r4,z4,r5,z5,r6,z6,r7,z7⟩:=R8.out.zero8;clear he;go_wp2;refine bodyPost_ret (res_oput _ (st8 w8 (w.heap.size+2) NSl3.nil) NSl3.nil (w.heap.size+2) RE rfl rfl (R8.out.st8 NSl3.nil)) rfl ?_;rw [EV.out];exact ⟨NSl3.nil,rfl,none_readF _ _,Below.st8 X8.out (by omega) NSl3.nil⟩
 have x1:(RE != 0)=false:=by simpa using he
 have O9:=hid (O8.out he);have tl_:=T8.out.lt;have t0:=T8.out.cell 0 (.slice U9.dv.A U9.dv.n U9.dv.c) rfl;have r0:=R8.out.cell 0 (.slice none 0 0) rfl;have z0:=R8.out.live 0;have t1:=T8.out.cell 1 (.slice U9.pt.A U9.pt.n U9.pt.c) rfl;have r1:=R8.out.cell 1 (.slice none 0 0) rfl;have z1:=R8.out.live 1;have t2:=T8.out.cell 2 (.slice U9.lk.A U9.lk.n U9.lk.c) rfl;have r2:=R8.out.cell 2 (.slice none 0 0) rfl
 have z2:=R8.out.live 2;have t3:=T8.out.cell 3 (.slice U9.dm.A U9.dm.n U9.dm.c) rfl;have r3:=R8.out.cell 3 (.slice none 0 0) rfl;have z3:=R8.out.live 3;have t4:=T8.out.cell 4 (.slice U9.st.A U9.st.n U9.st.c) rfl;have r4:=R8.out.cell 4 (.slice none 0 0) rfl;have z4:=R8.out.live 4;have t5:=T8.out.cell 5 (.slice U9.fl.A U9.fl.n U9.fl.c) rfl;have r5:=R8.out.cell 5 (.slice none 0 0) rfl;have z5:=R8.out.live 5
 have t6:=T8.out.cell 6 (.slice U9.vr.A U9.vr.n U9.vr.c) rfl;have r6:=R8.out.cell 6 (.slice none 0 0) rfl;have z6:=R8.out.live 6;have t7:=T8.out.cell 7 (.slice U9.ir.A U9.ir.n U9.ir.c) rfl;have r7:=R8.out.cell 7 (.slice none 0 0) rfl;have z7:=R8.out.live 7;subst he;go_wp2;refine bodyPost_ret (res_oput _ (st8 w8 (w.heap.size+2) U9) U9 (w.heap.size+2) 0 rfl rfl (R8.out.st8 U9)) rfl ?_;have ON:=O9.out.far (w':=st8 w8 (w.heap.size+2) U9) (q:=w.heap.size+2) (by rw [st8_size];exact Nat.le_refl _) (fun b hb=>st8_other _ _ _ hb) Q4.out (fun g=>g)
 exact ⟨U9,rfl,ON.readB.keep (fun _ _=>rfl) (fun b g=>⟨by have:=Q4.out;have:=g.1;omega,g.2⟩),Below.st8 X8.out (by omega) U9⟩
end Go.Proofs.YtgmflecelnefcaaGreat
