import Derived.Test.YtgmflecelnefcaaGreatOp44
import Derived.Test.YtgmflecelnefcaaGreatOp25
import Derived.Test.YtgmflecelnefcaaGreatOp39
import Derived.Test.YtgmflecelnefcaaGreatOp16
import Derived.Test.YtgmflecelnefcaaGreatOp04
import Derived.Test.YtgmflecelnefcaaGreatOp26
import Derived.Test.YtgmflecelnefcaaGreatOp13
set_option maxRecDepth 100000
set_option maxHeartbeats 40000000
namespace Go.Proofs.YtgmflecelnefcaaGreat
open Go.Lib (hid)
open Go.RowKit
theorem res_ovtep (tmps:Array Value) (W:World) (S:NSl3) (q:Nat) (E:Int) (h2:tmps[4]?.getD undef=.pointer (some ⟨q,0,none⟩)) (h5:tmps[5]?.getD undef=.int .i64 E) (hb:TBx W q 31 (vBk S)):
 (results Tryz.f9 tmps).run Tryz.prog W=.ok (.tuple #[vAm S,.int .i64 E]) W:=by
 have t0:=hb.cell 0 _ rfl;have t1:=hb.cell 1 _ rfl;have t2:=hb.cell 2 _ rfl;have t3:=hb.cell 3 _ rfl;have t4:=hb.cell 4 _ rfl;have t5:=hb.cell 5 _ rfl;have t6:=hb.cell 6 _ rfl;have t7:=hb.cell 7 _ rfl;clear hb;unfold vAm;simp [results,Tryz.results9,go_sem,h2,h5,t0,t1,t2,t3,t4,t5,t6,t7]
theorem enters_ovtep:vAz Tryz.prog 30:=vAt Tryz.func30 (by kernel_rfl) rfl
theorem covtep_b (N:NV) (S:NSl3) (L:LV) (s1 s2 s3 s4:SlV) (w:World) (h:NRead w (vAp w) N S) (hl:LRead w L s1 s2 s3 s4) (hz:NvSz N) (hm:NmSz N) (ht:L.dev.length≤1000000) (ha:0≤L.addr∧L.addr<4294967296) (hx:∀x∈L.addrs,0≤x∧x<4294967296) (hxl:L.addrs.length≤1000000) (hv:VtOk N):Calls Tryz.prog 9 #[vAm S,vAv L s1 s2 s3 s4] w (vCn (vtN N L) (vtE N L) w):=by
 have PU:=fun (w':World) (hb:Below w.heap.size w w')=>oput_any 30 enters_ovtep 5 (by decide) N S L s1 s2 s3 s4 w' (h.up hb) (vAk hl hb) hz hm ht ha hx hxl (vtN N L) (vtE N L) vt_no bg_vt (fun g U q B t1 t2 t3 t4 w' hO hq hB hb hl2 hs=>cvtep_w N L U q B t1 t2 t3 t4 w' hO hq hB hb hl2 hs hz hv ha hx g)
 have UP:=hid (fun (w':World) (hb:Below w.heap.size w w')=>h.up hb);have UL:=hid (fun (w':World) (hb:Below w.heap.size w w')=>vAk hl hb);obtain ⟨RN,hRN⟩:∃v,vtN N L=v:=⟨_,rfl⟩;obtain ⟨RE,hRE⟩:∃v,vtE N L=v:=⟨_,rfl⟩;rw [hRN,hRE] at PU ⊢;clear hRN hRE;unfold vCn vAm at PU;have PU:=hid PU;clear hz hm ht ha hx hxl hv;clear h hl;unfold vAm;rw [vBw]
 go_enter Tryz.func9,Tryz.ntmps9
 go_upto_region 1 with fail
 generalize hw1:World.alloc _ _=w1;obtain ⟨B1,NB,LB,ql1,RB⟩:=vDs (S:=S) (L:=L) (s1:=s1) (s2:=s2) (s3:=s3) (s4:=s4) hw1;clear hw1;replace B1:=hid B1;replace NB:=hid NB;replace LB:=hid LB;replace RB:=hid RB
 have KN:=hid (show ∀wx,Below w1.heap.size w1 wx→NF wx w.heap.size S∧(wx.cell? ⟨w.heap.size+1,1,none⟩=some (.int .i64 L.kind))∧BoxF wx (w.heap.size+1) 17 (lc L s1 s2 s3 s4)∧NRead wx (vAp wx) N S∧LRead wx L s1 s2 s3 s4∧Below w.heap.size w wx from fun wx hx=>by
  have nb:=NB.out.below hx;have bx:=LB.out.below (by omega) hx;have b0:=B1.out.trans (hx.mono B1.out.size)
  exact ⟨⟨nb.c0,nb.c1,nb.c2,nb.c3,nb.c4,nb.c5,nb.c6,nb.c7⟩,bx.cell 1 (by omega),bx,UP.out _ b0,UL.out _ b0,b0⟩)
 have BS:=hid (Below.refl w1.heap.size w1);obtain ⟨⟨f0,f1,f2,f3,f4,f5,f6,f7⟩,g1,lb_,_⟩:=KN.out w1 (Below.refl _ _)
 go_wp2_with (first
  |((with_reducible refine vAf ?hg (.tmp 3) ?ho (w.heap.size+1) ?hx L s1 s2 s3 s4 lb_ ?_);(case hg=>rfl);(case ho=>rfl);(case hx=>rfl))
  |(go_at_call 29;(with_reducible refine (PU.out _ B1.out).mono ?_);rintro e w2 ⟨U,rfl,hr,b_⟩;have R2:=hid hr;have Y2:=hid b_;have rb_:=RB.out.below Y2.out;have rl_:=rb_.lt;obtain ⟨r0,z0,r1,z1,r2,z2,r3,z3,r4,z4,r5,z5,r6,z6,r7,z7⟩:=rb_.zero8;clear hr b_ rb_))
 refine bodyPost_ret (res_ovtep _ (st8 w2 (w.heap.size+2) U) U (w.heap.size+2) RE rfl rfl ((RB.out.below Y2.out).st8 U)) rfl ?_;exact ⟨U,rfl,R2.out.keep (F':=fun b=>w.heap.size≤b∧b<(st8 w2 (w.heap.size+2) U).heap.size) (fun b g=>vAx _ _ _ (fun e=>by have:=g.1;have:=ql1;have:=RB.out.lt;omega)) (fun b g=>⟨by have:=g.1;have:=ql1;omega,by rw [vBh];exact g.2⟩),Below.st8 (B1.out.trans (Y2.out.mono B1.out.size)) (by omega) U⟩
theorem res_ovni (tmps:Array Value) (W:World) (S:NSl3) (q:Nat) (E:Int) (h2:tmps[4]?.getD undef=.pointer (some ⟨q,0,none⟩)) (h5:tmps[5]?.getD undef=.int .i64 E) (hb:TBx W q 31 (vBk S)):
 (results Tryz.f12 tmps).run Tryz.prog W=.ok (.tuple #[vAm S,.int .i64 E]) W:=by
 have t0:=hb.cell 0 _ rfl;have t1:=hb.cell 1 _ rfl;have t2:=hb.cell 2 _ rfl;have t3:=hb.cell 3 _ rfl;have t4:=hb.cell 4 _ rfl;have t5:=hb.cell 5 _ rfl;have t6:=hb.cell 6 _ rfl;have t7:=hb.cell 7 _ rfl;clear hb;unfold vAm;simp [results,Tryz.results12,go_sem,h2,h5,t0,t1,t2,t3,t4,t5,t6,t7]
theorem enters_ovni:vAz Tryz.prog 36:=vAt Tryz.func36 (by kernel_rfl) rfl
theorem covni_b (N:NV) (S:NSl3) (L:LV) (s1 s2 s3 s4:SlV) (w:World) (h:NRead w (vAp w) N S) (hl:LRead w L s1 s2 s3 s4) (hz:NvSz N) (hm:NmSz N) (ht:L.dev.length≤1000000) (ha:0≤L.addr∧L.addr<4294967296) (hx:∀x∈L.addrs,0≤x∧x<4294967296) (hxl:L.addrs.length≤1000000) (hv:VtOk N):Calls Tryz.prog 12 #[vAm S,vAv L s1 s2 s3 s4] w (vCn (vnN N L) (vnE N L) w):=by
 have PU:=fun (w':World) (hb:Below w.heap.size w w')=>oput_any 36 enters_ovni 6 (by decide) N S L s1 s2 s3 s4 w' (h.up hb) (vAk hl hb) hz hm ht ha hx hxl (vnN N L) (vnE N L) vn_no bg_vn (fun g U q B t1 t2 t3 t4 w' hO hq hB hb hl2 hs=>cvni_w N L U q B t1 t2 t3 t4 w' hO hq hB hb hl2 hs hz hv ha hx g)
 have UP:=hid (fun (w':World) (hb:Below w.heap.size w w')=>h.up hb);have UL:=hid (fun (w':World) (hb:Below w.heap.size w w')=>vAk hl hb);obtain ⟨RN,hRN⟩:∃v,vnN N L=v:=⟨_,rfl⟩;obtain ⟨RE,hRE⟩:∃v,vnE N L=v:=⟨_,rfl⟩;rw [hRN,hRE] at PU ⊢;clear hRN hRE;unfold vCn vAm at PU;have PU:=hid PU;clear hz hm ht ha hx hxl hv;clear h hl;unfold vAm;rw [vBw]
 go_enter Tryz.func12,Tryz.ntmps12
 go_upto_region 1 with fail
 generalize hw1:World.alloc _ _=w1;obtain ⟨B1,NB,LB,ql1,RB⟩:=vDs (S:=S) (L:=L) (s1:=s1) (s2:=s2) (s3:=s3) (s4:=s4) hw1;clear hw1;replace B1:=hid B1;replace NB:=hid NB;replace LB:=hid LB;replace RB:=hid RB
 have KN:=hid (show ∀wx,Below w1.heap.size w1 wx→NF wx w.heap.size S∧(wx.cell? ⟨w.heap.size+1,1,none⟩=some (.int .i64 L.kind))∧BoxF wx (w.heap.size+1) 17 (lc L s1 s2 s3 s4)∧NRead wx (vAp wx) N S∧LRead wx L s1 s2 s3 s4∧Below w.heap.size w wx from fun wx hx=>by
  have nb:=NB.out.below hx;have bx:=LB.out.below (by omega) hx;have b0:=B1.out.trans (hx.mono B1.out.size)
  exact ⟨⟨nb.c0,nb.c1,nb.c2,nb.c3,nb.c4,nb.c5,nb.c6,nb.c7⟩,bx.cell 1 (by omega),bx,UP.out _ b0,UL.out _ b0,b0⟩)
 have BS:=hid (Below.refl w1.heap.size w1);obtain ⟨⟨f0,f1,f2,f3,f4,f5,f6,f7⟩,g1,lb_,_⟩:=KN.out w1 (Below.refl _ _)
 go_wp2_with (first
  |((with_reducible refine vAf ?hg (.tmp 3) ?ho (w.heap.size+1) ?hx L s1 s2 s3 s4 lb_ ?_);(case hg=>rfl);(case ho=>rfl);(case hx=>rfl))
  |(go_at_call 29;(with_reducible refine (PU.out _ B1.out).mono ?_);rintro e w2 ⟨U,rfl,hr,b_⟩;have R2:=hid hr;have Y2:=hid b_;have rb_:=RB.out.below Y2.out;have rl_:=rb_.lt;obtain ⟨r0,z0,r1,z1,r2,z2,r3,z3,r4,z4,r5,z5,r6,z6,r7,z7⟩:=rb_.zero8;clear hr b_ rb_))
 refine bodyPost_ret (res_ovni _ (st8 w2 (w.heap.size+2) U) U (w.heap.size+2) RE rfl rfl ((RB.out.below Y2.out).st8 U)) rfl ?_;exact ⟨U,rfl,R2.out.keep (F':=fun b=>w.heap.size≤b∧b<(st8 w2 (w.heap.size+2) U).heap.size) (fun b g=>vAx _ _ _ (fun e=>by have:=g.1;have:=ql1;have:=RB.out.lt;omega)) (fun b g=>⟨by have:=g.1;have:=ql1;omega,by rw [vBh];exact g.2⟩),Below.st8 (B1.out.trans (Y2.out.mono B1.out.size)) (by omega) U⟩
theorem res_oflood (tmps:Array Value) (W:World) (S:NSl3) (q:Nat) (E:Int) (h2:tmps[4]?.getD undef=.pointer (some ⟨q,0,none⟩)) (h5:tmps[5]?.getD undef=.int .i64 E) (hb:TBx W q 31 (vBk S)):
 (results Tryz.f14 tmps).run Tryz.prog W=.ok (.tuple #[vAm S,.int .i64 E]) W:=by
 have t0:=hb.cell 0 _ rfl;have t1:=hb.cell 1 _ rfl;have t2:=hb.cell 2 _ rfl;have t3:=hb.cell 3 _ rfl;have t4:=hb.cell 4 _ rfl;have t5:=hb.cell 5 _ rfl;have t6:=hb.cell 6 _ rfl;have t7:=hb.cell 7 _ rfl;clear hb;unfold vAm;simp [results,Tryz.results14,go_sem,h2,h5,t0,t1,t2,t3,t4,t5,t6,t7]
theorem enters_oflood:vAz Tryz.prog 38:=vAt Tryz.func38 (by kernel_rfl) rfl
theorem coflood_b (N:NV) (S:NSl3) (L:LV) (s1 s2 s3 s4:SlV) (w:World) (h:NRead w (vAp w) N S) (hl:LRead w L s1 s2 s3 s4) (hz:NvSz N) (hm:NmSz N) (ht:L.dev.length≤1000000) (ha:0≤L.addr∧L.addr<4294967296) (hx:∀x∈L.addrs,0≤x∧x<4294967296) (hxl:L.addrs.length≤1000000) (hv:VtOk N):Calls Tryz.prog 14 #[vAm S,vAv L s1 s2 s3 s4] w (vCn (flN N L) (flE N L) w):=by
 have PU:=fun (w':World) (hb:Below w.heap.size w w')=>oput_any 38 enters_oflood 7 (by decide) N S L s1 s2 s3 s4 w' (h.up hb) (vAk hl hb) hz hm ht ha hx hxl (flN N L) (flE N L) fl_no bg_fl (fun g U q B t1 t2 t3 t4 w' hO hq hB hb hl2 hs=>cflood_w N L U q B t1 t2 t3 t4 w' hO hq hB hb hl2 hs hz hv ha hx g)
 have UP:=hid (fun (w':World) (hb:Below w.heap.size w w')=>h.up hb);have UL:=hid (fun (w':World) (hb:Below w.heap.size w w')=>vAk hl hb);obtain ⟨RN,hRN⟩:∃v,flN N L=v:=⟨_,rfl⟩;obtain ⟨RE,hRE⟩:∃v,flE N L=v:=⟨_,rfl⟩;rw [hRN,hRE] at PU ⊢;clear hRN hRE;unfold vCn vAm at PU;have PU:=hid PU;clear hz hm ht ha hx hxl hv;clear h hl;unfold vAm;rw [vBw]
 go_enter Tryz.func14,Tryz.ntmps14
 go_upto_region 1 with fail
 generalize hw1:World.alloc _ _=w1;obtain ⟨B1,NB,LB,ql1,RB⟩:=vDs (S:=S) (L:=L) (s1:=s1) (s2:=s2) (s3:=s3) (s4:=s4) hw1;clear hw1;replace B1:=hid B1;replace NB:=hid NB;replace LB:=hid LB;replace RB:=hid RB
 have KN:=hid (show ∀wx,Below w1.heap.size w1 wx→NF wx w.heap.size S∧(wx.cell? ⟨w.heap.size+1,1,none⟩=some (.int .i64 L.kind))∧BoxF wx (w.heap.size+1) 17 (lc L s1 s2 s3 s4)∧NRead wx (vAp wx) N S∧LRead wx L s1 s2 s3 s4∧Below w.heap.size w wx from fun wx hx=>by
  have nb:=NB.out.below hx;have bx:=LB.out.below (by omega) hx;have b0:=B1.out.trans (hx.mono B1.out.size)
  exact ⟨⟨nb.c0,nb.c1,nb.c2,nb.c3,nb.c4,nb.c5,nb.c6,nb.c7⟩,bx.cell 1 (by omega),bx,UP.out _ b0,UL.out _ b0,b0⟩)
 have BS:=hid (Below.refl w1.heap.size w1);obtain ⟨⟨f0,f1,f2,f3,f4,f5,f6,f7⟩,g1,lb_,_⟩:=KN.out w1 (Below.refl _ _)
 go_wp2_with (first
  |((with_reducible refine vAf ?hg (.tmp 3) ?ho (w.heap.size+1) ?hx L s1 s2 s3 s4 lb_ ?_);(case hg=>rfl);(case ho=>rfl);(case hx=>rfl))
  |(go_at_call 29;(with_reducible refine (PU.out _ B1.out).mono ?_);rintro e w2 ⟨U,rfl,hr,b_⟩;have R2:=hid hr;have Y2:=hid b_;have rb_:=RB.out.below Y2.out;have rl_:=rb_.lt;obtain ⟨r0,z0,r1,z1,r2,z2,r3,z3,r4,z4,r5,z5,r6,z6,r7,z7⟩:=rb_.zero8;clear hr b_ rb_))
 refine bodyPost_ret (res_oflood _ (st8 w2 (w.heap.size+2) U) U (w.heap.size+2) RE rfl rfl ((RB.out.below Y2.out).st8 U)) rfl ?_;exact ⟨U,rfl,R2.out.keep (F':=fun b=>w.heap.size≤b∧b<(st8 w2 (w.heap.size+2) U).heap.size) (fun b g=>vAx _ _ _ (fun e=>by have:=g.1;have:=ql1;have:=RB.out.lt;omega)) (fun b g=>⟨by have:=g.1;have:=ql1;omega,by rw [vBh];exact g.2⟩),Below.st8 (B1.out.trans (Y2.out.mono B1.out.size)) (by omega) U⟩
def farL (N:NV) (f:FloodV) (a:Int):List Int:=(N.floods.getD (lsF N (owF N a) f.vni).toNat FloodV.zero).addrs
def agX (N:NV) (f:FloodV) (a x:Int):Bool:=decide (x=a) || memB (farL N f a) x
def agA (N:NV) (f:FloodV) (a:Int):Bool:=
 !decide (a=0) && (decide (0≤owF N a) && (decide (0≤fdF N (owF N a) f.vni) && (decide (0≤lsF N (owF N a) f.vni) && (memB (farL N f a) (N.devices.getD f.dev.toNat DevV.zero).vtep && f.addrs.all (agX N f a)))))
def agB (N:NV) (f:FloodV):Bool:=decide (0≤fdF N f.dev f.vni) && f.addrs.all (agA N f)
def agK (N:NV):List FloodV→Option Int
 | []=>none
 |f :: r=>if agB N f=true then agK N r else some f.row
theorem agK_none {N:NV}:∀{xs:List FloodV},agK N xs=none→∀f∈xs,agB N f=true
 | [],_,f,hf=>by cases hf
 |g :: r,h,f,hf=>by
  rw [agK] at h
  by_cases c:agB N g=true
  · rw [if_pos c] at h
    rcases List.mem_cons.1 hf with rfl|hf
    · exact c
    · exact agK_none h f hf
  · rw [if_neg c] at h;cases h
def msP (N:NV) (dev vni:Int):List Int:=if vni=0∨lsF N dev vni<0 then [] else (N.floods.getD (lsF N dev vni).toNat FloodV.zero).addrs.map fun a=>fdF N (owF N a) vni
def msD (N:NV) (d:DomV):DomV:={d with peers:=msP N d.dev d.vni}
def msN (N:NV):NV:={N with domains:=N.domains.map (msD N)}
theorem ms_len (N:NV):(msN N).domains.length=N.domains.length:=by
 show (N.domains.map _).length=_
 rw [List.length_map]
theorem ms_at {N:NV} {i:Nat} (h:i<N.domains.length):(msN N).domains.getD i DomV.zero=msD N (N.domains.getD i DomV.zero):=by
 show (N.domains.map (msD N)).getD i DomV.zero=_
 simp [List.getD,h]
theorem agA_iff {N:NV} {f:FloodV} {a:Int}:agA N f a=true↔a≠0∧0≤owF N a∧0≤fdF N (owF N a) f.vni∧0≤lsF N (owF N a) f.vni∧memB (farL N f a) (N.devices.getD f.dev.toNat DevV.zero).vtep=true∧∀x∈f.addrs,x=a∨x∈farL N f a:=by
 unfold agA agX memB;simp only [Bool.and_eq_true,Bool.not_eq_true',decide_eq_true_eq,decide_eq_false_iff_not,List.all_eq_true,Bool.or_eq_true]
theorem ms_sz {N:NV} (h:NvSz N) (hn:NetOk N):NvSz (msN N):=by
 refine ⟨h.zdv,h.zpt,h.zlk,by rw [ms_len];exact h.zdm,h.zst,h.zfl,h.zvr,h.zir,h.ipt,fun j hj=>?_,h.ifl,h.ivr⟩;rw [ms_len] at hj;rw [ms_at hj]
 show (msP N _ _).length≤100
 unfold msP
 split
 · exact Nat.zero_le _
 · rename_i c
   rw [List.length_map]
   rcases vFr N (N.domains.getD j DomV.zero).dev (N.domains.getD j DomV.zero).vni with e|⟨i,h1,h2,_⟩
   · exact absurd (.inr (by omega)) c
   · rw [h2]
     have:=(hn.rs.fl i h1).most
     show (N.floods.getD i FloodV.zero).addrs.length≤100
     omega
noncomputable def meE (N:NV):Int:=if vHw N=false then 2 else match agK N N.floods with|some _=>36|none=>if vHw (msN N)=true then 0 else 36
noncomputable def meR (N:NV):Int:=if vHw N=false then 0 else match agK N N.floods with|some r=>r|none=>0
noncomputable def meN (N:NV):NV:=if meE N=0 then msN N else NV.zero
theorem ls_nodev {N:NV} (hn:NetOk N) (v:Int):lsF N (-1) v= -1:=by
 rcases vFr N (-1) v with e|⟨j,h1,_,h3,_⟩
 · exact e
 · have:=((vBb _ _).1 (hn.rs.fl j h1).dev).1
   omega
theorem ag_no {N:NV} (_hn:NetOk N) (f:FloodV) (a:Int) (h:lsF N (odF N a) f.vni<0∨fdF N (odF N a) f.vni<0):agA N f a=false:=by
 rw [Bool.eq_false_iff];intro g;obtain ⟨a0,a1,a2,a3,_,_⟩:=agA_iff.1 g;unfold odF at h;rw [if_neg a0] at h;omega
theorem ag_yes {N:NV} (hn:NetOk N) (f:FloodV) (a:Int) (h1:0≤lsF N (odF N a) f.vni) (h2:0≤fdF N (odF N a) f.vni):odF N a=owF N a∧agA N f a=(memB (farL N f a) (N.devices.getD f.dev.toNat DevV.zero).vtep && f.addrs.all (agX N f a)):=by
 have a0:a≠0:=fun e=>by
  unfold odF at h1;rw [if_pos e,ls_nodev hn] at h1;omega
 have e:odF N a=owF N a:=by unfold odF;rw [if_neg a0]
 rw [e] at h1 h2
 have a1:0≤owF N a:=by
  rcases ow_place N a with g|⟨j,_,g,_⟩
  · rw [g,ls_nodev hn] at h1;omega
  · omega
 refine ⟨e,?_⟩;unfold agA;rw [decide_eq_false a0,decide_eq_true a1,decide_eq_true h2,decide_eq_true h1]
 rfl
theorem all_fst {xs:List Int} {p:Int→Bool} {n:Nat} (hl:xs.length=n):∃V,IsFst (fun k=>!p (xs.getD k 0)) n V∧(!decide (0≤V))=xs.all p:=by
 subst hl
 induction xs with
 |nil=>exact ⟨-1,.inr ⟨rfl,fun j hj=>absurd hj (Nat.not_lt_zero _)⟩,rfl⟩
 |cons x r ih=>
  by_cases g:p x=true
  · obtain ⟨V,h1,h2⟩:=ih
    rcases h1 with ⟨k,k1,k2,k3,k4⟩|⟨k1,k2⟩
    · refine ⟨((k+1:Nat):Int),.inl ⟨k+1,by simpa using k1,rfl,by simpa using k3,fun j hj=>?_⟩,?_⟩
      · match j with
        |0=>simp [g]
        |j+1=>simpa using k4 j (by omega)
      · rw [List.all_cons,g,←h2,k2,decide_eq_true (by omega),decide_eq_true (by omega)]
        rfl
    · refine ⟨-1,.inr ⟨rfl,fun j hj=>?_⟩,?_⟩
      · match j with
        |0=>simp [g]
        |j+1=>simpa using k2 j (by simpa using hj)
      · rw [List.all_cons,g,←h2,k1]
        rfl
  · refine ⟨0,.inl ⟨0,by simp,rfl,by simp [Bool.eq_false_iff.2 g],fun j hj=>absurd hj (Nat.not_lt_zero _)⟩,?_⟩
    rw [List.all_cons,Bool.eq_false_iff.2 g]
    rfl
theorem lacks1_any (x a:Int) (A:Option Addr) (n c:Nat) (xs:List Int) (q1 q2:Nat) (w:World) (c1:w.cell? ⟨q1,0,none⟩=some (.int .u32 a)) (c2:w.cell? ⟨q2,0,none⟩=some (.slice A n c)) (h:ISl w .u32 A n c xs):Calls Tryz.prog 149 #[.int .u32 x,.pointer (some ⟨q1,0,none⟩),.pointer (some ⟨q2,0,none⟩)] w fun e w'=>e=.returned (.bool (!(decide (x=a) || memB xs x)))∧Below w.heap.size w w':=by
 have ql1:q1<w.heap.size:=World.block_lt_of_cell? w _ c1;have ql2:q2<w.heap.size:=World.block_lt_of_cell? w _ c2;have CT:=hid (cont_u32 A n c xs x w h)
 by_cases t:x=a
 · have z:(x != a)=false:=by simpa using t
   rw [show (!(decide (x=a) || memB xs x))=false by rw [decide_eq_true t];rfl];clear t h
   go_enter Tryz.func149,Tryz.ntmps149
   go_wp2;go_ret;exact ⟨rfl,Below.refl _ _⟩
 have z:(x != a)=true:=by simpa using t
 obtain ⟨b,hb⟩:∃b,memB xs x=b:=⟨_,rfl⟩;rw [show (!(decide (x=a) || memB xs x))=!b by rw [decide_eq_false t,hb];rfl];have C0:=CT.out;rw [hb] at C0;replace CT:=hid C0;clear t h hb C0
 go_enter Tryz.func149,Tryz.ntmps149
 go_wp2_with (go_at_call 93;(with_reducible refine CT.out.mono ?_);rintro e w1 ⟨rfl,hb⟩;have X1:=hid hb;clear hb);go_ret;exact ⟨rfl,X1.out⟩
theorem enters_lacks1:vAz Tryz.prog 149:=vAt Tryz.func149 (by kernel_rfl) rfl
theorem xanswers_any (N:NV) (S:NSl3) (f:FloodV) (s:Sl3) (a:Int) (w:World) (h:NRead w (vAp w) N S) (hs:RSl (Rdr.int .u32) w (vAp w) s.A s.n s.c f.addrs) (hn:NetOk N) (hf:plB f.dev (N.devices.length:Int)=true):Calls Tryz.prog 94 #[vAm S,.agg #[.int .i64 f.row,.int .i64 f.dev,.int .i64 f.vni,.slice s.A s.n s.c],.int .u32 a] w fun e w'=>e=.returned (.bool (agA N f a))∧Below w.heap.size w w':=by
 have DV:=fun (w':World) (hb:Below w.heap.size w w')=>xodev_any N S a w' (h.up hb)
 have LS:=fun (w':World) (hb:Below w.heap.size w w')=>xolst_any N S (odF N a) f.vni w' (h.up hb)
 have FD:=fun (w':World) (hb:Below w.heap.size w w')=>vFd N S (odF N a) f.vni w' (h.up hb)
 have NO:=hid (ag_no hn f a);have YES:=hid (ag_yes hn f a);have LP:=hid (vFr N (odF N a) f.vni)
 have FP:=hid (show fdF N (odF N a) f.vni= -1∨0≤fdF N (odF N a) f.vni by rcases vGw N (odF N a) f.vni with e|⟨j,_,e,_⟩<;>omega)
 have FARL:=hid (fun (e:odF N a=owF N a)=>show farL N f a=(N.floods.getD (lsF N (odF N a) f.vni).toNat FloodV.zero).addrs by unfold farL;rw [e]);have HFL:=hid h.fl;have HDV:=hid h.dv;have HS:=hid hs;have hle:=h.fl.le;have hcap:=h.fl.cap;have dle:=h.dv.le;have dcap:=h.dv.cap;have FLEN:=hid h.fl.len;have DLEN:=hid h.dv.len;obtain ⟨p1,p2⟩:=(vBb _ _).1 hf;obtain ⟨d,hd⟩:=Int.eq_ofNat_of_zero_le p1
 have hdl:d<N.devices.length:=by omega
 obtain ⟨dev,hdev⟩:∃v,odF N a=v:=⟨_,rfl⟩;obtain ⟨at_,hat⟩:∃v,lsF N dev f.vni=v:=⟨_,rfl⟩;obtain ⟨fd,hfd⟩:∃v,fdF N dev f.vni=v:=⟨_,rfl⟩;have NO0:=NO.out;have YES0:=YES.out;have LP0:=LP.out;have FP0:=FP.out;have FA0:=FARL.out;rw [hdev] at DV LS FD NO0 YES0 LP0 FP0 FA0;rw [hat] at LS NO0 YES0 LP0 FA0;rw [hfd] at FD NO0 YES0 FP0;replace NO:=hid NO0;replace YES:=hid YES0;replace LP:=hid LP0;replace FP:=hid FP0;replace FARL:=hid FA0
 obtain ⟨R,hR⟩:∃R,agA N f a=R:=⟨_,rfl⟩;have NO1:=NO.out;have YES1:=YES.out;rw [hR] at NO1 YES1 ⊢;replace NO:=hid NO1;replace YES:=hid YES1;have FDV:=hid hd;unfold vAm at DV LS FD ⊢;replace DV:=hid DV;replace LS:=hid LS;replace FD:=hid FD
 have K0:=hid (show ∀W,((w.alloc (.cells (nA S) 31)).alloc (.cells #[.int .i64 f.row,.int .i64 f.dev,.int .i64 f.vni,.slice s.A s.n s.c] 71)).alloc (.cells #[.int .u32 a] 33)=W→Below w.heap.size w W∧∀wx,Below W.heap.size W wx→NF wx w.heap.size S∧(wx.cell? ⟨w.heap.size+1,0,none⟩=some (.int .i64 f.row)∧wx.cell? ⟨w.heap.size+1,1,none⟩=some (.int .i64 f.dev)∧wx.cell? ⟨w.heap.size+1,2,none⟩=some (.int .i64 f.vni)∧wx.cell? ⟨w.heap.size+1,3,none⟩=some (.slice s.A s.n s.c))∧wx.cell? ⟨w.heap.size+2,0,none⟩=some (.int .u32 a)∧Below w.heap.size w wx from fun W hW=>by
  have NC:=net_cs3 S _ _ _ [.int .i64 f.row,.int .i64 f.dev,.int .i64 f.vni,.slice s.A s.n s.c] [.int .u32 a] hW;refine ⟨NC.2.2.2,fun wx hx=>?_⟩;have n:=(NC.1.below hx).1;have r:=(NC.2.1.below hx).1;have v:=(NC.2.2.1.below hx).1
  exact ⟨⟨n 0 _ rfl,n 1 _ rfl,n 2 _ rfl,n 3 _ rfl,n 4 _ rfl,n 5 _ rfl,n 6 _ rfl,n 7 _ rfl⟩,⟨r 0 _ rfl,r 1 _ rfl,r 2 _ rfl,r 3 _ rfl⟩,v 0 _ rfl,vAa NC.2.2.2 hx⟩)
 clear h hs hn hf p1 p2 hd hat hfd hdev NO0 YES0 LP0 FP0 FA0 NO1 YES1 hR
 go_enter Tryz.func94,Tryz.ntmps94
 go_upto_region 1 with fail
 obtain ⟨W,hW⟩:∃W,((w.alloc (.cells (nA S) 31)).alloc (.cells #[.int .i64 f.row,.int .i64 f.dev,.int .i64 f.vni,.slice s.A s.n s.c] 71)).alloc (.cells #[.int .u32 a] 33)=W:=⟨_,rfl⟩;have B0:=hid (K0.out W hW).1;have KQ:=hid (K0.out W hW).2;rw [hW];clear hW K0;have Y0:=hid (Below.refl W.heap.size W);obtain ⟨⟨f0,f1,f2,f3,f4,f5,f6,f7⟩,⟨g0,g1,g2,g3⟩,v0_,hx_⟩:=KQ.out _ Y0.out;clear hx_
 by_cases c1:at_= -1
 · have y1:(at_ == -1)=true:=by simpa using c1
   have EV:=hid (NO.out (.inl (by omega)));clear c1
   go_wp2_with (first
    |(go_at_call 89;(with_reducible refine (DV.out _ B0.out).mono ?_);rintro e w1_ ⟨rfl,hb⟩;have Y1_:=hid (vAa Y0.out hb);obtain ⟨⟨f0,f1,f2,f3,f4,f5,f6,f7⟩,⟨g0,g1,g2,g3⟩,v0_,hx_⟩:=KQ.out _ Y1_.out;have X1_:=hid hx_;clear hb hx_)
    |(go_at_call 92;(with_reducible refine (LS.out _ X1_.out).mono ?_);rintro e w2_ ⟨rfl,hb⟩;have Y2_:=hid (vAa Y1_.out hb);obtain ⟨⟨f0,f1,f2,f3,f4,f5,f6,f7⟩,⟨g0,g1,g2,g3⟩,v0_,hx_⟩:=KQ.out _ Y2_.out;have X2_:=hid hx_;clear hb hx_))
   go_ret;exact ⟨by rw [EV.out];rfl,X2_.out⟩
 have y1:(at_ == -1)=false:=by simpa using c1
 by_cases c2:fd= -1
 · have y2:(fd == -1)=true:=by simpa using c2
   have EV:=hid (NO.out (.inr (by omega)));clear c1 c2
   go_wp2_with (first
    |(go_at_call 89;(with_reducible refine (DV.out _ B0.out).mono ?_);rintro e w1_ ⟨rfl,hb⟩;have Y1_:=hid (vAa Y0.out hb);obtain ⟨⟨f0,f1,f2,f3,f4,f5,f6,f7⟩,⟨g0,g1,g2,g3⟩,v0_,hx_⟩:=KQ.out _ Y1_.out;have X1_:=hid hx_;clear hb hx_)
    |(go_at_call 92;(with_reducible refine (LS.out _ X1_.out).mono ?_);rintro e w2_ ⟨rfl,hb⟩;have Y2_:=hid (vAa Y1_.out hb);obtain ⟨⟨f0,f1,f2,f3,f4,f5,f6,f7⟩,⟨g0,g1,g2,g3⟩,v0_,hx_⟩:=KQ.out _ Y2_.out;have X2_:=hid hx_;clear hb hx_)
    |(go_at_call 49;(with_reducible refine (FD.out _ X2_.out).mono ?_);rintro e w3_ ⟨rfl,hb⟩;have Y3_:=hid (vAa Y2_.out hb);obtain ⟨⟨f0,f1,f2,f3,f4,f5,f6,f7⟩,⟨g0,g1,g2,g3⟩,v0_,hx_⟩:=KQ.out _ Y3_.out;have X3_:=hid hx_;clear hb hx_))
   go_ret;exact ⟨by rw [EV.out];rfl,X3_.out⟩
 have y2:(fd == -1)=false:=by simpa using c2
 obtain ⟨j,hj,ej,_,_⟩:=LP.out.resolve_left c1;subst ej;have YS:=YES.out (by omega) (FP.out.resolve_left c2);have FE:=FARL.out YS.1;rw [show ((j:Int)).toNat=j from rfl] at FE;obtain ⟨bf,of,vs,ef,_,hbf,⟨u,rfl,lu⟩,rf_⟩:=vAi HFL.out j (by have:=FLEN.out;omega) FloodV.zero;obtain ⟨bd,od,vd,ed,_,hbd,hvd,rd⟩:=vAi HDV.out d (by have:=DLEN.out;omega) DevV.zero;have hvd:vd=vGt (N.devices.getD d DevV.zero):=hvd
 subst hvd;rw [←FE] at lu;have YR:=YS.2;rw [FDV.out,show ((d:Int)).toNat=d from rfl] at YR
 have AXE:agX N f a=fun x=>decide (x=a) || memB (farL N f a) x:=rfl
 rw [AXE] at YR;have UL:=hid lu;have ule:=lu.le;have ucap:=lu.cap
 have KF:=hid (show ∀wx,Below W.heap.size W wx→wx.cell? ⟨bf,of+j * 4+3,none⟩=some (.slice u.A u.n u.c)∧wx.cell? ⟨bd,od+d * 5+4,none⟩=some (.int .u32 (N.devices.getD d DevV.zero).vtep) from fun wx hx=>by
  have hb:=vAa B0.out hx
  exact ⟨vAb rf_ (hb.block bf hbf) 3 _ rfl,vAb rd (hb.block bd hbd) 4 _ rfl⟩)
 have lj:(j:Int)<(S.fl.n:Int):=by have:=FLEN.out;omega
 have ld:(d:Int)<(S.dv.n:Int):=by have:=DLEN.out;omega
 have EF:=hid ef;have ED:=hid ed;generalize farL N f a=T at *;generalize (N.devices.getD d DevV.zero).vtep=own at *;clear YS FE rf_ rd hbf hbd c1 c2 ef ed AXE lu
 go_upto_region 5 with (first
  |(go_at_call 89;(with_reducible refine (DV.out _ B0.out).mono ?_);rintro e w1_ ⟨rfl,hb⟩;have Y1_:=hid (vAa Y0.out hb);obtain ⟨⟨f0,f1,f2,f3,f4,f5,f6,f7⟩,⟨g0,g1,g2,g3⟩,v0_,hx_⟩:=KQ.out _ Y1_.out;have X1_:=hid hx_;clear hb hx_)
  |(go_at_call 92;(with_reducible refine (LS.out _ X1_.out).mono ?_);rintro e w2_ ⟨rfl,hb⟩;have Y2_:=hid (vAa Y1_.out hb);obtain ⟨⟨f0,f1,f2,f3,f4,f5,f6,f7⟩,⟨g0,g1,g2,g3⟩,v0_,hx_⟩:=KQ.out _ Y2_.out;have X2_:=hid hx_;clear hb hx_)
  |(go_at_call 49;(with_reducible refine (FD.out _ X2_.out).mono ?_);rintro e w3_ ⟨rfl,hb⟩;have Y3_:=hid (vAa Y2_.out hb);obtain ⟨⟨f0,f1,f2,f3,f4,f5,f6,f7⟩,⟨g0,g1,g2,g3⟩,v0_,hx_⟩:=KQ.out _ Y3_.out;have X3_:=hid hx_;clear hb hx_))
 obtain ⟨k1_,_⟩:=KF.out _ Y3_.out;rw [EF.out] at f5
 go_upto_region 6 with fail
 obtain ⟨w4,hw4⟩:∃w4,w3_.alloc (.cells #[.slice u.A u.n u.c] 35)=w4:=⟨_,rfl⟩;have Y4:=hid (show Below W.heap.size W w4 by rw [←hw4];exact vAa Y3_.out (vAc _ _));have C4:=hid (show Cs w4 w3_.heap.size [.slice u.A u.n u.c] by rw [←hw4];exact Cs.new w3_ [.slice u.A u.n u.c] _);obtain ⟨q9,hq9⟩:∃q,w3_.heap.size=q:=⟨_,rfl⟩;rw [hw4];rw [hq9] at C4 ⊢;clear hw4 hq9 f0 f1 f2 f3 f4 f5 f6 f7 g0 g1 g2 g3 v0_ k1_
 go_upto_region 7 with fail
 have KX:=hid (show ∀wx,Below w4.heap.size w4 wx→(wx.cell? ⟨w.heap.size,0,none⟩=some (.slice (some ⟨bd,od,none⟩) S.dv.n S.dv.c)∧wx.cell? ⟨w.heap.size+1,1,none⟩=some (.int .i64 (d:Int))∧wx.cell? ⟨w.heap.size+1,3,none⟩=some (.slice s.A s.n s.c)∧wx.cell? ⟨w.heap.size+2,0,none⟩=some (.int .u32 a)∧wx.cell? ⟨q9,0,none⟩=some (.slice u.A u.n u.c)∧wx.cell? ⟨bd,od+d * 5+4,none⟩=some (.int .u32 own))∧Below w.heap.size w wx from fun wx hx=>by
  have hy:=vAa Y4.out hx;obtain ⟨⟨f0,_⟩,⟨_,g1,_,g3⟩,v0,hb⟩:=KQ.out wx hy;rw [ED.out] at f0;rw [FDV.out] at g1
  exact ⟨⟨f0,g1,g3,v0,(C4.out.below hx).1 0 _ rfl,(KF.out wx hy).2⟩,hb⟩)
 have CT:=hid (fun (w':World) (hb:Below w.heap.size w w')=>cont_u32 u.A u.n u.c T own w' (vAu (vAn UL.out hb)));obtain ⟨Z,hZ1,hZ2⟩:=all_fst (xs:=f.addrs) (p:=fun x=>decide (x=a) || memB T x) HS.out.len
 have CF:=hid (fun (w':World) (hb:Below w4.heap.size w4 w')=>contf_u32 s.A s.n s.c (.func (.func 149) #[] #[.pointer (some ⟨w.heap.size+2,0,none⟩),.pointer (some ⟨q9,0,none⟩)]) Z w' (idx_u32 149 #[.pointer (some ⟨w.heap.size+2,0,none⟩),.pointer (some ⟨q9,0,none⟩)] enters_lacks1 s.A s.n s.c f.addrs w' (vAu (vAn HS.out (KX.out w' hb).2)) _ (fun k w2 hk hb2=>by
  have hx2:=vAa hb hb2;obtain ⟨⟨_,_,_,v0,q0,_⟩,hb3⟩:=KX.out w2 hx2;rw [app12]
  exact lacks1_any _ a u.A u.n u.c T _ _ w2 v0 q0 (vAu (vAn UL.out hb3))) _ hZ1))
 rw [←hZ2] at YR;clear hZ1 hZ2;generalize decide (0≤Z)=cz at *;obtain ⟨mb,hmb⟩:∃b,memB T own=b:=⟨_,rfl⟩;have CT0:=CT.out;rw [hmb] at CT0 YR;replace CT:=hid CT0;have YR:=hid YR;clear CT0 hmb
 cases mb
 · have EV:=hid (show R=false by rw [YR.out];rfl)
   refine vAe (fun wx=>Below w4.heap.size w4 wx) (by kernel_rfl) (by kernel_rfl) (vAd (Below.refl w4.heap.size w4) 1) ?_
   repeat
    first
     |(refine Seq.pass rfl ?_;simp only [Act.put,List.setIfInBounds_toArray,List.set_cons_zero,List.set_cons_succ])
     |(refine Seq.run ?_ rfl (fun wx hx=>?_) ?_
       rotate_left
       · obtain ⟨⟨x0_,x1_,x2_,x3_,x4_,x5_⟩,hBx⟩:=KX.out wx hx
         go_simp
         first
          |(refine StepRun.val ?_;exact hx)
          |(refine StepRun.call (v:=.bool false) ?_;(with_reducible refine Calls.mono (CT.out _ hBx) ?_);rintro e w' ⟨rfl,hb⟩;exact ⟨rfl,vAa hx hb⟩)
       simp only [Act.put,List.setIfInBounds_toArray,List.set_cons_zero,List.set_cons_succ])
   refine Seq.last (fun w7 h7=>?_);go_wp2;go_ret;exact ⟨by rw [EV.out];rfl,vAa B0.out (vAa Y4.out h7)⟩
 have EV:=hid (show R=!cz by rw [YR.out];rfl);refine vAe (fun wx=>Below w4.heap.size w4 wx) (by kernel_rfl) (by kernel_rfl) (vAd (Below.refl w4.heap.size w4) 1) ?_
 repeat
  first
   |(refine Seq.pass rfl ?_;simp only [Act.put,List.setIfInBounds_toArray,List.set_cons_zero,List.set_cons_succ])
   |(refine Seq.run ?_ rfl (fun wx hx=>?_) ?_
     rotate_left
     · obtain ⟨⟨x0_,x1_,x2_,x3_,x4_,x5_⟩,hBx⟩:=KX.out wx hx
       go_simp
       first
        |(refine StepRun.val ?_;exact hx)
        |(refine StepRun.call (v:=.bool true) ?_;(with_reducible refine Calls.mono (CT.out _ hBx) ?_);rintro e w' ⟨rfl,hb⟩;exact ⟨rfl,vAa hx hb⟩)
        |(refine StepRun.call (v:=.bool cz) ?_;(with_reducible refine Calls.mono (CF.out _ hx) ?_);rintro e w' ⟨rfl,hb⟩;exact ⟨rfl,vAa hx hb⟩)
     simp only [Act.put,List.setIfInBounds_toArray,List.set_cons_zero,List.set_cons_succ])
 refine Seq.last (fun w7 h7=>?_);go_wp2;go_ret;exact ⟨by rw [EV.out];rfl,vAa B0.out (vAa Y4.out h7)⟩
theorem agB_fd {N:NV} {f:FloodV} (h:fdF N f.dev f.vni<0):agB N f=false:=by unfold agB;rw [decide_eq_false (by omega)];rfl
theorem agB_all {N:NV} {f:FloodV} (h0:¬fdF N f.dev f.vni<0) (h:∀k,k<f.addrs.length→agA N f (f.addrs.getD k 0)=true):agB N f=true:=by
 unfold agB;rw [decide_eq_true (by omega),Bool.true_and,List.all_eq_true];intro x hx;obtain ⟨k,hk,rfl⟩:=List.getElem_of_mem hx
 have:=h k hk
 simpa [List.getD,hk] using this
theorem agB_no {N:NV} {f:FloodV} {k:Nat} (hk:k<f.addrs.length) (h:agA N f (f.addrs.getD k 0)=false):agB N f=false:=by
 rw [Bool.eq_false_iff];intro g;unfold agB at g;rw [Bool.and_eq_true,List.all_eq_true] at g
 have:=g.2 (f.addrs.getD k 0) (by simp [List.getD,hk])
 rw [h] at this
 cases this
end Go.Proofs.YtgmflecelnefcaaGreat
