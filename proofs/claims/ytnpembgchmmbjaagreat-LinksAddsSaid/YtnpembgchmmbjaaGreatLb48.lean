import Derived.Test.YtnpembgchmmbjaaGreatLb43
import Derived.Test.YtnpembgchmmbjaaGreatLb34
import Derived.Test.YtnpembgchmmbjaaGreatLb46
import Derived.Test.YtnpembgchmmbjaaGreatLb42
set_option maxRecDepth 100000
set_option maxHeartbeats 40000000
namespace Go.Proofs.YtnpembgchmmbjaaGreat
open Go.RowKit
theorem rwords_k3 (L:LV) (s1 s2 s3 s4:SlV) (w:World) (h:LRead w L s1 s2 s3 s4) (hw:LvW L) (hk:L.kind=3):Calls Tryz.prog 140 #[vBl L s1 s2 s3 s4] w (GotWs (wrW L) w):=by
 have WR:=Lib.hid (show wrW L=[sLink,L.dev,L.port,L.peer,L.far] by unfold wrW;rw [if_neg (by rw [hk];decide),if_neg (by rw [hk];decide),if_pos hk]);have H:=Lib.hid h;have HW:=Lib.hid hw;have P0:=Lib.hid (vFu w L s1 s2 s3 s4 37);have CV:=Lib.hid (fun w'=>vBp L.vlan hw.vlan.1 hw.vlan.2 w');have CN:=Lib.hid (fun w'=>vBp L.num hw.num.1 hw.num.2 w');have CC:=Lib.hid (fun w'=>vBp L.cost hw.cost.1 hw.cost.2 w')
 have CM:=Lib.hid (fun w'=>Mac.refText_any L.mac w' hw.mac.1 hw.mac.2);have HK:=Lib.hid hk;clear h hw hk;unfold vBl
 go_enter Tryz.func140,Tryz.ntmps140
 go_upto_region 1 with fail
 obtain ⟨w1,hw1⟩:∃w1,w.alloc (.cells #[.int .i64 L.row,.int .i64 L.kind,.string (str L.dev),.string (str L.port),.string (str L.peer),.string (str L.far),.string (str L.name),.int .u64 L.mac,.int .u32 L.addr,.int .i64 L.bits,.int .i64 L.vlan,.int .i64 L.num,.int .i64 L.cost,.slice s1.A s1.n s1.c,.slice s2.A s2.n s2.c,.slice s3.A s3.n s3.c,.slice s4.A s4.n s4.c] 37)=w1:=⟨_,rfl⟩;have B1:=Lib.hid (show Below w.heap.size w w1 by rw [←hw1];exact (Below.refl _ _).alloc (Nat.le_refl _) _)
 rw [hw1] at P0 ⊢;have Q0:=Lib.hid (show w.heap.size<w1.heap.size by rw [←hw1];simp);clear hw1
 have KP:=Lib.hid (show ∀wx,Below w1.heap.size w1 wx→(wx.cell? ⟨w.heap.size,1,none⟩=some (.int .i64 3)∧wx.cell? ⟨w.heap.size,2,none⟩=some (.string (str L.dev))∧wx.cell? ⟨w.heap.size,3,none⟩=some (.string (str L.port))∧wx.cell? ⟨w.heap.size,4,none⟩=some (.string (str L.peer))∧wx.cell? ⟨w.heap.size,5,none⟩=some (.string (str L.far))∧wx.cell? ⟨w.heap.size,7,none⟩=some (.int .u64 L.mac)∧wx.cell? ⟨w.heap.size,10,none⟩=some (.int .i64 L.vlan)∧wx.cell? ⟨w.heap.size,11,none⟩=some (.int .i64 L.num))∧LRead wx L s1 s2 s3 s4∧Below w.heap.size w wx from fun wx hx=>by
  have bx:=P0.out.below (by omega) hx
  exact ⟨⟨(bx.cell 1 (by omega)).trans (by first|rfl|(show some (Value.int .i64 L.kind)=_;rw [HK.out])),(bx.cell 2 (by omega)).trans (by first|rfl|(show some (Value.int .i64 L.kind)=_;rw [HK.out])),(bx.cell 3 (by omega)).trans (by first|rfl|(show some (Value.int .i64 L.kind)=_;rw [HK.out])),(bx.cell 4 (by omega)).trans (by first|rfl|(show some (Value.int .i64 L.kind)=_;rw [HK.out])),(bx.cell 5 (by omega)).trans (by first|rfl|(show some (Value.int .i64 L.kind)=_;rw [HK.out])),(bx.cell 7 (by omega)).trans (by first|rfl|(show some (Value.int .i64 L.kind)=_;rw [HK.out])),(bx.cell 10 (by omega)).trans (by first|rfl|(show some (Value.int .i64 L.kind)=_;rw [HK.out])),(bx.cell 11 (by omega)).trans (by first|rfl|(show some (Value.int .i64 L.kind)=_;rw [HK.out]))⟩,⟨H.out.1.below (B1.out.trans (hx.mono B1.out.size)),H.out.2.1.below (B1.out.trans (hx.mono B1.out.size)),H.out.2.2.1.below (B1.out.trans (hx.mono B1.out.size)),H.out.2.2.2.below (B1.out.trans (hx.mono B1.out.size))⟩,B1.out.trans (hx.mono B1.out.size)⟩)
 obtain ⟨⟨c1,c2,c3,c4,c5,c7,c10,c11⟩,_,_⟩:=KP.out w1 (Below.refl _ _)
 go_wp2_with (first
  |(go_at_call 161;(with_reducible refine (CV.out _).mono ?_);rintro e w2 ⟨rfl,b_⟩;have Y2:=Lib.hid (b_);obtain ⟨⟨c1,c2,c3,c4,c5,c7,c10,c11⟩,_,_⟩:=KP.out _ Y2.out;clear b_)
  |(go_at_call 161;(with_reducible refine (CN.out _).mono ?_);rintro e w3 ⟨rfl,b_⟩;have Y3:=Lib.hid (vAa Y2.out b_);obtain ⟨⟨c1,c2,c3,c4,c5,c7,c10,c11⟩,_,_⟩:=KP.out _ Y3.out;clear b_)
  |(go_at_call 162;(with_reducible refine (CM.out _).mono ?_);rintro e w4 ⟨rfl,b_⟩;have Y4:=Lib.hid (vAa Y3.out b_);obtain ⟨⟨c1,c2,c3,c4,c5,c7,c10,c11⟩,_,_⟩:=KP.out _ Y4.out;clear b_))
 go_ret;have B4:=(KP.out _ Y4.out).2.2;rw [WR.out];exact ⟨_,_,_,rfl,row_lit w4 [sLink,L.dev,L.port,L.peer,L.far] _ (by simp),B4.alloc B4.size _⟩
theorem wr_len3 {L:LV} (hs:LvSm L) (hk:L.kind=3):∀p∈wrW L,p.length≤1000000:=by
 have t:=hs.txt;intro p hp
 have e:wrW L=[sLink,L.dev,L.port,L.peer,L.far]:=by unfold wrW;rw [if_neg (by rw [hk];decide),if_neg (by rw [hk];decide),if_pos hk]
 rw [e] at hp;simp only [List.mem_cons,List.not_mem_nil,or_false] at hp
 rcases hp with rfl|rfl|rfl|rfl|rfl
 · decide
 all_goals omega
theorem fm_link {ws:List (List UInt8)} (p:wat ws 0=sLink) (h0:ws≠[]):fmV ws=[78,78,78,78]:=by
 have k:kdV (wat ws 0)=3:=by rw [p];decide +kernel
 unfold fmV;rw [if_neg h0,if_neg (by rw [k];decide),if_pos k]
theorem back3 (row:Int) (L:LV) (h:Kd3 row L):rdE (wrW L) row=0∧rdL (wrW L) row=L:=by
 obtain ⟨s,p,q,r,rfl,hs,hp,hq,hr⟩:=h;have e:wrW {LV.new row 3 with dev:=s,port:=p,peer:=q,far:=r}=[sLink,s,p,q,r]:=rfl;rw [e]
 have hr:vCj [78,78,78,78] ([sLink,s,p,q,r].drop 1) 0 (LV.new row 3)=(0,{LV.new row 3 with dev:=s,port:=p,peer:=q,far:=r}):=by
  show vCj [78,78,78,78] [s,p,q,r] 0 (LV.new row 3)=_
  rw [vGd (wdE_N hs),vGd (wdE_N hp),vGd (wdE_N hq),vGd (wdE_N hr)]
  rfl
 obtain ⟨h1,h2⟩:=rd_of (ws:=[sLink,s,p,q,r]) (row:=row) (fm_link rfl (by simp)) (by simp) rfl (show kdV (wat [sLink,s,p,q,r] 0)=3 from (by decide +kernel:kdV sLink=3)) hr
 have e0:rdE [sLink,s,p,q,r] row=0:=by rw [h1];rfl
 exact ⟨e0,by rw [h2,if_pos e0]⟩
theorem rg_kd3 {L:LV} (h:rgB L=true) (k:L.kind=3):Kd3 L.row L:=by
 have hp:pts L.kind true=[(0,0),(0,1),(0,2),(0,3)]:=by rw [k];rfl
 have h1:=(rgB_yes h).2;rw [hp] at h1;obtain ⟨a1,h1⟩:=rg_of h1;obtain ⟨a2,h1⟩:=rg_of h1;obtain ⟨a3,h1⟩:=rg_of h1;obtain ⟨a4,h1⟩:=rg_of h1;obtain ⟨f0,f1,f2,f3,f4,f5,f6,f7,f8,f9,f10,f11,f12,f13,f14,f15,f16⟩:=L;dsimp only at k;subst k
 have h2:({(⟨f0,3,f2,f3,f4,f5,f6,f7,f8,f9,f10,f11,f12,f13,f14,f15,f16⟩:LV) with dev:=[],port:=[],peer:=[],far:=[]}:LV)=LV.new f0 3:=by injection h1
 simp only [LV.new,LV.mk.injEq] at h2;obtain ⟨_,_,_,_,_,_,rfl,rfl,rfl,rfl,rfl,rfl,rfl,rfl,rfl,rfl,rfl⟩:=h2;exact ⟨f2,f3,f4,f5,rfl,may0_of a1,may0_of a2,may0_of a3,may0_of a4⟩
theorem rr_eq3 (L:LV) (h:L.kind=3) (r0: -9223372036854775808≤L.row) (r1:L.row≤9223372036854775807):rrB L=rgB L:=by
 rw [Bool.eq_iff_iff]
 constructor
 · intro g
   unfold rrB at g;rw [Bool.and_eq_true] at g;have g2:=g.2;rw [Bool.and_eq_true,decide_eq_true_eq,vFo] at g2;have k:=rd_cases _ _ g2.1;rw [←g2.2] at k;exact rgB_read _ _ k
 · intro g
   have k:=rg_kd3 g h;have kb:RdK L.row L:=.inr (.inr (.inl k));have k2:=back3 _ _ k;have ok:=(rd_ok kb r0 r1).lst;unfold rrB;rw [decide_eq_true ok.1,decide_eq_true ok.2.1,decide_eq_true ok.2.2.1,decide_eq_true ok.2.2.2,decide_eq_true k2.1,k2.2,vFx]
   rfl
theorem rright_k3 (L:LV) (s1 s2 s3 s4:SlV) (w:World) (h:LRead w L s1 s2 s3 s4) (hw:LvW L) (hs:LvSm L) (hk:L.kind=3):Calls Tryz.prog 87 #[vBl L s1 s2 s3 s4] w fun e w'=>e=.returned (.bool (rgB L))∧Below w.heap.size w w':=by
 have:=rrright_gen L s1 s2 s3 s4 w h (fun w' hr=>rwords_k3 L s1 s2 s3 s4 w' hr hw hk) (wr_len3 hs hk)
 rw [rr_eq3 L hk hw.row.1 hw.row.2] at this;exact this
theorem rend_any (N:NV) (S:NSl3) (dev port:List UInt8) (w:World) (h:NRead w (vAw w) N S) (hn:NetOk N):Calls Tryz.prog 25 #[vAy S,.string (str dev),.string (str port)] w fun e w'=>e=.returned (.int .i64 (ndF N dev port))∧Below w.heap.size w w':=by
 have DV:=fun (w':World) (hb:Below w.heap.size w w')=>rdevice_any N S dev w' (h.up hb)
 have PT:=fun (w':World) (hb:Below w.heap.size w w')=>rport_any N S (dvF N dev) port w' (h.up hb)
 have E0:=Lib.hid (fun (g:dvF N dev= -1)=>show ndF N dev port= -1 by unfold ndF;rw [g];exact pt_nodev hn port);have DC:=dv_neg (N:=N) (s:=dev);rw [show ptF N (dvF N dev) port=ndF N dev port from rfl] at PT;generalize ndF N dev port=Z at *;generalize dvF N dev=D at *;unfold vAy at DV PT ⊢;replace DV:=Lib.hid DV;replace PT:=Lib.hid PT;have NB:=Lib.hid (NBox.new w S 31);clear h hn
 go_enter Tryz.func25,Tryz.ntmps25
 go_upto_region 1 with fail
 obtain ⟨w1,hw1⟩:∃w1,w.alloc (.cells (nA S) 31)=w1:=⟨_,rfl⟩;have B1:=Lib.hid (show Below w.heap.size w w1 by rw [←hw1];exact vAc _ _);rw [hw1] at NB ⊢;clear hw1;obtain ⟨f0,f1,f2,f3,f4,f5,f6,f7,ql⟩:=NB.out
 by_cases g:D<0
 · have EV:=Lib.hid (E0.out (DC g))
   clear DC E0 PT;go_wp2_with (go_at_call 89;(with_reducible refine (DV.out _ B1.out).mono ?_);rintro e w2 ⟨rfl,b_⟩;have X2:=Lib.hid (vAa B1.out b_);clear b_);go_ret;exact ⟨by rw [EV.out];rfl,X2.out⟩
 clear DC E0
 go_wp2_with (first
  |(go_at_call 89;(with_reducible refine (DV.out _ B1.out).mono ?_);rintro e w2 ⟨rfl,b_⟩;have X2:=Lib.hid (vAa B1.out b_);obtain ⟨f0,f1,f2,f3,f4,f5,f6,f7,_⟩:=NB.out.below b_;clear b_)
  |(go_at_call 90;(with_reducible refine (PT.out _ X2.out).mono ?_);rintro e w3 ⟨rfl,b_⟩;have X3:=Lib.hid (vAa X2.out b_);clear b_))
 go_ret;exact ⟨rfl,X3.out⟩
theorem vEa (tmps:Array Value) (W:World) (S:NSl3) (q:Nat) (E:Int) (h2:tmps[4]?.getD undef=.pointer (some ⟨q,0,none⟩)) (h5:tmps[5]?.getD undef=.int .i64 E) (hb:TBx W q 31 (vCs S)):
 (results Tryz.f8 tmps).run Tryz.prog W=.ok (.tuple #[vAy S,.int .i64 E]) W:=by
 have t0:=hb.cell 0 _ rfl;have t1:=hb.cell 1 _ rfl;have t2:=hb.cell 2 _ rfl;have t3:=hb.cell 3 _ rfl;have t4:=hb.cell 4 _ rfl;have t5:=hb.cell 5 _ rfl;have t6:=hb.cell 6 _ rfl;have t7:=hb.cell 7 _ rfl;clear hb;unfold vAy;simp [results,Tryz.results8,go_sem,h2,h5,t0,t1,t2,t3,t4,t5,t6,t7]
theorem radd_any (N:NV) (S:NSl3) (L:LV) (s1 s2 s3 s4:SlV) (w:World) (h:NRead w (vAw w) N S) (hl:LRead w L s1 s2 s3 s4) (hz:NvSz N) (hw:LvW L) (hs:LvSm L):Calls Tryz.prog 8 #[vAy S,vBl L s1 s2 s3 s4] w (GotPut (laN N L) (laE N L) w):=by
 have UP:=Lib.hid (fun (w':World) (hb:Below w.heap.size w w')=>h.up hb);have UL:=Lib.hid (fun (w':World) (hb:Below w.heap.size w w')=>vBg hl hb)
 have FT:=fun (w':World) (hb:Below w.heap.size w w')=>fits_gen N S L s1 s2 s3 s4 3 w' (h.up hb) (vBg hl hb) (fun w' hl e=>rright_k3 L s1 s2 s3 s4 w' hl hw hs e)
 have CP:=fun (w':World) (hb:Below w.heap.size w w')=>rcopy_any (vAw w) N S w' (h.keep (F':=vAw w) (fun b g=>hb.block b g) (fun _ g=>g)) (fun b g=>Nat.lt_of_lt_of_le g hb.size) hz
 obtain ⟨v,hv⟩:∃v,vGb N L 3=v:=⟨_,rfl⟩;rw [hv] at FT;have HV:=Lib.hid hv;unfold vAy at FT CP;unfold GotCopy vAy at CP;replace FT:=Lib.hid FT;replace CP:=Lib.hid CP;have HP:=Lib.hid h.pt;have HNS:=Lib.hid h;have NLEN:=Lib.hid h.pt.len;have KLEN:=Lib.hid h.lk.len;have hle:=h.pt.le;have hcap:=h.pt.cap;have gle:=h.lk.le;have gcap:=h.lk.cap;clear hv hz hw hs;clear h hl;unfold vAy;rw [vGw]
 go_enter Tryz.func8,Tryz.ntmps8
 go_upto_region 1 with fail
 generalize hw1:World.alloc _ _=w1;obtain ⟨B1,NB,LB,ql1,RB⟩:=pre_three (S:=S) (L:=L) (s1:=s1) (s2:=s2) (s3:=s3) (s4:=s4) hw1;clear hw1;replace B1:=Lib.hid B1;replace NB:=Lib.hid NB;replace LB:=Lib.hid LB;replace RB:=Lib.hid RB
 have KN:=Lib.hid (show ∀wx,Below w1.heap.size w1 wx→NF wx w.heap.size S∧(wx.cell? ⟨w.heap.size+1,0,none⟩=some (.int .i64 L.row)∧wx.cell? ⟨w.heap.size+1,2,none⟩=some (.string (str L.dev))∧wx.cell? ⟨w.heap.size+1,3,none⟩=some (.string (str L.port))∧wx.cell? ⟨w.heap.size+1,4,none⟩=some (.string (str L.peer))∧wx.cell? ⟨w.heap.size+1,5,none⟩=some (.string (str L.far)))∧BoxF wx (w.heap.size+1) 17 (lc L s1 s2 s3 s4)∧NRead wx (vAw wx) N S∧LRead wx L s1 s2 s3 s4∧Below w.heap.size w wx from fun wx hx=>by
  have nb:=NB.out.below hx;have bx:=LB.out.below (by omega) hx;have b0:=B1.out.trans (hx.mono B1.out.size)
  exact ⟨⟨nb.c0,nb.c1,nb.c2,nb.c3,nb.c4,nb.c5,nb.c6,nb.c7⟩,⟨bx.cell 0 (by omega),bx.cell 2 (by omega),bx.cell 3 (by omega),bx.cell 4 (by omega),bx.cell 5 (by omega)⟩,bx,UP.out _ b0,UL.out _ b0,b0⟩)
 have BS:=Lib.hid (Below.refl w1.heap.size w1);obtain ⟨⟨f0,f1,f2,f3,f4,f5,f6,f7⟩,⟨g0,g2,g3,g4,g5⟩,lb_,_⟩:=KN.out w1 (Below.refl _ _)
 cases v
 · have EV:=Lib.hid (la_2 HV.out)
   go_wp2_with (first
    |((with_reducible refine vAk ?hg (.tmp 3) ?ho (w.heap.size+1) ?hx L s1 s2 s3 s4 lb_ ?_);(case hg=>rfl);(case ho=>rfl);(case hx=>rfl))
    |(go_at_call 24;(with_reducible refine (FT.out _ B1.out).mono ?_);rintro e w2 ⟨rfl,b_⟩;have Y2:=Lib.hid b_;have rb_:=RB.out.below Y2.out;have rl_:=rb_.lt;have r0:=rb_.cell 0 (.slice none 0 0) rfl;have z0:=rb_.live 0;have r1:=rb_.cell 1 (.slice none 0 0) rfl;have z1:=rb_.live 1;have r2:=rb_.cell 2 (.slice none 0 0) rfl;have z2:=rb_.live 2;have r3:=rb_.cell 3 (.slice none 0 0) rfl;have z3:=rb_.live 3;have r4:=rb_.cell 4 (.slice none 0 0) rfl;have z4:=rb_.live 4;have r5:=rb_.cell 5 (.slice none 0 0) rfl;have z5:=rb_.live 5;have r6:=rb_.cell 6 (.slice none 0 0) rfl;have z6:=rb_.live 6;have r7:=rb_.cell 7 (.slice none 0 0) rfl;have z7:=rb_.live 7;clear b_ rb_))
   refine bodyPost_ret (vEa _ (st8 w2 (w.heap.size+2) NSl3.nil) NSl3.nil (w.heap.size+2) 2 rfl rfl ((RB.out.below Y2.out).st8 NSl3.nil)) rfl ?_;rw [EV.out.1,EV.out.2];exact ⟨NSl3.nil,rfl,vCd _,Below.st8 (B1.out.trans (Y2.out.mono B1.out.size)) (by omega) NSl3.nil⟩
 have hn:=(fits_iff.1 HV.out).2.2
 have EA:=fun (w':World) (hb:Below w.heap.size w w')=>rend_any N S L.dev L.port w' (UP.out w' hb) hn
 have EB:=fun (w':World) (hb:Below w.heap.size w w')=>rend_any N S L.peer L.far w' (UP.out w' hb) hn
 have LE:=Lib.hid (fun (e:Int)=>la_e (N:=N) (L:=L) HV.out (e:=e));have L0:=Lib.hid (la_0 (N:=N) (L:=L) HV.out);have PA:=vEp (N:=N) (dev:=dvF N L.dev) (s:=L.port);have PB:=vEp (N:=N) (dev:=dvF N L.peer) (s:=L.far);rw [show ptF N (dvF N L.dev) L.port=ndF N L.dev L.port from rfl] at PA;rw [show ptF N (dvF N L.peer) L.far=ndF N L.peer L.far from rfl] at PB;have L20:=Lib.hid hn.zlk;clear hn;generalize ndF N L.dev L.port=a at *
 generalize ndF N L.peer L.far=b at *;unfold vAy at EA EB;replace EA:=Lib.hid EA;replace EB:=Lib.hid EB;replace PA:=Lib.hid PA;replace PB:=Lib.hid PB
 go_upto_region 5 with (first
  |((with_reducible refine vAk ?hg (.tmp 3) ?ho (w.heap.size+1) ?hx L s1 s2 s3 s4 lb_ ?_);(case hg=>rfl);(case ho=>rfl);(case hx=>rfl))
  |(go_at_call 24;(with_reducible refine (FT.out _ B1.out).mono ?_);rintro e w2 ⟨rfl,b_⟩;have Y2:=Lib.hid b_;have X2:=Lib.hid (vAa B1.out b_);obtain ⟨⟨f0,f1,f2,f3,f4,f5,f6,f7⟩,⟨g0,g2,g3,g4,g5⟩,lb_,_⟩:=KN.out _ Y2.out;clear b_)
  |(go_at_call 25;(with_reducible refine (EA.out _ X2.out).mono ?_);rintro e w3 ⟨rfl,b_⟩;have Y3:=Lib.hid (vAa Y2.out b_);have X3:=Lib.hid (vAa X2.out b_);obtain ⟨⟨f0,f1,f2,f3,f4,f5,f6,f7⟩,⟨g0,g2,g3,g4,g5⟩,lb_,_⟩:=KN.out _ Y3.out;clear b_)
  |(go_at_call 25;(with_reducible refine (EB.out _ X3.out).mono ?_);rintro e w4 ⟨rfl,b_⟩;have Y4:=Lib.hid (vAa Y3.out b_);have X4:=Lib.hid (vAa X3.out b_);obtain ⟨⟨f0,f1,f2,f3,f4,f5,f6,f7⟩,⟨g0,g2,g3,g4,g5⟩,lb_,_⟩:=KN.out _ Y4.out;clear b_))
 by_cases a0:a= -1
 · have t1:a<0:=by omega
   have EV:=Lib.hid (LE.out 31 (by unfold laR;rw [if_pos (.inl a0)]) (by decide));have rb_:=RB.out.below Y4.out;have rl_:=rb_.lt;have r0:=rb_.cell 0 (.slice none 0 0) rfl;have z0:=rb_.live 0;have r1:=rb_.cell 1 (.slice none 0 0) rfl;have z1:=rb_.live 1;have r2:=rb_.cell 2 (.slice none 0 0) rfl;have z2:=rb_.live 2;have r3:=rb_.cell 3 (.slice none 0 0) rfl;have z3:=rb_.live 3;have r4:=rb_.cell 4 (.slice none 0 0) rfl;have z4:=rb_.live 4;have r5:=rb_.cell 5 (.slice none 0 0) rfl;have z5:=rb_.live 5;have r6:=rb_.cell 6 (.slice none 0 0) rfl;have z6:=rb_.live 6;have r7:=rb_.cell 7 (.slice none 0 0) rfl;have z7:=rb_.live 7
   clear a0 rb_;go_wp2;refine bodyPost_ret (vEa _ (st8 w4 (w.heap.size+2) NSl3.nil) NSl3.nil (w.heap.size+2) 31 rfl rfl ((RB.out.below Y4.out).st8 NSl3.nil)) rfl ?_;rw [EV.out.1,EV.out.2];exact ⟨NSl3.nil,rfl,vCd _,Below.st8 (B1.out.trans (Y4.out.mono B1.out.size)) (by omega) NSl3.nil⟩
 have t1:¬a<0:=by rcases PA.out with e|⟨j,_,e,_⟩<;>omega
 by_cases b0:b= -1
 · have t2:b<0:=by omega
   have EV:=Lib.hid (LE.out 31 (by unfold laR;rw [if_pos (.inr b0)]) (by decide));have rb_:=RB.out.below Y4.out;have rl_:=rb_.lt;have r0:=rb_.cell 0 (.slice none 0 0) rfl;have z0:=rb_.live 0;have r1:=rb_.cell 1 (.slice none 0 0) rfl;have z1:=rb_.live 1;have r2:=rb_.cell 2 (.slice none 0 0) rfl;have z2:=rb_.live 2;have r3:=rb_.cell 3 (.slice none 0 0) rfl;have z3:=rb_.live 3;have r4:=rb_.cell 4 (.slice none 0 0) rfl;have z4:=rb_.live 4;have r5:=rb_.cell 5 (.slice none 0 0) rfl;have z5:=rb_.live 5;have r6:=rb_.cell 6 (.slice none 0 0) rfl;have z6:=rb_.live 6;have r7:=rb_.cell 7 (.slice none 0 0) rfl;have z7:=rb_.live 7
   clear a0 b0 rb_;go_wp2;refine bodyPost_ret (vEa _ (st8 w4 (w.heap.size+2) NSl3.nil) NSl3.nil (w.heap.size+2) 31 rfl rfl ((RB.out.below Y4.out).st8 NSl3.nil)) rfl ?_;rw [EV.out.1,EV.out.2];exact ⟨NSl3.nil,rfl,vCd _,Below.st8 (B1.out.trans (Y4.out.mono B1.out.size)) (by omega) NSl3.nil⟩
 have t2:¬b<0:=by rcases PB.out with e|⟨j,_,e,_⟩<;>omega
 obtain ⟨x,hx,ea,h1_,h2_⟩:=PA.out.resolve_left a0;obtain ⟨y,hy,eb,h3_,h4_⟩:=PB.out.resolve_left b0;clear h1_ h2_ h3_ h4_;subst ea;subst eb;have LR:=Lib.hid (show laR N (x:Int) (y:Int)=if (N.ports.getD x PortV.zero).dev=(N.ports.getD y PortV.zero).dev∨(N.ports.getD x PortV.zero).link≠-1∨(N.ports.getD y PortV.zero).link≠-1 then 33 else if 20≤N.links.length then 3 else 0 by unfold laR;rw [if_neg (fun e=>e.elim a0 b0)];rfl)
 have hxl:x<S.pt.n:=by have:=NLEN.out;omega
 have hyl:y<S.pt.n:=by have:=NLEN.out;omega
 go_upto_region 7 with fail
 obtain ⟨bp,op,vp,ep,_,hbp,⟨s,rfl,lp⟩,rp⟩:=vAh HP.out x hxl PortV.zero;obtain ⟨bq,oq,vq,eq_,_,_,⟨t,rfl,lq⟩,rq⟩:=vAh HP.out y hyl PortV.zero;rw [ep] at eq_
 injection eq_ with eq_
 injection eq_ with h1 h2
 subst h1 h2;have EP:=Lib.hid ep
 have RP:=Lib.hid (show ∀wx,Below w1.heap.size w1 wx→wx.cell? ⟨bp,op+x * 7+1,none⟩=some (.int .i64 (N.ports.getD x PortV.zero).dev)∧wx.cell? ⟨bp,op+x * 7+4,none⟩=some (.int .i64 (N.ports.getD x PortV.zero).link)∧wx.cell? ⟨bp,op+y * 7+1,none⟩=some (.int .i64 (N.ports.getD y PortV.zero).dev)∧wx.cell? ⟨bp,op+y * 7+4,none⟩=some (.int .i64 (N.ports.getD y PortV.zero).link) from fun wx hx=>by
  have hb:=B1.out.trans (hx.mono B1.out.size);have r1:=vAb rp (hb.block bp hbp);have r2:=vAb rq (hb.block bp hbp)
  exact ⟨r1 1 _ rfl,r1 4 _ rfl,r2 1 _ rfl,r2 4 _ rfl⟩)
 have PQ:=Lib.hid (show x=y→(N.ports.getD x PortV.zero).dev=(N.ports.getD y PortV.zero).dev from fun e=>by rw [e]);have PV:=Lib.hid (show (N.ports.getD x PortV.zero).dev=(N.ports.getD y PortV.zero).dev∨¬(N.ports.getD x PortV.zero).dev=(N.ports.getD y PortV.zero).dev from Classical.em _);generalize (N.ports.getD x PortV.zero).dev=pd at *;generalize (N.ports.getD x PortV.zero).link=pl at *;generalize (N.ports.getD y PortV.zero).dev=qd at *
 generalize (N.ports.getD y PortV.zero).link=ql at *;obtain ⟨p1,p4,q1,q4⟩:=RP.out _ Y4.out
 have lx:(x:Int)<(S.pt.n:Int):=by omega
 have ly:(y:Int)<(S.pt.n:Int):=by omega
 have f1s:=f1;rw [ep] at f1s;clear f1 rp rq lp lq ep a0 b0;have KF:=Lib.hid (show ∀wx,Below w1.heap.size w1 wx→wx.cell? ⟨w.heap.size,1,none⟩=some (.slice (some ⟨bp,op,none⟩) S.pt.n S.pt.c) from fun wx hx=>by have:=(KN.out wx hx).1.2.1;rw [EP.out] at this;exact this)
 by_cases c1:pd=qd
 · have y1:(pd == qd)=true:=by simpa using c1
   have EV:=Lib.hid (LE.out 33 (by rw [LR.out,if_pos (.inl c1)]) (by decide));clear c1;refine vAe (fun wx=>Below w1.heap.size w1 wx) (by kernel_rfl) (by kernel_rfl) (vAd Y4.out 1) ?_
   repeat
    first
     |(refine Seq.pass rfl ?_;simp only [Act.put,List.setIfInBounds_toArray,List.set_cons_zero,List.set_cons_succ])
     |(refine Seq.run ?_ rfl (fun wx hx=>?_) ?_
       rotate_left
       · have f1:=KF.out wx hx
         obtain ⟨p1,p4,q1,q4⟩:=RP.out wx hx
         go_simp
         first
          |(refine StepRun.val ?_;exact hx)
       simp only [Act.put,List.setIfInBounds_toArray,List.set_cons_zero,List.set_cons_succ])
   refine Seq.last (fun w7 h7=>?_);have rb_:=RB.out.below h7;have rl_:=rb_.lt;have r0:=rb_.cell 0 (.slice none 0 0) rfl;have z0:=rb_.live 0;have r1:=rb_.cell 1 (.slice none 0 0) rfl;have z1:=rb_.live 1;have r2:=rb_.cell 2 (.slice none 0 0) rfl;have z2:=rb_.live 2;have r3:=rb_.cell 3 (.slice none 0 0) rfl;have z3:=rb_.live 3;have r4:=rb_.cell 4 (.slice none 0 0) rfl;have z4:=rb_.live 4;have r5:=rb_.cell 5 (.slice none 0 0) rfl;have z5:=rb_.live 5;have r6:=rb_.cell 6 (.slice none 0 0) rfl;have z6:=rb_.live 6;have r7:=rb_.cell 7 (.slice none 0 0) rfl;have z7:=rb_.live 7
   clear rb_;go_wp2;refine bodyPost_ret (vEa _ (st8 w7 (w.heap.size+2) NSl3.nil) NSl3.nil (w.heap.size+2) 33 rfl rfl ((RB.out.below h7).st8 NSl3.nil)) rfl ?_;rw [EV.out.1,EV.out.2];exact ⟨NSl3.nil,rfl,vCd _,Below.st8 (B1.out.trans (h7.mono B1.out.size)) (by omega) NSl3.nil⟩
 have y1:(pd == qd)=false:=by simpa using c1
 by_cases c2:pl= -1
 rotate_left
 · have y2:(pl != -1)=true:=by simpa using c2
   have EV:=Lib.hid (LE.out 33 (by rw [LR.out,if_pos (.inr (.inl c2))]) (by decide));clear c1 c2;refine vAe (fun wx=>Below w1.heap.size w1 wx) (by kernel_rfl) (by kernel_rfl) (vAd Y4.out 1) ?_
   repeat
    first
     |(refine Seq.pass rfl ?_;simp only [Act.put,List.setIfInBounds_toArray,List.set_cons_zero,List.set_cons_succ])
     |(refine Seq.run ?_ rfl (fun wx hx=>?_) ?_
       rotate_left
       · have f1:=KF.out wx hx
         obtain ⟨p1,p4,q1,q4⟩:=RP.out wx hx
         go_simp
         first
          |(refine StepRun.val ?_;exact hx)
       simp only [Act.put,List.setIfInBounds_toArray,List.set_cons_zero,List.set_cons_succ])
   refine Seq.last (fun w7 h7=>?_);have rb_:=RB.out.below h7;have rl_:=rb_.lt;have r0:=rb_.cell 0 (.slice none 0 0) rfl;have z0:=rb_.live 0;have r1:=rb_.cell 1 (.slice none 0 0) rfl;have z1:=rb_.live 1;have r2:=rb_.cell 2 (.slice none 0 0) rfl;have z2:=rb_.live 2;have r3:=rb_.cell 3 (.slice none 0 0) rfl;have z3:=rb_.live 3;have r4:=rb_.cell 4 (.slice none 0 0) rfl;have z4:=rb_.live 4;have r5:=rb_.cell 5 (.slice none 0 0) rfl;have z5:=rb_.live 5;have r6:=rb_.cell 6 (.slice none 0 0) rfl;have z6:=rb_.live 6;have r7:=rb_.cell 7 (.slice none 0 0) rfl;have z7:=rb_.live 7
   clear rb_;go_wp2;refine bodyPost_ret (vEa _ (st8 w7 (w.heap.size+2) NSl3.nil) NSl3.nil (w.heap.size+2) 33 rfl rfl ((RB.out.below h7).st8 NSl3.nil)) rfl ?_;rw [EV.out.1,EV.out.2];exact ⟨NSl3.nil,rfl,vCd _,Below.st8 (B1.out.trans (h7.mono B1.out.size)) (by omega) NSl3.nil⟩
 have y2:(pl != -1)=false:=by simpa using c2
 by_cases c3:ql= -1
 rotate_left
 · have y3:(ql != -1)=true:=by simpa using c3
   have EV:=Lib.hid (LE.out 33 (by rw [LR.out,if_pos (.inr (.inr c3))]) (by decide));clear c1 c2 c3;refine vAe (fun wx=>Below w1.heap.size w1 wx) (by kernel_rfl) (by kernel_rfl) (vAd Y4.out 1) ?_
   repeat
    first
     |(refine Seq.pass rfl ?_;simp only [Act.put,List.setIfInBounds_toArray,List.set_cons_zero,List.set_cons_succ])
     |(refine Seq.run ?_ rfl (fun wx hx=>?_) ?_
       rotate_left
       · have f1:=KF.out wx hx
         obtain ⟨p1,p4,q1,q4⟩:=RP.out wx hx
         go_simp
         first
          |(refine StepRun.val ?_;exact hx)
       simp only [Act.put,List.setIfInBounds_toArray,List.set_cons_zero,List.set_cons_succ])
   refine Seq.last (fun w7 h7=>?_);have rb_:=RB.out.below h7;have rl_:=rb_.lt;have r0:=rb_.cell 0 (.slice none 0 0) rfl;have z0:=rb_.live 0;have r1:=rb_.cell 1 (.slice none 0 0) rfl;have z1:=rb_.live 1;have r2:=rb_.cell 2 (.slice none 0 0) rfl;have z2:=rb_.live 2;have r3:=rb_.cell 3 (.slice none 0 0) rfl;have z3:=rb_.live 3;have r4:=rb_.cell 4 (.slice none 0 0) rfl;have z4:=rb_.live 4;have r5:=rb_.cell 5 (.slice none 0 0) rfl;have z5:=rb_.live 5;have r6:=rb_.cell 6 (.slice none 0 0) rfl;have z6:=rb_.live 6;have r7:=rb_.cell 7 (.slice none 0 0) rfl;have z7:=rb_.live 7
   clear rb_;go_wp2;refine bodyPost_ret (vEa _ (st8 w7 (w.heap.size+2) NSl3.nil) NSl3.nil (w.heap.size+2) 33 rfl rfl ((RB.out.below h7).st8 NSl3.nil)) rfl ?_;rw [EV.out.1,EV.out.2];exact ⟨NSl3.nil,rfl,vCd _,Below.st8 (B1.out.trans (h7.mono B1.out.size)) (by omega) NSl3.nil⟩
 have y3:(ql != -1)=false:=by simpa using c3
 replace LR:=Lib.hid (show laR N (x:Int) (y:Int)=if 20≤N.links.length then 3 else 0 by rw [LR.out,if_neg];rintro (e|e|e);exact c1 e;exact e c2;exact e c3);have XY:=Lib.hid (show x≠y from fun e=>c1 (PQ.out e));clear c1 c2 c3;refine vAe (fun wx=>Below w1.heap.size w1 wx) (by kernel_rfl) (by kernel_rfl) (vAd Y4.out 1) ?_
 repeat
  first
   |(refine Seq.pass rfl ?_;simp only [Act.put,List.setIfInBounds_toArray,List.set_cons_zero,List.set_cons_succ])
   |(refine Seq.run ?_ rfl (fun wx hx=>?_) ?_
     rotate_left
     · have f1:=KF.out wx hx
       obtain ⟨p1,p4,q1,q4⟩:=RP.out wx hx
       go_simp
       first
        |(refine StepRun.val ?_;exact hx)
     simp only [Act.put,List.setIfInBounds_toArray,List.set_cons_zero,List.set_cons_succ])
 refine Seq.last (fun w7 h7=>?_);have Y5:=Lib.hid h7;clear h7;rename World=>w5;obtain ⟨⟨f0,f1,f2,f3,f4,f5,f6,f7⟩,⟨g0,g2,g3,g4,g5⟩,lb_,_,_,hx5⟩:=KN.out _ Y5.out;have X5:=Lib.hid hx5;clear hx5
 by_cases c4:20≤S.lk.n
 · have y4:(S.lk.n:Int)≥20:=by omega
   have EV:=Lib.hid (LE.out 3 (by rw [LR.out,if_pos (by rw [KLEN.out];exact c4)]) (by decide));have rb_:=RB.out.below Y5.out;have rl_:=rb_.lt;have r0:=rb_.cell 0 (.slice none 0 0) rfl;have z0:=rb_.live 0;have r1:=rb_.cell 1 (.slice none 0 0) rfl;have z1:=rb_.live 1;have r2:=rb_.cell 2 (.slice none 0 0) rfl;have z2:=rb_.live 2;have r3:=rb_.cell 3 (.slice none 0 0) rfl;have z3:=rb_.live 3;have r4:=rb_.cell 4 (.slice none 0 0) rfl;have z4:=rb_.live 4;have r5:=rb_.cell 5 (.slice none 0 0) rfl;have z5:=rb_.live 5;have r6:=rb_.cell 6 (.slice none 0 0) rfl;have z6:=rb_.live 6;have r7:=rb_.cell 7 (.slice none 0 0) rfl;have z7:=rb_.live 7
   clear c4 rb_;go_wp2;refine bodyPost_ret (vEa _ (st8 w5 (w.heap.size+2) NSl3.nil) NSl3.nil (w.heap.size+2) 3 rfl rfl ((RB.out.below Y5.out).st8 NSl3.nil)) rfl ?_;rw [EV.out.1,EV.out.2];exact ⟨NSl3.nil,rfl,vCd _,Below.st8 (B1.out.trans (Y5.out.mono B1.out.size)) (by omega) NSl3.nil⟩
 have y4:¬(S.lk.n:Int)≥20:=by omega
 have EV:=Lib.hid (L0.out (by rw [LR.out,if_neg (by rw [KLEN.out];exact c4)]));have KS:=Lib.hid (show N.links.length≤19 by have:=KLEN.out;omega);have NP:=Lib.hid (show 0<N.ports.length by have:=NLEN.out;omega);clear c4 PA PB LE L0 LR
 go_upto_region 11 with fail
 go_upto_region 12 with (first
  |(go_at_call 16;(with_reducible refine (CP.out _ X5.out).mono ?_);rintro e w6 ⟨U,rfl,hown,hb_⟩;have OW:=Lib.hid hown;have B6:=Lib.hid hb_;have Y6:=Lib.hid (vAa Y5.out hb_);clear hown hb_))
 obtain ⟨w7,hw7⟩:∃w7,w6.alloc (.cells (nA U) 31)=w7:=⟨_,rfl⟩
 have A7:Below w6.heap.size w6 w7:=by rw [←hw7];exact vAc _ _
 have O7:=Lib.hid (OW.out.up A7);have T7:=Lib.hid (show TBx w7 w6.heap.size 31 (vCs U) by rw [←hw7];exact TBx.new w6 _ _);have Y7:=Lib.hid (vAa Y6.out A7);have FF:=Lib.hid (show ∀b,vAw w b→b<w5.heap.size from fun b g=>Nat.lt_of_lt_of_le g X5.out.size);have S56:=Lib.hid (show w5.heap.size≤w6.heap.size from B6.out.size);have S67:=Lib.hid (show w6.heap.size≤w7.heap.size from A7.size);have Q5:=Lib.hid (show w.heap.size+2<w5.heap.size from (RB.out.below Y5.out).lt)
 rw [hw7];clear hw7 A7 f0 f1 f2 f3 f4 f5 f6 f7 g0 g2 g3 g4 g5 OW;obtain ⟨⟨_,_,f2,_⟩,_⟩:=KN.out _ Y7.out;obtain ⟨g,hg,hgB,hgl,hgz,hgc⟩:=O7.out.lcell NP.out;have UL1:=O7.out.pt.len
 have lx2:(x:Int)<(U.pt.n:Int):=by have:=UL1;omega
 have ly2:(y:Int)<(U.pt.n:Int):=by have:=UL1;omega
 obtain ⟨vx,cx⟩:=hgc x hx;have zx:=hgz (x * 7+4);have zy:=hgz (y * 7+4);have ub:=T7.out.lt;have u1:=T7.out.cell 1 (.slice U.pt.A U.pt.n U.pt.c) rfl;rw [hg] at u1;have HG:=Lib.hid hg;have ule:=O7.out.pt.le;clear hg hgz hgc
 go_upto_region 13 with fail
 clear u1 ub cx zx zy f2;have HNL:=Lib.hid (show (S.lk.n:Int)=(N.links.length:Int) by have:=KLEN.out;omega);obtain ⟨w8,hw8⟩:∃w8,w7.setCell ⟨g,x * 7+4,none⟩ (.int .i64 (S.lk.n:Int))=w8:=⟨_,rfl⟩;have P8:=O7.out.lput FF.out x hx g HG.out (S.lk.n:Int);rw [hw8] at P8 ⊢;have O8:=Lib.hid P8.1;have T8:=Lib.hid (T7.out.chg P8.2.1 (by decide));have B8:=Lib.hid (show Below w5.heap.size w7 w8 by rw [←hw8];exact (Below.refl _ _).setCell (by have:=S56.out;omega) _)
 have SZ8:=Lib.hid (show w8.heap.size=w7.heap.size by rw [←hw8];simp);have Y8:=Lib.hid (Y7.out.trans (B8.out.mono Y5.out.size));clear hw8 P8;obtain ⟨⟨_,_,f2,_⟩,_⟩:=KN.out _ Y8.out;obtain ⟨g2,hg2,_,hgl2,hgz2,hgc2⟩:=O8.out.lcell (by show 0<(setL N.ports x _).length;rw [vFz];exact NP.out)
 have eg:g2=g:=by rw [HG.out] at hg2;injection hg2 with e;injection e with e _;exact e.symm
 subst eg;obtain ⟨vy,cy⟩:=hgc2 y (by show y<(setL N.ports x _).length;rw [vFz];exact hy);have zy:=hgz2 (y * 7+4);have ub:=T8.out.lt;have u1:=T8.out.cell 1 (.slice U.pt.A U.pt.n U.pt.c) rfl;rw [HG.out] at u1;clear hg2 hgz2 hgc2 hgl
 go_upto_region 14 with fail
 clear u1 ub cy zy f2;obtain ⟨w9,hw9⟩:∃w9,w8.setCell ⟨g2,y * 7+4,none⟩ (.int .i64 (S.lk.n:Int))=w9:=⟨_,rfl⟩;have P9:=O8.out.lput FF.out y (by show y<(setL N.ports x _).length;rw [vFz];exact hy) g2 HG.out (S.lk.n:Int);rw [hw9] at P9 ⊢;obtain ⟨N9,hN9⟩:∃N9:NV,({N with ports:=setL (setL N.ports x (S.lk.n:Int)) y (S.lk.n:Int)}:NV)=N9:=⟨_,rfl⟩;have O9:=Lib.hid (show NOwn w9 w5.heap.size (vAw w) N9 U by rw [←hN9];exact P9.1)
 have HN9:=Lib.hid (show ({N9 with links:=N9.links++[⟨L.row,(x:Int),(y:Int)⟩]}:NV)=vEm N L.row x y by rw [←hN9,HNL.out];rfl);have KS9:=Lib.hid (show N9.links.length≤19 by rw [←hN9];exact KS.out);have T9:=Lib.hid (T8.out.chg P9.2.1 (by decide));have B9:=Lib.hid (show Below w5.heap.size w7 w9 by rw [←hw9];exact B8.out.setCell (by have:=S56.out;omega) _);have SZ9:=Lib.hid (show w9.heap.size=w7.heap.size by rw [←hw9];have:=SZ8.out;simpa using this)
 have Y9:=Lib.hid (Y7.out.trans (B9.out.mono Y5.out.size));clear hw9 P9 hN9 hgB hgl2;obtain ⟨_,⟨g0,g2_,g3,g4,g5⟩,_⟩:=KN.out _ Y9.out;have ub:=T9.out.lt;have u2:=T9.out.cell 2 (.slice U.lk.A U.lk.n U.lk.c) rfl
 have wl_:w.heap.size+1<w9.heap.size:=by have:=Q5.out;have:=S56.out;have:=S67.out;have:=SZ9.out;omega
 go_upto_region 15 with (at_builtin;(refine wpList_ri1 linkR rfl (.tmp 89) (.tmp 95) 24 Tryz.underlying24 (Desc.of (by kernel_rfl)) (by decide) rfl U.lk (O9.out.lk.up (vAc w9 (.cells (vDl ⟨L.row,(x:Int),(y:Int)⟩).toArray 58))) vDd ?hF w9.heap.size (vDl ⟨L.row,(x:Int),(y:Int)⟩) ⟨L.row,(x:Int),(y:Int)⟩ ?hu ?hy ?hn ?hB rfl rfl ?_);(case hF=>exact FF.out);(case hu=>exact (TBx.new w9 (vDl ⟨L.row,(x:Int),(y:Int)⟩).toArray 58).range);(case hy=>rfl);(case hn=>have:=KS9.out;omega);(case hB=>have:=S56.out;have:=S67.out;have:=SZ9.out;simp;omega);intro u' w10 hr hc hb;have R10:=Lib.hid hr;have C10:=Lib.hid ((ChgT.of_below (B:=w5.heap.size) (T:=58) (vAc w9 (.cells (vDl ⟨L.row,(x:Int),(y:Int)⟩).toArray 58))).trans hc);have B10:=Lib.hid (show Below w5.heap.size w9 w10 from ((Below.refl _ _).alloc (by have:=S56.out;have:=S67.out;have:=SZ9.out;omega) (.cells (vDl ⟨L.row,(x:Int),(y:Int)⟩).toArray 58)).trans hb);have T10:=Lib.hid (T9.out.chg C10.out (by decide));have v2:=T10.out.cell 2 (.slice U.lk.A U.lk.n U.lk.c) rfl;have y2:=T10.out.live 2;clear hr hc hb)
 obtain ⟨w11,hw11⟩:∃w11,w10.setCell ⟨w6.heap.size,2,none⟩ (.slice u'.A u'.n u'.c)=w11:=⟨_,rfl⟩;obtain ⟨U',hU'⟩:∃U':NSl3,({U with lk:=u'}:NSl3)=U':=⟨_,rfl⟩;have T11:=Lib.hid (show TBx w11 w6.heap.size 31 (vCs U') by rw [←hw11,←hU'];exact T10.out.set 2 _);have C11:=Lib.hid (show ChgT w5.heap.size 31 w10 w11 by rw [←hw11];exact T10.out.chgT S56.out 2 _);have B11:=Lib.hid (show Below w5.heap.size w9 w11 by rw [←hw11];exact B10.out.setCell S56.out _)
 have F6:=Lib.hid (show ∀b,vAw w b→b<w5.heap.size from FF.out);have O11:=Lib.hid (show NOwn w11 w5.heap.size (vAw w) (vEm N L.row x y) U' by rw [←hU',←HN9.out];exact (O9.out.setLk C10.out F6.out R10.out).box C11.out vEf F6.out);have Y11:=Lib.hid (show Below w1.heap.size w1 w11 from Y9.out.trans (B11.out.mono (by have:=Y5.out.size;have:=S56.out;omega)));rw [hw11];clear hw11 hU' v2 y2 u2 ub g0 g2_ g3 g4 g5
 have rb_:=RB.out.below Y11.out;have rl_:=rb_.lt;have tl_:=T11.out.lt;have t0:=T11.out.cell 0 (.slice U'.dv.A U'.dv.n U'.dv.c) rfl;have r0:=rb_.cell 0 (.slice none 0 0) rfl;have z0:=rb_.live 0;have t1:=T11.out.cell 1 (.slice U'.pt.A U'.pt.n U'.pt.c) rfl;have r1:=rb_.cell 1 (.slice none 0 0) rfl;have z1:=rb_.live 1;have t2:=T11.out.cell 2 (.slice U'.lk.A U'.lk.n U'.lk.c) rfl;have r2:=rb_.cell 2 (.slice none 0 0) rfl
 have z2:=rb_.live 2;have t3:=T11.out.cell 3 (.slice U'.dm.A U'.dm.n U'.dm.c) rfl;have r3:=rb_.cell 3 (.slice none 0 0) rfl;have z3:=rb_.live 3;have t4:=T11.out.cell 4 (.slice U'.st.A U'.st.n U'.st.c) rfl;have r4:=rb_.cell 4 (.slice none 0 0) rfl;have z4:=rb_.live 4;have t5:=T11.out.cell 5 (.slice U'.fl.A U'.fl.n U'.fl.c) rfl;have r5:=rb_.cell 5 (.slice none 0 0) rfl;have z5:=rb_.live 5;have t6:=T11.out.cell 6 (.slice U'.vr.A U'.vr.n U'.vr.c) rfl
 have r6:=rb_.cell 6 (.slice none 0 0) rfl;have z6:=rb_.live 6;have t7:=T11.out.cell 7 (.slice U'.ir.A U'.ir.n U'.ir.c) rfl;have r7:=rb_.cell 7 (.slice none 0 0) rfl;have z7:=rb_.live 7;clear rb_;go_wp2;refine bodyPost_ret (vEa _ (st8 w11 (w.heap.size+2) U') U' (w.heap.size+2) 0 rfl rfl ((RB.out.below Y11.out).st8 U')) rfl ?_;rw [EV.out.1,EV.out.2];have ON:=O11.out.far (w':=st8 w11 (w.heap.size+2) U') (q:=w.heap.size+2) (by rw [st8_size];exact Nat.le_refl _) (fun b hb=>vGv _ _ _ hb) (by have:=Q5.out;have:=S56.out;omega) (by unfold vAw;omega)
 exact ⟨U',rfl,ON.read,Below.st8 (B1.out.trans (Y11.out.mono B1.out.size)) (by omega) U'⟩
end Go.Proofs.YtnpembgchmmbjaaGreat
