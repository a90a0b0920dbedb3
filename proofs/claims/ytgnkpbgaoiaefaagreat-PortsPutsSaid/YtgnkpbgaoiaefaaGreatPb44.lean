import Derived.Test.YtgnkpbgaoiaefaaGreatPb43
set_option maxRecDepth 100000
set_option maxHeartbeats 40000000
namespace Go.Proofs.YtgnkpbgaoiaefaaGreat
open Go.Lib (hid)
open Go.RowKit
def dpE (N:NV) (L:LV):Int:=if dvF N L.dev= -1 then 31 else if ptF N (dvF N L.dev) L.port≠-1 then 30 else if 40≤N.ports.length∨48<N.domains.length+(lkL N (dvF N L.dev) L).length then 3 else 0
def dpN (N:NV) (L:LV):NV:=if dpE N L=0 then vAp N L else N
theorem dp_err {N:NV} {L:LV} {E:Int} (h:dpE N L=E) (h0:E≠0):dpN N L=N∧dpE N L=E:=⟨by unfold dpN;rw [if_neg (by rw [h];exact h0)],h⟩
theorem dp_31 {N:NV} {L:LV} (h:dvF N L.dev= -1):dpN N L=N∧dpE N L=31:=dp_err (by unfold dpE;rw [if_pos h]) (by decide)
theorem dp_30 {N:NV} {L:LV} (h:¬dvF N L.dev= -1) (p:ptF N (dvF N L.dev) L.port≠-1):dpN N L=N∧dpE N L=30:=dp_err (by unfold dpE;rw [if_neg h,if_pos p]) (by decide)
theorem dp_3 {N:NV} {L:LV} (h:¬dvF N L.dev= -1) (p:¬ptF N (dvF N L.dev) L.port≠-1) (z:40≤N.ports.length∨48<N.domains.length+(lkL N (dvF N L.dev) L).length):dpN N L=N∧dpE N L=3:=dp_err (by unfold dpE;rw [if_neg h,if_neg p,if_pos z]) (by decide)
theorem dp_0 {N:NV} {L:LV} (h:¬dvF N L.dev= -1) (p:¬ptF N (dvF N L.dev) L.port≠-1) (z:¬(40≤N.ports.length∨48<N.domains.length+(lkL N (dvF N L.dev) L).length)):dpN N L=vAp N L∧dpE N L=0:=by
 have e:dpE N L=0:=by unfold dpE;rw [if_neg h,if_neg p,if_neg z]
 exact ⟨by unfold dpN;rw [if_pos e],e⟩
def midD (N:NV) (L:LV) (dv:Int) (vs:List Int) (k:Nat):NV:={N with ports:=N.ports++[vDu N L],domains:=N.domains++(vs.take k).map (newD dv)}
theorem midD_next {N:NV} {L:LV} {dv:Int} {vs:List Int} {k:Nat} (hk:k<vs.length):midD N L dv vs (k+1)={midD N L dv vs k with domains:=(midD N L dv vs k).domains++[newD dv (vs.getD k 0)]}:=by
 unfold midD;rw [List.take_succ_eq_append_getElem hk,List.map_append,←List.append_assoc];simp [List.getD,hk]
theorem midD_all {N:NV} {L:LV} {k:Nat} (hk:(lkL N (dvF N L.dev) L).length≤k):midD N L (dvF N L.dev) (lkL N (dvF N L.dev) L) k=vAp N L:=by unfold midD vAp;rw [List.take_of_length_le hk]
theorem inB_below {w w':World} {B:Nat} {F:Nat→Prop} {b:Nat} (hb:Below w.heap.size w w') (h:InB w B F b):InB w' B F b:=⟨Nat.lt_of_lt_of_le h.1 hb.size,h.2.imp id fun g=>⟨g.1,g.2.below hb⟩⟩
theorem dport_any (N:NV) (U:NSl3) (q B:Nat) (F:Nat→Prop) (L:LV) (s1 s2 s3 s4:SlV) (w:World) (hN:NOwn w B F N U) (hF:∀b,F b→b<B) (hB:B≤q) (hb:TBx w q 72 (vBx U)) (hz:NvSz N) (hn:NetOk N) (hl:LRead w L s1 s2 s3 s4) (ht:RSl (Rdr.int .i64) w (InB w B F) s1.A s1.n s1.c L.tagged) (hT:L.tagged.length≤300) (hdl:L.dev.length≤9223372036854775807) (hpl:L.port.length≤9223372036854775807):
 Calls Tryz.prog 17 #[.pointer (some ⟨q,0,none⟩),vAw L s1 s2 s3 s4] w (GotDr (dpN N L) (dpE N L) q B F w):=by
 have LA_:=hid (vCc w L s1 s2 s3 s4 37);obtain ⟨dv,hdv⟩:∃a,dvF N L.dev=a:=⟨_,rfl⟩;obtain ⟨pv,hpv⟩:∃a,ptF N dv L.port=a:=⟨_,rfl⟩;obtain ⟨vs,hvs⟩:∃vs,lkL N dv L=vs:=⟨_,rfl⟩
 have DC:=fun (w':World) (hx:Below w.heap.size w w')=>vIp N U L.dev w' (hN.up hx).read hz hn hdl
 have PO:=fun (w':World) (hx:Below w.heap.size w w')=>xnport_any N U dv L.port w' (hN.up hx).read hz hn hpl
 have LK:=fun (w':World) (hx:Below w.heap.size w w')=>lacks_any N U q dv L s1 s2 s3 s4 w' (hN.up hx).read hz hn (hb.below hx) (vAq hl hx) hT
 rw [hdv] at DC;rw [hpv] at PO;rw [hvs] at LK;unfold vBb at DC PO;have NL1:=hid hN.pt.len;have NL2:=hid hN.dm.len;have lep:=hN.pt.le;have lem:=hN.dm.le;have mx:maxLen=9223372036854775807:=rfl;have NZ:=hid hz;have ON:=hid hN;have TB:=hid hb;have FF:=hid hF;have HDV:=hid hdv;have HPV:=hid hpv;have HVS:=hid hvs;have HT:=hid hT;have TG:=hid ht;have BQ:=hid (show B≤q∧q<w.heap.size from ⟨hB,hb.lt⟩)
 have le1:=ht.le;have cap1:=ht.cap;clear hdv hpv hvs hz hn hN hb hF hB hdl hpl hl ht hT;rw [show vAw L s1 s2 s3 s4=.agg #[.int .i64 L.row,.int .i64 L.kind,.string (str L.dev),.string (str L.port),.string (str L.peer),.string (str L.far),.string (str L.name),.int .u64 L.mac,.int .u32 L.addr,.int .i64 L.bits,.int .i64 L.vlan,.int .i64 L.num,.int .i64 L.cost,.slice s1.A s1.n s1.c,.slice s2.A s2.n s2.c,.slice s3.A s3.n s3.c,.slice s4.A s4.n s4.c] from rfl]
 go_enter Tryz.func17,Tryz.ntmps17
 go_upto_region 1 with fail
 obtain ⟨w1,hw1⟩:∃w1,w.alloc (.cells (lA L s1 s2 s3 s4) 37)=w1:=⟨_,rfl⟩;have B1:=hid (show Below w.heap.size w w1 by rw [←hw1];exact vAc _ _);have LT:=hid (show TBx w1 w.heap.size 37 [.int .i64 L.row,.int .i64 L.kind,.string (str L.dev),.string (str L.port),.string (str L.peer),.string (str L.far),.string (str L.name),.int .u64 L.mac,.int .u32 L.addr,.int .i64 L.bits,.int .i64 L.vlan,.int .i64 L.num,.int .i64 L.cost,.slice s1.A s1.n s1.c,.slice s2.A s2.n s2.c,.slice s3.A s3.n s3.c,.slice s4.A s4.n s4.c] by rw [←hw1];exact TBx.new w #[.int .i64 L.row,.int .i64 L.kind,.string (str L.dev),.string (str L.port),.string (str L.peer),.string (str L.far),.string (str L.name),.int .u64 L.mac,.int .u32 L.addr,.int .i64 L.bits,.int .i64 L.vlan,.int .i64 L.num,.int .i64 L.cost,.slice s1.A s1.n s1.c,.slice s2.A s2.n s2.c,.slice s3.A s3.n s3.c,.slice s4.A s4.n s4.c] _)
 have LB:=hid (show BoxF w1 w.heap.size 17 (lc L s1 s2 s3 s4) by rw [←hw1];exact LA_.out);have TB1:=hid (TB.out.below B1.out);have ON1:=hid (ON.out.up B1.out)
 have ql1:w.heap.size<w1.heap.size:=by rw [←hw1];simp
 rw [hw1];clear hw1 LA_;have DC:=hid (fun w' (hx:Below w1.heap.size w1 w')=>DC w' (B1.out.trans (hx.mono B1.out.size)));have PO:=hid (fun w' (hx:Below w1.heap.size w1 w')=>PO w' (B1.out.trans (hx.mono B1.out.size)));have LK:=hid (fun w' (hx:Below w1.heap.size w1 w')=>LK w' (B1.out.trans (hx.mono B1.out.size)))
 have KR:=hid (show ∀wx,Below w1.heap.size w1 wx→(NF wx q U)∧(wx.cell? ⟨w.heap.size,0,none⟩=some (.int .i64 L.row)∧wx.cell? ⟨w.heap.size,2,none⟩=some (.string (str L.dev))∧wx.cell? ⟨w.heap.size,3,none⟩=some (.string (str L.port))∧wx.cell? ⟨w.heap.size,10,none⟩=some (.int .i64 L.vlan)∧wx.cell? ⟨w.heap.size,12,none⟩=some (.int .i64 L.cost)∧wx.cell? ⟨w.heap.size,13,none⟩=some (.slice s1.A s1.n s1.c))∧q<wx.heap.size∧w.heap.size<wx.heap.size∧BoxF wx w.heap.size 17 (lc L s1 s2 s3 s4) from fun wx hx=>by
  have tb:=TB1.out.below hx;have lt:=LT.out.below hx
  exact ⟨⟨tb.cell 0 _ rfl,tb.cell 1 _ rfl,tb.cell 2 _ rfl,tb.cell 3 _ rfl,tb.cell 4 _ rfl,tb.cell 5 _ rfl,tb.cell 6 _ rfl,tb.cell 7 _ rfl⟩,⟨lt.cell 0 _ rfl,lt.cell 2 _ rfl,lt.cell 3 _ rfl,lt.cell 10 _ rfl,lt.cell 12 _ rfl,lt.cell 13 _ rfl⟩,tb.lt,lt.lt,LB.out.below (by omega) hx⟩)
 by_cases d0:dv= -1
 · have x1:(dv == -1)=true:=by simpa using d0
   have EV:=hid (dp_31 (by rw [HDV.out];exact d0));clear d0;refine vAe (fun wx=>Below w1.heap.size w1 wx) (by kernel_rfl) (by kernel_rfl) ((Below.refl _ _).drew) ?_
   repeat
    first
     |(refine Seq.pass rfl ?_;simp only [Act.put,List.setIfInBounds_toArray,List.set_cons_zero,List.set_cons_succ])
     |(refine Seq.run ?_ rfl (fun wx hx=>?_) ?_
       rotate_left
       · obtain ⟨⟨t0,t1,t2,t3,t4,t5,t6,t7⟩,⟨g0,g2,g3,g10,g12,g13⟩,m0,m1,_⟩:=KR.out wx hx
         go_simp
         first
          |(refine StepRun.val ?_;exact hx)
          |(refine StepRun.call (v:=.int .i64 dv) ?_;(with_reducible refine Calls.mono (DC.out _ hx) ?_);rintro e w' ⟨rfl,hb⟩;exact ⟨rfl,vAa hx hb⟩)
       simp only [Act.put,List.setIfInBounds_toArray,List.set_cons_zero,List.set_cons_succ])
   refine Seq.last (fun w2 h2=>?_);go_wp2;go_ret;rw [EV.out.1,EV.out.2];exact ⟨U,rfl,TB1.out.below h2,ON1.out.up h2,(B1.out.trans (h2.mono B1.out.size)).mono (by have:=BQ.out;omega)⟩
 have x1:(dv == -1)=false:=by simpa using d0
 have D0:=hid (show ¬dvF N L.dev= -1 by rw [HDV.out];exact d0);clear d0;refine vAe (fun wx=>Below w1.heap.size w1 wx) (by kernel_rfl) (by kernel_rfl) ((Below.refl _ _).drew) ?_
 repeat
  first
   |(refine Seq.pass rfl ?_;simp only [Act.put,List.setIfInBounds_toArray,List.set_cons_zero,List.set_cons_succ])
   |(refine Seq.run ?_ rfl (fun wx hx=>?_) ?_
     rotate_left
     · obtain ⟨⟨t0,t1,t2,t3,t4,t5,t6,t7⟩,⟨g0,g2,g3,g10,g12,g13⟩,m0,m1,_⟩:=KR.out wx hx
       go_simp
       first
        |(refine StepRun.val ?_;exact hx)
        |(refine StepRun.call (v:=.int .i64 dv) ?_;(with_reducible refine Calls.mono (DC.out _ hx) ?_);rintro e w' ⟨rfl,hb⟩;exact ⟨rfl,vAa hx hb⟩)
     simp only [Act.put,List.setIfInBounds_toArray,List.set_cons_zero,List.set_cons_succ])
 refine Seq.last (fun w2 h2=>?_)
 go_upto_region 4 with fail
 have Y2:=hid h2;clear h2
 by_cases p0:pv= -1
 rotate_left
 · have x2:(pv != -1)=true:=by simpa using p0
   have EV:=hid (dp_30 D0.out (by rw [HDV.out,HPV.out];exact p0));clear p0;refine vAe (fun wx=>Below w1.heap.size w1 wx) (by kernel_rfl) (by kernel_rfl) (Y2.out.drew) ?_
   repeat
    first
     |(refine Seq.pass rfl ?_;simp only [Act.put,List.setIfInBounds_toArray,List.set_cons_zero,List.set_cons_succ])
     |(refine Seq.run ?_ rfl (fun wx hx=>?_) ?_
       rotate_left
       · obtain ⟨⟨t0,t1,t2,t3,t4,t5,t6,t7⟩,⟨g0,g2,g3,g10,g12,g13⟩,m0,m1,_⟩:=KR.out wx hx
         go_simp
         first
          |(refine StepRun.val ?_;exact hx)
          |(refine StepRun.call (v:=.int .i64 pv) ?_;(with_reducible refine Calls.mono (PO.out _ hx) ?_);rintro e w' ⟨rfl,hb⟩;exact ⟨rfl,vAa hx hb⟩)
       simp only [Act.put,List.setIfInBounds_toArray,List.set_cons_zero,List.set_cons_succ])
   refine Seq.last (fun w3 h2=>?_);go_wp2;go_ret;rw [EV.out.1,EV.out.2];exact ⟨U,rfl,TB1.out.below h2,ON1.out.up h2,(B1.out.trans (h2.mono B1.out.size)).mono (by have:=BQ.out;omega)⟩
 have x2:(pv != -1)=false:=by simpa using p0
 have P0:=hid (show ¬ptF N (dvF N L.dev) L.port≠-1 by rw [HDV.out,HPV.out];exact fun g=>g p0);clear p0;refine vAe (fun wx=>Below w1.heap.size w1 wx) (by kernel_rfl) (by kernel_rfl) (Y2.out.drew) ?_
 repeat
  first
   |(refine Seq.pass rfl ?_;simp only [Act.put,List.setIfInBounds_toArray,List.set_cons_zero,List.set_cons_succ])
   |(refine Seq.run ?_ rfl (fun wx hx=>?_) ?_
     rotate_left
     · obtain ⟨⟨t0,t1,t2,t3,t4,t5,t6,t7⟩,⟨g0,g2,g3,g10,g12,g13⟩,m0,m1,_⟩:=KR.out wx hx
       go_simp
       first
        |(refine StepRun.val ?_;exact hx)
        |(refine StepRun.call (v:=.int .i64 pv) ?_;(with_reducible refine Calls.mono (PO.out _ hx) ?_);rintro e w' ⟨rfl,hb⟩;exact ⟨rfl,vAa hx hb⟩)
     simp only [Act.put,List.setIfInBounds_toArray,List.set_cons_zero,List.set_cons_succ])
 refine Seq.last (fun w3 h2=>?_);obtain ⟨_,_,m0,m1,lb_⟩:=KR.out w3 h2;have Y3:=hid h2;clear h2
 go_upto_region 7 with (first
  |((with_reducible refine vAf ?hg (.tmp 3) ?ho w.heap.size ?hx L s1 s2 s3 s4 lb_ ?_);(case hg=>rfl);(case ho=>rfl);(case hx=>rfl))
  |(go_at_call 33;(with_reducible refine (LK.out _ Y3.out).mono ?_);rintro e w4 ⟨sv,rfl,hr,hb⟩;have RV:=hid hr;have X4:=hid hb;have Y4:=hid (vAa Y3.out hb);clear hr hb))
 clear lb_ m0 m1;have lv:=RV.out.len;have levs:=RV.out.le;have capv:=RV.out.cap
 have VL:=hid (show vs.length≤301 by
  have h1:vs.length≤(L.vlan :: L.tagged).length:=by rw [←HVS.out];exact List.length_filter_le _ _
  have:=HT.out
  simp at h1
  omega)
 have bs_:sv.n≤301:=by have:=VL.out;omega
 have bd_:U.dm.n≤1000:=by have:=NZ.out.zdm;have:=NL2.out;omega
 obtain ⟨⟨t0,t1,t2,t3,t4,t5,t6,t7⟩,⟨g0,g2,g3,g10,g12,g13⟩,m0,m1,_⟩:=KR.out w4 Y4.out
 by_cases y1:40≤N.ports.length
 · have EV:=hid (dp_3 D0.out P0.out (.inl y1))
   have gp:(40:Int)≤(U.pt.n:Int):=by have:=NL1.out;omega
   clear y1 lv;go_wp2;go_ret;rw [EV.out.1,EV.out.2];exact ⟨U,rfl,TB1.out.below Y4.out,ON1.out.up Y4.out,(B1.out.trans (Y4.out.mono B1.out.size)).mono (by have:=BQ.out;omega)⟩
 have gp:¬(40:Int)≤(U.pt.n:Int):=by have:=NL1.out;omega
 by_cases y2:48<N.domains.length+vs.length
 · have EV:=hid (dp_3 D0.out P0.out (.inr (by rw [HDV.out,HVS.out];exact y2)))
   have gm:(48:Int)<(U.dm.n:Int)+(sv.n:Int):=by have:=NL2.out;omega
   clear y1 y2 lv;go_wp2;go_ret;rw [EV.out.1,EV.out.2];exact ⟨U,rfl,TB1.out.below Y4.out,ON1.out.up Y4.out,(B1.out.trans (Y4.out.mono B1.out.size)).mono (by have:=BQ.out;omega)⟩
 have gm:¬(48:Int)<(U.dm.n:Int)+(sv.n:Int):=by have:=NL2.out;omega
 have EV:=hid (dp_0 D0.out P0.out (fun g=>g.elim y1 (fun g=>y2 (by rw [HDV.out,HVS.out] at g;exact g))));clear y1 y2
 go_upto_region 9 with fail
 clear t0 t1 t2 t3 t4 t5 t6 t7 g0 g2 g3 g10 g12 g13 m0 m1 gp gm lep lem;obtain ⟨W0,hW0⟩:∃W0,w4.drew=W0:=⟨_,rfl⟩;have V0:=hid (show Below w1.heap.size w1 W0 from hW0▸vAd Y4.out 1);have HX:=hid hW0;have RV0:=hid (show RSl (Rdr.int .i64) W0 (fun b=>B≤b∧TyI W0 b) sv.A sv.n sv.c vs from RV.out.keep (w':=W0) (fun b hb=>by rw [←hW0];rfl) (fun b hb=>⟨by have h1:=hb.1;have h2:=Y3.out.size;have:=BQ.out;omega,by rw [←hW0];exact hb.2⟩))
 clear hW0;have OO0:=hid (ON1.out.up V0.out);have T0:=hid (TB1.out.below V0.out);have L0:=hid (LT.out.below V0.out);have G0:=hid (TG.out.keep (w':=W0) (F':=InB W0 B F) (fun b hb=>(B1.out.trans (V0.out.mono B1.out.size)).block b hb.1) (fun b hb=>inB_below (B1.out.trans (V0.out.mono B1.out.size)) hb));obtain ⟨W1,hW1⟩:∃W1,W0.alloc (.cells ([.int .i64 L.row,.int .i64 dv,.int .i64 L.vlan,.int .i64 L.cost,.int .i64 (-1),.string (str L.port),.slice s1.A s1.n s1.c]:List Value).toArray 62)=W1:=⟨_,rfl⟩
 have b1:Below W0.heap.size W0 W1:=by rw [←hW1];exact (Below.refl _ _).alloc (Nat.le_refl _) _
 have E1:TBx W1 W0.heap.size 62 ([.int .i64 L.row,.int .i64 dv,.int .i64 L.vlan,.int .i64 L.cost,.int .i64 (-1),.string (str L.port),.slice s1.A s1.n s1.c]:List Value):=by rw [←hW1];exact TBx.new W0 _ _
 have G1:=G0.out.keep (w':=W1) (F':=InB W1 B F) (fun b hb=>b1.block b hb.1) (fun b hb=>inB_below b1 hb)
 have gB:B≤W1.heap.size:=by have:=T0.out.lt;have:=BQ.out;have:=b1.size;omega
 obtain ⟨u',W2,hr,R2,C2,bb2⟩:=run_ri1 (P:=Tryz.prog) 23 23 Tryz.underlying23 (Desc.of (by kernel_rfl)) (by decide) ((OO0.out.up b1).pt) vCj FF.out W0.heap.size ([.int .i64 L.row,.int .i64 dv,.int .i64 L.vlan,.int .i64 L.cost,.int .i64 (-1),.string (str L.port),.slice s1.A s1.n s1.c]:List Value) (vDu N L) E1.range ⟨⟨s1.A,s1.n,s1.c⟩,by unfold vJc vDu;rw [HDV.out],G1⟩ (by have:=NZ.out.zpt;omega) gB
 have T1:=hid (T0.out.below b1);have T2:=hid (T1.out.chg C2 (by decide));have L1:=hid (L0.out.below b1);have L2:=hid (L1.out.chg C2 (by decide))
 have RV2:=hid (show RSl (Rdr.int .i64) W2 (fun b=>B≤b∧TyI W2 b) sv.A sv.n sv.c vs from by
  have k1:=RV0.out.keep (w':=W1) (F':=fun b=>B≤b∧TyI W1 b) (fun b hb=>b1.block b hb.2.lt) (fun b hb=>⟨hb.1,hb.2.below b1⟩)
  exact k1.keep (fun b hb=>C2.ty vCj hb.2) (fun b hb=>⟨hb.1,hb.2.same (C2.ty vCj hb.2)⟩))
 obtain ⟨W3,hW3⟩:∃W3,W2.setCell ⟨q,1,none⟩ (.slice u'.A u'.n u'.c)=W3:=⟨_,rfl⟩;have C3:=hid (show ChgT B 72 W2 W3 by rw [←hW3];exact T2.out.chgT BQ.out.1 1 _);have L3:=hid (L2.out.chg C3.out (by decide));have RV3:=hid (show RSl (Rdr.int .i64) W3 (fun b=>B≤b∧TyI W3 b) sv.A sv.n sv.c vs from RV2.out.keep (fun b hb=>C3.out.ty vEt.1 hb.2) (fun b hb=>⟨hb.1,hb.2.same (C3.out.ty vEt.1 hb.2)⟩))
 obtain ⟨U',hU'⟩:∃U':NSl3,({U with pt:=u'}:NSl3)=U':=⟨_,rfl⟩;have T3:=hid (show TBx W3 q 72 (vBx U') by rw [←hW3,←hU'];exact T2.out.set 1 _)
 have O3:=hid (show NOwn W3 B F (midD N L dv vs 0) U' by
  rw [←hU',show midD N L dv vs 0={N with ports:=N.ports++[vDu N L]} by unfold midD;simp]
  exact ((OO0.out.up b1).setPt C2 FF.out R2).box C3.out vEt FF.out)
 have Z3:=hid (show Below B w W3 by
  rw [←hW3]
  have hwB:B≤w.heap.size:=by have:=BQ.out;omega
  have hwB1:B≤W0.heap.size:=by have:=T0.out.lt;have:=BQ.out;omega
  have v0:Below B w W0:=(B1.out.trans (V0.out.mono B1.out.size)).mono hwB
  exact ((v0.trans (b1.mono hwB1)).trans bb2).setCell BQ.out.1 _)
 have HR:=hid hr;have H1:=hid hW1;have H3:=hid hW3
 have CB:=hid (fun m wx (hx:PhL [W0,W1,W2,W3] m wx)=>hx.all (P:=fun x=>(x.cell? ⟨w.heap.size,0,none⟩=some (.int .i64 L.row)∧x.cell? ⟨w.heap.size,2,none⟩=some (.string (str L.dev))∧x.cell? ⟨w.heap.size,3,none⟩=some (.string (str L.port))∧x.cell? ⟨w.heap.size,10,none⟩=some (.int .i64 L.vlan)∧x.cell? ⟨w.heap.size,12,none⟩=some (.int .i64 L.cost)∧x.cell? ⟨w.heap.size,13,none⟩=some (.slice s1.A s1.n s1.c))∧q<x.heap.size∧w.heap.size<x.heap.size) (by
  intro x hx;simp only [List.mem_cons,List.not_mem_nil,or_false] at hx
  rcases hx with rfl|rfl|rfl|rfl
  · have lt:=L0.out;exact ⟨⟨lt.cell 0 _ rfl,lt.cell 2 _ rfl,lt.cell 3 _ rfl,lt.cell 10 _ rfl,lt.cell 12 _ rfl,lt.cell 13 _ rfl⟩,T0.out.lt,lt.lt⟩
  · have lt:=L1.out;exact ⟨⟨lt.cell 0 _ rfl,lt.cell 2 _ rfl,lt.cell 3 _ rfl,lt.cell 10 _ rfl,lt.cell 12 _ rfl,lt.cell 13 _ rfl⟩,T1.out.lt,lt.lt⟩
  · have lt:=L2.out;exact ⟨⟨lt.cell 0 _ rfl,lt.cell 2 _ rfl,lt.cell 3 _ rfl,lt.cell 10 _ rfl,lt.cell 12 _ rfl,lt.cell 13 _ rfl⟩,T2.out.lt,lt.lt⟩
  · have lt:=L3.out;exact ⟨⟨lt.cell 0 _ rfl,lt.cell 2 _ rfl,lt.cell 3 _ rfl,lt.cell 10 _ rfl,lt.cell 12 _ rfl,lt.cell 13 _ rfl⟩,T3.out.lt,lt.lt⟩))
 have CX:=hid (fun m wx (hx:PhL [W0,W1,W2,W3] m wx) (hm:m≤1)=>hx.upto hm (P:=fun x=>x.cell? ⟨q,1,none⟩=some (.slice U.pt.A U.pt.n U.pt.c)) (by
  intro x hx;simp only [List.take,List.mem_cons,List.not_mem_nil,or_false] at hx
  rcases hx with rfl|rfl
  · exact T0.out.cell 1 _ rfl
  · exact T1.out.cell 1 _ rfl))
 clear hr R2 C2 bb2 hW1 hW3 hU' E1 b1 gB G1;refine vBc (PhL [W0,W1,W2,W3]) [18,19,23] (by kernel_rfl) (by kernel_rfl) (by kernel_rfl) (by rw [HX.out];rfl) ?_
 repeat
  first
   |(refine SeqP.run ?_ 3 (vFb _ _ _ _) rfl (by decide) (fun m hm wx hx=>?_) ?_
     rotate_left
     · obtain ⟨⟨g0,g2,g3,g10,g12,g13⟩,m0,m1⟩:=CB.out m wx hx
       go_simp
       refine StepRun.val ?_;exact hx
     simp only [Act.put,List.setIfInBounds_toArray,List.set_cons_zero,List.set_cons_succ])
   |(refine SeqP.run (.slice U.pt.A U.pt.n U.pt.c) 1 (of_decide_eq_true (by kernel_rfl)) rfl (by decide) (fun m hm wx hx=>?_) ?_
     · have cx:=CX.out m wx hx hm
       go_simp
       refine StepRun.val ?_;exact hx
     simp only [Act.put,List.setIfInBounds_toArray,List.set_cons_zero,List.set_cons_succ])
   |(refine SeqP.make (.slice (some ⟨W0.heap.size,0,none⟩) 1 1) 0 rfl rfl (fun wx hx=>?_) ?_
     · obtain rfl:W0=wx:=Option.some.inj hx
       go_simp
       exact ⟨rfl,by have:=H1.out;rw [←this];rfl⟩
     simp only [Act.put,List.setIfInBounds_toArray,List.set_cons_zero,List.set_cons_succ])
   |(refine SeqP.make (.slice u'.A u'.n u'.c) 1 rfl rfl (fun wx hx=>?_) ?_
     · obtain rfl:W1=wx:=Option.some.inj hx
       rw [vDe (t:=23) rfl rfl rfl HR.out];exact ⟨rfl,rfl⟩
     simp only [Act.put,List.setIfInBounds_toArray,List.set_cons_zero,List.set_cons_succ])
   |(refine SeqP.make undef 2 rfl rfl (fun wx hx=>?_) ?_
     · obtain rfl:W2=wx:=Option.some.inj hx
       have cx:=T2.out.cell 1 (.slice U.pt.A U.pt.n U.pt.c) rfl;have ff:=T2.out.live 1;have m2:=T2.out.lt
       go_simp
       exact ⟨rfl,by rw [H3.out];rfl⟩
     simp only [Act.put])
 refine SeqP.last rfl (fun w9 h9=>?_);obtain rfl:W3=w9:=Option.some.inj h9;clear CB CX HX H1 H3 HR V0 T0 T1 T2 L0 L1 L2 L3 OO0 G0 RV0 RV2;go_wp2
 go_loopw [8,75] (fun _ i wr=>∃(k:Nat) (Ux:NSl3),i=.int .i64 k∧k≤sv.n∧TBx wr q 72 (vBx Ux)∧NOwn wr B F (midD N L dv vs k) Ux∧RSl (Rdr.int .i64) wr (fun b=>B≤b∧TyI wr b) sv.A sv.n sv.c vs∧Below B w wr) (fun _ i _=>match i with| .int _ y=>(sv.n - y).toNat|_=>0)
 case atStart=>exact ⟨0,U',rfl,by omega,T3.out,O3.out,RV3.out,Z3.out⟩
 case round=>
 obtain ⟨k,Ux,rfl,hk,htb,hno,hrs,hb⟩:=hrel;have TT:=hid htb;have OO:=hid hno;have RS:=hid hrs;have V:=hid hb;clear htb hno hrs hb
 by_cases hlt:k<sv.n
 rotate_left
 · have lt2:¬(k:Int)<(sv.n:Int):=by omega
   have FIN:=hid (show midD N L dv vs k=vAp N L by have:=midD_all (N:=N) (L:=L) (k:=k) (by rw [HDV.out,HVS.out];omega);rw [HDV.out,HVS.out] at this;exact this);go_wp2;go_ret;rw [EV.out.1,EV.out.2];exact ⟨Ux,rfl,TT.out,by rw [←FIN.out];exact OO.out,V.out⟩
 have lt2:(k:Int)<(sv.n:Int):=by omega
 have hkl:k<vs.length:=by omega
 obtain ⟨b',o',e',hb',hc'⟩:=(vBg RS.out).2.2.2 (by omega);have c8k:=hc' k hlt;obtain ⟨v,hv⟩:∃v,vs.getD k 0=v:=⟨_,rfl⟩;rw [hv] at c8k;have EQ:=hid (midD_next (N:=N) (L:=L) (dv:=dv) hkl);rw [hv] at EQ
 have LNX:=hid (show (midD N L dv vs k).domains.length+1≤100000 by
  have h1:=NZ.out.zdm
  have h2:((vs.take k).map (newD dv)).length≤k:=by rw [List.length_map,List.length_take];omega
  have h4:=VL.out;unfold midD;simp only [List.length_append]
  omega)
 have u3:=TT.out.cell 3 (.slice Ux.dm.A Ux.dm.n Ux.dm.c) rfl;have ul_:=TT.out.lt;rw [e'];clear hc' hv
 go_upto_region 14 with (at_builtin;(refine wpList_ri1 domR rfl (.tmp 84) (.tmp 88) 25 Tryz.underlying25 (Desc.of (by kernel_rfl)) (by decide) rfl Ux.dm (OO.out.dm.up ((Below.refl _ _).alloc (Nat.le_refl _) (.cells (domC (newD dv v) Sl3.nil).toArray 50))) vCq FF.out wr.heap.size (domC (newD dv v) Sl3.nil) (newD dv v) ?hu ?hy ?hn ?hB rfl rfl ?_);(case hu=>exact (TBx.new wr (domC (newD dv v) Sl3.nil).toArray 50).range);(case hy=>exact ⟨Sl3.nil,rfl,RSl.nil⟩);(case hn=>exact LNX.out);(case hB=>have:=BQ.out;have:=TT.out.lt;simp;omega);intro u' w6 hr hc hb;have R6:=hid hr;have C6:=hid ((ChgT.of_below (B:=B) (T:=50) ((Below.refl _ _).alloc (Nat.le_refl _) (.cells (domC (newD dv v) Sl3.nil).toArray 50))).trans hc);have B6:=hid (show Below B wr w6 from ((Below.refl _ _).alloc (by have:=BQ.out;have:=TT.out.lt;omega) (.cells (domC (newD dv v) Sl3.nil).toArray 50)).trans hb);have T6:=hid (TT.out.chg C6.out (by decide));have v3:=T6.out.cell 3 (.slice Ux.dm.A Ux.dm.n Ux.dm.c) rfl;have y3:=T6.out.live 3;have l6:=T6.out.lt;clear hr hc hb)
 obtain ⟨w7,hw7⟩:∃w7,w6.setCell ⟨q,3,none⟩ (.slice u'.A u'.n u'.c)=w7:=⟨_,rfl⟩;obtain ⟨Uy,hUy⟩:∃Uy:NSl3,({Ux with dm:=u'}:NSl3)=Uy:=⟨_,rfl⟩;have T7:=hid (show TBx w7 q 72 (vBx Uy) by rw [←hw7,←hUy];exact T6.out.set 3 _);have C7:=hid (show ChgT B 72 w6 w7 by rw [←hw7];exact T6.out.chgT BQ.out.1 3 _);have B7:=hid (show Below B w w7 by rw [←hw7];exact (V.out.trans B6.out).setCell BQ.out.1 _)
 have O7:=hid (show NOwn w7 B F (midD N L dv vs (k+1)) Uy by rw [←hUy,EQ.out];exact (OO.out.setDm C6.out FF.out R6.out).box C7.out vEt FF.out)
 have R7:=hid (show RSl (Rdr.int .i64) w7 (fun b=>B≤b∧TyI w7 b) sv.A sv.n sv.c vs from by
  have k1:∀b,TyI wr b→w7.heap[b]?=wr.heap[b]?:=fun b hb=>by
   have a2:=C6.out.ty vCq hb;exact (C7.out.ty vEt.1 (hb.same a2)).trans a2
  exact RS.out.keep (fun b hb=>k1 b hb.2) (fun b hb=>⟨hb.1,hb.2.same (k1 b hb.2)⟩))
 rw [hw7];clear hw7 hUy v3 y3 u3 ul_ l6;go_wp2
 go_roundw
 case rel=>exact ⟨k+1,Uy,by simp,by omega,T7.out,O7.out,(by rw [←e'];exact R7.out),B7.out⟩
 case measure=>simp only [];omega
end Go.Proofs.YtgnkpbgaoiaefaaGreat
