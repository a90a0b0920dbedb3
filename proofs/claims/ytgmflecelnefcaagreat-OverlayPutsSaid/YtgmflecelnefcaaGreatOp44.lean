import Derived.Test.YtgmflecelnefcaaGreatOp43
import Derived.Test.YtgmflecelnefcaaGreatOp35
set_option maxRecDepth 100000
set_option maxHeartbeats 40000000
namespace Go.Proofs.YtgmflecelnefcaaGreat
open Go.Lib (hid)
open Go.RowKit
theorem vCu {N:NV} {E e:Int} {q B:Nat} {w w':World} {U:NSl3} (he:E=e) (h0:e≠0) (hq:q<B) (hB:B≤w.heap.size) (hb:TBx w q 31 (vBk U)) (hl:Below w.heap.size w w'):GotOw N E q B w (.returned (.int .i64 e)) w':=
 ⟨U,by rw [he],hb.below hl,fun g=>absurd (he.symm.trans g) h0,hl.mono (Nat.le_trans (Nat.le_of_lt hq) hB),fun b _ h2=>hl.block b (Nat.lt_of_lt_of_le h2 hB)⟩
theorem odF_at {N:NV} {a:Int} (h:a≠0):odF N a=owF N a:=by unfold odF;rw [if_neg h]
theorem cvtep_w (N:NV) (L:LV) (U:NSl3) (q B:Nat) (t1 t2 t3 t4:SlV) (w:World) (hO:NOwn w B (fun _=>False) N U) (hq:q<B) (hB:B≤w.heap.size) (hb:TBx w q 31 (vBk U)) (_hl:LRead w L t1 t2 t3 t4) (_hs:RSl (Rdr.int .u32) w (InB w B (fun _=>False)) t4.A t4.n t4.c L.addrs) (_hz:NvSz N) (hv:VtOk N) (ha:0≤L.addr∧L.addr<4294967296) (_hx:∀x∈L.addrs,0≤x∧x<4294967296) (g0:bgE N L 5=0):Calls Tryz.prog 30 #[.pointer (some ⟨q,0,none⟩),.int .i64 (dvF N L.dev),vAv L t1 t2 t3 t4] w (GotOw (vtN N L) (vtE N L) q B w):=by
 obtain ⟨fit,_,d,hd,ed,_⟩:=bg_0 g0;have hn:=(vDm.1 fit).2.2;have FF:=hid (show ∀b,(fun _:Nat=>False) b→b<B from fun b g=>g.elim);have LE:=hid (vt_go (L:=L) fit ed);have A0:=kd5_addr fit ha;have EN:=hid (show vtE N L=0→vtN N L=vFy N d L.addr from fun g=>by unfold vtN;rw [if_pos g,ed];rfl);rw [ed];obtain ⟨g,hg,hgB,hgl,hgz,hgc⟩:=hO.vcell (by omega);obtain ⟨us,hus,hr⟩:=hO.dv.at_ g hg d hd DevV.zero
 have hus:us=vGt (N.devices.getD d DevV.zero):=hus;subst hus;have hnet:=hO.read;have VP:=hv d hd;have dle:=hO.dv.le
 have ld:(d:Int)<(U.dv.n:Int):=by have:=hO.dv.len;omega
 rw [vBw];have HO:=hid hO;have HBq:=hid hq;have HBs:=hid hB;have HTB:=hid hb;have HGB:=hid hgB;have HG:=hid hg;have KW:=hid (show ∀W,w.alloc (.cells (lA L t1 t2 t3 t4) 37)=W→Below w.heap.size w W∧TBx W w.heap.size 37 (lA L t1 t2 t3 t4).toList from fun W e=>⟨by rw [←e];exact vAc _ _,by rw [←e];exact TBx.new w _ _⟩)
 have KR0:=hid (show ∀W,w.alloc (.cells (lA L t1 t2 t3 t4) 37)=W→∀wx,Below W.heap.size W wx→(wx.cell? ⟨q,0,none⟩=some (.slice (some ⟨g,0,none⟩) U.dv.n U.dv.c)∧wx.cell? ⟨q,1,none⟩=some (.slice U.pt.A U.pt.n U.pt.c)∧wx.cell? ⟨q,2,none⟩=some (.slice U.lk.A U.lk.n U.lk.c)∧wx.cell? ⟨q,3,none⟩=some (.slice U.dm.A U.dm.n U.dm.c)∧wx.cell? ⟨q,4,none⟩=some (.slice U.st.A U.st.n U.st.c)∧wx.cell? ⟨q,5,none⟩=some (.slice U.fl.A U.fl.n U.fl.c)∧wx.cell? ⟨q,6,none⟩=some (.slice U.vr.A U.vr.n U.vr.c)∧wx.cell? ⟨q,7,none⟩=some (.slice U.ir.A U.ir.n U.ir.c))∧(wx.cell? ⟨w.heap.size,8,none⟩=some (.int .u32 L.addr))∧wx.cell? ⟨g,d * 5+4,none⟩=some (.int .u32 (N.devices.getD d DevV.zero).vtep)∧q<wx.heap.size∧w.heap.size<wx.heap.size∧Below w.heap.size w wx from fun W e wx hx=>by
  obtain ⟨b1,lb⟩:=KW.out W e;have bx:=vAa b1 hx;have tb:=hb.below bx;have lx:=lb.below hx
  refine ⟨⟨by rw [←hg];exact tb.cell 0 _ rfl,tb.cell 1 _ rfl,tb.cell 2 _ rfl,tb.cell 3 _ rfl,tb.cell 4 _ rfl,tb.cell 5 _ rfl,tb.cell 6 _ rfl,tb.cell 7 _ rfl⟩,lx.cell 8 _ rfl,vAb hr (bx.block g hgl) 4 _ rfl,tb.lt,lx.lt,bx⟩)
 have DV:=fun (w':World) (hb':Below w.heap.size w w')=>xodev_any N U L.addr w' (hnet.up hb')
 unfold vAm at DV;rw [hg] at DV;rw [odF_at A0] at DV;obtain ⟨o,ho⟩:∃o,owF N L.addr=o:=⟨_,rfl⟩
 have OP:=hid (show o= -1∨0≤o by rw [←ho];rcases ow_place N L.addr with e|⟨j,_,e,_⟩<;>omega)
 rw [ho] at DV LE;obtain ⟨V,hV⟩:∃V,(N.devices.getD d DevV.zero).vtep=V:=⟨_,rfl⟩;rw [hV] at VP LE KR0;have DV:=hid DV;have cx0:=hgc d hd;clear ho hV A0;clear hO hq hB hb hv ha g0 hr hgB hgz hgc hnet hn fit ed
 go_enter Tryz.func30,Tryz.ntmps30
 go_upto_region 1 with fail
 obtain ⟨W,hW⟩:∃W,w.alloc (.cells (lA L t1 t2 t3 t4) 37)=W:=⟨_,rfl⟩;have KR:=hid (KR0.out W hW);have BW:=hid (KW.out W hW).1;have LB:=hid (KW.out W hW).2;rw [hW];clear hW KR0 KW;have I0:=hid (Below.refl W.heap.size W)
 by_cases c1:V=0
 rotate_left
 · have y1:(V != 0)=true:=by simpa using c1
   have EV:=hid (show vtE N L=30 by rw [LE.out,if_pos (.inl (by omega))]);clear c1;refine vAe (fun wx=>Below W.heap.size W wx) (by kernel_rfl) (by kernel_rfl) (vAd I0.out 1) ?_
   repeat
    first
     |(refine Seq.pass rfl ?_;simp only [Act.put,List.setIfInBounds_toArray,List.set_cons_zero,List.set_cons_succ])
     |(refine Seq.run ?_ rfl (fun wx hx=>?_) ?_
       rotate_left
       · obtain ⟨⟨f0,f1,f2,f3,f4,f5,f6,f7⟩,g8,p4,qn_,ql_,hBx⟩:=KR.out wx hx
         go_simp
         first
          |(refine StepRun.val ?_;exact hx)
       simp only [Act.put,List.setIfInBounds_toArray,List.set_cons_zero,List.set_cons_succ])
   refine Seq.last (fun w6 h6=>?_);go_wp2;go_ret;exact vCu EV.out (by decide) HBq.out HBs.out HTB.out (vAa BW.out h6)
 have y1:(V != 0)=false:=by simpa using c1
 by_cases c2:o= -1
 rotate_left
 · have y2:(o != -1)=true:=by simpa using c2
   have EV:=hid (show vtE N L=30 by rw [LE.out,if_pos (.inr (OP.out.resolve_left c2))]);clear c2 c1;refine vAe (fun wx=>Below W.heap.size W wx) (by kernel_rfl) (by kernel_rfl) (vAd I0.out 1) ?_
   repeat
    first
     |(refine Seq.pass rfl ?_;simp only [Act.put,List.setIfInBounds_toArray,List.set_cons_zero,List.set_cons_succ])
     |(refine Seq.run ?_ rfl (fun wx hx=>?_) ?_
       rotate_left
       · obtain ⟨⟨f0,f1,f2,f3,f4,f5,f6,f7⟩,g8,p4,qn_,ql_,hBx⟩:=KR.out wx hx
         go_simp
         first
          |(refine StepRun.val ?_;exact hx)
          |(refine StepRun.call (v:=.int .i64 o) ?_;(with_reducible refine Calls.mono (DV.out _ hBx) ?_);rintro e w' ⟨rfl,hb⟩;exact ⟨rfl,vAa hx hb⟩)
       simp only [Act.put,List.setIfInBounds_toArray,List.set_cons_zero,List.set_cons_succ])
   refine Seq.last (fun w6 h6=>?_);go_wp2;go_ret;exact vCu EV.out (by decide) HBq.out HBs.out HTB.out (vAa BW.out h6)
 have y2:(o != -1)=false:=by simpa using c2
 have E0:vtE N L=0:=by rw [LE.out,if_neg (fun e=>by rcases e with e|e<;>omega)]
 have EV:=hid (show vtN N L=vFy N d L.addr∧vtE N L=0 from ⟨EN.out E0,E0⟩);clear c1 c2 E0 LE EN OP;refine vAe (fun wx=>Below W.heap.size W wx) (by kernel_rfl) (by kernel_rfl) (vAd I0.out 1) ?_
 repeat
  first
   |(refine Seq.pass rfl ?_;simp only [Act.put,List.setIfInBounds_toArray,List.set_cons_zero,List.set_cons_succ])
   |(refine Seq.run ?_ rfl (fun wx hx=>?_) ?_
     rotate_left
     · obtain ⟨⟨f0,f1,f2,f3,f4,f5,f6,f7⟩,g8,p4,qn_,ql_,hBx⟩:=KR.out wx hx
       go_simp
       first
        |(refine StepRun.val ?_;exact hx)
        |(refine StepRun.call (v:=.int .i64 o) ?_;(with_reducible refine Calls.mono (DV.out _ hBx) ?_);rintro e w' ⟨rfl,hb⟩;exact ⟨rfl,vAa hx hb⟩)
     simp only [Act.put,List.setIfInBounds_toArray,List.set_cons_zero,List.set_cons_succ])
 refine Seq.last (fun w6 h6=>?_)
 go_upto_region 3 with fail
 obtain ⟨W0,hW0⟩:∃W0,w6.drew=W0:=⟨_,rfl⟩;have V0:=hid (show Below W.heap.size W W0 from hW0▸vAd h6 1);have HX:=hid hW0;clear hW0 h6;have X0:=vAa BW.out V0.out;have O0:=hid (HO.out.up X0);have T0:=hid (HTB.out.below X0);have L0:=hid (LB.out.below V0.out);have X0:=hid X0;have P1:=O0.out.vput FF.out d hd g HG.out L.addr;obtain ⟨W1,hW1⟩:∃W1,W0.setCell ⟨g,d * 5+4,none⟩ (.int .u32 L.addr)=W1:=⟨_,rfl⟩
 rw [hW1] at P1;have O1:=hid P1.1;have T1:=hid (T0.out.chg P1.2.1 (by decide));have L1:=hid (L0.out.chg P1.2.1 (by decide));have Z1:=hid (show Below q w W1 by rw [←hW1];exact (X0.out.mono (Nat.le_of_lt HTB.out.lt)).setCell (Nat.le_of_lt (Nat.lt_of_lt_of_le HBq.out HGB.out)) _)
 have ZZ:=hid (show ∀b,q<b→b<B→W1.heap[b]?=w.heap[b]? from fun b _ h2=>by
  rw [←hW1,Below.heap_setCell _ _ _ _ (fun e=>by have e2:b=g:=e;have:=HGB.out;omega)]
  exact X0.out.block b (Nat.lt_of_lt_of_le h2 HBs.out))
 have H1:=hid hW1
 have CB:=hid (fun m wx (hx:PhL [W0,W1] m wx)=>hx.all (P:=fun x=>x.cell? ⟨q,0,none⟩=some (.slice (some ⟨g,0,none⟩) U.dv.n U.dv.c)∧x.cell? ⟨w.heap.size,8,none⟩=some (.int .u32 L.addr)∧q<x.heap.size∧w.heap.size<x.heap.size) (by
  intro x hx;simp only [List.mem_cons,List.not_mem_nil,or_false] at hx
  rcases hx with rfl|rfl
  · exact ⟨by rw [←HG.out];exact T0.out.cell 0 _ rfl,L0.out.cell 8 _ rfl,T0.out.lt,L0.out.lt⟩
  · exact ⟨by rw [←HG.out];exact T1.out.cell 0 _ rfl,L1.out.cell 8 _ rfl,T1.out.lt,L1.out.lt⟩))
 have CG:=hid (show (∃v,W0.cell? ⟨g,d * 5+4,none⟩=some v)∧W0.frozen? ⟨g,d * 5+4,none⟩=false∧g<W0.heap.size by
  obtain ⟨g9,hg9,_,hl9,hz9,hc9⟩:=O0.out.vcell (by omega)
  have e9:g9=g:=by have e:=HG.out;rw [hg9] at e;injection e with e;injection e with e _
  subst e9
  exact ⟨hc9 d hd,hz9 _,hl9⟩)
 clear hW1 P1;refine vAs (PhL [W0,W1]) [9] (by kernel_rfl) (by kernel_rfl) (by kernel_rfl) (by rw [HX.out];rfl) ?_
 repeat
  first
   |(refine SeqP.run ?_ 1 (vEk _ _ _ _) rfl (by decide) (fun m hm wx hx=>?_) ?_
     rotate_left
     · obtain ⟨f0,g8,qn_,ql_⟩:=CB.out m wx hx
       go_simp
       refine StepRun.val ?_;exact hx
     simp only [Act.put,List.setIfInBounds_toArray,List.set_cons_zero,List.set_cons_succ])
   |(refine SeqP.make undef 0 rfl rfl (fun wx hx=>?_) ?_
     · obtain rfl:W0=wx:=Option.some.inj hx
       obtain ⟨f0,g8,qn_,ql_⟩:=CB.out 0 W0 rfl;obtain ⟨⟨v9,c9⟩,z9,l9⟩:=CG.out
       go_simp
       exact ⟨rfl,by rw [H1.out];rfl⟩
     simp only [Act.put])
 refine SeqP.last rfl (fun w9 h9=>?_);obtain rfl:W1=w9:=Option.some.inj h9;clear CB CG HX H1;go_wp2;go_ret;exact ⟨U,by rw [EV.out.2];rfl,T1.out,fun _=>by rw [EV.out.1];exact O1.out,Z1.out,ZZ.out⟩
theorem cvni_w (N:NV) (L:LV) (U:NSl3) (q B:Nat) (t1 t2 t3 t4:SlV) (w:World) (hO:NOwn w B (fun _=>False) N U) (hq:q<B) (hB:B≤w.heap.size) (hb:TBx w q 31 (vBk U)) (_hl:LRead w L t1 t2 t3 t4) (_hs:RSl (Rdr.int .u32) w (InB w B (fun _=>False)) t4.A t4.n t4.c L.addrs) (hz:NvSz N) (hv:VtOk N) (_ha:0≤L.addr∧L.addr<4294967296) (_hx:∀x∈L.addrs,0≤x∧x<4294967296) (g0:bgE N L 6=0):Calls Tryz.prog 36 #[.pointer (some ⟨q,0,none⟩),.int .i64 (dvF N L.dev),vAv L t1 t2 t3 t4] w (GotOw (vnN N L) (vnE N L) q B w):=by
 obtain ⟨fit,_,d,hd,ed,_⟩:=bg_0 g0;have hn:=(vDm.1 fit).2.2;have FF:=hid (show ∀b,(fun _:Nat=>False) b→b<B from fun b g=>g.elim);have LE:=hid (vn_go (L:=L) fit ed);have EN:=hid (show vnE N L=0→vnN N L=vGr N (atF N (d:Int) L.vlan).toNat L.num L.row from fun g=>by unfold vnN;rw [if_pos g,ed]);rw [ed];obtain ⟨g,hg,hgB,hgl,hgz,hgc⟩:=hO.vcell (by omega);obtain ⟨us,hus,hr⟩:=hO.dv.at_ g hg d hd DevV.zero
 have hus:us=vGt (N.devices.getD d DevV.zero):=hus;subst hus;have hnet:=hO.read;have VP:=hv d hd;have dle:=hO.dv.le
 have ld:(d:Int)<(U.dv.n:Int):=by have:=hO.dv.len;omega
 rw [vBw];have HO:=hid hO;have HBq:=hid hq;have HBs:=hid hB;have HTB:=hid hb;have HGB:=hid hgB;have HG:=hid hg;have KW:=hid (show ∀W,w.alloc (.cells (lA L t1 t2 t3 t4) 37)=W→Below w.heap.size w W∧TBx W w.heap.size 37 (lA L t1 t2 t3 t4).toList from fun W e=>⟨by rw [←e];exact vAc _ _,by rw [←e];exact TBx.new w _ _⟩)
 have KR0:=hid (show ∀W,w.alloc (.cells (lA L t1 t2 t3 t4) 37)=W→∀wx,Below W.heap.size W wx→(wx.cell? ⟨q,0,none⟩=some (.slice (some ⟨g,0,none⟩) U.dv.n U.dv.c)∧wx.cell? ⟨q,1,none⟩=some (.slice U.pt.A U.pt.n U.pt.c)∧wx.cell? ⟨q,2,none⟩=some (.slice U.lk.A U.lk.n U.lk.c)∧wx.cell? ⟨q,3,none⟩=some (.slice U.dm.A U.dm.n U.dm.c)∧wx.cell? ⟨q,4,none⟩=some (.slice U.st.A U.st.n U.st.c)∧wx.cell? ⟨q,5,none⟩=some (.slice U.fl.A U.fl.n U.fl.c)∧wx.cell? ⟨q,6,none⟩=some (.slice U.vr.A U.vr.n U.vr.c)∧wx.cell? ⟨q,7,none⟩=some (.slice U.ir.A U.ir.n U.ir.c))∧(wx.cell? ⟨w.heap.size,0,none⟩=some (.int .i64 L.row)∧wx.cell? ⟨w.heap.size,10,none⟩=some (.int .i64 L.vlan)∧wx.cell? ⟨w.heap.size,11,none⟩=some (.int .i64 L.num))∧wx.cell? ⟨g,d * 5+4,none⟩=some (.int .u32 (N.devices.getD d DevV.zero).vtep)∧q<wx.heap.size∧w.heap.size<wx.heap.size∧Below w.heap.size w wx from fun W e wx hx=>by
  obtain ⟨b1,lb⟩:=KW.out W e;have bx:=vAa b1 hx;have tb:=hb.below bx;have lx:=lb.below hx
  refine ⟨⟨by rw [←hg];exact tb.cell 0 _ rfl,tb.cell 1 _ rfl,tb.cell 2 _ rfl,tb.cell 3 _ rfl,tb.cell 4 _ rfl,tb.cell 5 _ rfl,tb.cell 6 _ rfl,tb.cell 7 _ rfl⟩,⟨lx.cell 0 _ rfl,lx.cell 10 _ rfl,lx.cell 11 _ rfl⟩,vAb hr (bx.block g hgl) 4 _ rfl,tb.lt,lx.lt,bx⟩)
 have DM:=fun (w':World) (hb':Below w.heap.size w w')=>xndomain_any N U (d:Int) L.vlan w' (hnet.up hb') hz hn
 unfold vAm at DM;rw [hg] at DM
 have FD:=fun (w':World) (hb':Below w.heap.size w w')=>vFd N U (d:Int) L.num w' (hnet.up hb')
 unfold vAm at FD;rw [hg] at FD;have ZV:=hid (fun x (h:x<N.domains.length)=>(hn.dm.1 x h).vni);have AP1:=hid (fun (c:¬atF N (d:Int) L.vlan<0)=>atF_lt (N:=N) (dev:=(d:Int)) (v:=L.vlan) (by omega));obtain ⟨m,hm⟩:∃m,atF N (d:Int) L.vlan=m:=⟨_,rfl⟩;have AM:=hid (show m= -1∨0≤m by rw [←hm];exact atF_cases N _ _);obtain ⟨o,ho⟩:∃o,fdF N (d:Int) L.num=o:=⟨_,rfl⟩
 have OP:=hid (show o= -1∨0≤o by rw [←ho];rcases vGw N (d:Int) L.num with e|⟨j,_,e,_⟩<;>omega)
 rw [hm] at DM LE EN AP1;rw [ho] at FD LE;obtain ⟨V,hV⟩:∃V,(N.devices.getD d DevV.zero).vtep=V:=⟨_,rfl⟩;rw [hV] at LE KR0;have DM:=hid DM;have FD:=hid FD;clear ho hV hm VP;clear hO hq hB hb hz hv g0 hr hgB hgz hgc hnet hn fit ed
 go_enter Tryz.func36,Tryz.ntmps36
 go_upto_region 1 with fail
 obtain ⟨W,hW⟩:∃W,w.alloc (.cells (lA L t1 t2 t3 t4) 37)=W:=⟨_,rfl⟩;have KR:=hid (KR0.out W hW);have BW:=hid (KW.out W hW).1;have LB:=hid (KW.out W hW).2;rw [hW];clear hW KR0 KW;have I0:=hid (Below.refl W.heap.size W)
 by_cases c1:V=0
 · have y1:(V == 0)=true:=by simpa using c1
   have EV:=hid (show vnE N L=35 by rw [LE.out,if_pos c1]);clear c1;obtain ⟨⟨f0,f1,f2,f3,f4,f5,f6,f7⟩,⟨g0,g10,g11⟩,p4,qn_,ql_,hBx⟩:=KR.out _ I0.out;go_wp2;go_ret;exact vCu EV.out (by decide) HBq.out HBs.out HTB.out BW.out
 have y1:(V == 0)=false:=by simpa using c1
 obtain ⟨⟨f0,f1,f2,f3,f4,f5,f6,f7⟩,⟨g0,g10,g11⟩,p4,qn_,ql_,hBx⟩:=KR.out _ I0.out
 go_upto_region 3 with fail
 clear f0 f1 f2 f3 f4 f5 f6 f7 g0 g10 g11 p4 qn_ ql_ hBx;refine vAe (fun wx=>Below W.heap.size W wx) (by kernel_rfl) (by kernel_rfl) (vAd I0.out 1) ?_
 repeat
  first
   |(refine Seq.pass rfl ?_;simp only [Act.put,List.setIfInBounds_toArray,List.set_cons_zero,List.set_cons_succ])
   |(refine Seq.run ?_ rfl (fun wx hx=>?_) ?_
     rotate_left
     · obtain ⟨⟨f0,f1,f2,f3,f4,f5,f6,f7⟩,⟨g0,g10,g11⟩,p4,qn_,ql_,hBx⟩:=KR.out wx hx
       go_simp
       first
        |(refine StepRun.val ?_;exact hx)
        |(refine StepRun.call (v:=.int .i64 m) ?_;(with_reducible refine Calls.mono (DM.out _ hBx) ?_);rintro e w' ⟨rfl,hb⟩;exact ⟨rfl,vAa hx hb⟩)
     simp only [Act.put,List.setIfInBounds_toArray,List.set_cons_zero,List.set_cons_succ])
 refine Seq.last (fun w6 h6=>?_);have Y6:=hid h6;clear h6
 by_cases c2:m= -1
 · have y2:(m == -1)=true:=by simpa using c2
   have EV:=hid (show vnE N L=32 by rw [LE.out,if_neg c1,if_pos (by omega)]);clear c2 c1;go_wp2;go_ret;exact vCu EV.out (by decide) HBq.out HBs.out HTB.out (vAa BW.out Y6.out)
 have y2:(m == -1)=false:=by simpa using c2
 have c3:¬m<0:=by rcases AM.out with e|e<;>omega
 obtain ⟨x,hx,ex,_,_⟩:=AP1.out c3;subst ex;replace LE:=hid (show vnE N L=if 0<(N.domains.getD x DomV.zero).vni∨0≤o then 30 else 0 by rw [LE.out,if_neg c1,if_neg c3];rfl);clear c1 c2 c3 AM AP1 DM;obtain ⟨gm,hgm,hgmB,hgml,_,_⟩:=HO.out.ncell (by omega);obtain ⟨us2,⟨t,rfl,_⟩,hr2⟩:=HO.out.dm.at_ gm hgm x hx DomV.zero;have KM:=hid (fun (wx:World) (hx:Below w.heap.size w wx)=>show wx.cell? ⟨gm,x * 6+2,none⟩=some (.int .i64 (N.domains.getD x DomV.zero).vni) from vAb hr2 (hx.block gm hgml) 2 _ rfl)
 have ZX:=ZV.out x hx;obtain ⟨J,hJ⟩:∃J,(N.domains.getD x DomV.zero).vni=J:=⟨_,rfl⟩;rw [hJ] at LE KM ZX;have FD0:=FD.out;rw [hgm] at FD0;replace FD:=hid FD0;have HM:=hid hgm;have HMB:=hid hgmB
 have lx:(x:Int)<(U.dm.n:Int):=by have:=HO.out.dm.len;omega
 have mle:=HO.out.dm.le;clear hgm hgmB hgml hr2 hJ FD0 ZV;obtain ⟨⟨f0,f1,f2,f3,f4,f5,f6,f7⟩,⟨g0,g10,g11⟩,p4,qn_,ql_,hBx⟩:=KR.out _ Y6.out;rw [HM.out] at f3
 go_upto_region 7 with fail
 clear f0 f1 f2 f3 f4 f5 f6 f7 g0 g10 g11 p4 qn_ ql_ hBx
 by_cases c3:J=0
 rotate_left
 · have y3:(J != 0)=true:=by simpa using c3
   have EV:=hid (show vnE N L=30 by rw [LE.out,if_pos (.inl (by omega))]);clear c3;refine vAe (fun wx=>Below W.heap.size W wx) (by kernel_rfl) (by kernel_rfl) (vAd Y6.out 1) ?_
   repeat
    first
     |(refine Seq.pass rfl ?_;simp only [Act.put,List.setIfInBounds_toArray,List.set_cons_zero,List.set_cons_succ])
     |(refine Seq.run ?_ rfl (fun wx hx=>?_) ?_
       rotate_left
       · obtain ⟨⟨f0,f1,f2,f3,f4,f5,f6,f7⟩,⟨g0,g10,g11⟩,p4,qn_,ql_,hBx⟩:=KR.out wx hx
         rw [HM.out] at f3;have m2_:=KM.out wx hBx
         go_simp
         first
          |(refine StepRun.val ?_;exact hx)
       simp only [Act.put,List.setIfInBounds_toArray,List.set_cons_zero,List.set_cons_succ])
   refine Seq.last (fun w7 h7=>?_);go_wp2;go_ret;exact vCu EV.out (by decide) HBq.out HBs.out HTB.out (vAa BW.out h7)
 have y3:(J != 0)=false:=by simpa using c3
 by_cases c4:o= -1
 rotate_left
 · have y4:(o != -1)=true:=by simpa using c4
   have EV:=hid (show vnE N L=30 by rw [LE.out,if_pos (.inr (OP.out.resolve_left c4))]);clear c3 c4;refine vAe (fun wx=>Below W.heap.size W wx) (by kernel_rfl) (by kernel_rfl) (vAd Y6.out 1) ?_
   repeat
    first
     |(refine Seq.pass rfl ?_;simp only [Act.put,List.setIfInBounds_toArray,List.set_cons_zero,List.set_cons_succ])
     |(refine Seq.run ?_ rfl (fun wx hx=>?_) ?_
       rotate_left
       · obtain ⟨⟨f0,f1,f2,f3,f4,f5,f6,f7⟩,⟨g0,g10,g11⟩,p4,qn_,ql_,hBx⟩:=KR.out wx hx
         rw [HM.out] at f3;have m2_:=KM.out wx hBx
         go_simp
         first
          |(refine StepRun.val ?_;exact hx)
          |(refine StepRun.call (v:=.int .i64 o) ?_;(with_reducible refine Calls.mono (FD.out _ hBx) ?_);rintro e w' ⟨rfl,hb⟩;exact ⟨rfl,vAa hx hb⟩)
       simp only [Act.put,List.setIfInBounds_toArray,List.set_cons_zero,List.set_cons_succ])
   refine Seq.last (fun w7 h7=>?_);go_wp2;go_ret;exact vCu EV.out (by decide) HBq.out HBs.out HTB.out (vAa BW.out h7)
 have y4:(o != -1)=false:=by simpa using c4
 have E0:vnE N L=0:=by rw [LE.out,if_neg (fun e=>by rcases e with e|e<;>omega)]
 have EV:=hid (show vnN N L=vGr N x L.num L.row∧vnE N L=0 from ⟨EN.out E0,E0⟩);clear c3 c4 E0 LE EN OP;refine vAe (fun wx=>Below W.heap.size W wx) (by kernel_rfl) (by kernel_rfl) (vAd Y6.out 1) ?_
 repeat
  first
   |(refine Seq.pass rfl ?_;simp only [Act.put,List.setIfInBounds_toArray,List.set_cons_zero,List.set_cons_succ])
   |(refine Seq.run ?_ rfl (fun wx hx=>?_) ?_
     rotate_left
     · obtain ⟨⟨f0,f1,f2,f3,f4,f5,f6,f7⟩,⟨g0,g10,g11⟩,p4,qn_,ql_,hBx⟩:=KR.out wx hx
       rw [HM.out] at f3;have m2_:=KM.out wx hBx
       go_simp
       first
        |(refine StepRun.val ?_;exact hx)
        |(refine StepRun.call (v:=.int .i64 o) ?_;(with_reducible refine Calls.mono (FD.out _ hBx) ?_);rintro e w' ⟨rfl,hb⟩;exact ⟨rfl,vAa hx hb⟩)
     simp only [Act.put,List.setIfInBounds_toArray,List.set_cons_zero,List.set_cons_succ])
 refine Seq.last (fun w7 h7=>?_)
 go_upto_region 9 with fail
 obtain ⟨W0,hW0⟩:∃W0,w7.drew=W0:=⟨_,rfl⟩;have V0:=hid (show Below W.heap.size W W0 from hW0▸vAd h7 1);have HX:=hid hW0;clear hW0 h7;have X0:=vAa BW.out V0.out;have O0:=hid (HO.out.up X0);have T0:=hid (HTB.out.below X0);have L0:=hid (LB.out.below V0.out);have X0:=hid X0
 have hx2:x<(N.domains.set x {N.domains.getD x DomV.zero with vni:=L.num}).length:=by rw [setD_len];exact hx
 have P1:=O0.out.nput FF.out x hx gm HM.out L.num;obtain ⟨W1,hW1⟩:∃W1,W0.setCell ⟨gm,x * 6+2,none⟩ (.int .i64 L.num)=W1:=⟨_,rfl⟩;rw [hW1] at P1;have O1:=hid P1.1;have T1:=hid (T0.out.chg P1.2.1 (by decide));have L1:=hid (L0.out.chg P1.2.1 (by decide));have P2:=O1.out.rput FF.out x hx2 gm HM.out L.row;obtain ⟨W2,hW2⟩:∃W2,W1.setCell ⟨gm,x * 6+4,none⟩ (.int .i64 L.row)=W2:=⟨_,rfl⟩;rw [hW2] at P2
 have O2:=hid (show NOwn W2 B (fun _=>False) (vGr N x L.num L.row) U by
  have e:=P2.1;rw [set_set hx] at e
  exact e)
 have T2:=hid (T1.out.chg P2.2.1 (by decide));have L2:=hid (L1.out.chg P2.2.1 (by decide));have qg:q≤gm:=Nat.le_of_lt (Nat.lt_of_lt_of_le HBq.out HMB.out);have Z1:=hid (show Below q w W2 by rw [←hW2,←hW1];exact ((X0.out.mono (Nat.le_of_lt HTB.out.lt)).setCell (p:=⟨gm,x * 6+2,none⟩) qg _).setCell (p:=⟨gm,x * 6+4,none⟩) qg _)
 have ZZ:=hid (show ∀b,q<b→b<B→W2.heap[b]?=w.heap[b]? from fun b _ h2=>by
  have ne:b≠gm:=fun e=>by have:=HMB.out;omega
  rw [←hW2,Below.heap_setCell _ _ _ _ ne,←hW1,Below.heap_setCell _ _ _ _ ne]
  exact X0.out.block b (Nat.lt_of_lt_of_le h2 HBs.out))
 have H1:=hid hW1;have H2:=hid hW2
 have CB:=hid (fun m wx (hx:PhL [W0,W1,W2] m wx)=>hx.all (P:=fun x=>x.cell? ⟨w.heap.size,0,none⟩=some (.int .i64 L.row)∧x.cell? ⟨w.heap.size,11,none⟩=some (.int .i64 L.num)∧w.heap.size<x.heap.size) (by
  intro x hx;simp only [List.mem_cons,List.not_mem_nil,or_false] at hx
  rcases hx with rfl|rfl|rfl
  · exact ⟨L0.out.cell 0 _ rfl,L0.out.cell 11 _ rfl,L0.out.lt⟩
  · exact ⟨L1.out.cell 0 _ rfl,L1.out.cell 11 _ rfl,L1.out.lt⟩
  · exact ⟨L2.out.cell 0 _ rfl,L2.out.cell 11 _ rfl,L2.out.lt⟩))
 have CG:=hid (show (∃v,W0.cell? ⟨gm,x * 6+2,none⟩=some v)∧W0.frozen? ⟨gm,x * 6+2,none⟩=false∧gm<W0.heap.size by
  obtain ⟨g9,hg9,_,hl9,hz9,hc9⟩:=O0.out.ncell (by omega)
  have e9:g9=gm:=by have e:=HM.out;rw [hg9] at e;injection e with e;injection e with e _
  subst e9
  exact ⟨(hc9 x hx).1,hz9 _,hl9⟩)
 have CH:=hid (show (∃v,W1.cell? ⟨gm,x * 6+4,none⟩=some v)∧W1.frozen? ⟨gm,x * 6+4,none⟩=false∧gm<W1.heap.size by
  obtain ⟨g9,hg9,_,hl9,hz9,hc9⟩:=O1.out.ncell (Nat.lt_of_le_of_lt (Nat.zero_le _) hx2)
  have e9:g9=gm:=by have e:=HM.out;rw [hg9] at e;injection e with e;injection e with e _
  subst e9
  exact ⟨(hc9 x hx2).2,hz9 _,hl9⟩)
 clear hW1 P1 hW2 P2;refine vAs (PhL [W0,W1,W2]) [8,11] (by kernel_rfl) (by kernel_rfl) (by kernel_rfl) (by rw [HX.out];rfl) ?_
 repeat
  first
   |(refine SeqP.run ?_ 2 (vEk _ _ _ _) rfl (by decide) (fun m hm wx hx=>?_) ?_
     rotate_left
     · obtain ⟨g0,g11,ql_⟩:=CB.out m wx hx
       go_simp
       refine StepRun.val ?_;exact hx
     simp only [Act.put,List.setIfInBounds_toArray,List.set_cons_zero,List.set_cons_succ])
   |(refine SeqP.make undef 0 rfl rfl (fun wx hx=>?_) ?_
     · obtain rfl:W0=wx:=Option.some.inj hx
       obtain ⟨⟨v9,c9⟩,z9,l9⟩:=CG.out
       go_simp
       exact ⟨rfl,by rw [H1.out];rfl⟩
     simp only [Act.put])
   |(refine SeqP.make undef 1 rfl rfl (fun wx hx=>?_) ?_
     · obtain rfl:W1=wx:=Option.some.inj hx
       obtain ⟨⟨v9,c9⟩,z9,l9⟩:=CH.out
       go_simp
       exact ⟨rfl,by rw [H2.out];rfl⟩
     simp only [Act.put])
 refine SeqP.last rfl (fun w9 h9=>?_);obtain rfl:W2=w9:=Option.some.inj h9;clear CB CG CH HX H1 H2;go_wp2;go_ret;exact ⟨U,by rw [EV.out.2];rfl,T2.out,fun _=>by rw [EV.out.1];exact O2.out,Z1.out,ZZ.out⟩
theorem cflood_w (N:NV) (L:LV) (U:NSl3) (q B:Nat) (t1 t2 t3 t4:SlV) (w:World) (hO:NOwn w B (fun _=>False) N U) (hq:q<B) (hB:B≤w.heap.size) (hb:TBx w q 31 (vBk U)) (hl:LRead w L t1 t2 t3 t4) (hs:RSl (Rdr.int .u32) w (InB w B (fun _=>False)) t4.A t4.n t4.c L.addrs) (hz:NvSz N) (hv:VtOk N) (_ha:0≤L.addr∧L.addr<4294967296) (_hx:∀x∈L.addrs,0≤x∧x<4294967296) (g0:bgE N L 7=0):Calls Tryz.prog 38 #[.pointer (some ⟨q,0,none⟩),.int .i64 (dvF N L.dev),vAv L t1 t2 t3 t4] w (GotOw (flN N L) (flE N L) q B w):=by
 obtain ⟨fit,_,d,hd,ed,_⟩:=bg_0 g0;have hn:=(vDm.1 fit).2.2;have FF:=hid (show ∀b,(fun _:Nat=>False) b→b<B from fun b g=>g.elim);have LE:=hid (fl_go (L:=L) fit ed);have EN:=hid (show flE N L=0→flN N L=vBg N L.row d L.num L.addrs from fun g=>by unfold flN;rw [if_pos g,ed];rfl);have HZF:=hid hz.zfl;have HS0:=hid hs;have FLEN:=hid hO.fl.len;have fle:=hO.fl.le;rw [ed]
 obtain ⟨g,hg,hgB,hgl,hgz,hgc⟩:=hO.vcell (by omega);obtain ⟨us,hus,hr⟩:=hO.dv.at_ g hg d hd DevV.zero;have hus:us=vGt (N.devices.getD d DevV.zero):=hus;subst hus;have hnet:=hO.read;have VP:=hv d hd;have dle:=hO.dv.le
 have ld:(d:Int)<(U.dv.n:Int):=by have:=hO.dv.len;omega
 rw [vBw];have HO:=hid hO;have HBq:=hid hq;have HBs:=hid hB;have HTB:=hid hb;have HGB:=hid hgB;have HG:=hid hg;have KW:=hid (show ∀W,w.alloc (.cells (lA L t1 t2 t3 t4) 37)=W→Below w.heap.size w W∧TBx W w.heap.size 37 (lA L t1 t2 t3 t4).toList from fun W e=>⟨by rw [←e];exact vAc _ _,by rw [←e];exact TBx.new w _ _⟩)
 have KR0:=hid (show ∀W,w.alloc (.cells (lA L t1 t2 t3 t4) 37)=W→∀wx,Below W.heap.size W wx→(wx.cell? ⟨q,0,none⟩=some (.slice (some ⟨g,0,none⟩) U.dv.n U.dv.c)∧wx.cell? ⟨q,1,none⟩=some (.slice U.pt.A U.pt.n U.pt.c)∧wx.cell? ⟨q,2,none⟩=some (.slice U.lk.A U.lk.n U.lk.c)∧wx.cell? ⟨q,3,none⟩=some (.slice U.dm.A U.dm.n U.dm.c)∧wx.cell? ⟨q,4,none⟩=some (.slice U.st.A U.st.n U.st.c)∧wx.cell? ⟨q,5,none⟩=some (.slice U.fl.A U.fl.n U.fl.c)∧wx.cell? ⟨q,6,none⟩=some (.slice U.vr.A U.vr.n U.vr.c)∧wx.cell? ⟨q,7,none⟩=some (.slice U.ir.A U.ir.n U.ir.c))∧(wx.cell? ⟨w.heap.size,0,none⟩=some (.int .i64 L.row)∧wx.cell? ⟨w.heap.size,11,none⟩=some (.int .i64 L.num)∧wx.cell? ⟨w.heap.size,16,none⟩=some (.slice t4.A t4.n t4.c))∧wx.cell? ⟨g,d * 5+4,none⟩=some (.int .u32 (N.devices.getD d DevV.zero).vtep)∧q<wx.heap.size∧w.heap.size<wx.heap.size∧Below w.heap.size w wx from fun W e wx hx=>by
  obtain ⟨b1,lb⟩:=KW.out W e;have bx:=vAa b1 hx;have tb:=hb.below bx;have lx:=lb.below hx
  refine ⟨⟨by rw [←hg];exact tb.cell 0 _ rfl,tb.cell 1 _ rfl,tb.cell 2 _ rfl,tb.cell 3 _ rfl,tb.cell 4 _ rfl,tb.cell 5 _ rfl,tb.cell 6 _ rfl,tb.cell 7 _ rfl⟩,⟨lx.cell 0 _ rfl,lx.cell 11 _ rfl,lx.cell 16 _ rfl⟩,vAb hr (bx.block g hgl) 4 _ rfl,tb.lt,lx.lt,bx⟩)
 have FD:=fun (w':World) (hb':Below w.heap.size w w')=>vFd N U (d:Int) L.num w' (hnet.up hb')
 unfold vAm at FD;rw [hg] at FD
 have LS:=fun (w':World) (hb':Below w.heap.size w w')=>xolst_any N U (d:Int) L.num w' (hnet.up hb')
 unfold vAm at LS;rw [hg] at LS;obtain ⟨V,hV⟩:∃V,(N.devices.getD d DevV.zero).vtep=V:=⟨_,rfl⟩;rw [hV] at LE KR0
 have CO:=fun (w':World) (hb':Below w.heap.size w w')=>cont_u32 t4.A t4.n t4.c L.addrs V w' (vAk hl hb').2.2.2
 obtain ⟨m,hm⟩:∃m,fdF N (d:Int) L.num=m:=⟨_,rfl⟩
 have AM:=hid (show m= -1∨0≤m by rw [←hm];rcases vGw N (d:Int) L.num with e|⟨j,_,e,_⟩<;>omega)
 obtain ⟨o,ho⟩:∃o,lsF N (d:Int) L.num=o:=⟨_,rfl⟩
 have OP:=hid (show o= -1∨0≤o by rw [←ho];rcases vFr N (d:Int) L.num with e|⟨j,_,e,_⟩<;>omega)
 obtain ⟨hb9,hhb⟩:∃b,memB L.addrs V=b:=⟨_,rfl⟩;rw [hm] at FD LE;rw [ho] at LS LE;rw [hhb] at CO LE;have FD:=hid FD;have LS:=hid LS;have CO:=hid CO;clear ho hV hm hhb VP;clear hO hq hB hb hl hs hz hv g0 hr hgB hgz hgc hnet hn fit ed
 go_enter Tryz.func38,Tryz.ntmps38
 go_upto_region 1 with fail
 obtain ⟨W,hW⟩:∃W,w.alloc (.cells (lA L t1 t2 t3 t4) 37)=W:=⟨_,rfl⟩;have KR:=hid (KR0.out W hW);have BW:=hid (KW.out W hW).1;have LB:=hid (KW.out W hW).2;rw [hW];clear hW KR0 KW;have I0:=hid (Below.refl W.heap.size W)
 by_cases c1:m= -1
 · have y1:(m == -1)=true:=by simpa using c1
   have EV:=hid (show flE N L=31 by rw [LE.out,if_pos (by omega)]);clear c1;refine vAe (fun wx=>Below W.heap.size W wx) (by kernel_rfl) (by kernel_rfl) (vAd I0.out 1) ?_
   repeat
    first
     |(refine Seq.pass rfl ?_;simp only [Act.put,List.setIfInBounds_toArray,List.set_cons_zero,List.set_cons_succ])
     |(refine Seq.run ?_ rfl (fun wx hx=>?_) ?_
       rotate_left
       · obtain ⟨⟨f0,f1,f2,f3,f4,f5,f6,f7⟩,⟨g0,g11,g16⟩,p4,qn_,ql_,hBx⟩:=KR.out wx hx
         go_simp
         first
          |(refine StepRun.val ?_;exact hx)
          |(refine StepRun.call (v:=.int .i64 m) ?_;(with_reducible refine Calls.mono (FD.out _ hBx) ?_);rintro e w' ⟨rfl,hb⟩;exact ⟨rfl,vAa hx hb⟩)
       simp only [Act.put,List.setIfInBounds_toArray,List.set_cons_zero,List.set_cons_succ])
   refine Seq.last (fun w6 h6=>?_);go_wp2;go_ret;exact vCu EV.out (by decide) HBq.out HBs.out HTB.out (vAa BW.out h6)
 have y1:(m == -1)=false:=by simpa using c1
 have c1':¬m<0:=by rcases AM.out with e|e<;>omega
 refine vAe (fun wx=>Below W.heap.size W wx) (by kernel_rfl) (by kernel_rfl) (vAd I0.out 1) ?_
 repeat
  first
   |(refine Seq.pass rfl ?_;simp only [Act.put,List.setIfInBounds_toArray,List.set_cons_zero,List.set_cons_succ])
   |(refine Seq.run ?_ rfl (fun wx hx=>?_) ?_
     rotate_left
     · obtain ⟨⟨f0,f1,f2,f3,f4,f5,f6,f7⟩,⟨g0,g11,g16⟩,p4,qn_,ql_,hBx⟩:=KR.out wx hx
       go_simp
       first
        |(refine StepRun.val ?_;exact hx)
        |(refine StepRun.call (v:=.int .i64 m) ?_;(with_reducible refine Calls.mono (FD.out _ hBx) ?_);rintro e w' ⟨rfl,hb⟩;exact ⟨rfl,vAa hx hb⟩)
     simp only [Act.put,List.setIfInBounds_toArray,List.set_cons_zero,List.set_cons_succ])
 refine Seq.last (fun w6 h6=>?_);have Y6:=hid h6;clear h6
 go_upto_region 3 with fail
 by_cases c2:o= -1
 rotate_left
 · have y2:(o != -1)=true:=by simpa using c2
   have EV:=hid (show flE N L=30 by rw [LE.out,if_neg c1',if_pos (OP.out.resolve_left c2)]);clear c1 c1' c2;refine vAe (fun wx=>Below W.heap.size W wx) (by kernel_rfl) (by kernel_rfl) (vAd Y6.out 1) ?_
   repeat
    first
     |(refine Seq.pass rfl ?_;simp only [Act.put,List.setIfInBounds_toArray,List.set_cons_zero,List.set_cons_succ])
     |(refine Seq.run ?_ rfl (fun wx hx=>?_) ?_
       rotate_left
       · obtain ⟨⟨f0,f1,f2,f3,f4,f5,f6,f7⟩,⟨g0,g11,g16⟩,p4,qn_,ql_,hBx⟩:=KR.out wx hx
         go_simp
         first
          |(refine StepRun.val ?_;exact hx)
          |(refine StepRun.call (v:=.int .i64 o) ?_;(with_reducible refine Calls.mono (LS.out _ hBx) ?_);rintro e w' ⟨rfl,hb⟩;exact ⟨rfl,vAa hx hb⟩)
       simp only [Act.put,List.setIfInBounds_toArray,List.set_cons_zero,List.set_cons_succ])
   refine Seq.last (fun w7 h7=>?_);go_wp2;go_ret;exact vCu EV.out (by decide) HBq.out HBs.out HTB.out (vAa BW.out h7)
 have y2:(o != -1)=false:=by simpa using c2
 refine vAe (fun wx=>Below W.heap.size W wx) (by kernel_rfl) (by kernel_rfl) (vAd Y6.out 1) ?_
 repeat
  first
   |(refine Seq.pass rfl ?_;simp only [Act.put,List.setIfInBounds_toArray,List.set_cons_zero,List.set_cons_succ])
   |(refine Seq.run ?_ rfl (fun wx hx=>?_) ?_
     rotate_left
     · obtain ⟨⟨f0,f1,f2,f3,f4,f5,f6,f7⟩,⟨g0,g11,g16⟩,p4,qn_,ql_,hBx⟩:=KR.out wx hx
       go_simp
       first
        |(refine StepRun.val ?_;exact hx)
        |(refine StepRun.call (v:=.int .i64 o) ?_;(with_reducible refine Calls.mono (LS.out _ hBx) ?_);rintro e w' ⟨rfl,hb⟩;exact ⟨rfl,vAa hx hb⟩)
     simp only [Act.put,List.setIfInBounds_toArray,List.set_cons_zero,List.set_cons_succ])
 refine Seq.last (fun w7 h7=>?_);have Y7:=hid h7;replace LE:=hid (show flE N L=if hb9=true then 36 else if 48≤N.floods.length then 3 else 0 by rw [LE.out,if_neg c1',if_neg (by omega)]);clear h7 c1 c1' c2 OP AM FD LS Y6
 go_upto_region 5 with fail
 cases hb9
 rotate_left
 · have EV:=hid (show flE N L=36 by rw [LE.out,if_pos rfl])
   refine vAe (fun wx=>Below W.heap.size W wx) (by kernel_rfl) (by kernel_rfl) (vAd Y7.out 1) ?_
   repeat
    first
     |(refine Seq.pass rfl ?_;simp only [Act.put,List.setIfInBounds_toArray,List.set_cons_zero,List.set_cons_succ])
     |(refine Seq.run ?_ rfl (fun wx hx=>?_) ?_
       rotate_left
       · obtain ⟨⟨f0,f1,f2,f3,f4,f5,f6,f7⟩,⟨g0,g11,g16⟩,p4,qn_,ql_,hBx⟩:=KR.out wx hx
         go_simp
         first
          |(refine StepRun.val ?_;exact hx)
          |(refine StepRun.call (v:=.bool true) ?_;(with_reducible refine Calls.mono (CO.out _ hBx) ?_);rintro e w' ⟨rfl,hb⟩;exact ⟨rfl,vAa hx hb⟩)
       simp only [Act.put,List.setIfInBounds_toArray,List.set_cons_zero,List.set_cons_succ])
   refine Seq.last (fun w8 h8=>?_);go_wp2;go_ret;exact vCu EV.out (by decide) HBq.out HBs.out HTB.out (vAa BW.out h8)
 replace LE:=hid (show flE N L=if 48≤N.floods.length then 3 else 0 by rw [LE.out,if_neg (by decide)]);refine vAe (fun wx=>Below W.heap.size W wx) (by kernel_rfl) (by kernel_rfl) (vAd Y7.out 1) ?_
 repeat
  first
   |(refine Seq.pass rfl ?_;simp only [Act.put,List.setIfInBounds_toArray,List.set_cons_zero,List.set_cons_succ])
   |(refine Seq.run ?_ rfl (fun wx hx=>?_) ?_
     rotate_left
     · obtain ⟨⟨f0,f1,f2,f3,f4,f5,f6,f7⟩,⟨g0,g11,g16⟩,p4,qn_,ql_,hBx⟩:=KR.out wx hx
       go_simp
       first
        |(refine StepRun.val ?_;exact hx)
        |(refine StepRun.call (v:=.bool false) ?_;(with_reducible refine Calls.mono (CO.out _ hBx) ?_);rintro e w' ⟨rfl,hb⟩;exact ⟨rfl,vAa hx hb⟩)
     simp only [Act.put,List.setIfInBounds_toArray,List.set_cons_zero,List.set_cons_succ])
 refine Seq.last (fun w8 h8=>?_);have Y8:=hid h8;clear h8 Y7 CO;obtain ⟨⟨f0,f1,f2,f3,f4,f5,f6,f7⟩,⟨g0,g11,g16⟩,p4,qn_,ql_,hBx⟩:=KR.out _ Y8.out
 by_cases c4:48≤U.fl.n
 · have y4:(U.fl.n:Int)≥48:=by omega
   have EV:=hid (show flE N L=3 by rw [LE.out,if_pos (by have:=FLEN.out;omega)]);clear c4;go_wp2;go_ret;exact vCu EV.out (by decide) HBq.out HBs.out HTB.out (vAa BW.out Y8.out)
 have y4:¬(U.fl.n:Int)≥48:=by omega
 have E0:flE N L=0:=by rw [LE.out,if_neg (by have:=FLEN.out;omega)]
 have EV:=hid (show flN N L=vBg N L.row d L.num L.addrs∧flE N L=0 from ⟨EN.out E0,E0⟩);clear c4 E0 LE EN
 go_upto_region 9 with fail
 clear f0 f1 f2 f3 f4 f5 f6 f7 g0 g11 g16 p4 qn_ ql_ hBx;obtain ⟨W0,hW0⟩:∃W0,w8.drew=W0:=⟨_,rfl⟩;have V0:=hid (show Below W.heap.size W W0 from hW0▸vAd Y8.out 1);have HX:=hid hW0;clear hW0 Y8;have X0:=vAa BW.out V0.out;have O0:=hid (HO.out.up X0);have T0:=hid (HTB.out.below X0);have L0:=hid (LB.out.below V0.out);have X0:=hid X0;have G0:=hid (HS0.out.keep (w':=W0) (F':=InB W0 B (fun _=>False)) (fun b hb=>X0.out.block b hb.1) (fun b hb=>⟨Nat.lt_of_lt_of_le hb.1 X0.out.size,hb.2.imp id fun g=>⟨g.1,g.2.below X0.out⟩⟩))
 obtain ⟨W1,hW1⟩:∃W1,W0.alloc (.cells [.int .i64 L.row,.int .i64 (d:Int),.int .i64 L.num,.slice t4.A t4.n t4.c].toArray 71)=W1:=⟨_,rfl⟩
 have b1:Below W0.heap.size W0 W1:=by rw [←hW1];exact vAc _ _
 have E1:TBx W1 W0.heap.size 71 [.int .i64 L.row,.int .i64 (d:Int),.int .i64 L.num,.slice t4.A t4.n t4.c]:=by rw [←hW1];exact TBx.new W0 _ _
 have G1:=G0.out.keep (w':=W1) (F':=InB W1 B (fun _=>False)) (fun b hb=>b1.block b hb.1) (fun b hb=>⟨Nat.lt_of_lt_of_le hb.1 b1.size,hb.2.imp id fun g=>⟨g.1,g.2.below b1⟩⟩);have gB:B≤W1.heap.size:=Nat.le_trans HBs.out (Nat.le_trans X0.out.size b1.size);obtain ⟨u',W2,hr,R2,C2,bb2⟩:=run_ri1 (P:=Tryz.prog) 27 27 Tryz.underlying27 (Desc.of (by kernel_rfl)) (by decide) ((O0.out.up b1).fl) vBx FF.out W0.heap.size [.int .i64 L.row,.int .i64 (d:Int),.int .i64 L.num,.slice t4.A t4.n t4.c] (⟨L.row,(d:Int),L.num,L.addrs⟩:FloodV) E1.range ⟨⟨t4.A,t4.n,t4.c⟩,rfl,G1⟩ (by have:=HZF.out;omega) gB
 have T1:=hid (T0.out.below b1);have T2:=hid (T1.out.chg C2 (by decide));have L1:=hid (L0.out.below b1);have L2:=hid (L1.out.chg C2 (by decide));obtain ⟨W3,hW3⟩:∃W3,W2.setCell ⟨q,5,none⟩ (.slice u'.A u'.n u'.c)=W3:=⟨_,rfl⟩
 have far:∀b,b≠q→W3.heap[b]?=W2.heap[b]?:=fun b hb=>by rw [←hW3];exact Below.heap_setCell _ _ _ _ hb
 have hs3:W3.heap.size=W2.heap.size:=by rw [←hW3];simp
 have L3:=hid (L2.out.same (far _ (by have:=HTB.out.lt;omega)));obtain ⟨U',hU'⟩:∃U':NSl3,({U with fl:=u'}:NSl3)=U':=⟨_,rfl⟩;have T3:=hid (show TBx W3 q 31 (vBk U') by rw [←hW3,←hU'];exact T2.out.set 5 _)
 have O3:=hid (show NOwn W3 B (fun _=>False) (vBg N L.row d L.num L.addrs) U' by
  rw [←hU']
  exact ((O0.out.up b1).setFl C2 FF.out R2).far (q:=q) (by rw [hs3];exact Nat.le_refl _) far HBq.out (fun f=>f))
 have Z1:=hid (show Below q w W3 by
  rw [←hW3];have v0:Below q w W0:=X0.out.mono (Nat.le_of_lt HTB.out.lt)
  exact ((v0.trans (b1.mono (Nat.le_of_lt T0.out.lt))).trans (bb2.mono (Nat.le_of_lt HBq.out))).setCell (Nat.le_refl _) _)
 have ZZ:=hid (show ∀b,q<b→b<B→W3.heap[b]?=w.heap[b]? from fun b h1 h2=>by
  rw [far b (by omega),bb2.block b h2,b1.block b (by have:=X0.out.size;have:=HBs.out;omega)]
  exact X0.out.block b (Nat.lt_of_lt_of_le h2 HBs.out))
 have HR:=hid hr;have H1:=hid hW1;have H3:=hid hW3
 have CB:=hid (fun m wx (hx:PhL [W0,W1,W2,W3] m wx)=>hx.all (P:=fun x=>x.cell? ⟨w.heap.size,0,none⟩=some (.int .i64 L.row)∧x.cell? ⟨w.heap.size,11,none⟩=some (.int .i64 L.num)∧x.cell? ⟨w.heap.size,16,none⟩=some (.slice t4.A t4.n t4.c)∧q<x.heap.size∧w.heap.size<x.heap.size) (by
  intro x hx;simp only [List.mem_cons,List.not_mem_nil,or_false] at hx
  rcases hx with rfl|rfl|rfl|rfl
  · exact ⟨L0.out.cell 0 _ rfl,L0.out.cell 11 _ rfl,L0.out.cell 16 _ rfl,T0.out.lt,L0.out.lt⟩
  · exact ⟨L1.out.cell 0 _ rfl,L1.out.cell 11 _ rfl,L1.out.cell 16 _ rfl,T1.out.lt,L1.out.lt⟩
  · exact ⟨L2.out.cell 0 _ rfl,L2.out.cell 11 _ rfl,L2.out.cell 16 _ rfl,T2.out.lt,L2.out.lt⟩
  · exact ⟨L3.out.cell 0 _ rfl,L3.out.cell 11 _ rfl,L3.out.cell 16 _ rfl,T3.out.lt,L3.out.lt⟩))
 have CX:=hid (fun m wx (hx:PhL [W0,W1,W2,W3] m wx) (hm:m≤1)=>hx.upto hm (P:=fun x=>x.cell? ⟨q,5,none⟩=some (.slice U.fl.A U.fl.n U.fl.c)) (by
  intro x hx;simp only [List.take,List.mem_cons,List.not_mem_nil,or_false] at hx
  rcases hx with rfl|rfl
  · exact T0.out.cell 5 _ rfl
  · exact T1.out.cell 5 _ rfl))
 clear hr R2 C2 bb2 hW1 hW3 hU' E1 b1 gB G1 far hs3;refine vAs (PhL [W0,W1,W2,W3]) [13,14,17] (by kernel_rfl) (by kernel_rfl) (by kernel_rfl) (by rw [HX.out];rfl) ?_
 repeat
  first
   |(refine SeqP.run ?_ 3 (vEk _ _ _ _) rfl (by decide) (fun m hm wx hx=>?_) ?_
     rotate_left
     · obtain ⟨g0,g11,g16,qn_,ql_⟩:=CB.out m wx hx
       go_simp
       refine StepRun.val ?_;exact hx
     simp only [Act.put,List.setIfInBounds_toArray,List.set_cons_zero,List.set_cons_succ])
   |(refine SeqP.run (.slice U.fl.A U.fl.n U.fl.c) 1 (of_decide_eq_true (by kernel_rfl)) rfl (by decide) (fun m hm wx hx=>?_) ?_
     · have cx:=CX.out m wx hx hm;obtain ⟨g0,g11,g16,qn_,ql_⟩:=CB.out m wx hx
       go_simp
       refine StepRun.val ?_;exact hx
     simp only [Act.put,List.setIfInBounds_toArray,List.set_cons_zero,List.set_cons_succ])
   |(refine SeqP.make (.slice (some ⟨W0.heap.size,0,none⟩) 1 1) 0 rfl rfl (fun wx hx=>?_) ?_
     · obtain rfl:W0=wx:=Option.some.inj hx
       go_simp
       exact ⟨rfl,by have:=H1.out;rw [←this];rfl⟩
     simp only [Act.put,List.setIfInBounds_toArray,List.set_cons_zero,List.set_cons_succ])
   |(refine SeqP.make (.slice u'.A u'.n u'.c) 1 rfl rfl (fun wx hx=>?_) ?_
     · obtain rfl:W1=wx:=Option.some.inj hx
       rw [vDo (t:=27) rfl rfl rfl HR.out];exact ⟨rfl,rfl⟩
     simp only [Act.put,List.setIfInBounds_toArray,List.set_cons_zero,List.set_cons_succ])
   |(refine SeqP.make undef 2 rfl rfl (fun wx hx=>?_) ?_
     · obtain rfl:W2=wx:=Option.some.inj hx
       have cx:=T2.out.cell 5 (.slice U.fl.A U.fl.n U.fl.c) rfl;have ff:=T2.out.live 5;have m2:=T2.out.lt
       go_simp
       exact ⟨rfl,by rw [H3.out];rfl⟩
     simp only [Act.put])
 refine SeqP.last rfl (fun w9 h9=>?_);obtain rfl:W3=w9:=Option.some.inj h9;clear CB CX HX H1 H3 HR;go_wp2;go_ret;exact ⟨U',by rw [EV.out.2];rfl,T3.out,fun _=>by rw [EV.out.1];exact O3.out,Z1.out,ZZ.out⟩
end Go.Proofs.YtgmflecelnefcaaGreat
