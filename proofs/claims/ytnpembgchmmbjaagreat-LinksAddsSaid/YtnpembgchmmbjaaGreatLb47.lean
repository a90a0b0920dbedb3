import Derived.Test.YtnpembgchmmbjaaGreatLb34
import Derived.Test.YtnpembgchmmbjaaGreatLb20
import Derived.Test.YtnpembgchmmbjaaGreatLb40
import Derived.Test.YtnpembgchmmbjaaGreatLb46
import Derived.Deep.CutBlock
import Derived.Deep.DeepCutAuto
import Derived.Deep.RegionHeldLaw
set_option maxRecDepth 100000
set_option maxHeartbeats 40000000
namespace Go.Proofs.YtnpembgchmmbjaaGreat
open Go.RowKit
theorem cfind_any (N:NV) (S:NSl3) (dev port:List UInt8) (w:World) (h:NRead w (vAw w) N S) (hs:NvSz N) (hn:NetOk N) (h1:dev.length≤9223372036854775807) (h2:port.length≤9223372036854775807):Calls Tryz.prog 21 #[vAy S,.string (str dev),.string (str port)] w fun e w'=>e=.returned (.int .i64 (ndF N dev port))∧Below w.heap.size w w':=by
 have DV:=fun (w':World) (hb:Below w.heap.size w w')=>xndevice_any N S dev w' (h.up hb) hs hn h1
 have PT:=fun (w':World) (hb:Below w.heap.size w w')=>xnport_any N S (dvF N dev) port w' (h.up hb) hs hn h2
 rw [show ptF N (dvF N dev) port=ndF N dev port from rfl] at PT;generalize ndF N dev port=Z at *;generalize dvF N dev=D at *;unfold vAy at DV PT ⊢;replace DV:=Lib.hid DV;replace PT:=Lib.hid PT;have NB:=Lib.hid (NBox.new w S 31);clear h hn hs h1 h2
 go_enter Tryz.func21,Tryz.ntmps21
 go_upto_region 1 with fail
 obtain ⟨w1,hw1⟩:∃w1,w.alloc (.cells (nA S) 31)=w1:=⟨_,rfl⟩;have B1:=Lib.hid (show Below w.heap.size w w1 by rw [←hw1];exact vAc _ _);rw [hw1] at NB ⊢;clear hw1
 have KN:=Lib.hid (show ∀wx,Below w1.heap.size w1 wx→(NF wx w.heap.size S)∧Below w.heap.size w wx from fun wx hx=>by
  have nb:=NB.out.below hx
  exact ⟨⟨nb.c0,nb.c1,nb.c2,nb.c3,nb.c4,nb.c5,nb.c6,nb.c7⟩,B1.out.trans (hx.mono B1.out.size)⟩)
 refine vAe (fun wx=>Below w1.heap.size w1 wx) (by kernel_rfl) (by kernel_rfl) ((Below.refl _ _).drew) ?_
 repeat
  first
   |(refine Seq.pass rfl ?_;simp only [Act.put,List.setIfInBounds_toArray,List.set_cons_zero,List.set_cons_succ])
   |(refine Seq.run ?_ rfl (fun wx hx=>?_) ?_
     rotate_left
     · obtain ⟨⟨f0,f1,f2,f3,f4,f5,f6,f7⟩,hBx⟩:=KN.out wx hx
       go_simp
       first
        |(refine StepRun.val ?_;exact hx)
        |(refine StepRun.call (v:=.int .i64 D) ?_;(with_reducible refine Calls.mono (DV.out _ hBx) ?_);rintro e w' ⟨rfl,hb⟩;exact ⟨rfl,vAa hx hb⟩)
        |(refine StepRun.call (v:=.int .i64 Z) ?_;(with_reducible refine Calls.mono (PT.out _ hBx) ?_);rintro e w' ⟨rfl,hb⟩;exact ⟨rfl,vAa hx hb⟩)
     simp only [Act.put,List.setIfInBounds_toArray,List.set_cons_zero,List.set_cons_succ])
 refine Seq.last (fun w7 h7=>?_);have B7:=Lib.hid (KN.out _ h7).2;go_wp2;go_ret;exact ⟨rfl,B7.out⟩
theorem vDe (a b:Int) (w:World):(Instr.index 67 (.agg #[.int .i64 a,.int .i64 b]) (.int .i64 0)).run Tryz.prog w=.ok (.int .i64 a) w∧(Instr.index 67 (.agg #[.int .i64 a,.int .i64 b]) (.int .i64 1)).run Tryz.prog w=.ok (.int .i64 b) w:=by
 constructor
 · show Sem.run _ _ _=Result.ok _ _
   kernel_rfl
 · show Sem.run _ _ _=Result.ok _ _
   kernel_rfl
theorem crefusal_any (N:NV) (S:NSl3) (a b:Int) (w:World) (h:NRead w (vAw w) N S) (ha:a= -1∨∃x:Nat,x<N.ports.length∧a=(x:Int)) (hb:b= -1∨∃y:Nat,y<N.ports.length∧b=(y:Int)):Calls Tryz.prog 22 #[vAy S,.agg #[.int .i64 a,.int .i64 b]] w fun e w'=>e=.returned (.int .i64 (laR N a b))∧Below w.heap.size w w':=by
 have HP:=Lib.hid h.pt;have hle:=h.pt.le;have hcap:=h.pt.cap;have gle:=h.lk.le;have gcap:=h.lk.cap;have PL:=h.pt.len;have KLEN:=Lib.hid h.lk.len;obtain ⟨V,hV⟩:∃V,laR N a b=V:=⟨_,rfl⟩;rw [hV];have E:=Lib.hid (show V=laR N a b from hV.symm)
 have X0:=fun w=>(vDe a b w).1
 have X1:=fun w=>(vDe a b w).2
 clear h hV;unfold vAy
 go_enter Tryz.func22,Tryz.ntmps22
 go_upto_region 1 with fail
 obtain ⟨W,hW⟩:∃W,(w.alloc (.cells (nA S) 31)).alloc (.cells #[.int .i64 a,.int .i64 b] 67)=W:=⟨_,rfl⟩;have NC:=vIh S _ _ [.int .i64 a,.int .i64 b] hW;rw [hW];clear hW;have B0:=Lib.hid NC.2.2;have g0:=NC.2.1.1 0 _ rfl;have g1:=NC.2.1.1 1 _ rfl;have ql:=NC.1.2;have ql2:=NC.2.1.2;have f1:=NC.1.1 1 _ rfl;have f2:=NC.1.1 2 _ rfl;clear NC;go_wp2;refine wp_loop_rounds 3 ?_;rw [rounds_succ]
 by_cases a0:a= -1
 · have y0:(a == -1)=true:=by simpa using a0
   have EV:=Lib.hid (show V=31 by rw [E.out];unfold laR;rw [if_pos (.inl a0)]);clear a0 ha hb E;go_wp2;go_ret;exact ⟨by rw [EV.out];rfl,B0.out⟩
 have y0:(a == -1)=false:=by simpa using a0
 go_wp2;rw [rounds_succ]
 by_cases b0:b= -1
 · have y1:(b == -1)=true:=by simpa using b0
   have EV:=Lib.hid (show V=31 by rw [E.out];unfold laR;rw [if_pos (.inr b0)]);clear a0 b0 ha hb E;go_wp2;go_ret;exact ⟨by rw [EV.out];rfl,B0.out⟩
 have y1:(b == -1)=false:=by simpa using b0
 go_wp2;rw [rounds_succ];obtain ⟨x,hx,rfl⟩:=ha.resolve_left a0;obtain ⟨y,hy,rfl⟩:=hb.resolve_left b0;replace E:=Lib.hid (show V=if (N.ports.getD x PortV.zero).dev=(N.ports.getD y PortV.zero).dev∨(N.ports.getD x PortV.zero).link≠-1∨(N.ports.getD y PortV.zero).link≠-1 then 33 else if 20≤N.links.length then 3 else 0 by rw [E.out];unfold laR;rw [if_neg (fun e=>e.elim a0 b0)];rfl)
 have hxl:x<S.pt.n:=by omega
 have hyl:y<S.pt.n:=by omega
 clear ha hb a0 b0 hx hy PL
 go_upto_region 7 with fail
 obtain ⟨bp,op,vp,ep,_,hbp,⟨s,rfl,lp⟩,rp⟩:=vAh HP.out x hxl PortV.zero;obtain ⟨bq,oq,vq,eq_,_,_,⟨t,rfl,lq⟩,rq⟩:=vAh HP.out y hyl PortV.zero;rw [ep] at eq_
 injection eq_ with eq_
 injection eq_ with h1 h2
 subst h1 h2;have RP:=vAb rp (B0.out.block bp hbp);have RQ:=vAb rq (B0.out.block bp hbp);have p0:=RP 0 _ rfl;have q0:=RQ 0 _ rfl;have p1:=RP 1 _ rfl;have q1:=RQ 1 _ rfl;have p2:=RP 2 _ rfl;have q2:=RQ 2 _ rfl;have p3:=RP 3 _ rfl;have q3:=RQ 3 _ rfl;have p4:=RP 4 _ rfl;have q4:=RQ 4 _ rfl;have p5:=RP 5 _ rfl;have q5:=RQ 5 _ rfl;have p6:=RP 6 _ rfl;have q6:=RQ 6 _ rfl;simp only [Nat.add_zero] at p0 q0
 rw [show op+x * portR.n=op+x * 7 from rfl] at p0 p1 p2 p3 p4 p5 p6;rw [show op+y * portR.n=op+y * 7 from rfl] at q0 q1 q2 q3 q4 q5 q6
 have lx:(x:Int)<(S.pt.n:Int):=by omega
 have ly:(y:Int)<(S.pt.n:Int):=by omega
 generalize N.ports.getD x PortV.zero=P at *;generalize N.ports.getD y PortV.zero=Q at *;rw [ep] at f1;have hbp1:bp<W.heap.size:=Nat.lt_of_lt_of_le hbp B0.out.size;clear rp rq RP RQ ep lp lq;have SK:=Lib.hid (show ∀wx,Below W.heap.size W wx→(wx.cell? ⟨w.heap.size,1,none⟩=some (.slice (some ⟨bp,op,none⟩) S.pt.n S.pt.c)∧wx.cell? ⟨w.heap.size+1,0,none⟩=some (.int .i64 (x:Int))∧wx.cell? ⟨w.heap.size+1,1,none⟩=some (.int .i64 (y:Int))∧wx.cell? ⟨bp,op+x * 7,none⟩=some (.int .i64 P.row)∧wx.cell? ⟨bp,op+x * 7+1,none⟩=some (.int .i64 P.dev)∧wx.cell? ⟨bp,op+x * 7+2,none⟩=some (.int .i64 P.native)∧wx.cell? ⟨bp,op+x * 7+3,none⟩=some (.int .i64 P.cost)∧wx.cell? ⟨bp,op+x * 7+4,none⟩=some (.int .i64 P.link)∧wx.cell? ⟨bp,op+x * 7+5,none⟩=some (.string (str P.name))∧wx.cell? ⟨bp,op+x * 7+6,none⟩=some (.slice s.A s.n s.c)∧wx.cell? ⟨bp,op+y * 7,none⟩=some (.int .i64 Q.row)∧wx.cell? ⟨bp,op+y * 7+1,none⟩=some (.int .i64 Q.dev)∧wx.cell? ⟨bp,op+y * 7+2,none⟩=some (.int .i64 Q.native)∧wx.cell? ⟨bp,op+y * 7+3,none⟩=some (.int .i64 Q.cost)∧wx.cell? ⟨bp,op+y * 7+4,none⟩=some (.int .i64 Q.link)∧wx.cell? ⟨bp,op+y * 7+5,none⟩=some (.string (str Q.name))∧wx.cell? ⟨bp,op+y * 7+6,none⟩=some (.slice t.A t.n t.c)) from fun wx hx=>⟨(hx.cell (p:=⟨_,1,none⟩) ql).trans f1,(hx.cell (p:=⟨_,0,none⟩) ql2).trans g0,(hx.cell (p:=⟨_,1,none⟩) ql2).trans g1,(hx.cell (p:=⟨bp,_,none⟩) hbp1).trans p0,(hx.cell (p:=⟨bp,_,none⟩) hbp1).trans p1,(hx.cell (p:=⟨bp,_,none⟩) hbp1).trans p2,(hx.cell (p:=⟨bp,_,none⟩) hbp1).trans p3,(hx.cell (p:=⟨bp,_,none⟩) hbp1).trans p4,(hx.cell (p:=⟨bp,_,none⟩) hbp1).trans p5,(hx.cell (p:=⟨bp,_,none⟩) hbp1).trans p6,(hx.cell (p:=⟨bp,_,none⟩) hbp1).trans q0,(hx.cell (p:=⟨bp,_,none⟩) hbp1).trans q1,(hx.cell (p:=⟨bp,_,none⟩) hbp1).trans q2,(hx.cell (p:=⟨bp,_,none⟩) hbp1).trans q3,(hx.cell (p:=⟨bp,_,none⟩) hbp1).trans q4,(hx.cell (p:=⟨bp,_,none⟩) hbp1).trans q5,(hx.cell (p:=⟨bp,_,none⟩) hbp1).trans q6⟩)
 have F2:=Lib.hid (show ∀wx,Below W.heap.size W wx→wx.cell? ⟨w.heap.size,2,none⟩=some (.slice S.lk.A S.lk.n S.lk.c) from fun wx hx=>(hx.cell (p:=⟨_,2,none⟩) ql).trans f2)
 go_cut [7,8] (fun p q wx=>∃b7 b8,p=.pointer (some ⟨b7,0,none⟩)∧q=.pointer (some ⟨b8,0,none⟩)∧Cs wx b7 (portC P s)∧Cs wx b8 (portC Q t)∧Below W.heap.size W wx)
 case first=>
  go_region_held_law (fun w'=>(w'.cell? ⟨w.heap.size,1,none⟩=some (.slice (some ⟨bp,op,none⟩) S.pt.n S.pt.c)∧w'.cell? ⟨w.heap.size+1,0,none⟩=some (.int .i64 (x:Int))∧w'.cell? ⟨w.heap.size+1,1,none⟩=some (.int .i64 (y:Int))∧w'.cell? ⟨bp,op+x * 7,none⟩=some (.int .i64 P.row)∧w'.cell? ⟨bp,op+x * 7+1,none⟩=some (.int .i64 P.dev)∧w'.cell? ⟨bp,op+x * 7+2,none⟩=some (.int .i64 P.native)∧w'.cell? ⟨bp,op+x * 7+3,none⟩=some (.int .i64 P.cost)∧w'.cell? ⟨bp,op+x * 7+4,none⟩=some (.int .i64 P.link)∧w'.cell? ⟨bp,op+x * 7+5,none⟩=some (.string (str P.name))∧w'.cell? ⟨bp,op+x * 7+6,none⟩=some (.slice s.A s.n s.c)∧w'.cell? ⟨bp,op+y * 7,none⟩=some (.int .i64 Q.row)∧w'.cell? ⟨bp,op+y * 7+1,none⟩=some (.int .i64 Q.dev)∧w'.cell? ⟨bp,op+y * 7+2,none⟩=some (.int .i64 Q.native)∧w'.cell? ⟨bp,op+y * 7+3,none⟩=some (.int .i64 Q.cost)∧w'.cell? ⟨bp,op+y * 7+4,none⟩=some (.int .i64 Q.link)∧w'.cell? ⟨bp,op+y * 7+5,none⟩=some (.string (str Q.name))∧w'.cell? ⟨bp,op+y * 7+6,none⟩=some (.slice t.A t.n t.c))) ((refine SK.out _ ?_;(repeat (first|exact Below.refl _ _|exact vAc _ _|exact vAn _ _ _|(with_reducible refine Below.alloc ?_ (by simp<;>omega) _)|refine vAd ?_ 1)))) (fail)
  all_goals (try go_wp2)
  all_goals go_meet
  all_goals (refine ⟨_,_,rfl,rfl,?_,?_,?_⟩)
  all_goals first
   |(refine ⟨fun j v hj=>?_,by (simp<;>omega)⟩;unfold portC at hj;rcases j with _|_|_|_|_|_|_|j<;>first|(simp at hj;done)|(simp at hj;subst hj;simp [go_sem];done))
   |(repeat (first|exact Below.refl _ _|exact vAc _ _|exact vAn _ _ _|(with_reducible refine Below.alloc ?_ (by simp<;>omega) _)|refine vAd ?_ 1))
 case rest=>
 obtain ⟨b7,b8,rfl,rfl,C7,C8,hbw⟩:=hcut;rename World=>w7;have B7:=Lib.hid (vAa B0.out hbw);have m1:=C7.1 1 _ rfl;have m4:=C7.1 4 _ rfl;have o1:=C8.1 1 _ rfl;have o4:=C8.1 4 _ rfl;have f2:=F2.out _ hbw;clear p0 q0 p1 q1 p2 q2 p3 q3 p4 q4 p5 q5 p6 q6 hbw C7 C8 SK f1 g0 g1 F2
 by_cases c1:P.dev=Q.dev
 · have y1:(P.dev == Q.dev)=true:=by simpa using c1
   have EV:=Lib.hid (show V=33 by rw [E.out,if_pos (.inl c1)]);clear c1 E;go_wp2;go_ret;exact ⟨by rw [EV.out];rfl,B7.out⟩
 have y1:(P.dev == Q.dev)=false:=by simpa using c1
 by_cases c2:P.link= -1
 rotate_left
 · have y2:(P.link != -1)=true:=by simpa using c2
   have EV:=Lib.hid (show V=33 by rw [E.out,if_pos (.inr (.inl c2))]);clear c1 c2 E;go_wp2;go_ret;exact ⟨by rw [EV.out];rfl,B7.out⟩
 have y2:(P.link != -1)=false:=by simpa using c2
 by_cases c3:Q.link= -1
 rotate_left
 · have y3:(Q.link != -1)=true:=by simpa using c3
   have EV:=Lib.hid (show V=33 by rw [E.out,if_pos (.inr (.inr c3))]);clear c1 c2 c3 E;go_wp2;go_ret;exact ⟨by rw [EV.out];rfl,B7.out⟩
 have y3:(Q.link != -1)=false:=by simpa using c3
 replace E:=Lib.hid (show V=if 20≤N.links.length then 3 else 0 by rw [E.out,if_neg];rintro (e|e|e);exact c1 e;exact e c2;exact e c3);clear c1 c2 c3
 by_cases c4:20≤S.lk.n
 · have y4:(S.lk.n:Int)≥20:=by omega
   have EV:=Lib.hid (show V=3 by rw [E.out,if_pos (by rw [KLEN.out];exact c4)]);clear c4 E;go_wp2;go_ret;exact ⟨by rw [EV.out];rfl,B7.out⟩
 have y4:¬(S.lk.n:Int)≥20:=by omega
 have EV:=Lib.hid (show V=0 by rw [E.out,if_neg (by rw [KLEN.out];exact c4)]);clear c4 E;go_wp2;go_ret;exact ⟨by rw [EV.out];rfl,B7.out⟩
theorem lvk3 {L:LV} (hk:L.kind=3) (ht:L.dev.length≤1000000∧L.port.length≤1000000∧L.peer.length≤1000000∧L.far.length≤1000000):LvK L:=by
 unfold LvK LvF;rw [show pts L.kind true=[(0,0),(0,1),(0,2),(0,3)] by rw [hk];rfl];intro f hf;simp only [List.map_cons,List.map_nil,List.mem_cons,List.not_mem_nil,or_false] at hf
 rcases hf with rfl|rfl|rfl|rfl
 · exact ⟨ht.1,vGc,vGm,vFd⟩
 · exact ⟨ht.2.1,vGc,vGm,vFd⟩
 · exact ⟨ht.2.2.1,vGc,vGm,vFd⟩
 · exact ⟨ht.2.2.2,vGc,vGm,vFd⟩
theorem pre_tb {w w1:World} {S:NSl3} {L:LV} {s1 s2 s3 s4:SlV} (e:((w.alloc (.cells (nA S) 31)).alloc (.cells (lA L s1 s2 s3 s4) 37)).alloc (.cells zA 31)=w1):TBx w1 w.heap.size 31 (vCs S)∧TBx w1 (w.heap.size+1) 37 (lA L s1 s2 s3 s4).toList:=by
 subst e;have t:=(TBx.new (w.alloc (.cells (nA S) 31)) (lA L s1 s2 s3 s4) 37).below (vAc _ (.cells zA 31));rw [show (w.alloc (.cells (nA S) 31)).heap.size=w.heap.size+1 by simp] at t;exact ⟨((TBx.new w (nA S) 31).below (vAc _ _)).below (vAc _ _),t⟩
theorem vHb (tmps:Array Value) (W:World) (S:NSl3) (q:Nat) (E:Int) (h2:tmps[4]?.getD undef=.pointer (some ⟨q,0,none⟩)) (h5:tmps[5]?.getD undef=.int .i64 E) (hb:TBx W q 31 (vCs S)):
 (results Tryz.f7 tmps).run Tryz.prog W=.ok (.tuple #[vAy S,.int .i64 E]) W:=by
 have t0:=hb.cell 0 _ rfl;have t1:=hb.cell 1 _ rfl;have t2:=hb.cell 2 _ rfl;have t3:=hb.cell 3 _ rfl;have t4:=hb.cell 4 _ rfl;have t5:=hb.cell 5 _ rfl;have t6:=hb.cell 6 _ rfl;have t7:=hb.cell 7 _ rfl;clear hb;unfold vAy;simp [results,Tryz.results7,go_sem,h2,h5,t0,t1,t2,t3,t4,t5,t6,t7]
theorem cadd_any (N:NV) (S:NSl3) (L:LV) (s1 s2 s3 s4:SlV) (w:World) (h:NRead w (vAw w) N S) (hl:LRead w L s1 s2 s3 s4) (hz:NvSz N) (hm:NmSz N) (ht:L.dev.length≤1000000∧L.port.length≤1000000∧L.peer.length≤1000000∧L.far.length≤1000000):Calls Tryz.prog 7 #[vAy S,vBl L s1 s2 s3 s4] w (GotPut (laN N L) (laE N L) w):=by
 have UP:=Lib.hid (fun (w':World) (hb:Below w.heap.size w w')=>h.up hb);have UL:=Lib.hid (fun (w':World) (hb:Below w.heap.size w w')=>vBg hl hb)
 have RT:=fun (w':World) (hb:Below w.heap.size w w') (e:L.kind=3)=>cright_k L s1 s2 s3 s4 w' (vBg hl hb) (lvk3 e ht)
 have RN:=fun (w':World) (hb:Below w.heap.size w w')=>vDw N S w' (h.up hb) hz
 have CP:=fun (w':World) (hb:Below w.heap.size w w')=>xncopy_co N S w' (h.up hb) hz hm
 obtain ⟨b1,hb1⟩:∃b,rgB L=b:=⟨_,rfl⟩;obtain ⟨b2,hb2⟩:∃b,netB N=b:=⟨_,rfl⟩;have FI:=Lib.hid (show vGb N L 3=(decide (L.kind=3) && (b1 && b2)) by unfold vGb;rw [hb1,hb2]);rw [hb1] at RT;rw [hb2] at RN;unfold vAy at RN CP;unfold GotCo vAy at CP;replace RT:=Lib.hid RT;replace RN:=Lib.hid RN;replace CP:=Lib.hid CP;have HZ:=Lib.hid hz;have HT:=Lib.hid ht;have NLEN:=Lib.hid h.pt.len;have KLEN:=Lib.hid h.lk.len
 clear hb1 hb2 hz hm ht;clear h hl;unfold vAy;rw [vGw]
 go_enter Tryz.func7,Tryz.ntmps7
 go_upto_region 1 with fail
 generalize hw1:World.alloc _ _=w1;obtain ⟨B1,NB,LB,ql1,RB⟩:=pre_three (S:=S) (L:=L) (s1:=s1) (s2:=s2) (s3:=s3) (s4:=s4) hw1;obtain ⟨TB,TL⟩:=pre_tb (S:=S) (L:=L) (s1:=s1) (s2:=s2) (s3:=s3) (s4:=s4) hw1;replace TB:=Lib.hid TB;replace TL:=Lib.hid TL;clear hw1;replace B1:=Lib.hid B1;replace NB:=Lib.hid NB;replace LB:=Lib.hid LB;replace RB:=Lib.hid RB
 have KN:=Lib.hid (show ∀wx,Below w1.heap.size w1 wx→NF wx w.heap.size S∧(wx.cell? ⟨w.heap.size+1,0,none⟩=some (.int .i64 L.row)∧wx.cell? ⟨w.heap.size+1,1,none⟩=some (.int .i64 L.kind)∧wx.cell? ⟨w.heap.size+1,2,none⟩=some (.string (str L.dev))∧wx.cell? ⟨w.heap.size+1,3,none⟩=some (.string (str L.port))∧wx.cell? ⟨w.heap.size+1,4,none⟩=some (.string (str L.peer))∧wx.cell? ⟨w.heap.size+1,5,none⟩=some (.string (str L.far)))∧BoxF wx (w.heap.size+1) 17 (lc L s1 s2 s3 s4)∧NRead wx (vAw wx) N S∧LRead wx L s1 s2 s3 s4∧Below w.heap.size w wx from fun wx hx=>by
  have nb:=NB.out.below hx;have bx:=LB.out.below (by omega) hx;have b0:=B1.out.trans (hx.mono B1.out.size)
  exact ⟨⟨nb.c0,nb.c1,nb.c2,nb.c3,nb.c4,nb.c5,nb.c6,nb.c7⟩,⟨bx.cell 0 (by omega),bx.cell 1 (by omega),bx.cell 2 (by omega),bx.cell 3 (by omega),bx.cell 4 (by omega),bx.cell 5 (by omega)⟩,bx,UP.out _ b0,UL.out _ b0,b0⟩)
 have BS:=Lib.hid (Below.refl w1.heap.size w1);obtain ⟨⟨f0,f1,f2,f3,f4,f5,f6,f7⟩,⟨g0,g1,g2,g3,g4,g5⟩,lb_,_⟩:=KN.out w1 (Below.refl _ _)
 by_cases hk:L.kind=3
 rotate_left
 · have y0:(L.kind != 3)=true:=by simpa using hk
   have EV:=Lib.hid (la_2 (N:=N) (L:=L) (by rw [FI.out,decide_eq_false hk];rfl));have rb_:=RB.out.below BS.out;have rl_:=rb_.lt;have r0:=rb_.cell 0 (.slice none 0 0) rfl;have z0:=rb_.live 0;have r1:=rb_.cell 1 (.slice none 0 0) rfl;have z1:=rb_.live 1;have r2:=rb_.cell 2 (.slice none 0 0) rfl;have z2:=rb_.live 2;have r3:=rb_.cell 3 (.slice none 0 0) rfl;have z3:=rb_.live 3;have r4:=rb_.cell 4 (.slice none 0 0) rfl;have z4:=rb_.live 4;have r5:=rb_.cell 5 (.slice none 0 0) rfl;have z5:=rb_.live 5;have r6:=rb_.cell 6 (.slice none 0 0) rfl;have z6:=rb_.live 6;have r7:=rb_.cell 7 (.slice none 0 0) rfl;have z7:=rb_.live 7
   clear hk rb_;go_wp2;refine bodyPost_ret (vHb _ (st8 w1 (w.heap.size+2) NSl3.nil) NSl3.nil (w.heap.size+2) 2 rfl rfl ((RB.out.below BS.out).st8 NSl3.nil)) rfl ?_;rw [EV.out.1,EV.out.2];exact ⟨NSl3.nil,rfl,vCd _,Below.st8 (B1.out.trans (BS.out.mono B1.out.size)) (by omega) NSl3.nil⟩
 have y0:(L.kind != 3)=false:=by simpa using hk
 have HK:=Lib.hid hk;replace FI:=Lib.hid (show vGb N L 3=(b1 && b2) by rw [FI.out,decide_eq_true hk];rfl);clear hk
 cases b1
 · have EV:=Lib.hid (la_2 (N:=N) (L:=L) (by rw [FI.out];rfl))
   go_wp2_with (first
    |((with_reducible refine vAk ?hg (.tmp 3) ?ho (w.heap.size+1) ?hx L s1 s2 s3 s4 lb_ ?_);(case hg=>rfl);(case ho=>rfl);(case hx=>rfl))
    |(go_at_call 20;(with_reducible refine (RT.out _ B1.out HK.out).mono ?_);rintro e w2 ⟨rfl,b_⟩;have Y2:=Lib.hid b_;have rb_:=RB.out.below Y2.out;have rl_:=rb_.lt;have r0:=rb_.cell 0 (.slice none 0 0) rfl;have z0:=rb_.live 0;have r1:=rb_.cell 1 (.slice none 0 0) rfl;have z1:=rb_.live 1;have r2:=rb_.cell 2 (.slice none 0 0) rfl;have z2:=rb_.live 2;have r3:=rb_.cell 3 (.slice none 0 0) rfl;have z3:=rb_.live 3;have r4:=rb_.cell 4 (.slice none 0 0) rfl;have z4:=rb_.live 4;have r5:=rb_.cell 5 (.slice none 0 0) rfl;have z5:=rb_.live 5;have r6:=rb_.cell 6 (.slice none 0 0) rfl;have z6:=rb_.live 6;have r7:=rb_.cell 7 (.slice none 0 0) rfl;have z7:=rb_.live 7;clear b_ rb_))
   refine bodyPost_ret (vHb _ (st8 w2 (w.heap.size+2) NSl3.nil) NSl3.nil (w.heap.size+2) 2 rfl rfl ((RB.out.below Y2.out).st8 NSl3.nil)) rfl ?_;rw [EV.out.1,EV.out.2];exact ⟨NSl3.nil,rfl,vCd _,Below.st8 (B1.out.trans (Y2.out.mono B1.out.size)) (by omega) NSl3.nil⟩
 cases b2
 · have EV:=Lib.hid (la_2 (N:=N) (L:=L) (by rw [FI.out];rfl))
   go_wp2_with (first
    |((with_reducible refine vAk ?hg (.tmp 3) ?ho (w.heap.size+1) ?hx L s1 s2 s3 s4 lb_ ?_);(case hg=>rfl);(case ho=>rfl);(case hx=>rfl))
    |(go_at_call 20;(with_reducible refine (RT.out _ B1.out HK.out).mono ?_);rintro e w2 ⟨rfl,b_⟩;have Y2:=Lib.hid b_;have X2:=Lib.hid (vAa B1.out b_);obtain ⟨⟨f0,f1,f2,f3,f4,f5,f6,f7⟩,⟨g0,g1,g2,g3,g4,g5⟩,lb_,_⟩:=KN.out _ Y2.out;clear b_)
    |(go_at_call 14;(with_reducible refine (RN.out _ X2.out).mono ?_);rintro e w3 ⟨rfl,b_⟩;have Y3:=Lib.hid (vAa Y2.out b_);have rb_:=RB.out.below Y3.out;have rl_:=rb_.lt;have r0:=rb_.cell 0 (.slice none 0 0) rfl;have z0:=rb_.live 0;have r1:=rb_.cell 1 (.slice none 0 0) rfl;have z1:=rb_.live 1;have r2:=rb_.cell 2 (.slice none 0 0) rfl;have z2:=rb_.live 2;have r3:=rb_.cell 3 (.slice none 0 0) rfl;have z3:=rb_.live 3;have r4:=rb_.cell 4 (.slice none 0 0) rfl;have z4:=rb_.live 4;have r5:=rb_.cell 5 (.slice none 0 0) rfl;have z5:=rb_.live 5;have r6:=rb_.cell 6 (.slice none 0 0) rfl;have z6:=rb_.live 6;have r7:=rb_.cell 7 (.slice none 0 0) rfl;have z7:=rb_.live 7;clear b_ rb_))
   refine bodyPost_ret (vHb _ (st8 w3 (w.heap.size+2) NSl3.nil) NSl3.nil (w.heap.size+2) 2 rfl rfl ((RB.out.below Y3.out).st8 NSl3.nil)) rfl ?_;rw [EV.out.1,EV.out.2];exact ⟨NSl3.nil,rfl,vCd _,Below.st8 (B1.out.trans (Y3.out.mono B1.out.size)) (by omega) NSl3.nil⟩
 have HV:=Lib.hid (show vGb N L 3=true by rw [FI.out];rfl);have hn:=(fits_iff.1 HV.out).2.2
 have CF:=fun (dev port:List UInt8) (w':World) (hb:Below w.heap.size w w') (h1:dev.length≤1000000) (h2:port.length≤1000000)=>cfind_any N S dev port w' (UP.out w' hb) HZ.out hn (Nat.le_trans h1 (by decide)) (Nat.le_trans h2 (by decide))
 have FA:=fun (w':World) (hb:Below w.heap.size w w')=>CF L.dev L.port w' hb HT.out.1 HT.out.2.1
 have FB:=fun (w':World) (hb:Below w.heap.size w w')=>CF L.peer L.far w' hb HT.out.2.2.1 HT.out.2.2.2
 have CR:=fun (w':World) (hb:Below w.heap.size w w')=>crefusal_any N S (ndF N L.dev L.port) (ndF N L.peer L.far) w' (UP.out w' hb)
 have LE:=Lib.hid (fun (e:Int)=>la_e (N:=N) (L:=L) HV.out (e:=e));have L0:=Lib.hid (la_0 (N:=N) (L:=L) HV.out);have PA:=vEp (N:=N) (dev:=dvF N L.dev) (s:=L.port);have PB:=vEp (N:=N) (dev:=dvF N L.peer) (s:=L.far);rw [show ptF N (dvF N L.dev) L.port=ndF N L.dev L.port from rfl] at PA;rw [show ptF N (dvF N L.peer) L.far=ndF N L.peer L.far from rfl] at PB;have L20:=Lib.hid hn.zlk;have RI_:=Lib.hid (fun (e:laR N (ndF N L.dev L.port) (ndF N L.peer L.far)=0)=>la_inv ((la_r HV.out).trans e))
 clear hn CF;generalize ndF N L.dev L.port=a at *;generalize ndF N L.peer L.far=b at *
 have RA:=fun (w':World) (hb:Below w.heap.size w w')=>CR w' hb (PA.imp id (fun ⟨x,h1,h2,_⟩=>⟨x,h1,h2⟩)) (PB.imp id (fun ⟨x,h1,h2,_⟩=>⟨x,h1,h2⟩))
 clear CR PA PB;obtain ⟨E,hE⟩:∃E,laR N a b=E:=⟨_,rfl⟩;rw [hE] at RA;have EE:=Lib.hid hE;clear hE;unfold vAy at FA FB RA;replace FA:=Lib.hid FA;replace FB:=Lib.hid FB;replace RA:=Lib.hid RA
 go_upto_region 3 with (first
  |((with_reducible refine vAk ?hg (.tmp 3) ?ho (w.heap.size+1) ?hx L s1 s2 s3 s4 lb_ ?_);(case hg=>rfl);(case ho=>rfl);(case hx=>rfl))
  |(go_at_call 20;(with_reducible refine (RT.out _ B1.out HK.out).mono ?_);rintro e w2 ⟨rfl,b_⟩;have Y2:=Lib.hid b_;have X2:=Lib.hid (vAa B1.out b_);obtain ⟨⟨f0,f1,f2,f3,f4,f5,f6,f7⟩,⟨g0,g1,g2,g3,g4,g5⟩,lb_,_⟩:=KN.out _ Y2.out;clear b_)
  |(go_at_call 14;(with_reducible refine (RN.out _ X2.out).mono ?_);rintro e w3 ⟨rfl,b_⟩;have Y3:=Lib.hid (vAa Y2.out b_);have X3:=Lib.hid (vAa X2.out b_);obtain ⟨⟨f0,f1,f2,f3,f4,f5,f6,f7⟩,⟨g0,g1,g2,g3,g4,g5⟩,lb_,_⟩:=KN.out _ Y3.out;clear b_))
 have SK:=Lib.hid (show ∀wx,Below w3.heap.size w3 wx→(wx.cell? ⟨w.heap.size,0,none⟩=some (.slice S.dv.A S.dv.n S.dv.c)∧wx.cell? ⟨w.heap.size,1,none⟩=some (.slice S.pt.A S.pt.n S.pt.c)∧wx.cell? ⟨w.heap.size,2,none⟩=some (.slice S.lk.A S.lk.n S.lk.c)∧wx.cell? ⟨w.heap.size,3,none⟩=some (.slice S.dm.A S.dm.n S.dm.c)∧wx.cell? ⟨w.heap.size,4,none⟩=some (.slice S.st.A S.st.n S.st.c)∧wx.cell? ⟨w.heap.size,5,none⟩=some (.slice S.fl.A S.fl.n S.fl.c)∧wx.cell? ⟨w.heap.size,6,none⟩=some (.slice S.vr.A S.vr.n S.vr.c)∧wx.cell? ⟨w.heap.size,7,none⟩=some (.slice S.ir.A S.ir.n S.ir.c)∧wx.cell? ⟨w.heap.size+1,2,none⟩=some (.string (str L.dev))∧wx.cell? ⟨w.heap.size+1,3,none⟩=some (.string (str L.port))∧wx.cell? ⟨w.heap.size+1,4,none⟩=some (.string (str L.peer))∧wx.cell? ⟨w.heap.size+1,5,none⟩=some (.string (str L.far))) from fun wx hx=>by
  obtain ⟨⟨f0,f1,f2,f3,f4,f5,f6,f7⟩,⟨g0,g1,g2,g3,g4,g5⟩,_⟩:=KN.out wx (vAa Y3.out hx)
  exact ⟨f0,f1,f2,f3,f4,f5,f6,f7,g2,g3,g4,g5⟩)
 go_cut [6] (fun p wx=>∃b6,p=.pointer (some ⟨b6,0,none⟩)∧TBx wx b6 67 [.int .i64 a,.int .i64 b]∧w3.heap.size≤b6∧Below w3.heap.size w3 wx)
 case first=>
  have R0_:=Lib.hid (show Below w3.heap.size w3 w3.drew from vAd (Below.refl _ _) 1);have Z0_:=Lib.hid (show Below w.heap.size w w3.drew from vAd X3.out 1)
  go_region_held_law (fun w'=>(w'.cell? ⟨w.heap.size,0,none⟩=some (.slice S.dv.A S.dv.n S.dv.c)∧w'.cell? ⟨w.heap.size,1,none⟩=some (.slice S.pt.A S.pt.n S.pt.c)∧w'.cell? ⟨w.heap.size,2,none⟩=some (.slice S.lk.A S.lk.n S.lk.c)∧w'.cell? ⟨w.heap.size,3,none⟩=some (.slice S.dm.A S.dm.n S.dm.c)∧w'.cell? ⟨w.heap.size,4,none⟩=some (.slice S.st.A S.st.n S.st.c)∧w'.cell? ⟨w.heap.size,5,none⟩=some (.slice S.fl.A S.fl.n S.fl.c)∧w'.cell? ⟨w.heap.size,6,none⟩=some (.slice S.vr.A S.vr.n S.vr.c)∧w'.cell? ⟨w.heap.size,7,none⟩=some (.slice S.ir.A S.ir.n S.ir.c)∧w'.cell? ⟨w.heap.size+1,2,none⟩=some (.string (str L.dev))∧w'.cell? ⟨w.heap.size+1,3,none⟩=some (.string (str L.port))∧w'.cell? ⟨w.heap.size+1,4,none⟩=some (.string (str L.peer))∧w'.cell? ⟨w.heap.size+1,5,none⟩=some (.string (str L.far)))) ((refine SK.out _ ?_;(first|exact R0_.out|exact R0_.out.alloc R0_.out.size _|exact YB_.out|exact YB_.out.alloc YB_.out.size _|exact (YB_.out.setCell (p:=⟨_,0,none⟩) YA_.out.size _).setCell (p:=⟨_,1,none⟩) YA_.out.size _|exact (YB_.out.setCell (p:=⟨_,0,none⟩) R0_.out.size _).setCell (p:=⟨_,1,none⟩) R0_.out.size _|exact YA_.out|exact YA_.out.alloc YA_.out.size _))) (first
   |(go_at_call 21;(with_reducible refine (FA.out _ ?hb).mono ?_);(case hb=>(first|exact Z0_.out|exact Z0_.out.alloc Z0_.out.size _|exact ZB_.out|exact ZB_.out.alloc ZB_.out.size _|exact ZA_.out|exact ZA_.out.alloc ZA_.out.size _));rintro e wa ⟨rfl,b_⟩;have YA_:=Lib.hid (vAa (w:=w3) (show Below w3.heap.size w3 _ by (first|exact R0_.out|exact R0_.out.alloc R0_.out.size _|exact YB_.out|exact YB_.out.alloc YB_.out.size _|exact (YB_.out.setCell (p:=⟨_,0,none⟩) YA_.out.size _).setCell (p:=⟨_,1,none⟩) YA_.out.size _|exact (YB_.out.setCell (p:=⟨_,0,none⟩) R0_.out.size _).setCell (p:=⟨_,1,none⟩) R0_.out.size _|exact YA_.out|exact YA_.out.alloc YA_.out.size _)) b_);have ZA_:=Lib.hid (vAa (w:=w) (show Below w.heap.size w _ by (first|exact Z0_.out|exact Z0_.out.alloc Z0_.out.size _|exact ZB_.out|exact ZB_.out.alloc ZB_.out.size _|exact ZA_.out|exact ZA_.out.alloc ZA_.out.size _)) b_);(first|(have TN_:=Lib.hid (TN_.out.below b_))|(have TN_:=Lib.hid (show TBx _ w3.heap.size _ _ from (TBx.new w3.drew _ _).below b_))|(have TN_:=Lib.hid ((TBx.new _ _ _).below b_))|skip);(first|(have n0_:=TN_.out.cell 0 _ rfl;have n1_:=TN_.out.cell 1 _ rfl;have n2_:=TN_.out.live 0;have n3_:=TN_.out.live 1;have n4_:=TN_.out.lt)|skip);clear b_)
   |(go_at_call 21;(with_reducible refine (FB.out _ ?hb).mono ?_);(case hb=>(first|exact Z0_.out|exact Z0_.out.alloc Z0_.out.size _|exact ZB_.out|exact ZB_.out.alloc ZB_.out.size _|exact ZA_.out|exact ZA_.out.alloc ZA_.out.size _));rintro e wb ⟨rfl,b_⟩;have YB_:=Lib.hid (vAa (w:=w3) (show Below w3.heap.size w3 _ by (first|exact R0_.out|exact R0_.out.alloc R0_.out.size _|exact YB_.out|exact YB_.out.alloc YB_.out.size _|exact (YB_.out.setCell (p:=⟨_,0,none⟩) YA_.out.size _).setCell (p:=⟨_,1,none⟩) YA_.out.size _|exact (YB_.out.setCell (p:=⟨_,0,none⟩) R0_.out.size _).setCell (p:=⟨_,1,none⟩) R0_.out.size _|exact YA_.out|exact YA_.out.alloc YA_.out.size _)) b_);have ZB_:=Lib.hid (vAa (w:=w) (show Below w.heap.size w _ by (first|exact Z0_.out|exact Z0_.out.alloc Z0_.out.size _|exact ZB_.out|exact ZB_.out.alloc ZB_.out.size _|exact ZA_.out|exact ZA_.out.alloc ZA_.out.size _)) b_);(first|(have TN_:=Lib.hid (TN_.out.below b_))|(have TN_:=Lib.hid (show TBx _ w3.heap.size _ _ from (TBx.new w3.drew _ _).below b_))|(have TN_:=Lib.hid ((TBx.new _ _ _).below b_))|skip);(first|(have n0_:=TN_.out.cell 0 _ rfl;have n1_:=TN_.out.cell 1 _ rfl;have n2_:=TN_.out.live 0;have n3_:=TN_.out.live 1;have n4_:=TN_.out.lt)|skip);clear b_))
  all_goals (try go_wp2)
  all_goals go_meet
  all_goals (refine ⟨_,rfl,?_,?_,?_⟩)
  all_goals first
   |exact TBx.new _ _ _
   |exact (TN_.out.set 0 _).set 1 _
   |exact YB_.out.size
   |exact YA_.out.size
   |exact Nat.le_refl _
   |(first|exact R0_.out|exact R0_.out.alloc R0_.out.size _|exact YB_.out|exact YB_.out.alloc YB_.out.size _|exact (YB_.out.setCell (p:=⟨_,0,none⟩) YA_.out.size _).setCell (p:=⟨_,1,none⟩) YA_.out.size _|exact (YB_.out.setCell (p:=⟨_,0,none⟩) R0_.out.size _).setCell (p:=⟨_,1,none⟩) R0_.out.size _|exact YA_.out|exact YA_.out.alloc YA_.out.size _)
 case rest=>
 obtain ⟨b6,rfl,hsd,hb6,hbw⟩:=hcut;rename World=>w4;have SD:=Lib.hid hsd;have B6:=Lib.hid hb6;have Y4:=Lib.hid (vAa Y3.out hbw);have X4:=Lib.hid (vAa X3.out hbw);clear hsd hb6 hbw FA FB SK;obtain ⟨⟨f0,f1,f2,f3,f4,f5,f6,f7⟩,_⟩:=KN.out _ Y4.out;have t0:=SD.out.cell 0 _ rfl;have t1:=SD.out.cell 1 _ rfl;have tl:=SD.out.lt
 go_upto_region 5 with (go_at_call 22;(with_reducible refine (RA.out _ X4.out).mono ?_);rintro e w5 ⟨rfl,b_⟩;have Y5:=Lib.hid (vAa Y4.out b_);have X5:=Lib.hid (vAa X4.out b_);have SD5:=Lib.hid (SD.out.below b_);clear b_)
 clear f0 f1 f2 f3 f4 f5 f6 f7 t0 t1 tl
 by_cases e0:E=0
 rotate_left
 · have y1:(E != 0)=true:=by simpa using e0
   have EV:=Lib.hid (LE.out E EE.out e0);have rb_:=RB.out.below Y5.out;have rl_:=rb_.lt;have r0:=rb_.cell 0 (.slice none 0 0) rfl;have z0:=rb_.live 0;have r1:=rb_.cell 1 (.slice none 0 0) rfl;have z1:=rb_.live 1;have r2:=rb_.cell 2 (.slice none 0 0) rfl;have z2:=rb_.live 2;have r3:=rb_.cell 3 (.slice none 0 0) rfl;have z3:=rb_.live 3;have r4:=rb_.cell 4 (.slice none 0 0) rfl;have z4:=rb_.live 4;have r5:=rb_.cell 5 (.slice none 0 0) rfl;have z5:=rb_.live 5;have r6:=rb_.cell 6 (.slice none 0 0) rfl;have z6:=rb_.live 6;have r7:=rb_.cell 7 (.slice none 0 0) rfl;have z7:=rb_.live 7
   clear e0 rb_;go_wp2;refine bodyPost_ret (vHb _ (st8 w5 (w.heap.size+2) NSl3.nil) NSl3.nil (w.heap.size+2) E rfl rfl ((RB.out.below Y5.out).st8 NSl3.nil)) rfl ?_;rw [EV.out.1,EV.out.2];exact ⟨NSl3.nil,rfl,vCd _,Below.st8 (B1.out.trans (Y5.out.mono B1.out.size)) (by omega) NSl3.nil⟩
 subst e0;have EV:=Lib.hid (L0.out EE.out)
 obtain ⟨x,y,ea,eb,hx,hy,hd,k20⟩:∃x y:Nat,a=(x:Int)∧b=(y:Int)∧x<N.ports.length∧y<N.ports.length∧(N.ports.getD x PortV.zero).dev≠(N.ports.getD y PortV.zero).dev∧N.links.length<20:=by
  obtain ⟨_,_,x,y,ea,eb,hx,hy,hd,_,_,k20,_⟩:=RI_.out EE.out;exact ⟨x,y,ea,eb,hx,hy,hd,k20⟩
 subst ea;subst eb;have XY:=Lib.hid (show x≠y from fun e=>hd (by rw [e]));have KS:=Lib.hid (show N.links.length≤19 by omega)
 have X0:=fun w=>(vDe (x:Int) (y:Int) w).1
 have X1:=fun w=>(vDe (x:Int) (y:Int) w).2
 clear hd k20 LE L0 RI_ EE RA;have tb_:=TB.out.below Y5.out;have f0:=tb_.cell 0 (.slice S.dv.A S.dv.n S.dv.c) rfl;have z0:=tb_.live 0;have f1:=tb_.cell 1 (.slice S.pt.A S.pt.n S.pt.c) rfl;have z1:=tb_.live 1;have f2:=tb_.cell 2 (.slice S.lk.A S.lk.n S.lk.c) rfl;have z2:=tb_.live 2;have f3:=tb_.cell 3 (.slice S.dm.A S.dm.n S.dm.c) rfl;have z3:=tb_.live 3;have f4:=tb_.cell 4 (.slice S.st.A S.st.n S.st.c) rfl
 have z4:=tb_.live 4;have f5:=tb_.cell 5 (.slice S.fl.A S.fl.n S.fl.c) rfl;have z5:=tb_.live 5;have f6:=tb_.cell 6 (.slice S.vr.A S.vr.n S.vr.c) rfl;have z6:=tb_.live 6;have f7:=tb_.cell 7 (.slice S.ir.A S.ir.n S.ir.c) rfl;have z7:=tb_.live 7;have tl_:=tb_.lt;clear tb_
 go_upto_region 8 with (go_at_call 23;(with_reducible refine (CP.out _ X5.out).mono ?_);rintro e w6 ⟨U,rfl,hown,b_⟩;have OW:=Lib.hid hown;have Y6:=Lib.hid (vAa Y5.out b_);have X6:=Lib.hid (vAa X5.out b_);have SD6:=Lib.hid (SD5.out.below b_);have B56:=Lib.hid b_.size;have tb_:=TB.out.below Y6.out;have f0:=tb_.cell 0 (.slice S.dv.A S.dv.n S.dv.c) rfl;have z0:=tb_.live 0;have f1:=tb_.cell 1 (.slice S.pt.A S.pt.n S.pt.c) rfl;have z1:=tb_.live 1;have f2:=tb_.cell 2 (.slice S.lk.A S.lk.n S.lk.c) rfl;have z2:=tb_.live 2;have f3:=tb_.cell 3 (.slice S.dm.A S.dm.n S.dm.c) rfl;have z3:=tb_.live 3;have f4:=tb_.cell 4 (.slice S.st.A S.st.n S.st.c) rfl;have z4:=tb_.live 4;have f5:=tb_.cell 5 (.slice S.fl.A S.fl.n S.fl.c) rfl;have z5:=tb_.live 5;have f6:=tb_.cell 6 (.slice S.vr.A S.vr.n S.vr.c) rfl;have z6:=tb_.live 6;have f7:=tb_.cell 7 (.slice S.ir.A S.ir.n S.ir.c) rfl;have z7:=tb_.live 7;have tl_:=tb_.lt;clear tb_;clear hown b_)
 clear f0 f1 f2 f3 f4 f5 f6 f7 z0 z1 z2 z3 z4 z5 z6 z7 tl_;generalize hw7:World.setCell _ _ _=w7;have hw7:st8 w6 w.heap.size U=w7:=hw7;have LW:=Lib.hid (show w.heap.size+2<w3.heap.size from (RB.out.below Y3.out).lt)
 have A7:=Lib.hid (show LA w b6 w5.heap.size (lA L s1 s2 s3 s4).toList (x:Int) (y:Int) N U w7 from by
  have far:∀k,k≠w.heap.size→w7.heap[k]?=w6.heap[k]?:=fun k hk=>by rw [←hw7];exact vGv _ _ _ hk
  have hs:w7.heap.size=w6.heap.size:=by rw [←hw7];exact st8_size _ _ _
  have l1:=LW.out;have l2:=B6.out;have l3:=SD5.out.lt
  exact ⟨OW.out.far (q:=w.heap.size) (by rw [hs];exact Nat.le_refl _) far (by omega) (fun f=>f.elim),by rw [←hw7];exact (TB.out.below Y6.out).st8 U,(TL.out.below Y6.out).same (far _ (by omega)),(RB.out.below Y6.out).same (far _ (by omega)),SD6.out.same (far _ (by omega)),by rw [←hw7];exact Below.st8 X6.out (Nat.le_refl _) U,by omega,l3,by rw [hs];exact B56.out⟩)
 have KL:=Lib.hid (show (U.lk.n:Int)=(N.links.length:Int) by have:=OW.out.lk.len;omega);have NP:=Lib.hid (show 0<N.ports.length by omega);have ule:=OW.out.pt.le;have vle:=OW.out.lk.le;have pln:=OW.out.pt.len;clear hw7 OW SD6 SD5 Y6 B6 LW;obtain ⟨g,hg,_,hgl,hgz,hgc⟩:=A7.out.own.lcell NP.out;have HG:=Lib.hid hg;obtain ⟨vx,cx⟩:=hgc x hx;have zx:=hgz (x * 7+4);have t0:=A7.out.sd.cell 0 _ rfl;have t1:=A7.out.sd.cell 1 _ rfl
 have tl:=A7.out.sd.lt;have tb:=A7.out.box.lt;have u1:=A7.out.box.cell 1 (.slice U.pt.A U.pt.n U.pt.c) rfl;have u2:=A7.out.box.cell 2 (.slice U.lk.A U.lk.n U.lk.c) rfl;rw [hg] at u1
 have lx:(x:Int)<(U.pt.n:Int):=by omega
 have ly:(y:Int)<(U.pt.n:Int):=by omega
 clear hg hgz hgc;go_wp2;refine wp_loop_rounds 3 ?_;rw [rounds_succ];go_wp2;generalize hw8:World.setCell _ _ _=w8;have A8:=Lib.hid (show LA w b6 w5.heap.size (lA L s1 s2 s3 s4).toList (x:Int) (y:Int) {N with ports:=setL N.ports x (U.lk.n:Int)} U w8 from hw8▸A7.out.lput x hx g HG.out (U.lk.n:Int));clear hw8 cx zx t0 t1 tl tb u1 u2 hgl A7;obtain ⟨g2,hg2,_,hgl,hgz,hgc⟩:=A8.out.own.lcell (by show 0<(setL N.ports x _).length;rw [vFz];exact NP.out)
 have eg:g2=g:=by rw [HG.out] at hg2;injection hg2 with e;injection e with e _;exact e.symm
 subst eg;obtain ⟨vy,cy⟩:=hgc y (by show y<(setL N.ports x _).length;rw [vFz];exact hy);have zy:=hgz (y * 7+4);have tb:=A8.out.box.lt;have u1:=A8.out.box.cell 1 (.slice U.pt.A U.pt.n U.pt.c) rfl;have u2:=A8.out.box.cell 2 (.slice U.lk.A U.lk.n U.lk.c) rfl;rw [HG.out] at u1;clear hg2 hgz hgc;rw [rounds_succ];go_wp2;generalize hw9:World.setCell _ _ _=w9;obtain ⟨N9,hN9⟩:∃N9:NV,({N with ports:=setL (setL N.ports x (U.lk.n:Int)) y (U.lk.n:Int)}:NV)=N9:=⟨_,rfl⟩
 have A9:=Lib.hid (show LA w b6 w5.heap.size (lA L s1 s2 s3 s4).toList (x:Int) (y:Int) N9 U w9 from by
  rw [←hw9,←hN9]
  exact A8.out.lput y (by show y<(setL N.ports x _).length;rw [vFz];exact hy) g2 HG.out (U.lk.n:Int))
 have HN9:=Lib.hid (show ({N9 with links:=N9.links++[⟨L.row,(x:Int),(y:Int)⟩]}:NV)=vEm N L.row x y by rw [←hN9,KL.out];rfl);have KS9:=Lib.hid (show N9.links.length≤19 by rw [←hN9];exact KS.out);clear hw9 hN9 cy zy tb u1 u2 hgl A8;have t0:=A9.out.sd.cell 0 _ rfl;have t1:=A9.out.sd.cell 1 _ rfl;have tl:=A9.out.sd.lt;have tb:=A9.out.box.lt;have u2:=A9.out.box.cell 2 (.slice U.lk.A U.lk.n U.lk.c) rfl
 have wl_:=A9.out.line.lt;have gg0:=A9.out.line.cell 0 (.int .i64 L.row) rfl;rw [rounds_succ]
 go_upto_region 14 with (at_builtin;(refine wpList_ri1 linkR rfl (.tmp 60) (.tmp 68) 24 Tryz.underlying24 (Desc.of (by kernel_rfl)) (by decide) rfl U.lk (A9.out.own.lk.up (vAc w9 (.cells (vDl ⟨L.row,(x:Int),(y:Int)⟩).toArray 58))) vDd ?hF w9.heap.size (vDl ⟨L.row,(x:Int),(y:Int)⟩) ⟨L.row,(x:Int),(y:Int)⟩ ?hu ?hy ?hn ?hB rfl rfl ?_);(case hF=>exact fun b hb=>hb.elim);(case hu=>exact (TBx.new w9 (vDl ⟨L.row,(x:Int),(y:Int)⟩).toArray 58).range);(case hy=>rfl);(case hn=>have:=KS9.out;omega);(case hB=>have:=A9.out.lo;simp;omega);intro u' w10 hr hc hb;have R10:=Lib.hid hr;have C10:=Lib.hid ((ChgT.of_below (B:=w5.heap.size) (T:=58) (vAc w9 (.cells (vDl ⟨L.row,(x:Int),(y:Int)⟩).toArray 58))).trans hc);have B10:=Lib.hid (show Below w5.heap.size w9 w10 from ((Below.refl _ _).alloc (A9.out.lo.2.2) (.cells (vDl ⟨L.row,(x:Int),(y:Int)⟩).toArray 58)).trans hb);have T10:=Lib.hid (A9.out.box.chg C10.out (by decide));have v2:=T10.out.cell 2 (.slice U.lk.A U.lk.n U.lk.c) rfl;have y2:=T10.out.live 2;clear hr hc hb)
 generalize hw11:World.setCell _ _ _=w11;obtain ⟨U',hU'⟩:∃U':NSl3,({U with lk:=u'}:NSl3)=U':=⟨_,rfl⟩
 have A11:=Lib.hid (show LA w b6 w5.heap.size (lA L s1 s2 s3 s4).toList (x:Int) (y:Int) (vEm N L.row x y) U' w11 from by
  rw [←hw11,←hU',←HN9.out]
  exact A9.out.grow R10.out C10.out B10.out)
 clear hw11 hU' v2 y2 u2 t0 t1 tl tb wl_ gg0 R10 C10 B10 T10 A9;have tl_:=A11.out.box.lt;have rl_:=A11.out.res.lt;have t0:=A11.out.box.cell 0 (.slice U'.dv.A U'.dv.n U'.dv.c) rfl;have r0:=A11.out.res.cell 0 (.slice none 0 0) rfl;have z0:=A11.out.res.live 0;have t1:=A11.out.box.cell 1 (.slice U'.pt.A U'.pt.n U'.pt.c) rfl;have r1:=A11.out.res.cell 1 (.slice none 0 0) rfl;have z1:=A11.out.res.live 1;have t2:=A11.out.box.cell 2 (.slice U'.lk.A U'.lk.n U'.lk.c) rfl
 have r2:=A11.out.res.cell 2 (.slice none 0 0) rfl;have z2:=A11.out.res.live 2;have t3:=A11.out.box.cell 3 (.slice U'.dm.A U'.dm.n U'.dm.c) rfl;have r3:=A11.out.res.cell 3 (.slice none 0 0) rfl;have z3:=A11.out.res.live 3;have t4:=A11.out.box.cell 4 (.slice U'.st.A U'.st.n U'.st.c) rfl;have r4:=A11.out.res.cell 4 (.slice none 0 0) rfl;have z4:=A11.out.res.live 4;have t5:=A11.out.box.cell 5 (.slice U'.fl.A U'.fl.n U'.fl.c) rfl
 have r5:=A11.out.res.cell 5 (.slice none 0 0) rfl;have z5:=A11.out.res.live 5;have t6:=A11.out.box.cell 6 (.slice U'.vr.A U'.vr.n U'.vr.c) rfl;have r6:=A11.out.res.cell 6 (.slice none 0 0) rfl;have z6:=A11.out.res.live 6;have t7:=A11.out.box.cell 7 (.slice U'.ir.A U'.ir.n U'.ir.c) rfl;have r7:=A11.out.res.cell 7 (.slice none 0 0) rfl;have z7:=A11.out.res.live 7;go_wp2;refine bodyPost_ret (vHb _ (st8 w11 (w.heap.size+2) U') U' (w.heap.size+2) 0 rfl rfl (A11.out.res.st8 U')) rfl ?_
 rw [EV.out.1,EV.out.2];have l:=A11.out.lo;have ON:=A11.out.own.far (w':=st8 w11 (w.heap.size+2) U') (q:=w.heap.size+2) (by rw [st8_size];exact Nat.le_refl _) (fun b hb=>vGv _ _ _ hb) (by omega) (fun f=>f.elim);exact ⟨U',rfl,ON.read,Below.st8 A11.out.bel (by omega) U'⟩
end Go.Proofs.YtnpembgchmmbjaaGreat
