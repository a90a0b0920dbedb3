import Derived.Test.YtnpembgchmmbjaaGreatLb15
import Derived.Test.YtnpembgchmmbjaaGreatLb20
set_option maxRecDepth 100000
set_option maxHeartbeats 40000000
namespace Go.Proofs.YtnpembgchmmbjaaGreat
open Go.RowKit
noncomputable def otX (N:NV) (p:Int):Int:=if netB N=true then otC N p else -1
theorem idx_a {a b p:Int} (h:a=p):Lib.idxOf [a,b] p=0:=by simp [Lib.idxOf,Lib.idxFrom,h]
theorem idx_b {a b p:Int} (h:a≠p) (g:b=p):Lib.idxOf [a,b] p=1:=by simp [Lib.idxOf,Lib.idxFrom,h,g]
theorem xother_any (N:NV) (S:NSl3) (p:Int) (w:World) (h:NRead w (vAw w) N S) (hs:NvSz N):Calls Tryz.prog 15 #[vAy S,.int .i64 p] w fun e w'=>e=.returned (.int .i64 (otX N p))∧Below w.heap.size w w':=by
 have HP:=Lib.hid h.pt;have HK:=Lib.hid h.lk;have hle:=h.pt.le;have hcap:=h.pt.cap;have gle:=h.lk.le;have gcap:=h.lk.cap;have PL:=h.pt.len;have KL:=h.lk.len
 have XR:=fun (w':World) (hb:Below w.heap.size w w')=>vDw N S w' (h.up hb) hs
 obtain ⟨V,hV⟩:∃V,otX N p=V:=⟨_,rfl⟩;rw [hV];have E:=Lib.hid (show V=if netB N=true then otC N p else -1 from hV.symm);obtain ⟨b,hb⟩:∃b,netB N=b:=⟨_,rfl⟩;have HN:=Lib.hid (show b=true→NetOk N from fun g=>(vHd N).1 (hb.trans g));rw [hb] at XR E;unfold vAy at XR ⊢;replace XR:=Lib.hid XR;clear h hs hV hb;have NB:=Lib.hid (NBox.new w S 31)
 go_enter Tryz.func15,Tryz.ntmps15
 go_upto_region 1 with fail
 obtain ⟨w1,hw1⟩:∃w1,w.alloc (.cells (nA S) 31)=w1:=⟨_,rfl⟩;have B1:=Lib.hid (show Below w.heap.size w w1 by rw [←hw1];exact vAc _ _);rw [hw1] at NB ⊢;clear hw1;obtain ⟨c0,c1,c2,c3,c4,c5,c6,c7,ql⟩:=NB.out
 cases b
 · have EV:=Lib.hid (show V= -1 by rw [E.out];rfl)
   clear E HN;go_wp2_with (go_at_call 14;(with_reducible refine (XR.out _ B1.out).mono ?_);rintro e W ⟨rfl,hb⟩;have B0:=Lib.hid (vAa B1.out hb);have YB:=Lib.hid (NB.out.below hb);obtain ⟨_,c1,c2,_,_,_,_,_,ql⟩:=YB.out;clear hb);go_ret;exact ⟨by rw [EV.out];rfl,B0.out⟩
 have hn:=HN.out rfl;have OX:=Lib.hid (fun (x:Nat) (hx:x<N.ports.length)=>hn.pt x hx);clear HN hn
 by_cases g0:p<0
 · have EV:=Lib.hid (show V= -1 by rw [E.out,if_pos rfl];unfold otC;rw [if_neg];rintro ⟨g,_⟩;have:=(vBb _ _).1 g;omega)
   clear E OX;go_wp2_with (go_at_call 14;(with_reducible refine (XR.out _ B1.out).mono ?_);rintro e W ⟨rfl,hb⟩;have B0:=Lib.hid (vAa B1.out hb);have YB:=Lib.hid (NB.out.below hb);obtain ⟨_,c1,c2,_,_,_,_,_,ql⟩:=YB.out;clear hb);go_ret;exact ⟨by rw [EV.out];rfl,B0.out⟩
 by_cases g1:p<(S.pt.n:Int)
 rotate_left
 · have z1:p≥(S.pt.n:Int):=by omega
   have EV:=Lib.hid (show V= -1 by rw [E.out,if_pos rfl];unfold otC;rw [if_neg];rintro ⟨g,_⟩;have:=(vBb _ _).1 g;omega);clear E OX;go_wp2_with (go_at_call 14;(with_reducible refine (XR.out _ B1.out).mono ?_);rintro e W ⟨rfl,hb⟩;have B0:=Lib.hid (vAa B1.out hb);have YB:=Lib.hid (NB.out.below hb);obtain ⟨_,c1,c2,_,_,_,_,_,ql⟩:=YB.out;clear hb);go_ret;exact ⟨by rw [EV.out];rfl,B0.out⟩
 have z1:¬p≥(S.pt.n:Int):=by omega
 obtain ⟨x,rfl⟩:∃x:Nat,p=(x:Int):=⟨p.toNat,by omega⟩
 have hxl:x<S.pt.n:=by omega
 have hx2:x<N.ports.length:=by omega
 have PX:=OX.out x hx2
 have E2:V=if (N.ports.getD x PortV.zero).link≠-1 then (if (N.links.getD (N.ports.getD x PortV.zero).link.toNat LinkV.zero).a=(x:Int) then (N.links.getD (N.ports.getD x PortV.zero).link.toNat LinkV.zero).b else (N.links.getD (N.ports.getD x PortV.zero).link.toNat LinkV.zero).a) else -1:=by
  rw [E.out,if_pos rfl];unfold otC lkO;have pl:plB (x:Int) (N.ports.length:Int)=true:=(vBb _ _).2 ⟨by omega,by omega⟩
  by_cases g:(ptA N (x:Int)).link= -1
  · rw [if_neg (fun e=>e.2 g),if_neg (fun e=>e g)]
  · rw [if_pos ⟨pl,g⟩];exact (if_pos (c:=(N.ports.getD x PortV.zero).link≠-1) g).symm
 replace E:=Lib.hid E2;clear E2 g1 OX;obtain ⟨bp,op,vp,ep,_,hbp,⟨s,rfl,_⟩,rp⟩:=vAh HP.out x hxl PortV.zero;generalize N.ports.getD x PortV.zero=P at *;have RP:=vAb rp (B1.out.block bp hbp);have p4:=RP 4 _ rfl;rw [show op+x * portR.n=op+x * 7 from rfl] at p4
 have lx:(x:Int)<(S.pt.n:Int):=by omega
 rw [ep] at c1 XR;have hbp1:bp<w1.heap.size:=Nat.lt_of_lt_of_le hbp B1.out.size;clear rp RP;have KP:=Lib.hid (show ∀wx,Below w1.heap.size w1 wx→wx.cell? ⟨w.heap.size,1,none⟩=some (.slice (some ⟨bp,op,none⟩) S.pt.n S.pt.c)∧wx.cell? ⟨w.heap.size,2,none⟩=some (.slice S.lk.A S.lk.n S.lk.c)∧wx.cell? ⟨bp,op+x * 7+4,none⟩=some (.int .i64 P.link)∧Below w.heap.size w wx from fun wx hx=>⟨(hx.cell (p:=⟨_,1,none⟩) ql).trans c1,(hx.cell (p:=⟨_,2,none⟩) ql).trans c2,(hx.cell (p:=⟨bp,_,none⟩) hbp1).trans p4,B1.out.trans (hx.mono B1.out.size)⟩)
 by_cases g2:P.link= -1
 · have z2:(P.link == -1)=true:=by simpa using g2
   have EV:=Lib.hid (show V= -1 by rw [E.out,if_neg (fun e=>e g2)]);clear E PX;go_wp2_with (go_at_call 14;(with_reducible refine (XR.out _ B1.out).mono ?_);rintro e W ⟨rfl,hb⟩;obtain ⟨c1,c2,p4,hB0⟩:=KP.out _ hb;have B0:=Lib.hid hB0;clear hb hB0);go_ret;exact ⟨by rw [EV.out];rfl,B0.out⟩
 have z2:(P.link == -1)=false:=by simpa using g2
 replace E:=Lib.hid (show V=if (N.links.getD P.link.toNat LinkV.zero).a=(x:Int) then (N.links.getD P.link.toNat LinkV.zero).b else (N.links.getD P.link.toNat LinkV.zero).a by rw [E.out,if_pos g2]);obtain ⟨l1,l2⟩:=PX.link.resolve_left g2;obtain ⟨y,hy,hyl⟩:=vHo l1;rw [show P.link.toNat=y by rw [hy];rfl] at E l2;clear PX l1;rw [hy] at z2 KP p4
 have hyl2:y<S.lk.n:=by omega
 obtain ⟨bl,ol,vl,el,_,hbl,hvl,rl⟩:=vAh HK.out y hyl2 LinkV.zero;have hvl:vl=vDl (N.links.getD y LinkV.zero):=hvl;subst hvl;generalize N.links.getD y LinkV.zero=D at *
 have ly:(y:Int)<(S.lk.n:Int):=by omega
 have RL:=vAb rl (B1.out.block bl hbl);have d0:=RL 0 _ rfl;have d1:=RL 1 _ rfl;have d2:=RL 2 _ rfl;simp only [Nat.add_zero] at d0;rw [show ol+y * linkR.n=ol+y * 3 from rfl] at d0 d1 d2;have hbl1:bl<w1.heap.size:=Nat.lt_of_lt_of_le hbl B1.out.size;rw [el] at c2 KP XR;have KD:=Lib.hid (show ∀wx,Below w1.heap.size w1 wx→wx.cell? ⟨bl,ol+y * 3,none⟩=some (.int .i64 D.row)∧wx.cell? ⟨bl,ol+y * 3+1,none⟩=some (.int .i64 D.a)∧wx.cell? ⟨bl,ol+y * 3+2,none⟩=some (.int .i64 D.b) from fun wx hx=>⟨(hx.cell (p:=⟨bl,_,none⟩) hbl1).trans d0,(hx.cell (p:=⟨bl,_,none⟩) hbl1).trans d1,(hx.cell (p:=⟨bl,_,none⟩) hbl1).trans d2⟩)
 clear rl RL el;have L2:=Lib.hid l2;clear l2 hy g2
 go_upto_region 3 with (go_at_call 14;(with_reducible refine (XR.out _ B1.out).mono ?_);rintro e W ⟨rfl,hb⟩;have HB:=Lib.hid hb;obtain ⟨c1,c2,p4,hB0⟩:=KP.out _ hb;clear hb)
 obtain ⟨d0,d1,d2⟩:=KD.out _ HB.out;have hq1:w.heap.size<W.heap.size:=Nat.lt_of_lt_of_le ql HB.out.size;have hq2:bp<W.heap.size:=Nat.lt_of_lt_of_le hbp1 HB.out.size;have hq3:bl<W.heap.size:=Nat.lt_of_lt_of_le hbl1 HB.out.size
 go_region
 go_upto_region 5 with fail
 obtain ⟨W2,hW2⟩:∃W2,((W.alloc (Obj.cells #[.int .i64 D.row,.int .i64 D.a,.int .i64 D.b] 58)).alloc (Obj.cells #[.int .i64 D.a,.int .i64 D.b] 67)).drew=W2:=⟨_,rfl⟩;have C2:=(Cs.new (W.alloc (Obj.cells #[.int .i64 D.row,.int .i64 D.a,.int .i64 D.b] 58)) [.int .i64 D.a,.int .i64 D.b] 67).below (vAd (Below.refl _ _) 1);rw [show (W.alloc (Obj.cells #[.int .i64 D.row,.int .i64 D.a,.int .i64 D.b] 58)).heap.size=W.heap.size+1 by simp] at C2
 have B2:=vAd (vAn W (Obj.cells #[.int .i64 D.row,.int .i64 D.a,.int .i64 D.b] 58) (Obj.cells #[.int .i64 D.a,.int .i64 D.b] 67)) 1;have C2:Cs W2 (W.heap.size+1) [.int .i64 D.a,.int .i64 D.b]:=hW2▸C2;have B2:=Lib.hid (vAa (vAa B1.out HB.out) (show Below W.heap.size W W2 from hW2▸B2));rw [hW2];clear hW2 d0 d1 d2 p4 c1 c2 c0 c3 c4 c5 c6 c7 hq1 hq2 hq3 KD KP XR HP HK NB hB0
 have m0:=C2.1 0 _ rfl;have m1:=C2.1 1 _ rfl
 have IX:=Tryz.slices_Index_int (W.heap.size+1) 0 2 2 [D.a,D.b] (x:Int) W2 (by simp) (by decide) (fun j hj=>by
  match j,hj with
  |0,_=>simpa using m0
  |1,_=>simpa using m1)
 rw [show [D.a,D.b].take 2=[D.a,D.b] from rfl] at IX;have C3:=Lib.hid C2;clear C2
 by_cases ha:D.a=(x:Int)
 · have EV:=Lib.hid (show V=D.b by rw [E.out,if_pos ha])
   rw [idx_a ha] at IX;replace IX:=Lib.hid IX;clear ha E L2;go_wp2_with (go_at_call 67;(with_reducible refine IX.out.mono ?_);rintro e w5 ⟨rfl,hw5⟩;subst hw5);go_ret;exact ⟨by rw [EV.out];rfl,B2.out⟩
 · have EV:=Lib.hid (show V=D.a by rw [E.out,if_neg ha])
   rw [idx_b ha (L2.out.resolve_left ha)] at IX;replace IX:=Lib.hid IX;clear ha E L2;go_wp2_with (go_at_call 67;(with_reducible refine IX.out.mono ?_);rintro e w5 ⟨rfl,hw5⟩;subst hw5);go_ret;exact ⟨by rw [EV.out];rfl,B2.out⟩
theorem vFn (P Q:PortV) (s t:Sl3) (w:World):(Instr.index 120 (.agg #[.int .i64 P.row,.int .i64 P.dev,.int .i64 P.native,.int .i64 P.cost,.int .i64 P.link,.string (str P.name),.slice s.A s.n s.c,.int .i64 Q.row,.int .i64 Q.dev,.int .i64 Q.native,.int .i64 Q.cost,.int .i64 Q.link,.string (str Q.name),.slice t.A t.n t.c]) (.int .i64 0)).run Tryz.prog w=.ok (.agg #[.int .i64 P.row,.int .i64 P.dev,.int .i64 P.native,.int .i64 P.cost,.int .i64 P.link,.string (str P.name),.slice s.A s.n s.c]) w∧(Instr.index 120 (.agg #[.int .i64 P.row,.int .i64 P.dev,.int .i64 P.native,.int .i64 P.cost,.int .i64 P.link,.string (str P.name),.slice s.A s.n s.c,.int .i64 Q.row,.int .i64 Q.dev,.int .i64 Q.native,.int .i64 Q.cost,.int .i64 Q.link,.string (str Q.name),.slice t.A t.n t.c]) (.int .i64 1)).run Tryz.prog w=.ok (.agg #[.int .i64 Q.row,.int .i64 Q.dev,.int .i64 Q.native,.int .i64 Q.cost,.int .i64 Q.link,.string (str Q.name),.slice t.A t.n t.c]) w:=by
 constructor
 · show Sem.run _ _ _=Result.ok _ _
   kernel_rfl
 · show Sem.run _ _ _=Result.ok _ _
   kernel_rfl
theorem across_any (P Q:PortV) (s t:Sl3) (v:Int) (w:World) (h:RSl (Rdr.int .i64) w (vAw w) s.A s.n s.c P.tagged) (g:RSl (Rdr.int .i64) w (vAw w) t.A t.n t.c Q.tagged):Calls Tryz.prog 68 #[.agg #[.int .i64 P.row,.int .i64 P.dev,.int .i64 P.native,.int .i64 P.cost,.int .i64 P.link,.string (str P.name),.slice s.A s.n s.c,.int .i64 Q.row,.int .i64 Q.dev,.int .i64 Q.native,.int .i64 Q.cost,.int .i64 Q.link,.string (str Q.name),.slice t.A t.n t.c],.int .i64 v] w fun e w'=>e=.returned (.int .i64 (acF P Q v))∧Below w.heap.size w w':=by
 have CA:=fun (w':World) (hb:Below w.heap.size w w')=>vHx s.A s.n s.c P.tagged v w' (vBa (vAp h hb))
 have CB:=fun (w':World) (hb:Below w.heap.size w w')=>vHx t.A t.n t.c Q.tagged v w' (vBa (vAp g hb))
 have X0:=fun w=>(vFn P Q s t w).1
 have X1:=fun w=>(vFn P Q s t w).2
 obtain ⟨V,hV⟩:∃V,acF P Q v=V:=⟨_,rfl⟩;rw [hV];have E:=Lib.hid (show V=acF P Q v from hV.symm);clear hV h g;have B0:=Lib.hid (vAc w (.cells #[.int .i64 P.row,.int .i64 P.dev,.int .i64 P.native,.int .i64 P.cost,.int .i64 P.link,.string (str P.name),.slice s.A s.n s.c,.int .i64 Q.row,.int .i64 Q.dev,.int .i64 Q.native,.int .i64 Q.cost,.int .i64 Q.link,.string (str Q.name),.slice t.A t.n t.c] 120))
 have hs0:w.heap.size<(w.alloc (.cells #[.int .i64 P.row,.int .i64 P.dev,.int .i64 P.native,.int .i64 P.cost,.int .i64 P.link,.string (str P.name),.slice s.A s.n s.c,.int .i64 Q.row,.int .i64 Q.dev,.int .i64 Q.native,.int .i64 Q.cost,.int .i64 Q.link,.string (str Q.name),.slice t.A t.n t.c] 120)).heap.size:=by simp
 obtain ⟨b1,hb1⟩:∃b,memB P.tagged v=b:=⟨_,rfl⟩;obtain ⟨b2,hb2⟩:∃b,memB Q.tagged v=b:=⟨_,rfl⟩;have EB:=Lib.hid (show (¬(v≠0∧v=P.native))→V=if b1=true∧b2=true then v else 0 from fun g=>by rw [E.out,←hb1,←hb2];unfold acF;rw [if_neg g]);have EN:=Lib.hid (show (v≠0∧v=P.native)→V=Q.native from fun g=>by rw [E.out];unfold acF;rw [if_pos g]);rw [hb1] at CA;rw [hb2] at CB;replace CA:=Lib.hid CA;replace CB:=Lib.hid CB
 clear hb1 hb2 E
 by_cases h1:v≠0∧v=P.native
 · have z1:(v != 0)=true:=by simpa using h1.1
   have z2:(v == P.native)=true:=by simpa using h1.2
   have EV:=Lib.hid (EN.out h1);clear h1 EN EB
   go_enter Tryz.func68,Tryz.ntmps68
   go_wp2;go_ret;exact ⟨by rw [EV.out];rfl,B0.out⟩
 replace EB:=Lib.hid (EB.out h1);clear EN
 by_cases h0:v=0
 · have z1:(v != 0)=false:=by simpa using h0
   clear h0 h1
   go_enter Tryz.func68,Tryz.ntmps68
   go_wp2;refine wp_loop_rounds 3 ?_;rw [rounds_succ]
   cases b1
   · have EV:=Lib.hid (show V=0 by rw [EB.out];rfl)
     clear EB;go_wp2_with ((go_at_call 100;(with_reducible refine (CA.out _ (vAn _ _ _)).mono ?_);rintro e w5 ⟨rfl,hw5⟩;subst hw5));go_ret;exact ⟨by rw [EV.out];rfl,vAn _ _ _⟩
   go_wp2_with ((go_at_call 100;(with_reducible refine (CA.out _ (vAn _ _ _)).mono ?_);rintro e w5 ⟨rfl,hw5⟩;subst hw5));rw [rounds_succ]
   cases b2
   · have EV:=Lib.hid (show V=0 by rw [EB.out];rfl)
     clear EB;go_wp2_with ((go_at_call 100;(with_reducible refine (CB.out _ (vBn _ _ _ _)).mono ?_);rintro e w5 ⟨rfl,hw5⟩;subst hw5));go_ret;exact ⟨by rw [EV.out];rfl,vBn _ _ _ _⟩
   go_wp2_with ((go_at_call 100;(with_reducible refine (CB.out _ (vBn _ _ _ _)).mono ?_);rintro e w5 ⟨rfl,hw5⟩;subst hw5));rw [rounds_succ];have EV:=Lib.hid (show V=v by rw [EB.out];rfl);clear EB;go_wp2;go_ret;exact ⟨by rw [EV.out];rfl,vBn _ _ _ _⟩
 · have z1:(v != 0)=true:=by simpa using h0
   have z2:(v == P.native)=false:=by simpa using (fun e=>h1 ⟨h0,e⟩)
   clear h0 h1
   go_enter Tryz.func68,Tryz.ntmps68
   go_wp2;refine wp_loop_rounds 3 ?_;rw [rounds_succ]
   cases b1
   · have EV:=Lib.hid (show V=0 by rw [EB.out];rfl)
     clear EB;go_wp2_with ((go_at_call 100;(with_reducible refine (CA.out _ (vAn _ _ _)).mono ?_);rintro e w5 ⟨rfl,hw5⟩;subst hw5));go_ret;exact ⟨by rw [EV.out];rfl,vAn _ _ _⟩
   go_wp2_with ((go_at_call 100;(with_reducible refine (CA.out _ (vAn _ _ _)).mono ?_);rintro e w5 ⟨rfl,hw5⟩;subst hw5));rw [rounds_succ]
   cases b2
   · have EV:=Lib.hid (show V=0 by rw [EB.out];rfl)
     clear EB;go_wp2_with ((go_at_call 100;(with_reducible refine (CB.out _ (vBn _ _ _ _)).mono ?_);rintro e w5 ⟨rfl,hw5⟩;subst hw5));go_ret;exact ⟨by rw [EV.out];rfl,vBn _ _ _ _⟩
   go_wp2_with ((go_at_call 100;(with_reducible refine (CB.out _ (vBn _ _ _ _)).mono ?_);rintro e w5 ⟨rfl,hw5⟩;subst hw5));rw [rounds_succ];have EV:=Lib.hid (show V=v by rw [EB.out];rfl);clear EB;go_wp2;go_ret;exact ⟨by rw [EV.out];rfl,vBn _ _ _ _⟩
noncomputable def crX (N:NV) (p v:Int):Int:=if netB N=true then crT N p v else 0
theorem xcross_any (N:NV) (S:NSl3) (p v:Int) (w:World) (h:NRead w (vAw w) N S) (hs:NvSz N):Calls Tryz.prog 18 #[vAy S,.int .i64 p,.int .i64 v] w fun e w'=>e=.returned (crV (otX N p) (crX N p v))∧Below w.heap.size w w':=by
 have HP:=Lib.hid h.pt;have hle:=h.pt.le;have hcap:=h.pt.cap;have PL:=h.pt.len
 have XO:=fun (w':World) (hb:Below w.heap.size w w')=>xother_any N S p w' (h.up hb) hs
 have HQ:=Lib.hid (show otX N p≠-1→∃x y:Nat,p=(x:Int)∧otX N p=(y:Int)∧x<N.ports.length∧y<N.ports.length∧crX N p v=acF (N.ports.getD x PortV.zero) (N.ports.getD y PortV.zero) v from fun g=>by
  have hb:netB N=true:=by
   unfold otX at g
   by_cases e:netB N=true
   · exact e
   · rw [if_neg e] at g;exact absurd rfl g
  have e:otX N p=otC N p:=by unfold otX;rw [if_pos hb]
  rw [e] at g ⊢;obtain ⟨i1,i2,_⟩:=ot_ok ((vHd N).1 hb) g;obtain ⟨x,hx,hxl⟩:=vHo i1;obtain ⟨y,hy,hyl⟩:=vHo i2;refine ⟨x,y,hx,hy,hxl,hyl,?_⟩;unfold crX;rw [if_pos hb,cr_ac g,hy,hx]
  rfl)
 have H0:=Lib.hid (show otX N p= -1→crX N p v=0 from fun g=>by
  unfold crX
  by_cases e:netB N=true
  · rw [if_pos e];unfold crT;rw [if_pos];unfold otX at g;rw [if_pos e] at g;exact g
  · rw [if_neg e])
 generalize crX N p v=T at *;generalize otX N p=q at *;unfold vAy at XO ⊢;replace XO:=Lib.hid XO;have NB:=Lib.hid (NBox.new w S 31);clear h hs
 go_enter Tryz.func18,Tryz.ntmps18
 go_upto_region 1 with fail
 obtain ⟨w1,hw1⟩:∃w1,w.alloc (.cells (nA S) 31)=w1:=⟨_,rfl⟩;have B1:=Lib.hid (show Below w.heap.size w w1 by rw [←hw1];exact vAc _ _);rw [hw1] at NB ⊢;clear hw1;obtain ⟨c0,c1,c2,c3,c4,c5,c6,c7,ql⟩:=NB.out
 go_upto_region 2 with (go_at_call 15;(with_reducible refine (XO.out _ B1.out).mono ?_);rintro e W ⟨rfl,hb⟩;have B0:=Lib.hid (vAa B1.out hb);have YB:=Lib.hid (NB.out.below hb);clear hb)
 clear c0 c1 c2 c3 c4 c5 c6 c7 ql;rename World=>W;obtain ⟨_,c1,_,_,_,_,_,_,ql⟩:=YB.out
 by_cases g0:q= -1
 · have EV:=Lib.hid (show T=0 from H0.out g0)
   subst g0;clear HQ H0;go_wp2;exact bodyPost_ret (v:=.tuple #[.int .i64 0,.int .i64 0,.bool false]) (by simp [results,Tryz.results18,go_sem]) rfl ⟨by rw [crV_no EV.out],B0.out⟩
 have z1:(q == -1)=false:=by simpa using g0
 obtain ⟨x,y,rfl,rfl,hx,hy,ht⟩:=HQ.out g0;have ET:=Lib.hid ht
 have hxl:x<S.pt.n:=by omega
 have hyl:y<S.pt.n:=by omega
 clear ht g0 HQ H0 XO PL hx hy
 go_upto_region 4 with fail
 obtain ⟨bp,op,vp,ep,_,hbp,⟨s,rfl,lp⟩,rp⟩:=vAh HP.out x hxl PortV.zero;obtain ⟨bq,oq,vq,eq_,_,_,⟨t,rfl,lq⟩,rq⟩:=vAh HP.out y hyl PortV.zero;rw [ep] at eq_
 injection eq_ with eq_
 injection eq_ with h1 h2
 subst h1 h2;have RP:=vAb rp (B0.out.block bp hbp);have RQ:=vAb rq (B0.out.block bp hbp);have p0:=RP 0 _ rfl;have q0:=RQ 0 _ rfl;have p1:=RP 1 _ rfl;have q1:=RQ 1 _ rfl;have p2:=RP 2 _ rfl;have q2:=RQ 2 _ rfl;have p3:=RP 3 _ rfl;have q3:=RQ 3 _ rfl;have p4:=RP 4 _ rfl;have q4:=RQ 4 _ rfl;have p5:=RP 5 _ rfl;have q5:=RQ 5 _ rfl;have p6:=RP 6 _ rfl;have q6:=RQ 6 _ rfl;simp only [Nat.add_zero] at p0 q0
 rw [show op+x * portR.n=op+x * 7 from rfl] at p0 p1 p2 p3 p4 p5 p6;rw [show op+y * portR.n=op+y * 7 from rfl] at q0 q1 q2 q3 q4 q5 q6
 have lx:(x:Int)<(S.pt.n:Int):=by omega
 have ly:(y:Int)<(S.pt.n:Int):=by omega
 generalize N.ports.getD x PortV.zero=P at *;generalize N.ports.getD y PortV.zero=Q at *
 have AX:=fun (w':World) (hb:Below w.heap.size w w')=>across_any P Q s t v w' (vAp lp hb) (vAp lq hb)
 rw [←ET.out] at AX;replace AX:=Lib.hid AX;rw [ep] at c1;have hbp1:bp<W.heap.size:=Nat.lt_of_lt_of_le hbp B0.out.size;clear rp rq RP RQ ep lp lq ET;have SK:=Lib.hid (show ∀wx,Below W.heap.size W wx→(wx.cell? ⟨w.heap.size,1,none⟩=some (.slice (some ⟨bp,op,none⟩) S.pt.n S.pt.c)∧wx.cell? ⟨bp,op+x * 7,none⟩=some (.int .i64 P.row)∧wx.cell? ⟨bp,op+x * 7+1,none⟩=some (.int .i64 P.dev)∧wx.cell? ⟨bp,op+x * 7+2,none⟩=some (.int .i64 P.native)∧wx.cell? ⟨bp,op+x * 7+3,none⟩=some (.int .i64 P.cost)∧wx.cell? ⟨bp,op+x * 7+4,none⟩=some (.int .i64 P.link)∧wx.cell? ⟨bp,op+x * 7+5,none⟩=some (.string (str P.name))∧wx.cell? ⟨bp,op+x * 7+6,none⟩=some (.slice s.A s.n s.c)∧wx.cell? ⟨bp,op+y * 7,none⟩=some (.int .i64 Q.row)∧wx.cell? ⟨bp,op+y * 7+1,none⟩=some (.int .i64 Q.dev)∧wx.cell? ⟨bp,op+y * 7+2,none⟩=some (.int .i64 Q.native)∧wx.cell? ⟨bp,op+y * 7+3,none⟩=some (.int .i64 Q.cost)∧wx.cell? ⟨bp,op+y * 7+4,none⟩=some (.int .i64 Q.link)∧wx.cell? ⟨bp,op+y * 7+5,none⟩=some (.string (str Q.name))∧wx.cell? ⟨bp,op+y * 7+6,none⟩=some (.slice t.A t.n t.c))∧Below w.heap.size w wx from fun wx hx=>⟨⟨(hx.cell (p:=⟨_,1,none⟩) ql).trans c1,(hx.cell (p:=⟨bp,_,none⟩) hbp1).trans p0,(hx.cell (p:=⟨bp,_,none⟩) hbp1).trans p1,(hx.cell (p:=⟨bp,_,none⟩) hbp1).trans p2,(hx.cell (p:=⟨bp,_,none⟩) hbp1).trans p3,(hx.cell (p:=⟨bp,_,none⟩) hbp1).trans p4,(hx.cell (p:=⟨bp,_,none⟩) hbp1).trans p5,(hx.cell (p:=⟨bp,_,none⟩) hbp1).trans p6,(hx.cell (p:=⟨bp,_,none⟩) hbp1).trans q0,(hx.cell (p:=⟨bp,_,none⟩) hbp1).trans q1,(hx.cell (p:=⟨bp,_,none⟩) hbp1).trans q2,(hx.cell (p:=⟨bp,_,none⟩) hbp1).trans q3,(hx.cell (p:=⟨bp,_,none⟩) hbp1).trans q4,(hx.cell (p:=⟨bp,_,none⟩) hbp1).trans q5,(hx.cell (p:=⟨bp,_,none⟩) hbp1).trans q6⟩,B0.out.trans (hx.mono B0.out.size)⟩)
 clear p0 q0 p1 q1 p2 q2 p3 q3 p4 q4 p5 q5 p6 q6 c1;refine vAe (fun wx=>Below W.heap.size W wx) (by kernel_rfl) (by kernel_rfl) ((Below.refl _ _).drew) ?_
 repeat
  first
   |(refine Seq.pass rfl ?_;simp only [Act.put,List.setIfInBounds_toArray,List.set_cons_zero,List.set_cons_succ])
   |(refine Seq.run ?_ rfl (fun wx hx=>?_) ?_
     rotate_left
     · obtain ⟨⟨c1,p0,p1,p2,p3,p4,p5,p6,q0,q1,q2,q3,q4,q5,q6⟩,hBx⟩:=SK.out wx hx
       go_simp
       first
        |(refine StepRun.val ?_;exact hx)
        |(refine StepRun.call (v:=.int .i64 T) ?_;(with_reducible refine Calls.mono (AX.out _ hBx) ?_);rintro e w' ⟨rfl,hb⟩;exact ⟨rfl,vAa hx hb⟩)
     simp only [Act.put,List.setIfInBounds_toArray,List.set_cons_zero,List.set_cons_succ])
 refine Seq.last (fun w7 h7=>?_);have B7:=Lib.hid (SK.out _ h7).2
 by_cases t0:T=0
 · have z2:(T == 0)=true:=by simpa using t0
   have EV:=Lib.hid t0;clear t0;go_wp2;exact bodyPost_ret (v:=.tuple #[.int .i64 0,.int .i64 0,.bool false]) (by simp [results,Tryz.results18,go_sem]) rfl ⟨by rw [crV_no EV.out],B7.out⟩
 have z2:(T == 0)=false:=by simpa using t0
 have EV:=Lib.hid t0;clear t0;go_wp2;exact bodyPost_ret (v:=.tuple #[.int .i64 y,.int .i64 T,.bool true]) (by simp [results,Tryz.results18,go_sem]) rfl ⟨by rw [crV_yes EV.out],B7.out⟩
def dmV (T d:Int):Value:=if T=0 then .tuple #[.int .i64 0,.bool false] else .tuple #[.int .i64 d,.bool true]
theorem dmV_no {d T:Int} (h:T=0):dmV T d=.tuple #[.int .i64 0,.bool false]:=if_pos h
theorem dmV_yes {d T:Int} (h:T≠0):dmV T d=.tuple #[.int .i64 d,.bool true]:=if_neg h
theorem xdomain17_any (N:NV) (S:NSl3) (p v:Int) (w:World) (h:NRead w (vAw w) N S) (hs:NvSz N):Calls Tryz.prog 19 #[vAy S,.int .i64 p,.int .i64 v] w fun e w'=>e=.returned (dmV (crX N p v) (atF N (ptA N (otX N p)).dev (crX N p v)))∧Below w.heap.size w w':=by
 have HP:=Lib.hid h.pt;have hle:=h.pt.le;have hcap:=h.pt.cap;have PL:=h.pt.len
 have XC:=fun (w':World) (hb:Below w.heap.size w w')=>xcross_any N S p v w' (h.up hb) hs
 have HQ:crX N p v≠0→∃y:Nat,otX N p=(y:Int)∧y<N.ports.length∧NetOk N:=fun g=>by
  have hb:netB N=true:=by
   unfold crX at g
   by_cases e:netB N=true
   · exact e
   · rw [if_neg e] at g;exact absurd rfl g
  have hn:=(vHd N).1 hb
  have e:otX N p=otC N p:=by unfold otX;rw [if_pos hb]
  rw [e];unfold crX at g;rw [if_pos hb] at g;obtain ⟨_,i2,_⟩:=ot_ok hn (cr_no g);obtain ⟨y,h1,h2⟩:=vHo i2;exact ⟨y,h1,h2,hn⟩
 have U:=Lib.hid (fun (w':World) (hb:Below w.heap.size w w')=>h.up hb);have NB:=Lib.hid (NBox.new w S 31);clear h
 by_cases t0:crX N p v=0
 · rw [crV_no t0] at XC
   have EV:=Lib.hid (dmV_no (d:=atF N (ptA N (otX N p)).dev (crX N p v)) t0);unfold vAy at XC ⊢;replace XC:=Lib.hid XC;clear t0 HQ hs
   go_enter Tryz.func19,Tryz.ntmps19
   go_wp2_with (go_at_call 18;(with_reducible refine (XC.out _ (vAc _ _)).mono ?_);rintro e W ⟨rfl,hb⟩;have B0:=Lib.hid (vAa (vAc _ _) hb);clear hb);exact bodyPost_ret (v:=.tuple #[.int .i64 0,.bool false]) (by simp [results,Tryz.results19,go_sem]) rfl ⟨by rw [EV.out],B0.out⟩
 rw [crV_yes t0] at XC;obtain ⟨y,hq,hy,hn⟩:=HQ t0
 have DM:=fun (w':World) (hb:Below w.heap.size w w')=>xndomain_any N S (N.ports.getD y PortV.zero).dev (crX N p v) w' (U.out w' hb) hs hn
 have EV:=Lib.hid (show dmV (crX N p v) (atF N (ptA N (otX N p)).dev (crX N p v))=.tuple #[.int .i64 (atF N (N.ports.getD y PortV.zero).dev (crX N p v)),.bool true] by rw [dmV_yes t0,hq];rfl);rw [hq] at XC
 have hyl:y<S.pt.n:=by omega
 obtain ⟨bq,oq,vq,eq_,_,hbq,⟨t,rfl,_⟩,rq⟩:=vAh HP.out y hyl PortV.zero;generalize atF N (N.ports.getD y PortV.zero).dev (crX N p v)=D at *;generalize N.ports.getD y PortV.zero=Q at *;generalize crX N p v=T at *;unfold vAy at XC DM ⊢;replace XC:=Lib.hid XC;replace DM:=Lib.hid DM;clear t0 HQ hs PL hq hn;have EQ:=Lib.hid eq_;clear eq_
 go_enter Tryz.func19,Tryz.ntmps19
 go_upto_region 1 with fail
 obtain ⟨w1,hw1⟩:∃w1,w.alloc (.cells (nA S) 31)=w1:=⟨_,rfl⟩;have B1:=Lib.hid (show Below w.heap.size w w1 by rw [←hw1];exact vAc _ _);rw [hw1] at NB ⊢;clear hw1;obtain ⟨c0,c1,c2,c3,c4,c5,c6,c7,ql⟩:=NB.out
 go_upto_region 4 with (go_at_call 18;(with_reducible refine (XC.out _ B1.out).mono ?_);rintro e W ⟨rfl,hb⟩;have B0:=Lib.hid (vAa B1.out hb);have YB:=Lib.hid (NB.out.below hb);clear hb)
 clear c0 c1 c2 c3 c4 c5 c6 c7 ql;rename World=>W;have RQ:=vAb rq (B0.out.block bq hbq);have q1:=RQ 1 _ rfl;rw [show oq+y * portR.n=oq+y * 7 from rfl] at q1
 have ly:(y:Int)<(S.pt.n:Int):=by omega
 have hbq1:bq<W.heap.size:=Nat.lt_of_lt_of_le hbq B0.out.size
 have SK:=Lib.hid (show ∀wx,Below W.heap.size W wx→(NF wx w.heap.size S)∧wx.cell? ⟨bq,oq+y * 7+1,none⟩=some (.int .i64 Q.dev)∧Below w.heap.size w wx from fun wx hx=>by
  have nb:=YB.out.below hx
  exact ⟨⟨nb.c0,nb.c1,nb.c2,nb.c3,nb.c4,nb.c5,nb.c6,nb.c7⟩,(hx.cell (p:=⟨bq,_,none⟩) hbq1).trans q1,B0.out.trans (hx.mono B0.out.size)⟩)
 unfold NF at SK;rw [EQ.out] at SK DM;clear q1 rq RQ EQ XC;refine vAe (fun wx=>Below W.heap.size W wx) (by kernel_rfl) (by kernel_rfl) ((Below.refl _ _).drew) ?_
 repeat
  first
   |(refine Seq.pass rfl ?_;simp only [Act.put,List.setIfInBounds_toArray,List.set_cons_zero,List.set_cons_succ])
   |(refine Seq.run ?_ rfl (fun wx hx=>?_) ?_
     rotate_left
     · obtain ⟨⟨f0,f1,f2,f3,f4,f5,f6,f7⟩,q1,hBx⟩:=SK.out wx hx
       go_simp
       first
        |(refine StepRun.val ?_;exact hx)
        |(refine StepRun.call (v:=.int .i64 D) ?_;(with_reducible refine Calls.mono (DM.out _ hBx) ?_);rintro e w' ⟨rfl,hb⟩;exact ⟨rfl,vAa hx hb⟩)
     simp only [Act.put,List.setIfInBounds_toArray,List.set_cons_zero,List.set_cons_succ])
 refine Seq.last (fun w7 h7=>?_);have B7:=Lib.hid (SK.out _ h7).2.2;go_wp2;exact bodyPost_ret (v:=.tuple #[.int .i64 D,.bool true]) (by simp [results,Tryz.results19,go_sem]) rfl ⟨by rw [EV.out],B7.out⟩
end Go.Proofs.YtnpembgchmmbjaaGreat
