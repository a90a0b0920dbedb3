import Derived.Test.YtnpembgchmmbjaaGreatLb16
set_option maxRecDepth 100000
set_option maxHeartbeats 40000000
namespace Go.Proofs.YtnpembgchmmbjaaGreat
open Go.RowKit
theorem known_any (N:NV) (S:NSl3) (P:PortV) (q0 q1:Nat) (j v:Int) (w:World) (h:NRead w (vAw w) N S) (nc:Cs w q0 (vCs S)) (c1:w.cell? ⟨q1,1,none⟩=some (.int .i64 P.dev)):
 Calls Tryz.prog 103 #[.int .i64 j,.int .i64 v,.pointer (some ⟨q0,0,none⟩),.pointer (some ⟨q1,0,none⟩)] w fun e w'=>e=.returned (.bool (decide (atF N P.dev v≠-1)))∧Below w.heap.size w w':=by
 have FD:=find_any N S P.dev v w h;have ql1:q1<w.heap.size:=World.block_lt_of_cell? w _ c1;have ql:=nc.2;have n:=nc.1;have f0:=n 0 _ rfl;have f1:=n 1 _ rfl;have f2:=n 2 _ rfl;have f3:=n 3 _ rfl;have f4:=n 4 _ rfl;have f5:=n 5 _ rfl;have f6:=n 6 _ rfl;have f7:=n 7 _ rfl;unfold vAy at FD;generalize atF N P.dev v=F at *;have FD:=Lib.hid FD;clear h nc n
 by_cases hF:F= -1
 · have z:(F != -1)=false:=by simpa using hF
   rw [decide_eq_false (show ¬F≠-1 from fun g=>g hF)];clear hF
   go_enter Tryz.func103,Tryz.ntmps103
   go_wp2_with (go_at_call 104;(with_reducible refine FD.out.mono ?_);rintro e w1 ⟨rfl,hb⟩;have B:=Lib.hid hb;clear hb);go_ret;exact ⟨rfl,B.out⟩
 · have z:(F != -1)=true:=by simpa using hF
   rw [decide_eq_true (show F≠-1 from hF)];clear hF
   go_enter Tryz.func103,Tryz.ntmps103
   go_wp2_with (go_at_call 104;(with_reducible refine FD.out.mono ?_);rintro e w1 ⟨rfl,hb⟩;have B:=Lib.hid hb;clear hb);go_ret;exact ⟨rfl,B.out⟩
theorem enters_port1:vBr Tryz.prog 103:=vBh Tryz.func103 (by kernel_rfl) rfl
def ptR (N:NV) (i:Nat) (P:PortV):Bool:=decide (0≤P.native) && (decide (P.native≤4094) && (rsB P.tagged 4094 && (!memB P.tagged P.native && (!(decide (P.native=0) && decide (P.tagged.length=0)) && ((decide (P.link= -1) || (plB P.link (N.links.length:Int) && (decide ((N.links.getD P.link.toNat LinkV.zero).a=(i:Int)) || decide ((N.links.getD P.link.toNat LinkV.zero).b=(i:Int))))) &&
 ((decide (P.native=0) || decide (atF N P.dev P.native≠-1)) && (List.range P.tagged.length).all (fun j=>decide (atF N P.dev (P.tagged.getD j 0)≠-1))))))))
theorem port_any (N:NV) (S:NSl3) (i:Nat) (P:PortV) (s:Sl3) (w:World) (h:NRead w (vAw w) N S) (l1:RSl (Rdr.int .i64) w (vAw w) s.A s.n s.c P.tagged):Calls Tryz.prog 49 #[vAy S,.int .i64 (i:Int),.agg #[.int .i64 P.row,.int .i64 P.dev,.int .i64 P.native,.int .i64 P.cost,.int .i64 P.link,.string (str P.name),.slice s.A s.n s.c]] w fun e w'=>e=.returned (.bool (ptR N i P))∧Below w.heap.size w w':=by
 have HL:=Lib.hid h.lk;have UPN:=Lib.hid (fun (w':World) (hb:Below w.heap.size w w')=>h.up hb);have hle:=h.lk.le;have hcap:=h.lk.cap;have lkl:=h.lk.len;have tgl:=l1.len;have sle:=l1.le;have scap:=l1.cap
 have PK:=fun w'=>place_link P.link S.lk.A S.lk.n S.lk.c hle hcap w'
 have RS:=fun (w':World) (hb:Below w.heap.size w w')=>rises_any s.A s.n s.c P.tagged 4094 w' (vBa (vAp l1 hb))
 have CT:=fun (w':World) (hb:Below w.heap.size w w')=>vHx s.A s.n s.c P.tagged P.native w' (vBa (vAp l1 hb))
 have KN:=Lib.hid (fun (j v:Int) (w':World) (hb:Below w.heap.size w w') (q0 q1:Nat) (nc:Cs w' q0 (vCs S)) (c1:w'.cell? ⟨q1,1,none⟩=some (.int .i64 P.dev))=>known_any N S P q0 q1 j v w' (h.up hb) nc c1);obtain ⟨V,E⟩:∃V,ptR N i P=V:=⟨_,rfl⟩;rw [E];unfold ptR at E;obtain ⟨vr,hr⟩:∃v,rsB P.tagged 4094=v:=⟨_,rfl⟩;obtain ⟨vc,hc⟩:∃v,memB P.tagged P.native=v:=⟨_,rfl⟩;obtain ⟨vk,hk⟩:∃v,decide (atF N P.dev P.native≠-1)=v:=⟨_,rfl⟩
 obtain ⟨va,hva⟩:∃v,(List.range P.tagged.length).all (fun j=>decide (atF N P.dev (P.tagged.getD j 0)≠-1))=v:=⟨_,rfl⟩;obtain ⟨vp,hp⟩:∃v,plB P.link (S.lk.n:Int)=v:=⟨_,rfl⟩;rw [lkl,hr,hc,hk,hva,hp,tgl] at E;rw [hr] at RS;rw [hc] at CT;rw [hp] at PK;have HP:=Lib.hid hp
 have AL:=Lib.hid (fun (w':World) (hb:Below w.heap.size w w') (q0 q1:Nat) (nc:Cs w' q0 (vCs S)) (c1:w'.cell? ⟨q1,1,none⟩=some (.int .i64 P.dev))=>
  all_int 103 #[.pointer (some ⟨q0,0,none⟩),.pointer (some ⟨q1,0,none⟩)] enters_port1 s.A s.n s.c P.tagged w' (vBa (vAp l1 hb)) (fun j=>decide (atF N P.dev (P.tagged.getD j 0)≠-1)) (fun k w2 hk hb2=>by
   rw [app22]
   exact known_any N S P q0 q1 k _ w2 ((h.up hb).up hb2) (nc.below hb2) ((hb2.cell (p:=⟨q1,1,none⟩) (World.block_lt_of_cell? w' _ c1)).trans c1)) va (by
    rw [←hva,List.all_eq_true,tgl]
    exact ⟨fun g k hk=>g k (List.mem_range.2 hk),fun g k hk=>g k (List.mem_range.1 hk)⟩))
 have KN:=Lib.hid (fun (w':World) (hb:Below w.heap.size w w') (q0 q1:Nat) (nc:Cs w' q0 (vCs S)) (c1:w'.cell? ⟨q1,1,none⟩=some (.int .i64 P.dev))=>hk▸KN.out 0 P.native w' hb q0 q1 nc c1);have E:=Lib.hid E;have RS:=Lib.hid RS;have CT:=Lib.hid CT;have PK:=Lib.hid PK;clear h l1 lkl tgl hr hc hk hva hp;unfold vAy
 go_enter Tryz.func49,Tryz.ntmps49
 go_upto_region 1 with fail
 obtain ⟨W,hW⟩:∃W,(w.alloc (.cells (nA S) 31)).alloc (.cells #[.int .i64 P.row,.int .i64 P.dev,.int .i64 P.native,.int .i64 P.cost,.int .i64 P.link,.string (str P.name),.slice s.A s.n s.c] 52)=W:=⟨_,rfl⟩;have NC:=vIh S _ _ [.int .i64 P.row,.int .i64 P.dev,.int .i64 P.native,.int .i64 P.cost,.int .i64 P.link,.string (str P.name),.slice s.A s.n s.c] hW;rw [hW];clear hW
 have KQ:=Lib.hid (show ∀wx,Below W.heap.size W wx→(NF wx w.heap.size S)∧(wx.cell? ⟨w.heap.size+1,0,none⟩=some (.int .i64 P.row)∧wx.cell? ⟨w.heap.size+1,1,none⟩=some (.int .i64 P.dev)∧wx.cell? ⟨w.heap.size+1,2,none⟩=some (.int .i64 P.native)∧wx.cell? ⟨w.heap.size+1,3,none⟩=some (.int .i64 P.cost)∧wx.cell? ⟨w.heap.size+1,4,none⟩=some (.int .i64 P.link)∧wx.cell? ⟨w.heap.size+1,5,none⟩=some (.string (str P.name))∧wx.cell? ⟨w.heap.size+1,6,none⟩=some (.slice s.A s.n s.c))∧Below w.heap.size w wx from fun wx hx=>by
  have n:=(NC.1.below hx).1;have r:=(NC.2.1.below hx).1
  exact ⟨⟨n 0 _ rfl,n 1 _ rfl,n 2 _ rfl,n 3 _ rfl,n 4 _ rfl,n 5 _ rfl,n 6 _ rfl,n 7 _ rfl⟩,⟨r 0 _ rfl,r 1 _ rfl,r 2 _ rfl,r 3 _ rfl,r 4 _ rfl,r 5 _ rfl,r 6 _ rfl⟩,NC.2.2.trans (hx.mono NC.2.2.size)⟩)
 obtain ⟨⟨f0,f1,f2,f3,f4,f5,f6,f7⟩,⟨g0,g1,g2,g3,g4,g5,g6⟩,hB0⟩:=KQ.out W (Below.refl _ _);have ql:w.heap.size<W.heap.size:=NC.1.2;have ql2:w.heap.size+1<W.heap.size:=NC.2.1.2;have B0:=Lib.hid hB0;have NCS:=Lib.hid (show ∀wx,Below W.heap.size W wx→Cs wx w.heap.size (vCs S) from fun wx hx=>NC.1.below hx);clear hB0 NC
 by_cases t1:0≤P.native
 rotate_left
 · have z1:P.native<0:=by omega
   have EV:=Lib.hid (show V=false by rw [←E.out,decide_eq_false t1];rfl);clear t1;go_wp2;go_ret;exact ⟨by rw [EV.out];rfl,B0.out⟩
 have z1:¬P.native<0:=by omega
 by_cases t2:P.native≤4094
 rotate_left
 · have z2:4094<P.native:=by omega
   have EV:=Lib.hid (show V=false by rw [←E.out,decide_eq_false t2];simp);clear t1 t2;go_wp2;go_ret;exact ⟨by rw [EV.out];rfl,B0.out⟩
 have z2:¬4094<P.native:=by omega
 have E3:=E.out;rw [decide_eq_true t1,decide_eq_true t2] at E3;have E:=Lib.hid E3;clear E3 t1 t2
 cases vr with
 |false=>
  have EV:=Lib.hid (show V=false by rw [←E.out];rfl);go_wp2_with ((go_at_call 63;(with_reducible refine (RS.out _ B0.out).mono ?_);rintro e w1 ⟨rfl,hd⟩;have Y:=Lib.hid (show Below W.heap.size W w1 from Below.drew (Below.refl _ _) hd);have X:=Lib.hid (KQ.out _ Y.out).2.2;obtain ⟨⟨f0,f1,f2,f3,f4,f5,f6,f7⟩,⟨g0,g1,g2,g3,g4,g5,g6⟩,_⟩:=KQ.out _ Y.out;clear hd));go_ret;exact ⟨by rw [EV.out];rfl,X.out⟩
 |true=>
 cases vc with
 |true=>
  have EV:=Lib.hid (show V=false by rw [←E.out];rfl);go_wp2_with (first|(go_at_call 63;(with_reducible refine (RS.out _ B0.out).mono ?_);rintro e w1 ⟨rfl,hd⟩;have Y:=Lib.hid (show Below W.heap.size W w1 from Below.drew (Below.refl _ _) hd);have X:=Lib.hid (KQ.out _ Y.out).2.2;obtain ⟨⟨f0,f1,f2,f3,f4,f5,f6,f7⟩,⟨g0,g1,g2,g3,g4,g5,g6⟩,_⟩:=KQ.out _ Y.out;clear hd)|(go_at_call 100;(with_reducible refine (CT.out _ X.out).mono ?_);rintro e w2 ⟨rfl,hw2⟩;subst hw2))
  go_ret;exact ⟨by rw [EV.out];rfl,X.out⟩
 |false=>
 have E3:=E.out;simp only [Bool.true_and,Bool.not_false] at E3;have E:=Lib.hid E3;clear E3
 go_upto_region 3 with (first|(go_at_call 63;(with_reducible refine (RS.out _ B0.out).mono ?_);rintro e w1 ⟨rfl,hd⟩;have Y:=Lib.hid (show Below W.heap.size W w1 from Below.drew (Below.refl _ _) hd);have X:=Lib.hid (KQ.out _ Y.out).2.2;obtain ⟨⟨f0,f1,f2,f3,f4,f5,f6,f7⟩,⟨g0,g1,g2,g3,g4,g5,g6⟩,_⟩:=KQ.out _ Y.out;clear hd)|(go_at_call 100;(with_reducible refine (CT.out _ X.out).mono ?_);rintro e w2 ⟨rfl,hw2⟩;subst hw2))
 by_cases t3:P.native=0
 · have z3:(P.native == 0)=true:=by simpa using t3
   by_cases t4:s.n=0
   · have z4:((s.n:Int) == 0)=true:=by simp;omega
     have EV:=Lib.hid (show V=false by rw [←E.out,decide_eq_true t3,decide_eq_true t4];rfl);clear t3 t4;go_wp2;go_ret;exact ⟨by rw [EV.out];rfl,X.out⟩
   have z4:((s.n:Int) == 0)=false:=by simp;omega
   have E3:=E.out;rw [decide_eq_true t3,decide_eq_false t4] at E3;simp only [Bool.and_false,Bool.not_false,Bool.true_and,Bool.true_or] at E3;have E:=Lib.hid E3;clear E3 t3 t4
   go_upto_region 5 with fail
   by_cases t5:P.link= -1
   · have z5:(P.link != -1)=false:=by simpa using t5
     have E3:=E.out;rw [decide_eq_true t5] at E3;simp only [Bool.true_or,Bool.true_and] at E3;have E:=Lib.hid E3;clear E3 t5
     have EV:=Lib.hid (show va=V by (rw [←E.out]<;>rfl))
     go_wp2_with (first|(go_at_call 105;(with_reducible refine (AL.out _ X.out _ _ (NCS.out _ Y.out) ?hd).mono ?_);(case hd=>exact (KQ.out _ Y.out).2.1.2.1);rintro e w5 ⟨rfl,hb5⟩;have X5:=Lib.hid (vAa X.out hb5);clear hb5)|fail);go_ret;exact ⟨by rw [←EV.out];rfl,X5.out⟩
   have z5:(P.link != -1)=true:=by simpa using t5
   have E3:=E.out;rw [decide_eq_false t5] at E3;simp only [Bool.false_or] at E3;have E:=Lib.hid E3;clear E3 t5
   cases vp with
   |false=>
    have EV:=Lib.hid (show V=false by (rw [←E.out]<;>rfl))
    go_wp2_with ((go_at_call 101;(with_reducible refine (PK.out _).mono ?_);rintro e wp ⟨rfl,hwp⟩;subst hwp));go_ret;exact ⟨by rw [EV.out];rfl,X.out⟩
   |true=>
   obtain ⟨a1,a2⟩:=(vBb _ _).1 HP.out;obtain ⟨x,hx⟩:=Int.eq_ofNat_of_zero_le a1
   have hxl:x<S.lk.n:=by omega
   obtain ⟨bp,op,vp,ep,_,hbp,hvs,rp⟩:=vAh HL.out x hxl LinkV.zero;have hvs:vp=vDl (N.links.getD x LinkV.zero):=hvs;subst hvs;have RP:=vAb rp (X.out.block bp hbp);have E3:=E.out;rw [show P.link.toNat=x by rw [hx];rfl] at E3;generalize N.links.getD x LinkV.zero=L at *;have d0:=RP 0 _ rfl;have d1:=RP 1 _ rfl;have d2:=RP 2 _ rfl;simp only [Nat.add_zero] at d0;rw [show op+x * linkR.n=op+x * 3 from rfl] at d0 d1 d2
   have lx:(x:Int)<(S.lk.n:Int):=by omega
   have PK2:=PK.out;rw [hx,ep] at PK2;rw [ep] at f2;rw [hx] at g4 z5;have PK:=Lib.hid PK2;obtain ⟨vj,hj⟩:∃v,(decide (L.a=(i:Int)) || decide (L.b=(i:Int)))=v:=⟨_,rfl⟩
   have JN:=fun w'=>joins_any L (i:Int) w'
   rw [hj] at JN E3;have JN:=Lib.hid JN;have E:=Lib.hid E3;have HX:=Lib.hid hx;have EP:=Lib.hid ep;clear rp RP a1 a2 hx ep hj E3 PK2
   cases vj with
   |false=>
    have EV:=Lib.hid (show V=false by (rw [←E.out]<;>rfl))
    go_wp2_with (first|(go_at_call 101;(with_reducible refine (PK.out _).mono ?_);rintro e wp ⟨rfl,hwp⟩;subst hwp)|(go_at_call 102;(with_reducible refine (JN.out _).mono ?_);rintro e w3 ⟨rfl,hb3⟩;have X3:=Lib.hid (vAa X.out hb3);have Y3:=Lib.hid (vAa Y.out hb3);clear hb3));go_ret;exact ⟨by rw [EV.out];rfl,X3.out⟩
   |true=>
   have E3:=E.out;simp only [Bool.true_and,Bool.and_true] at E3;have E:=Lib.hid E3;clear E3
   have EV:=Lib.hid (show va=V by (rw [←E.out]<;>rfl))
   go_wp2_with (first|(go_at_call 101;(with_reducible refine (PK.out _).mono ?_);rintro e wp ⟨rfl,hwp⟩;subst hwp)|(go_at_call 102;(with_reducible refine (JN.out _).mono ?_);rintro e w3 ⟨rfl,hb3⟩;have X3:=Lib.hid (vAa X.out hb3);have Y3:=Lib.hid (vAa Y.out hb3);obtain ⟨⟨f0,f1,f2,f3,f4,f5,f6,f7⟩,⟨g0,g1,g2,g3,g4,g5,g6⟩,_⟩:=KQ.out _ Y3.out;clear hb3)|(go_at_call 105;(with_reducible refine (AL.out _ X3.out _ _ (NCS.out _ Y3.out) ?hd).mono ?_);(case hd=>exact (KQ.out _ Y3.out).2.1.2.1);rintro e w5 ⟨rfl,hb5⟩;have X5:=Lib.hid (vAa X3.out hb5);clear hb5)|fail)
   go_ret;exact ⟨by rw [←EV.out];rfl,X5.out⟩
 have z3:(P.native == 0)=false:=by simpa using t3
 have E3:=E.out;rw [decide_eq_false t3] at E3;simp only [Bool.false_and,Bool.not_false,Bool.true_and,Bool.false_or] at E3;have E:=Lib.hid E3;clear E3 t3
 go_upto_region 5 with fail
 by_cases t5:P.link= -1
 · have z5:(P.link != -1)=false:=by simpa using t5
   have E3:=E.out;rw [decide_eq_true t5] at E3;simp only [Bool.true_or,Bool.true_and] at E3;have E:=Lib.hid E3;clear E3 t5
   cases vk with
   |false=>
    have EV:=Lib.hid (show V=false by (rw [←E.out]<;>rfl))
    go_wp2_with (first|(go_at_call 103;(with_reducible refine (KN.out _ X.out _ _ (NCS.out _ Y.out) ?hc).mono ?_);(case hc=>exact (KQ.out _ Y.out).2.1.2.1);rintro e w4 ⟨rfl,hb4⟩;have X4:=Lib.hid (vAa X.out hb4);have Y4:=Lib.hid (vAa Y.out hb4);obtain ⟨⟨f0,f1,f2,f3,f4,f5,f6,f7⟩,⟨g0,g1,g2,g3,g4,g5,g6⟩,_⟩:=KQ.out _ Y4.out;clear hb4)|fail);go_ret;exact ⟨by rw [EV.out];rfl,X4.out⟩
   |true=>
   have EV:=Lib.hid (show va=V by (rw [←E.out]<;>rfl))
   go_wp2_with (first|(go_at_call 103;(with_reducible refine (KN.out _ X.out _ _ (NCS.out _ Y.out) ?hc).mono ?_);(case hc=>exact (KQ.out _ Y.out).2.1.2.1);rintro e w4 ⟨rfl,hb4⟩;have X4:=Lib.hid (vAa X.out hb4);have Y4:=Lib.hid (vAa Y.out hb4);obtain ⟨⟨f0,f1,f2,f3,f4,f5,f6,f7⟩,⟨g0,g1,g2,g3,g4,g5,g6⟩,_⟩:=KQ.out _ Y4.out;clear hb4)|(go_at_call 105;(with_reducible refine (AL.out _ X4.out _ _ (NCS.out _ Y4.out) ?hd).mono ?_);(case hd=>exact (KQ.out _ Y4.out).2.1.2.1);rintro e w5 ⟨rfl,hb5⟩;have X5:=Lib.hid (vAa X4.out hb5);clear hb5)|fail)
   go_ret;exact ⟨by rw [←EV.out];rfl,X5.out⟩
 have z5:(P.link != -1)=true:=by simpa using t5
 have E3:=E.out;rw [decide_eq_false t5] at E3;simp only [Bool.false_or] at E3;have E:=Lib.hid E3;clear E3 t5
 cases vp with
 |false=>
  have EV:=Lib.hid (show V=false by (rw [←E.out]<;>rfl))
  go_wp2_with ((go_at_call 101;(with_reducible refine (PK.out _).mono ?_);rintro e wp ⟨rfl,hwp⟩;subst hwp));go_ret;exact ⟨by rw [EV.out];rfl,X.out⟩
 |true=>
 obtain ⟨a1,a2⟩:=(vBb _ _).1 HP.out;obtain ⟨x,hx⟩:=Int.eq_ofNat_of_zero_le a1
 have hxl:x<S.lk.n:=by omega
 obtain ⟨bp,op,vp,ep,_,hbp,hvs,rp⟩:=vAh HL.out x hxl LinkV.zero;have hvs:vp=vDl (N.links.getD x LinkV.zero):=hvs;subst hvs;have RP:=vAb rp (X.out.block bp hbp);have E3:=E.out;rw [show P.link.toNat=x by rw [hx];rfl] at E3;generalize N.links.getD x LinkV.zero=L at *;have d0:=RP 0 _ rfl;have d1:=RP 1 _ rfl;have d2:=RP 2 _ rfl;simp only [Nat.add_zero] at d0;rw [show op+x * linkR.n=op+x * 3 from rfl] at d0 d1 d2
 have lx:(x:Int)<(S.lk.n:Int):=by omega
 have PK2:=PK.out;rw [hx,ep] at PK2;rw [ep] at f2;rw [hx] at g4 z5;have PK:=Lib.hid PK2;obtain ⟨vj,hj⟩:∃v,(decide (L.a=(i:Int)) || decide (L.b=(i:Int)))=v:=⟨_,rfl⟩
 have JN:=fun w'=>joins_any L (i:Int) w'
 rw [hj] at JN E3;have JN:=Lib.hid JN;have E:=Lib.hid E3;have HX:=Lib.hid hx;have EP:=Lib.hid ep;clear rp RP a1 a2 hx ep hj E3 PK2
 cases vj with
 |false=>
  have EV:=Lib.hid (show V=false by (rw [←E.out]<;>rfl))
  go_wp2_with (first|(go_at_call 101;(with_reducible refine (PK.out _).mono ?_);rintro e wp ⟨rfl,hwp⟩;subst hwp)|(go_at_call 102;(with_reducible refine (JN.out _).mono ?_);rintro e w3 ⟨rfl,hb3⟩;have X3:=Lib.hid (vAa X.out hb3);have Y3:=Lib.hid (vAa Y.out hb3);clear hb3));go_ret;exact ⟨by rw [EV.out];rfl,X3.out⟩
 |true=>
 have E3:=E.out;simp only [Bool.true_and,Bool.and_true] at E3;have E:=Lib.hid E3;clear E3
 cases vk with
 |false=>
  have EV:=Lib.hid (show V=false by (rw [←E.out]<;>rfl))
  go_wp2_with (first|(go_at_call 101;(with_reducible refine (PK.out _).mono ?_);rintro e wp ⟨rfl,hwp⟩;subst hwp)|(go_at_call 102;(with_reducible refine (JN.out _).mono ?_);rintro e w3 ⟨rfl,hb3⟩;have X3:=Lib.hid (vAa X.out hb3);have Y3:=Lib.hid (vAa Y.out hb3);obtain ⟨⟨f0,f1,f2,f3,f4,f5,f6,f7⟩,⟨g0,g1,g2,g3,g4,g5,g6⟩,_⟩:=KQ.out _ Y3.out;clear hb3)|(go_at_call 103;(with_reducible refine (KN.out _ X3.out _ _ (NCS.out _ Y3.out) ?hc).mono ?_);(case hc=>exact (KQ.out _ Y3.out).2.1.2.1);rintro e w4 ⟨rfl,hb4⟩;have X4:=Lib.hid (vAa X3.out hb4);have Y4:=Lib.hid (vAa Y3.out hb4);obtain ⟨⟨f0,f1,f2,f3,f4,f5,f6,f7⟩,⟨g0,g1,g2,g3,g4,g5,g6⟩,_⟩:=KQ.out _ Y4.out;clear hb4)|fail)
  go_ret;exact ⟨by rw [EV.out];rfl,X4.out⟩
 |true=>
 have EV:=Lib.hid (show va=V by (rw [←E.out]<;>rfl))
 go_wp2_with (first|(go_at_call 101;(with_reducible refine (PK.out _).mono ?_);rintro e wp ⟨rfl,hwp⟩;subst hwp)|(go_at_call 102;(with_reducible refine (JN.out _).mono ?_);rintro e w3 ⟨rfl,hb3⟩;have X3:=Lib.hid (vAa X.out hb3);have Y3:=Lib.hid (vAa Y.out hb3);obtain ⟨⟨f0,f1,f2,f3,f4,f5,f6,f7⟩,⟨g0,g1,g2,g3,g4,g5,g6⟩,_⟩:=KQ.out _ Y3.out;clear hb3)|(go_at_call 103;(with_reducible refine (KN.out _ X3.out _ _ (NCS.out _ Y3.out) ?hc).mono ?_);(case hc=>exact (KQ.out _ Y3.out).2.1.2.1);rintro e w4 ⟨rfl,hb4⟩;have X4:=Lib.hid (vAa X3.out hb4);have Y4:=Lib.hid (vAa Y3.out hb4);obtain ⟨⟨f0,f1,f2,f3,f4,f5,f6,f7⟩,⟨g0,g1,g2,g3,g4,g5,g6⟩,_⟩:=KQ.out _ Y4.out;clear hb4)|(go_at_call 105;(with_reducible refine (AL.out _ X4.out _ _ (NCS.out _ Y4.out) ?hd).mono ?_);(case hd=>exact (KQ.out _ Y4.out).2.1.2.1);rintro e w5 ⟨rfl,hb5⟩;have X5:=Lib.hid (vAa X4.out hb5);clear hb5)|fail)
 go_ret;exact ⟨by rw [←EV.out];rfl,X5.out⟩
end Go.Proofs.YtnpembgchmmbjaaGreat
