import Derived.Test.YtgmflecelnefcaaGreatOm13
set_option maxRecDepth 100000
set_option maxHeartbeats 40000000
namespace Go.Proofs.YtgmflecelnefcaaGreat
open Go.Lib (hid)
open Go.RowKit
theorem known_any (N:NV) (S:NSl3) (P:PortV) (q0 q1:Nat) (j v:Int) (w:World) (h:NRead w (allB w) N S) (nc:Cs w q0 (netC S)) (c1:w.cell? ⟨q1,1,none⟩=some (.int .i64 P.dev)):
 Calls Tryz.prog 125 #[.int .i64 j,.int .i64 v,.pointer (some ⟨q0,0,none⟩),.pointer (some ⟨q1,0,none⟩)] w fun e w'=>e=.returned (.bool (decide (atF N P.dev v≠-1)))∧Below w.heap.size w w':=by
 have FD:=find_any N S P.dev v w h;have ql1:q1<w.heap.size:=World.block_lt_of_cell? w _ c1;have ql:=nc.2;have n:=nc.1;have f0:=n 0 _ rfl;have f1:=n 1 _ rfl;have f2:=n 2 _ rfl;have f3:=n 3 _ rfl;have f4:=n 4 _ rfl;have f5:=n 5 _ rfl;have f6:=n 6 _ rfl;have f7:=n 7 _ rfl;unfold netV at FD;generalize atF N P.dev v=F at *;have FD:=hid FD;clear h nc n
 by_cases hF:F= -1
 · have z:(F != -1)=false:=by simpa using hF
   rw [decide_eq_false (show ¬F≠-1 from fun g=>g hF)];clear hF
   go_enter Tryz.func125,Tryz.ntmps125
   go_wp2_with (go_at_call 86;(with_reducible refine FD.out.mono ?_);rintro e w1 ⟨rfl,hb⟩;have B:=hid hb;clear hb);go_ret;exact ⟨rfl,B.out⟩
 · have z:(F != -1)=true:=by simpa using hF
   rw [decide_eq_true (show F≠-1 from hF)];clear hF
   go_enter Tryz.func125,Tryz.ntmps125
   go_wp2_with (go_at_call 86;(with_reducible refine FD.out.mono ?_);rintro e w1 ⟨rfl,hb⟩;have B:=hid hb;clear hb);go_ret;exact ⟨rfl,B.out⟩
theorem enters_port1:Enters Tryz.prog 125:=enters_of Tryz.func125 (by kernel_rfl) rfl
def ptR (N:NV) (i:Nat) (P:PortV):Bool:=decide (0≤P.native) && (decide (P.native≤4094) && (rsB P.tagged 4094 && (!memB P.tagged P.native && (!(decide (P.native=0) && decide (P.tagged.length=0)) && ((decide (P.link= -1) || (plB P.link (N.links.length:Int) && (decide ((N.links.getD P.link.toNat LinkV.zero).a=(i:Int)) || decide ((N.links.getD P.link.toNat LinkV.zero).b=(i:Int))))) &&
 ((decide (P.native=0) || decide (atF N P.dev P.native≠-1)) && (List.range P.tagged.length).all (fun j=>decide (atF N P.dev (P.tagged.getD j 0)≠-1))))))))
theorem port_any (N:NV) (S:NSl3) (i:Nat) (P:PortV) (s:Sl3) (w:World) (h:NRead w (allB w) N S) (l1:RSl (Rdr.int .i64) w (allB w) s.A s.n s.c P.tagged):Calls Tryz.prog 66 #[netV S,.int .i64 (i:Int),.agg #[.int .i64 P.row,.int .i64 P.dev,.int .i64 P.native,.int .i64 P.cost,.int .i64 P.link,.string (str P.name),.slice s.A s.n s.c]] w fun e w'=>e=.returned (.bool (ptR N i P))∧Below w.heap.size w w':=by
 have HL:=hid h.lk;have UPN:=hid (fun (w':World) (hb:Below w.heap.size w w')=>h.up hb);have hle:=h.lk.le;have hcap:=h.lk.cap;have lkl:=h.lk.len;have tgl:=l1.len;have sle:=l1.le;have scap:=l1.cap
 have PK:=fun w'=>place_link P.link S.lk.A S.lk.n S.lk.c hle hcap w'
 have RS:=fun (w':World) (hb:Below w.heap.size w w')=>rises_any s.A s.n s.c P.tagged 4094 w' (isl_rsl (up_rsl l1 hb))
 have CT:=fun (w':World) (hb:Below w.heap.size w w')=>cont_of s.A s.n s.c P.tagged P.native w' (isl_rsl (up_rsl l1 hb))
 have KN:=hid (fun (j v:Int) (w':World) (hb:Below w.heap.size w w') (q0 q1:Nat) (nc:Cs w' q0 (netC S)) (c1:w'.cell? ⟨q1,1,none⟩=some (.int .i64 P.dev))=>known_any N S P q0 q1 j v w' (h.up hb) nc c1);obtain ⟨V,E⟩:∃V,ptR N i P=V:=⟨_,rfl⟩;rw [E];unfold ptR at E;obtain ⟨vr,hr⟩:∃v,rsB P.tagged 4094=v:=⟨_,rfl⟩;obtain ⟨vc,hc⟩:∃v,memB P.tagged P.native=v:=⟨_,rfl⟩;obtain ⟨vk,hk⟩:∃v,decide (atF N P.dev P.native≠-1)=v:=⟨_,rfl⟩
 obtain ⟨va,hva⟩:∃v,(List.range P.tagged.length).all (fun j=>decide (atF N P.dev (P.tagged.getD j 0)≠-1))=v:=⟨_,rfl⟩;obtain ⟨vp,hp⟩:∃v,plB P.link (S.lk.n:Int)=v:=⟨_,rfl⟩;rw [lkl,hr,hc,hk,hva,hp,tgl] at E;rw [hr] at RS;rw [hc] at CT;rw [hp] at PK;have HP:=hid hp
 have AL:=hid (fun (w':World) (hb:Below w.heap.size w w') (q0 q1:Nat) (nc:Cs w' q0 (netC S)) (c1:w'.cell? ⟨q1,1,none⟩=some (.int .i64 P.dev))=>
  all_int 125 #[.pointer (some ⟨q0,0,none⟩),.pointer (some ⟨q1,0,none⟩)] enters_port1 s.A s.n s.c P.tagged w' (isl_rsl (up_rsl l1 hb)) (fun j=>decide (atF N P.dev (P.tagged.getD j 0)≠-1)) (fun k w2 hk hb2=>by
   rw [app22]
   exact known_any N S P q0 q1 k _ w2 ((h.up hb).up hb2) (nc.below hb2) ((hb2.cell (p:=⟨q1,1,none⟩) (World.block_lt_of_cell? w' _ c1)).trans c1)) va (by
    rw [←hva,List.all_eq_true,tgl]
    exact ⟨fun g k hk=>g k (List.mem_range.2 hk),fun g k hk=>g k (List.mem_range.1 hk)⟩))
 have KN:=hid (fun (w':World) (hb:Below w.heap.size w w') (q0 q1:Nat) (nc:Cs w' q0 (netC S)) (c1:w'.cell? ⟨q1,1,none⟩=some (.int .i64 P.dev))=>hk▸KN.out 0 P.native w' hb q0 q1 nc c1);have E:=hid E;have RS:=hid RS;have CT:=hid CT;have PK:=hid PK;clear h l1 lkl tgl hr hc hk hva hp;unfold netV
 go_enter Tryz.func66,Tryz.ntmps66
 go_upto_region 1 with fail
 obtain ⟨W,hW⟩:∃W,(w.alloc (.cells (nA S) 31)).alloc (.cells #[.int .i64 P.row,.int .i64 P.dev,.int .i64 P.native,.int .i64 P.cost,.int .i64 P.link,.string (str P.name),.slice s.A s.n s.c] 68)=W:=⟨_,rfl⟩;have NC:=net_cs S _ _ [.int .i64 P.row,.int .i64 P.dev,.int .i64 P.native,.int .i64 P.cost,.int .i64 P.link,.string (str P.name),.slice s.A s.n s.c] hW;rw [hW];clear hW
 have KQ:=hid (show ∀wx,Below W.heap.size W wx→(NF wx w.heap.size S)∧(wx.cell? ⟨w.heap.size+1,0,none⟩=some (.int .i64 P.row)∧wx.cell? ⟨w.heap.size+1,1,none⟩=some (.int .i64 P.dev)∧wx.cell? ⟨w.heap.size+1,2,none⟩=some (.int .i64 P.native)∧wx.cell? ⟨w.heap.size+1,3,none⟩=some (.int .i64 P.cost)∧wx.cell? ⟨w.heap.size+1,4,none⟩=some (.int .i64 P.link)∧wx.cell? ⟨w.heap.size+1,5,none⟩=some (.string (str P.name))∧wx.cell? ⟨w.heap.size+1,6,none⟩=some (.slice s.A s.n s.c))∧Below w.heap.size w wx from fun wx hx=>by
  have n:=(NC.1.below hx).1;have r:=(NC.2.1.below hx).1
  exact ⟨⟨n 0 _ rfl,n 1 _ rfl,n 2 _ rfl,n 3 _ rfl,n 4 _ rfl,n 5 _ rfl,n 6 _ rfl,n 7 _ rfl⟩,⟨r 0 _ rfl,r 1 _ rfl,r 2 _ rfl,r 3 _ rfl,r 4 _ rfl,r 5 _ rfl,r 6 _ rfl⟩,NC.2.2.trans (hx.mono NC.2.2.size)⟩)
 obtain ⟨⟨f0,f1,f2,f3,f4,f5,f6,f7⟩,⟨g0,g1,g2,g3,g4,g5,g6⟩,hB0⟩:=KQ.out W (Below.refl _ _);have ql:w.heap.size<W.heap.size:=NC.1.2;have ql2:w.heap.size+1<W.heap.size:=NC.2.1.2;have B0:=hid hB0;have NCS:=hid (show ∀wx,Below W.heap.size W wx→Cs wx w.heap.size (netC S) from fun wx hx=>NC.1.below hx);clear hB0 NC
 by_cases t1:0≤P.native
 rotate_left
 · have z1:P.native<0:=by omega
   have EV:=hid (show V=false by rw [←E.out,decide_eq_false t1];rfl);clear t1;go_wp2;go_ret;exact ⟨by rw [EV.out];rfl,B0.out⟩
 have z1:¬P.native<0:=by omega
 by_cases t2:P.native≤4094
 rotate_left
 · have z2:4094<P.native:=by omega
   have EV:=hid (show V=false by rw [←E.out,decide_eq_false t2];simp);clear t1 t2;go_wp2;go_ret;exact ⟨by rw [EV.out];rfl,B0.out⟩
 have z2:¬4094<P.native:=by omega
 have E3:=E.out;rw [decide_eq_true t1,decide_eq_true t2] at E3;have E:=hid E3;clear E3 t1 t2
 cases vr with
 |false=>
  have EV:=hid (show V=false by rw [←E.out];rfl);go_wp2_with ((go_at_call 80;(with_reducible refine (RS.out _ B0.out).mono ?_);rintro e w1 ⟨rfl,hd⟩;have Y:=hid (show Below W.heap.size W w1 from Below.drew (Below.refl _ _) hd);have X:=hid (KQ.out _ Y.out).2.2;obtain ⟨⟨f0,f1,f2,f3,f4,f5,f6,f7⟩,⟨g0,g1,g2,g3,g4,g5,g6⟩,_⟩:=KQ.out _ Y.out;clear hd));go_ret;exact ⟨by rw [EV.out];rfl,X.out⟩
 |true=>
 cases vc with
 |true=>
  have EV:=hid (show V=false by rw [←E.out];rfl);go_wp2_with (first|(go_at_call 80;(with_reducible refine (RS.out _ B0.out).mono ?_);rintro e w1 ⟨rfl,hd⟩;have Y:=hid (show Below W.heap.size W w1 from Below.drew (Below.refl _ _) hd);have X:=hid (KQ.out _ Y.out).2.2;obtain ⟨⟨f0,f1,f2,f3,f4,f5,f6,f7⟩,⟨g0,g1,g2,g3,g4,g5,g6⟩,_⟩:=KQ.out _ Y.out;clear hd)|(go_at_call 122;(with_reducible refine (CT.out _ X.out).mono ?_);rintro e w2 ⟨rfl,hw2⟩;subst hw2))
  go_ret;exact ⟨by rw [EV.out];rfl,X.out⟩
 |false=>
 have E3:=E.out;simp only [Bool.true_and,Bool.not_false] at E3;have E:=hid E3;clear E3
 go_upto_region 3 with (first|(go_at_call 80;(with_reducible refine (RS.out _ B0.out).mono ?_);rintro e w1 ⟨rfl,hd⟩;have Y:=hid (show Below W.heap.size W w1 from Below.drew (Below.refl _ _) hd);have X:=hid (KQ.out _ Y.out).2.2;obtain ⟨⟨f0,f1,f2,f3,f4,f5,f6,f7⟩,⟨g0,g1,g2,g3,g4,g5,g6⟩,_⟩:=KQ.out _ Y.out;clear hd)|(go_at_call 122;(with_reducible refine (CT.out _ X.out).mono ?_);rintro e w2 ⟨rfl,hw2⟩;subst hw2))
 by_cases t3:P.native=0
 · have z3:(P.native == 0)=true:=by simpa using t3
   by_cases t4:s.n=0
   · have z4:((s.n:Int) == 0)=true:=by simp;omega
     have EV:=hid (show V=false by rw [←E.out,decide_eq_true t3,decide_eq_true t4];rfl);clear t3 t4;go_wp2;go_ret;exact ⟨by rw [EV.out];rfl,X.out⟩
   have z4:((s.n:Int) == 0)=false:=by simp;omega
   have E3:=E.out;rw [decide_eq_true t3,decide_eq_false t4] at E3;simp only [Bool.and_false,Bool.not_false,Bool.true_and,Bool.true_or] at E3;have E:=hid E3;clear E3 t3 t4
   go_upto_region 5 with fail
   by_cases t5:P.link= -1
   · have z5:(P.link != -1)=false:=by simpa using t5
     have E3:=E.out;rw [decide_eq_true t5] at E3;simp only [Bool.true_or,Bool.true_and] at E3;have E:=hid E3;clear E3 t5
     have EV:=hid (show va=V by (rw [←E.out]<;>rfl))
     go_wp2_with (first|(go_at_call 126;(with_reducible refine (AL.out _ X.out _ _ (NCS.out _ Y.out) ?hd).mono ?_);(case hd=>exact (KQ.out _ Y.out).2.1.2.1);rintro e w5 ⟨rfl,hb5⟩;have X5:=hid (trans_below X.out hb5);clear hb5)|fail);go_ret;exact ⟨by rw [←EV.out];rfl,X5.out⟩
   have z5:(P.link != -1)=true:=by simpa using t5
   have E3:=E.out;rw [decide_eq_false t5] at E3;simp only [Bool.false_or] at E3;have E:=hid E3;clear E3 t5
   cases vp with
   |false=>
    have EV:=hid (show V=false by (rw [←E.out]<;>rfl))
    go_wp2_with ((go_at_call 123;(with_reducible refine (PK.out _).mono ?_);rintro e wp ⟨rfl,hwp⟩;subst hwp));go_ret;exact ⟨by rw [EV.out];rfl,X.out⟩
   |true=>
   obtain ⟨a1,a2⟩:=(plB_iff _ _).1 HP.out;obtain ⟨x,hx⟩:=Int.eq_ofNat_of_zero_le a1
   have hxl:x<S.lk.n:=by omega
   obtain ⟨bp,op,vp,ep,_,hbp,hvs,rp⟩:=rsl_at HL.out x hxl LinkV.zero;have hvs:vp=linkC (N.links.getD x LinkV.zero):=hvs;subst hvs;have RP:=rangeAt_keep rp (X.out.block bp hbp);have E3:=E.out;rw [show P.link.toNat=x by rw [hx];rfl] at E3;generalize N.links.getD x LinkV.zero=L at *;have d0:=RP 0 _ rfl;have d1:=RP 1 _ rfl;have d2:=RP 2 _ rfl;simp only [Nat.add_zero] at d0;rw [show op+x * linkR.n=op+x * 3 from rfl] at d0 d1 d2
   have lx:(x:Int)<(S.lk.n:Int):=by omega
   have PK2:=PK.out;rw [hx,ep] at PK2;rw [ep] at f2;rw [hx] at g4 z5;have PK:=hid PK2;obtain ⟨vj,hj⟩:∃v,(decide (L.a=(i:Int)) || decide (L.b=(i:Int)))=v:=⟨_,rfl⟩
   have JN:=fun w'=>joins_any L (i:Int) w'
   rw [hj] at JN E3;have JN:=hid JN;have E:=hid E3;have HX:=hid hx;have EP:=hid ep;clear rp RP a1 a2 hx ep hj E3 PK2
   cases vj with
   |false=>
    have EV:=hid (show V=false by (rw [←E.out]<;>rfl))
    go_wp2_with (first|(go_at_call 123;(with_reducible refine (PK.out _).mono ?_);rintro e wp ⟨rfl,hwp⟩;subst hwp)|(go_at_call 124;(with_reducible refine (JN.out _).mono ?_);rintro e w3 ⟨rfl,hb3⟩;have X3:=hid (trans_below X.out hb3);have Y3:=hid (trans_below Y.out hb3);clear hb3));go_ret;exact ⟨by rw [EV.out];rfl,X3.out⟩
   |true=>
   have E3:=E.out;simp only [Bool.true_and,Bool.and_true] at E3;have E:=hid E3;clear E3
   have EV:=hid (show va=V by (rw [←E.out]<;>rfl))
   go_wp2_with (first|(go_at_call 123;(with_reducible refine (PK.out _).mono ?_);rintro e wp ⟨rfl,hwp⟩;subst hwp)|(go_at_call 124;(with_reducible refine (JN.out _).mono ?_);rintro e w3 ⟨rfl,hb3⟩;have X3:=hid (trans_below X.out hb3);have Y3:=hid (trans_below Y.out hb3);obtain ⟨⟨f0,f1,f2,f3,f4,f5,f6,f7⟩,⟨g0,g1,g2,g3,g4,g5,g6⟩,_⟩:=KQ.out _ Y3.out;clear hb3)|(go_at_call 126;(with_reducible refine (AL.out _ X3.out _ _ (NCS.out _ Y3.out) ?hd).mono ?_);(case hd=>exact (KQ.out _ Y3.out).2.1.2.1);rintro e w5 ⟨rfl,hb5⟩;have X5:=hid (trans_below X3.out hb5);clear hb5)|fail)
   go_ret;exact ⟨by rw [←EV.out];rfl,X5.out⟩
 have z3:(P.native == 0)=false:=by simpa using t3
 have E3:=E.out;rw [decide_eq_false t3] at E3;simp only [Bool.false_and,Bool.not_false,Bool.true_and,Bool.false_or] at E3;have E:=hid E3;clear E3 t3
 go_upto_region 5 with fail
 by_cases t5:P.link= -1
 · have z5:(P.link != -1)=false:=by simpa using t5
   have E3:=E.out;rw [decide_eq_true t5] at E3;simp only [Bool.true_or,Bool.true_and] at E3;have E:=hid E3;clear E3 t5
   cases vk with
   |false=>
    have EV:=hid (show V=false by (rw [←E.out]<;>rfl))
    go_wp2_with (first|(go_at_call 125;(with_reducible refine (KN.out _ X.out _ _ (NCS.out _ Y.out) ?hc).mono ?_);(case hc=>exact (KQ.out _ Y.out).2.1.2.1);rintro e w4 ⟨rfl,hb4⟩;have X4:=hid (trans_below X.out hb4);have Y4:=hid (trans_below Y.out hb4);obtain ⟨⟨f0,f1,f2,f3,f4,f5,f6,f7⟩,⟨g0,g1,g2,g3,g4,g5,g6⟩,_⟩:=KQ.out _ Y4.out;clear hb4)|fail);go_ret;exact ⟨by rw [EV.out];rfl,X4.out⟩
   |true=>
   have EV:=hid (show va=V by (rw [←E.out]<;>rfl))
   go_wp2_with (first|(go_at_call 125;(with_reducible refine (KN.out _ X.out _ _ (NCS.out _ Y.out) ?hc).mono ?_);(case hc=>exact (KQ.out _ Y.out).2.1.2.1);rintro e w4 ⟨rfl,hb4⟩;have X4:=hid (trans_below X.out hb4);have Y4:=hid (trans_below Y.out hb4);obtain ⟨⟨f0,f1,f2,f3,f4,f5,f6,f7⟩,⟨g0,g1,g2,g3,g4,g5,g6⟩,_⟩:=KQ.out _ Y4.out;clear hb4)|(go_at_call 126;(with_reducible refine (AL.out _ X4.out _ _ (NCS.out _ Y4.out) ?hd).mono ?_);(case hd=>exact (KQ.out _ Y4.out).2.1.2.1);rintro e w5 ⟨rfl,hb5⟩;have X5:=hid (trans_below X4.out hb5);clear hb5)|fail)
   go_ret;exact ⟨by rw [←EV.out];rfl,X5.out⟩
 have z5:(P.link != -1)=true:=by simpa using t5
 have E3:=E.out;rw [decide_eq_false t5] at E3;simp only [Bool.false_or] at E3;have E:=hid E3;clear E3 t5
 cases vp with
 |false=>
  have EV:=hid (show V=false by (rw [←E.out]<;>rfl))
  go_wp2_with ((go_at_call 123;(with_reducible refine (PK.out _).mono ?_);rintro e wp ⟨rfl,hwp⟩;subst hwp));go_ret;exact ⟨by rw [EV.out];rfl,X.out⟩
 |true=>
 obtain ⟨a1,a2⟩:=(plB_iff _ _).1 HP.out;obtain ⟨x,hx⟩:=Int.eq_ofNat_of_zero_le a1
 have hxl:x<S.lk.n:=by omega
 obtain ⟨bp,op,vp,ep,_,hbp,hvs,rp⟩:=rsl_at HL.out x hxl LinkV.zero;have hvs:vp=linkC (N.links.getD x LinkV.zero):=hvs;subst hvs;have RP:=rangeAt_keep rp (X.out.block bp hbp);have E3:=E.out;rw [show P.link.toNat=x by rw [hx];rfl] at E3;generalize N.links.getD x LinkV.zero=L at *;have d0:=RP 0 _ rfl;have d1:=RP 1 _ rfl;have d2:=RP 2 _ rfl;simp only [Nat.add_zero] at d0;rw [show op+x * linkR.n=op+x * 3 from rfl] at d0 d1 d2
 have lx:(x:Int)<(S.lk.n:Int):=by omega
 have PK2:=PK.out;rw [hx,ep] at PK2;rw [ep] at f2;rw [hx] at g4 z5;have PK:=hid PK2;obtain ⟨vj,hj⟩:∃v,(decide (L.a=(i:Int)) || decide (L.b=(i:Int)))=v:=⟨_,rfl⟩
 have JN:=fun w'=>joins_any L (i:Int) w'
 rw [hj] at JN E3;have JN:=hid JN;have E:=hid E3;have HX:=hid hx;have EP:=hid ep;clear rp RP a1 a2 hx ep hj E3 PK2
 cases vj with
 |false=>
  have EV:=hid (show V=false by (rw [←E.out]<;>rfl))
  go_wp2_with (first|(go_at_call 123;(with_reducible refine (PK.out _).mono ?_);rintro e wp ⟨rfl,hwp⟩;subst hwp)|(go_at_call 124;(with_reducible refine (JN.out _).mono ?_);rintro e w3 ⟨rfl,hb3⟩;have X3:=hid (trans_below X.out hb3);have Y3:=hid (trans_below Y.out hb3);clear hb3));go_ret;exact ⟨by rw [EV.out];rfl,X3.out⟩
 |true=>
 have E3:=E.out;simp only [Bool.true_and,Bool.and_true] at E3;have E:=hid E3;clear E3
 cases vk with
 |false=>
  have EV:=hid (show V=false by (rw [←E.out]<;>rfl))
  go_wp2_with (first|(go_at_call 123;(with_reducible refine (PK.out _).mono ?_);rintro e wp ⟨rfl,hwp⟩;subst hwp)|(go_at_call 124;(with_reducible refine (JN.out _).mono ?_);rintro e w3 ⟨rfl,hb3⟩;have X3:=hid (trans_below X.out hb3);have Y3:=hid (trans_below Y.out hb3);obtain ⟨⟨f0,f1,f2,f3,f4,f5,f6,f7⟩,⟨g0,g1,g2,g3,g4,g5,g6⟩,_⟩:=KQ.out _ Y3.out;clear hb3)|(go_at_call 125;(with_reducible refine (KN.out _ X3.out _ _ (NCS.out _ Y3.out) ?hc).mono ?_);(case hc=>exact (KQ.out _ Y3.out).2.1.2.1);rintro e w4 ⟨rfl,hb4⟩;have X4:=hid (trans_below X3.out hb4);have Y4:=hid (trans_below Y3.out hb4);obtain ⟨⟨f0,f1,f2,f3,f4,f5,f6,f7⟩,⟨g0,g1,g2,g3,g4,g5,g6⟩,_⟩:=KQ.out _ Y4.out;clear hb4)|fail)
  go_ret;exact ⟨by rw [EV.out];rfl,X4.out⟩
 |true=>
 have EV:=hid (show va=V by (rw [←E.out]<;>rfl))
 go_wp2_with (first|(go_at_call 123;(with_reducible refine (PK.out _).mono ?_);rintro e wp ⟨rfl,hwp⟩;subst hwp)|(go_at_call 124;(with_reducible refine (JN.out _).mono ?_);rintro e w3 ⟨rfl,hb3⟩;have X3:=hid (trans_below X.out hb3);have Y3:=hid (trans_below Y.out hb3);obtain ⟨⟨f0,f1,f2,f3,f4,f5,f6,f7⟩,⟨g0,g1,g2,g3,g4,g5,g6⟩,_⟩:=KQ.out _ Y3.out;clear hb3)|(go_at_call 125;(with_reducible refine (KN.out _ X3.out _ _ (NCS.out _ Y3.out) ?hc).mono ?_);(case hc=>exact (KQ.out _ Y3.out).2.1.2.1);rintro e w4 ⟨rfl,hb4⟩;have X4:=hid (trans_below X3.out hb4);have Y4:=hid (trans_below Y3.out hb4);obtain ⟨⟨f0,f1,f2,f3,f4,f5,f6,f7⟩,⟨g0,g1,g2,g3,g4,g5,g6⟩,_⟩:=KQ.out _ Y4.out;clear hb4)|(go_at_call 126;(with_reducible refine (AL.out _ X4.out _ _ (NCS.out _ Y4.out) ?hd).mono ?_);(case hd=>exact (KQ.out _ Y4.out).2.1.2.1);rintro e w5 ⟨rfl,hb5⟩;have X5:=hid (trans_below X4.out hb5);clear hb5)|fail)
 go_ret;exact ⟨by rw [←EV.out];rfl,X5.out⟩
def prB (N:NV) (x:Nat) (D:DomV) (j:Nat) (y:Int):Bool:=plB y (N.domains.length:Int) && (meetB N x y.toNat && !memB (D.peers.take j) y)
theorem dom1_any (N:NV) (S:NSl3) (x:Nat) (D:DomV) (s:Sl3) (j:Nat) (y:Int) (q0 q1 q2:Nat) (w:World) (h:NRead w (allB w) N S) (hxl:x<S.dm.n) (hd:∀j,j<N.domains.length→plB (N.domains.getD j DomV.zero).dev (N.devices.length:Int)=true)
 (nc:Cs w q0 (netC S)) (c1:w.cell? ⟨q1,0,none⟩=some (.int .i64 (x:Int))) (c2:w.cell? ⟨q2,5,none⟩=some (.slice s.A s.n s.c)) (l1:ISl w .i64 s.A s.n s.c D.peers) (hj:j<s.n):
 Calls Tryz.prog 129 #[.int .i64 (j:Int),.int .i64 y,.pointer (some ⟨q0,0,none⟩),.pointer (some ⟨q1,0,none⟩),.pointer (some ⟨q2,0,none⟩)] w fun e w'=>e=.returned (.bool (prB N x D j y))∧Below w.heap.size w w':=by
 have ql1:q1<w.heap.size:=World.block_lt_of_cell? w _ c1;have ql2:q2<w.heap.size:=World.block_lt_of_cell? w _ c2;have hle:=h.dm.le;have hcap:=h.dm.cap;have dml:=h.dm.len
 have PD:=fun w'=>place_dom y S.dm.A S.dm.n S.dm.c hle hcap w'
 obtain ⟨V,E⟩:∃V,prB N x D j y=V:=⟨_,rfl⟩;rw [E];unfold prB at E;rw [dml] at E;obtain ⟨va,ha⟩:∃v,plB y (S.dm.n:Int)=v:=⟨_,rfl⟩;rw [ha] at PD E;have HA:=hid ha
 have KQ:=hid (show ∀wx,Below w.heap.size w wx→(NF wx q0 S)∧wx.cell? ⟨q1,0,none⟩=some (.int .i64 (x:Int))∧wx.cell? ⟨q2,5,none⟩=some (.slice s.A s.n s.c) from fun wx hx=>by
  have n:=(nc.below hx).1
  exact ⟨⟨n 0 _ rfl,n 1 _ rfl,n 2 _ rfl,n 3 _ rfl,n 4 _ rfl,n 5 _ rfl,n 6 _ rfl,n 7 _ rfl⟩,(hx.cell (p:=⟨q1,0,none⟩) ql1).trans c1,(hx.cell (p:=⟨q2,5,none⟩) ql2).trans c2⟩)
 obtain ⟨⟨f0,f1,f2,f3,f4,f5,f6,f7⟩,g1,g5⟩:=KQ.out w (Below.refl _ _);have ql:q0<w.heap.size:=nc.2
 cases va with
 |false=>
  have EV:=hid (show V=false by (rw [←E]<;>rfl))
  have PD:=hid PD;clear h hd nc c1 c2 l1 ha E dml
  go_enter Tryz.func129,Tryz.ntmps129
  go_wp2_with ((go_at_call 130;(with_reducible refine (PD.out _).mono ?_);rintro e wp ⟨rfl,hwp⟩;subst hwp));go_ret;exact ⟨by rw [EV.out];rfl,Below.refl _ _⟩
 |true=>
 obtain ⟨a1,a2⟩:=(plB_iff _ _).1 HA.out;obtain ⟨z,hz⟩:=Int.eq_ofNat_of_zero_le a1;subst hz
 have hzl:z<S.dm.n:=by omega
 have MT:=meet_any N S x z w h hxl hzl hd;rw [show ((z:Int)).toNat=z from rfl] at E;obtain ⟨b2,o2,e2,hb2,hc2⟩:=l1.2.2.2 (by omega)
 have CT:=fun (w':World) (hb:Below w.heap.size w w')=>cont_of s.A j s.c (D.peers.take j) (z:Int) w' (isl_take (l1.below hb) (Nat.le_of_lt hj))
 obtain ⟨vm,hm⟩:∃v,meetB N x z=v:=⟨_,rfl⟩;obtain ⟨vc,hc⟩:∃v,memB (D.peers.take j) (z:Int)=v:=⟨_,rfl⟩;rw [hm] at MT E;rw [hc] at CT E;have sle:=l1.le;have scap:=l1.cap
 have j1:(j:Int)≤(s.c:Int):=by omega
 have j2:j≤s.c:=by omega
 have j3:(0:Int)≤(j:Int):=by omega
 unfold netV at MT;rw [e2] at CT g5;have E2:=hid e2;have MT:=hid MT;have CT:=hid CT;have PD:=hid PD;have E:=hid E;clear h hd nc c1 c2 l1 ha dml a1 a2 hb2 hc2 hm hc e2
 cases vm with
 |false=>
  have EV:=hid (show V=false by (rw [←E.out]<;>rfl))
  go_enter Tryz.func129,Tryz.ntmps129
  go_wp2_with (first|(go_at_call 130;(with_reducible refine (PD.out _).mono ?_);rintro e wp ⟨rfl,hwp⟩;subst hwp)|(go_at_call 131;(with_reducible refine MT.out.mono ?_);rintro e w1 ⟨rfl,hb⟩;have B:=hid hb;obtain ⟨⟨f0,f1,f2,f3,f4,f5,f6,f7⟩,g1,g5⟩:=KQ.out _ hb;rw [E2.out] at g5;clear hb));go_ret;exact ⟨by rw [EV.out];rfl,B.out⟩
 |true=>
 have EV:=hid (show (!vc)=V by (rw [←E.out]<;>rfl))
 go_enter Tryz.func129,Tryz.ntmps129
 go_wp2_with (first|(go_at_call 130;(with_reducible refine (PD.out _).mono ?_);rintro e wp ⟨rfl,hwp⟩;subst hwp)|(go_at_call 131;(with_reducible refine MT.out.mono ?_);rintro e w1 ⟨rfl,hb⟩;have B:=hid hb;obtain ⟨⟨f0,f1,f2,f3,f4,f5,f6,f7⟩,g1,g5⟩:=KQ.out _ hb;rw [E2.out] at g5;clear hb)|(go_at_call 122;(with_reducible refine (CT.out _ B.out).mono ?_);rintro e w2 ⟨rfl,hw2⟩;subst hw2));go_ret
 exact ⟨by rw [←EV.out];cases vc<;>rfl,B.out⟩
theorem enters_dom1:Enters Tryz.prog 129:=enters_of Tryz.func129 (by kernel_rfl) rfl
theorem net_cs3 {w:World} (S:NSl3) (T U X:TypeId) (l m:List Value) {W:World} (hW:((w.alloc (.cells (nA S) T)).alloc (.cells l.toArray U)).alloc (.cells m.toArray X)=W):Cs W w.heap.size (netC S)∧Cs W (w.heap.size+1) l∧Cs W (w.heap.size+2) m∧Below w.heap.size w W:=by
 subst hW;obtain ⟨h1,h2,h3⟩:=net_cs (w:=w) S T U l rfl;have h4:=Cs.new ((w.alloc (.cells (nA S) T)).alloc (.cells l.toArray U)) m X;rw [show ((w.alloc (.cells (nA S) T)).alloc (.cells l.toArray U)).heap.size=w.heap.size+2 by simp] at h4;exact ⟨h1.below (alloc_below _ _),h2.below (alloc_below _ _),h4,alloc3_below _ _ _ _⟩
def dmR (N:NV) (i:Nat) (D:DomV):Bool:=decide (1≤D.vlan) && (decide (D.vlan≤4094) && (decide (0≤D.vni) && (decide (D.vni≤16777215) && ((decide (D.irb= -1) || (plB D.irb (N.irbs.length:Int) && decide ((N.irbs.getD D.irb.toNat IrbV.zero).dom=(i:Int)))) &&
 (decide (atF N D.dev D.vlan=(i:Int)) && (List.range D.peers.length).all (fun j=>prB N i D j (D.peers.getD j 0)))))))
theorem domain_any (N:NV) (S:NSl3) (i:Nat) (D:DomV) (s:Sl3) (w:World) (h:NRead w (allB w) N S) (l1:RSl (Rdr.int .i64) w (allB w) s.A s.n s.c D.peers) (hil:i<S.dm.n) (hd:∀j,j<N.domains.length→plB (N.domains.getD j DomV.zero).dev (N.devices.length:Int)=true):
 Calls Tryz.prog 72 #[netV S,.int .i64 (i:Int),.agg #[.int .i64 D.dev,.int .i64 D.vlan,.int .i64 D.vni,.int .i64 D.irb,.int .i64 D.row,.slice s.A s.n s.c]] w fun e w'=>e=.returned (.bool (dmR N i D))∧Below w.heap.size w w':=by
 have HI:=hid h.ir;have hle:=h.ir.le;have hcap:=h.ir.cap;have irl:=h.ir.len;have prl:=l1.len
 have PI:=fun w'=>place_irb D.irb S.ir.A S.ir.n S.ir.c hle hcap w'
 have FD:=fun (w':World) (hb:Below w.heap.size w w')=>find_any N S D.dev D.vlan w' (h.up hb)
 obtain ⟨V,E⟩:∃V,dmR N i D=V:=⟨_,rfl⟩;rw [E];unfold dmR at E;obtain ⟨vi,hi⟩:∃v,plB D.irb (S.ir.n:Int)=v:=⟨_,rfl⟩;obtain ⟨F,hF⟩:∃v,atF N D.dev D.vlan=v:=⟨_,rfl⟩;obtain ⟨va,hva⟩:∃v,(List.range D.peers.length).all (fun j=>prB N i D j (D.peers.getD j 0))=v:=⟨_,rfl⟩;rw [irl,hi,hF,hva] at E;rw [hF] at FD;rw [hi] at PI;have HA:=hid hi
 have AL:=hid (fun (w':World) (hb:Below w.heap.size w w') (q0 q1 q2:Nat) (nc:Cs w' q0 (netC S)) (c1:w'.cell? ⟨q1,0,none⟩=some (.int .i64 (i:Int))) (c2:w'.cell? ⟨q2,5,none⟩=some (.slice s.A s.n s.c))=>
  all_int 129 #[.pointer (some ⟨q0,0,none⟩),.pointer (some ⟨q1,0,none⟩),.pointer (some ⟨q2,0,none⟩)] enters_dom1 s.A s.n s.c D.peers w' (isl_rsl (up_rsl l1 hb)) (fun j=>prB N i D j (D.peers.getD j 0)) (fun k w2 hk hb2=>by
   rw [app23]
   exact dom1_any N S i D s k _ q0 q1 q2 w2 ((h.up hb).up hb2) hil hd (nc.below hb2) ((hb2.cell (p:=⟨q1,0,none⟩) (World.block_lt_of_cell? w' _ c1)).trans c1) ((hb2.cell (p:=⟨q2,5,none⟩) (World.block_lt_of_cell? w' _ c2)).trans c2) (isl_rsl (up_rsl (up_rsl l1 hb) hb2)) hk) va (by
    rw [←hva,List.all_eq_true,prl]
    exact ⟨fun g k hk=>g k (List.mem_range.2 hk),fun g k hk=>g k (List.mem_range.1 hk)⟩))
 have E:=hid E;unfold netV at FD;have FD:=hid FD;have PI:=hid PI;clear h hd irl prl hi hF hva l1;unfold netV
 go_enter Tryz.func72,Tryz.ntmps72
 go_upto_region 1 with fail
 obtain ⟨W,hW⟩:∃W,((w.alloc (.cells (nA S) 31)).alloc (.cells #[.int .i64 (i:Int)] 3)).alloc (.cells #[.int .i64 D.dev,.int .i64 D.vlan,.int .i64 D.vni,.int .i64 D.irb,.int .i64 D.row,.slice s.A s.n s.c] 54)=W:=⟨_,rfl⟩;have NC:=net_cs3 S _ _ _ [.int .i64 (i:Int)] [.int .i64 D.dev,.int .i64 D.vlan,.int .i64 D.vni,.int .i64 D.irb,.int .i64 D.row,.slice s.A s.n s.c] hW;rw [hW];clear hW;have NCS:=hid (show ∀wx,Below W.heap.size W wx→Cs wx w.heap.size (netC S) from fun wx hx=>NC.1.below hx)
 have KQ:=hid (show ∀wx,Below W.heap.size W wx→(NF wx w.heap.size S)∧wx.cell? ⟨w.heap.size+1,0,none⟩=some (.int .i64 (i:Int))∧(wx.cell? ⟨w.heap.size+2,0,none⟩=some (.int .i64 D.dev)∧wx.cell? ⟨w.heap.size+2,1,none⟩=some (.int .i64 D.vlan)∧wx.cell? ⟨w.heap.size+2,2,none⟩=some (.int .i64 D.vni)∧wx.cell? ⟨w.heap.size+2,3,none⟩=some (.int .i64 D.irb)∧wx.cell? ⟨w.heap.size+2,4,none⟩=some (.int .i64 D.row)∧wx.cell? ⟨w.heap.size+2,5,none⟩=some (.slice s.A s.n s.c))∧Below w.heap.size w wx from fun wx hx=>by
  have n:=(NC.1.below hx).1;have m:=(NC.2.1.below hx).1;have r:=(NC.2.2.1.below hx).1
  exact ⟨⟨n 0 _ rfl,n 1 _ rfl,n 2 _ rfl,n 3 _ rfl,n 4 _ rfl,n 5 _ rfl,n 6 _ rfl,n 7 _ rfl⟩,m 0 _ rfl,⟨r 0 _ rfl,r 1 _ rfl,r 2 _ rfl,r 3 _ rfl,r 4 _ rfl,r 5 _ rfl⟩,NC.2.2.2.trans (hx.mono NC.2.2.2.size)⟩)
 obtain ⟨⟨f0,f1,f2,f3,f4,f5,f6,f7⟩,g0,⟨d0,d1,d2,d3,d4,d5⟩,hB0⟩:=KQ.out W (Below.refl _ _);have ql:w.heap.size<W.heap.size:=NC.1.2;have ql1:w.heap.size+1<W.heap.size:=NC.2.1.2;have ql2:w.heap.size+2<W.heap.size:=NC.2.2.1.2;have B0:=hid hB0;clear hB0 NC
 by_cases t1:1≤D.vlan
 rotate_left
 · have z1:D.vlan<1:=by omega
   have EV:=hid (show V=false by rw [←E.out,decide_eq_false t1];simp);clear t1;go_wp2;go_ret;exact ⟨by rw [EV.out];rfl,B0.out⟩
 have z1:¬D.vlan<1:=by omega
 by_cases t2:D.vlan≤4094
 rotate_left
 · have z2:4094<D.vlan:=by omega
   have EV:=hid (show V=false by rw [←E.out,decide_eq_false t2];simp);clear t1 t2;go_wp2;go_ret;exact ⟨by rw [EV.out];rfl,B0.out⟩
 have z2:¬4094<D.vlan:=by omega
 by_cases t3:0≤D.vni
 rotate_left
 · have z3:D.vni<0:=by omega
   have EV:=hid (show V=false by rw [←E.out,decide_eq_false t3];simp);clear t1 t2 t3;go_wp2;go_ret;exact ⟨by rw [EV.out];rfl,B0.out⟩
 have z3:¬D.vni<0:=by omega
 by_cases t4:D.vni≤16777215
 rotate_left
 · have z4:16777215<D.vni:=by omega
   have EV:=hid (show V=false by rw [←E.out,decide_eq_false t4];simp);clear t1 t2 t3 t4;go_wp2;go_ret;exact ⟨by rw [EV.out];rfl,B0.out⟩
 have z4:¬16777215<D.vni:=by omega
 have E3:=E.out;rw [decide_eq_true t1,decide_eq_true t2,decide_eq_true t3,decide_eq_true t4] at E3;simp only [Bool.true_and] at E3;have E:=hid E3;clear E3 t1 t2 t3 t4
 go_upto_region 3 with fail
 obtain ⟨c3,hc3⟩:∃v,(decide (D.irb= -1) || (vi && decide ((N.irbs.getD D.irb.toNat IrbV.zero).dom=(i:Int))))=v:=⟨_,rfl⟩;have E3:=E.out;rw [hc3] at E3;have E:=hid E3;have HC3:=hid hc3;clear E3 hc3
 go_cut [46] (fun c wx=>c=.bool (!c3)∧Below W.heap.size W wx)
 case first=>
  clear f0 f1 f2 f3 f4 f5 f6 f7 g0 d0 d1 d2 d3 d4 d5
  by_cases t1:D.irb= -1
  · have z1_:(D.irb != -1)=false:=by simpa using t1
    have EC:=hid (show c3=true by rw [←HC3.out,decide_eq_true t1];rfl);clear t1;refine wp_region_text (fun wx=>Below W.heap.size W wx) (by kernel_rfl) (by kernel_rfl) ((Below.refl _ _).drew) ?_
    repeat
     first
      |(refine Seq.pass rfl ?_;simp only [Act.put,List.setIfInBounds_toArray,List.set_cons_zero,List.set_cons_succ])
      |(refine Seq.run ?_ rfl (fun wx hx=>?_) ?_
        rotate_left
        · obtain ⟨⟨f0,f1,f2,f3,f4,f5,f6,f7⟩,g0,⟨d0,d1,d2,d3,d4,d5⟩,hBx⟩:=KQ.out wx hx
          go_simp
          first
           |(refine StepRun.val ?_;exact hx)
        simp only [Act.put,List.setIfInBounds_toArray,List.set_cons_zero,List.set_cons_succ])
    refine Seq.last (fun w7 h7=>?_);go_wp2
    go_meet
    exact ⟨by rw [EC.out];rfl,h7⟩
  have z1_:(D.irb != -1)=true:=by simpa using t1
  cases vi with
  |false=>
   have EC:=hid (show c3=false by rw [←HC3.out,decide_eq_false t1];rfl);clear t1;refine wp_region_text (fun wx=>Below W.heap.size W wx) (by kernel_rfl) (by kernel_rfl) ((Below.refl _ _).drew) ?_
   repeat
    first
     |(refine Seq.pass rfl ?_;simp only [Act.put,List.setIfInBounds_toArray,List.set_cons_zero,List.set_cons_succ])
     |(refine Seq.run ?_ rfl (fun wx hx=>?_) ?_
       rotate_left
       · obtain ⟨⟨f0,f1,f2,f3,f4,f5,f6,f7⟩,g0,⟨d0,d1,d2,d3,d4,d5⟩,hBx⟩:=KQ.out wx hx
         go_simp
         first
          |(refine StepRun.val ?_;exact hx)
          |(refine StepRun.call (v:=.bool false) ?_;(with_reducible refine Calls.mono (PI.out _) ?_);rintro e w' ⟨rfl,hb⟩;subst hb;exact ⟨rfl,hx⟩)
       simp only [Act.put,List.setIfInBounds_toArray,List.set_cons_zero,List.set_cons_succ])
   refine Seq.last (fun w7 h7=>?_);go_wp2
   go_meet
   exact ⟨by rw [EC.out];rfl,h7⟩
  |true=>
  obtain ⟨a1,a2⟩:=(plB_iff _ _).1 HA.out;obtain ⟨x,hx⟩:=Int.eq_ofNat_of_zero_le a1
  have hxl:x<S.ir.n:=by omega
  obtain ⟨bp,op,vp,ep,_,hbp,hvs,rp⟩:=rsl_at HI.out x hxl IrbV.zero;have hvs:vp=irbC (N.irbs.getD x IrbV.zero):=hvs;subst hvs;have RP:=rangeAt_keep rp (B0.out.block bp hbp);have E5:=HC3.out;rw [show D.irb.toNat=x by rw [hx];rfl,decide_eq_false t1] at E5;generalize N.irbs.getD x IrbV.zero=R at *;have r1:=RP 1 _ rfl;rw [show op+x * irbR.n=op+x * 5 from rfl] at r1
  have lx:(x:Int)<(S.ir.n:Int):=by omega
  have hbp1:bp<W.heap.size:=Nat.lt_of_lt_of_le hbp B0.out.size;have PI2:=PI.out;rw [hx,ep] at PI2;rw [hx] at z1_;have PI:=hid PI2;have HX:=hid hx;have EP:=hid ep;have KR:=hid (show ∀wx,Below W.heap.size W wx→wx.cell? ⟨bp,op+x * 5+1,none⟩=some (.int .i64 R.dom) from fun wx hxx=>(hxx.cell (p:=⟨bp,_,none⟩) hbp1).trans r1);have HC4:=hid E5;clear rp RP a1 a2 hx ep E5 r1 t1 PI2
  by_cases t2:R.dom=(i:Int)
  · have z2_:(R.dom != (i:Int))=false:=by simpa using t2
    have EC:=hid (show c3=true by rw [←HC4.out,decide_eq_true t2];rfl);clear t2;refine wp_region_text (fun wx=>Below W.heap.size W wx) (by kernel_rfl) (by kernel_rfl) ((Below.refl _ _).drew) ?_
    repeat
     first
      |(refine Seq.pass rfl ?_;simp only [Act.put,List.setIfInBounds_toArray,List.set_cons_zero,List.set_cons_succ])
      |(refine Seq.run ?_ rfl (fun wx hx=>?_) ?_
        rotate_left
        · obtain ⟨⟨f0,f1,f2,f3,f4,f5,f6,f7⟩,g0,⟨d0,d1,d2,d3,d4,d5⟩,hBx⟩:=KQ.out wx hx
          have r1:=KR.out wx hx;rw [EP.out] at f7;rw [HX.out] at d3
          go_simp
          first
           |(refine StepRun.val ?_;exact hx)
           |(refine StepRun.call (v:=.bool true) ?_;(with_reducible refine Calls.mono (PI.out _) ?_);rintro e w' ⟨rfl,hb⟩;subst hb;exact ⟨rfl,hx⟩)
        simp only [Act.put,List.setIfInBounds_toArray,List.set_cons_zero,List.set_cons_succ])
    refine Seq.last (fun w7 h7=>?_);go_wp2
    go_meet
    exact ⟨by rw [EC.out];rfl,h7⟩
  · have z2_:(R.dom != (i:Int))=true:=by simpa using t2
    have EC:=hid (show c3=false by rw [←HC4.out,decide_eq_false t2];rfl);clear t2;refine wp_region_text (fun wx=>Below W.heap.size W wx) (by kernel_rfl) (by kernel_rfl) ((Below.refl _ _).drew) ?_
    repeat
     first
      |(refine Seq.pass rfl ?_;simp only [Act.put,List.setIfInBounds_toArray,List.set_cons_zero,List.set_cons_succ])
      |(refine Seq.run ?_ rfl (fun wx hx=>?_) ?_
        rotate_left
        · obtain ⟨⟨f0,f1,f2,f3,f4,f5,f6,f7⟩,g0,⟨d0,d1,d2,d3,d4,d5⟩,hBx⟩:=KQ.out wx hx
          have r1:=KR.out wx hx;rw [EP.out] at f7;rw [HX.out] at d3
          go_simp
          first
           |(refine StepRun.val ?_;exact hx)
           |(refine StepRun.call (v:=.bool true) ?_;(with_reducible refine Calls.mono (PI.out _) ?_);rintro e w' ⟨rfl,hb⟩;subst hb;exact ⟨rfl,hx⟩)
        simp only [Act.put,List.setIfInBounds_toArray,List.set_cons_zero,List.set_cons_succ])
    refine Seq.last (fun w7 h7=>?_);go_wp2
    go_meet
    exact ⟨by rw [EC.out];rfl,h7⟩
 case rest=>
 obtain ⟨rfl,hbw⟩:=hcut;rename World=>w5;have B5:=hid hbw;have X5:=hid (KQ.out _ hbw).2.2.2;clear hbw f0 f1 f2 f3 f4 f5 f6 f7 g0 d0 d1 d2 d3 d4 d5
 cases c3 with
 |false=>
  have EV:=hid (show V=false by (rw [←E.out]<;>rfl))
  go_wp2;go_ret;exact ⟨by rw [EV.out];rfl,X5.out⟩
 |true=>
 have E3:=E.out;simp only [Bool.true_and] at E3;have E:=hid E3;clear E3
 by_cases t1:F=(i:Int)
 rotate_left
 · have z1_:(F == (i:Int))=false:=by simpa using t1
   have EV:=hid (show V=false by rw [←E.out,decide_eq_false t1];rfl);clear t1;go_wp2;refine wp_region_text (fun wx=>Below w5.heap.size w5 wx) (by kernel_rfl) (by kernel_rfl) ((Below.refl _ _).drew) ?_
   repeat
    first
     |(refine Seq.pass rfl ?_;simp only [Act.put,List.setIfInBounds_toArray,List.set_cons_zero,List.set_cons_succ])
     |(refine Seq.run ?_ rfl (fun wx hx=>?_) ?_
       rotate_left
       · obtain ⟨⟨f0,f1,f2,f3,f4,f5,f6,f7⟩,g0,⟨d0,d1,d2,d3,d4,d5⟩,hBx⟩:=KQ.out wx (trans_below B5.out hx)
         go_simp
         first
          |(refine StepRun.val ?_;exact hx)
          |(refine StepRun.call (v:=.int .i64 F) ?_;(with_reducible refine Calls.mono (FD.out _ hBx) ?_);rintro e w' ⟨rfl,hb⟩;exact ⟨rfl,trans_below hx hb⟩)
       simp only [Act.put,List.setIfInBounds_toArray,List.set_cons_zero,List.set_cons_succ])
   refine Seq.last (fun w7 h7=>?_);have B7:=hid (KQ.out _ (trans_below B5.out h7)).2.2.2;go_wp2;go_ret;exact ⟨by rw [EV.out];rfl,B7.out⟩
 have z1_:(F == (i:Int))=true:=by simpa using t1
 have EV:=hid (show va=V by rw [←E.out,decide_eq_true t1];rfl);clear t1
 cases va
 all_goals
  go_wp2;refine wp_region_text (fun wx=>Below w5.heap.size w5 wx) (by kernel_rfl) (by kernel_rfl) ((Below.refl _ _).drew) ?_
  repeat
   first
    |(refine Seq.pass rfl ?_;simp only [Act.put,List.setIfInBounds_toArray,List.set_cons_zero,List.set_cons_succ])
    |(refine Seq.run ?_ rfl (fun wx hx=>?_) ?_
      rotate_left
      · obtain ⟨⟨f0,f1,f2,f3,f4,f5,f6,f7⟩,g0,⟨d0,d1,d2,d3,d4,d5⟩,hBx⟩:=KQ.out wx (trans_below B5.out hx)
        go_simp
        first
         |(refine StepRun.val ?_;exact hx)
         |(refine StepRun.call (v:=.int .i64 F) ?_;(with_reducible refine Calls.mono (FD.out _ hBx) ?_);rintro e w' ⟨rfl,hb⟩;exact ⟨rfl,trans_below hx hb⟩)
         |(refine StepRun.call (v:=.bool true) ?_;(with_reducible refine Calls.mono (AL.out _ hBx _ _ _ (NCS.out _ (trans_below B5.out hx)) g0 d5) ?_);rintro e w' ⟨rfl,hb⟩;exact ⟨rfl,trans_below hx hb⟩)
         |(refine StepRun.call (v:=.bool false) ?_;(with_reducible refine Calls.mono (AL.out _ hBx _ _ _ (NCS.out _ (trans_below B5.out hx)) g0 d5) ?_);rintro e w' ⟨rfl,hb⟩;exact ⟨rfl,trans_below hx hb⟩)
      simp only [Act.put,List.setIfInBounds_toArray,List.set_cons_zero,List.set_cons_succ])
  refine Seq.last (fun w7 h7=>?_);have B7:=hid (KQ.out _ (trans_below B5.out h7)).2.2.2;go_wp2;go_ret;exact ⟨by rw [←EV.out];rfl,B7.out⟩
end Go.Proofs.YtgmflecelnefcaaGreat
