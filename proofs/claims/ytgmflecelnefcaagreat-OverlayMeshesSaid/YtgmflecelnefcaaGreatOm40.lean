import Derived.Test.YtgmflecelnefcaaGreatOm26
import Derived.Test.YtgmflecelnefcaaGreatOm39
import Derived.Test.YtgmflecelnefcaaGreatOm12
import Derived.Test.YtgmflecelnefcaaGreatOm03
set_option maxRecDepth 100000
set_option maxHeartbeats 40000000
namespace Go.Proofs.YtgmflecelnefcaaGreat
open Go.Lib (hid)
open Go.RowKit
theorem agB_fd {N:NV} {f:FloodV} (h:fdF N f.dev f.vni<0):agB N f=false:=by unfold agB;rw [decide_eq_false (by omega)];rfl
theorem agB_all {N:NV} {f:FloodV} (h0:¬fdF N f.dev f.vni<0) (h:∀k,k<f.addrs.length→agA N f (f.addrs.getD k 0)=true):agB N f=true:=by
 unfold agB;rw [decide_eq_true (by omega),Bool.true_and,List.all_eq_true];intro x hx;obtain ⟨k,hk,rfl⟩:=List.getElem_of_mem hx
 have:=h k hk
 simpa [List.getD,hk] using this
theorem agB_no {N:NV} {f:FloodV} {k:Nat} (hk:k<f.addrs.length) (h:agA N f (f.addrs.getD k 0)=false):agB N f=false:=by
 rw [Bool.eq_false_iff];intro g;unfold agB at g;rw [Bool.and_eq_true,List.all_eq_true] at g
 have:=g.2 (f.addrs.getD k 0) (by simp [List.getD,hk])
 rw [h] at this
 cases this
theorem agA_bad {N:NV} {f:FloodV} {a:Int} (h:a=0∨owF N a<0∨fdF N (owF N a) f.vni<0∨lsF N (owF N a) f.vni<0):agA N f a=false:=by
 rw [Bool.eq_false_iff];intro g;obtain ⟨g1,g2,g3,g4,_⟩:=agA_iff.1 g;omega
theorem agA_own {N:NV} {f:FloodV} {a:Int} (h:memB (farL N f a) (N.devices.getD f.dev.toNat DevV.zero).vtep=false):agA N f a=false:=by
 rw [Bool.eq_false_iff];intro g;obtain ⟨_,_,_,_,g5,_⟩:=agA_iff.1 g;rw [h] at g5
 cases g5
theorem agA_x {N:NV} {f:FloodV} {a:Int} {k:Nat} (hk:k<f.addrs.length) (h1:f.addrs.getD k 0≠a) (h2:memB (farL N f a) (f.addrs.getD k 0)=false):agA N f a=false:=by
 rw [Bool.eq_false_iff];intro g;obtain ⟨_,_,_,_,_,g6⟩:=agA_iff.1 g
 rcases g6 (f.addrs.getD k 0) (by simp [List.getD,hk]) with e|e
 · exact h1 e
 · exact absurd (decide_eq_true e) (by unfold memB at h2;rw [h2];decide)
theorem agA_all {N:NV} {f:FloodV} {a:Int} (h:¬(a=0∨owF N a<0∨fdF N (owF N a) f.vni<0∨lsF N (owF N a) f.vni<0)) (hm:memB (farL N f a) (N.devices.getD f.dev.toNat DevV.zero).vtep=true) (hx:∀k,k<f.addrs.length→f.addrs.getD k 0=a∨memB (farL N f a) (f.addrs.getD k 0)=true):agA N f a=true:=by
 refine agA_iff.2 ⟨fun e=>h (.inl e),by omega,by omega,by omega,hm,fun x hx'=>?_⟩;obtain ⟨k,hk,rfl⟩:=List.getElem_of_mem hx'
 rcases hx k hk with e|e
 · exact .inl (by simpa [List.getD,hk] using e)
 · exact .inr (by have:=of_decide_eq_true e;simpa [List.getD,hk] using this)
theorem ragrees_any (N:NV) (S:NSl3) (f:FloodV) (s:Sl3) (w:World) (h:NRead w (allB w) N S) (hs:RSl (Rdr.int .u32) w (allB w) s.A s.n s.c f.addrs) (hf:plB f.dev (N.devices.length:Int)=true):Calls Tryz.prog 44 #[netV S,.agg #[.int .i64 f.row,.int .i64 f.dev,.int .i64 f.vni,.slice s.A s.n s.c]] w fun e w'=>e=.returned (.bool (agB N f))∧Below w.heap.size w w':=by
 obtain ⟨p1,p2⟩:=(plB_iff _ _).1 hf;obtain ⟨d,hd⟩:=Int.eq_ofNat_of_zero_le p1
 have hdl:d<N.devices.length:=by omega
 have FD0:=fun (w':World) (hb:Below w.heap.size w w')=>rfind_any N S f.dev f.vni w' (h.up hb)
 have OW:=fun (a:Int) (w':World) (hb:Below w.heap.size w w')=>rowner_any N S a w' (h.up hb)
 have FD:=fun (x:Int) (w':World) (hb:Below w.heap.size w w')=>rfind_any N S x f.vni w' (h.up hb)
 have LS:=fun (x:Int) (w':World) (hb:Below w.heap.size w w')=>rlist19_any N S x f.vni w' (h.up hb)
 have BF:=hid (agB_fd (N:=N) (f:=f));have BA:=hid (agB_all (N:=N) (f:=f));have BN:=hid (fun k hk=>agB_no (N:=N) (f:=f) (k:=k) hk);obtain ⟨R,hR⟩:∃R,agB N f=R:=⟨_,rfl⟩;have T1:=BF.out;have T2:=BA.out;have T3:=BN.out;obtain ⟨fd,hfd⟩:∃v,fdF N f.dev f.vni=v:=⟨_,rfl⟩;rw [hR,hfd] at T1 T2;rw [hR] at T3 ⊢;rw [hfd] at FD0;replace BF:=hid T1;replace BA:=hid T2;replace BN:=hid T3;have HFL:=hid h.fl
 have HDV:=hid h.dv;have HS:=hid hs;have hle:=h.fl.le;have hcap:=h.fl.cap;have dle:=h.dv.le;have dcap:=h.dv.cap;have sle:=hs.le;have scap:=hs.cap;have FLEN:=hid h.fl.len;have DLEN:=hid h.dv.len;have SLEN:=hid hs.len;unfold netV at FD0 OW FD LS ⊢;replace FD0:=hid FD0;replace OW:=hid OW;replace FD:=hid FD;replace LS:=hid LS;have HD:=hid hd
 have K0:=hid (show ∀W,(w.alloc (.cells (nA S) 31)).alloc (.cells #[.int .i64 f.row,.int .i64 f.dev,.int .i64 f.vni,.slice s.A s.n s.c] 71)=W→Below w.heap.size w W∧∀wx,Below W.heap.size W wx→NF wx w.heap.size S∧(wx.cell? ⟨w.heap.size+1,0,none⟩=some (.int .i64 f.row)∧wx.cell? ⟨w.heap.size+1,1,none⟩=some (.int .i64 f.dev)∧wx.cell? ⟨w.heap.size+1,2,none⟩=some (.int .i64 f.vni)∧wx.cell? ⟨w.heap.size+1,3,none⟩=some (.slice s.A s.n s.c))∧Below w.heap.size w wx from fun W hW=>by
  have NC:=net_cs S _ _ [.int .i64 f.row,.int .i64 f.dev,.int .i64 f.vni,.slice s.A s.n s.c] hW;refine ⟨NC.2.2,fun wx hx=>?_⟩;have n:=(NC.1.below hx).1;have r:=(NC.2.1.below hx).1
  exact ⟨⟨n 0 _ rfl,n 1 _ rfl,n 2 _ rfl,n 3 _ rfl,n 4 _ rfl,n 5 _ rfl,n 6 _ rfl,n 7 _ rfl⟩,⟨r 0 _ rfl,r 1 _ rfl,r 2 _ rfl,r 3 _ rfl⟩,trans_below NC.2.2 hx⟩)
 clear h hs hf p1 p2 hd hR hfd T1 T2 T3
 go_enter Tryz.func44,Tryz.ntmps44
 go_upto_region 1 with fail
 obtain ⟨W,hW⟩:∃W,(w.alloc (.cells (nA S) 31)).alloc (.cells #[.int .i64 f.row,.int .i64 f.dev,.int .i64 f.vni,.slice s.A s.n s.c] 71)=W:=⟨_,rfl⟩;have B0:=hid (K0.out W hW).1;have KQ:=hid (K0.out W hW).2;rw [hW];clear hW K0;have Y0:=hid (Below.refl W.heap.size W);obtain ⟨⟨f0,f1,f2,f3,f4,f5,f6,f7⟩,⟨g0,g1,g2,g3⟩,hx_⟩:=KQ.out _ Y0.out;clear hx_
 by_cases c0:fd<0
 · have EV:=hid (BF.out c0)
   go_wp2_with (go_at_call 20;(with_reducible refine (FD0.out _ B0.out).mono ?_);rintro e w1_ ⟨rfl,hb⟩;have Y1_:=hid (trans_below Y0.out hb);obtain ⟨⟨f0,f1,f2,f3,f4,f5,f6,f7⟩,⟨g0,g1,g2,g3⟩,hx_⟩:=KQ.out _ Y1_.out;have X1_:=hid hx_;clear hb hx_);go_ret;exact ⟨by rw [EV.out];rfl,X1_.out⟩
 replace BA:=hid (BA.out c0);go_wp2_with (go_at_call 20;(with_reducible refine (FD0.out _ B0.out).mono ?_);rintro e w1_ ⟨rfl,hb⟩;have Y1_:=hid (trans_below Y0.out hb);obtain ⟨⟨f0,f1,f2,f3,f4,f5,f6,f7⟩,⟨g0,g1,g2,g3⟩,hx_⟩:=KQ.out _ Y1_.out;have X1_:=hid hx_;clear hb hx_);clear f0 f1 f2 f3 f4 f5 f6 f7 g0 g1 g2 g3
 go_loopw [5] (fun i wr=>∃k:Nat,i=.int .i64 k∧k≤s.n∧Below W.heap.size W wr∧∀j,j<k→agA N f (f.addrs.getD j 0)=true) (fun i _=>match i with| .int _ y=>(s.n - y).toNat|_=>0)
 case atStart=>exact ⟨0,rfl,by omega,Y1_.out,fun j hj=>absurd hj (Nat.not_lt_zero _)⟩
 case round=>
 obtain ⟨k,rfl,hk,hb,hall⟩:=hrel;have YR:=hid hb;have AL:=hid hall;clear hb hall;obtain ⟨⟨f0,f1,f2,f3,f4,f5,f6,f7⟩,⟨g0,g1,g2,g3⟩,hx_⟩:=KQ.out _ YR.out;have XR:=hid hx_;clear hx_
 by_cases hlt:k<s.n
 rotate_left
 · have lt2:¬(k:Int)<(s.n:Int):=by omega
   have EV:=hid (BA.out (fun j hj=>AL.out j (by have:=SLEN.out;omega)));go_wp2;go_ret;exact ⟨by rw [EV.out];rfl,XR.out⟩
 have lt2:(k:Int)<(s.n:Int):=by omega
 obtain ⟨ba,oa,es,hba,hca⟩:=(isl_rsl HS.out).2.2.2 (by omega);have cell:=hca k hlt
 have hkl:k<f.addrs.length:=by have:=SLEN.out;omega
 have NOK:=hid (BN.out k hkl);obtain ⟨a,ha⟩:∃a,f.addrs.getD k 0=a:=⟨_,rfl⟩
 have ALk:=hid (show agA N f a=true→∀j,j<k+1→agA N f (f.addrs.getD j 0)=true from fun g j hj=>by
  rcases Nat.lt_or_ge j k with h'|h'
  · exact AL.out j h'
  · obtain rfl:j=k:=by omega
    rw [ha];exact g)
 have T0:=NOK.out;rw [ha] at cell T0;replace NOK:=hid T0;have ES:=hid es;have CA:=hid hca
 have KA:=hid (show ∀wx,Below W.heap.size W wx→NF wx w.heap.size S∧(wx.cell? ⟨w.heap.size+1,0,none⟩=some (.int .i64 f.row)∧wx.cell? ⟨w.heap.size+1,1,none⟩=some (.int .i64 (d:Int))∧wx.cell? ⟨w.heap.size+1,2,none⟩=some (.int .i64 f.vni)∧wx.cell? ⟨w.heap.size+1,3,none⟩=some (.slice (some ⟨ba,oa,none⟩) s.n s.c))∧wx.cell? ⟨ba,oa+k,none⟩=some (.int .u32 a)∧Below w.heap.size w wx from fun wx hx=>by
  obtain ⟨nf,⟨g0,g1,g2,g3⟩,hb⟩:=KQ.out wx hx;rw [HD.out] at g1;rw [es] at g3
  exact ⟨nf,⟨g0,g1,g2,g3⟩,(hb.cell (p:=⟨ba,oa+k,none⟩) hba).trans cell,hb⟩)
 rw [es] at g3;have A1:=hid (fun g=>NOK.out (agA_bad (N:=N) (f:=f) (a:=a) g));have A2:=hid (fun g=>NOK.out (agA_own (N:=N) (f:=f) (a:=a) g));have A3:=hid (fun m hm h1 h2=>NOK.out (agA_x (N:=N) (f:=f) (a:=a) (k:=m) hm h1 h2));have A4:=hid (fun g1 g2 g3=>ALk.out (agA_all (N:=N) (f:=f) (a:=a) g1 g2 g3));have FL0:=hid (show farL N f a=(N.floods.getD (lsF N (owF N a) f.vni).toNat FloodV.zero).addrs from rfl)
 have LP:=hid (ls_place N (owF N a) f.vni);have OWa:=OW.out a;have FDa:=FD.out (owF N a);have LSa:=LS.out (owF N a);have HBA:=hid hba;clear T0 NOK ALk AL ha cell hca hba es;generalize owF N a=o at *;generalize fdF N o f.vni=fo at *;generalize lsF N o f.vni=lo at *;have OWa:=hid OWa;have FDa:=hid FDa;have LSa:=hid LSa;clear f0 f1 f2 f3 f4 f5 f6 f7 g0 g1 g2 g3;rename World=>w2;obtain ⟨⟨f0,f1,f2,f3,f4,f5,f6,f7⟩,⟨g0,g1,g2,g3⟩,ca_,hx_⟩:=KA.out _ YR.out
 clear hx_
 go_upto_region 6 with fail
 clear f0 f1 f2 f3 f4 f5 f6 f7 g0 g1 g2 g3 ca_;refine wp_region_text (fun wx=>Below W.heap.size W wx) (by kernel_rfl) (by kernel_rfl) (below_drewN YR.out 1) ?_
 repeat
  first
   |(refine Seq.pass rfl ?_;simp only [Act.put,List.setIfInBounds_toArray,List.set_cons_zero,List.set_cons_succ])
   |(refine Seq.run ?_ rfl (fun wx hx=>?_) ?_
     rotate_left
     · obtain ⟨⟨f0,f1,f2,f3,f4,f5,f6,f7⟩,⟨g0,g1,g2,g3⟩,ca_,hBx⟩:=KA.out wx hx
       go_simp
       first
        |(refine StepRun.val ?_;exact hx)
        |(refine StepRun.call (v:=.int .i64 o) ?_;(with_reducible refine Calls.mono (OWa.out _ hBx) ?_);rintro e w' ⟨rfl,hb⟩;exact ⟨rfl,trans_below hx hb⟩)
     simp only [Act.put,List.setIfInBounds_toArray,List.set_cons_zero,List.set_cons_succ])
 refine Seq.last (fun w6 h6=>?_);have Y6:=hid h6;clear h6;obtain ⟨⟨f0,f1,f2,f3,f4,f5,f6,f7⟩,⟨g0,g1,g2,g3⟩,ca_,hx_⟩:=KA.out _ Y6.out;have X6:=hid hx_;clear hx_
 by_cases c1:a=0
 · have y1:(a == 0)=true:=by simpa using c1
   have EV:=hid (A1.out (.inl c1));clear c1;go_wp2;go_ret;exact ⟨by rw [EV.out];rfl,X6.out⟩
 have y1:(a == 0)=false:=by simpa using c1
 by_cases c2:o<0
 · have EV:=hid (A1.out (.inr (.inl c2)))
   clear c1;go_wp2;go_ret;exact ⟨by rw [EV.out];rfl,X6.out⟩
 by_cases c3:fo<0
 · have EV:=hid (A1.out (.inr (.inr (.inl c3))))
   clear c1;go_wp2_with (go_at_call 20;(with_reducible refine (FDa.out _ X6.out).mono ?_);rintro e w7_ ⟨rfl,hb⟩;have Y7_:=hid (trans_below Y6.out hb);obtain ⟨⟨f0,f1,f2,f3,f4,f5,f6,f7⟩,⟨g0,g1,g2,g3⟩,ca_,hx_⟩:=KA.out _ Y7_.out;have X7_:=hid hx_;clear hb hx_);go_ret;exact ⟨by rw [EV.out];rfl,X7_.out⟩
 by_cases c4:lo<0
 · have EV:=hid (A1.out (.inr (.inr (.inr c4))))
   clear c1
   go_wp2_with (first
    |(go_at_call 20;(with_reducible refine (FDa.out _ X6.out).mono ?_);rintro e w7_ ⟨rfl,hb⟩;have Y7_:=hid (trans_below Y6.out hb);obtain ⟨⟨f0,f1,f2,f3,f4,f5,f6,f7⟩,⟨g0,g1,g2,g3⟩,ca_,hx_⟩:=KA.out _ Y7_.out;have X7_:=hid hx_;clear hb hx_)
    |(go_at_call 39;(with_reducible refine (LSa.out _ X7_.out).mono ?_);rintro e w8_ ⟨rfl,hb⟩;have Y8_:=hid (trans_below Y7_.out hb);obtain ⟨⟨f0,f1,f2,f3,f4,f5,f6,f7⟩,⟨g0,g1,g2,g3⟩,ca_,hx_⟩:=KA.out _ Y8_.out;have X8_:=hid hx_;clear hb hx_))
   go_ret;exact ⟨by rw [EV.out];rfl,X8_.out⟩
 replace A4:=hid (fun g2 g3=>A4.out (fun e=>by rcases e with e|e|e|e;exact c1 e;exact c2 e;exact c3 e;exact c4 e) g2 g3);obtain ⟨j,hj,ej,_,_⟩:=LP.out.resolve_left (by omega);subst ej;have FE:=FL0.out;rw [show ((j:Int)).toNat=j from rfl] at FE;obtain ⟨bf,of,vs,ef,_,hbf,⟨u,rfl,lu⟩,rf_⟩:=rsl_at HFL.out j (by have:=FLEN.out;omega) FloodV.zero;obtain ⟨bd,od,vd,ed,_,hbd,hvd,rd⟩:=rsl_at HDV.out d (by have:=DLEN.out;omega) DevV.zero
 have hvd:vd=devC (N.devices.getD d DevV.zero):=hvd;subst hvd;rw [←FE] at lu;have T2:=A2.out;have T4:=A4.out;rw [HD.out,show ((d:Int)).toNat=d from rfl] at T2 T4;replace A2:=hid T2;replace A4:=hid T4;have UL:=hid lu;have ule:=lu.le;have ucap:=lu.cap
 have KF:=hid (show ∀wx,Below W.heap.size W wx→wx.cell? ⟨bf,of+j * 4+3,none⟩=some (.slice u.A u.n u.c)∧wx.cell? ⟨bd,od+d * 5+4,none⟩=some (.int .u32 (N.devices.getD d DevV.zero).vtep) from fun wx hx=>by
  have hb:=trans_below B0.out hx
  exact ⟨rangeAt_keep rf_ (hb.block bf hbf) 3 _ rfl,rangeAt_keep rd (hb.block bd hbd) 4 _ rfl⟩)
 have lj:(j:Int)<(S.fl.n:Int):=by have:=FLEN.out;omega
 have ld:(d:Int)<(S.dv.n:Int):=by have:=DLEN.out;omega
 have EF:=hid ef;have ED:=hid ed;have LS9:=LSa.out;rw [ef] at LS9;have LSb:=hid LS9;have HH:=hid (fun (x:Int) (w':World) (hb:Below w.heap.size w w')=>rhas19_any u.A u.n u.c (farL N f a) x w' (isl_rsl (up_rsl lu hb)));generalize farL N f a=T at *;generalize (N.devices.getD d DevV.zero).vtep=own at *;clear FE rf_ rd hbf hbd c1 ef ed lu T2 T4 LS9 FL0 LP
 go_upto_region 9 with (first
  |(go_at_call 20;(with_reducible refine (FDa.out _ X6.out).mono ?_);rintro e w7_ ⟨rfl,hb⟩;have Y7_:=hid (trans_below Y6.out hb);obtain ⟨⟨f0,f1,f2,f3,f4,f5,f6,f7⟩,⟨g0,g1,g2,g3⟩,ca_,hx_⟩:=KA.out _ Y7_.out;have X7_:=hid hx_;clear hb hx_)
  |(go_at_call 39;(with_reducible refine (LSa.out _ X7_.out).mono ?_);rintro e w8_ ⟨rfl,hb⟩;have Y8_:=hid (trans_below Y7_.out hb);obtain ⟨⟨f0,f1,f2,f3,f4,f5,f6,f7⟩,⟨g0,g1,g2,g3⟩,ca_,hx_⟩:=KA.out _ Y8_.out;have X8_:=hid hx_;clear hb hx_))
 clear f0 f1 f2 f3 f4 f5 f6 f7 g0 g1 g2 g3 ca_;refine wp_region_text (fun wx=>Below W.heap.size W wx) (by kernel_rfl) (by kernel_rfl) (below_drewN Y8_.out 1) ?_
 repeat
  first
   |(refine Seq.pass rfl ?_;simp only [Act.put,List.setIfInBounds_toArray,List.set_cons_zero,List.set_cons_succ])
   |(refine Seq.run ?_ rfl (fun wx hx=>?_) ?_
     rotate_left
     · obtain ⟨⟨f0,f1,f2,f3,f4,f5,f6,f7⟩,⟨g0,g1,g2,g3⟩,ca_,hBx⟩:=KA.out wx hx
       rw [EF.out] at f5;obtain ⟨k1_,_⟩:=KF.out wx hx
       go_simp
       first
        |(refine StepRun.val ?_;exact hx)
        |(refine StepRun.call (v:=.int .i64 (j:Int)) ?_;(with_reducible refine Calls.mono (LSb.out _ hBx) ?_);rintro e w' ⟨rfl,hb⟩;exact ⟨rfl,trans_below hx hb⟩)
     simp only [Act.put,List.setIfInBounds_toArray,List.set_cons_zero,List.set_cons_succ])
 refine Seq.last (fun w9 h9=>?_);have Y9:=hid h9;clear h9;obtain ⟨mb,hmb⟩:∃b,memB T own=b:=⟨_,rfl⟩;have H1:=HH.out own;rw [hmb] at H1;have H1:=hid H1;have T2:=A2.out;have T4:=A4.out;rw [hmb] at T2 T4;replace A2:=hid T2;replace A4:=hid T4;clear hmb T2 T4;obtain ⟨⟨f0,f1,f2,f3,f4,f5,f6,f7⟩,⟨g0,g1,g2,g3⟩,ca_,hx_⟩:=KA.out _ Y9.out;have X9:=hid hx_;clear hx_;obtain ⟨_,k2_⟩:=KF.out _ Y9.out
 rw [ED.out] at f0;have c1_:=ca_
 cases mb
 · have EV:=hid (A2.out rfl)
   go_wp2_with (go_at_call 40;(with_reducible refine (H1.out _ X9.out).mono ?_);rintro e wh_ ⟨rfl,rfl⟩);go_ret;exact ⟨by rw [EV.out];rfl,X9.out⟩
 replace A4:=hid (A4.out rfl);go_wp2_with (go_at_call 40;(with_reducible refine (H1.out _ X9.out).mono ?_);rintro e wh_ ⟨rfl,rfl⟩);clear f0 f1 f2 f3 f4 f5 f6 f7 g0 g1 g2 g3 ca_ k2_ c1_
 go_loopw [8] (fun i wr=>∃m:Nat,i=.int .i64 m∧m≤s.n∧Below W.heap.size W wr∧∀j,j<m→f.addrs.getD j 0=a∨memB T (f.addrs.getD j 0)=true) (fun i _=>match i with| .int _ y=>(s.n - y).toNat|_=>0)
 case atStart=>exact ⟨0,rfl,by omega,Y9.out,fun j hj=>absurd hj (Nat.not_lt_zero _)⟩
 case round=>
 obtain ⟨m,rfl,hm,hb,hall⟩:=hrel;have YS:=hid hb;have AL:=hid hall;clear hb hall;obtain ⟨⟨f0,f1,f2,f3,f4,f5,f6,f7⟩,⟨g0,g1,g2,g3⟩,ca_,hx_⟩:=KA.out _ YS.out;clear hx_
 by_cases hl2:m<s.n
 rotate_left
 · have lt3:¬(m:Int)<(s.n:Int):=by omega
   have ALL:=hid (A4.out (fun j hj=>AL.out j (by have:=SLEN.out;omega)));go_wp2
   go_roundw
   case rel=>exact ⟨k+1,by simp,by omega,YS.out,ALL.out⟩
   case measure=>simp only [];omega
 have lt3:(m:Int)<(s.n:Int):=by omega
 have hml:m<f.addrs.length:=by have:=SLEN.out;omega
 have cell:=CA.out m hl2;have A5:=A3.out m hml;obtain ⟨x,hx⟩:∃x,f.addrs.getD m 0=x:=⟨_,rfl⟩
 have ALm:=hid (show (x=a∨memB T x=true)→∀j,j<m+1→f.addrs.getD j 0=a∨memB T (f.addrs.getD j 0)=true from fun g j hj=>by
  rcases Nat.lt_or_ge j m with h'|h'
  · exact AL.out j h'
  · obtain rfl:j=m:=by omega
    rw [hx];exact g)
 rw [hx] at cell A5;have A5:=hid A5
 have KX:=hid (show ∀wx,Below W.heap.size W wx→wx.cell? ⟨w.heap.size+1,3,none⟩=some (.slice (some ⟨ba,oa,none⟩) s.n s.c)∧wx.cell? ⟨ba,oa+k,none⟩=some (.int .u32 a)∧wx.cell? ⟨ba,oa+m,none⟩=some (.int .u32 x)∧Below w.heap.size w wx from fun wx hx=>by
  obtain ⟨_,⟨_,_,_,g3⟩,ca,hb⟩:=KA.out wx hx
  exact ⟨g3,ca,(hb.cell (p:=⟨ba,oa+m,none⟩) HBA.out).trans cell,hb⟩)
 obtain ⟨mx,hmx⟩:∃b,memB T x=b:=⟨_,rfl⟩;have H2:=HH.out x;rw [hmx] at H2;have H2:=hid H2;have T5:=A5.out;have T6:=ALm.out;rw [hmx] at T5 T6;replace A5:=hid T5;replace ALm:=hid T6;clear hx hmx cell T5 T6 AL;rename World=>w3
 go_upto_region 15 with fail
 clear f0 f1 f2 f3 f4 f5 f6 f7 g0 g1 g2 g3 ca_
 by_cases e1:x=a
 · have y5:(x != a)=false:=by simpa using e1
   have ALL:=hid (ALm.out (.inl e1));clear e1;refine wp_region_text (fun wx=>Below W.heap.size W wx) (by kernel_rfl) (by kernel_rfl) (below_drewN YS.out 1) ?_
   repeat
    first
     |(refine Seq.pass rfl ?_;simp only [Act.put,List.setIfInBounds_toArray,List.set_cons_zero,List.set_cons_succ])
     |(refine Seq.run ?_ rfl (fun wx hx=>?_) ?_
       rotate_left
       · obtain ⟨g3,ca_,cx_,hBx⟩:=KX.out wx hx
         go_simp
         first
          |(refine StepRun.val ?_;exact hx)
       simp only [Act.put,List.setIfInBounds_toArray,List.set_cons_zero,List.set_cons_succ])
   refine Seq.last (fun w7 h7=>?_);go_wp2
   go_roundw
   case rel=>exact ⟨m+1,by simp,by omega,h7,ALL.out⟩
   case measure=>simp only [];omega
 have y5:(x != a)=true:=by simpa using e1
 cases mx
 · have EV:=hid (A5.out e1 rfl)
   clear e1;refine wp_region_text (fun wx=>Below W.heap.size W wx) (by kernel_rfl) (by kernel_rfl) (below_drewN YS.out 1) ?_
   repeat
    first
     |(refine Seq.pass rfl ?_;simp only [Act.put,List.setIfInBounds_toArray,List.set_cons_zero,List.set_cons_succ])
     |(refine Seq.run ?_ rfl (fun wx hx=>?_) ?_
       rotate_left
       · obtain ⟨g3,ca_,cx_,hBx⟩:=KX.out wx hx
         go_simp
         first
          |(refine StepRun.val ?_;exact hx)
          |(refine StepRun.call (v:=.bool false) ?_;(with_reducible refine Calls.mono (H2.out _ hBx) ?_);rintro e w' ⟨rfl,rfl⟩;exact ⟨rfl,hx⟩)
       simp only [Act.put,List.setIfInBounds_toArray,List.set_cons_zero,List.set_cons_succ])
   refine Seq.last (fun w7 h7=>?_);have XE:=trans_below B0.out h7;go_wp2;go_ret;exact ⟨by rw [EV.out];rfl,XE⟩
 have ALL:=hid (ALm.out (.inr rfl));clear e1;refine wp_region_text (fun wx=>Below W.heap.size W wx) (by kernel_rfl) (by kernel_rfl) (below_drewN YS.out 1) ?_
 repeat
  first
   |(refine Seq.pass rfl ?_;simp only [Act.put,List.setIfInBounds_toArray,List.set_cons_zero,List.set_cons_succ])
   |(refine Seq.run ?_ rfl (fun wx hx=>?_) ?_
     rotate_left
     · obtain ⟨g3,ca_,cx_,hBx⟩:=KX.out wx hx
       go_simp
       first
        |(refine StepRun.val ?_;exact hx)
        |(refine StepRun.call (v:=.bool true) ?_;(with_reducible refine Calls.mono (H2.out _ hBx) ?_);rintro e w' ⟨rfl,rfl⟩;exact ⟨rfl,hx⟩)
     simp only [Act.put,List.setIfInBounds_toArray,List.set_cons_zero,List.set_cons_succ])
 refine Seq.last (fun w7 h7=>?_);go_wp2
 go_roundw
 case rel=>exact ⟨m+1,by simp,by omega,h7,ALL.out⟩
 case measure=>simp only [];omega
end Go.Proofs.YtgmflecelnefcaaGreat
