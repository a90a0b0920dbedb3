import Derived.Test.YtgmflecelnefcaaGreatOp41
import Derived.Test.YtgmflecelnefcaaGreatOp15
import Derived.Test.YtgmflecelnefcaaGreatOp30
import Derived.Test.YtgmflecelnefcaaGreatOp34
import Derived.Test.YtgmflecelnefcaaGreatOp12
import Derived.Test.YtgmflecelnefcaaGreatOp25
import Derived.Test.YtgmflecelnefcaaGreatOp37
import Derived.Test.YtgmflecelnefcaaGreatOp04
import Derived.Lib.SlKept
import Derived.Lib.SliceRun
import Derived.Shelf.RegionOpenPlain
set_option maxRecDepth 100000
set_option maxHeartbeats 40000000
namespace Go.Proofs.YtgmflecelnefcaaGreat
open Go.Lib (hid)
open Go.RowKit
def GotOwn (N:NV) (w:World) (e:Ending) (w':World):Prop:=∃S',e=.returned (vAm S')∧(ROwn (devR.nf w.heap.size) w' w.heap.size 58 (.slice S'.dv.A S'.dv.n S'.dv.c) N.devices∧ROwn (portR.nf w.heap.size) w' w.heap.size 68 (.slice S'.pt.A S'.pt.n S'.pt.c) N.ports∧ROwn (linkR.nf w.heap.size) w' w.heap.size 84 (.slice S'.lk.A S'.lk.n S'.lk.c) N.links∧ROwn (domR.nf w.heap.size) w' w.heap.size 54 (.slice S'.dm.A S'.dm.n S'.dm.c) N.domains∧ROwn (statR.nf w.heap.size) w' w.heap.size 89 (.slice S'.st.A S'.st.n S'.st.c) N.statics∧ROwn (floodR.nf w.heap.size) w' w.heap.size 71 (.slice S'.fl.A S'.fl.n S'.fl.c) N.floods∧ROwn (vrfR.nf w.heap.size) w' w.heap.size 74 (.slice S'.vr.A S'.vr.n S'.vr.c) N.vrfs∧ROwn (irbR.nf w.heap.size) w' w.heap.size 98 (.slice S'.ir.A S'.ir.n S'.ir.c) N.irbs)∧Below w.heap.size w w'
theorem res_net (tmps:Array Value) (W:World) (S:NSl3) (q:Nat) (h2:tmps[2]?.getD undef=.pointer (some ⟨q,0,none⟩)) (hb:Cs W q (vBk S)):
 (results Tryz.f42 tmps).run Tryz.prog W=.ok (vAm S) W:=by
 have t0:=hb.1 0 _ rfl;have t1:=hb.1 1 _ rfl;have t2:=hb.1 2 _ rfl;have t3:=hb.1 3 _ rfl;have t4:=hb.1 4 _ rfl;have t5:=hb.1 5 _ rfl;have t6:=hb.1 6 _ rfl;have t7:=hb.1 7 _ rfl;clear hb;unfold vAm;simp [results,Tryz.results42,go_sem,h2,t0,t1,t2,t3,t4,t5,t6,t7]
structure CI (N:NV) (S:NSl3) (w W:World) (u0 u1 u2 u3 u4 u5 u6 u7:Sl3) (x3 x4 x5 x6 x7 x8 x9 x10 x11 x12 x13 x14 x15 x16 x17 x18 x19 x20 x21 x22 x23 x24 x25 x26 x27:Value) (d:Nat→Bool) (w':World):Prop where
 h3:d 0=true→x3=.pointer (some ⟨w.heap.size,0,none⟩)
 h4:d 1=true→x4=.slice S.dv.A S.dv.n S.dv.c
 h5:d 2=true→x5=.slice u0.A u0.n u0.c
 h6:d 3=true→x6=.pointer (some ⟨w.heap.size,1,none⟩)
 h7:d 4=true→x7=.slice S.pt.A S.pt.n S.pt.c
 h8:d 5=true→x8=.slice u1.A u1.n u1.c
 h9:d 6=true→x9=.pointer (some ⟨w.heap.size,2,none⟩)
 h10:d 7=true→x10=.slice S.lk.A S.lk.n S.lk.c
 h11:d 8=true→x11=.slice u2.A u2.n u2.c
 h12:d 9=true→x12=.pointer (some ⟨w.heap.size,3,none⟩)
 h13:d 10=true→x13=.slice S.dm.A S.dm.n S.dm.c
 h14:d 11=true→x14=.slice u3.A u3.n u3.c
 h15:d 12=true→x15=.pointer (some ⟨w.heap.size,4,none⟩)
 h16:d 13=true→x16=.slice S.st.A S.st.n S.st.c
 h17:d 14=true→x17=.slice u4.A u4.n u4.c
 h18:d 15=true→x18=.pointer (some ⟨w.heap.size,5,none⟩)
 h19:d 16=true→x19=.slice S.fl.A S.fl.n S.fl.c
 h20:d 17=true→x20=.slice u5.A u5.n u5.c
 h21:d 18=true→x21=.pointer (some ⟨w.heap.size,6,none⟩)
 h22:d 19=true→x22=.slice S.vr.A S.vr.n S.vr.c
 h23:d 20=true→x23=.slice u6.A u6.n u6.c
 h24:d 21=true→x24=.pointer (some ⟨w.heap.size,7,none⟩)
 h25:d 22=true→x25=.slice S.ir.A S.ir.n S.ir.c
 h26:d 23=true→x26=.slice u7.A u7.n u7.c
 h27:d 24=true→x27=.agg #[.slice u0.A u0.n u0.c,.slice u1.A u1.n u1.c,.slice u2.A u2.n u2.c,.slice u3.A u3.n u3.c,.slice u4.A u4.n u4.c,.slice u5.A u5.n u5.c,.slice u6.A u6.n u6.c,.slice u7.A u7.n u7.c]
 l0:d 24=true→d 2=true
 l1:d 24=true→d 5=true
 l2:d 24=true→d 8=true
 l3:d 24=true→d 11=true
 l4:d 24=true→d 14=true
 l5:d 24=true→d 17=true
 l6:d 24=true→d 20=true
 l7:d 24=true→d 23=true
 l25:d 25=true→d 24=true
 r0:d 2=true→ROwn (devR.nf W.heap.size) w' W.heap.size 58 (.slice u0.A u0.n u0.c) N.devices
 r1:d 5=true→ROwn (portR.nf W.heap.size) w' W.heap.size 68 (.slice u1.A u1.n u1.c) N.ports
 r2:d 8=true→ROwn (linkR.nf W.heap.size) w' W.heap.size 84 (.slice u2.A u2.n u2.c) N.links
 r3:d 11=true→ROwn (domR.nf W.heap.size) w' W.heap.size 54 (.slice u3.A u3.n u3.c) N.domains
 r4:d 14=true→ROwn (statR.nf W.heap.size) w' W.heap.size 89 (.slice u4.A u4.n u4.c) N.statics
 r5:d 17=true→ROwn (floodR.nf W.heap.size) w' W.heap.size 71 (.slice u5.A u5.n u5.c) N.floods
 r6:d 20=true→ROwn (vrfR.nf W.heap.size) w' W.heap.size 74 (.slice u6.A u6.n u6.c) N.vrfs
 r7:d 23=true→ROwn (irbR.nf W.heap.size) w' W.heap.size 98 (.slice u7.A u7.n u7.c) N.irbs
 c0:w'.cell? ⟨w.heap.size,0,none⟩=some (.slice S.dv.A S.dv.n S.dv.c)
 c1:w'.cell? ⟨w.heap.size,1,none⟩=some (.slice S.pt.A S.pt.n S.pt.c)
 c2:w'.cell? ⟨w.heap.size,2,none⟩=some (.slice S.lk.A S.lk.n S.lk.c)
 c3:w'.cell? ⟨w.heap.size,3,none⟩=some (.slice S.dm.A S.dm.n S.dm.c)
 c4:w'.cell? ⟨w.heap.size,4,none⟩=some (.slice S.st.A S.st.n S.st.c)
 c5:w'.cell? ⟨w.heap.size,5,none⟩=some (.slice S.fl.A S.fl.n S.fl.c)
 c6:w'.cell? ⟨w.heap.size,6,none⟩=some (.slice S.vr.A S.vr.n S.vr.c)
 c7:w'.cell? ⟨w.heap.size,7,none⟩=some (.slice S.ir.A S.ir.n S.ir.c)
 q:w.heap.size<w'.heap.size
 z:Cs w' (w.heap.size+1) (if d 25=true then [.slice u0.A u0.n u0.c,.slice u1.A u1.n u1.c,.slice u2.A u2.n u2.c,.slice u3.A u3.n u3.c,.slice u4.A u4.n u4.c,.slice u5.A u5.n u5.c,.slice u6.A u6.n u6.c,.slice u7.A u7.n u7.c] else [.slice none 0 0,.slice none 0 0,.slice none 0 0,.slice none 0 0,.slice none 0 0,.slice none 0 0,.slice none 0 0,.slice none 0 0])
 fz:∀o,w'.frozen? ⟨w.heap.size+1,o,none⟩=false
 b:Below w.heap.size w w'
 sz:W.heap.size≤w'.heap.size
inductive CW (N:NV) (S:NSl3) (w W:World) (d:Nat→Bool):Act→World→Prop
 |mk (u0 u1 u2 u3 u4 u5 u6 u7:Sl3) {x3 x4 x5 x6 x7 x8 x9 x10 x11 x12 x13 x14 x15 x16 x17 x18 x19 x20 x21 x22 x23 x24 x25 x26 x27:Value} {w':World}:CI N S w W u0 u1 u2 u3 u4 u5 u6 u7 x3 x4 x5 x6 x7 x8 x9 x10 x11 x12 x13 x14 x15 x16 x17 x18 x19 x20 x21 x22 x23 x24 x25 x26 x27 d w'→CW N S w W d {tmps:=#[.agg #[.slice S.dv.A S.dv.n S.dv.c,.slice S.pt.A S.pt.n S.pt.c,.slice S.lk.A S.lk.n S.lk.c,.slice S.dm.A S.dm.n S.dm.c,.slice S.st.A S.st.n S.st.c,.slice S.fl.A S.fl.n S.fl.c,.slice S.vr.A S.vr.n S.vr.c,.slice S.ir.A S.ir.n S.ir.c],.pointer (some ⟨w.heap.size,0,none⟩),.pointer (some ⟨w.heap.size+1,0,none⟩),x3,x4,x5,x6,x7,x8,x9,x10,x11,x12,x13,x14,x15,x16,x17,x18,x19,x20,x21,x22,x23,x24,x25,x26,x27],defers:=[]} w'
theorem CI.below {N:NV} {S:NSl3} {w W:World} {u0 u1 u2 u3 u4 u5 u6 u7:Sl3} {x3 x4 x5 x6 x7 x8 x9 x10 x11 x12 x13 x14 x15 x16 x17 x18 x19 x20 x21 x22 x23 x24 x25 x26 x27:Value} {d:Nat→Bool} {w' w2:World} (h:CI N S w W u0 u1 u2 u3 u4 u5 u6 u7 x3 x4 x5 x6 x7 x8 x9 x10 x11 x12 x13 x14 x15 x16 x17 x18 x19 x20 x21 x22 x23 x24 x25 x26 x27 d w') (hb:Below w'.heap.size w' w2):CI N S w W u0 u1 u2 u3 u4 u5 u6 u7 x3 x4 x5 x6 x7 x8 x9 x10 x11 x12 x13 x14 x15 x16 x17 x18 x19 x20 x21 x22 x23 x24 x25 x26 x27 d w2:=by
 obtain ⟨h3,h4,h5,h6,h7,h8,h9,h10,h11,h12,h13,h14,h15,h16,h17,h18,h19,h20,h21,h22,h23,h24,h25,h26,h27,l0,l1,l2,l3,l4,l5,l6,l7,l25,r0,r1,r2,r3,r4,r5,r6,r7,c0,c1,c2,c3,c4,c5,c6,c7,q,z,fz,b,sz⟩:=h
 constructor
 case r0=>exact fun g=>(r0 g).below hb
 case r1=>exact fun g=>(r1 g).below hb
 case r2=>exact fun g=>(r2 g).below hb
 case r3=>exact fun g=>(r3 g).below hb
 case r4=>exact fun g=>(r4 g).below hb
 case r5=>exact fun g=>(r5 g).below hb
 case r6=>exact fun g=>(r6 g).below hb
 case r7=>exact fun g=>(r7 g).below hb
 case q=>exact Nat.lt_of_lt_of_le q hb.size
 case z=>exact z.below hb
 case fz=>exact fun o=>(World.frozen?_of_block (w:=w') (a:=⟨w.heap.size+1,o,none⟩) (hb.block _ z.2)).trans (fz o)
 case b=>exact b.trans (hb.mono b.size)
 case sz=>exact Nat.le_trans sz hb.size
 all_goals first|assumption|exact Eq.trans (hb.cell (by exact q)) ‹_›
theorem vDk {d:Nat→Bool} {a b:Nat} (h:d b=true→d a=true) (e:d a=false):d b=false:=by
 cases hx:d b with
 |false=>rfl
 |true=>rw [h hx] at e;cases e
theorem xncopy_own (N:NV) (S:NSl3) (w:World) (h:NRead w (vAp w) N S) (hs:NvSz N) (hm:NmSz N):Calls Tryz.prog 42 #[vAm S] w (GotOwn N w):=by
 have A0:=fun (w':World) (hb:Below w.heap.size w w')=>each_dev S.dv.A S.dv.n S.dv.c N.devices w' (vAn h.dv hb) (by have:=hs.zdv;have:=h.dv.len;omega) (fun k hk=>hm.dv k (by have:=h.dv.len;omega))
 unfold GotO at A0;have A0:=hid A0
 have A1:=fun (w':World) (hb:Below w.heap.size w w')=>each_port S.pt.A S.pt.n S.pt.c N.ports w' (vAn h.pt hb) (by have:=hs.zpt;have:=h.pt.len;omega) (fun k hk=>⟨hs.ipt k (by have:=h.pt.len;omega),hm.pt k (by have:=h.pt.len;omega)⟩)
 unfold GotO at A1;have A1:=hid A1
 have A2:=fun (w':World) (hb:Below w.heap.size w w')=>cl_link S.lk N.links w' (vAn h.lk hb) (by have:=hs.zlk;omega)
 unfold GotO at A2;have A2:=hid A2
 have A3:=fun (w':World) (hb:Below w.heap.size w w')=>each_dom S.dm.A S.dm.n S.dm.c N.domains w' (vAn h.dm hb) (by have:=hs.zdm;have:=h.dm.len;omega) (fun k hk=>hs.idm k (by have:=h.dm.len;omega))
 unfold GotO at A3;have A3:=hid A3
 have A4:=fun (w':World) (hb:Below w.heap.size w w')=>cl_stat S.st N.statics w' (vAn h.st hb) (by have:=hs.zst;omega)
 unfold GotO at A4;have A4:=hid A4
 have A5:=fun (w':World) (hb:Below w.heap.size w w')=>each_flood S.fl.A S.fl.n S.fl.c N.floods w' (vAn h.fl hb) (by have:=hs.zfl;have:=h.fl.len;omega) (fun k hk=>hs.ifl k (by have:=h.fl.len;omega))
 unfold GotO at A5;have A5:=hid A5
 have A6:=fun (w':World) (hb:Below w.heap.size w w')=>each_vrf S.vr.A S.vr.n S.vr.c N.vrfs w' (vAn h.vr hb) (by have:=hs.zvr;have:=h.vr.len;omega) (fun k hk=>⟨(hs.ivr k (by have:=h.vr.len;omega)).1,(hs.ivr k (by have:=h.vr.len;omega)).2,hm.vr k (by have:=h.vr.len;omega)⟩)
 unfold GotO at A6;have A6:=hid A6
 have A7:=fun (w':World) (hb:Below w.heap.size w w')=>cl_irb S.ir N.irbs w' (vAn h.ir hb) (by have:=hs.zir;omega)
 unfold GotO at A7;have A7:=hid A7;clear h hs hm;unfold GotOwn;unfold vAm
 go_enter Tryz.func42,Tryz.ntmps42
 go_upto_region 1 with fail
 obtain ⟨W,hW⟩:∃W,(w.alloc (.cells #[.slice S.dv.A S.dv.n S.dv.c,.slice S.pt.A S.pt.n S.pt.c,.slice S.lk.A S.lk.n S.lk.c,.slice S.dm.A S.dm.n S.dm.c,.slice S.st.A S.st.n S.st.c,.slice S.fl.A S.fl.n S.fl.c,.slice S.vr.A S.vr.n S.vr.c,.slice S.ir.A S.ir.n S.ir.c] 31)).alloc (.cells #[.slice none 0 0,.slice none 0 0,.slice none 0 0,.slice none 0 0,.slice none 0 0,.slice none 0 0,.slice none 0 0,.slice none 0 0] 31)=W:=⟨_,rfl⟩
 have NC:=hid (vHk S _ _ [.slice none 0 0,.slice none 0 0,.slice none 0 0,.slice none 0 0,.slice none 0 0,.slice none 0 0,.slice none 0 0,.slice none 0 0] hW);have FA:=hid (show ∀o,W.frozen? ⟨w.heap.size+1,o,none⟩=false from fun o=>by rw [←hW];simp [go_sem]);rw [hW];clear hW;have ql:w.heap.size<W.heap.size:=NC.out.1.2;have ql2:w.heap.size+1<W.heap.size:=NC.out.2.1.2;refine vCb (CW N S w W) (by kernel_rfl) (by kernel_rfl) ?_ ?_ ?_
 · refine CW.mk Sl3.nil Sl3.nil Sl3.nil Sl3.nil Sl3.nil Sl3.nil Sl3.nil Sl3.nil ?_
   have c:=(NC.out.1.below (vAd (Below.refl _ _) 1:Below W.heap.size W W.drew)).1
   constructor
   case q=>simpa using ql
   case z=>have h0:=NC.out.2.1.below (vAd (Below.refl _ _) 1:Below W.heap.size W W.drew);rw [if_neg (by simp)];exact h0
   case fz=>exact FA.out
   case b=>exact vAd NC.out.2.2 1
   case sz=>exact Nat.le_refl _
   all_goals first|exact c _ _ rfl|exact fun h=>by cases h
 · rintro d a w' j o @⟨u0,u1,u2,u3,u4,u5,u6,u7,x3,x4,x5,x6,x7,x8,x9,x10,x11,x12,x13,x14,x15,x16,x17,x18,x19,x20,x21,x22,x23,x24,x25,x26,x27,_,hv⟩ ho hd hdep
   have hw:=hv;obtain ⟨h3,h4,h5,h6,h7,h8,h9,h10,h11,h12,h13,h14,h15,h16,h17,h18,h19,h20,h21,h22,h23,h24,h25,h26,h27,l0,l1,l2,l3,l4,l5,l6,l7,l25,r0,r1,r2,r3,r4,r5,r6,r7,c0,c1,c2,c3,c4,c5,c6,c7,q,z,fz,b,sz⟩:=hv
   rcases j with _|_|_|_|_|_|_|_|_|_|_|_|_|_|_|_|_|_|_|_|_|_|_|_|_|_|j
   · cases ho
     refine .inl ⟨rfl,?_⟩
     go_simp
     refine CW.mk u0 u1 u2 u3 u4 u5 u6 u7 ?_
     constructor
     all_goals first|assumption|exact fun _=>rfl
   · cases ho
     have e0_:=hdep 0 (by kernel_rfl);obtain rfl:=h3 e0_;refine .inl ⟨rfl,?_⟩
     go_simp
     refine CW.mk u0 u1 u2 u3 u4 u5 u6 u7 ?_
     constructor
     all_goals first|assumption|exact fun _=>rfl
   · cases ho
     have e1_:=hdep 1 (by kernel_rfl);obtain rfl:=h4 e1_;have e24:=vDk l0 hd;have e25:=vDk l25 e24;rw [e25] at z;simp only [Bool.false_eq_true,if_false] at z;refine .inl ⟨rfl,?_⟩
     go_simp
     refine (A0.out _ b).mono ?_;rintro e w2 ⟨v,rfl,hr,hb⟩;refine ⟨_,rfl,?_⟩
     cases hw.below hb
     refine CW.mk v u1 u2 u3 u4 u5 u6 u7 ?_
     constructor
     case l0=>exact fun _=>by simp
     case r0=>exact fun _=>hr.lowN sz
     case h27=>exact fun h=>by simp [e24] at h
     case z=>exact by simpa [e25] using z.below hb
     all_goals first|assumption|exact fun _=>rfl
   · cases ho
     refine .inl ⟨rfl,?_⟩
     go_simp
     refine CW.mk u0 u1 u2 u3 u4 u5 u6 u7 ?_
     constructor
     all_goals first|assumption|exact fun _=>rfl
   · cases ho
     have e3_:=hdep 3 (by kernel_rfl);obtain rfl:=h6 e3_;refine .inl ⟨rfl,?_⟩
     go_simp
     refine CW.mk u0 u1 u2 u3 u4 u5 u6 u7 ?_
     constructor
     all_goals first|assumption|exact fun _=>rfl
   · cases ho
     have e4_:=hdep 4 (by kernel_rfl);obtain rfl:=h7 e4_;have e24:=vDk l1 hd;have e25:=vDk l25 e24;rw [e25] at z;simp only [Bool.false_eq_true,if_false] at z;refine .inl ⟨rfl,?_⟩
     go_simp
     refine (A1.out _ b).mono ?_;rintro e w2 ⟨v,rfl,hr,hb⟩;refine ⟨_,rfl,?_⟩
     cases hw.below hb
     refine CW.mk u0 v u2 u3 u4 u5 u6 u7 ?_
     constructor
     case l1=>exact fun _=>by simp
     case r1=>exact fun _=>hr.lowN sz
     case h27=>exact fun h=>by simp [e24] at h
     case z=>exact by simpa [e25] using z.below hb
     all_goals first|assumption|exact fun _=>rfl
   · cases ho
     refine .inl ⟨rfl,?_⟩
     go_simp
     refine CW.mk u0 u1 u2 u3 u4 u5 u6 u7 ?_
     constructor
     all_goals first|assumption|exact fun _=>rfl
   · cases ho
     have e6_:=hdep 6 (by kernel_rfl);obtain rfl:=h9 e6_;refine .inl ⟨rfl,?_⟩
     go_simp
     refine CW.mk u0 u1 u2 u3 u4 u5 u6 u7 ?_
     constructor
     all_goals first|assumption|exact fun _=>rfl
   · cases ho
     have e7_:=hdep 7 (by kernel_rfl);obtain rfl:=h10 e7_;have e24:=vDk l2 hd;have e25:=vDk l25 e24;rw [e25] at z;simp only [Bool.false_eq_true,if_false] at z;refine .inl ⟨rfl,?_⟩
     go_simp
     refine (A2.out _ b).mono ?_;rintro e w2 ⟨v,rfl,hr,hb⟩;refine ⟨_,rfl,?_⟩
     cases hw.below hb
     refine CW.mk u0 u1 v u3 u4 u5 u6 u7 ?_
     constructor
     case l2=>exact fun _=>by simp
     case r2=>exact fun _=>hr.lowN sz
     case h27=>exact fun h=>by simp [e24] at h
     case z=>exact by simpa [e25] using z.below hb
     all_goals first|assumption|exact fun _=>rfl
   · cases ho
     refine .inl ⟨rfl,?_⟩
     go_simp
     refine CW.mk u0 u1 u2 u3 u4 u5 u6 u7 ?_
     constructor
     all_goals first|assumption|exact fun _=>rfl
   · cases ho
     have e9_:=hdep 9 (by kernel_rfl);obtain rfl:=h12 e9_;refine .inl ⟨rfl,?_⟩
     go_simp
     refine CW.mk u0 u1 u2 u3 u4 u5 u6 u7 ?_
     constructor
     all_goals first|assumption|exact fun _=>rfl
   · cases ho
     have e10_:=hdep 10 (by kernel_rfl);obtain rfl:=h13 e10_;have e24:=vDk l3 hd;have e25:=vDk l25 e24;rw [e25] at z;simp only [Bool.false_eq_true,if_false] at z;refine .inl ⟨rfl,?_⟩
     go_simp
     refine (A3.out _ b).mono ?_;rintro e w2 ⟨v,rfl,hr,hb⟩;refine ⟨_,rfl,?_⟩
     cases hw.below hb
     refine CW.mk u0 u1 u2 v u4 u5 u6 u7 ?_
     constructor
     case l3=>exact fun _=>by simp
     case r3=>exact fun _=>hr.lowN sz
     case h27=>exact fun h=>by simp [e24] at h
     case z=>exact by simpa [e25] using z.below hb
     all_goals first|assumption|exact fun _=>rfl
   · cases ho
     refine .inl ⟨rfl,?_⟩
     go_simp
     refine CW.mk u0 u1 u2 u3 u4 u5 u6 u7 ?_
     constructor
     all_goals first|assumption|exact fun _=>rfl
   · cases ho
     have e12_:=hdep 12 (by kernel_rfl);obtain rfl:=h15 e12_;refine .inl ⟨rfl,?_⟩
     go_simp
     refine CW.mk u0 u1 u2 u3 u4 u5 u6 u7 ?_
     constructor
     all_goals first|assumption|exact fun _=>rfl
   · cases ho
     have e13_:=hdep 13 (by kernel_rfl);obtain rfl:=h16 e13_;have e24:=vDk l4 hd;have e25:=vDk l25 e24;rw [e25] at z;simp only [Bool.false_eq_true,if_false] at z;refine .inl ⟨rfl,?_⟩
     go_simp
     refine (A4.out _ b).mono ?_;rintro e w2 ⟨v,rfl,hr,hb⟩;refine ⟨_,rfl,?_⟩
     cases hw.below hb
     refine CW.mk u0 u1 u2 u3 v u5 u6 u7 ?_
     constructor
     case l4=>exact fun _=>by simp
     case r4=>exact fun _=>hr.lowN sz
     case h27=>exact fun h=>by simp [e24] at h
     case z=>exact by simpa [e25] using z.below hb
     all_goals first|assumption|exact fun _=>rfl
   · cases ho
     refine .inl ⟨rfl,?_⟩
     go_simp
     refine CW.mk u0 u1 u2 u3 u4 u5 u6 u7 ?_
     constructor
     all_goals first|assumption|exact fun _=>rfl
   · cases ho
     have e15_:=hdep 15 (by kernel_rfl);obtain rfl:=h18 e15_;refine .inl ⟨rfl,?_⟩
     go_simp
     refine CW.mk u0 u1 u2 u3 u4 u5 u6 u7 ?_
     constructor
     all_goals first|assumption|exact fun _=>rfl
   · cases ho
     have e16_:=hdep 16 (by kernel_rfl);obtain rfl:=h19 e16_;have e24:=vDk l5 hd;have e25:=vDk l25 e24;rw [e25] at z;simp only [Bool.false_eq_true,if_false] at z;refine .inl ⟨rfl,?_⟩
     go_simp
     refine (A5.out _ b).mono ?_;rintro e w2 ⟨v,rfl,hr,hb⟩;refine ⟨_,rfl,?_⟩
     cases hw.below hb
     refine CW.mk u0 u1 u2 u3 u4 v u6 u7 ?_
     constructor
     case l5=>exact fun _=>by simp
     case r5=>exact fun _=>hr.lowN sz
     case h27=>exact fun h=>by simp [e24] at h
     case z=>exact by simpa [e25] using z.below hb
     all_goals first|assumption|exact fun _=>rfl
   · cases ho
     refine .inl ⟨rfl,?_⟩
     go_simp
     refine CW.mk u0 u1 u2 u3 u4 u5 u6 u7 ?_
     constructor
     all_goals first|assumption|exact fun _=>rfl
   · cases ho
     have e18_:=hdep 18 (by kernel_rfl);obtain rfl:=h21 e18_;refine .inl ⟨rfl,?_⟩
     go_simp
     refine CW.mk u0 u1 u2 u3 u4 u5 u6 u7 ?_
     constructor
     all_goals first|assumption|exact fun _=>rfl
   · cases ho
     have e19_:=hdep 19 (by kernel_rfl);obtain rfl:=h22 e19_;have e24:=vDk l6 hd;have e25:=vDk l25 e24;rw [e25] at z;simp only [Bool.false_eq_true,if_false] at z;refine .inl ⟨rfl,?_⟩
     go_simp
     refine (A6.out _ b).mono ?_;rintro e w2 ⟨v,rfl,hr,hb⟩;refine ⟨_,rfl,?_⟩
     cases hw.below hb
     refine CW.mk u0 u1 u2 u3 u4 u5 v u7 ?_
     constructor
     case l6=>exact fun _=>by simp
     case r6=>exact fun _=>hr.lowN sz
     case h27=>exact fun h=>by simp [e24] at h
     case z=>exact by simpa [e25] using z.below hb
     all_goals first|assumption|exact fun _=>rfl
   · cases ho
     refine .inl ⟨rfl,?_⟩
     go_simp
     refine CW.mk u0 u1 u2 u3 u4 u5 u6 u7 ?_
     constructor
     all_goals first|assumption|exact fun _=>rfl
   · cases ho
     have e21_:=hdep 21 (by kernel_rfl);obtain rfl:=h24 e21_;refine .inl ⟨rfl,?_⟩
     go_simp
     refine CW.mk u0 u1 u2 u3 u4 u5 u6 u7 ?_
     constructor
     all_goals first|assumption|exact fun _=>rfl
   · cases ho
     have e22_:=hdep 22 (by kernel_rfl);obtain rfl:=h25 e22_;have e24:=vDk l7 hd;have e25:=vDk l25 e24;rw [e25] at z;simp only [Bool.false_eq_true,if_false] at z;refine .inl ⟨rfl,?_⟩
     go_simp
     refine (A7.out _ b).mono ?_;rintro e w2 ⟨v,rfl,hr,hb⟩;refine ⟨_,rfl,?_⟩
     cases hw.below hb
     refine CW.mk u0 u1 u2 u3 u4 u5 u6 v ?_
     constructor
     case l7=>exact fun _=>by simp
     case r7=>exact fun _=>hr.lowN sz
     case h27=>exact fun h=>by simp [e24] at h
     case z=>exact by simpa [e25] using z.below hb
     all_goals first|assumption|exact fun _=>rfl
   · cases ho
     have e2_:=hdep 2 (by kernel_rfl);obtain rfl:=h5 e2_;have e5_:=hdep 5 (by kernel_rfl);obtain rfl:=h8 e5_;have e8_:=hdep 8 (by kernel_rfl);obtain rfl:=h11 e8_;have e11_:=hdep 11 (by kernel_rfl);obtain rfl:=h14 e11_;have e14_:=hdep 14 (by kernel_rfl);obtain rfl:=h17 e14_;have e17_:=hdep 17 (by kernel_rfl);obtain rfl:=h20 e17_;have e20_:=hdep 20 (by kernel_rfl);obtain rfl:=h23 e20_;have e23_:=hdep 23 (by kernel_rfl)
     obtain rfl:=h26 e23_;refine .inl ⟨rfl,?_⟩
     go_simp
     refine CW.mk u0 u1 u2 u3 u4 u5 u6 u7 ?_
     constructor
     case l0=>exact fun _=>by simpa using e2_
     case l1=>exact fun _=>by simpa using e5_
     case l2=>exact fun _=>by simpa using e8_
     case l3=>exact fun _=>by simpa using e11_
     case l4=>exact fun _=>by simpa using e14_
     case l5=>exact fun _=>by simpa using e17_
     case l6=>exact fun _=>by simpa using e20_
     case l7=>exact fun _=>by simpa using e23_
     case l25=>exact fun _=>by simp
     all_goals first|assumption|exact fun _=>rfl
   · cases ho
     have e24_:=hdep 24 (by kernel_rfl);obtain rfl:=h27 e24_;rw [hd] at z;simp only [Bool.false_eq_true,if_false] at z;have y0:=z.1 0 _ rfl;have g0:=fz 0;have y1:=z.1 1 _ rfl;have g1:=fz 1;have y2:=z.1 2 _ rfl;have g2:=fz 2;have y3:=z.1 3 _ rfl;have g3:=fz 3;have y4:=z.1 4 _ rfl;have g4:=fz 4;have y5:=z.1 5 _ rfl;have g5:=fz 5;have y6:=z.1 6 _ rfl;have g6:=fz 6;have y7:=z.1 7 _ rfl;have g7:=fz 7;have q2:=z.2
     have ZZ:=((((((((z.set 0 (.slice u0.A u0.n u0.c) (by simp)).set 1 (.slice u1.A u1.n u1.c) (by simp)).set 2 (.slice u2.A u2.n u2.c) (by simp)).set 3 (.slice u3.A u3.n u3.c) (by simp)).set 4 (.slice u4.A u4.n u4.c) (by simp)).set 5 (.slice u5.A u5.n u5.c) (by simp)).set 6 (.slice u6.A u6.n u6.c) (by simp)).set 7 (.slice u7.A u7.n u7.c) (by simp));have BB:=((((((((b.setCell (p:=⟨w.heap.size+1,0,none⟩) (by simp) (.slice u0.A u0.n u0.c)).setCell (p:=⟨w.heap.size+1,1,none⟩) (by simp) (.slice u1.A u1.n u1.c)).setCell (p:=⟨w.heap.size+1,2,none⟩) (by simp) (.slice u2.A u2.n u2.c)).setCell (p:=⟨w.heap.size+1,3,none⟩) (by simp) (.slice u3.A u3.n u3.c)).setCell (p:=⟨w.heap.size+1,4,none⟩) (by simp) (.slice u4.A u4.n u4.c)).setCell (p:=⟨w.heap.size+1,5,none⟩) (by simp) (.slice u5.A u5.n u5.c)).setCell (p:=⟨w.heap.size+1,6,none⟩) (by simp) (.slice u6.A u6.n u6.c)).setCell (p:=⟨w.heap.size+1,7,none⟩) (by simp) (.slice u7.A u7.n u7.c))
     have hh:∀b,b≠w.heap.size+1→((((((((w'.setCell ⟨w.heap.size+1,0,none⟩ (.slice u0.A u0.n u0.c)).setCell ⟨w.heap.size+1,1,none⟩ (.slice u1.A u1.n u1.c)).setCell ⟨w.heap.size+1,2,none⟩ (.slice u2.A u2.n u2.c)).setCell ⟨w.heap.size+1,3,none⟩ (.slice u3.A u3.n u3.c)).setCell ⟨w.heap.size+1,4,none⟩ (.slice u4.A u4.n u4.c)).setCell ⟨w.heap.size+1,5,none⟩ (.slice u5.A u5.n u5.c)).setCell ⟨w.heap.size+1,6,none⟩ (.slice u6.A u6.n u6.c)).setCell ⟨w.heap.size+1,7,none⟩ (.slice u7.A u7.n u7.c)).heap[b]?=w'.heap[b]?:=fun b hb=>by rw [Below.heap_setCell _ _ _ _ (by simpa using hb),Below.heap_setCell _ _ _ _ (by simpa using hb),Below.heap_setCell _ _ _ _ (by simpa using hb),Below.heap_setCell _ _ _ _ (by simpa using hb),Below.heap_setCell _ _ _ _ (by simpa using hb),Below.heap_setCell _ _ _ _ (by simpa using hb),Below.heap_setCell _ _ _ _ (by simpa using hb),Below.heap_setCell _ _ _ _ (by simpa using hb)]
     have hc:=fun o=>World.cell?_of_block (w:=w') (a:=⟨w.heap.size,o,none⟩) (hh _ (show w.heap.size≠w.heap.size+1 by omega))
     refine .inl ⟨rfl,?_⟩
     go_simp
     refine CW.mk u0 u1 u2 u3 u4 u5 u6 u7 ?_
     constructor
     case r0=>exact fun h=>(r0 (by simpa using h)).keepN (fun b g _=>hh b (by omega)) (by simp)
     case r1=>exact fun h=>(r1 (by simpa using h)).keepN (fun b g _=>hh b (by omega)) (by simp)
     case r2=>exact fun h=>(r2 (by simpa using h)).keepN (fun b g _=>hh b (by omega)) (by simp)
     case r3=>exact fun h=>(r3 (by simpa using h)).keepN (fun b g _=>hh b (by omega)) (by simp)
     case r4=>exact fun h=>(r4 (by simpa using h)).keepN (fun b g _=>hh b (by omega)) (by simp)
     case r5=>exact fun h=>(r5 (by simpa using h)).keepN (fun b g _=>hh b (by omega)) (by simp)
     case r6=>exact fun h=>(r6 (by simpa using h)).keepN (fun b g _=>hh b (by omega)) (by simp)
     case r7=>exact fun h=>(r7 (by simpa using h)).keepN (fun b g _=>hh b (by omega)) (by simp)
     case c0=>exact (hc 0).trans c0
     case c1=>exact (hc 1).trans c1
     case c2=>exact (hc 2).trans c2
     case c3=>exact (hc 3).trans c3
     case c4=>exact (hc 4).trans c4
     case c5=>exact (hc 5).trans c5
     case c6=>exact (hc 6).trans c6
     case c7=>exact (hc 7).trans c7
     case l25=>exact fun _=>by simpa using e24_
     case q=>exact by simpa using q
     case z=>exact by simpa using ZZ
     case fz=>exact fun o=>by simp only [World.frozen?_setCell];exact fz o
     case b=>exact BB
     case sz=>exact by simpa using sz
     all_goals first|assumption|exact fun _=>rfl
   · simp at ho
 · rintro d a w' @⟨u0,u1,u2,u3,u4,u5,u6,u7,x3,x4,x5,x6,x7,x8,x9,x10,x11,x12,x13,x14,x15,x16,x17,x18,x19,x20,x21,x22,x23,x24,x25,x26,x27,_,hv⟩ hall
   obtain ⟨h3,h4,h5,h6,h7,h8,h9,h10,h11,h12,h13,h14,h15,h16,h17,h18,h19,h20,h21,h22,h23,h24,h25,h26,h27,l0,l1,l2,l3,l4,l5,l6,l7,l25,r0,r1,r2,r3,r4,r5,r6,r7,c0,c1,c2,c3,c4,c5,c6,c7,q,z,fz,b,sz⟩:=hv;have e25:=hall 25 (by decide);rw [if_pos e25] at z
   have z0:w.heap.size≤W.heap.size:=by omega
   have RD:=hid (show _∧_∧_∧_∧_∧_∧_∧_ from ⟨(r0 (hall 2 (by decide))).lowN z0,(r1 (hall 5 (by decide))).lowN z0,(r2 (hall 8 (by decide))).lowN z0,(r3 (hall 11 (by decide))).lowN z0,(r4 (hall 14 (by decide))).lowN z0,(r5 (hall 17 (by decide))).lowN z0,(r6 (hall 20 (by decide))).lowN z0,(r7 (hall 23 (by decide))).lowN z0⟩);have ZC:=hid (show Cs w' (w.heap.size+1) (vBk ⟨u0,u1,u2,u3,u4,u5,u6,u7⟩) from z)
   have BF:=hid b;clear h3 h4 h5 h6 h7 h8 h9 h10 h11 h12 h13 h14 h15 h16 h17 h18 h19 h20 h21 h22 h23 h24 h25 h26 h27 l0 l1 l2 l3 l4 l5 l6 l7 l25 r0 r1 r2 r3 r4 r5 r6 r7 c0 c1 c2 c3 c4 c5 c6 c7 q fz b sz z hall e25;go_wp2;refine bodyPost_ret (res_net _ _ ⟨u0,u1,u2,u3,u4,u5,u6,u7⟩ (w.heap.size+1) rfl ZC.out) rfl ?_;exact ⟨⟨u0,u1,u2,u3,u4,u5,u6,u7⟩,rfl,RD.out,BF.out⟩
theorem GotOwn.own {N:NV} {w w':World} {e:Ending} (h:GotOwn N w e w'):∃S,e=.returned (vAm S)∧NOwn w' w.heap.size (fun _=>False) N S∧Below w.heap.size w w':=by
 obtain ⟨S,rfl,⟨h1,h2,h3,h4,h5,h6,h7,h8⟩,hb⟩:=h;exact ⟨S,rfl,⟨h1.ri,h2.ri,h3.ri,h4.ri,h5.ri,h6.ri,h7.ri,h8.ri⟩,hb⟩
def hasB (N:NV) (dev v:Int):Bool:=decide (v=0) || !decide (atF N dev v= -1)
end Go.Proofs.YtgmflecelnefcaaGreat
