import Derived.Test.YtgmflecelnefcaaGreatOp26
import Derived.Test.YtgmflecelnefcaaGreatOp32
import Derived.Test.YtgmflecelnefcaaGreatOp37
import Derived.Test.YtgmflecelnefcaaGreatOp34
import Derived.Test.YtgmflecelnefcaaGreatOp36
import Derived.Test.YtgmflecelnefcaaGreatOp30
import Derived.Test.YtgmflecelnefcaaGreatOp35
set_option maxRecDepth 100000
set_option maxHeartbeats 40000000
namespace Go.Proofs.YtgmflecelnefcaaGreat
open Go.Lib (hid)
open Go.RowKit
theorem RI.readF {α:Type} {R:Rdr α} {w:World} {B:Nat} {F:Nat→Prop} {T:TypeId} {s:Sl3} {xs:List α} (h:RI R w B F T s xs):RSl R w (fun b=>(F b∨B≤b)∧b<w.heap.size) s.A s.n s.c xs:=by
 obtain ⟨vs,h1,h2⟩:=h;obtain ⟨A,n,c⟩:=s
 rcases h1.2 with ⟨hv,hn⟩|⟨g,cap,cur,hv,hB,hh,hnc,hm,hs,ht⟩
 · injection hv with e1 e2 e3
   subst e1 e2 e3;exact ⟨hn,Nat.le_refl _,Nat.zero_le _,fun _=>rfl,fun h=>absurd h (Nat.lt_irrefl 0)⟩
 · injection hv with e1 e2 e3
   subst e1 e2 e3
   have hg:g<w.heap.size:=by
    rcases Nat.lt_or_ge g w.heap.size with h'|h'
    · exact h'
    · rw [Array.getElem?_eq_none h'] at hh;cases hh
   refine ⟨rfl,hnc,hm,fun e=>(by cases e),fun hn=>⟨g,0,rfl,⟨.inr hB,hg⟩,hg,fun j x hx=>?_⟩⟩;obtain ⟨us,g1,g2⟩:=h2.at_ j x hx;refine ⟨us,R.keep g1 (fun _ _=>rfl) (fun b hb=>⟨hb.2.imp id (fun g=>g.1),hb.1⟩),fun i v hv=>?_⟩;have hi:=g2 i v hv;rw [←ht] at hi
   have hlt:j * R.n+i<xs.length * R.n:=by
    have:=(List.getElem?_eq_some_iff.1 hi).1
    rw [List.length_take] at this;omega
   rw [List.getElem?_take,if_pos hlt] at hi;rw [Nat.zero_add];simp only [World.cell?,hh];simpa using hi
theorem NOwn.readF {w:World} {B:Nat} {F:Nat→Prop} {N:NV} {S:NSl3} (h:NOwn w B F N S):NRead w (fun b=>(F b∨B≤b)∧b<w.heap.size) N S:=⟨h.dv.readF,h.pt.readF,h.lk.readF,h.dm.readF,h.st.readF,h.fl.readF,h.vr.readF,h.ir.readF⟩
theorem vBi (w:World) (F:Nat→Prop):NRead w F NV.zero NSl3.nil:=⟨RSl.nil,RSl.nil,RSl.nil,RSl.nil,RSl.nil,RSl.nil,RSl.nil,RSl.nil⟩
def vHn (F:Nat→Prop) (N:NV) (E:Int) (w:World) (e:Ending) (w':World):Prop:=∃U,e=.returned (.tuple #[vAm U,.int .i64 E])∧NRead w' (fun b=>(F b∨w.heap.size≤b)∧b<w'.heap.size) N U∧Below w.heap.size w w'
noncomputable def bgE (N:NV) (L:LV) (k:Int):Int:=if vCk N L k=false then 2 else if dvF N L.dev<0 then 31 else 0
noncomputable def bgD (N:NV) (L:LV) (k:Int):Int:=if bgE N L k=0 then dvF N L.dev else 0
theorem bg_2 {N:NV} {L:LV} {k:Int} (h:vCk N L k=false):bgE N L k=2∧bgD N L k=0:=by
 have e:bgE N L k=2:=by unfold bgE;rw [if_pos h]
 exact ⟨e,by unfold bgD;rw [if_neg (by rw [e];decide)]⟩
theorem bg_31 {N:NV} {L:LV} {k:Int} (h:vCk N L k=true) (g:dvF N L.dev<0):bgE N L k=31∧bgD N L k=0:=by
 have e:bgE N L k=31:=by unfold bgE;rw [if_neg (by rw [h];decide),if_pos g]
 exact ⟨e,by unfold bgD;rw [if_neg (by rw [e];decide)]⟩
theorem bg_ok {N:NV} {L:LV} {k:Int} (h:vCk N L k=true) (g:¬dvF N L.dev<0):bgE N L k=0∧bgD N L k=dvF N L.dev:=by
 have e:bgE N L k=0:=by unfold bgE;rw [if_neg (by rw [h];decide),if_neg g]
 exact ⟨e,by unfold bgD;rw [if_pos e]⟩
theorem bg_0 {N:NV} {L:LV} {k:Int} (h:bgE N L k=0):vCk N L k=true∧¬dvF N L.dev<0∧∃d:Nat,d<N.devices.length∧dvF N L.dev=(d:Int)∧bgD N L k=(d:Int):=by
 have h0:=h;unfold bgE at h
 by_cases f:vCk N L k=true
 rotate_left
 · rw [if_pos (Bool.eq_false_iff.2 f)] at h;cases h
 rw [if_neg (by rw [f];decide)] at h
 by_cases c:dvF N L.dev<0
 · rw [if_pos c] at h;cases h
 obtain ⟨d,hd,e,_⟩:=dv_place (N:=N) (s:=L.dev) (by omega);exact ⟨f,c,d,hd,e,by unfold bgD;rw [if_pos h0];exact e⟩
theorem bg_vt {N:NV} {L:LV} (h:bgE N L 5≠0):vtE N L=bgE N L 5:=by
 unfold vtE bgE at *
 by_cases f:vCk N L 5=false
 · rw [if_pos f,if_pos f]
 rw [if_neg f] at h;rw [if_neg f,if_neg f]
 by_cases c:dvF N L.dev<0
 · rw [if_pos c,if_pos c]
 · rw [if_neg c] at h;exact absurd rfl h
theorem bg_vn {N:NV} {L:LV} (h:bgE N L 6≠0):vnE N L=bgE N L 6:=by
 unfold vnE bgE at *
 by_cases f:vCk N L 6=false
 · rw [if_pos f,if_pos f]
 rw [if_neg f] at h;rw [if_neg f,if_neg f]
 by_cases c:dvF N L.dev<0
 · rw [if_pos c,if_pos c]
 · rw [if_neg c] at h;exact absurd rfl h
theorem bg_fl {N:NV} {L:LV} (h:bgE N L 7≠0):flE N L=bgE N L 7:=by
 unfold flE bgE at *
 by_cases f:vCk N L 7=false
 · rw [if_pos f,if_pos f]
 rw [if_neg f] at h;rw [if_neg f,if_neg f]
 by_cases c:dvF N L.dev<0
 · rw [if_pos c,if_pos c]
 · rw [if_neg c] at h;exact absurd rfl h
theorem vt_go {N:NV} {L:LV} {d:Nat} (f:vCk N L 5=true) (e:dvF N L.dev=(d:Int)):vtE N L=if 0<(N.devices.getD d DevV.zero).vtep∨0≤owF N L.addr then 30 else 0:=by
 unfold vtE;rw [if_neg (by rw [f];decide),e,if_neg (by omega)]
 rfl
theorem vn_go {N:NV} {L:LV} {d:Nat} (f:vCk N L 6=true) (e:dvF N L.dev=(d:Int)):vnE N L=if (N.devices.getD d DevV.zero).vtep=0 then 35 else if atF N (d:Int) L.vlan<0 then 32 else if 0<(N.domains.getD (atF N (d:Int) L.vlan).toNat DomV.zero).vni∨0≤fdF N (d:Int) L.num then 30 else 0:=by
 unfold vnE;rw [if_neg (by rw [f];decide),e,if_neg (by omega)]
 rfl
theorem fl_go {N:NV} {L:LV} {d:Nat} (f:vCk N L 7=true) (e:dvF N L.dev=(d:Int)):flE N L=if fdF N (d:Int) L.num<0 then 31 else if 0≤lsF N (d:Int) L.num then 30 else if memB L.addrs (N.devices.getD d DevV.zero).vtep=true then 36 else if 48≤N.floods.length then 3 else 0:=by
 unfold flE;rw [if_neg (by rw [f];decide),e,if_neg (by omega)]
 rfl
theorem vt_e {N:NV} {L:LV} {e:Int} (h:vtE N L=e) (h0:e≠0):vtN N L=NV.zero∧vtE N L=e:=⟨vt_no (by rw [h];exact h0),h⟩
theorem vn_e {N:NV} {L:LV} {e:Int} (h:vnE N L=e) (h0:e≠0):vnN N L=NV.zero∧vnE N L=e:=⟨vn_no (by rw [h];exact h0),h⟩
theorem fl_e {N:NV} {L:LV} {e:Int} (h:flE N L=e) (h0:e≠0):flN N L=NV.zero∧flE N L=e:=⟨fl_no (by rw [h];exact h0),h⟩
theorem vHu (N:NV) (S:NSl3) (L:LV) (s1 s2 s3 s4:SlV) (k:Int) (w:World) (h:NRead w (vAp w) N S) (hl:LRead w L s1 s2 s3 s4) (hw:LvW L) (hs:LvSm L) (hk:k=5∨k=6∨k=7):Calls Tryz.prog 31 #[vAm S,vAv L s1 s2 s3 s4,.int .i64 k] w fun e w'=>e=.returned (.tuple #[.int .i64 (bgD N L k),.int .i64 (bgE N L k)])∧Below w.heap.size w w':=by
 have UP:=hid (fun (w':World) (hb:Below w.heap.size w w')=>h.up hb);have UL:=hid (fun (w':World) (hb:Below w.heap.size w w')=>vAk hl hb)
 have FT:=fun (w':World) (hb:Below w.heap.size w w')=>fits_gen N S L s1 s2 s3 s4 k w' (h.up hb) (vAk hl hb) (fun w' hl e=>rright_k567 L s1 s2 s3 s4 w' hl hw hs (by rw [e];exact hk))
 have DV:=fun (w':World) (hb:Below w.heap.size w w')=>rdevice_any N S L.dev w' (h.up hb)
 have E2:=hid (bg_2 (N:=N) (L:=L) (k:=k));have E31:=hid (bg_31 (N:=N) (L:=L) (k:=k));have E0:=hid (bg_ok (N:=N) (L:=L) (k:=k));generalize bgD N L k=D at *;generalize bgE N L k=E at *;generalize vCk N L k=v at *;generalize dvF N L.dev=d at *;unfold vAm at FT DV;replace FT:=hid FT;replace DV:=hid DV;clear hw hs hk;clear h hl;unfold vAm;rw [vBw]
 go_enter Tryz.func31,Tryz.ntmps31
 go_upto_region 1 with fail
 generalize hw1:World.alloc _ _=w1;obtain ⟨B1,NB,LB,ql1⟩:=pre_two (S:=S) (L:=L) (s1:=s1) (s2:=s2) (s3:=s3) (s4:=s4) hw1;clear hw1;replace B1:=hid B1;replace NB:=hid NB;replace LB:=hid LB
 have KN:=hid (show ∀wx,Below w1.heap.size w1 wx→NF wx w.heap.size S∧(wx.cell? ⟨w.heap.size+1,2,none⟩=some (.string (str L.dev)))∧BoxF wx (w.heap.size+1) 17 (lc L s1 s2 s3 s4)∧NRead wx (vAp wx) N S∧LRead wx L s1 s2 s3 s4∧Below w.heap.size w wx from fun wx hx=>by
  have nb:=NB.out.below hx;have bx:=LB.out.below (by omega) hx;have b0:=B1.out.trans (hx.mono B1.out.size)
  exact ⟨⟨nb.c0,nb.c1,nb.c2,nb.c3,nb.c4,nb.c5,nb.c6,nb.c7⟩,bx.cell 2 (by omega),bx,UP.out _ b0,UL.out _ b0,b0⟩)
 have BS:=hid (Below.refl w1.heap.size w1);obtain ⟨⟨f0,f1,f2,f3,f4,f5,f6,f7⟩,g2,lb_,_⟩:=KN.out w1 (Below.refl _ _)
 cases v
 · have EV:=hid (E2.out rfl)
   go_wp2_with (first
    |((with_reducible refine vAf ?hg (.tmp 4) ?ho (w.heap.size+1) ?hx L s1 s2 s3 s4 lb_ ?_);(case hg=>rfl);(case ho=>rfl);(case hx=>rfl))
    |(go_at_call 90;(with_reducible refine (FT.out _ B1.out).mono ?_);rintro e w2 ⟨rfl,b_⟩;have X2:=hid (vAa B1.out b_);clear b_))
   refine bodyPost_ret (v:=.tuple #[.int .i64 0,.int .i64 2]) (by simp [results,Tryz.results31,go_sem]) rfl ⟨by rw [EV.out.1,EV.out.2],X2.out⟩
 by_cases c:d<0
 · have EV:=hid (E31.out rfl c)
   go_wp2_with (first
    |((with_reducible refine vAf ?hg (.tmp 4) ?ho (w.heap.size+1) ?hx L s1 s2 s3 s4 lb_ ?_);(case hg=>rfl);(case ho=>rfl);(case hx=>rfl))
    |(go_at_call 90;(with_reducible refine (FT.out _ B1.out).mono ?_);rintro e w2 ⟨rfl,b_⟩;have Y2:=hid b_;have X2:=hid (vAa B1.out b_);obtain ⟨⟨f0,f1,f2,f3,f4,f5,f6,f7⟩,g2,lb_,_⟩:=KN.out _ Y2.out;clear b_)
    |(go_at_call 91;(with_reducible refine (DV.out _ X2.out).mono ?_);rintro e w3 ⟨rfl,b_⟩;have X3:=hid (vAa X2.out b_);clear b_))
   refine bodyPost_ret (v:=.tuple #[.int .i64 0,.int .i64 31]) (by simp [results,Tryz.results31,go_sem]) rfl ⟨by rw [EV.out.1,EV.out.2],X3.out⟩
 have EV:=hid (E0.out rfl c)
 go_wp2_with (first
  |((with_reducible refine vAf ?hg (.tmp 4) ?ho (w.heap.size+1) ?hx L s1 s2 s3 s4 lb_ ?_);(case hg=>rfl);(case ho=>rfl);(case hx=>rfl))
  |(go_at_call 90;(with_reducible refine (FT.out _ B1.out).mono ?_);rintro e w2 ⟨rfl,b_⟩;have Y2:=hid b_;have X2:=hid (vAa B1.out b_);obtain ⟨⟨f0,f1,f2,f3,f4,f5,f6,f7⟩,g2,lb_,_⟩:=KN.out _ Y2.out;clear b_)
  |(go_at_call 91;(with_reducible refine (DV.out _ X2.out).mono ?_);rintro e w3 ⟨rfl,b_⟩;have X3:=hid (vAa X2.out b_);clear b_))
 refine bodyPost_ret (v:=.tuple #[.int .i64 d,.int .i64 0]) (by simp [results,Tryz.results31,go_sem]) rfl ⟨by rw [EV.out.1,EV.out.2],X3.out⟩
theorem vHg (tmps:Array Value) (W:World) (S:NSl3) (q:Nat) (E:Int) (h2:tmps[4]?.getD undef=.pointer (some ⟨q,0,none⟩)) (h5:tmps[5]?.getD undef=.int .i64 E) (hb:TBx W q 31 (vBk S)):
 (results Tryz.f10 tmps).run Tryz.prog W=.ok (.tuple #[vAm S,.int .i64 E]) W:=by
 have t0:=hb.cell 0 _ rfl;have t1:=hb.cell 1 _ rfl;have t2:=hb.cell 2 _ rfl;have t3:=hb.cell 3 _ rfl;have t4:=hb.cell 4 _ rfl;have t5:=hb.cell 5 _ rfl;have t6:=hb.cell 6 _ rfl;have t7:=hb.cell 7 _ rfl;clear hb;unfold vAm;simp [results,Tryz.results10,go_sem,h2,h5,t0,t1,t2,t3,t4,t5,t6,t7]
theorem rvtep_any (N:NV) (S:NSl3) (L:LV) (s1 s2 s3 s4:SlV) (w:World) (F:Nat→Prop) (hF:∀b,F b→b<w.heap.size) (h0:NRead w F N S) (hl:LRead w L s1 s2 s3 s4) (hz:NvSz N) (hw:LvW L) (hs:LvSm L):Calls Tryz.prog 10 #[vAm S,vAv L s1 s2 s3 s4] w (vHn F (vtN N L) (vtE N L) w):=by
 have h:NRead w (vAp w) N S:=h0.keep (fun _ _=>rfl) hF;have HF:=hid hF;have UP:=hid (fun (w':World) (hb:Below w.heap.size w w')=>h.up hb);have UL:=hid (fun (w':World) (hb:Below w.heap.size w w')=>vAk hl hb)
 have BG:=fun (w':World) (hb:Below w.heap.size w w')=>vHu N S L s1 s2 s3 s4 5 w' (h.up hb) (vAk hl hb) hw hs (by decide)
 have CP:=fun (w':World) (hb:Below w.heap.size w w')=>rcopy_any F N S w' (h0.keep (F':=F) (fun b g=>hb.block b (hF b g)) (fun _ g=>g)) (fun b g=>Nat.lt_of_lt_of_le (hF b g) hb.size) hz
 have BAD:=hid (fun (g:bgE N L 5≠0)=>vt_e (bg_vt (L:=L) g) g);have OK:=hid (bg_0 (N:=N) (L:=L) (k:=5));obtain ⟨E,hE⟩:∃E,bgE N L 5=E:=⟨_,rfl⟩;obtain ⟨D,hD⟩:∃D,bgD N L 5=D:=⟨_,rfl⟩;rw [hE] at BG BAD OK;rw [hD] at BG OK;unfold vAm at BG CP;unfold GotCopy vAm at CP;replace BG:=hid BG;replace CP:=hid CP;have HDV:=hid h.dv;have hle:=h.dv.le;have hcap:=h.dv.cap;have DLEN:=hid h.dv.len
 have HW:=hid hw;have HZ:=hid hz;clear hE hD hz hw hs;clear h hl h0 hF;unfold vAm;rw [vBw]
 go_enter Tryz.func10,Tryz.ntmps10
 go_upto_region 1 with fail
 generalize hw1:World.alloc _ _=w1;obtain ⟨B1,NB,LB,ql1,RB⟩:=vDs (S:=S) (L:=L) (s1:=s1) (s2:=s2) (s3:=s3) (s4:=s4) hw1;clear hw1;replace B1:=hid B1;replace NB:=hid NB;replace LB:=hid LB;replace RB:=hid RB
 have KN:=hid (show ∀wx,Below w1.heap.size w1 wx→NF wx w.heap.size S∧(wx.cell? ⟨w.heap.size+1,8,none⟩=some (.int .u32 L.addr))∧BoxF wx (w.heap.size+1) 17 (lc L s1 s2 s3 s4)∧NRead wx (vAp wx) N S∧LRead wx L s1 s2 s3 s4∧Below w.heap.size w wx from fun wx hx=>by
  have nb:=NB.out.below hx;have bx:=LB.out.below (by omega) hx;have b0:=B1.out.trans (hx.mono B1.out.size)
  exact ⟨⟨nb.c0,nb.c1,nb.c2,nb.c3,nb.c4,nb.c5,nb.c6,nb.c7⟩,bx.cell 8 (by omega),bx,UP.out _ b0,UL.out _ b0,b0⟩)
 have BS:=hid (Below.refl w1.heap.size w1);obtain ⟨⟨f0,f1,f2,f3,f4,f5,f6,f7⟩,g8,lb_,_⟩:=KN.out w1 (Below.refl _ _)
 by_cases e0:E=0
 rotate_left
 · have y0:(E == 0)=false:=by simpa using e0
   have y1:(E != 0)=true:=by simpa using e0
   have EV:=hid (BAD.out e0);clear e0
   go_wp2_with (first
    |((with_reducible refine vAf ?hg (.tmp 3) ?ho (w.heap.size+1) ?hx L s1 s2 s3 s4 lb_ ?_);(case hg=>rfl);(case ho=>rfl);(case hx=>rfl))
    |(go_at_call 31;(with_reducible refine (BG.out _ B1.out).mono ?_);rintro e w2 ⟨rfl,b_⟩;have Y2:=hid b_;have X2:=hid (vAa B1.out b_);obtain ⟨⟨f0,f1,f2,f3,f4,f5,f6,f7⟩,g8,lb_,_⟩:=KN.out _ Y2.out;have rb_:=RB.out.below Y2.out;have rl_:=rb_.lt;obtain ⟨r0,z0,r1,z1,r2,z2,r3,z3,r4,z4,r5,z5,r6,z6,r7,z7⟩:=rb_.zero8;clear b_ rb_))
   refine bodyPost_ret (vHg _ (st8 w2 (w.heap.size+2) NSl3.nil) NSl3.nil (w.heap.size+2) E rfl rfl ((RB.out.below Y2.out).st8 NSl3.nil)) rfl ?_;rw [EV.out.1,EV.out.2];exact ⟨NSl3.nil,rfl,vBi _ _,Below.st8 (B1.out.trans (Y2.out.mono B1.out.size)) (by omega) NSl3.nil⟩
 subst e0;obtain ⟨fit,dneg,d,hd,ed,eD⟩:=OK.out rfl;subst eD;have LE:=hid (vt_go (L:=L) fit ed)
 have OWN:=fun (w':World) (hb:Below w.heap.size w w')=>rowner_any N S L.addr w' (UP.out w' hb)
 unfold vAm at OWN;replace OWN:=hid OWN;have hn:=(vDm.1 fit).2.2;have AD:=hid (kd5_addr fit HW.out.addr);have EN:=hid (show vtE N L=0→vtN N L=vFy N d L.addr from fun g=>by unfold vtN;rw [if_pos g,ed];rfl);clear hn dneg ed;obtain ⟨bd,od,vd,edv,_,hbd,hvs,rd⟩:=vAi HDV.out d (by have:=DLEN.out;omega) DevV.zero;have hvs:vd=vGt (N.devices.getD d DevV.zero):=hvs;subst hvs
 have KD:=hid (show ∀wx,Below w1.heap.size w1 wx→wx.cell? ⟨w.heap.size,0,none⟩=some (.slice (some ⟨bd,od,none⟩) S.dv.n S.dv.c)∧wx.cell? ⟨bd,od+d * 5+4,none⟩=some (.int .u32 (N.devices.getD d DevV.zero).vtep) from fun wx hx=>by
  obtain ⟨⟨f0,_⟩,_,_,_,_,hb⟩:=KN.out wx hx;rw [edv] at f0
  exact ⟨f0,vAb rd (hb.block bd hbd) 4 _ rfl⟩)
 have EDV:=hid edv;have OW0:=OWN.out;rw [edv] at OW0;replace OWN:=hid OW0
 have ld:(d:Int)<(S.dv.n:Int):=by have:=DLEN.out;omega
 clear rd edv OW0;obtain ⟨V,hV⟩:∃V,(N.devices.getD d DevV.zero).vtep=V:=⟨_,rfl⟩;rw [hV] at LE KD;obtain ⟨o,ho⟩:∃o,owF N L.addr=o:=⟨_,rfl⟩;rw [ho] at OWN LE;clear hV ho
 by_cases c1:0<V
 · have y1:V > 0:=c1
   have EV:=hid (vt_e (L:=L) (e:=30) (by rw [LE.out,if_pos (.inl c1)]) (by decide));clear c1
   go_upto_region 2 with (first
    |((with_reducible refine vAf ?hg (.tmp 3) ?ho (w.heap.size+1) ?hx L s1 s2 s3 s4 lb_ ?_);(case hg=>rfl);(case ho=>rfl);(case hx=>rfl))
    |(go_at_call 31;(with_reducible refine (BG.out _ B1.out).mono ?_);rintro e w2 ⟨rfl,b_⟩;have Y2:=hid b_;have X2:=hid (vAa B1.out b_);obtain ⟨⟨f0,f1,f2,f3,f4,f5,f6,f7⟩,g8,lb_,_⟩:=KN.out _ Y2.out;clear b_))
   obtain ⟨e0_,e4_⟩:=KD.out _ Y2.out;clear f0;have rb_:=RB.out.below Y2.out;have rl_:=rb_.lt;obtain ⟨r0,z0,r1,z1,r2,z2,r3,z3,r4,z4,r5,z5,r6,z6,r7,z7⟩:=rb_.zero8;clear rb_;go_wp2;refine bodyPost_ret (vHg _ (st8 w2 (w.heap.size+2) NSl3.nil) NSl3.nil (w.heap.size+2) 30 rfl rfl ((RB.out.below Y2.out).st8 NSl3.nil)) rfl ?_;rw [EV.out.1,EV.out.2];exact ⟨NSl3.nil,rfl,vBi _ _,Below.st8 (B1.out.trans (Y2.out.mono B1.out.size)) (by omega) NSl3.nil⟩
 have y1:¬V > 0:=c1
 by_cases c2:0≤o
 · have y2:o≥0:=c2
   have EV:=hid (vt_e (L:=L) (e:=30) (by rw [LE.out,if_pos (.inr c2)]) (by decide));clear c1 c2
   go_upto_region 2 with (first
    |((with_reducible refine vAf ?hg (.tmp 3) ?ho (w.heap.size+1) ?hx L s1 s2 s3 s4 lb_ ?_);(case hg=>rfl);(case ho=>rfl);(case hx=>rfl))
    |(go_at_call 31;(with_reducible refine (BG.out _ B1.out).mono ?_);rintro e w2 ⟨rfl,b_⟩;have Y2:=hid b_;have X2:=hid (vAa B1.out b_);obtain ⟨⟨f0,f1,f2,f3,f4,f5,f6,f7⟩,g8,lb_,_⟩:=KN.out _ Y2.out;clear b_))
   obtain ⟨e0_,e4_⟩:=KD.out _ Y2.out;rw [EDV.out] at f0;go_wp2_with (go_at_call 32;(with_reducible refine (OWN.out _ X2.out).mono ?_);rintro e w3 ⟨rfl,b_⟩;have Y3:=hid (vAa Y2.out b_);have rb_:=RB.out.below Y3.out;have rl_:=rb_.lt;obtain ⟨r0,z0,r1,z1,r2,z2,r3,z3,r4,z4,r5,z5,r6,z6,r7,z7⟩:=rb_.zero8;clear b_ rb_);refine bodyPost_ret (vHg _ (st8 w3 (w.heap.size+2) NSl3.nil) NSl3.nil (w.heap.size+2) 30 rfl rfl ((RB.out.below Y3.out).st8 NSl3.nil)) rfl ?_
   rw [EV.out.1,EV.out.2];exact ⟨NSl3.nil,rfl,vBi _ _,Below.st8 (B1.out.trans (Y3.out.mono B1.out.size)) (by omega) NSl3.nil⟩
 have y2:¬o≥0:=c2;have EV:=hid (show vtN N L=vFy N d L.addr∧vtE N L=0 from (fun g=>⟨EN.out g,g⟩) (by rw [LE.out,if_neg (fun e=>e.elim c1 c2)]));clear c1 c2 LE EN
 go_upto_region 2 with (first
  |((with_reducible refine vAf ?hg (.tmp 3) ?ho (w.heap.size+1) ?hx L s1 s2 s3 s4 lb_ ?_);(case hg=>rfl);(case ho=>rfl);(case hx=>rfl))
  |(go_at_call 31;(with_reducible refine (BG.out _ B1.out).mono ?_);rintro e w2 ⟨rfl,b_⟩;have Y2:=hid b_;have X2:=hid (vAa B1.out b_);obtain ⟨⟨f0,f1,f2,f3,f4,f5,f6,f7⟩,g8,lb_,_⟩:=KN.out _ Y2.out;clear b_))
 obtain ⟨e0_,e4_⟩:=KD.out _ Y2.out;rw [EDV.out] at f0
 go_upto_region 6 with (go_at_call 32;(with_reducible refine (OWN.out _ X2.out).mono ?_);rintro e w3 ⟨rfl,b_⟩;have Y3:=hid (vAa Y2.out b_);have X3:=hid (vAa X2.out b_);clear f0 e0_ e4_;obtain ⟨⟨f0,f1,f2,f3,f4,f5,f6,f7⟩,g8,lb_,_⟩:=KN.out _ Y3.out;clear b_)
 go_upto_region 7 with (go_at_call 27;(with_reducible refine (CP.out _ X3.out).mono ?_);rintro e w4 ⟨U,rfl,hown,hb_⟩;have OW:=hid hown;have B4:=hid hb_;have Y4:=hid (vAa Y3.out hb_);clear hown hb_)
 obtain ⟨w5,hw5⟩:∃w5,w4.alloc (.cells (nA U) 31)=w5:=⟨_,rfl⟩
 have A7:Below w4.heap.size w4 w5:=by rw [←hw5];exact vAc _ _
 have O7:=hid (OW.out.up A7);have T7:=hid (show TBx w5 w4.heap.size 31 (vBk U) by rw [←hw5];exact TBx.new w4 _ _);have Y5:=hid (vAa Y4.out A7);have FF:=hid (show ∀b,F b→b<w3.heap.size from fun b g=>Nat.lt_of_lt_of_le (HF.out b g) X3.out.size);have S56:=hid (show w3.heap.size≤w4.heap.size from B4.out.size);have S67:=hid (show w4.heap.size≤w5.heap.size from A7.size);have Q5:=hid (show w.heap.size+2<w3.heap.size from (RB.out.below Y3.out).lt)
 rw [hw5];clear hw5 A7 f0 f1 f2 f3 f4 f5 f6 f7 g8 OW;obtain ⟨_,g8,_⟩:=KN.out _ Y5.out;have NP:=hid (show 0<N.devices.length by omega);obtain ⟨g,hg,hgB,hgl,hgz,hgc⟩:=O7.out.vcell NP.out
 have lx2:(d:Int)<(U.dv.n:Int):=by have:=O7.out.dv.len;omega
 obtain ⟨vx,cx⟩:=hgc d hd;have zx:=hgz (d * 5+4);have ub:=T7.out.lt;have u0:=T7.out.cell 0 (.slice U.dv.A U.dv.n U.dv.c) rfl;rw [hg] at u0;have HG:=hid hg;have ule:=O7.out.dv.le;clear hg hgz hgc
 go_upto_region 8 with fail
 clear u0 ub cx zx g8;obtain ⟨w6,hw6⟩:∃w6,w5.setCell ⟨g,d * 5+4,none⟩ (.int .u32 L.addr)=w6:=⟨_,rfl⟩;have P8:=O7.out.vput FF.out d hd g HG.out L.addr;rw [hw6] at P8 ⊢;have O8:=hid P8.1;have T8:=hid (T7.out.chg P8.2.1 (by decide));have B8:=hid (show Below w3.heap.size w5 w6 by rw [←hw6];exact (Below.refl _ _).setCell (by have:=S56.out;omega) _);have Y6:=hid (Y5.out.trans (B8.out.mono Y3.out.size))
 clear hw6 P8;have rb_:=RB.out.below Y6.out;have rl_:=rb_.lt;have tl_:=T8.out.lt;have t0:=T8.out.cell 0 (.slice U.dv.A U.dv.n U.dv.c) rfl;have r0:=rb_.cell 0 (.slice none 0 0) rfl;have z0:=rb_.live 0;have t1:=T8.out.cell 1 (.slice U.pt.A U.pt.n U.pt.c) rfl;have r1:=rb_.cell 1 (.slice none 0 0) rfl;have z1:=rb_.live 1;have t2:=T8.out.cell 2 (.slice U.lk.A U.lk.n U.lk.c) rfl;have r2:=rb_.cell 2 (.slice none 0 0) rfl
 have z2:=rb_.live 2;have t3:=T8.out.cell 3 (.slice U.dm.A U.dm.n U.dm.c) rfl;have r3:=rb_.cell 3 (.slice none 0 0) rfl;have z3:=rb_.live 3;have t4:=T8.out.cell 4 (.slice U.st.A U.st.n U.st.c) rfl;have r4:=rb_.cell 4 (.slice none 0 0) rfl;have z4:=rb_.live 4;have t5:=T8.out.cell 5 (.slice U.fl.A U.fl.n U.fl.c) rfl;have r5:=rb_.cell 5 (.slice none 0 0) rfl;have z5:=rb_.live 5;have t6:=T8.out.cell 6 (.slice U.vr.A U.vr.n U.vr.c) rfl
 have r6:=rb_.cell 6 (.slice none 0 0) rfl;have z6:=rb_.live 6;have t7:=T8.out.cell 7 (.slice U.ir.A U.ir.n U.ir.c) rfl;have r7:=rb_.cell 7 (.slice none 0 0) rfl;have z7:=rb_.live 7;clear rb_;go_wp2;refine bodyPost_ret (vHg _ (st8 w6 (w.heap.size+2) U) U (w.heap.size+2) 0 rfl rfl ((RB.out.below Y6.out).st8 U)) rfl ?_;rw [EV.out.1,EV.out.2];have ON:=O8.out.far (w':=st8 w6 (w.heap.size+2) U) (q:=w.heap.size+2) (by rw [vBh];exact Nat.le_refl _) (fun b hb=>vAx _ _ _ hb) (by have:=Q5.out;omega) (fun g=>by have:=HF.out _ g;omega)
 exact ⟨U,rfl,ON.readF.keep (fun _ _=>rfl) (fun b g=>⟨g.1.imp id (fun e=>by have:=Q5.out;omega),g.2⟩),Below.st8 (B1.out.trans (Y6.out.mono B1.out.size)) (by omega) U⟩
theorem vFx (tmps:Array Value) (W:World) (S:NSl3) (q:Nat) (E:Int) (h2:tmps[4]?.getD undef=.pointer (some ⟨q,0,none⟩)) (h5:tmps[5]?.getD undef=.int .i64 E) (hb:TBx W q 31 (vBk S)):
 (results Tryz.f13 tmps).run Tryz.prog W=.ok (.tuple #[vAm S,.int .i64 E]) W:=by
 have t0:=hb.cell 0 _ rfl;have t1:=hb.cell 1 _ rfl;have t2:=hb.cell 2 _ rfl;have t3:=hb.cell 3 _ rfl;have t4:=hb.cell 4 _ rfl;have t5:=hb.cell 5 _ rfl;have t6:=hb.cell 6 _ rfl;have t7:=hb.cell 7 _ rfl;clear hb;unfold vAm;simp [results,Tryz.results13,go_sem,h2,h5,t0,t1,t2,t3,t4,t5,t6,t7]
theorem rvni_any (N:NV) (S:NSl3) (L:LV) (s1 s2 s3 s4:SlV) (w:World) (F:Nat→Prop) (hF:∀b,F b→b<w.heap.size) (h0:NRead w F N S) (hl:LRead w L s1 s2 s3 s4) (hz:NvSz N) (hw:LvW L) (hs:LvSm L):Calls Tryz.prog 13 #[vAm S,vAv L s1 s2 s3 s4] w (vHn F (vnN N L) (vnE N L) w):=by
 have h:NRead w (vAp w) N S:=h0.keep (fun _ _=>rfl) hF;have HF:=hid hF;have UP:=hid (fun (w':World) (hb:Below w.heap.size w w')=>h.up hb);have UL:=hid (fun (w':World) (hb:Below w.heap.size w w')=>vAk hl hb)
 have BG:=fun (w':World) (hb:Below w.heap.size w w')=>vHu N S L s1 s2 s3 s4 6 w' (h.up hb) (vAk hl hb) hw hs (by decide)
 have CP:=fun (w':World) (hb:Below w.heap.size w w')=>rcopy_any F N S w' (h0.keep (F':=F) (fun b g=>hb.block b (hF b g)) (fun _ g=>g)) (fun b g=>Nat.lt_of_lt_of_le (hF b g) hb.size) hz
 have BAD:=hid (fun (g:bgE N L 6≠0)=>vn_e (bg_vn (L:=L) g) g);have OK:=hid (bg_0 (N:=N) (L:=L) (k:=6));obtain ⟨E,hE⟩:∃E,bgE N L 6=E:=⟨_,rfl⟩;obtain ⟨D,hD⟩:∃D,bgD N L 6=D:=⟨_,rfl⟩
 have ATD:=fun (w':World) (hb:Below w.heap.size w w')=>rat_any N S D L.vlan w' (h.up hb)
 have FID:=fun (w':World) (hb:Below w.heap.size w w')=>rfind_any N S D L.num w' (h.up hb)
 have HDM:=hid h.dm;have gle:=h.dm.le;have gcap:=h.dm.cap;have MLEN:=hid h.dm.len;unfold vAm at ATD FID;replace ATD:=hid ATD;replace FID:=hid FID;rw [hE] at BG BAD OK;rw [hD] at BG OK;unfold vAm at BG CP;unfold GotCopy vAm at CP;replace BG:=hid BG;replace CP:=hid CP;have HDV:=hid h.dv;have hle:=h.dv.le;have hcap:=h.dv.cap;have DLEN:=hid h.dv.len;have HW:=hid hw
 have HZ:=hid hz;clear hE hD hz hw hs;clear h hl h0 hF;unfold vAm;rw [vBw]
 go_enter Tryz.func13,Tryz.ntmps13
 go_upto_region 1 with fail
 generalize hw1:World.alloc _ _=w1;obtain ⟨B1,NB,LB,ql1,RB⟩:=vDs (S:=S) (L:=L) (s1:=s1) (s2:=s2) (s3:=s3) (s4:=s4) hw1;clear hw1;replace B1:=hid B1;replace NB:=hid NB;replace LB:=hid LB;replace RB:=hid RB
 have KN:=hid (show ∀wx,Below w1.heap.size w1 wx→NF wx w.heap.size S∧(wx.cell? ⟨w.heap.size+1,0,none⟩=some (.int .i64 L.row)∧wx.cell? ⟨w.heap.size+1,10,none⟩=some (.int .i64 L.vlan)∧wx.cell? ⟨w.heap.size+1,11,none⟩=some (.int .i64 L.num))∧BoxF wx (w.heap.size+1) 17 (lc L s1 s2 s3 s4)∧NRead wx (vAp wx) N S∧LRead wx L s1 s2 s3 s4∧Below w.heap.size w wx from fun wx hx=>by
  have nb:=NB.out.below hx;have bx:=LB.out.below (by omega) hx;have b0:=B1.out.trans (hx.mono B1.out.size)
  exact ⟨⟨nb.c0,nb.c1,nb.c2,nb.c3,nb.c4,nb.c5,nb.c6,nb.c7⟩,⟨bx.cell 0 (by omega),bx.cell 10 (by omega),bx.cell 11 (by omega)⟩,bx,UP.out _ b0,UL.out _ b0,b0⟩)
 have BS:=hid (Below.refl w1.heap.size w1);obtain ⟨⟨f0,f1,f2,f3,f4,f5,f6,f7⟩,⟨g0,g10,g11⟩,lb_,_⟩:=KN.out w1 (Below.refl _ _)
 by_cases e0:E=0
 rotate_left
 · have y0:(E == 0)=false:=by simpa using e0
   have y1:(E != 0)=true:=by simpa using e0
   have EV:=hid (BAD.out e0);clear e0
   go_wp2_with (first
    |((with_reducible refine vAf ?hg (.tmp 3) ?ho (w.heap.size+1) ?hx L s1 s2 s3 s4 lb_ ?_);(case hg=>rfl);(case ho=>rfl);(case hx=>rfl))
    |(go_at_call 31;(with_reducible refine (BG.out _ B1.out).mono ?_);rintro e w2 ⟨rfl,b_⟩;have Y2:=hid b_;have X2:=hid (vAa B1.out b_);obtain ⟨⟨f0,f1,f2,f3,f4,f5,f6,f7⟩,⟨g0,g10,g11⟩,lb_,_⟩:=KN.out _ Y2.out;clear b_)
    |(go_at_call 37;(with_reducible refine (ATD.out _ X2.out).mono ?_);rintro e w3 ⟨rfl,b_⟩;have Y3:=hid (vAa Y2.out b_);have rb_:=RB.out.below Y3.out;have rl_:=rb_.lt;obtain ⟨r0,z0,r1,z1,r2,z2,r3,z3,r4,z4,r5,z5,r6,z6,r7,z7⟩:=rb_.zero8;clear b_ rb_))
   refine bodyPost_ret (vFx _ (st8 w3 (w.heap.size+2) NSl3.nil) NSl3.nil (w.heap.size+2) E rfl rfl ((RB.out.below Y3.out).st8 NSl3.nil)) rfl ?_;rw [EV.out.1,EV.out.2];exact ⟨NSl3.nil,rfl,vBi _ _,Below.st8 (B1.out.trans (Y3.out.mono B1.out.size)) (by omega) NSl3.nil⟩
 subst e0;obtain ⟨fit,dneg,d,hd,ed,eD⟩:=OK.out rfl;subst eD;have LE:=hid (vn_go (L:=L) fit ed);have EN:=hid (show vnE N L=0→vnN N L=vGr N (atF N (d:Int) L.vlan).toNat L.num L.row from fun g=>by unfold vnN;rw [if_pos g,ed]);have AP:=hid (fun (c:¬atF N (d:Int) L.vlan<0)=>atF_lt (N:=N) (dev:=(d:Int)) (v:=L.vlan) (by omega));clear dneg ed;obtain ⟨bd,od,vd,edv,_,hbd,hvs,rd⟩:=vAi HDV.out d (by have:=DLEN.out;omega) DevV.zero
 have hvs:vd=vGt (N.devices.getD d DevV.zero):=hvs;subst hvs
 have KD:=hid (show ∀wx,Below w1.heap.size w1 wx→wx.cell? ⟨w.heap.size,0,none⟩=some (.slice (some ⟨bd,od,none⟩) S.dv.n S.dv.c)∧wx.cell? ⟨bd,od+d * 5+4,none⟩=some (.int .u32 (N.devices.getD d DevV.zero).vtep) from fun wx hx=>by
  obtain ⟨⟨f0,_⟩,_,_,_,_,hb⟩:=KN.out wx hx;rw [edv] at f0
  exact ⟨f0,vAb rd (hb.block bd hbd) 4 _ rfl⟩)
 have EDV:=hid edv
 have ld:(d:Int)<(S.dv.n:Int):=by have:=DLEN.out;omega
 clear rd edv;obtain ⟨V,hV⟩:∃V,(N.devices.getD d DevV.zero).vtep=V:=⟨_,rfl⟩;rw [hV] at LE KD;obtain ⟨m,hm⟩:∃m,atF N (d:Int) L.vlan=m:=⟨_,rfl⟩;obtain ⟨o,ho⟩:∃o,fdF N (d:Int) L.num=o:=⟨_,rfl⟩;have ATD0:=ATD.out;rw [hm] at ATD0 LE AP EN;replace ATD:=hid ATD0;clear ATD0;have FID0:=FID.out;rw [ho] at FID0 LE;replace FID:=hid FID0;clear FID0 hV hm ho
 by_cases c1:V=0
 · have y1:(V == 0)=true:=by simpa using c1
   have EV:=hid (vn_e (L:=L) (e:=35) (by rw [LE.out,if_pos c1]) (by decide));clear c1
   go_upto_region 2 with (first
    |((with_reducible refine vAf ?hg (.tmp 3) ?ho (w.heap.size+1) ?hx L s1 s2 s3 s4 lb_ ?_);(case hg=>rfl);(case ho=>rfl);(case hx=>rfl))
    |(go_at_call 31;(with_reducible refine (BG.out _ B1.out).mono ?_);rintro e w2 ⟨rfl,b_⟩;have Y2:=hid b_;have X2:=hid (vAa B1.out b_);obtain ⟨⟨f0,f1,f2,f3,f4,f5,f6,f7⟩,⟨g0,g10,g11⟩,lb_,_⟩:=KN.out _ Y2.out;clear b_))
   obtain ⟨e0_,e4_⟩:=KD.out _ Y2.out;have ff0:=f0;clear f0
   go_upto_region 4 with fail
   have f0:=ff0;clear ff0 e0_ e4_;go_wp2_with (go_at_call 37;(with_reducible refine (ATD.out _ X2.out).mono ?_);rintro e w3 ⟨rfl,b_⟩;have Y3:=hid (vAa Y2.out b_);have rb_:=RB.out.below Y3.out;have rl_:=rb_.lt;obtain ⟨r0,z0,r1,z1,r2,z2,r3,z3,r4,z4,r5,z5,r6,z6,r7,z7⟩:=rb_.zero8;clear b_ rb_);refine bodyPost_ret (vFx _ (st8 w3 (w.heap.size+2) NSl3.nil) NSl3.nil (w.heap.size+2) 35 rfl rfl ((RB.out.below Y3.out).st8 NSl3.nil)) rfl ?_
   rw [EV.out.1,EV.out.2];exact ⟨NSl3.nil,rfl,vBi _ _,Below.st8 (B1.out.trans (Y3.out.mono B1.out.size)) (by omega) NSl3.nil⟩
 have y1:(V == 0)=false:=by simpa using c1
 go_upto_region 2 with (first
  |((with_reducible refine vAf ?hg (.tmp 3) ?ho (w.heap.size+1) ?hx L s1 s2 s3 s4 lb_ ?_);(case hg=>rfl);(case ho=>rfl);(case hx=>rfl))
  |(go_at_call 31;(with_reducible refine (BG.out _ B1.out).mono ?_);rintro e w2 ⟨rfl,b_⟩;have Y2:=hid b_;have X2:=hid (vAa B1.out b_);obtain ⟨⟨f0,f1,f2,f3,f4,f5,f6,f7⟩,⟨g0,g10,g11⟩,lb_,_⟩:=KN.out _ Y2.out;clear b_))
 obtain ⟨e0_,e4_⟩:=KD.out _ Y2.out;have ff0:=f0;clear f0
 go_upto_region 4 with fail
 have f0:=ff0;clear ff0 e0_ e4_
 go_upto_region 5 with (go_at_call 37;(with_reducible refine (ATD.out _ X2.out).mono ?_);rintro e w3 ⟨rfl,b_⟩;have Y3:=hid (vAa Y2.out b_);have X3:=hid (vAa X2.out b_);obtain ⟨⟨f0,f1,f2,f3,f4,f5,f6,f7⟩,⟨g0,g10,g11⟩,lb_,_⟩:=KN.out _ Y3.out;clear b_)
 by_cases c2:m<0
 · have y2:m<0:=c2
   have EV:=hid (vn_e (L:=L) (e:=32) (by rw [LE.out,if_neg c1,if_pos c2]) (by decide));clear c1 c2;have rb_:=RB.out.below Y3.out;have rl_:=rb_.lt;obtain ⟨r0,z0,r1,z1,r2,z2,r3,z3,r4,z4,r5,z5,r6,z6,r7,z7⟩:=rb_.zero8;clear rb_;go_wp2;refine bodyPost_ret (vFx _ (st8 w3 (w.heap.size+2) NSl3.nil) NSl3.nil (w.heap.size+2) 32 rfl rfl ((RB.out.below Y3.out).st8 NSl3.nil)) rfl ?_;rw [EV.out.1,EV.out.2]
   exact ⟨NSl3.nil,rfl,vBi _ _,Below.st8 (B1.out.trans (Y3.out.mono B1.out.size)) (by omega) NSl3.nil⟩
 have y2:¬m<0:=c2;obtain ⟨x,hx,ex,_,_⟩:=AP.out (by omega);subst ex;replace LE:=hid (show vnE N L=if 0<(N.domains.getD x DomV.zero).vni∨0≤o then 30 else 0 by rw [LE.out,if_neg c1,if_neg c2];rfl);clear c1 c2 AP;obtain ⟨bm,om,vm,edm,_,hbm,⟨t,rfl,_⟩,rm⟩:=vAi HDM.out x (by have:=MLEN.out;omega) DomV.zero
 have KM:=hid (show ∀wx,Below w1.heap.size w1 wx→wx.cell? ⟨w.heap.size,3,none⟩=some (.slice (some ⟨bm,om,none⟩) S.dm.n S.dm.c)∧wx.cell? ⟨bm,om+x * 6+2,none⟩=some (.int .i64 (N.domains.getD x DomV.zero).vni) from fun wx hx=>by
  obtain ⟨⟨_,_,_,f3,_⟩,_,_,_,_,hb⟩:=KN.out wx hx;rw [edm] at f3
  exact ⟨f3,vAb rm (hb.block bm hbm) 2 _ rfl⟩)
 have EDM:=hid edm;have FI0:=FID.out;rw [edm] at FI0;replace FID:=hid FI0
 have lx:(x:Int)<(S.dm.n:Int):=by have:=MLEN.out;omega
 clear rm edm FI0;obtain ⟨J,hJ⟩:∃J,(N.domains.getD x DomV.zero).vni=J:=⟨_,rfl⟩;rw [hJ] at LE KM;clear hJ;obtain ⟨m3_,m2_⟩:=KM.out _ Y3.out
 by_cases c3:0<J
 · have y3:J > 0:=c3
   have EV:=hid (vn_e (L:=L) (e:=30) (by rw [LE.out,if_pos (.inl c3)]) (by decide));clear c3 f3;have rb_:=RB.out.below Y3.out;have rl_:=rb_.lt;obtain ⟨r0,z0,r1,z1,r2,z2,r3,z3,r4,z4,r5,z5,r6,z6,r7,z7⟩:=rb_.zero8;clear rb_;go_wp2;refine bodyPost_ret (vFx _ (st8 w3 (w.heap.size+2) NSl3.nil) NSl3.nil (w.heap.size+2) 30 rfl rfl ((RB.out.below Y3.out).st8 NSl3.nil)) rfl ?_;rw [EV.out.1,EV.out.2]
   exact ⟨NSl3.nil,rfl,vBi _ _,Below.st8 (B1.out.trans (Y3.out.mono B1.out.size)) (by omega) NSl3.nil⟩
 have y3:¬J > 0:=c3;have ff3:=f3;rw [EDM.out] at f3
 by_cases c4:0≤o
 · have y4:o≥0:=c4
   have EV:=hid (vn_e (L:=L) (e:=30) (by rw [LE.out,if_pos (.inr c4)]) (by decide));clear c3 c4 m3_ ff3;go_wp2_with (go_at_call 20;(with_reducible refine (FID.out _ X3.out).mono ?_);rintro e w4 ⟨rfl,b_⟩;have Y4:=hid (vAa Y3.out b_);have rb_:=RB.out.below Y4.out;have rl_:=rb_.lt;obtain ⟨r0,z0,r1,z1,r2,z2,r3,z3,r4,z4,r5,z5,r6,z6,r7,z7⟩:=rb_.zero8;clear b_ rb_);refine bodyPost_ret (vFx _ (st8 w4 (w.heap.size+2) NSl3.nil) NSl3.nil (w.heap.size+2) 30 rfl rfl ((RB.out.below Y4.out).st8 NSl3.nil)) rfl ?_
   rw [EV.out.1,EV.out.2];exact ⟨NSl3.nil,rfl,vBi _ _,Below.st8 (B1.out.trans (Y4.out.mono B1.out.size)) (by omega) NSl3.nil⟩
 have y4:¬o≥0:=c4;have EV:=hid (show vnN N L=vGr N x L.num L.row∧vnE N L=0 from (fun g=>⟨EN.out g,g⟩) (by rw [LE.out,if_neg (fun e=>e.elim c3 c4)]));clear c3 c4 LE EN m3_ ff3
 go_upto_region 11 with (go_at_call 20;(with_reducible refine (FID.out _ X3.out).mono ?_);rintro e w4 ⟨rfl,b_⟩;have Y4:=hid (vAa Y3.out b_);have X4:=hid (vAa X3.out b_);obtain ⟨⟨f0,f1,f2,f3,f4,f5,f6,f7⟩,⟨g0,g10,g11⟩,lb_,_⟩:=KN.out _ Y4.out;clear b_)
 clear m2_
 go_upto_region 12 with (go_at_call 27;(with_reducible refine (CP.out _ X4.out).mono ?_);rintro e w5 ⟨U,rfl,hown,hb_⟩;have OW:=hid hown;have B5:=hid hb_;have Y5:=hid (vAa Y4.out hb_);clear hown hb_)
 obtain ⟨w6,hw6⟩:∃w6,w5.alloc (.cells (nA U) 31)=w6:=⟨_,rfl⟩
 have A7:Below w5.heap.size w5 w6:=by rw [←hw6];exact vAc _ _
 have O7:=hid (OW.out.up A7);have T7:=hid (show TBx w6 w5.heap.size 31 (vBk U) by rw [←hw6];exact TBx.new w5 _ _);have Y6:=hid (vAa Y5.out A7);have FF:=hid (show ∀b,F b→b<w4.heap.size from fun b g=>Nat.lt_of_lt_of_le (HF.out b g) X4.out.size);have S56:=hid (show w4.heap.size≤w5.heap.size from B5.out.size);have S67:=hid (show w5.heap.size≤w6.heap.size from A7.size);have Q5:=hid (show w.heap.size+2<w4.heap.size from (RB.out.below Y4.out).lt)
 rw [hw6];clear hw6 A7 f0 f1 f2 f3 f4 f5 f6 f7 g0 g10 g11 OW;obtain ⟨_,⟨g0,g10,g11⟩,_⟩:=KN.out _ Y6.out;have NP:=hid (show 0<N.domains.length by omega);obtain ⟨g,hg,hgB,hgl,hgz,hgc⟩:=O7.out.ncell NP.out
 have lx2:(x:Int)<(U.dm.n:Int):=by have:=O7.out.dm.len;omega
 obtain ⟨⟨vx,cx⟩,_⟩:=hgc x hx;have zx:=hgz (x * 6+2);have ub:=T7.out.lt;have u3:=T7.out.cell 3 (.slice U.dm.A U.dm.n U.dm.c) rfl;rw [hg] at u3;have HG:=hid hg;have ule:=O7.out.dm.le;clear hg hgz hgc
 go_upto_region 13 with fail
 clear u3 ub cx zx g0 g10 g11;obtain ⟨w7,hw7⟩:∃w7,w6.setCell ⟨g,x * 6+2,none⟩ (.int .i64 L.num)=w7:=⟨_,rfl⟩;have P8:=O7.out.nput FF.out x hx g HG.out L.num;rw [hw7] at P8 ⊢;have O8:=hid P8.1;have T8:=hid (T7.out.chg P8.2.1 (by decide));have B8:=hid (show Below w4.heap.size w6 w7 by rw [←hw7];exact (Below.refl _ _).setCell (by have:=S56.out;omega) _);have Y7:=hid (Y6.out.trans (B8.out.mono Y4.out.size))
 clear hw7 P8;obtain ⟨_,⟨g0,g10,g11⟩,_⟩:=KN.out _ Y7.out
 have hx2:x<(N.domains.set x {N.domains.getD x DomV.zero with vni:=L.num}).length:=by rw [setD_len];exact hx
 obtain ⟨g2,hg2,_,hgl2,hgz2,hgc2⟩:=O8.out.ncell (Nat.lt_of_le_of_lt (Nat.zero_le _) hx2)
 have eg:g2=g:=by have e:=HG.out;rw [hg2] at e;injection e with e;injection e with e _
 subst eg;obtain ⟨_,vy,cy⟩:=hgc2 x hx2;have zy:=hgz2 (x * 6+4);have ub:=T8.out.lt;have u3:=T8.out.cell 3 (.slice U.dm.A U.dm.n U.dm.c) rfl;rw [HG.out] at u3;clear hg2 hgz2 hgc2 hgl
 go_upto_region 14 with fail
 clear u3 ub cy zy g0 g10 g11;obtain ⟨w8,hw8⟩:∃w8,w7.setCell ⟨g2,x * 6+4,none⟩ (.int .i64 L.row)=w8:=⟨_,rfl⟩;have P9:=O8.out.rput FF.out x hx2 g2 HG.out L.row;rw [hw8] at P9 ⊢
 have O9:=hid (show NOwn w8 w4.heap.size F (vGr N x L.num L.row) U by
  have e:=P9.1;rw [set_set hx] at e
  exact e)
 have T9:=hid (T8.out.chg P9.2.1 (by decide));have B9:=hid (show Below w4.heap.size w7 w8 by rw [←hw8];exact (Below.refl _ _).setCell hgB _);have Y8:=hid (Y7.out.trans (B9.out.mono Y4.out.size));clear hw8 P9;have rb_:=RB.out.below Y8.out;have rl_:=rb_.lt;have tl_:=T9.out.lt;have t0:=T9.out.cell 0 (.slice U.dv.A U.dv.n U.dv.c) rfl;have r0:=rb_.cell 0 (.slice none 0 0) rfl;have z0:=rb_.live 0
 have t1:=T9.out.cell 1 (.slice U.pt.A U.pt.n U.pt.c) rfl;have r1:=rb_.cell 1 (.slice none 0 0) rfl;have z1:=rb_.live 1;have t2:=T9.out.cell 2 (.slice U.lk.A U.lk.n U.lk.c) rfl;have r2:=rb_.cell 2 (.slice none 0 0) rfl;have z2:=rb_.live 2;have t3:=T9.out.cell 3 (.slice U.dm.A U.dm.n U.dm.c) rfl;have r3:=rb_.cell 3 (.slice none 0 0) rfl;have z3:=rb_.live 3;have t4:=T9.out.cell 4 (.slice U.st.A U.st.n U.st.c) rfl
 have r4:=rb_.cell 4 (.slice none 0 0) rfl;have z4:=rb_.live 4;have t5:=T9.out.cell 5 (.slice U.fl.A U.fl.n U.fl.c) rfl;have r5:=rb_.cell 5 (.slice none 0 0) rfl;have z5:=rb_.live 5;have t6:=T9.out.cell 6 (.slice U.vr.A U.vr.n U.vr.c) rfl;have r6:=rb_.cell 6 (.slice none 0 0) rfl;have z6:=rb_.live 6;have t7:=T9.out.cell 7 (.slice U.ir.A U.ir.n U.ir.c) rfl;have r7:=rb_.cell 7 (.slice none 0 0) rfl;have z7:=rb_.live 7
 clear rb_;go_wp2;refine bodyPost_ret (vFx _ (st8 w8 (w.heap.size+2) U) U (w.heap.size+2) 0 rfl rfl ((RB.out.below Y8.out).st8 U)) rfl ?_;rw [EV.out.1,EV.out.2];have ON:=O9.out.far (w':=st8 w8 (w.heap.size+2) U) (q:=w.heap.size+2) (by rw [vBh];exact Nat.le_refl _) (fun b hb=>vAx _ _ _ hb) (by have:=Q5.out;omega) (fun g=>by have:=HF.out _ g;omega);exact ⟨U,rfl,ON.readF.keep (fun _ _=>rfl) (fun b g=>⟨g.1.imp id (fun e=>by have:=Q5.out;omega),g.2⟩),Below.st8 (B1.out.trans (Y8.out.mono B1.out.size)) (by omega) U⟩
theorem vDq (tmps:Array Value) (W:World) (S:NSl3) (q:Nat) (E:Int) (h2:tmps[4]?.getD undef=.pointer (some ⟨q,0,none⟩)) (h5:tmps[5]?.getD undef=.int .i64 E) (hb:TBx W q 31 (vBk S)):
 (results Tryz.f15 tmps).run Tryz.prog W=.ok (.tuple #[vAm S,.int .i64 E]) W:=by
 have t0:=hb.cell 0 _ rfl;have t1:=hb.cell 1 _ rfl;have t2:=hb.cell 2 _ rfl;have t3:=hb.cell 3 _ rfl;have t4:=hb.cell 4 _ rfl;have t5:=hb.cell 5 _ rfl;have t6:=hb.cell 6 _ rfl;have t7:=hb.cell 7 _ rfl;clear hb;unfold vAm;simp [results,Tryz.results15,go_sem,h2,h5,t0,t1,t2,t3,t4,t5,t6,t7]
theorem rflood_any (N:NV) (S:NSl3) (L:LV) (s1 s2 s3 s4:SlV) (w:World) (F:Nat→Prop) (hF:∀b,F b→b<w.heap.size) (h0:NRead w F N S) (hl:LRead w L s1 s2 s3 s4) (hz:NvSz N) (hw:LvW L) (hs:LvSm L):Calls Tryz.prog 15 #[vAm S,vAv L s1 s2 s3 s4] w (vHn F (flN N L) (flE N L) w):=by
 have h:NRead w (vAp w) N S:=h0.keep (fun _ _=>rfl) hF;have HF:=hid hF;have UP:=hid (fun (w':World) (hb:Below w.heap.size w w')=>h.up hb);have UL:=hid (fun (w':World) (hb:Below w.heap.size w w')=>vAk hl hb)
 have BG:=fun (w':World) (hb:Below w.heap.size w w')=>vHu N S L s1 s2 s3 s4 7 w' (h.up hb) (vAk hl hb) hw hs (by decide)
 have CP:=fun (w':World) (hb:Below w.heap.size w w')=>rcopy_any F N S w' (h0.keep (F':=F) (fun b g=>hb.block b (hF b g)) (fun _ g=>g)) (fun b g=>Nat.lt_of_lt_of_le (hF b g) hb.size) hz
 have BAD:=hid (fun (g:bgE N L 7≠0)=>fl_e (bg_fl (L:=L) g) g);have OK:=hid (bg_0 (N:=N) (L:=L) (k:=7));obtain ⟨E,hE⟩:∃E,bgE N L 7=E:=⟨_,rfl⟩;obtain ⟨D,hD⟩:∃D,bgD N L 7=D:=⟨_,rfl⟩
 have FID:=fun (w':World) (hb:Below w.heap.size w w')=>rfind_any N S D L.num w' (h.up hb)
 have LSD:=fun (w':World) (hb:Below w.heap.size w w')=>rlist19_any N S D L.num w' (h.up hb)
 have HSD:=fun (v:Int) (w':World) (hb:Below w.heap.size w w')=>rhas19_any s4.A s4.n s4.c L.addrs v w' (vAk hl hb).2.2.2
 have KLEN:=hid h.fl.len;have gle:=h.fl.le;have gcap:=h.fl.cap;have LL:=hid hl.2.2.2.len;have LL2:=hl.2.2.2.le;have LL3:=hl.2.2.2.cap;unfold vAm at FID LSD;replace FID:=hid FID;replace LSD:=hid LSD;replace HSD:=hid HSD;rw [hE] at BG BAD OK;rw [hD] at BG OK;unfold vAm at BG CP;unfold GotCopy vAm at CP;replace BG:=hid BG;replace CP:=hid CP;have HDV:=hid h.dv;have hle:=h.dv.le
 have hcap:=h.dv.cap;have DLEN:=hid h.dv.len;have HW:=hid hw;have HZ:=hid hz;clear hE hD hz hw hs;clear h hl h0 hF;unfold vAm;rw [vBw]
 go_enter Tryz.func15,Tryz.ntmps15
 go_upto_region 1 with fail
 generalize hw1:World.alloc _ _=w1;obtain ⟨B1,NB,LB,ql1,RB⟩:=vDs (S:=S) (L:=L) (s1:=s1) (s2:=s2) (s3:=s3) (s4:=s4) hw1;clear hw1;replace B1:=hid B1;replace NB:=hid NB;replace LB:=hid LB;replace RB:=hid RB
 have KN:=hid (show ∀wx,Below w1.heap.size w1 wx→NF wx w.heap.size S∧(wx.cell? ⟨w.heap.size+1,0,none⟩=some (.int .i64 L.row)∧wx.cell? ⟨w.heap.size+1,11,none⟩=some (.int .i64 L.num)∧wx.cell? ⟨w.heap.size+1,16,none⟩=some (.slice s4.A s4.n s4.c))∧BoxF wx (w.heap.size+1) 17 (lc L s1 s2 s3 s4)∧NRead wx (vAp wx) N S∧LRead wx L s1 s2 s3 s4∧Below w.heap.size w wx from fun wx hx=>by
  have nb:=NB.out.below hx;have bx:=LB.out.below (by omega) hx;have b0:=B1.out.trans (hx.mono B1.out.size)
  exact ⟨⟨nb.c0,nb.c1,nb.c2,nb.c3,nb.c4,nb.c5,nb.c6,nb.c7⟩,⟨bx.cell 0 (by omega),bx.cell 11 (by omega),bx.cell 16 (by omega)⟩,bx,UP.out _ b0,UL.out _ b0,b0⟩)
 have BS:=hid (Below.refl w1.heap.size w1);obtain ⟨⟨f0,f1,f2,f3,f4,f5,f6,f7⟩,⟨g0,g11,g16⟩,lb_,_⟩:=KN.out w1 (Below.refl _ _)
 by_cases e0:E=0
 rotate_left
 · have y0:(E == 0)=false:=by simpa using e0
   have y1:(E != 0)=true:=by simpa using e0
   have EV:=hid (BAD.out e0);clear e0
   go_upto_region 6 with (first
    |((with_reducible refine vAf ?hg (.tmp 3) ?ho (w.heap.size+1) ?hx L s1 s2 s3 s4 lb_ ?_);(case hg=>rfl);(case ho=>rfl);(case hx=>rfl))
    |(go_at_call 31;(with_reducible refine (BG.out _ B1.out).mono ?_);rintro e w2 ⟨rfl,b_⟩;have Y2:=hid b_;have X2:=hid (vAa B1.out b_);obtain ⟨⟨f0,f1,f2,f3,f4,f5,f6,f7⟩,⟨g0,g11,g16⟩,lb_,_⟩:=KN.out _ Y2.out;clear b_))
   refine vAe (fun wx=>Below w1.heap.size w1 wx) (by kernel_rfl) (by kernel_rfl) (vAd Y2.out 1) ?_
   repeat
    first
     |(refine Seq.pass rfl ?_;simp only [Act.put,List.setIfInBounds_toArray,List.set_cons_zero,List.set_cons_succ])
     |(refine Seq.run ?_ rfl (fun wx hx=>?_) ?_
       rotate_left
       · obtain ⟨⟨f0,f1,f2,f3,f4,f5,f6,f7⟩,⟨g0,g11,g16⟩,_,_,_,hBx⟩:=KN.out wx hx
         go_simp
         first
          |(refine StepRun.val ?_;exact hx)
       simp only [Act.put,List.setIfInBounds_toArray,List.set_cons_zero,List.set_cons_succ])
   refine Seq.last (fun w6 h6=>?_);have rb_:=RB.out.below h6;have rl_:=rb_.lt;obtain ⟨r0,z0,r1,z1,r2,z2,r3,z3,r4,z4,r5,z5,r6,z6,r7,z7⟩:=rb_.zero8;clear rb_;go_wp2;refine bodyPost_ret (vDq _ (st8 w6 (w.heap.size+2) NSl3.nil) NSl3.nil (w.heap.size+2) E rfl rfl ((RB.out.below h6).st8 NSl3.nil)) rfl ?_;rw [EV.out.1,EV.out.2];exact ⟨NSl3.nil,rfl,vBi _ _,Below.st8 (B1.out.trans (h6.mono B1.out.size)) (by omega) NSl3.nil⟩
 subst e0;obtain ⟨fit,dneg,d,hd,ed,eD⟩:=OK.out rfl;subst eD;have LE:=hid (fl_go (L:=L) fit ed);have EN:=hid (show flE N L=0→flN N L=vBg N L.row d L.num L.addrs from fun g=>by unfold flN;rw [if_pos g,ed];rfl);have AX:=hid (kd7_addrs fit HW.out.addrs).1;clear dneg ed fit;obtain ⟨bd,od,vd,edv,_,hbd,hvs,rd⟩:=vAi HDV.out d (by have:=DLEN.out;omega) DevV.zero;have hvs:vd=vGt (N.devices.getD d DevV.zero):=hvs
 subst hvs
 have KD:=hid (show ∀wx,Below w1.heap.size w1 wx→wx.cell? ⟨w.heap.size,0,none⟩=some (.slice (some ⟨bd,od,none⟩) S.dv.n S.dv.c)∧wx.cell? ⟨bd,od+d * 5+4,none⟩=some (.int .u32 (N.devices.getD d DevV.zero).vtep) from fun wx hx=>by
  obtain ⟨⟨f0,_⟩,_,_,_,_,hb⟩:=KN.out wx hx;rw [edv] at f0
  exact ⟨f0,vAb rd (hb.block bd hbd) 4 _ rfl⟩)
 have EDV:=hid edv
 have ld:(d:Int)<(S.dv.n:Int):=by have:=DLEN.out;omega
 clear rd edv;obtain ⟨V,hV⟩:∃V,(N.devices.getD d DevV.zero).vtep=V:=⟨_,rfl⟩;rw [hV] at LE KD;obtain ⟨m,hm⟩:∃m,fdF N (d:Int) L.num=m:=⟨_,rfl⟩;obtain ⟨o,ho⟩:∃o,lsF N (d:Int) L.num=o:=⟨_,rfl⟩;obtain ⟨hb,hhb⟩:∃b,memB L.addrs V=b:=⟨_,rfl⟩;have T0:=FID.out;rw [hm] at T0 LE;replace FID:=hid T0;clear T0;have T0:=LSD.out;rw [ho] at T0 LE;replace LSD:=hid T0;clear T0;have T0:=HSD.out V;rw [hhb] at T0 LE
 replace HSD:=hid T0;clear T0 hV hm ho hhb
 by_cases c1:m<0
 · have EV:=hid (fl_e (L:=L) (e:=31) (by rw [LE.out,if_pos c1]) (by decide))
   go_upto_region 6 with (first
    |((with_reducible refine vAf ?hg (.tmp 3) ?ho (w.heap.size+1) ?hx L s1 s2 s3 s4 lb_ ?_);(case hg=>rfl);(case ho=>rfl);(case hx=>rfl))
    |(go_at_call 31;(with_reducible refine (BG.out _ B1.out).mono ?_);rintro e w2 ⟨rfl,b_⟩;have Y2:=hid b_;have X2:=hid (vAa B1.out b_);obtain ⟨⟨f0,f1,f2,f3,f4,f5,f6,f7⟩,⟨g0,g11,g16⟩,lb_,_⟩:=KN.out _ Y2.out;clear b_)
    |(go_at_call 20;(with_reducible refine (FID.out _ X2.out).mono ?_);rintro e w3 ⟨rfl,b_⟩;have Y3:=hid (vAa Y2.out b_);have X3:=hid (vAa X2.out b_);obtain ⟨⟨f0,f1,f2,f3,f4,f5,f6,f7⟩,⟨g0,g11,g16⟩,lb_,_⟩:=KN.out _ Y3.out;clear b_))
   refine vAe (fun wx=>Below w1.heap.size w1 wx) (by kernel_rfl) (by kernel_rfl) (vAd Y3.out 1) ?_
   repeat
    first
     |(refine Seq.pass rfl ?_;simp only [Act.put,List.setIfInBounds_toArray,List.set_cons_zero,List.set_cons_succ])
     |(refine Seq.run ?_ rfl (fun wx hx=>?_) ?_
       rotate_left
       · obtain ⟨⟨f0,f1,f2,f3,f4,f5,f6,f7⟩,⟨g0,g11,g16⟩,_,_,_,hBx⟩:=KN.out wx hx
         go_simp
         first
          |(refine StepRun.val ?_;exact hx)
       simp only [Act.put,List.setIfInBounds_toArray,List.set_cons_zero,List.set_cons_succ])
   refine Seq.last (fun w6 h6=>?_);have rb_:=RB.out.below h6;have rl_:=rb_.lt;obtain ⟨r0,z0,r1,z1,r2,z2,r3,z3,r4,z4,r5,z5,r6,z6,r7,z7⟩:=rb_.zero8;clear rb_;go_wp2;refine bodyPost_ret (vDq _ (st8 w6 (w.heap.size+2) NSl3.nil) NSl3.nil (w.heap.size+2) 31 rfl rfl ((RB.out.below h6).st8 NSl3.nil)) rfl ?_;rw [EV.out.1,EV.out.2];exact ⟨NSl3.nil,rfl,vBi _ _,Below.st8 (B1.out.trans (h6.mono B1.out.size)) (by omega) NSl3.nil⟩
 by_cases c2:0≤o
 · have y2:o≥0:=c2
   have EV:=hid (fl_e (L:=L) (e:=30) (by rw [LE.out,if_neg c1,if_pos c2]) (by decide));clear c2
   go_upto_region 6 with (first
    |((with_reducible refine vAf ?hg (.tmp 3) ?ho (w.heap.size+1) ?hx L s1 s2 s3 s4 lb_ ?_);(case hg=>rfl);(case ho=>rfl);(case hx=>rfl))
    |(go_at_call 31;(with_reducible refine (BG.out _ B1.out).mono ?_);rintro e w2 ⟨rfl,b_⟩;have Y2:=hid b_;have X2:=hid (vAa B1.out b_);obtain ⟨⟨f0,f1,f2,f3,f4,f5,f6,f7⟩,⟨g0,g11,g16⟩,lb_,_⟩:=KN.out _ Y2.out;clear b_)
    |(go_at_call 20;(with_reducible refine (FID.out _ X2.out).mono ?_);rintro e w3 ⟨rfl,b_⟩;have Y3:=hid (vAa Y2.out b_);have X3:=hid (vAa X2.out b_);obtain ⟨⟨f0,f1,f2,f3,f4,f5,f6,f7⟩,⟨g0,g11,g16⟩,lb_,_⟩:=KN.out _ Y3.out;clear b_)
    |(go_at_call 39;(with_reducible refine (LSD.out _ X3.out).mono ?_);rintro e w4 ⟨rfl,b_⟩;have Y4:=hid (vAa Y3.out b_);have X4:=hid (vAa X3.out b_);obtain ⟨⟨f0,f1,f2,f3,f4,f5,f6,f7⟩,⟨g0,g11,g16⟩,lb_,_⟩:=KN.out _ Y4.out;clear b_))
   refine vAe (fun wx=>Below w1.heap.size w1 wx) (by kernel_rfl) (by kernel_rfl) (vAd Y4.out 1) ?_
   repeat
    first
     |(refine Seq.pass rfl ?_;simp only [Act.put,List.setIfInBounds_toArray,List.set_cons_zero,List.set_cons_succ])
     |(refine Seq.run ?_ rfl (fun wx hx=>?_) ?_
       rotate_left
       · obtain ⟨⟨f0,f1,f2,f3,f4,f5,f6,f7⟩,⟨g0,g11,g16⟩,_,_,_,hBx⟩:=KN.out wx hx
         go_simp
         first
          |(refine StepRun.val ?_;exact hx)
       simp only [Act.put,List.setIfInBounds_toArray,List.set_cons_zero,List.set_cons_succ])
   refine Seq.last (fun w6 h6=>?_);have rb_:=RB.out.below h6;have rl_:=rb_.lt;obtain ⟨r0,z0,r1,z1,r2,z2,r3,z3,r4,z4,r5,z5,r6,z6,r7,z7⟩:=rb_.zero8;clear rb_;go_wp2;refine bodyPost_ret (vDq _ (st8 w6 (w.heap.size+2) NSl3.nil) NSl3.nil (w.heap.size+2) 30 rfl rfl ((RB.out.below h6).st8 NSl3.nil)) rfl ?_;rw [EV.out.1,EV.out.2];exact ⟨NSl3.nil,rfl,vBi _ _,Below.st8 (B1.out.trans (h6.mono B1.out.size)) (by omega) NSl3.nil⟩
 have y2:¬o≥0:=c2;replace LE:=hid (show flE N L=if hb=true then 36 else if 48≤N.floods.length then 3 else 0 by rw [LE.out,if_neg c1,if_neg c2]);clear c2
 go_upto_region 6 with (first
  |((with_reducible refine vAf ?hg (.tmp 3) ?ho (w.heap.size+1) ?hx L s1 s2 s3 s4 lb_ ?_);(case hg=>rfl);(case ho=>rfl);(case hx=>rfl))
  |(go_at_call 31;(with_reducible refine (BG.out _ B1.out).mono ?_);rintro e w2 ⟨rfl,b_⟩;have Y2:=hid b_;have X2:=hid (vAa B1.out b_);obtain ⟨⟨f0,f1,f2,f3,f4,f5,f6,f7⟩,⟨g0,g11,g16⟩,lb_,_⟩:=KN.out _ Y2.out;clear b_)
  |(go_at_call 20;(with_reducible refine (FID.out _ X2.out).mono ?_);rintro e w3 ⟨rfl,b_⟩;have Y3:=hid (vAa Y2.out b_);have X3:=hid (vAa X2.out b_);obtain ⟨⟨f0,f1,f2,f3,f4,f5,f6,f7⟩,⟨g0,g11,g16⟩,lb_,_⟩:=KN.out _ Y3.out;clear b_)
  |(go_at_call 39;(with_reducible refine (LSD.out _ X3.out).mono ?_);rintro e w4 ⟨rfl,b_⟩;have Y4:=hid (vAa Y3.out b_);have X4:=hid (vAa X3.out b_);obtain ⟨⟨f0,f1,f2,f3,f4,f5,f6,f7⟩,⟨g0,g11,g16⟩,lb_,_⟩:=KN.out _ Y4.out;clear b_))
 clear f0 f1 f2 f3 f4 f5 f6 f7 g0 g11 g16 lb_
 cases hb
 rotate_left
 · have EV:=hid (fl_e (L:=L) (e:=36) (by rw [LE.out,if_pos rfl]) (by decide))
   refine vAe (fun wx=>Below w1.heap.size w1 wx) (by kernel_rfl) (by kernel_rfl) (vAd Y4.out 1) ?_
   repeat
    first
     |(refine Seq.pass rfl ?_;simp only [Act.put,List.setIfInBounds_toArray,List.set_cons_zero,List.set_cons_succ])
     |(refine Seq.run ?_ rfl (fun wx hx=>?_) ?_
       rotate_left
       · obtain ⟨-,⟨g0,g11,g16⟩,-,-,-,hBx⟩:=KN.out wx hx
         obtain ⟨f0,p4⟩:=KD.out wx hx
         go_simp
         first
          |(refine StepRun.val ?_;exact hx)
          |(refine StepRun.call (v:=.bool true) ?_;(with_reducible refine Calls.mono (HSD.out _ hBx) ?_);rintro e w' ⟨rfl,rfl⟩;exact ⟨rfl,hx⟩)
       simp only [Act.put,List.setIfInBounds_toArray,List.set_cons_zero,List.set_cons_succ])
   refine Seq.last (fun w6 h6=>?_);have rb_:=RB.out.below h6;have rl_:=rb_.lt;obtain ⟨r0,z0,r1,z1,r2,z2,r3,z3,r4,z4,r5,z5,r6,z6,r7,z7⟩:=rb_.zero8;clear rb_;go_wp2;refine bodyPost_ret (vDq _ (st8 w6 (w.heap.size+2) NSl3.nil) NSl3.nil (w.heap.size+2) 36 rfl rfl ((RB.out.below h6).st8 NSl3.nil)) rfl ?_;rw [EV.out.1,EV.out.2];exact ⟨NSl3.nil,rfl,vBi _ _,Below.st8 (B1.out.trans (h6.mono B1.out.size)) (by omega) NSl3.nil⟩
 replace LE:=hid (show flE N L=if 48≤N.floods.length then 3 else 0 by rw [LE.out,if_neg (by decide)]);refine vAe (fun wx=>Below w1.heap.size w1 wx) (by kernel_rfl) (by kernel_rfl) (vAd Y4.out 1) ?_
 repeat
  first
   |(refine Seq.pass rfl ?_;simp only [Act.put,List.setIfInBounds_toArray,List.set_cons_zero,List.set_cons_succ])
   |(refine Seq.run ?_ rfl (fun wx hx=>?_) ?_
     rotate_left
     · obtain ⟨-,⟨g0,g11,g16⟩,-,-,-,hBx⟩:=KN.out wx hx
       obtain ⟨f0,p4⟩:=KD.out wx hx
       go_simp
       first
        |(refine StepRun.val ?_;exact hx)
        |(refine StepRun.call (v:=.bool false) ?_;(with_reducible refine Calls.mono (HSD.out _ hBx) ?_);rintro e w' ⟨rfl,rfl⟩;exact ⟨rfl,hx⟩)
     simp only [Act.put,List.setIfInBounds_toArray,List.set_cons_zero,List.set_cons_succ])
 refine Seq.last (fun w6 h6=>?_);have Y6:=hid h6;clear h6;rename World=>w5;obtain ⟨⟨f0,f1,f2,f3,f4,f5,f6,f7⟩,⟨g0,g11,g16⟩,lb_,_,_,hx5⟩:=KN.out _ Y6.out;have Y5:=Y6;have X5:=hid hx5;clear hx5
 by_cases c4:48≤S.fl.n
 · have y4:(S.fl.n:Int)≥48:=by omega
   have EV:=hid (fl_e (L:=L) (e:=3) (by rw [LE.out,if_pos (by rw [KLEN.out];exact c4)]) (by decide));have rb_:=RB.out.below Y5.out;have rl_:=rb_.lt;obtain ⟨r0,z0,r1,z1,r2,z2,r3,z3,r4,z4,r5,z5,r6,z6,r7,z7⟩:=rb_.zero8;clear c4 rb_;go_wp2;refine bodyPost_ret (vDq _ (st8 w5 (w.heap.size+2) NSl3.nil) NSl3.nil (w.heap.size+2) 3 rfl rfl ((RB.out.below Y5.out).st8 NSl3.nil)) rfl ?_;rw [EV.out.1,EV.out.2]
   exact ⟨NSl3.nil,rfl,vBi _ _,Below.st8 (B1.out.trans (Y5.out.mono B1.out.size)) (by omega) NSl3.nil⟩
 have y4:¬(S.fl.n:Int)≥48:=by omega
 have EV:=hid (show flN N L=vBg N L.row d L.num L.addrs∧flE N L=0 from (fun g=>⟨EN.out g,g⟩) (by rw [LE.out,if_neg (by rw [KLEN.out];exact c4)]));have KS:=hid (show N.floods.length≤47 by have:=KLEN.out;omega);clear c4 LE EN
 go_upto_region 12 with fail
 go_upto_region 13 with (go_at_call 27;(with_reducible refine (CP.out _ X5.out).mono ?_);rintro e w_6 ⟨U,rfl,hown,hb_⟩;have OW:=hid hown;have B_6:=hid hb_;have Y_6:=hid (vAa Y5.out hb_);clear hown hb_)
 obtain ⟨w_7,hw_7⟩:∃w_7,w_6.alloc (.cells (nA U) 31)=w_7:=⟨_,rfl⟩
 have A7:Below w_6.heap.size w_6 w_7:=by rw [←hw_7];exact vAc _ _
 have O7:=hid (OW.out.up A7);have T7:=hid (show TBx w_7 w_6.heap.size 31 (vBk U) by rw [←hw_7];exact TBx.new w_6 _ _);have Y_7:=hid (vAa Y_6.out A7);have FF:=hid (show ∀b,F b→b<w5.heap.size from fun b g=>Nat.lt_of_lt_of_le (HF.out b g) X5.out.size);have S56:=hid (show w5.heap.size≤w_6.heap.size from B_6.out.size);have S67:=hid (show w_6.heap.size≤w_7.heap.size from A7.size)
 have Q5:=hid (show w.heap.size+2<w5.heap.size from (RB.out.below Y5.out).lt);rw [hw_7];clear hw_7 A7 f0 f1 f2 f3 f4 f5 f6 f7 g0 g11 g16 OW;obtain ⟨q7,hq7⟩:∃q,w_6.heap.size=q:=⟨_,rfl⟩;have G6:=hid (show w5.heap.size≤q7∧q7<w_7.heap.size from ⟨by rw [←hq7];exact S56.out,by rw [←hq7];exact T7.out.lt⟩);rw [hq7] at T7 ⊢;clear hq7;obtain ⟨W0,hW0⟩:∃W0,w_7.drew=W0:=⟨_,rfl⟩;have V0:=hid (show Below w1.heap.size w1 W0 from hW0▸vAd Y_7.out 1)
 have K0:=KN.out _ V0.out;have OO0:=hid (show NOwn W0 w5.heap.size F N U from hW0▸O7.out.up (Below.refl _ _).drew);have T0:=hid (show TBx W0 q7 31 (vBk U) from hW0▸T7.out);have HX:=hid hW0
 have sz0:w_7.heap.size≤W0.heap.size:=by rw [←hW0];exact Nat.le_refl _
 clear hW0;obtain ⟨s',W2,hr2,own2,gr2,b2⟩:=run_ints (P:=Tryz.prog) (w:=W0.alloc (.cells #[] 33)) (B:=W0.heap.size) (k:=.u32) 35 35 33 Tryz.underlying35 (Desc.of (by kernel_rfl)) ⟨some ⟨W0.heap.size,0,none⟩,0,0⟩ [] (OwnI.lit .u32 33 W0 W0.heap.size [] (Nat.le_refl _) (by decide)) s4.A s4.n s4.c L.addrs (K0.2.2.2.2.1.2.2.2.alloc _) (by have:=LL.out;have:=AX.out;simp;omega) (by simp);rw [List.nil_append] at own2
 have bw2:Below W0.heap.size W0 W2:=((Below.refl _ _).alloc (Nat.le_refl _) _).trans b2;have OO2:=hid (OO0.out.up bw2);have T2:=hid (T0.out.below bw2);have V2:=hid (V0.out.trans (bw2.mono V0.out.size))
 have gB:w5.heap.size≤W0.heap.size:=by have:=G6.out;omega
 have RT2:=hid ((own2.read (.inr rfl)).keep (F':=InB W2 w5.heap.size F) (fun _ _=>rfl) (fun b hb=>⟨hb.2.lt,.inr ⟨Nat.le_trans gB hb.1,hb.2⟩⟩));obtain ⟨W4,hW4⟩:∃W4,W2.alloc (.cells (floodC ⟨L.row,(d:Int),L.num,L.addrs⟩ s').toArray 71)=W4:=⟨_,rfl⟩
 have bw4:Below W2.heap.size W2 W4:=by rw [←hW4];exact (Below.refl _ _).alloc (Nat.le_refl _) _
 have OO4:=hid (OO2.out.up bw4);have T4:=hid (T2.out.below bw4);have V4:=hid (V2.out.trans (bw4.mono V2.out.size))
 have E4:TBx W4 W2.heap.size 71 (floodC ⟨L.row,(d:Int),L.num,L.addrs⟩ s'):=by rw [←hW4];exact TBx.new W2 _ _
 obtain ⟨u',W5,hr5,R5,C5,b5⟩:=run_ri1 (P:=Tryz.prog) 27 27 Tryz.underlying27 (Desc.of (by kernel_rfl)) (by decide) OO4.out.fl vBx FF.out W2.heap.size (floodC ⟨L.row,(d:Int),L.num,L.addrs⟩ s') ⟨L.row,(d:Int),L.num,L.addrs⟩ E4.range ⟨s',rfl,RT2.out.keep (fun b hb=>bw4.block b hb.1) (fun b hb=>⟨Nat.lt_of_lt_of_le hb.1 bw4.size,hb.2.imp id fun g=>⟨g.1,g.2.below bw4⟩⟩)⟩ (by have:=KS.out;omega) (Nat.le_trans gB (Nat.le_trans bw2.size bw4.size))
 have T5:=hid (T4.out.chg C5 (by decide));have V5:=hid (V4.out.trans (b5.mono (by have:=Y5.out.size;exact this)));obtain ⟨W1,hW1⟩:∃W1,W0.alloc (.cells #[] 33)=W1:=⟨_,rfl⟩;obtain ⟨W6,hW6⟩:∃W6,W5.setCell ⟨q7,5,none⟩ (.slice u'.A u'.n u'.c)=W6:=⟨_,rfl⟩;obtain ⟨U1,hU1⟩:∃U1:NSl3,({U with fl:=u'}:NSl3)=U1:=⟨_,rfl⟩;have V1:=hid (show Below w1.heap.size w1 W1 by rw [←hW1];exact V0.out.alloc V0.out.size _)
 have T1:=hid (show TBx W1 q7 31 (vBk U) by rw [←hW1];exact T0.out.below ((Below.refl _ _).alloc (Nat.le_refl _) _));have C6:=hid (show ChgT w5.heap.size 31 W5 W6 by rw [←hW6];exact T5.out.chgT G6.out.1 5 _);have T8:=hid (show TBx W6 q7 31 (vBk U1) by rw [←hW6,←hU1];exact T5.out.set 5 _);have V6:=hid (show Below w1.heap.size w1 W6 by rw [←hW6];exact V5.out.setCell (by have:=G6.out.1;have:=Y5.out.size;exact Nat.le_trans this ‹_›) _)
 have O8:=hid (show NOwn W6 w5.heap.size F (vBg N L.row d L.num L.addrs) U1 by
  rw [←hU1]
  exact (OO4.out.setFl C5 FF.out R5).box C6.out vEi FF.out)
 rw [hW1] at hr2;have HR2:=hid hr2;have HR5:=hid hr5;have H1:=hid hW1;have H4:=hid hW4;have H6:=hid hW6
 have CB:=hid (fun m wx (hx:PhL [W0,W1,W2,W2,W4,W5,W6] m wx)=>hx.all (P:=fun x=>Below w1.heap.size w1 x) (by
  intro x hx;simp only [List.mem_cons,List.not_mem_nil,or_false] at hx
  rcases hx with rfl|rfl|rfl|rfl|rfl|rfl|rfl
  · exact V0.out
  · exact V1.out
  · exact V2.out
  · exact V2.out
  · exact V4.out
  · exact V5.out
  · exact V6.out))
 have CX:=hid (fun m wx (hx:PhL [W0,W1,W2,W2,W4,W5,W6] m wx) (hm:m≤4)=>hx.upto hm (P:=fun x=>x.cell? ⟨q7,5,none⟩=some (.slice U.fl.A U.fl.n U.fl.c)) (by
  intro x hx;simp only [List.take,List.mem_cons,List.not_mem_nil,or_false] at hx
  rcases hx with rfl|rfl|rfl|rfl|rfl
  · exact T0.out.cell 5 _ rfl
  · exact T1.out.cell 5 _ rfl
  · exact T2.out.cell 5 _ rfl
  · exact T2.out.cell 5 _ rfl
  · exact T4.out.cell 5 _ rfl))
 clear hr2 own2 gr2 b2 bw2 bw4 hW4 E4 hr5 R5 C5 b5 hW1 hW6 K0 hU1 gB sz0;refine vAs (PhL [W0,W1,W2,W2,W4,W5,W6]) [7,10,11,12,13,15] (by kernel_rfl) (by kernel_rfl) (by kernel_rfl) (by rw [HX.out];rfl) ?_
 repeat
  first
   |(refine SeqP.run ?_ 6 (vEk _ _ _ _) rfl (by decide) (fun m hm wx hx=>?_) ?_
     rotate_left
     · obtain ⟨_,⟨g0,g11,g16⟩,_⟩:=KN.out _ (CB.out m wx hx)
       go_simp
       refine StepRun.val ?_;exact hx
     simp only [Act.put,List.setIfInBounds_toArray,List.set_cons_zero,List.set_cons_succ])
   |(refine SeqP.run (.slice U.fl.A U.fl.n U.fl.c) 4 (of_decide_eq_true (by kernel_rfl)) rfl (by decide) (fun m hm wx hx=>?_) ?_
     · have cx:=CX.out m wx hx hm
       go_simp
       refine StepRun.val ?_;exact hx
     simp only [Act.put,List.setIfInBounds_toArray,List.set_cons_zero,List.set_cons_succ])
   |(refine SeqP.make (.slice (some ⟨W0.heap.size,0,none⟩) 0 0) 0 rfl rfl (fun wx hx=>?_) ?_
     · obtain rfl:W0=wx:=Option.some.inj hx
       go_simp
       exact ⟨rfl,by rw [H1.out];rfl⟩
     simp only [Act.put,List.setIfInBounds_toArray,List.set_cons_zero,List.set_cons_succ])
   |(refine SeqP.make (.slice s'.A s'.n s'.c) 1 rfl rfl (fun wx hx=>?_) ?_
     · obtain rfl:W1=wx:=Option.some.inj hx
       rw [vDo (t:=35) rfl rfl rfl HR2.out];exact ⟨rfl,rfl⟩
     simp only [Act.put,List.setIfInBounds_toArray,List.set_cons_zero,List.set_cons_succ])
   |(refine SeqP.make (.agg (floodC ⟨L.row,(d:Int),L.num,L.addrs⟩ s').toArray) 2 rfl rfl (fun wx hx=>?_) ?_
     · obtain rfl:W2=wx:=Option.some.inj hx
       rw [show floodC ⟨L.row,(d:Int),L.num,L.addrs⟩ s'=[.int .i64 L.row,.int .i64 (d:Int),.int .i64 L.num,.slice s'.A s'.n s'.c] from rfl]
       go_simp
       exact ⟨rfl,rfl⟩
     simp only [Act.put,List.setIfInBounds_toArray,List.set_cons_zero,List.set_cons_succ])
   |(refine SeqP.make (.slice (some ⟨W2.heap.size,0,none⟩) 1 1) 3 rfl rfl (fun wx hx=>?_) ?_
     · obtain rfl:W2=wx:=Option.some.inj hx
       go_simp
       exact ⟨rfl,by have:=H4.out;rw [←this];rfl⟩
     simp only [Act.put,List.setIfInBounds_toArray,List.set_cons_zero,List.set_cons_succ])
   |(refine SeqP.make (.slice u'.A u'.n u'.c) 4 rfl rfl (fun wx hx=>?_) ?_
     · obtain rfl:W4=wx:=Option.some.inj hx
       rw [vDo (t:=27) rfl rfl rfl HR5.out];exact ⟨rfl,rfl⟩
     simp only [Act.put,List.setIfInBounds_toArray,List.set_cons_zero,List.set_cons_succ])
   |(refine SeqP.make undef 5 rfl rfl (fun wx hx=>?_) ?_
     · obtain rfl:W5=wx:=Option.some.inj hx
       have cx:=T5.out.cell 5 (.slice U.fl.A U.fl.n U.fl.c) rfl;have ff:=T5.out.live 5
       go_simp
       exact ⟨rfl,by rw [H6.out];rfl⟩
     simp only [Act.put])
 refine SeqP.last rfl (fun w9 h9=>?_);obtain rfl:W6=w9:=Option.some.inj h9;clear CB CX HX H1 H4 H6 HR2 HR5;have rb_:=RB.out.below V6.out;have rl_:=rb_.lt;have tl_:=T8.out.lt;have t0:=T8.out.cell 0 (.slice U1.dv.A U1.dv.n U1.dv.c) rfl;have r0:=rb_.cell 0 (.slice none 0 0) rfl;have z0:=rb_.live 0;have t1:=T8.out.cell 1 (.slice U1.pt.A U1.pt.n U1.pt.c) rfl;have r1:=rb_.cell 1 (.slice none 0 0) rfl;have z1:=rb_.live 1
 have t2:=T8.out.cell 2 (.slice U1.lk.A U1.lk.n U1.lk.c) rfl;have r2:=rb_.cell 2 (.slice none 0 0) rfl;have z2:=rb_.live 2;have t3:=T8.out.cell 3 (.slice U1.dm.A U1.dm.n U1.dm.c) rfl;have r3:=rb_.cell 3 (.slice none 0 0) rfl;have z3:=rb_.live 3;have t4:=T8.out.cell 4 (.slice U1.st.A U1.st.n U1.st.c) rfl;have r4:=rb_.cell 4 (.slice none 0 0) rfl;have z4:=rb_.live 4;have t5:=T8.out.cell 5 (.slice U1.fl.A U1.fl.n U1.fl.c) rfl
 have r5:=rb_.cell 5 (.slice none 0 0) rfl;have z5:=rb_.live 5;have t6:=T8.out.cell 6 (.slice U1.vr.A U1.vr.n U1.vr.c) rfl;have r6:=rb_.cell 6 (.slice none 0 0) rfl;have z6:=rb_.live 6;have t7:=T8.out.cell 7 (.slice U1.ir.A U1.ir.n U1.ir.c) rfl;have r7:=rb_.cell 7 (.slice none 0 0) rfl;have z7:=rb_.live 7;clear rb_;go_wp2;refine bodyPost_ret (vDq _ (st8 W6 (w.heap.size+2) U1) U1 (w.heap.size+2) 0 rfl rfl ((RB.out.below V6.out).st8 U1)) rfl ?_
 rw [EV.out.1,EV.out.2];have ON:=O8.out.far (w':=st8 W6 (w.heap.size+2) U1) (q:=w.heap.size+2) (by rw [vBh];exact Nat.le_refl _) (fun b hb=>vAx _ _ _ hb) (by have:=Q5.out;omega) (fun g=>by have:=HF.out _ g;omega);exact ⟨U1,rfl,ON.readF.keep (fun _ _=>rfl) (fun b g=>⟨g.1.imp id (fun e=>by have:=Q5.out;omega),g.2⟩),Below.st8 (B1.out.trans (V6.out.mono B1.out.size)) (by omega) U1⟩
end Go.Proofs.YtgmflecelnefcaaGreat
