import Derived.Test.YtgnkpbgaoiaefaaGreatPb41
import Derived.Test.YtgnkpbgaoiaefaaGreatPb04
set_option maxRecDepth 100000
set_option maxHeartbeats 40000000
namespace Go.Proofs.YtgnkpbgaoiaefaaGreat
open Go.Lib (hid)
open Go.RowKit
theorem vEs (tmps:Array Value) (W:World) (S:NSl3) (q:Nat) (E:Int) (h2:tmps[4]?.getD undef=.pointer (some ⟨q,0,none⟩)) (h5:tmps[5]?.getD undef=.int .i64 E) (hb:TBx W q 31 (vBx S)):
 (results Tryz.f9 tmps).run Tryz.prog W=.ok (.tuple #[vBb S,.int .i64 E]) W:=by
 have t0:=hb.cell 0 _ rfl;have t1:=hb.cell 1 _ rfl;have t2:=hb.cell 2 _ rfl;have t3:=hb.cell 3 _ rfl;have t4:=hb.cell 4 _ rfl;have t5:=hb.cell 5 _ rfl;have t6:=hb.cell 6 _ rfl;have t7:=hb.cell 7 _ rfl;clear hb;unfold vBb;simp [results,Tryz.results9,go_sem,h2,h5,t0,t1,t2,t3,t4,t5,t6,t7]
theorem pp_err {N:NV} {L:LV} {E:Int} (h:ppE N L=E) (h0:E≠0):ppN N L=NV.zero∧ppE N L=E:=⟨by unfold ppN;rw [if_neg (by rw [h];exact h0)],h⟩
theorem pp_2 {N:NV} {L:LV} (h:vCh N L 2=false):ppN N L=NV.zero∧ppE N L=2:=pp_err (by unfold ppE;rw [if_pos h]) (by decide)
theorem pp_31 {N:NV} {L:LV} (h:vCh N L 2=true) (d:dvF N L.dev<0):ppN N L=NV.zero∧ppE N L=31:=pp_err (by unfold ppE;rw [if_neg (by rw [h];decide),if_pos d]) (by decide)
theorem pp_30 {N:NV} {L:LV} (h:vCh N L 2=true) (d:¬dvF N L.dev<0) (p:0≤ptF N (dvF N L.dev) L.port):ppN N L=NV.zero∧ppE N L=30:=pp_err (by unfold ppE;rw [if_neg (by rw [h];decide),if_neg d,if_pos p]) (by decide)
theorem pp_3 {N:NV} {L:LV} (h:vCh N L 2=true) (d:¬dvF N L.dev<0) (p:¬0≤ptF N (dvF N L.dev) L.port) (z:40≤N.ports.length∨48<N.domains.length+(lkL N (dvF N L.dev) L).length):ppN N L=NV.zero∧ppE N L=3:=pp_err (by unfold ppE;rw [if_neg (by rw [h];decide),if_neg d,if_neg p,if_pos z]) (by decide)
theorem pp_0 {N:NV} {L:LV} (h:vCh N L 2=true) (d:¬dvF N L.dev<0) (p:¬0≤ptF N (dvF N L.dev) L.port) (z:¬(40≤N.ports.length∨48<N.domains.length+(lkL N (dvF N L.dev) L).length)):ppN N L=vAp N L∧ppE N L=0:=by
 have e:ppE N L=0:=by unfold ppE;rw [if_neg (by rw [h];decide),if_neg d,if_neg p,if_neg z]
 exact ⟨by unfold ppN;rw [if_pos e],e⟩
def lkK (N:NV) (dev:Int) (vs:List Int) (k:Nat):List Int:=(vs.take k).filter fun v=>decide (v≠0) && decide (atF N dev v= -1)
def vHq (N:NV) (L:LV) (k:Nat):NV:={N with ports:=N.ports++[vDu N L],domains:=N.domains++(lkK N (dvF N L.dev) (L.vlan :: L.tagged) k).map (newD (dvF N L.dev))}
theorem lkK_next {N:NV} {dev:Int} {vs:List Int} {k:Nat} (hk:k<vs.length):lkK N dev vs (k+1)=lkK N dev vs k++(if vs.getD k 0≠0∧atF N dev (vs.getD k 0)= -1 then [vs.getD k 0] else []):=by
 have e:vs.getD k 0=vs[k]:=by simp [List.getD,hk]
 unfold lkK;rw [List.take_succ_eq_append_getElem hk,List.filter_append,e];congr 1
 by_cases c:vs[k]≠0∧atF N dev vs[k]= -1
 · rw [if_pos c];simp [c]
 · rw [if_neg c]
   simp only [List.filter_cons,List.filter_nil];rw [if_neg];rw [Bool.and_eq_true,decide_eq_true_eq,decide_eq_true_eq];exact c
theorem lkK_all {N:NV} {dev:Int} {L:LV} {k:Nat} (hk:(L.vlan :: L.tagged).length≤k):lkK N dev (L.vlan :: L.tagged) k=lkL N dev L:=by unfold lkK lkL;rw [List.take_of_length_le hk]
theorem lkK_len {N:NV} {dev:Int} {vs:List Int} {k:Nat}:(lkK N dev vs k).length≤k:=Nat.le_trans (List.length_filter_le _ _) (by rw [List.length_take];omega)
theorem at_mid {N:NV} {L:LV} {k:Nat} (hk:k<(L.vlan :: L.tagged).length) (hn:(L.vlan :: L.tagged).Nodup):atF (vHq N L k) (dvF N L.dev) ((L.vlan :: L.tagged).getD k 0)=atF N (dvF N L.dev) ((L.vlan :: L.tagged).getD k 0):=by
 unfold atF vHq;rw [atK_app]
 by_cases h:atK N.domains (dvF N L.dev) ((L.vlan :: L.tagged).getD k 0) 0= -1
 · rw [if_pos h,h]
   refine (atK_new _ _ _ _ _).2 (fun g=>?_);have hm:(L.vlan :: L.tagged).getD k 0∈(L.vlan :: L.tagged).take k:=(List.mem_filter.1 g.2).1;obtain ⟨j,hj,e⟩:=List.getElem_of_mem hm
   have hj2:j<k:=by rw [List.length_take] at hj;omega
   have e2:(L.vlan :: L.tagged).getD j 0=(L.vlan :: L.tagged).getD k 0:=by
    rw [←e,List.getElem_take];simp only [List.getD,List.getElem?_eq_getElem (show j<(L.vlan :: L.tagged).length by omega),Option.getD_some]
   have:=nodup_idx hn (by omega) hk e2
   omega
 · rw [if_neg h]
theorem wpList_ints {P:Program} {w:World} {B:Nat} {k:IntKind} {ops:Array Oper} {rest:List Oper} {o:Oper} {a:Act} {Q:Exit→Act→World→Prop} (hgd:o.guard=none) (x y:Operand) (t T:TypeId) (ht:P.underlying t=some (.slice T)) (hd:Desc P T 1)
 (ho:o.op=.call {callee:=.builtin .append,args:=#[x,y],argTypes:=#[t,t]}) (s:Sl3) (xs:List Int) (h:OwnI k T w B s xs) (A:Option Addr) (m c:Nat) (ys:List Int) (hy:ISl w k A m c ys) (hn:xs.length+m≤100000) (hB:B≤w.heap.size)
 (hx:a.eval x=.slice s.A s.n s.c) (hyv:a.eval y=.slice A m c)
 (hq:∀(s':Sl3) w',OwnI k T w' B s' (xs++ys)→w.grownBy w' (Value.slice s.A s.n s.c).ownBlock→Below B w w'→wpList P ops Q rest (a.put o.dst (.slice s'.A s'.n s'.c)) w'):wpList P ops Q (o :: rest) a w:=by
 obtain ⟨s',w',hr,h1,h2,h3⟩:=run_ints t o.type T ht hd s xs h A m c ys hy hn hB
 refine wpList_plain hgd fun K hK=>?_
 unfold Oper.wp execOp;simp only [ho,resolve,invoke,builtin,Sem.run_bind,Sem.run_pure,Result.andThen_ok,List.map_toArray,List.map_cons,List.map_nil,hx,hyv,hr];exact hK _ _ (hq s' w' h1 h2 h3)
theorem rpport_any (N:NV) (S:NSl3) (L:LV) (s1 s2 s3 s4:SlV) (w:World) (h:NRead w (vAs w) N S) (hl:LRead w L s1 s2 s3 s4) (hz:NvSz N) (hw:LvW L) (hs:LvSm L):Calls Tryz.prog 9 #[vBb S,vAw L s1 s2 s3 s4] w (vIs (ppN N L) (ppE N L) w):=by
 have UP:=hid (fun (w':World) (hb:Below w.heap.size w w')=>h.up hb);have UL:=hid (fun (w':World) (hb:Below w.heap.size w w')=>vAq hl hb)
 have FT:=fun (w':World) (hb:Below w.heap.size w w')=>fits_any N S L s1 s2 s3 s4 2 w' (h.up hb) (vAq hl hb) hw hs (.inr rfl)
 have DV:=fun (w':World) (hb:Below w.heap.size w w')=>rdevice_any N S L.dev w' (h.up hb)
 have PV:=fun (w':World) (hb:Below w.heap.size w w')=>rport_any N S (dvF N L.dev) L.port w' (h.up hb)
 have AT:=hid (fun (N':NV) (S':NSl3) (v:Int) (w':World) (hr:NRead w' (vAs w') N' S')=>rat_any N' S' (dvF N L.dev) v w' hr)
 have CP:=fun (w':World) (hb:Below w.heap.size w w')=>rcopy_any (vAs w) N S w' (h.keep (F':=vAs w) (fun b g=>hb.block b g) (fun _ g=>g)) (fun b g=>Nat.lt_of_lt_of_le g hb.size) hz
 obtain ⟨v,hv⟩:∃v,vCh N L 2=v:=⟨_,rfl⟩;rw [hv] at FT;have HV:=hid hv;unfold vBb at FT CP DV PV;unfold GotCopy vBb at CP;have FT:=hid FT;have CP:=hid CP;have NL1:=hid h.pt.len;have NL2:=hid h.dm.len;have hle1:=hl.1.le;have hcap1:=hl.1.cap;have TL:=hid hl.1.len;have M0:=hid hw.mac.1;have NZ:=hid hz;obtain ⟨dv,hdv⟩:∃d,dvF N L.dev=d:=⟨_,rfl⟩;obtain ⟨pv,hpv⟩:∃d,ptF N dv L.port=d:=⟨_,rfl⟩
 rw [hdv] at DV PV AT;rw [hpv] at PV;have DV:=hid DV;have PV:=hid PV;have HDV:=hid hdv;have HPV:=hid hpv;clear hv hz hw hs hdv hpv;clear h hl;unfold vBb;rw [vEi]
 go_enter Tryz.func9,Tryz.ntmps9
 go_upto_region 1 with fail
 generalize hw1:World.alloc _ _=w1;obtain ⟨B1,NB,LB,ql1,RB⟩:=vFu (S:=S) (L:=L) (s1:=s1) (s2:=s2) (s3:=s3) (s4:=s4) hw1;clear hw1;replace B1:=hid B1;replace NB:=hid NB;replace LB:=hid LB;replace RB:=hid RB
 have KN:=hid (show ∀wx,Below w1.heap.size w1 wx→NF wx w.heap.size S∧(wx.cell? ⟨w.heap.size+1,0,none⟩=some (.int .i64 L.row)∧wx.cell? ⟨w.heap.size+1,2,none⟩=some (.string (str L.dev))∧wx.cell? ⟨w.heap.size+1,3,none⟩=some (.string (str L.port))∧wx.cell? ⟨w.heap.size+1,10,none⟩=some (.int .i64 L.vlan)∧wx.cell? ⟨w.heap.size+1,12,none⟩=some (.int .i64 L.cost)∧wx.cell? ⟨w.heap.size+1,13,none⟩=some (.slice s1.A s1.n s1.c))∧BoxF wx (w.heap.size+1) 17 (lc L s1 s2 s3 s4)∧NRead wx (vAs wx) N S∧LRead wx L s1 s2 s3 s4∧Below w.heap.size w wx from fun wx hx=>by
  have nb:=NB.out.below hx;have bx:=LB.out.below (by omega) hx;have b0:=B1.out.trans (hx.mono B1.out.size)
  exact ⟨⟨nb.c0,nb.c1,nb.c2,nb.c3,nb.c4,nb.c5,nb.c6,nb.c7⟩,⟨bx.cell 0 (by omega),bx.cell 2 (by omega),bx.cell 3 (by omega),bx.cell 10 (by omega),bx.cell 12 (by omega),bx.cell 13 (by omega)⟩,bx,UP.out _ b0,UL.out _ b0,b0⟩)
 have BS:=hid (Below.refl w1.heap.size w1);obtain ⟨⟨f0,f1,f2,f3,f4,f5,f6,f7⟩,⟨g0,g2,g3,g10,g12,g13⟩,lb_,_⟩:=KN.out w1 (Below.refl _ _)
 cases v
 · have EV:=hid (pp_2 HV.out)
   go_wp2_with (first
    |((with_reducible refine vAf ?hg (.tmp 3) ?ho (w.heap.size+1) ?hx L s1 s2 s3 s4 lb_ ?_);(case hg=>rfl);(case ho=>rfl);(case hx=>rfl))
    |(go_at_call 15;(with_reducible refine (FT.out _ B1.out).mono ?_);rintro e w2 ⟨rfl,b_⟩;have Y2:=hid (b_);obtain ⟨⟨f0,f1,f2,f3,f4,f5,f6,f7⟩,⟨g0,g2,g3,g10,g12,g13⟩,lb_,_⟩:=KN.out _ Y2.out;have X2:=hid ((KN.out _ Y2.out).2.2.2.2.2);have rb_:=RB.out.below Y2.out;have rl_:=rb_.lt;obtain ⟨r0,z0,r1,z1,r2,z2,r3,z3,r4,z4,r5,z5,r6,z6,r7,z7⟩:=rb_.zero8;clear b_ rb_))
   refine bodyPost_ret (vEs _ (st8 w2 (w.heap.size+2) NSl3.nil) NSl3.nil (w.heap.size+2) 2 rfl rfl ((RB.out.below Y2.out).st8 NSl3.nil)) rfl ?_;rw [EV.out.1,EV.out.2];exact ⟨NSl3.nil,rfl,vCl _,Below.st8 (B1.out.trans (Y2.out.mono B1.out.size)) (by omega) NSl3.nil⟩
 have FI:=hid (vEl.1 HV.out)
 by_cases d0:dv<0
 · have EV:=hid (pp_31 HV.out (by rw [HDV.out];exact d0))
   go_wp2_with (first
    |((with_reducible refine vAf ?hg (.tmp 3) ?ho (w.heap.size+1) ?hx L s1 s2 s3 s4 lb_ ?_);(case hg=>rfl);(case ho=>rfl);(case hx=>rfl))
    |(go_at_call 15;(with_reducible refine (FT.out _ B1.out).mono ?_);rintro e w2 ⟨rfl,b_⟩;have Y2:=hid (b_);obtain ⟨⟨f0,f1,f2,f3,f4,f5,f6,f7⟩,⟨g0,g2,g3,g10,g12,g13⟩,lb_,_⟩:=KN.out _ Y2.out;have X2:=hid ((KN.out _ Y2.out).2.2.2.2.2);clear b_)
    |(go_at_call 18;(with_reducible refine (DV.out _ X2.out).mono ?_);rintro e w3 ⟨rfl,b_⟩;have Y3:=hid (vAa Y2.out b_);obtain ⟨⟨f0,f1,f2,f3,f4,f5,f6,f7⟩,⟨g0,g2,g3,g10,g12,g13⟩,lb_,_⟩:=KN.out _ Y3.out;have X3:=hid ((KN.out _ Y3.out).2.2.2.2.2);have rb_:=RB.out.below Y3.out;have rl_:=rb_.lt;obtain ⟨r0,z0,r1,z1,r2,z2,r3,z3,r4,z4,r5,z5,r6,z6,r7,z7⟩:=rb_.zero8;clear b_ rb_))
   refine bodyPost_ret (vEs _ (st8 w3 (w.heap.size+2) NSl3.nil) NSl3.nil (w.heap.size+2) 31 rfl rfl ((RB.out.below Y3.out).st8 NSl3.nil)) rfl ?_;rw [EV.out.1,EV.out.2];exact ⟨NSl3.nil,rfl,vCl _,Below.st8 (B1.out.trans (Y3.out.mono B1.out.size)) (by omega) NSl3.nil⟩
 have D0:=hid d0
 by_cases p0:0≤pv
 · have EV:=hid (pp_30 HV.out (by rw [HDV.out];exact d0) (by rw [HDV.out,HPV.out];exact p0))
   have q0:¬pv<0:=by omega
   go_wp2_with (first
    |((with_reducible refine vAf ?hg (.tmp 3) ?ho (w.heap.size+1) ?hx L s1 s2 s3 s4 lb_ ?_);(case hg=>rfl);(case ho=>rfl);(case hx=>rfl))
    |(go_at_call 15;(with_reducible refine (FT.out _ B1.out).mono ?_);rintro e w2 ⟨rfl,b_⟩;have Y2:=hid (b_);obtain ⟨⟨f0,f1,f2,f3,f4,f5,f6,f7⟩,⟨g0,g2,g3,g10,g12,g13⟩,lb_,_⟩:=KN.out _ Y2.out;have X2:=hid ((KN.out _ Y2.out).2.2.2.2.2);clear b_)
    |(go_at_call 18;(with_reducible refine (DV.out _ X2.out).mono ?_);rintro e w3 ⟨rfl,b_⟩;have Y3:=hid (vAa Y2.out b_);obtain ⟨⟨f0,f1,f2,f3,f4,f5,f6,f7⟩,⟨g0,g2,g3,g10,g12,g13⟩,lb_,_⟩:=KN.out _ Y3.out;have X3:=hid ((KN.out _ Y3.out).2.2.2.2.2);clear b_)
    |(go_at_call 19;(with_reducible refine (PV.out _ X3.out).mono ?_);rintro e w4 ⟨rfl,b_⟩;have Y4:=hid (vAa Y3.out b_);obtain ⟨⟨f0,f1,f2,f3,f4,f5,f6,f7⟩,⟨g0,g2,g3,g10,g12,g13⟩,lb_,_⟩:=KN.out _ Y4.out;have X4:=hid ((KN.out _ Y4.out).2.2.2.2.2);have rb_:=RB.out.below Y4.out;have rl_:=rb_.lt;obtain ⟨r0,z0,r1,z1,r2,z2,r3,z3,r4,z4,r5,z5,r6,z6,r7,z7⟩:=rb_.zero8;clear b_ rb_))
   refine bodyPost_ret (vEs _ (st8 w4 (w.heap.size+2) NSl3.nil) NSl3.nil (w.heap.size+2) 30 rfl rfl ((RB.out.below Y4.out).st8 NSl3.nil)) rfl ?_;rw [EV.out.1,EV.out.2];exact ⟨NSl3.nil,rfl,vCl _,Below.st8 (B1.out.trans (Y4.out.mono B1.out.size)) (by omega) NSl3.nil⟩
 have P0:=hid p0
 have q0:pv<0:=by omega
 go_upto_region 9 with (first
  |((with_reducible refine vAf ?hg (.tmp 3) ?ho (w.heap.size+1) ?hx L s1 s2 s3 s4 lb_ ?_);(case hg=>rfl);(case ho=>rfl);(case hx=>rfl))
  |(go_at_call 15;(with_reducible refine (FT.out _ B1.out).mono ?_);rintro e w2 ⟨rfl,b_⟩;have Y2:=hid (b_);obtain ⟨⟨f0,f1,f2,f3,f4,f5,f6,f7⟩,⟨g0,g2,g3,g10,g12,g13⟩,lb_,_⟩:=KN.out _ Y2.out;have X2:=hid ((KN.out _ Y2.out).2.2.2.2.2);clear b_)
  |(go_at_call 18;(with_reducible refine (DV.out _ X2.out).mono ?_);rintro e w3 ⟨rfl,b_⟩;have Y3:=hid (vAa Y2.out b_);obtain ⟨⟨f0,f1,f2,f3,f4,f5,f6,f7⟩,⟨g0,g2,g3,g10,g12,g13⟩,lb_,_⟩:=KN.out _ Y3.out;have X3:=hid ((KN.out _ Y3.out).2.2.2.2.2);clear b_)
  |(go_at_call 19;(with_reducible refine (PV.out _ X3.out).mono ?_);rintro e w4 ⟨rfl,b_⟩;have Y4:=hid (vAa Y3.out b_);obtain ⟨⟨f0,f1,f2,f3,f4,f5,f6,f7⟩,⟨g0,g2,g3,g10,g12,g13⟩,lb_,_⟩:=KN.out _ Y4.out;have X4:=hid ((KN.out _ Y4.out).2.2.2.2.2);clear b_)
  |(go_at_call 16;(with_reducible refine (CP.out _ X4.out).mono ?_);rintro e w5 ⟨U,rfl,hown,hb_⟩;have OW:=hid hown;have B5:=hid hb_;have Y5:=hid (vAa Y4.out hb_);clear hown hb_))
 obtain ⟨w6,hw6⟩:∃w6,w5.alloc (.cells (nA U) 31)=w6:=⟨_,rfl⟩
 have A6:Below w5.heap.size w5 w6:=by rw [←hw6];exact (Below.refl _ _).alloc (Nat.le_refl _) _
 obtain ⟨q7,hq7⟩:∃q,w5.heap.size=q:=⟨_,rfl⟩;have O6:=hid (OW.out.up A6);have T6:=hid (show TBx w6 q7 31 (vBx U) by rw [←hw6,←hq7];exact TBx.new w5 _ _);have Y6:=hid (vAa Y5.out A6);have G6:=hid (show w4.heap.size≤q7∧q7<w6.heap.size from ⟨by rw [←hq7];exact B5.out.size,T6.out.lt⟩);have Z4:=hid (show w.heap.size+2<w4.heap.size by have:=(RB.out.below Y4.out).lt;exact this)
 have FF:=hid (show ∀b,vAs w b→b<w4.heap.size from fun b g=>Nat.lt_of_lt_of_le g X4.out.size);rw [hw6,hq7];clear hw6 hq7 A6 f0 f1 f2 f3 f4 f5 f6 f7 g0 g2 g3 g10 g12 g13 lb_ q0;obtain ⟨W0,hW0⟩:∃W0,w6.drew=W0:=⟨_,rfl⟩;have V0:=hid (show Below w1.heap.size w1 W0 from hW0▸vAd Y6.out 1);have K0:=KN.out _ V0.out;have OO0:=hid (show NOwn W0 w4.heap.size (vAs w) N U from hW0▸O6.out.up (Below.refl _ _).drew)
 have T0:=hid (show TBx W0 q7 31 (vBx U) from hW0▸T6.out);have HX:=hid hW0
 have sz0:w6.heap.size≤W0.heap.size:=by rw [←hW0];exact Nat.le_refl _
 clear hW0
 have LT:L.tagged.length≤300:=by
  have k:=(rg_kd2 FI.out.2.1 FI.out.1).1;obtain ⟨_,_,_,_,t,e,_,_,_,_,ht⟩:=k
  have:=ls_len ht
  rw [e];exact Nat.le_trans this (by decide)
 have LTL:=hid LT;obtain ⟨s',W2,hr2,own2,gr2,b2⟩:=run_ints (P:=Tryz.prog) (w:=W0.alloc (.cells #[] 3)) (B:=W0.heap.size) (k:=.i64) 34 34 3 Tryz.underlying34 (Desc.of (by kernel_rfl)) ⟨some ⟨W0.heap.size,0,none⟩,0,0⟩ [] (OwnI.lit .i64 3 W0 W0.heap.size [] (Nat.le_refl _) (by decide)) s1.A s1.n s1.c L.tagged (K0.2.2.2.2.1.1.alloc _) (by have:=TL.out;simp;omega) (by simp);rw [List.nil_append] at own2
 have bw2:Below W0.heap.size W0 W2:=((Below.refl _ _).alloc (Nat.le_refl _) _).trans b2;have OO2:=hid (OO0.out.up bw2);have T2:=hid (T0.out.below bw2);have V2:=hid (V0.out.trans (bw2.mono V0.out.size))
 have gB:w4.heap.size≤W0.heap.size:=by have:=G6.out;omega
 have RT2:=hid ((own2.read (.inl rfl)).keep (F':=InB W2 w4.heap.size (vAs w)) (fun _ _=>rfl) (fun b hb=>⟨hb.2.lt,.inr ⟨Nat.le_trans gB hb.1,hb.2⟩⟩));obtain ⟨W4,hW4⟩:∃W4,W2.alloc (.cells (vJc (vDu N L) s').toArray 62)=W4:=⟨_,rfl⟩
 have bw4:Below W2.heap.size W2 W4:=by rw [←hW4];exact (Below.refl _ _).alloc (Nat.le_refl _) _
 have OO4:=hid (OO2.out.up bw4);have T4:=hid (T2.out.below bw4);have V4:=hid (V2.out.trans (bw4.mono V2.out.size))
 have E4:TBx W4 W2.heap.size 62 (vJc (vDu N L) s'):=by rw [←hW4];exact TBx.new W2 _ _
 obtain ⟨u',W5,hr5,R5,C5,b5⟩:=run_ri1 (P:=Tryz.prog) 23 23 Tryz.underlying23 (Desc.of (by kernel_rfl)) (by decide) OO4.out.pt vCj FF.out W2.heap.size (vJc (vDu N L) s') (vDu N L) E4.range ⟨s',rfl,RT2.out.keep (fun b hb=>bw4.block b hb.1) (fun b hb=>⟨Nat.lt_of_lt_of_le hb.1 bw4.size,hb.2.imp id fun g=>⟨g.1,g.2.below bw4⟩⟩)⟩ (by have:=NZ.out.zpt;omega) (Nat.le_trans gB (Nat.le_trans bw2.size bw4.size))
 have T5:=hid (T4.out.chg C5 (by decide));have V5:=hid (V4.out.trans (b5.mono (by have:=Y4.out.size;exact this)));obtain ⟨W1,hW1⟩:∃W1,W0.alloc (.cells #[] 3)=W1:=⟨_,rfl⟩;obtain ⟨W6,hW6⟩:∃W6,W5.setCell ⟨q7,1,none⟩ (.slice u'.A u'.n u'.c)=W6:=⟨_,rfl⟩;obtain ⟨U1,hU1⟩:∃U1:NSl3,({U with pt:=u'}:NSl3)=U1:=⟨_,rfl⟩;have V1:=hid (show Below w1.heap.size w1 W1 by rw [←hW1];exact V0.out.alloc V0.out.size _)
 have T1:=hid (show TBx W1 q7 31 (vBx U) by rw [←hW1];exact T0.out.below ((Below.refl _ _).alloc (Nat.le_refl _) _));have C6:=hid (show ChgT w4.heap.size 31 W5 W6 by rw [←hW6];exact T5.out.chgT G6.out.1 1 _);have T7:=hid (show TBx W6 q7 31 (vBx U1) by rw [←hW6,←hU1];exact T5.out.set 1 _);have V6:=hid (show Below w1.heap.size w1 W6 by rw [←hW6];exact V5.out.setCell (by have:=G6.out.1;have:=Y4.out.size;exact Nat.le_trans this ‹_›) _)
 have O7:=hid (show NOwn W6 w4.heap.size (vAs w) (vHq N L 0) U1 by
  rw [←hU1]
  have e:vHq N L 0={N with ports:=N.ports++[vDu N L]}:=by unfold vHq lkK;simp
  rw [e]
  exact (OO4.out.setPt C5 FF.out R5).box C6.out vDr FF.out)
 rw [hW1] at hr2;have HR2:=hid hr2;have HR5:=hid hr5;have H1:=hid hW1;have H4:=hid hW4;have H6:=hid hW6
 have CB:=hid (fun m wx (hx:PhL [W0,W1,W2,W2,W4,W5,W6] m wx)=>hx.all (P:=fun x=>Below w1.heap.size w1 x) (by
  intro x hx;simp only [List.mem_cons,List.not_mem_nil,or_false] at hx
  rcases hx with rfl|rfl|rfl|rfl|rfl|rfl|rfl
  · exact V0.out
  · exact V1.out
  · exact V2.out
  · exact V2.out
  · exact V4.out
  · exact V5.out
  · exact V6.out))
 have CX:=hid (fun m wx (hx:PhL [W0,W1,W2,W2,W4,W5,W6] m wx) (hm:m≤4)=>hx.upto hm (P:=fun x=>x.cell? ⟨q7,1,none⟩=some (.slice U.pt.A U.pt.n U.pt.c)) (by
  intro x hx;simp only [List.take,List.mem_cons,List.not_mem_nil,or_false] at hx
  rcases hx with rfl|rfl|rfl|rfl|rfl
  · exact T0.out.cell 1 _ rfl
  · exact T1.out.cell 1 _ rfl
  · exact T2.out.cell 1 _ rfl
  · exact T2.out.cell 1 _ rfl
  · exact T4.out.cell 1 _ rfl))
 clear hr2 own2 gr2 b2 bw2 bw4 hW4 E4 hr5 R5 C5 b5 hW1 hW6 K0 hU1 LT gB sz0;refine vBc (PhL [W0,W1,W2,W2,W4,W5,W6]) [11,14,15,16,17,19] (by kernel_rfl) (by kernel_rfl) (by kernel_rfl) (by rw [HX.out];rfl) ?_
 repeat
  first
   |(refine SeqP.run ?_ 6 (vFb _ _ _ _) rfl (by decide) (fun m hm wx hx=>?_) ?_
     rotate_left
     · obtain ⟨_,⟨g0,g2,g3,g10,g12,g13⟩,_⟩:=KN.out _ (CB.out m wx hx)
       go_simp
       refine StepRun.val ?_;exact hx
     simp only [Act.put,List.setIfInBounds_toArray,List.set_cons_zero,List.set_cons_succ])
   |(refine SeqP.run (.slice U.pt.A U.pt.n U.pt.c) 4 (of_decide_eq_true (by kernel_rfl)) rfl (by decide) (fun m hm wx hx=>?_) ?_
     · have cx:=CX.out m wx hx hm
       go_simp
       refine StepRun.val ?_;exact hx
     simp only [Act.put,List.setIfInBounds_toArray,List.set_cons_zero,List.set_cons_succ])
   |(refine SeqP.make (.slice (some ⟨W0.heap.size,0,none⟩) 0 0) 0 rfl rfl (fun wx hx=>?_) ?_
     · obtain rfl:W0=wx:=Option.some.inj hx
       go_simp
       exact ⟨rfl,by rw [H1.out];rfl⟩
     simp only [Act.put,List.setIfInBounds_toArray,List.set_cons_zero,List.set_cons_succ])
   |(refine SeqP.make (.slice s'.A s'.n s'.c) 1 rfl rfl (fun wx hx=>?_) ?_
     · obtain rfl:W1=wx:=Option.some.inj hx
       rw [vDe (t:=34) rfl rfl rfl HR2.out];exact ⟨rfl,rfl⟩
     simp only [Act.put,List.setIfInBounds_toArray,List.set_cons_zero,List.set_cons_succ])
   |(refine SeqP.make (.agg (vJc (vDu N L) s').toArray) 2 rfl rfl (fun wx hx=>?_) ?_
     · obtain rfl:W2=wx:=Option.some.inj hx
       rw [show vJc (vDu N L) s'=[.int .i64 L.row,.int .i64 dv,.int .i64 L.vlan,.int .i64 L.cost,.int .i64 (-1),.string (str L.port),.slice s'.A s'.n s'.c] from by unfold vJc vDu;rw [HDV.out]]
       go_simp
       exact ⟨rfl,rfl⟩
     simp only [Act.put,List.setIfInBounds_toArray,List.set_cons_zero,List.set_cons_succ])
   |(refine SeqP.make (.slice (some ⟨W2.heap.size,0,none⟩) 1 1) 3 rfl rfl (fun wx hx=>?_) ?_
     · obtain rfl:W2=wx:=Option.some.inj hx
       go_simp
       exact ⟨rfl,by have:=H4.out;rw [←this];rfl⟩
     simp only [Act.put,List.setIfInBounds_toArray,List.set_cons_zero,List.set_cons_succ])
   |(refine SeqP.make (.slice u'.A u'.n u'.c) 4 rfl rfl (fun wx hx=>?_) ?_
     · obtain rfl:W4=wx:=Option.some.inj hx
       rw [vDe (t:=23) rfl rfl rfl HR5.out];exact ⟨rfl,rfl⟩
     simp only [Act.put,List.setIfInBounds_toArray,List.set_cons_zero,List.set_cons_succ])
   |(refine SeqP.make undef 5 rfl rfl (fun wx hx=>?_) ?_
     · obtain rfl:W5=wx:=Option.some.inj hx
       have cx:=T5.out.cell 1 (.slice U.pt.A U.pt.n U.pt.c) rfl;have ff:=T5.out.live 1
       go_simp
       exact ⟨rfl,by rw [H6.out];rfl⟩
     simp only [Act.put])
 refine SeqP.last rfl (fun w9 h9=>?_);obtain rfl:W6=w9:=Option.some.inj h9;clear CB CX HX H1 H4 H6 HR2 HR5 V0 V1 V2 V4 V5 T0 T1 T2 T4 T5 OO0 OO2 OO4 RT2;obtain ⟨_,⟨g0,g2,g3,g10,g12,g13⟩,_,_,lr6,_⟩:=KN.out _ V6.out;have LR6:=hid lr6
 have wl_:w.heap.size+1<W6.heap.size:=by have:=V6.out.size;omega
 clear lr6
 go_upto_block 0 with (at_builtin;(refine wpList_ints (B:=W6.heap.size) rfl (.tmp 52) (.tmp 54) 34 3 Tryz.underlying34 (Desc.of (by kernel_rfl)) rfl ⟨some ⟨W6.heap.size,0,none⟩,1,1⟩ [L.vlan] (OwnI.lit .i64 3 W6 W6.heap.size [L.vlan] (Nat.le_refl _) (by simp)) s1.A s1.n s1.c L.tagged ?hy ?hn ?hB rfl rfl ?_);(case hy=>exact LR6.out.1.alloc _);(case hn=>have:=TL.out;have:=LTL.out;simp;omega);(case hB=>simp);intro s8 w8 hown hgr hb;have OW8:=hid hown;have BW8:=hid (show Below W6.heap.size W6 w8 from ((Below.refl _ _).alloc (Nat.le_refl _) _).trans hb);clear hown hgr hb)
 clear g0 g2 g3 g10 g12 g13 wl_;have T8:=hid (T7.out.below BW8.out);have O8:=hid (O7.out.up BW8.out);have V8:=hid (V6.out.trans (BW8.out.mono V6.out.size))
 have gW:w4.heap.size≤W6.heap.size:=by have:=G6.out;have:=T7.out.lt;omega
 have R8:=hid ((OW8.out.read (.inl rfl)).keep (F':=fun b=>w4.heap.size≤b∧TyI w8 b) (fun _ _=>rfl) (fun b hb=>⟨Nat.le_trans gW hb.1,hb.2⟩))
 have n8:s8.n=L.tagged.length+1:=by rw [OW8.out.len];simp
 have N8:=hid n8;have c8:=R8.out.le;have m8:=R8.out.cap;obtain ⟨b8,o8,e8,_⟩:=R8.out.at_ (by omega);rw [e8] at R8 ⊢;obtain ⟨n8_,hn8⟩:∃n,s8.n=n:=⟨_,rfl⟩;obtain ⟨c8_,hc8⟩:∃n,s8.c=n:=⟨_,rfl⟩;rw [hn8,hc8] at R8 ⊢;rw [hn8] at N8 c8;rw [hc8] at c8 m8;clear e8 n8 gW hn8 hc8 OW8;have KD:=hid (rg_kd2 FI.out.2.1 FI.out.1);have ND:=hid (kd2_nodup KD.out.1 KD.out.2)
 have RG:=hid (show ∀x∈L.vlan :: L.tagged,0≤x from by
  obtain ⟨_,_,_,_,t,e,_,_,_,hv,ht⟩:=KD.out.1;intro x hx
  rcases List.mem_cons.1 hx with g|g
  · rw [g,e];exact hv.1
  · rw [e] at g;have:=(ls_range ht x g).1;omega)
 clear O7 T7 BW8 O6 T6 OW LR6
 go_cut [] (fun wx=>∃Ux,TBx wx q7 31 (vBx Ux)∧NOwn wx w4.heap.size (vAs w) (vAp N L) Ux∧Below w1.heap.size w1 wx)
 case first=>
  go_wp2_with fail
  go_loopw [9] (fun i wr=>∃(k:Nat) (Ux:NSl3),i=.int .i64 k∧k≤n8_∧TBx wr q7 31 (vBx Ux)∧NOwn wr w4.heap.size (vAs w) (vHq N L k) Ux∧RSl (Rdr.int .i64) wr (fun b=>w4.heap.size≤b∧TyI wr b) (some ⟨b8,o8,none⟩) n8_ c8_ (L.vlan :: L.tagged)∧Below w1.heap.size w1 wr) (fun i _=>match i with| .int _ y=>(n8_ - y).toNat|_=>0)
  case atStart=>exact ⟨0,U1,rfl,by omega,T8.out,O8.out,R8.out,V8.out⟩
  case round=>
  obtain ⟨k,Ux,rfl,hk,htb,hno,hrs,hb⟩:=hrel;have TT:=hid htb;have OO:=hid hno;have RS:=hid hrs;have V:=hid hb;clear htb hno hrs hb
  by_cases hlt:k<n8_
  rotate_left
  · have lt2:¬(k:Int)<(n8_:Int):=by omega
    have FIN:=hid (show vHq N L k=vAp N L by unfold vHq vAp;rw [lkK_all (by have:=N8.out;simp;omega)]);go_wp2
    go_meet
    exact ⟨Ux,TT.out,by rw [←FIN.out];exact OO.out,V.out⟩
  have lt2:(k:Int)<(n8_:Int):=by omega
  have hkl:k<(L.vlan :: L.tagged).length:=by have:=N8.out;simp;omega
  have HKL:=hid hkl;obtain ⟨b',o',e',hb',hc'⟩:=(vBg RS.out).2.2.2 (by omega)
  obtain ⟨rfl,rfl⟩:b'=b8∧o'=o8:=by injection e' with e';injection e' with e1 e2;exact ⟨e1.symm,e2.symm⟩
  have c8k:=hc' k hlt;obtain ⟨v,hv⟩:∃v,(L.vlan :: L.tagged).getD k 0=v:=⟨_,rfl⟩;rw [hv] at c8k;have HVV:=hid hv
  have v0:0≤v:=by rw [←hv];exact RG.out _ (by simp only [List.getD,List.getElem?_eq_getElem hkl,Option.getD_some];exact List.getElem_mem hkl)
  obtain ⟨a,ha⟩:∃a,atF N dv v=a:=⟨_,rfl⟩;have HA:=hid ha;have AM:=hid (show atF (vHq N L k) dv v=a by have:=at_mid (N:=N) hkl ND.out;rw [hv,HDV.out] at this;rw [this,ha]);have AC:=hid (fun (w':World) (hr:NRead w' (vAs w') (vHq N L k) Ux)=>(show Calls Tryz.prog 20 #[vBb Ux,.int .i64 dv,.int .i64 v] w' fun e w''=>e=.returned (.int .i64 a)∧Below w'.heap.size w' w'' from by have:=AT.out (vHq N L k) Ux v w' hr;rw [AM.out] at this;exact this))
  unfold vBb at AC
  have KR:=hid (show ∀wx,Below wr.heap.size wr wx→wx.cell? ⟨b',o'+k,none⟩=some (.int .i64 v)∧(NF wx q7 Ux)∧NRead wx (vAs wx) (vHq N L k) Ux from fun wx hx=>by
   have tb:=TT.out.below hx
   exact ⟨(hx.cell (p:=⟨b',_,none⟩) hb').trans c8k,⟨tb.cell 0 _ rfl,tb.cell 1 _ rfl,tb.cell 2 _ rfl,tb.cell 3 _ rfl,tb.cell 4 _ rfl,tb.cell 5 _ rfl,tb.cell 6 _ rfl,tb.cell 7 _ rfl⟩,(OO.out.up hx).read⟩)
  have NX:=hid (lkK_next (N:=N) (dev:=dv) hkl);clear hc' e' hv ha hkl c8k hb'
  have STAY:=hid (show ∀wx,Below wr.heap.size wr wx→vHq N L (k+1)=vHq N L k→TBx wx q7 31 (vBx Ux)∧NOwn wx w4.heap.size (vAs w) (vHq N L (k+1)) Ux∧RSl (Rdr.int .i64) wx (fun b=>w4.heap.size≤b∧TyI wx b) (some ⟨b',o',none⟩) n8_ c8_ (L.vlan :: L.tagged)∧Below w1.heap.size w1 wx from fun wx hx e=>by
   rw [e]
   exact ⟨TT.out.below hx,OO.out.up hx,RS.out.keep (fun b hb=>hx.block b hb.2.lt) (fun b hb=>⟨hb.1,hb.2.below hx⟩),V.out.trans (hx.mono V.out.size)⟩)
  by_cases vz:v=0
  · have x1:decide ((0:Int)<v)=false:=decide_eq_false (by omega)
    have EQ:=hid (show vHq N L (k+1)=vHq N L k by unfold vHq;rw [HDV.out,NX.out,HVV.out,if_neg (fun g=>g.1 vz),List.append_nil]);clear vz v0;go_wp2;refine vAe (fun wx=>Below wr.heap.size wr wx) (by kernel_rfl) (by kernel_rfl) ((Below.refl _ _).drew) ?_
    repeat
     first
      |(refine Seq.pass rfl ?_;simp only [Act.put,List.setIfInBounds_toArray,List.set_cons_zero,List.set_cons_succ])
      |(refine Seq.run ?_ rfl (fun wx hx=>?_) ?_
        rotate_left
        · obtain ⟨c8,⟨t0,t1,t2,t3,t4,t5,t6,t7⟩,hrd⟩:=KR.out wx hx
          go_simp
          first
           |(refine StepRun.val ?_;exact hx)
           |(refine StepRun.call (v:=.int .i64 a) ?_;(with_reducible refine Calls.mono (AC.out _ hrd) ?_);rintro e w' ⟨rfl,hb⟩;exact ⟨rfl,vAa hx hb⟩)
        simp only [Act.put,List.setIfInBounds_toArray,List.set_cons_zero,List.set_cons_succ])
    refine Seq.last (fun wx hx=>?_);go_wp2
    go_roundw
    case rel=>
     obtain ⟨h1,h2,h3,h4⟩:=STAY.out _ hx EQ.out;exact ⟨k+1,Ux,by simp,by omega,h1,h2,h3,h4⟩
    case measure=>simp only [];omega
  · have x1:(0:Int)<v:=by omega
    by_cases az:a<0
    · have am:a= -1:=by have:=atF_cases N dv v;have:=HA.out;omega
      have EQ:=hid (show vHq N L (k+1)={vHq N L k with domains:=(vHq N L k).domains++[newD dv v]} by
       unfold vHq;rw [HDV.out,NX.out,HVV.out,if_pos ⟨vz,by rw [HA.out];exact am⟩,List.map_append,←List.append_assoc]
       rfl)
      have LNX:=hid (show (vHq N L k).domains.length+1≤100000 by
       have h1:=NZ.out.zdm;have h2:(lkK N dv (L.vlan :: L.tagged) k).length≤k:=lkK_len;have h3:=HKL.out;have h4:=LTL.out;simp at h3;unfold vHq;rw [HDV.out];simp
       omega)
      clear vz v0 am;go_wp2;refine vAe (fun wx=>Below wr.heap.size wr wx) (by kernel_rfl) (by kernel_rfl) ((Below.refl _ _).drew) ?_
      repeat
       first
        |(refine Seq.pass rfl ?_;simp only [Act.put,List.setIfInBounds_toArray,List.set_cons_zero,List.set_cons_succ])
        |(refine Seq.run ?_ rfl (fun wx hx=>?_) ?_
          rotate_left
          · obtain ⟨c8,⟨t0,t1,t2,t3,t4,t5,t6,t7⟩,hrd⟩:=KR.out wx hx
            go_simp
            first
             |(refine StepRun.val ?_;exact hx)
             |(refine StepRun.call (v:=.int .i64 a) ?_;(with_reducible refine Calls.mono (AC.out _ hrd) ?_);rintro e w' ⟨rfl,hb⟩;exact ⟨rfl,vAa hx hb⟩)
          simp only [Act.put,List.setIfInBounds_toArray,List.set_cons_zero,List.set_cons_succ])
      refine Seq.last (fun wx hx=>?_);go_wp2;obtain ⟨W0',hW0⟩:∃W0,wx.drew=W0:=⟨_,rfl⟩;have HX':=hid hW0;have d0:Below wr.heap.size wr W0':=hW0▸hx.drew;have TT0:=hid (TT.out.below d0);have OO0:=hid (OO.out.up d0);have RS0:=hid (RS.out.keep (w':=W0') (F':=fun b=>w4.heap.size≤b∧TyI W0' b) (fun b hb=>d0.block b hb.2.lt) (fun b hb=>⟨hb.1,hb.2.below d0⟩));have V0:=hid (V.out.trans (d0.mono V.out.size))
      clear hW0;obtain ⟨W1',hW1⟩:∃W1,W0'.alloc (.cells (domC (newD dv v) Sl3.nil).toArray 50)=W1:=⟨_,rfl⟩
      have b1:Below W0'.heap.size W0' W1':=by rw [←hW1];exact (Below.refl _ _).alloc (Nat.le_refl _) _
      have E1:TBx W1' W0'.heap.size 50 (domC (newD dv v) Sl3.nil):=by rw [←hW1];exact TBx.new W0' _ _
      have gB:w4.heap.size≤W1'.heap.size:=by have:=TT0.out.lt;have:=G6.out;have:=b1.size;omega
      obtain ⟨u2,W2',hr,R2,C2,bb2⟩:=run_ri1 (P:=Tryz.prog) 25 25 Tryz.underlying25 (Desc.of (by kernel_rfl)) (by decide) ((OO0.out.up b1).dm) vCq FF.out W0'.heap.size (domC (newD dv v) Sl3.nil) (newD dv v) E1.range ⟨Sl3.nil,rfl,RSl.nil⟩ LNX.out gB;have TT1:=hid (TT0.out.below b1);have TT2:=hid (TT1.out.chg C2 (by decide));obtain ⟨W3',hW3⟩:∃W3,W2'.setCell ⟨q7,3,none⟩ (.slice u2.A u2.n u2.c)=W3:=⟨_,rfl⟩
      have C3:=hid (show ChgT w4.heap.size 31 W2' W3' by rw [←hW3];exact TT2.out.chgT G6.out.1 3 _);obtain ⟨Uy,hUy⟩:∃Uy:NSl3,({Ux with dm:=u2}:NSl3)=Uy:=⟨_,rfl⟩;have TT3:=hid (show TBx W3' q7 31 (vBx Uy) by rw [←hW3,←hUy];exact TT2.out.set 3 _)
      have OO3:=hid (show NOwn W3' w4.heap.size (vAs w) (vHq N L (k+1)) Uy by
       rw [←hUy,EQ.out]
       exact ((OO0.out.up b1).setDm C2 FF.out R2).box C3.out vDr FF.out)
      have RS3:=hid (show RSl (Rdr.int .i64) W3' (fun b=>w4.heap.size≤b∧TyI W3' b) (some ⟨b',o',none⟩) n8_ c8_ (L.vlan :: L.tagged) from by
       have k1:∀b,TyI W0' b→W3'.heap[b]?=W0'.heap[b]?:=fun b hb=>by
        have a1:=b1.block b hb.lt;have t1:=hb.same a1;have a2:=C2.ty vCq t1;have a3:=C3.out.ty iso_net (t1.same a2);exact a3.trans (a2.trans a1)
       exact RS0.out.keep (fun b hb=>k1 b hb.2) (fun b hb=>⟨hb.1,hb.2.same (k1 b hb.2)⟩))
      have V3:=hid (show Below w1.heap.size w1 W3' by
       rw [←hW3];have v2:=(V0.out.trans (b1.mono V0.out.size)).trans (bb2.mono (by have:=Y4.out.size;exact this))
       exact v2.setCell (by have:=G6.out.1;have:=Y4.out.size;exact Nat.le_trans this ‹_›) _)
      have HR:=hid hr;have H1:=hid hW1;have H3:=hid hW3;have D1:=hid (d0.trans (b1.mono d0.size))
      have CB:=hid (fun m wx (hx:PhL [W0',W1',W2',W3'] m wx)=>hx.all (P:=fun x=>x.cell? ⟨b',o'+k,none⟩=some (.int .i64 v)) (by
       have q0:=(KR.out W0' d0).1
       have ty0:TyI W0' b':=by obtain ⟨_,_,e,hF,_⟩:=RS0.out.at_ (by omega);injection e with e;injection e with e _;rw [e];exact hF.2
       have q1:=(b1.cell (p:=⟨b',o'+k,none⟩) ty0.lt).trans q0;have ty1:=ty0.same (b1.block _ ty0.lt);have q2:=(World.cell?_of_block (w:=W1') (a:=⟨b',o'+k,none⟩) (C2.ty vCq ty1)).trans q1;have ty2:=ty1.same (C2.ty vCq ty1);have q3:=(World.cell?_of_block (w:=W2') (a:=⟨b',o'+k,none⟩) (C3.out.ty iso_net ty2)).trans q2;intro x hx;simp only [List.mem_cons,List.not_mem_nil,or_false] at hx
       rcases hx with rfl|rfl|rfl|rfl
       · exact q0
       · exact q1
       · exact q2
       · exact q3))
      have CX:=hid (fun m wx (hx:PhL [W0',W1',W2',W3'] m wx) (hm:m≤1)=>hx.upto hm (P:=fun x=>x.cell? ⟨q7,3,none⟩=some (.slice Ux.dm.A Ux.dm.n Ux.dm.c)) (by
       intro x hx;simp only [List.take,List.mem_cons,List.not_mem_nil,or_false] at hx
       rcases hx with rfl|rfl
       · exact TT0.out.cell 3 _ rfl
       · exact TT1.out.cell 3 _ rfl))
      clear hr R2 C2 bb2 hW1 hW3 hUy E1 b1 d0 gB hx;refine vBc (PhL [W0',W1',W2',W3']) [8,9,11] (by kernel_rfl) (by kernel_rfl) (by kernel_rfl) (by rw [HX'.out];rfl) ?_
      repeat
       first
        |(refine SeqP.run ?_ 3 (vFb _ _ _ _) rfl (by decide) (fun m hm wx hx=>?_) ?_
          rotate_left
          · have cb:=CB.out m wx hx
            go_simp
            refine StepRun.val ?_;exact hx
          simp only [Act.put,List.setIfInBounds_toArray,List.set_cons_zero,List.set_cons_succ])
        |(refine SeqP.run (.slice Ux.dm.A Ux.dm.n Ux.dm.c) 1 (of_decide_eq_true (by kernel_rfl)) rfl (by decide) (fun m hm wx hx=>?_) ?_
          · have cx:=CX.out m wx hx hm
            go_simp
            refine StepRun.val ?_;exact hx
          simp only [Act.put,List.setIfInBounds_toArray,List.set_cons_zero,List.set_cons_succ])
        |(refine SeqP.make (.slice (some ⟨W0'.heap.size,0,none⟩) 1 1) 0 rfl rfl (fun wx hx=>?_) ?_
          · obtain rfl:W0'=wx:=Option.some.inj hx
            go_simp
            exact ⟨rfl,by have:=H1.out;rw [←this];rfl⟩
          simp only [Act.put,List.setIfInBounds_toArray,List.set_cons_zero,List.set_cons_succ])
        |(refine SeqP.make (.slice u2.A u2.n u2.c) 1 rfl rfl (fun wx hx=>?_) ?_
          · obtain rfl:W1'=wx:=Option.some.inj hx
            rw [vDe (t:=25) rfl rfl rfl HR.out];exact ⟨rfl,rfl⟩
          simp only [Act.put,List.setIfInBounds_toArray,List.set_cons_zero,List.set_cons_succ])
        |(refine SeqP.make undef 2 rfl rfl (fun wx hx=>?_) ?_
          · obtain rfl:W2'=wx:=Option.some.inj hx
            have cx:=TT2.out.cell 3 (.slice Ux.dm.A Ux.dm.n Ux.dm.c) rfl;have ff:=TT2.out.live 3
            go_simp
            exact ⟨rfl,by rw [H3.out];rfl⟩
          simp only [Act.put])
      refine SeqP.last rfl (fun w9 h9=>?_);obtain rfl:W3'=w9:=Option.some.inj h9;go_wp2
      go_roundw
      case rel=>exact ⟨k+1,Uy,by simp,by omega,TT3.out,OO3.out,RS3.out,V3.out⟩
      case measure=>simp only [];omega
    · have EQ:=hid (show vHq N L (k+1)=vHq N L k by
       unfold vHq
       rw [HDV.out,NX.out,HVV.out,if_neg (fun g=>by have:=g.2;rw [HA.out] at this;omega),List.append_nil])
      clear vz v0;go_wp2;refine vAe (fun wx=>Below wr.heap.size wr wx) (by kernel_rfl) (by kernel_rfl) ((Below.refl _ _).drew) ?_
      repeat
       first
        |(refine Seq.pass rfl ?_;simp only [Act.put,List.setIfInBounds_toArray,List.set_cons_zero,List.set_cons_succ])
        |(refine Seq.run ?_ rfl (fun wx hx=>?_) ?_
          rotate_left
          · obtain ⟨c8,⟨t0,t1,t2,t3,t4,t5,t6,t7⟩,hrd⟩:=KR.out wx hx
            go_simp
            first
             |(refine StepRun.val ?_;exact hx)
             |(refine StepRun.call (v:=.int .i64 a) ?_;(with_reducible refine Calls.mono (AC.out _ hrd) ?_);rintro e w' ⟨rfl,hb⟩;exact ⟨rfl,vAa hx hb⟩)
          simp only [Act.put,List.setIfInBounds_toArray,List.set_cons_zero,List.set_cons_succ])
      refine Seq.last (fun wx hx=>?_);go_wp2
      go_roundw
      case rel=>
       obtain ⟨h1,h2,h3,h4⟩:=STAY.out _ hx EQ.out;exact ⟨k+1,Ux,by simp,by omega,h1,h2,h3,h4⟩
      case measure=>simp only [];omega
 case rest=>
 obtain ⟨Ux,htb,hno,hb⟩:=hcut;rename World=>w9;have T9:=hid htb;have O9:=hid hno;have V9:=hid hb
 have np:Ux.pt.n=N.ports.length+1:=by rw [hno.pt.len];unfold vAp;simp
 have nm:Ux.dm.n=N.domains.length+(lkL N dv L).length:=by rw [hno.dm.len];unfold vAp;rw [HDV.out];simp
 have lep:=hno.pt.le;have lem:=hno.dm.le;have mx:maxLen=9223372036854775807:=rfl;clear htb hno hb T8 O8 R8 V8;have t0:=T9.out.cell 0 (.slice Ux.dv.A Ux.dv.n Ux.dv.c) rfl;have t1:=T9.out.cell 1 (.slice Ux.pt.A Ux.pt.n Ux.pt.c) rfl;have t2:=T9.out.cell 2 (.slice Ux.lk.A Ux.lk.n Ux.lk.c) rfl;have t3:=T9.out.cell 3 (.slice Ux.dm.A Ux.dm.n Ux.dm.c) rfl;have t4:=T9.out.cell 4 (.slice Ux.st.A Ux.st.n Ux.st.c) rfl
 have t5:=T9.out.cell 5 (.slice Ux.fl.A Ux.fl.n Ux.fl.c) rfl;have t6:=T9.out.cell 6 (.slice Ux.vr.A Ux.vr.n Ux.vr.c) rfl;have t7:=T9.out.cell 7 (.slice Ux.ir.A Ux.ir.n Ux.ir.c) rfl;have ul_:=T9.out.lt;have D1:=hid (show ¬dvF N L.dev<0 by rw [HDV.out];have:=D0.out;omega);have P1:=hid (show ¬0≤ptF N (dvF N L.dev) L.port by rw [HDV.out,HPV.out];have:=P0.out;omega)
 by_cases y1:40≤N.ports.length
 · have EV:=hid (pp_3 HV.out D1.out P1.out (.inl y1))
   have gp:(40:Int)<(Ux.pt.n:Int):=by omega
   have rb_:=RB.out.below V9.out;have rl_:=rb_.lt;obtain ⟨r0,z0,r1,z1,r2,z2,r3,z3,r4,z4,r5,z5,r6,z6,r7,z7⟩:=rb_.zero8;clear y1 rb_ np nm;go_wp2;refine bodyPost_ret (vEs _ (st8 w9 (w.heap.size+2) NSl3.nil) NSl3.nil (w.heap.size+2) 3 rfl rfl ((RB.out.below V9.out).st8 NSl3.nil)) rfl ?_;rw [EV.out.1,EV.out.2];exact ⟨NSl3.nil,rfl,vCl _,Below.st8 (B1.out.trans (V9.out.mono B1.out.size)) (by omega) NSl3.nil⟩
 have gp:¬(40:Int)<(Ux.pt.n:Int):=by omega
 by_cases y2:48<N.domains.length+(lkL N dv L).length
 · have EV:=hid (pp_3 HV.out D1.out P1.out (.inr (by rw [HDV.out];exact y2)))
   have gm:(48:Int)<(Ux.dm.n:Int):=by omega
   have rb_:=RB.out.below V9.out;have rl_:=rb_.lt;obtain ⟨r0,z0,r1,z1,r2,z2,r3,z3,r4,z4,r5,z5,r6,z6,r7,z7⟩:=rb_.zero8;clear y1 y2 rb_ np nm;go_wp2;refine bodyPost_ret (vEs _ (st8 w9 (w.heap.size+2) NSl3.nil) NSl3.nil (w.heap.size+2) 3 rfl rfl ((RB.out.below V9.out).st8 NSl3.nil)) rfl ?_;rw [EV.out.1,EV.out.2];exact ⟨NSl3.nil,rfl,vCl _,Below.st8 (B1.out.trans (V9.out.mono B1.out.size)) (by omega) NSl3.nil⟩
 have gm:¬(48:Int)<(Ux.dm.n:Int):=by omega
 have EV:=hid (pp_0 HV.out D1.out P1.out (fun g=>g.elim y1 (fun g=>y2 (by rw [HDV.out] at g;exact g))));have rb_:=RB.out.below V9.out;have rl_:=rb_.lt;obtain ⟨r0,z0,r1,z1,r2,z2,r3,z3,r4,z4,r5,z5,r6,z6,r7,z7⟩:=rb_.zero8;clear y1 y2 rb_ np nm;go_wp2;refine bodyPost_ret (vEs _ (st8 w9 (w.heap.size+2) Ux) Ux (w.heap.size+2) 0 rfl rfl ((RB.out.below V9.out).st8 Ux)) rfl ?_;rw [EV.out.1,EV.out.2]
 have ON:=O9.out.far (w':=st8 w9 (w.heap.size+2) Ux) (q:=w.heap.size+2) (by rw [vHd];exact Nat.le_refl _) (fun b hb=>vFy _ _ _ hb) Z4.out (by unfold vAs;omega);exact ⟨Ux,rfl,ON.read,Below.st8 (B1.out.trans (V9.out.mono B1.out.size)) (by omega) Ux⟩
end Go.Proofs.YtgnkpbgaoiaefaaGreat
