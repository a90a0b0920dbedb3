import Derived.Test.YtgmflecelnefcaaGreatOp30
import Derived.Test.YtgmflecelnefcaaGreatOp18
set_option maxRecDepth 100000
set_option maxHeartbeats 40000000
namespace Go.Proofs.YtgmflecelnefcaaGreat
open Go.Lib (hid)
open Go.RowKit
theorem wn_len {n:Int} (h:I64 n):(wnS n).length≤20:=itoa_len n h.1 h.2
theorem box_range {w:World} {p:Nat} {L:LV} {s1 s2 s3 s4:SlV} (h:BoxF w p 17 (lc L s1 s2 s3 s4)):w.rangeAt p 0 (vEl L s1 s2 s3 s4):=by
 intro j v hv;have hj:j<17:=(List.getElem?_eq_some_iff.1 hv).1;rw [Nat.zero_add,h.1 j hj]
 have:=lc_list L s1 s2 s3 s4 j hj (vEl L s1 s2 s3 s4).toArray rfl
 rw [List.toList_toArray] at this;exact this.symm.trans hv
theorem exec_lineput {ρ:Operand→Value} {o:Oper} {x y:Operand} {w:World} {p:Nat} {K:Value→World→Prop} (ho:o.op=.store 37 x y) (hx:ρ x=.pointer (some ⟨p,0,none⟩)) (L:LV) (s1 s2 s3 s4:SlV) (hy:ρ y=vAv L s1 s2 s3 s4) (g:Nat→Value) (hb:BoxF w p 17 g)
 (h:∀w9,BoxF w9 p 17 (lc L s1 s2 s3 s4)→Ex p w w9→K undef w9):RunI Tryz.prog K ((execOp ρ o).run Tryz.prog w):=by
 have hs:(vEl L s1 s2 s3 s4).toArray.size=17:=rfl;have ht:w.there p 0 (vEl L s1 s2 s3 s4).toArray.size:=there_all (fun j hj=>by rw [hb.1 j (by omega)];rfl) hb.2;have hr:=run_storeVar_mid (P:=Tryz.prog) w p 0 37 (vEl L s1 s2 s3 s4).toArray ht vHc (by simp [vEl,Value.oneCell']);unfold execOp;simp only [ho,hx,show ρ y=.agg (vEl L s1 s2 s3 s4).toArray from hy,Instr.storeAt,Instr.sureAddr,Sem.run_bind,Sem.run_pure,Result.andThen_ok,hr]
 refine h _ ⟨fun j hj=>?_,fun o=>by rw [World.frozen?_setCells];exact hb.2 o⟩ (Ex.cells _ 0 w w (Ex.refl _ _))
 have:=World.rangeAt_setCells_same w p 0 (vEl L s1 s2 s3 s4) (by simpa using ht) j (lc L s1 s2 s3 s4 j) (by have:=lc_list L s1 s2 s3 s4 j hj (vEl L s1 s2 s3 s4).toArray rfl;simpa using this)
 rwa [Nat.zero_add] at this
theorem vAk {w w':World} {M:LV} {t1 t2 t3 t4:SlV} (h:LRead w M t1 t2 t3 t4) (hb:Below w.heap.size w w'):LRead w' M t1 t2 t3 t4:=⟨h.1.below hb,h.2.1.below hb,h.2.2.1.below hb,h.2.2.2.below hb⟩
theorem isl_ex {w w':World} {k:IntKind} {q:Nat} {s:SlV} {xs:List Int} (h:ISl w k s.A s.n s.c xs) (g:Ex q w w') (ho:∀ad,s.A=some ad→0<s.n→ad.block≠q):ISl w' k s.A s.n s.c xs:=by
 refine ⟨h.1,h.2.1,h.2.2.1,fun hn=>?_⟩;obtain ⟨b,off,e,hb,hc⟩:=h.2.2.2 hn;exact ⟨b,off,e,Nat.lt_of_lt_of_le hb g.size,fun i hi=>(g.cell (off+i) hb (ho _ e hn)).trans (hc i hi)⟩
structure RgI (L M:LV) (E:Int) (ws:List (List UInt8)) (s1 s2 s3 s4:SlV) (w W:World) (A:Option Addr) (n c:Nat) (t1 t2 t3 t4:SlV) (q:Nat) (x3 x4 x27 x28 x29 x30 x31 x32 x33 x34:Value) (d:Nat→Bool) (w':World):Prop where
 h3:d 8=true→x3=.pointer (some ⟨q,0,none⟩)
 h4:d 10=true→x4=.int .i64 E
 h27:d 5=true→x27=.tuple #[vAv M t1 t2 t3 t4,.int .i64 E]
 h28:d 0=true→x28=vAv L s1 s2 s3 s4
 h29:d 1=true→x29=.slice A n c
 h30:d 2=true→x30=.pointer (some ⟨w.heap.size,0,none⟩)
 h31:d 3=true→x31=.int .i64 L.row
 h32:d 4=true→x32=.tuple #[vAv M t1 t2 t3 t4,.int .i64 E]
 h33:d 6=true→x33=vAv M t1 t2 t3 t4
 h34:d 7=true→x34=.int .i64 E
 k4:d 4=true→d 1=true
 k9:d 9=true→d 8=true
 k96:d 9=true→d 6=true
 k64:d 6=true→d 5=true
 k54:d 5=true→d 4=true
 k74:d 7=true→d 5=true
 r1:d 1=true→d 4=false→SSl w' A n c ws
 r4:d 4=true→LRead w' M t1 t2 t3 t4
 b8:d 8=true→W.heap.size≤q∧q<w'.heap.size∧BoxF w' q 17 (if d 9=true then lc M t1 t2 t3 t4 else lc LV.zero SlV.nil SlV.nil SlV.nil SlV.nil)
 b9:d 9=true→True
 b:Below W.heap.size W w'
 n8:d 8=true→d 4=true→(∀ad,t1.A=some ad→0<t1.n→ad.block≠q)∧(∀ad,t2.A=some ad→0<t2.n→ad.block≠q)∧(∀ad,t3.A=some ad→0<t3.n→ad.block≠q)∧∀ad,t4.A=some ad→0<t4.n→ad.block≠q
inductive RgW (L M:LV) (E:Int) (ws:List (List UInt8)) (s1 s2 s3 s4:SlV) (w W:World) (d:Nat→Bool):Act→World→Prop
 |mk (A:Option Addr) (n c:Nat) (t1 t2 t3 t4:SlV) (q:Nat) {x3 x4 x27 x28 x29 x30 x31 x32 x33 x34:Value} {w':World}:RgI L M E ws s1 s2 s3 s4 w W A n c t1 t2 t3 t4 q x3 x4 x27 x28 x29 x30 x31 x32 x33 x34 d w'→RgW L M E ws s1 s2 s3 s4 w W d {tmps:=#[.agg #[.int .i64 L.row,.int .i64 L.kind,.string (str L.dev),.string (str L.port),.string (str L.peer),.string (str L.far),.string (str L.name),.int .u64 L.mac,.int .u32 L.addr,.int .i64 L.bits,.int .i64 L.vlan,.int .i64 L.num,.int .i64 L.cost,.slice s1.A s1.n s1.c,.slice s2.A s2.n s2.c,.slice s3.A s3.n s3.c,.slice s4.A s4.n s4.c],.pointer (some ⟨w.heap.size,0,none⟩),.bool false,x3,x4,.pointer (some ⟨w.heap.size,13,none⟩),.slice s1.A s1.n s1.c,.int .i64 (s1.n:Int),.bool false,.bool false,.pointer (some ⟨w.heap.size,14,none⟩),.slice s2.A s2.n s2.c,.int .i64 (s2.n:Int),.bool false,.bool false,.bool false,.pointer (some ⟨w.heap.size,15,none⟩),.slice s3.A s3.n s3.c,.int .i64 (s3.n:Int),.bool false,.bool false,.bool false,.pointer (some ⟨w.heap.size,16,none⟩),.slice s4.A s4.n s4.c,.int .i64 (s4.n:Int),.bool false,.bool false,x27,x28,x29,x30,x31,x32,x33,x34,undef,undef,undef,undef,undef,undef,undef],defers:=[]} w'
noncomputable def rrW (L:LV) (ws:List (List UInt8)):Bool:=(decide (L.tagged.length≤16) && (decide (L.imports.length≤16) && (decide (L.exports.length≤16) && decide (L.addrs.length≤16)))) && (decide (rdE ws L.row=0) && vEz L (rdL ws L.row))
theorem rrw_yes {L:LV} {ws:List (List UInt8)} (ok:L.tagged.length≤16∧L.imports.length≤16∧L.exports.length≤16∧L.addrs.length≤16) (h:rdE ws L.row=0∧rdL ws L.row=L):rrW L ws=true:=by
 unfold rrW;rw [decide_eq_true ok.1,decide_eq_true ok.2.1,decide_eq_true ok.2.2.1,decide_eq_true ok.2.2.2,decide_eq_true h.1,h.2,vFp]
 rfl
theorem vHz (L:LV) (ws:List (List UInt8)) (s1 s2 s3 s4:SlV) (w:World) (h:LRead w L s1 s2 s3 s4) (hc:∀w',LRead w' L s1 s2 s3 s4→Calls Tryz.prog 179 #[vAv L s1 s2 s3 s4] w' (GotWs (ws) w')) (hn:∀(A:Option Addr) (n c:Nat) (w':World),SSl w' A n c ws→Calls Tryz.prog 178 #[.slice A n c,.int .i64 L.row] w' (vGg w' (rdL ws L.row) (rdE ws L.row))):Calls Tryz.prog 145 #[vAv L s1 s2 s3 s4] w fun e w'=>e=.returned (.bool (rrW L ws))∧Below w.heap.size w w':=by
 have H:=hid h;have l1:=h.1.len;have l2:=h.2.1.len;have l3:=h.2.2.1.len;have l4:=h.2.2.2.len;have P0:=hid (vCs w L s1 s2 s3 s4 37);have CW:=hid hc;have WL:=hid hn;obtain ⟨E,hE⟩:∃E,rdE ws L.row=E:=⟨_,rfl⟩;obtain ⟨M,hM⟩:∃M,rdL ws L.row=M:=⟨_,rfl⟩;have RR:=hid (show rrW L ws=((decide (s1.n≤16) && (decide (s2.n≤16) && (decide (s3.n≤16) && decide (s4.n≤16)))) && (decide (E=0) && vEz L M)) by unfold rrW;rw [hE,hM,l1,l2,l3,l4])
 obtain ⟨rr,hrr⟩:∃rr,rrW L ws=rr:=⟨_,rfl⟩;rw [hrr] at RR ⊢;have CR:=hid (fun A n c w' (hr:SSl w' A n c ws)=>WL.out A n c w' hr);rw [hE,hM] at CR;have CS:=hid (fun w' t1 t2 t3 t4 (hr:LRead w' L s1 s2 s3 s4) (g:LRead w' M t1 t2 t3 t4)=>rsame_any L M s1 s2 s3 s4 t1 t2 t3 t4 w' hr g);clear h hc hn l1 l2 l3 l4 hE hM hrr WL;unfold GotWs at CW;unfold vGg at CR;have H2:=H.out;have hle1:=H2.1.le;have hcap1:=H2.1.cap;have hle2:=H2.2.1.le;have hcap2:=H2.2.1.cap;have hle3:=H2.2.2.1.le;have hcap3:=H2.2.2.1.cap;have hle4:=H2.2.2.2.le;have hcap4:=H2.2.2.2.cap
 clear H2;rw [show vAv L s1 s2 s3 s4=.agg #[.int .i64 L.row,.int .i64 L.kind,.string (str L.dev),.string (str L.port),.string (str L.peer),.string (str L.far),.string (str L.name),.int .u64 L.mac,.int .u32 L.addr,.int .i64 L.bits,.int .i64 L.vlan,.int .i64 L.num,.int .i64 L.cost,.slice s1.A s1.n s1.c,.slice s2.A s2.n s2.c,.slice s3.A s3.n s3.c,.slice s4.A s4.n s4.c] from rfl]
 go_enter Tryz.func145,Tryz.ntmps145
 go_upto_region 1 with fail
 obtain ⟨w1,hw1⟩:∃w1,w.alloc (.cells (lA L s1 s2 s3 s4) 37)=w1:=⟨_,rfl⟩;have B1:=hid (show Below w.heap.size w w1 by rw [←hw1];exact (Below.refl _ _).alloc (Nat.le_refl _) _);rw [hw1] at P0 ⊢;have Q0:=hid (show w.heap.size<w1.heap.size by rw [←hw1];simp);clear hw1;have c13:w1.cell? ⟨w.heap.size,13,none⟩=some (.slice s1.A s1.n s1.c):=P0.out.cell 13 (by omega);have c14:w1.cell? ⟨w.heap.size,14,none⟩=some (.slice s2.A s2.n s2.c):=P0.out.cell 14 (by omega)
 have c15:w1.cell? ⟨w.heap.size,15,none⟩=some (.slice s3.A s3.n s3.c):=P0.out.cell 15 (by omega);have c16:w1.cell? ⟨w.heap.size,16,none⟩=some (.slice s4.A s4.n s4.c):=P0.out.cell 16 (by omega)
 by_cases g1:s1.n≤16
 rotate_left
 · have E1:=hid (show rr=false by rw [RR.out,decide_eq_false g1];rfl)
   have lt1:(16:Int)<(s1.n:Int):=by omega
   clear g1;go_wp2;go_ret;exact ⟨by rw [E1.out];rfl,B1.out⟩
 have lt1:¬(16:Int)<(s1.n:Int):=by omega
 by_cases g2:s2.n≤16
 rotate_left
 · have E1:=hid (show rr=false by rw [RR.out,decide_eq_false g2,decide_eq_true g1];rfl)
   have lt2:(16:Int)<(s2.n:Int):=by omega
   clear g2;go_wp2;go_ret;exact ⟨by rw [E1.out];rfl,B1.out⟩
 have lt2:¬(16:Int)<(s2.n:Int):=by omega
 by_cases g3:s3.n≤16
 rotate_left
 · have E1:=hid (show rr=false by rw [RR.out,decide_eq_false g3,decide_eq_true g1,decide_eq_true g2];rfl)
   have lt3:(16:Int)<(s3.n:Int):=by omega
   clear g3;go_wp2;go_ret;exact ⟨by rw [E1.out];rfl,B1.out⟩
 have lt3:¬(16:Int)<(s3.n:Int):=by omega
 by_cases g4:s4.n≤16
 rotate_left
 · have E1:=hid (show rr=false by rw [RR.out,decide_eq_false g4,decide_eq_true g1,decide_eq_true g2,decide_eq_true g3];rfl)
   have lt4:(16:Int)<(s4.n:Int):=by omega
   clear g4;go_wp2;go_ret;exact ⟨by rw [E1.out];rfl,B1.out⟩
 have lt4:¬(16:Int)<(s4.n:Int):=by omega
 have RR:=hid (show rr=(decide (E=0) && vEz L M) by rw [RR.out,decide_eq_true g1,decide_eq_true g2,decide_eq_true g3,decide_eq_true g4];rfl);clear g1 g2 g3 g4
 go_upto_region 3 with fail
 have W_:=hid (show ∀wx,Below w1.heap.size w1 wx→(wx.cell? ⟨w.heap.size,0,none⟩=some (.int .i64 L.row))∧BoxF wx w.heap.size 17 (lc L s1 s2 s3 s4)∧LRead wx L s1 s2 s3 s4∧Below w.heap.size w wx from fun wx hx=>by
  have bx:=P0.out.below (by omega) hx
  exact ⟨bx.cell 0 (by omega),bx,⟨H.out.1.below (B1.out.trans (hx.mono B1.out.size)),H.out.2.1.below (B1.out.trans (hx.mono B1.out.size)),H.out.2.2.1.below (B1.out.trans (hx.mono B1.out.size)),H.out.2.2.2.below (B1.out.trans (hx.mono B1.out.size))⟩,B1.out.trans (hx.mono B1.out.size)⟩)
 clear c13 c14 c15 c16;refine vCb (RgW L M E ws s1 s2 s3 s4 w w1) (by kernel_rfl) (by kernel_rfl) ?_ ?_ ?_
 · refine RgW.mk none 0 0 SlV.nil SlV.nil SlV.nil SlV.nil 0 ?_
   constructor
   case b=>exact (Below.refl _ _).drew
   all_goals first|exact fun h=>by cases h|exact fun h _=>by cases h
 · rintro d a w' j o @⟨A,n,c,t1,t2,t3,t4,q,x3,x4,x27,x28,x29,x30,x31,x32,x33,x34,_,hv⟩ ho hd hdep
   obtain ⟨h3,h4,h27,h28,h29,h30,h31,h32,h33,h34,k4,k9,k96,k64,k54,k74,r1,r4,b8,b9,b,n8⟩:=hv;have K_:=W_.out w' b
   rcases j with _|_|_|_|_|_|_|_|_|_|_|j
   · cases ho
     refine .inl ⟨rfl,?_⟩;rw [run_op_line (box_range K_.2.1) rfl rfl];refine RgW.mk A n c t1 t2 t3 t4 q ?_
     constructor
     all_goals first|assumption|exact fun _=>rfl|exact fun _=>trivial
   · cases ho
     have e0_:=hdep 0 (by kernel_rfl);obtain rfl:=h28 e0_
     have e8:∀i,d i=true→d i=true:=fun _ h=>h
     have e4:d 4=false:=by
      cases hx:d 4 with
      |false=>rfl
      |true=>have:=k4 hx;rw [hd] at this;cases this
     refine .inl ⟨rfl,?_⟩
     go_simp
     refine (CW.out _ K_.2.2.1).mono ?_;rintro e w2 ⟨A2,n2,c2,rfl,hr,hb⟩;refine ⟨_,rfl,?_⟩;refine RgW.mk A2 n2 c2 t1 t2 t3 t4 q ?_
     constructor
     case k4=>exact fun _=>by simp
     case r1=>exact fun _ _=>hr
     case r4=>exact fun h=>by simp [e4] at h
     case b8=>exact fun h=>by have g:=b8 (by simpa using h);exact ⟨g.1,Nat.lt_of_lt_of_le g.2.1 hb.size,by simpa using g.2.2.below (by omega) hb⟩
     case b=>exact vAa b hb
     all_goals first|assumption|exact fun _=>rfl|exact fun _=>trivial
   · cases ho
     refine .inl ⟨rfl,?_⟩
     go_simp
     refine RgW.mk A n c t1 t2 t3 t4 q ?_
     constructor
     all_goals first|assumption|exact fun _=>rfl|exact fun _=>trivial
   · cases ho
     have e2_:=hdep 2 (by kernel_rfl);obtain rfl:=h30 e2_;have c0:=K_.1;refine .inl ⟨rfl,?_⟩
     go_simp
     refine RgW.mk A n c t1 t2 t3 t4 q ?_
     constructor
     all_goals first|assumption|exact fun _=>rfl|exact fun _=>trivial
   · cases ho
     have e1_:=hdep 1 (by kernel_rfl);obtain rfl:=h29 e1_;have e3_:=hdep 3 (by kernel_rfl);obtain rfl:=h31 e3_
     have e5:d 5=false:=by
      cases hx:d 5 with
      |false=>rfl
      |true=>have:=k54 hx;rw [hd] at this;cases this
     have e6:d 6=false:=by
      cases hx:d 6 with
      |false=>rfl
      |true=>have:=k64 hx;rw [e5] at this;cases this
     have e9:d 9=false:=by
      cases hx:d 9 with
      |false=>rfl
      |true=>have:=k96 hx;rw [e6] at this;cases this
     refine .inl ⟨rfl,?_⟩
     go_simp
     refine (CR.out A n c _ (r1 e1_ hd)).mono ?_;rintro e w2 ⟨u1,u2,u3,u4,rfl,hr,hn,hb⟩;refine ⟨_,rfl,?_⟩;refine RgW.mk A n c u1 u2 u3 u4 q ?_
     constructor
     case h27=>exact fun h=>by simp [e5] at h
     case h33=>exact fun h=>by simp [e6] at h
     case k4=>exact fun _=>by simpa using e1_
     case k54=>exact fun _=>by simp
     case r1=>exact fun _ g=>by simp at g
     case r4=>exact fun _=>hr
     case b8=>exact fun h=>by have g:=b8 (by simpa using h);have e9:d 9=false:=e9;exact ⟨g.1,Nat.lt_of_lt_of_le g.2.1 hb.size,by have:=g.2.2.below (by omega) hb;simpa [e9] using this⟩
     case b=>exact vAa b hb
     case n8=>exact fun h _=>by have g:=b8 (by simpa using h);exact ⟨fun ad e _=>by have:=hn.1 ad e;omega,fun ad e _=>by have:=hn.2.1 ad e;omega,fun ad e _=>by have:=hn.2.2.1 ad e;omega,fun ad e _=>by have:=hn.2.2.2 ad e;omega⟩
     all_goals first|assumption|exact fun _=>rfl|exact fun _=>trivial
   · cases ho
     have e4_:=hdep 4 (by kernel_rfl);obtain rfl:=h32 e4_;refine .inl ⟨rfl,?_⟩
     go_simp
     refine RgW.mk A n c t1 t2 t3 t4 q ?_
     constructor
     case k64=>exact fun _=>by simp
     case k54=>exact fun _=>by simpa using e4_
     case k74=>exact fun _=>by simp
     all_goals first|assumption|exact fun _=>rfl|exact fun _=>trivial
   · cases ho
     have e5_:=hdep 5 (by kernel_rfl);obtain rfl:=h27 e5_;refine .inl ⟨rfl,?_⟩
     go_simp
     refine RgW.mk A n c t1 t2 t3 t4 q ?_
     constructor
     case k96=>exact fun _=>by simp
     case k64=>exact fun _=>by simpa using e5_
     all_goals first|assumption|exact fun _=>rfl|exact fun _=>trivial
   · cases ho
     have e5_:=hdep 5 (by kernel_rfl);obtain rfl:=h27 e5_;refine .inl ⟨rfl,?_⟩
     go_simp
     refine RgW.mk A n c t1 t2 t3 t4 q ?_
     constructor
     case k74=>exact fun _=>by simpa using e5_
     all_goals first|assumption|exact fun _=>rfl|exact fun _=>trivial
   · cases ho
     have e9:d 9=false:=by
      cases hx:d 9 with
      |false=>rfl
      |true=>have:=k9 hx;rw [hd] at this;cases this
     refine .inl ⟨rfl,?_⟩;rw [alloc_line _ _ rfl];refine RgW.mk A n c t1 t2 t3 t4 w'.heap.size ?_
     constructor
     case k9=>exact fun _=>by simp
     case r1=>exact fun h g=>(r1 (by simpa using h) (by simpa using g)).below ((Below.refl _ _).alloc (Nat.le_refl _) _)
     case r4=>exact fun h=>vAk (r4 (by simpa using h)) ((Below.refl _ _).alloc (Nat.le_refl _) _)
     case b8=>exact fun _=>⟨b.size,by simp,by have:=zero_box w' 37;simpa [e9] using this⟩
     case b=>exact b.alloc b.size _
     case n8=>exact fun _ g=>by have r:=r4 (by simpa using g);exact ⟨fun ad e h=>Nat.ne_of_lt (lt_isl (s:=t1) r.1 ad e h),fun ad e h=>Nat.ne_of_lt (lt_isl (s:=t2) r.2.1 ad e h),fun ad e h=>Nat.ne_of_lt (lt_isl (s:=t3) r.2.2.1 ad e h),fun ad e h=>Nat.ne_of_lt (lt_isl (s:=t4) r.2.2.2 ad e h)⟩
     all_goals first|assumption|exact fun _=>rfl|exact fun _=>trivial
   · cases ho
     have e8_:=hdep 8 (by kernel_rfl);obtain rfl:=h3 e8_;have e6_:=hdep 6 (by kernel_rfl);obtain rfl:=h33 e6_;have g:=b8 e8_;rw [hd] at g;simp only [Bool.false_eq_true,if_false] at g;have e5_:=k64 e6_;have e4_:=k54 e5_;have r:=r4 e4_;have nn:=n8 e8_ e4_;refine .inl ⟨rfl,?_⟩;refine exec_lineput rfl rfl M t1 t2 t3 t4 rfl _ g.2.2 (fun w9 b9_ x9=>?_);have R4_:LRead w9 M t1 t2 t3 t4:=⟨isl_ex (s:=t1) r.1 x9 nn.1,isl_ex (s:=t2) r.2.1 x9 nn.2.1,isl_ex (s:=t3) r.2.2.1 x9 nn.2.2.1,isl_ex (s:=t4) r.2.2.2 x9 nn.2.2.2⟩
     refine RgW.mk A n c t1 t2 t3 t4 q ?_
     constructor
     case k9=>exact fun _=>by simpa using e8_
     case k96=>exact fun _=>by simpa using e6_
     case r1=>exact fun _ g=>by simp [e4_] at g
     case r4=>exact fun h=>R4_
     case b8=>exact fun _=>⟨g.1,Nat.lt_of_lt_of_le g.2.1 x9.size,by simpa using b9_⟩
     case b=>exact Below.ex b x9 g.1 b.size
     all_goals first|assumption|exact fun _=>rfl|exact fun _=>trivial
   · cases ho
     have e7_:=hdep 7 (by kernel_rfl);obtain rfl:=h34 e7_;refine .inl ⟨rfl,?_⟩
     go_simp
     refine RgW.mk A n c t1 t2 t3 t4 q ?_
     constructor
     all_goals first|assumption|exact fun _=>rfl|exact fun _=>trivial
   · simp at ho
 · rintro d a w' @⟨A,n,c,t1,t2,t3,t4,q,x3,x4,x27,x28,x29,x30,x31,x32,x33,x34,_,hv⟩ hall
   obtain ⟨h3,h4,h27,h28,h29,h30,h31,h32,h33,h34,k4,k9,k96,k64,k54,k74,r1,r4,b8,b9,b,n8⟩:=hv;have e8:=hall 8 (by decide);have e4:=hall 4 (by decide);have e9:=hall 9 (by decide);obtain rfl:=h3 e8;obtain rfl:=h4 (hall 10 (by decide));have BX:=hid (b8 e8);rw [e9] at BX;simp only [if_true] at BX;have R4:=hid (r4 e4);have K1:=hid (W_.out w' b);clear h27 h28 h29 h30 h31 h32 h33 h34 k4 k9 k96 k64 k54 k74 r1 r4 b8 b9 b n8 hall e8 e4 e9
   have z13:=0
   by_cases eE:E=0
   · have y1:(E == 0)=true:=by simpa using eE
     have RF:=hid (show rr=vEz L M by rw [RR.out,decide_eq_true eE,Bool.true_and]);clear eE z13
     go_wp2_with (first
      |((with_reducible refine vAf ?hg (.tmp 1) ?ho w.heap.size ?hx L s1 s2 s3 s4 K1.out.2.1 ?_);(case hg=>rfl);(case ho=>rfl);(case hx=>rfl))
      |((with_reducible refine vAf ?hg (.tmp 3) ?ho q ?hx M t1 t2 t3 t4 BX.out.2.2 ?_);(case hg=>rfl);(case ho=>rfl);(case hx=>rfl))
      |(go_at_call 180;(with_reducible refine (CS.out _ t1 t2 t3 t4 K1.out.2.2.1 R4.out).mono ?_);rintro e w5 ⟨rfl,hb5⟩))
     go_ret;exact ⟨by rw [RF.out];rfl,vAa K1.out.2.2.2 hb5⟩
   · have y1:(E == 0)=false:=by simpa using eE
     have RF:=hid (show rr=false by rw [RR.out,decide_eq_false eE,Bool.false_and]);clear eE z13;go_wp2;go_ret;exact ⟨by rw [RF.out];rfl,K1.out.2.2.2⟩
def FormC (ws:List (List UInt8)):Prop:=∀(A:Option Addr) (n c:Nat) (w:World),SSl w A n c ws→Calls Tryz.prog 188 #[.slice A n c] w fun e w'=>e=.returned (.string (str (fmV ws)))∧w=w'
def KindC (s:List UInt8):Prop:=∀w,Calls Tryz.prog 189 #[.string (str s)] w fun e w'=>e=.returned (.int .i64 (kdV s))∧Below w.heap.size w w'
def WordC (c:UInt8):Prop:=∀(x:Int) (_:x=(c.toNat:Int)) (s:List UInt8) (k:Int) (_:0≤k) (q:Nat) (L:LV) (s1 s2 s3 s4:SlV) (w:World) (_:LBox w q L s1 s2 s3 s4) (_:s.length≤1000000),Calls Tryz.prog 190 #[.int .u8 x,.string (str s),.int .i64 k,.pointer (some ⟨q,0,none⟩)] w (GotWd w q (wdE c s) (wdL c s k.toNat L))
theorem nmL_kind (s:List UInt8) (k:Nat) (L:LV):(nmL s k L).kind=L.kind:=by
 unfold nmL
 repeat' split
 all_goals rfl
theorem vCc {p:Prop} [Decidable p] {a b:LV} {k:Int} (ha:a.kind=k) (hb:b.kind=k):(if p then a else b).kind=k:=by
 by_cases h:p
 · rw [if_pos h];exact ha
 · rw [if_neg h];exact hb
theorem wdL_kind (c:UInt8) (s:List UInt8) (k:Nat) (L:LV):(wdL c s k L).kind=L.kind:=by
 unfold wdL;exact vCc (nmL_kind s k L) (vCc rfl (vCc rfl (vCc rfl (vCc rfl (vCc rfl (vCc rfl (vCc rfl (vCc rfl (vCc rfl (vCc rfl (vCc rfl (vCc rfl rfl))))))))))))
theorem runS_kind:∀(f:List UInt8) (ws:List (List UInt8)) (k:Nat) (L:LV),(vDy f ws k L).2.kind=L.kind
 | [],_,_,_=>rfl
 |_ :: _,[],_,_=>rfl
 |c :: f,s :: ws,k,L=>by
  rw [vDy]
  by_cases h:wdE c s=0
  · rw [if_pos h,runS_kind f ws _ _,wdL_kind]
  · rw [if_neg h]
theorem rread_par (A:Option Addr) (n c:Nat) (ws:List (List UInt8)) (row:Int) (w:World) (h:SSl w A n c ws) (hs:∀p∈ws,p.length≤1000000) (f:¬fmV ws=[]) (f2:n=(fmV ws).length+1)
 (KV:Int) (hKV:kdV (wat ws 0)=KV) (K2:KV≠2) (CF0:FormC ws) (CK0:KindC (wat ws 0)) (CW0:∀c∈fmV ws,WordC c) (RR:Int×LV) (hRR:vDy (fmV ws) (ws.drop 1) 0 (LV.new row KV)=RR) (EV:Int) (hEV:RR.1=EV):
 Calls Tryz.prog 178 #[.slice A n c,.int .i64 row] w (vGg w (if EV=0 then RR.2 else LV.zero) EV):=by
 obtain ⟨M,hM⟩:∃M,(if EV=0 then RR.2 else LV.zero)=M:=⟨_,rfl⟩;rw [hM];have HM:=hid hM;clear hM;have hle:=h.le;have hcap:=h.cap;have hlen:=h.len;have H:=hid h;obtain ⟨b,off,rfl,hb,hc⟩:=h.at_ (by omega);have HC:=hid hc;have c0:w.cell? ⟨b,off,none⟩=some (.string (str (wat ws 0))):=hc 0 (by omega);have CF:=hid (fun w h=>CF0 (some ⟨b,off,none⟩) n c w h);have CK:=hid (fun w=>CK0 w);unfold KindC at CK0
 have LT:=hid CW0;have HS:=hid hs;rw [hKV] at CK
 have d1:(fmV ws == ([]:List UInt8))=false:=by simpa using f
 have d2:((n:Int) != ((fmV ws).length:Int)+1)=false:=by simp;omega
 have hF:(fmV ws).length+1=n:=f2.symm
 have j0:(0:Int)<(n:Int):=by omega
 have hRRh:=hid hRR;have hEVh:=hid hEV;have RA:=hid (fun (k kn:Nat) (L:LV) (hk:k<(fmV ws).length)=>runS_at (f:=fmV ws) (ws:=ws) (i:=k) (kn:=kn) (L:=L) hk (by omega));generalize fmV ws=F at *;generalize wat ws 0=w0 at *;clear h hc hs f f2 hKV hRR hEV CF0 CK0 CW0;have ZB:=hid (zero_box w 37)
 go_enter Tryz.func178,Tryz.ntmps178
 go_wp2_with (first
  |(go_at_call 188;(with_reducible refine (CF.out _ (H.out.alloc _)).mono ?_);rintro e w1 ⟨rfl,rfl⟩)
  |(go_at_call 189;(with_reducible refine (CK.out _).mono ?_);rintro e w2 ⟨rfl,hb2⟩;have B2:=hid hb2;clear hb2))
 have hz0:=hid (show w.heap.size<w2.heap.size from Nat.lt_of_lt_of_le (by simp) B2.out.size);have LB:=hid (show LBox (w2.alloc (.cells #[.int .i64 row,.int .i64 KV,.string ⟨#[]⟩,.string ⟨#[]⟩,.string ⟨#[]⟩,.string ⟨#[]⟩,.string ⟨#[]⟩,.int .u64 0,.int .u32 0,.int .i64 0,.int .i64 0,.int .i64 0,.int .i64 0,.slice none 0 0,.slice none 0 0,.slice none 0 0,.slice none 0 0] 37)) w2.heap.size (LV.new row KV) SlV.nil SlV.nil SlV.nil SlV.nil from ⟨new_box w2 row KV _,FSl.nil,FSl.nil,FSl.nil,FSl.nil⟩)
 have WB:=hid (show Below w2.heap.size w2 (w2.alloc (.cells #[.int .i64 row,.int .i64 KV,.string ⟨#[]⟩,.string ⟨#[]⟩,.string ⟨#[]⟩,.string ⟨#[]⟩,.string ⟨#[]⟩,.int .u64 0,.int .u32 0,.int .i64 0,.int .i64 0,.int .i64 0,.int .i64 0,.slice none 0 0,.slice none 0 0,.slice none 0 0,.slice none 0 0] 37)) from (Below.refl _ _).alloc (Nat.le_refl _) _);generalize w2.alloc (.cells #[.int .i64 row,.int .i64 KV,.string ⟨#[]⟩,.string ⟨#[]⟩,.string ⟨#[]⟩,.string ⟨#[]⟩,.string ⟨#[]⟩,.int .u64 0,.int .u32 0,.int .i64 0,.int .i64 0,.int .i64 0,.int .i64 0,.slice none 0 0,.slice none 0 0,.slice none 0 0,.slice none 0 0] 37)=W3 at *
 have B3:=hid (vAa B2.out WB.out);have ZB3:=hid (ZB.out.below (by omega) B3.out);have BW:=hid (vEo B3.out);have S3:=hid (fun j hj=>(BW.out.cell (p:=⟨b,off+j,none⟩) hb).trans (HC.out j hj));have hq3:=hid (LB.out.lt)
 go_loopw [8,9] (fun nm i wr=>∃(k kn:Nat) (L:LV) (s1 s2 s3 s4:SlV),k≤F.length∧i=.int .i64 (k:Int)∧nm=.int .i64 (kn:Int)∧kn≤k∧LBox wr w2.heap.size L s1 s2 s3 s4∧Ex w2.heap.size W3 wr∧vDy (F.drop k) (ws.drop (k+1)) kn L=RR∧L.kind=KV) (fun _ i _=>F.length - (intOf i).toNat)
 case atStart=>exact ⟨0,0,_,_,_,_,_,by omega,rfl,rfl,by omega,LB.out,Ex.refl _ _,hRRh.out,rfl⟩
 case round=>
  obtain ⟨k,kn,L,s1,s2,s3,s4,hk,rfl,rfl,hkn,hlb,hex,hrun,hkd⟩:=hrel;have HR:=hid hrun;have HB:=hid hlb;have HX:=hid hex;clear hrun
  by_cases hlt:k<F.length
  · have hmem:F.getD k 0∈F:=by
     simp [List.getD,List.getElem?_eq_getElem hlt]
    have hl5:=LT.out _ hmem
    have hk1:k+1<ws.length:=by omega
    have hsl:(wat ws (k+1)).length≤1000000:=HS.out _ (by
     unfold wat
     simp [List.getD,List.getElem?_eq_getElem hk1])
    have hX:sb (str F) k=((F.getD k 0).toNat:Int):=by simp [sb]
    have hb3:b<W3.heap.size:=Nat.lt_of_lt_of_le hb BW.out.size
    have hne:b≠w2.heap.size:=by have:=hz0.out;omega
    have cW:wr.cell? ⟨b,off+(k+1),none⟩=some (.string (str (wat ws (k+1)))):=(HX.out.cell (off+(k+1)) hb3 hne).trans (S3.out (k+1) (by omega));have HK:=hid (HR.out.symm.trans (RA.out k kn L hlt));have KD2:=hid ((wdL_kind (F.getD k 0) (wat ws (k+1)) kn L).trans hkd);have CW:=hid (fun w h=>hl5 (sb (str F) k) hX (wat ws (k+1)) (kn:Int) (by omega) w2.heap.size L s1 s2 s3 s4 w h hsl);rw [Int.toNat_natCast] at CW
    have IX:=vAy (str F) k k rfl (by rw [vBa];exact hlt)
    have n78:(sb (str F) k == 78)=decide (F.getD k 0=78):=by
     rw [hX]
     by_cases g:F.getD k 0=78
     · rw [g];rfl
     · rw [decide_eq_false g]
       have:¬((F.getD k 0).toNat:Int)=78:=fun e=>g (UInt8.toNat_inj.1 (by show _=78;omega))
       simpa using this
    have lim:(k:Int)+1<(n:Int):=by omega
    have lim2:(k:Int)<(F.length:Int):=by omega
    have lim3:(k:Int)<((str F).size:Int):=by rw [vBa];omega
    have wk:IntKind.i64.wrap ((k:Int)+1)=(k:Int)+1:=IntWalk.i64_in _ (by omega)
    have lo1:(0:Int)≤(k:Int)+1:=by omega
    have lo2:(0:Int)≤(k:Int):=by omega
    have lo3:((k:Int)+1).toNat=k+1:=by omega
    have lo4:(0:Int)≤(k:Int)+1∧(k:Int)+1<(n:Int):=by omega
    have nlim:(n:Int)≤9223372036854775807:=by omega
    have kn2:(kn:Int)+1≤9223372036854775807:=by omega
    generalize wat ws (k+1)=x at *;generalize wdE (F.getD k 0) x=E at *;generalize wdL (F.getD k 0) x kn L=L2 at *;generalize hN:decide (F.getD k 0=78)=N78 at n78;have HN:=hid hN;generalize sb (str F) k=X at *;have hq0:w2.heap.size<wr.heap.size:=HB.out.lt;have HBd:=hid (show LBox wr.drew w2.heap.size L s1 s2 s3 s4 from HB.out.drewN 1);have cWd:wr.drew.cell? ⟨b,off+(k+1),none⟩=some (.string (str x)):=cW
    have hbr:b<wr.heap.size:=Nat.lt_of_lt_of_le hb3 HX.out.size;have HBR:=hid hbr;have HNE:=hid hne;have HLT:=hid hlt;have HKN:=hid hkn;have HKK:=hid hk;have CWh:=hid cW;clear hkd hlb hex hmem hl5 hX hN hsl hcap hle hlen j0 hF d1 d2 c0 hk hkn hk1 hb hb3 hbr hne hq0 hlt
    by_cases hE:E=0
    · have K2:=hid (HK.out.trans (if_pos hE))
      clear HK;subst hE
      cases N78
      · have K3:=hid (show vDy (F.drop (k+1)) (ws.drop (k+1+1)) kn L2=RR by have:=K2.out;rw [if_neg (of_decide_eq_false HN.out)] at this;exact this.symm)
        go_wp2
        go_region_held_law (fun w'=>w'.cell? ⟨b,off+(k+1),none⟩=some (.string (str x))) (first|exact cW5|exact cWd|exact cW|fail)
         (first|(go_at_call 190;(with_reducible refine (CW.out _ HBd.out).mono ?_);rintro e w5 ⟨rfl,hl5,hx5⟩;have X5:=hid (HX.out.trans ((Ex.refl _ wr).drewN 1 |>.trans hx5));have cW5:w5.cell? ⟨b,off+(k+1),none⟩=some (.string (str x)):=(hx5.cell (off+(k+1)) HBR.out HNE.out).trans CWh.out;have L5:=hid hl5;clear hl5 hx5))
        obtain ⟨L',t1,t2,t3,t4,hL,hEq⟩:=L5.out
        obtain rfl:L'=L2:=by first|exact hEq rfl|exact hEq trivial
        have HL:=hid hL;clear hL hEq;go_wp2
        go_roundw
        case rel=>exact ⟨k+1,kn,L',t1,t2,t3,t4,by have:=HLT.out;omega,by go_num,rfl,by have:=HKN.out;omega,HL.out,X5.out,K3.out,KD2.out⟩
        case measure=>have:=HLT.out;simp [intOf];omega
      · have K3:=hid (show vDy (F.drop (k+1)) (ws.drop (k+1+1)) (kn+1) L2=RR by have:=K2.out;rw [if_pos (of_decide_eq_true HN.out)] at this;exact this.symm)
        go_wp2
        go_region_held_law (fun w'=>w'.cell? ⟨b,off+(k+1),none⟩=some (.string (str x))) (first|exact cW5|exact cWd|exact cW|fail)
         (first|(go_at_call 190;(with_reducible refine (CW.out _ HBd.out).mono ?_);rintro e w5 ⟨rfl,hl5,hx5⟩;have X5:=hid (HX.out.trans ((Ex.refl _ wr).drewN 1 |>.trans hx5));have cW5:w5.cell? ⟨b,off+(k+1),none⟩=some (.string (str x)):=(hx5.cell (off+(k+1)) HBR.out HNE.out).trans CWh.out;have L5:=hid hl5;clear hl5 hx5))
        obtain ⟨L',t1,t2,t3,t4,hL,hEq⟩:=L5.out
        obtain rfl:L'=L2:=by first|exact hEq rfl|exact hEq trivial
        have HL:=hid hL;clear hL hEq;go_wp2
        go_roundw
        case rel=>exact ⟨k+1,kn+1,L',t1,t2,t3,t4,by have:=HLT.out;omega,by go_num,by go_num,by have:=HKN.out;omega,HL.out,X5.out,K3.out,KD2.out⟩
        case measure=>have:=HLT.out;simp [intOf];omega
    · have hR:RR=(E,L):=HK.out.trans (if_neg hE)
      have hEE:EV=E:=by rw [←hEVh.out,hR]
      have hMM:M=LV.zero:=by rw [←HM.out,hEE,if_neg hE]
      clear hR HK n78;have EE:=hid hEE;have MM:=hid hMM;clear hEE hMM;go_wp2
      go_region_held_law (fun w'=>w'.cell? ⟨b,off+(k+1),none⟩=some (.string (str x))) (first|exact cW5|exact cWd|exact cW|fail)
       (first|(go_at_call 190;(with_reducible refine (CW.out _ HBd.out).mono ?_);rintro e w5 ⟨rfl,hl5,hx5⟩;have X5:=hid (HX.out.trans ((Ex.refl _ wr).drewN 1 |>.trans hx5));have cW5:w5.cell? ⟨b,off+(k+1),none⟩=some (.string (str x)):=(hx5.cell (off+(k+1)) HBR.out HNE.out).trans CWh.out;have L5:=hid hl5;clear hl5 hx5))
      have ZB5:=hid (ZB3.out.ex (by omega) X5.out (by have:=hz0.out;omega));clear lim lim2 lim3 lo1 lo2 lo3 lo4 nlim wk kn2 IX cW cWd;have hzz:=hz0.out;go_wp2_with (refine vGl rfl (.tmp 4) (.tmp 79) rfl w.heap.size (by rfl) LV.zero SlV.nil SlV.nil SlV.nil SlV.nil (by rfl) _ ZB5.out ?_;intro w9 hbx9 hex9;have RB:=hid hbx9;have BB:=Below.ex BW.out X5.out (Nat.le_of_lt hzz) BW.out.size;have QB:=hid (Below.ex BB hex9 (Nat.le_refl _) BB.size);clear hbx9 hex9 BB)
      exact bodyPost_ret (vIj _ _ w.heap.size E LV.zero SlV.nil SlV.nil SlV.nil SlV.nil rfl rfl RB.out) rfl ⟨SlV.nil,SlV.nil,SlV.nil,SlV.nil,by rw [MM.out,EE.out],by rw [MM.out];exact LRead.zero,LNew.nil _,QB.out⟩
  · obtain rfl:k=F.length:=by omega
    have hR:RR=(0,L):=by rw [←HR.out];exact runS_end (Nat.le_refl _)
    have hz1:=hz0.out;have hzz:=hz0.out
    have EV0:EV=0:=by rw [←hEVh.out,hR]
    have M0:(if EV=0 then L else LV.zero)=M:=by rw [←HM.out,hR]
    have HT:=hid HB.out.2.1.1;obtain ⟨z0,z1,z2,z3,z4,z5,z6,z7,z8,z9,z10,z11,z12,z13,z14,z15,z16⟩:=HB.out.cells;have zf:=HB.out.frozen;have zl:=HB.out.lt
    have fsz:(F.length:Int)<((str F).size:Int)+1:=by rw [vBa];omega
    clear hR hlb hex hcap hle hlen j0 hF d1 d2 c0 hk hkn hlt
    have k2:¬L.kind=2:=by rw [hkd];exact K2
    have EE:=hid EV0;have MM:=hid (show M=L by rw [←M0,EE.out];rfl);have XW:=hid HX.out;have LW:=hid HB.out;have ZB5:=hid (ZB3.out.ex (by omega) XW.out (by omega))
    have kk:(L.kind == 2)=false:=by simpa using k2
    clear EV0 M0 k2 hkd;go_wp2_with (first|(refine vAf rfl (.tmp 7) rfl w2.heap.size (by rfl) L s1 s2 s3 s4 LW.out.1 ?_)|(refine vGl rfl (.tmp 4) (.tmp 96) rfl w.heap.size (by rfl) L s1 s2 s3 s4 (by rfl) _ ZB5.out ?_;intro w9 hbx9 hex9;have RB:=hid hbx9;have BB:=Below.ex BW.out XW.out (Nat.le_of_lt hzz) BW.out.size;have QB:=hid (Below.ex BB hex9 (Nat.le_refl _) BB.size);have LR:=hid (LRead.ex LW.out hex9 hzz);clear hbx9 hex9 BB))
    exact bodyPost_ret (vIj _ _ w.heap.size 0 L s1 s2 s3 s4 rfl rfl RB.out) rfl ⟨s1,s2,s3,s4,by rw [MM.out,EE.out],by rw [MM.out];exact LR.out,LW.out.new (Nat.le_of_lt hz1),QB.out⟩
theorem rread_kd {ws:List (List UInt8)} (row:Int) {F:List UInt8} {K:Int} (hf:fmV ws=F) (h0:F≠[]) (h1:ws.length=F.length+1) (hk:kdV (wat ws 0)=K) (k2:K≠2) (hs:∀p∈ws,p.length≤1000000) (CF:FormC ws) (CK:KindC (wat ws 0)) (CW:∀c∈F,WordC c) (A:Option Addr) (n c:Nat) (w:World) (h:SSl w A n c ws):
 Calls Tryz.prog 178 #[.slice A n c,.int .i64 row] w (vGg w (rdL ws row) (rdE ws row)):=by
 obtain ⟨RR,hRR⟩:∃RR,vDy F (ws.drop 1) 0 (LV.new row K)=RR:=⟨_,rfl⟩
 have hkd:RR.2.kind=K:=by rw [←hRR,runS_kind];rfl
 obtain ⟨e1,e2⟩:=rd_of hf h0 h1 hk (E:=RR.1) (L:=RR.2) (row:=row) hRR
 have eE:RR.1=rdE ws row:=by
  rw [e1,hkd,if_neg (c:=K=2∧mbB RR.2=false) (fun g=>k2 g.1)]
  by_cases z:RR.1=0
  · rw [if_pos z,z]
  · rw [if_neg z]
 have:=rread_par A n c ws row w h hs (by rw [hf];exact h0) (by rw [←h.len,h1,hf]) K hk k2 CF CK (by rw [hf];exact CW) RR (by rw [hf];exact hRR) (rdE ws row) eE
 rw [e2];exact this
theorem rd_line {ws:List (List UInt8)} {row:Int} {F:List UInt8} {K:Int} (hf:fmV ws=F) (h0:F≠[]) (h1:ws.length=F.length+1) (hk:kdV (wat ws 0)=K) (k2:K≠2) (g:rdE ws row=0):(vDy F (ws.drop 1) 0 (LV.new row K)).1=0∧rdL ws row=(vDy F (ws.drop 1) 0 (LV.new row K)).2:=by
 obtain ⟨e1,e2⟩:=rd_of hf h0 h1 hk (E:=(vDy F (ws.drop 1) 0 (LV.new row K)).1) (L:=(vDy F (ws.drop 1) 0 (LV.new row K)).2) (row:=row) rfl;rw [g] at e1;rw [if_pos g] at e2;refine ⟨?_,e2⟩;rw [runS_kind,if_neg (c:=(LV.new row K).kind=2∧mbB (vDy F (ws.drop 1) 0 (LV.new row K)).2=false) (fun h=>k2 h.1)] at e1
 by_cases z:(vDy F (ws.drop 1) 0 (LV.new row K)).1=0
 · exact z
 · rw [if_neg z] at e1;exact e1.symm
theorem vEg {c:UInt8} (h:∀(s:List UInt8) (k:Int) (_:0≤k) (q:Nat) (L:LV) (s1 s2 s3 s4:SlV) (w:World) (_:LBox w q L s1 s2 s3 s4) (_:s.length≤1000000),Calls Tryz.prog 190 #[.int .u8 (c.toNat:Int),.string (str s),.int .i64 k,.pointer (some ⟨q,0,none⟩)] w (GotWd w q (wdE c s) (wdL c s k.toNat L))):WordC c:=by
 intro x hx s k hk q L s1 s2 s3 s4 w hb hs;subst hx;exact h s k hk q L s1 s2 s3 s4 w hb hs
end Go.Proofs.YtgmflecelnefcaaGreat
