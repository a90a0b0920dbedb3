import Derived.Test.YtgnkpbgaoiaefaaGreatPb32
import Derived.Test.YtgnkpbgaoiaefaaGreatPb33
import Derived.Test.YtgnkpbgaoiaefaaGreatPb29
import Derived.Test.YtgnkpbgaoiaefaaGreatPb08
import Derived.Test.YtgnkpbgaoiaefaaGreatPb07
import Derived.Test.YtgnkpbgaoiaefaaGreatPb30
import Derived.WalkMore
import Derived.RegionTactic
set_option maxRecDepth 100000
set_option maxHeartbeats 40000000
namespace Go.Proofs.YtgnkpbgaoiaefaaGreat
open Go.Lib (hid)
open Go.RowKit
structure LvM (L:LV):Prop where
 sz:LvSz L
 mac:0≤L.mac∧L.mac<18446744073709551616
 addr:0≤L.addr∧L.addr<4294967296
theorem LvM.take {L:LV} (h:LvM L) (f:Nat):VOk (vBp f L WV.zero):=by
 have t:=h.sz.txt;have l:=h.sz.lst
 match f with
 |0=>exact ⟨t.1,vHr,vIh,vGh⟩
 |1=>exact ⟨t.2.1,vHr,vIh,vGh⟩
 |2=>exact ⟨t.2.2.1,vHr,vIh,vGh⟩
 |3=>exact ⟨t.2.2.2.1,vHr,vIh,vGh⟩
 |4=>exact ⟨t.2.2.2.2,vHr,vIh,vGh⟩
 |5=>exact ⟨show ([116,114,117,110,107]:List UInt8).length≤1000000 by decide,vHr,vIh,vGh⟩
 |6|7|8=>exact ⟨vo_t,vHr,vIh,vGh⟩
 |9=>exact ⟨vo_t,h.mac,vIh,vGh⟩
 |10=>exact ⟨vo_t,vHr,h.addr,vGh⟩
 |11=>exact ⟨vo_t,vHr,h.addr,vGh⟩
 |12=>exact ⟨vo_t,vHr,vIh,⟨l.1,vGh.2⟩⟩
 |13=>exact ⟨vo_t,vHr,vIh,⟨l.2.1,vGh.2⟩⟩
 |14=>exact ⟨vo_t,vHr,vIh,⟨l.2.2.1,vGh.2⟩⟩
 |15=>exact ⟨vo_t,vHr,vIh,⟨vGh.1,l.2.2.2⟩⟩
 |f+16=>exact vok_zero
theorem rgRun_at {ps:List (Nat×Nat)} {k:Nat} {L:LV} (h:k<ps.length):
 vCp (ps.drop k) L=if vCs (ps.getD k (0,0)).1 (vBp (ps.getD k (0,0)).2 L WV.zero)=true then vCp (ps.drop (k+1)) (vCx (ps.getD k (0,0)).2 L WV.zero) else none:=by
 have e1:ps.drop k=ps.getD k (0,0) :: ps.drop (k+1):=by rw [List.drop_eq_getElem_cons h];simp [List.getD,List.getElem?_eq_getElem h]
 rw [e1];obtain ⟨w,f⟩:=ps.getD k (0,0);rw [vCp]
theorem vIt {ops:Array Oper} {rest:List Oper} {op:Oper} {a:Act} {w:World} {Q:Exit→Act→World→Prop} (hgd:op.guard=none) (x:Operand) (ho:op.op=.load 93 x)
 (p:Nat) (hx:a.eval x=.pointer (some ⟨p,0,none⟩)) (V:WV) (t1 t2:SlV) (hb:BoxF w p 6 (vc V t1 t2)) (h:wpList Tryz.prog ops Q rest (a.put op.dst (vHp V t1 t2)) w):wpList Tryz.prog ops Q (op :: rest) a w:=by
 obtain ⟨d,hd1,hd2⟩:=val_desc;exact wpList_load_mid hgd 93 x ho p 0 hx (valC V t1 t2) d hb.rangeV hd1 hd2 val_size h
theorem RdZ.fvZ {Z:LV→Prop} {w wr:World} {p:Nat} {ps:List (Nat×Nat)} {A:Option Addr} {n c:Nat} {L:LV} {s1 s2 s3 s4:SlV} (h:RdZ Z w p ps A n c L s1 s2 s3 s4 wr) (o:Obj) (T:TypeId):
 RdZ Z w p ps A n c L s1 s2 s3 s4 ((wr.alloc o).alloc (.cells #[.string ⟨#[]⟩,.int .i64 0,.int .u64 0,.int .u32 0,.slice none 0 0,.slice none 0 0] T))∧
 FV ((wr.alloc o).alloc (.cells #[.string ⟨#[]⟩,.int .i64 0,.int .u64 0,.int .u32 0,.slice none 0 0,.slice none 0 0] T)) p (wr.heap.size+1) L s1 s2 s3 s4 WV.zero SlV.nil SlV.nil∧Below wr.heap.size wr ((wr.alloc o).alloc (.cells #[.string ⟨#[]⟩,.int .i64 0,.int .u64 0,.int .u32 0,.slice none 0 0,.slice none 0 0] T)):=by
 have B:=vAi wr o (.cells #[.string ⟨#[]⟩,.int .i64 0,.int .u64 0,.int .u32 0,.slice none 0 0,.slice none 0 0] T);have R6:=h.keep B;have hlt:p<wr.heap.size:=h.pl;have vb:=(SV.start (wr.alloc o) T).box;rw [rd_sz] at vb
 have off:∀(k:IntKind) (s:SlV) (xs:List Int),ISl wr k s.A s.n s.c xs→OffP (wr.heap.size+1) s:=fun k s xs hi ad e e2=>by have:=lt_isl hi ad e e2;omega
 exact ⟨R6,R6.fv (by omega) vb ⟨ISl.nil,ISl.nil⟩ (off _ _ _ h.rd.1) (off _ _ _ h.rd.2.1) (off _ _ _ h.rd.2.2.1) (off _ _ _ h.rd.2.2.2) (fun ad e=>by cases e) (fun ad e=>by cases e),B⟩
def LvF (ps:List (Nat×Nat)) (L:LV):Prop:=∀f,f∈ps.map (·.2)→VOk (vBp f L WV.zero)
def LvK (L:LV):Prop:=LvF (pts L.kind true) L
theorem fput_cases (f:Nat) (L:LV):((vCx f L WV.zero).dev=L.dev∨(vCx f L WV.zero).dev=[])∧((vCx f L WV.zero).port=L.port∨(vCx f L WV.zero).port=[])∧((vCx f L WV.zero).peer=L.peer∨(vCx f L WV.zero).peer=[])∧((vCx f L WV.zero).far=L.far∨(vCx f L WV.zero).far=[])∧((vCx f L WV.zero).name=L.name∨(vCx f L WV.zero).name=[])∧((vCx f L WV.zero).mac=L.mac∨(vCx f L WV.zero).mac=0)∧((vCx f L WV.zero).addr=L.addr∨(vCx f L WV.zero).addr=0)∧((vCx f L WV.zero).tagged=L.tagged∨(vCx f L WV.zero).tagged=[])∧((vCx f L WV.zero).imports=L.imports∨(vCx f L WV.zero).imports=[])∧((vCx f L WV.zero).exports=L.exports∨(vCx f L WV.zero).exports=[])∧((vCx f L WV.zero).addrs=L.addrs∨(vCx f L WV.zero).addrs=[]):=by
 match f with
 |0|1|2|3|4|5|6|7|8|9|10|11|12|13|14|15=>simp [vCx,WV.zero]
 |f+16=>simp [vCx]
theorem vok_put {g:Nat} {L:LV} (f:Nat) (h:VOk (vBp g L WV.zero)):VOk (vBp g (vCx f L WV.zero) WV.zero):=by
 obtain ⟨c0,c1,c2,c3,c4,c5,c6,c7,c8,c9,c10⟩:=fput_cases f L;have ht:=h.txt;have hm:=h.mac;have ha:=h.addr;have hl:=h.lst
 match g with
 |0=>exact ⟨by rcases c0 with e|e<;>rw [show (vBp 0 (vCx f L WV.zero) WV.zero).text=_ from e]<;>first|exact ht|exact vo_t,vHr,vIh,vGh⟩
 |1=>exact ⟨by rcases c1 with e|e<;>rw [show (vBp 1 (vCx f L WV.zero) WV.zero).text=_ from e]<;>first|exact ht|exact vo_t,vHr,vIh,vGh⟩
 |2=>exact ⟨by rcases c2 with e|e<;>rw [show (vBp 2 (vCx f L WV.zero) WV.zero).text=_ from e]<;>first|exact ht|exact vo_t,vHr,vIh,vGh⟩
 |3=>exact ⟨by rcases c3 with e|e<;>rw [show (vBp 3 (vCx f L WV.zero) WV.zero).text=_ from e]<;>first|exact ht|exact vo_t,vHr,vIh,vGh⟩
 |4=>exact ⟨by rcases c4 with e|e<;>rw [show (vBp 4 (vCx f L WV.zero) WV.zero).text=_ from e]<;>first|exact ht|exact vo_t,vHr,vIh,vGh⟩
 |5=>exact ⟨ht,vHr,vIh,vGh⟩
 |6|7|8=>exact ⟨vo_t,vHr,vIh,vGh⟩
 |9=>exact ⟨vo_t,by rcases c5 with e|e<;>rw [show (vBp 9 (vCx f L WV.zero) WV.zero).mac=_ from e]<;>first|exact hm|exact vHr,vIh,vGh⟩
 |10=>exact ⟨vo_t,vHr,by rcases c6 with e|e<;>rw [show (vBp 10 (vCx f L WV.zero) WV.zero).addr=_ from e]<;>first|exact ha|exact vIh,vGh⟩
 |11=>exact ⟨vo_t,vHr,by rcases c6 with e|e<;>rw [show (vBp 11 (vCx f L WV.zero) WV.zero).addr=_ from e]<;>first|exact ha|exact vIh,vGh⟩
 |12=>exact ⟨vo_t,vHr,vIh,by rcases c7 with e|e<;>rw [show (vBp 12 (vCx f L WV.zero) WV.zero).list=_ from e]<;>first|exact ⟨hl.1,vGh.2⟩|exact vGh⟩
 |13=>exact ⟨vo_t,vHr,vIh,by rcases c8 with e|e<;>rw [show (vBp 13 (vCx f L WV.zero) WV.zero).list=_ from e]<;>first|exact ⟨hl.1,vGh.2⟩|exact vGh⟩
 |14=>exact ⟨vo_t,vHr,vIh,by rcases c9 with e|e<;>rw [show (vBp 14 (vCx f L WV.zero) WV.zero).list=_ from e]<;>first|exact ⟨hl.1,vGh.2⟩|exact vGh⟩
 |15=>exact ⟨vo_t,vHr,vIh,by rcases c10 with e|e<;>rw [show (vBp 15 (vCx f L WV.zero) WV.zero).addrs=_ from e]<;>first|exact ⟨vGh.1,hl.2⟩|exact vGh⟩
 |g+16=>exact vok_zero
theorem LvF.put {ps:List (Nat×Nat)} {L:LV} (h:LvF ps L) (f:Nat):LvF ps (vCx f L WV.zero):=fun g hg=>vok_put f (h g hg)
theorem LvF.take {ps:List (Nat×Nat)} {L:LV} (h:LvF ps L) {k:Nat} (hk:k<ps.length) {x:Nat×Nat} (e:ps.getD k (0,0)=x):VOk (vBp x.2 L WV.zero):=h _ (List.mem_map.2 ⟨x,by rw [←e];simp [List.getD,hk],rfl⟩)
theorem rt_start {w wa w9 w1:World} {L:LV} {s1 s2 s3 s4:SlV} {ps:List (Nat×Nat)} {A:Option Addr} {n c:Nat} (hL:LRead w L s1 s2 s3 s4) (hw:Below w.heap.size w wa) (hx:BoxF w9 (w.heap.size+1) 17 (lc L s1 s2 s3 s4)) (h9:Below (w.heap.size+1) wa w9) (hl:w.heap.size+1<w9.heap.size)
 (hb1:Below w9.heap.size w9 w1) (hps:PSl w1 (w.heap.size+1) A n c ps) (hpa:∀ad,A=some ad→w9.heap.size≤ad.block):RdZ (fun _=>True) w (w.heap.size+1) ps A n c L s1 s2 s3 s4 w1:=by
 have B:Below w.heap.size w w1:=(hw.trans (h9.mono (by omega))).trans (hb1.mono (by omega))
 have off:∀(k:IntKind) (s:SlV) (xs:List Int),ISl w k s.A s.n s.c xs→OffP (w.heap.size+1) s:=fun k s xs hi ad e e2=>by have:=lt_isl hi ad e e2;omega
 exact ⟨by omega,by have:=hb1.size;omega,hx.below (by omega) hb1,⟨hL.1.below B,hL.2.1.below B,hL.2.2.1.below B,hL.2.2.2.below B⟩,off _ _ _ hL.1,off _ _ _ hL.2.1,off _ _ _ hL.2.2.1,off _ _ _ hL.2.2.2,hps,fun ad e=>by have:=hpa ad e;omega,B,trivial⟩
theorem cright_k (L:LV) (s1 s2 s3 s4:SlV) (w:World) (h:LRead w L s1 s2 s3 s4) (hL:LvK L):
 Calls Tryz.prog 24 #[vAw L s1 s2 s3 s4] w fun e w'=>e=.returned (.bool (rgB L))∧Below w.heap.size w w':=by
 have H:=hid h;have LM:=hid (show LvF (pts L.kind true) L from hL);have P0:=hid (fun T=>vCc w L s1 s2 s3 s4 T);have OKP:=hid (pts_ok L.kind true);obtain ⟨rb,hrb⟩:∃rb,rgB L=rb:=⟨_,rfl⟩;have RB:=hid hrb;rw [hrb];clear h hL hrb;rw [show vAw L s1 s2 s3 s4=.agg #[.int .i64 L.row,.int .i64 L.kind,.string (str L.dev),.string (str L.port),.string (str L.peer),.string (str L.far),.string (str L.name),.int .u64 L.mac,.int .u32 L.addr,.int .i64 L.bits,.int .i64 L.vlan,.int .i64 L.num,.int .i64 L.cost,.slice s1.A s1.n s1.c,.slice s2.A s2.n s2.c,.slice s3.A s3.n s3.c,.slice s4.A s4.n s4.c] from rfl]
 go_enter Tryz.func24,Tryz.ntmps24
 go_wp2_with (first
  |((with_reducible refine vAf ?hg (.tmp 1) ?ho w.heap.size ?hx L s1 s2 s3 s4 (P0.out _) ?_);(case hg=>rfl);(case ho=>rfl);(case hx=>rfl);simp only [vAw])
  |((with_reducible refine vJb ?hg1 ?ho1 ?hg2 (.tmp 3) (.tmp 9) ?ho2 ?hx L s1 s2 s3 s4 ?hy ?_);(case hg1=>rfl);(case ho1=>rfl);(case hg2=>rfl);(case ho2=>rfl);(case hx=>rfl);(case hy=>rfl);intro w9 bx9 bl9 lt9;rw [rd_sz] at bx9 bl9 lt9)
  |(go_at_call 34;(with_reducible refine (parts_any L.kind _ _ _ (bx9.cell 1 (by omega))).mono ?_);rintro e w1 ⟨PA,pn,pc,rfl,hps,hb1,hpa⟩))
 have R1:=hid (rt_start H.out (below_box2 w _) bx9 bl9 lt9 hb1 hps hpa);have PN:=hid hps.1
 have hp6:pn≤6:=by have:=OKP.out.1;have:=PN.out;omega
 have Z1:=hid (((P0.out 37).below (by omega) (by rw [rd_sz];exact bl9)).below (by omega) hb1);generalize hP:pts L.kind true=ps at *;have PW:=hid hP;clear hP hps hpa hb1 bx9 bl9 lt9
 go_loopw [13] (fun i wr=>∃(k:Nat) (M:LV) (r1 r2 r3 r4:SlV),k≤pn∧i=.int .i64 (k:Int)∧vCp ps L=vCp (ps.drop k) M∧RdZ (fun _=>True) w (w.heap.size+1) ps PA pn pc M r1 r2 r3 r4 wr∧LvF ps M∧BoxF wr w.heap.size 17 (lc L s1 s2 s3 s4)) (fun i _=>pn - (intOf i).toNat)
 case atStart=>exact ⟨0,L,s1,s2,s3,s4,by omega,rfl,rfl,R1.out,LM.out,Z1.out⟩
 case round=>
  obtain ⟨k,M,r1,r2,r3,r4,hk,rfl,hrun,hR,hM,hZ⟩:=hrel;have RR:=hid hR;have ZZ:=hid hZ;have MM:=hid hM;have RUN:=hid hrun;clear hR hZ hM hrun
  by_cases hlt:k<pn
  · obtain ⟨bp,rfl,hbp,hpc⟩:=RR.out.ps.2.2.2 (by omega)
    obtain ⟨x0,x1⟩:=hpc k hlt;have N:=hid (rgRun_at (ps:=ps) (k:=k) (L:=M) (by rw [PN.out];exact hlt));have OK:=hid (OKP.out.at_ k);obtain ⟨x,hx⟩:∃x,ps.getD k (0,0)=x:=⟨_,rfl⟩;have VT0:=MM.out.take (by rw [PN.out];exact hlt) hx;rw [hx] at x0 x1 N OK;obtain ⟨wk,fk⟩:=x;clear hpc hx;dsimp only at x0 x1 N OK VT0;unfold fval at x1;have RC:=run_fnum fk OK.out.2;have FZ:=hid (RR.out.fvZ (.cells #[.int .i64 (wk:Int),.func (.func (fnum fk)) #[.pointer (some ⟨w.heap.size+1,0,none⟩)] #[]] 91) 93)
    have VT:=hid VT0;obtain ⟨mb,hmb⟩:∃mb,vCs wk (vBp fk M WV.zero)=mb:=⟨_,rfl⟩;have MB:=hid hmb;have CM:=hid (fun t1 t2 w h=>may_any wk OK.out.1 (vBp fk M WV.zero) t1 t2 w VT.out h)
    cases mb with
    |true=>
     have N2:=hid (show vCp ps L=vCp (ps.drop (k+1)) (vCx fk M WV.zero) by rw [RUN.out,N.out,if_pos hmb]);clear hmb N RUN
     go_wp2_with (first
      |((with_reducible refine (fld_any fk OK.out.2 FZ.out.2.1).mono ?_);rintro e w3 ⟨rfl,q1,q2,q3,q4,u1,u2,F7,E7⟩;have R7:=hid (FZ.out.1.next (by have:=RR.out.bel.size;omega) (fun ad e=>by cases e;show bp≠_;omega) F7 E7 trivial);have Z7:=hid ((ZZ.out.below (by omega) FZ.out.2.2).ex2 (by omega) E7 (by omega) (by have:=RR.out.pl;omega));have V7:=hid F7;have VR:=hid (show vFl w3 (vBp fk M WV.zero) u1 u2 from ⟨F7.v1.1,F7.v2.1⟩);have x7:w3.cell? ⟨wr.heap.size,0,none⟩=some (.int .i64 (wk:Int)):=((E7.cell 0 (by simp;omega) (by have:=RR.out.pl;omega) (by omega)).trans (by simp));clear F7 E7)
      |((with_reducible refine vIt ?hg (.tmp 7) ?ho (wr.heap.size+1) ?hx (vBp fk M WV.zero) u1 u2 V7.out.val ?_);(case hg=>rfl);(case ho=>rfl);(case hx=>rfl))
      |(go_at_call 35;(with_reducible refine (CM.out u1 u2 _ VR.out).mono ?_);rintro e w5 ⟨rfl,hb5⟩;rw [MB.out];have R8:=hid (R7.out.keep hb5);have Z8:=hid (Z7.out.below (by omega) hb5)))
     go_roundw
     case rel=>exact ⟨k+1,vCx fk M WV.zero,q1,q2,q3,q4,by omega,by go_num,N2.out,R8.out,MM.out.put fk,Z8.out⟩
     case measure=>simp [intOf];omega
    |false=>
     have N2:=hid (show rb=false by rw [←RB.out,rgB_none (by rw [PW.out,RUN.out,N.out,if_neg (by rw [hmb];decide)])]);clear hmb N RUN
     go_wp2_with (first
      |((with_reducible refine (fld_any fk OK.out.2 FZ.out.2.1).mono ?_);rintro e w3 ⟨rfl,q1,q2,q3,q4,u1,u2,F7,E7⟩;have R7:=hid (FZ.out.1.next (by have:=RR.out.bel.size;omega) (fun ad e=>by cases e;show bp≠_;omega) F7 E7 trivial);have V7:=hid F7;have VR:=hid (show vFl w3 (vBp fk M WV.zero) u1 u2 from ⟨F7.v1.1,F7.v2.1⟩);have x7:w3.cell? ⟨wr.heap.size,0,none⟩=some (.int .i64 (wk:Int)):=((E7.cell 0 (by simp;omega) (by have:=RR.out.pl;omega) (by omega)).trans (by simp));clear F7 E7)
      |((with_reducible refine vIt ?hg (.tmp 7) ?ho (wr.heap.size+1) ?hx (vBp fk M WV.zero) u1 u2 V7.out.val ?_);(case hg=>rfl);(case ho=>rfl);(case hx=>rfl))
      |(go_at_call 35;(with_reducible refine (CM.out u1 u2 _ VR.out).mono ?_);rintro e w5 ⟨rfl,hb5⟩;rw [MB.out];have R8:=hid (R7.out.keep hb5)))
     go_ret;exact ⟨by rw [N2.out];rfl,R8.out.bel⟩
  · obtain rfl:k=pn:=by omega
    have RM:=hid (show vCp (pts L.kind true) L=some M by rw [PW.out,RUN.out,List.drop_eq_nil_of_le (by rw [PN.out];exact Nat.le_refl _)];rfl);have RE:=hid (show rb=((decide (0<k) && apB L) && vFm M (LV.new L.row L.kind)) by rw [←RB.out,rgB_some RM.out,PW.out,PN.out]);clear RUN
    by_cases p0:0<k
    rotate_left
    · obtain rfl:k=0:=by omega
      have R0:=hid (show rb=false by rw [RE.out];rfl);go_wp2;go_ret;exact ⟨by rw [R0.out];rfl,RR.out.bel⟩
    · have p1:(0:Int)<(k:Int):=by omega
      have CA:=hid (fun w h=>apart_any L s1 s2 s3 s4 w h);have LR:=hid (show LRead wr L s1 s2 s3 s4 from ⟨H.out.1.below RR.out.bel,H.out.2.1.below RR.out.bel,H.out.2.2.1.below RR.out.bel,H.out.2.2.2.below RR.out.bel⟩);obtain ⟨ap,hap⟩:∃ap,apB L=ap:=⟨_,rfl⟩;have AP:=hid hap;have RE2:=hid (show rb=(ap && vFm M (LV.new L.row L.kind)) by rw [RE.out,hap,decide_eq_true p0,Bool.true_and])
      clear hap
      cases ap with
      |false=>
       go_wp2_with (first
        |((with_reducible refine vAf ?hg (.tmp 1) ?ho w.heap.size ?hx L s1 s2 s3 s4 ZZ.out ?_);(case hg=>rfl);(case ho=>rfl);(case hx=>rfl))
        |(go_at_call 36;(with_reducible refine (CA.out _ LR.out).mono ?_);rintro e w5 ⟨rfl,hb5⟩;rw [AP.out]))
       go_ret;exact ⟨by rw [RE2.out];rfl,RR.out.bel.trans (hb5.mono RR.out.bel.size)⟩
      |true=>
       have CS:=hid (show ∀w,LRead w M r1 r2 r3 r4→Calls Tryz.prog 37 #[vAw M r1 r2 r3 r4,.agg #[.int .i64 L.row,.int .i64 L.kind,.string ⟨#[]⟩,.string ⟨#[]⟩,.string ⟨#[]⟩,.string ⟨#[]⟩,.string ⟨#[]⟩,.int .u64 0,.int .u32 0,.int .i64 0,.int .i64 0,.int .i64 0,.int .i64 0,.slice none 0 0,.slice none 0 0,.slice none 0 0,.slice none 0 0]] w fun e w'=>e=.returned (.bool (vFm M (LV.new L.row L.kind)))∧Below w.heap.size w w' from
        fun w h=>csame_any M (LV.new L.row L.kind) r1 r2 r3 r4 SlV.nil SlV.nil SlV.nil SlV.nil w h ⟨ISl.nil,ISl.nil,ISl.nil,ISl.nil⟩)
       go_wp2_with (first
        |((with_reducible refine vAf ?hg (.tmp 1) ?ho w.heap.size ?hx L s1 s2 s3 s4 ZZ.out ?_);(case hg=>rfl);(case ho=>rfl);(case hx=>rfl))
        |(go_at_call 36;(with_reducible refine (CA.out _ LR.out).mono ?_);rintro e w5 ⟨rfl,hb5⟩;rw [AP.out];have R5:=hid (RR.out.keep hb5);have Z5:=hid (ZZ.out.below (by omega) hb5);have z0:w5.cell? ⟨w.heap.size,0,none⟩=some (.int .i64 L.row):=Z5.out.cell 0 (by omega);have z1:w5.cell? ⟨w.heap.size,1,none⟩=some (.int .i64 L.kind):=Z5.out.cell 1 (by omega))
        |((with_reducible refine vAf ?hg (.tmp 34) ?ho (w.heap.size+1) ?hx M r1 r2 r3 r4 R5.out.box ?_);(case hg=>rfl);(case ho=>rfl);(case hx=>rfl))
        |(go_at_call 37;(with_reducible refine (CS.out _ R5.out.rd).mono ?_);rintro e w6 ⟨rfl,hb6⟩))
       go_ret;exact ⟨by rw [RE2.out];rfl,R5.out.bel.trans (hb6.mono R5.out.bel.size)⟩
theorem cright_m (L:LV) (s1 s2 s3 s4:SlV) (w:World) (h:LRead w L s1 s2 s3 s4) (hL:LvM L):
 Calls Tryz.prog 24 #[vAw L s1 s2 s3 s4] w fun e w'=>e=.returned (.bool (rgB L))∧Below w.heap.size w w':=cright_k L s1 s2 s3 s4 w h (fun f _=>hL.take f)
theorem vDv {s:List UInt8} (h:nmB s=true):s.length≤300:=by
 have:=((vGv s).1 h).2.1
 rw [vBe] at this;omega
theorem ris_len {xs:List Int} {lo hi:Int} (h:vBw xs lo hi=true):xs.length≤16:=by
 unfold vBw at h;rw [Bool.and_eq_true] at h;exact ((vCn xs).1 h.1).2.1
theorem ls_len {hi:Int} {xs:List Int} (h:LsOk hi xs):xs.length≤16:=by
 rcases h with rfl|h
 · simp
 · exact ris_len h
theorem rd_ok {row:Int} {L:LV} (h:RdK row L) (r0: -9223372036854775808≤row) (r1:row≤9223372036854775807):LvOk L:=by
 have e0:([]:List UInt8).length≤300:=by decide
 have e1:([]:List Int).length≤16:=by decide
 rcases h with h|⟨h,_⟩|h|h|h|h|h|h|h
 · obtain ⟨s,a,m,rfl,hs,ha,hm⟩:=h
   exact ⟨⟨vDv hs,e0,e0,e0,e0⟩,⟨e1,e1,e1,e1⟩,⟨⟨r0,r1⟩,(show (0:Int)≤1∧(1:Int)≤18 by decide),⟨hm.1,hm.2.1⟩,(show (0:Int)≤0∧(0:Int)≤4294967295 by decide),(show (0:Int)≤0∧(0:Int)≤32 by decide),(show (0:Int)≤0∧(0:Int)≤4095 by decide),⟨by have:=ha.1;show 0≤a;omega,by have:=ha.2;show a≤_;omega⟩,(show (0:Int)≤0∧(0:Int)≤65535 by decide)⟩⟩
 · obtain ⟨s,p,c,v,t,rfl,hs,hp,hc,hv,ht⟩:=h
   exact ⟨⟨vDv hs,vDv hp,e0,e0,e0⟩,⟨ls_len ht,e1,e1,e1⟩,⟨⟨r0,r1⟩,(show (0:Int)≤2∧(2:Int)≤18 by decide),(show (0:Int)≤0∧(0:Int)<281474976710656 by decide),(show (0:Int)≤0∧(0:Int)≤4294967295 by decide),(show (0:Int)≤0∧(0:Int)≤32 by decide),⟨by have:=hv.1;show 0≤v;omega,by have:=hv.2;show v≤_;omega⟩,(show (0:Int)≤0∧(0:Int)≤16777216 by decide),⟨by have:=hc.1;show 0≤c;omega,by have:=hc.2;show c≤_;omega⟩⟩⟩
 · obtain ⟨s,p,q,r,rfl,hs,hp,hq,hr⟩:=h
   exact ⟨⟨vDv hs,vDv hp,vDv hq,vDv hr,e0⟩,⟨e1,e1,e1,e1⟩,⟨⟨r0,r1⟩,(show (0:Int)≤3∧(3:Int)≤18 by decide),(show (0:Int)≤0∧(0:Int)<281474976710656 by decide),(show (0:Int)≤0∧(0:Int)≤4294967295 by decide),(show (0:Int)≤0∧(0:Int)≤32 by decide),(show (0:Int)≤0∧(0:Int)≤4095 by decide),(show (0:Int)≤0∧(0:Int)≤16777216 by decide),(show (0:Int)≤0∧(0:Int)≤65535 by decide)⟩⟩
 · obtain ⟨s,v,m,p,rfl,hs,hv,hm,hp⟩:=h
   exact ⟨⟨vDv hs,vDv hp,e0,e0,e0⟩,⟨e1,e1,e1,e1⟩,⟨⟨r0,r1⟩,(show (0:Int)≤4∧(4:Int)≤18 by decide),⟨hm.1,hm.2.1⟩,(show (0:Int)≤0∧(0:Int)≤4294967295 by decide),(show (0:Int)≤0∧(0:Int)≤32 by decide),⟨by have:=hv.1;show 0≤v;omega,by have:=hv.2;show v≤_;omega⟩,(show (0:Int)≤0∧(0:Int)≤16777216 by decide),(show (0:Int)≤0∧(0:Int)≤65535 by decide)⟩⟩
 · obtain ⟨s,a,rfl,hs,ha⟩:=h
   exact ⟨⟨vDv hs,e0,e0,e0,e0⟩,⟨e1,e1,e1,e1⟩,⟨⟨r0,r1⟩,(show (0:Int)≤5∧(5:Int)≤18 by decide),(show (0:Int)≤0∧(0:Int)<281474976710656 by decide),⟨by have:=ha.1;show 0≤a;omega,by have:=ha.2;show a≤_;omega⟩,(show (0:Int)≤0∧(0:Int)≤32 by decide),(show (0:Int)≤0∧(0:Int)≤4095 by decide),(show (0:Int)≤0∧(0:Int)≤16777216 by decide),(show (0:Int)≤0∧(0:Int)≤65535 by decide)⟩⟩
 · obtain ⟨s,v,a,rfl,hs,hv,ha⟩:=h
   exact ⟨⟨vDv hs,e0,e0,e0,e0⟩,⟨e1,e1,e1,e1⟩,⟨⟨r0,r1⟩,(show (0:Int)≤6∧(6:Int)≤18 by decide),(show (0:Int)≤0∧(0:Int)<281474976710656 by decide),(show (0:Int)≤0∧(0:Int)≤4294967295 by decide),(show (0:Int)≤0∧(0:Int)≤32 by decide),⟨by have:=hv.1;show 0≤v;omega,by have:=hv.2;show v≤_;omega⟩,⟨by have:=ha.1;show 0≤a;omega,by have:=ha.2;show a≤_;omega⟩,(show (0:Int)≤0∧(0:Int)≤65535 by decide)⟩⟩
 · obtain ⟨s,a,x,rfl,hs,ha,hx⟩:=h
   exact ⟨⟨vDv hs,e0,e0,e0,e0⟩,⟨e1,e1,e1,ris_len hx.1⟩,⟨⟨r0,r1⟩,(show (0:Int)≤7∧(7:Int)≤18 by decide),(show (0:Int)≤0∧(0:Int)<281474976710656 by decide),(show (0:Int)≤0∧(0:Int)≤4294967295 by decide),(show (0:Int)≤0∧(0:Int)≤32 by decide),(show (0:Int)≤0∧(0:Int)≤4095 by decide),⟨by have:=ha.1;show 0≤a;omega,by have:=ha.2;show a≤_;omega⟩,(show (0:Int)≤0∧(0:Int)≤65535 by decide)⟩⟩
 · obtain ⟨s,n,x,y,rfl,hs,hn,hx,hy⟩:=h
   exact ⟨⟨vDv hs,e0,e0,e0,vDv hn⟩,⟨e1,ls_len hx,ls_len hy,e1⟩,⟨⟨r0,r1⟩,(show (0:Int)≤8∧(8:Int)≤18 by decide),(show (0:Int)≤0∧(0:Int)<281474976710656 by decide),(show (0:Int)≤0∧(0:Int)≤4294967295 by decide),(show (0:Int)≤0∧(0:Int)≤32 by decide),(show (0:Int)≤0∧(0:Int)≤4095 by decide),(show (0:Int)≤0∧(0:Int)≤16777216 by decide),(show (0:Int)≤0∧(0:Int)≤65535 by decide)⟩⟩
 · obtain ⟨s,v,n,a,b,rfl,hs,hv,hn,hab⟩:=h
   exact ⟨⟨vDv hs,e0,e0,e0,vDv hn⟩,⟨e1,e1,e1,e1⟩,⟨⟨r0,r1⟩,(show (0:Int)≤9∧(9:Int)≤18 by decide),(show (0:Int)≤0∧(0:Int)<281474976710656 by decide),⟨hab.2.1.1,hab.2.1.2⟩,⟨hab.2.2.1,hab.2.2.2⟩,⟨by have:=hv.1;show 0≤v;omega,by have:=hv.2;show v≤_;omega⟩,(show (0:Int)≤0∧(0:Int)≤16777216 by decide),(show (0:Int)≤0∧(0:Int)≤65535 by decide)⟩⟩
end Go.Proofs.YtgnkpbgaoiaefaaGreat
namespace Go.Proofs.YtgnkpbgaoiaefaaGreat.Mac
open Go.Lib (hid)
open Go.RowKit
theorem val_text (m:Int) (h0:0≤m) (h1:m<281474976710656):val (strOf (textPre m 6)) 6=m:=by
 have hd:=fun k:Nat=>dg_hx (byt m k / 16) (by have:=vFj m k;omega) (by have:=vFt m k;omega)
 have hm:=fun k:Nat=>dg_hx (byt m k % 16) (by have:=vFj m k;omega) (by have:=vFt m k;omega)
 have get:=fun i (hi:i<17)=>sb_strOf (textPre m 6) i (textPre_bd m) (by rw [textPre_17];exact hi)
 rw [val_six,get 0 (by omega),get 1 (by omega),get 3 (by omega),get 4 (by omega),get 6 (by omega),get 7 (by omega),get 9 (by omega),get 10 (by omega),get 12 (by omega),get 13 (by omega),get 15 (by omega),get 16 (by omega),vEf];simp only [List.getD_cons_zero,List.getD_cons_succ,hd,hm];unfold byt;simp only [Nat.reduceSub,Int.reducePow];omega
end Go.Proofs.YtgnkpbgaoiaefaaGreat.Mac
namespace Go.Proofs.YtgnkpbgaoiaefaaGreat
open Go.Lib (hid)
open Go.RowKit
open Go.Lib (itoa)
theorem wm_len (m:Int):(wmS m).length=17:=by unfold wmS;rw [List.length_map,Mac.textPre_17]
theorem wm_back {m:Int} (h0:0≤m) (h1:m<281474976710656):mcB (wmS m)=true∧mcV (wmS m)=m:=by
 have hb:mcB (wmS m)=true:=Mac.rdB_text m;refine ⟨hb,?_⟩;have e:mcV (wmS m)=Mac.rdV (Mac.strOf (Mac.textPre m 6)):=rfl;rw [e,Mac.rdV,if_pos (Mac.rdB_text m),Mac.val_text m h0 h1]
theorem vIa {n lo hi:Int} (h0:lo≤n) (h1:n≤hi) (hs:n.natAbs<10000000000):nB (wnS n) lo hi=true∧nV (wnS n) lo hi=n:=nB_of (by have:=nF_back n lo hi hs;rw [if_pos ⟨h0,h1⟩] at this;exact this)
theorem wE_num {c:UInt8} {n lo hi:Int} (e:wdE c (wnS n)=if nB (wnS n) lo hi=true then 0 else 21) (h0:lo≤n) (h1:n≤hi) (hs:n.natAbs<10000000000):wdE c (wnS n)=0:=by rw [e,if_pos (vIa h0 h1 hs).1]
theorem wE_Ms (s:List UInt8) (a:mcB s=true) (b:stB (mcV s)=true):wdE 77 s=0:=vGs (c:=77) (b:=mcB s && stB (mcV s)) rfl (by rw [a,b];rfl)
theorem wE_M {m:Int} (h:McOk m):wdE 77 (wmS m)=0:=by
 have b:=wm_back h.1 h.2.1;exact wE_Ms _ b.1 (by rw [b.2];exact h.2.2)
theorem wl_back {hi:Int} {xs:List Int} (hh:hi≤65535) (h:vBw xs 1 hi=true):lsDB (jn wnS xs) hi=true∧lsD (jn wnS xs) hi=xs:=by
 unfold vBw at h;rw [Bool.and_eq_true] at h
 have hx:rlF (rdI 1 hi) (jn wnS xs)=some xs:=rlF_back itoa_no44 (fun x hx=>by
  have h2:=List.all_eq_true.1 h.2 x hx;simp only [Bool.and_eq_true,decide_eq_true_eq] at h2
  have:=nF_back x 1 hi (by omega)
  rw [if_pos h2] at this
  exact this) h.1
 have hne:jn wnS xs≠vGm:=fun e=>by
  rw [e] at hx
  have:rlF (rdI 1 hi) vGm=none:=vHm rfl
  rw [this] at hx
  cases hx
 unfold lsDB lsD;rw [if_neg hne,if_neg hne]
 have:=ls_yes hx
 exact ⟨this.2,this.1⟩
theorem fm_dev {ws:List (List UInt8)} (p:wat ws 0=vEe) (h0:ws≠[]):fmV ws=[78,80,77]:=by
 have k:kdV (wat ws 0)=1:=by rw [p];decide +kernel
 unfold fmV;rw [if_neg h0,if_pos k]
theorem back1 (row:Int) (L:LV) (h:Kd1 row L):rdE (wrW L) row=0∧rdL (wrW L) row=L:=by
 obtain ⟨s,a,m,rfl,hs,ha,hm⟩:=h;have e:wrW {LV.new row 1 with dev:=s,num:=a,mac:=m}=[vEe,s,wnS a,wmS m]:=rfl;rw [e]
 have hr:vCi [78,80,77] ([vEe,s,wnS a,wmS m].drop 1) 0 (LV.new row 1)=(0,{LV.new row 1 with dev:=s,num:=a,mac:=m}):=by
  show vCi [78,80,77] [s,wnS a,wmS m] 0 (LV.new row 1)=_
  rw [vCw (wdE_N hs),vCw (wE_num (c:=80) (lo:=0) (hi:=65535) rfl ha.1 ha.2 (by omega)),vCw (wE_M hm)]
  show ((0:Int),({LV.new row 1 with dev:=s,num:=nV (wnS a) 0 65535,mac:=mcV (wmS m)}:LV))=_
  rw [(vIa ha.1 ha.2 (by omega)).2,(wm_back hm.1 hm.2.1).2]
 obtain ⟨h1,h2⟩:=rd_of (ws:=[vEe,s,wnS a,wmS m]) (row:=row) (fm_dev rfl (by simp)) (by simp) rfl (show kdV (wat [vEe,s,wnS a,wmS m] 0)=1 from (by decide +kernel:kdV vEe=1)) hr
 have e0:rdE [vEe,s,wnS a,wmS m] row=0:=by rw [h1];rfl
 exact ⟨e0,by rw [h2,if_pos e0]⟩
theorem back2 (row:Int) (L:LV) (h:Kd2 row L) (hb:mbB L=true):rdE (wrW L) row=0∧rdL (wrW L) row=L:=by
 obtain ⟨s,p,c,v,t,rfl,hs,hp,hc,hv,ht⟩:=h
 have kp:kdV vBf=2:=by decide +kernel
 by_cases h0:t=[]
 · subst h0
   have hv1:1≤v:=by
    unfold mbB at hb;simp at hb;omega
   have e:wrW {LV.new row 2 with dev:=s,port:=p,cost:=c,vlan:=v}=[vBf,s,p,wnS c,vAo,wnS v]:=rfl;rw [show ({LV.new row 2 with dev:=s,port:=p,cost:=c,vlan:=v,tagged:=[]}:LV)={LV.new row 2 with dev:=s,port:=p,cost:=c,vlan:=v} from rfl] at hb ⊢;rw [e]
   have hr:vCi [78,78,67,75,86] ([vBf,s,p,wnS c,vAo,wnS v].drop 1) 0 (LV.new row 2)=(0,{LV.new row 2 with dev:=s,port:=p,cost:=c,vlan:=v}):=by
    show vCi [78,78,67,75,86] [s,p,wnS c,vAo,wnS v] 0 (LV.new row 2)=_
    rw [vCw (wdE_N hs),vCw (wdE_N hp),vCw (wE_num (c:=67) (lo:=1) (hi:=65535) rfl hc.1 hc.2 (by omega)),vCw (wdE_K (s:=vAo) (.inl rfl)),vCw (wE_num (c:=86) (lo:=1) (hi:=4094) rfl hv1 hv.2 (by omega))]
    show ((0:Int),({LV.new row 2 with dev:=s,port:=p,cost:=nV (wnS c) 1 65535,vlan:=nV (wnS v) 1 4094}:LV))=_
    rw [(vIa hc.1 hc.2 (by omega)).2,(vIa hv1 hv.2 (by omega)).2]
   obtain ⟨h1,h2⟩:=rd_of (ws:=[vBf,s,p,wnS c,vAo,wnS v]) (row:=row) (fm_port6 rfl rfl (show ¬vAo=vAu by decide)) (by simp) rfl (show kdV (wat [vBf,s,p,wnS c,vAo,wnS v] 0)=2 from kp) hr
   have e0:rdE [vBf,s,p,wnS c,vAo,wnS v] row=0:=by
    rw [h1,if_pos rfl,if_neg];intro g;rw [hb] at g
    cases g.2
   exact ⟨e0,by rw [h2,if_pos e0]⟩
 · have ht2:vBw t 1 4094=true:=by
    rcases ht with e|e
    · exact absurd e h0
    · exact e
   have tb:=wl_back (hi:=4094) (by decide) ht2
   have e:wrW {LV.new row 2 with dev:=s,port:=p,cost:=c,vlan:=v,tagged:=t}=[vBf,s,p,wnS c,vAu,if v=0 then vGm else wnS v,jn wnS t]:=by
    have:wrW {LV.new row 2 with dev:=s,port:=p,cost:=c,vlan:=v,tagged:=t}=if t=[] then [vBf,s,p,wnS c,vAo,wnS v] else [vBf,s,p,wnS c,vAu,if v=0 then vGm else wnS v,jn wnS t]:=rfl
    rw [this,if_neg h0]
   rw [e];obtain ⟨V,hV⟩:∃V,(if v=0 then vGm else wnS v)=V:=⟨_,rfl⟩
   have hw:wdE 87 V=0∧nV V 1 4094=v:=by
    rw [←hV]
    by_cases v0:v=0
    · rw [if_pos v0]
      exact ⟨by rw [vGs (c:=87) (s:=vGm) (b:=nB vGm 1 4094 || decide (vGm=vGm)) rfl (by rw [decide_eq_true rfl,Bool.or_true])],by rw [nV_no (nB_dash 1 4094),v0]⟩
    · rw [if_neg v0]
      have b:=vIa (n:=v) (lo:=1) (hi:=4094) (by omega) hv.2 (by omega);exact ⟨vGs (c:=87) (s:=wnS v) (b:=nB (wnS v) 1 4094 || decide (wnS v=vGm)) rfl (by rw [b.1];rfl),b.2⟩
   rw [hV]
   have hr:vCi [78,78,67,75,87,84] ([vBf,s,p,wnS c,vAu,V,jn wnS t].drop 1) 0 (LV.new row 2)=(0,{LV.new row 2 with dev:=s,port:=p,cost:=c,vlan:=v,tagged:=t}):=by
    show vCi [78,78,67,75,87,84] [s,p,wnS c,vAu,V,jn wnS t] 0 (LV.new row 2)=_
    rw [vCw (wdE_N hs),vCw (wdE_N hp),vCw (wE_num (c:=67) (lo:=1) (hi:=65535) rfl hc.1 hc.2 (by omega)),vCw (wdE_K (s:=vAu) (.inr rfl)),vCw hw.1,vCw (vGs (c:=84) (b:=lsDB (jn wnS t) 4094) rfl tb.1)]
    show ((0:Int),({LV.new row 2 with dev:=s,port:=p,cost:=nV (wnS c) 1 65535,vlan:=nV V 1 4094,tagged:=lsD (jn wnS t) 4094}:LV))=_
    rw [(vIa hc.1 hc.2 (by omega)).2,hw.2,tb.2]
   obtain ⟨h1,h2⟩:=rd_of (ws:=[vBf,s,p,wnS c,vAu,V,jn wnS t]) (row:=row) (fm_port7 rfl rfl (show ¬vAu=vAo by decide)) (by simp) rfl (show kdV (wat [vBf,s,p,wnS c,vAu,V,jn wnS t] 0)=2 from kp) hr
   have e0:rdE [vBf,s,p,wnS c,vAu,V,jn wnS t] row=0:=by
    rw [h1,if_pos rfl,if_neg];intro g;rw [hb] at g
    cases g.2
   exact ⟨e0,by rw [h2,if_pos e0]⟩
theorem may0_of {s:List UInt8} (h:vCs 0 {WV.zero with text:=s}=true):nmB s=true:=by rw [vBi rfl] at h;exact h
theorem may_num_of {w:Nat} {lo hi x:Int} (ho:optB w=false) (hw:mayW w {WV.zero with n:=x}=(decide (lo≤x) && decide (x≤hi))) (h:vCs w {WV.zero with n:=x}=true):lo≤x∧x≤hi:=by
 rw [vBi ho,hw,Bool.and_eq_true,decide_eq_true_eq,decide_eq_true_eq] at h;exact h
theorem may5_of {x:Int} (h:vCs 5 {WV.zero with n:=x}=true):0≤x∧x≤4094:=by
 by_cases e:x=0
 · omega
 · rw [may_w (V:={WV.zero with n:=x}) (fun g=>e g.1)] at h
   have h2:(decide ((1:Int)≤x) && decide (x≤4094))=true:=h;rw [Bool.and_eq_true,decide_eq_true_eq,decide_eq_true_eq] at h2;omega
theorem may7_of {m:Int} (h:vCs 7 {WV.zero with mac:=m}=true) (h0:0≤m):McOk m:=by
 rw [vBi rfl] at h;have h2:loneB m=true:=h;unfold loneB at h2;rw [Bool.and_eq_true,decide_eq_true_eq] at h2;exact ⟨h0,by omega,by unfold stB;rw [Bool.and_comm];exact h2.2⟩
theorem may10_of {xs:List Int} (h:vCs 10 {WV.zero with list:=xs}=true):LsOk 4094 xs:=by
 by_cases e:xs=[]
 · exact .inl e
 · rw [may_w (V:={WV.zero with list:=xs}) (fun g=>e g.2)] at h
   exact .inr h
theorem rg_of {w f:Nat} {ps:List (Nat×Nat)} {L M:LV} (h:vCp ((w,f) :: ps) L=some M):vCs w (vBp f L WV.zero)=true∧vCp ps (vCx f L WV.zero)=some M:=by
 rw [vCp] at h
 by_cases g:vCs w (vBp f L WV.zero)=true
 · rw [if_pos g] at h;exact ⟨g,h⟩
 · rw [if_neg g] at h;cases h
theorem rg_ap {L:LV} (h:rgB L=true):apB L=true:=by
 cases hr:vCp (pts L.kind true) L with
 |none=>rw [rgB_none hr] at h;cases h
 |some M=>
  rw [rgB_some hr,Bool.and_eq_true,Bool.and_eq_true] at h;exact h.1.2
theorem rg_kd1 {L:LV} (h:rgB L=true) (k:L.kind=1) (m0:0≤L.mac):Kd1 L.row L:=by
 have hp:pts L.kind true=[(0,0),(2,6),(7,9)]:=by rw [k];rfl
 have h1:=(rgB_yes h).2;rw [hp] at h1;obtain ⟨a1,h1⟩:=rg_of h1;obtain ⟨a2,h1⟩:=rg_of h1;obtain ⟨a3,h1⟩:=rg_of h1;obtain ⟨f0,f1,f2,f3,f4,f5,f6,f7,f8,f9,f10,f11,f12,f13,f14,f15,f16⟩:=L;dsimp only at k m0;subst k
 have h2:({(⟨f0,1,f2,f3,f4,f5,f6,f7,f8,f9,f10,f11,f12,f13,f14,f15,f16⟩:LV) with dev:=[],num:=0,mac:=0}:LV)=LV.new f0 1:=by injection h1
 simp only [LV.new,LV.mk.injEq] at h2;obtain ⟨_,_,_,rfl,rfl,rfl,rfl,_,rfl,rfl,rfl,_,rfl,rfl,rfl,rfl,rfl⟩:=h2;exact ⟨f2,f11,f7,rfl,may0_of a1,may_num_of (w:=2) (lo:=0) (hi:=65535) rfl rfl a2,may7_of a3 m0⟩
theorem rg_kd2 {L:LV} (h:rgB L=true) (k:L.kind=2):Kd2 L.row L∧mbB L=true:=by
 have ha:=rg_ap h
 have hp:pts L.kind true=[(0,0),(0,1),(3,8),(1,5),(5,7),(10,12)]:=by rw [k];rfl
 have h1:=(rgB_yes h).2;rw [hp] at h1;obtain ⟨a1,h1⟩:=rg_of h1;obtain ⟨a2,h1⟩:=rg_of h1;obtain ⟨a3,h1⟩:=rg_of h1;obtain ⟨_,h1⟩:=rg_of h1;obtain ⟨a5,h1⟩:=rg_of h1;obtain ⟨a6,h1⟩:=rg_of h1;obtain ⟨f0,f1,f2,f3,f4,f5,f6,f7,f8,f9,f10,f11,f12,f13,f14,f15,f16⟩:=L;dsimp only at k;subst k
 have h2:({(⟨f0,2,f2,f3,f4,f5,f6,f7,f8,f9,f10,f11,f12,f13,f14,f15,f16⟩:LV) with dev:=[],port:=[],cost:=0,vlan:=0,tagged:=[]}:LV)=LV.new f0 2:=by injection h1
 simp only [LV.new,LV.mk.injEq] at h2;obtain ⟨_,_,_,_,rfl,rfl,rfl,rfl,rfl,rfl,_,rfl,_,_,rfl,rfl,rfl⟩:=h2;have hv:0≤f10∧f10≤4094:=may5_of a5;have kd:Kd2 f0 ⟨f0,2,f2,f3,[],[],[],0,0,0,f10,0,f12,f13,[],[],[]⟩:=⟨f2,f3,f12,f10,f13,rfl,may0_of a1,may0_of a2,may_num_of (w:=3) (lo:=1) (hi:=65535) rfl rfl a3,hv,may10_of a6⟩;refine ⟨kd,?_⟩;have ha2:((decide (f10≠0) || decide (0<f13.length)) && !(f13.any (fun x=>decide (x=f10))))=true:=ha
 rw [Bool.and_eq_true,Bool.or_eq_true,decide_eq_true_eq,decide_eq_true_eq,Bool.not_eq_true',List.any_eq_false] at ha2
 show (f13.all (fun x=>!decide (x=f10)) && (decide (0<f10) || decide (0<f13.length)))=true
 rw [Bool.and_eq_true,Bool.or_eq_true,decide_eq_true_eq,decide_eq_true_eq,List.all_eq_true];refine ⟨fun x hx=>?_,?_⟩
 · have:=ha2.2 x hx
   simpa using this
 · rcases ha2.1 with g|g
   · exact .inl (by omega)
   · exact .inr g
noncomputable def rrB (L:LV):Bool:=(decide (L.tagged.length≤16) && (decide (L.imports.length≤16) && (decide (L.exports.length≤16) && decide (L.addrs.length≤16)))) && (decide (rdE (wrW L) L.row=0) && vFm L (rdL (wrW L) L.row))
theorem rr_eq (L:LV) (h:L.kind=1∨L.kind=2) (m0:0≤L.mac) (r0: -9223372036854775808≤L.row) (r1:L.row≤9223372036854775807):rrB L=rgB L:=by
 rw [Bool.eq_iff_iff]
 constructor
 · intro g
   unfold rrB at g;rw [Bool.and_eq_true] at g;have g2:=g.2;rw [Bool.and_eq_true,decide_eq_true_eq,vFv] at g2;have k:=rd_cases _ _ g2.1;rw [←g2.2] at k;exact rgB_read _ _ k
 · intro g
   have kb:RdK L.row L∧rdE (wrW L) L.row=0∧rdL (wrW L) L.row=L:=by
    rcases h with h|h
    · have k:=rg_kd1 g h m0
      exact ⟨.inl k,back1 _ _ k⟩
    · have k:=rg_kd2 g h
      exact ⟨.inr (.inl k),back2 _ _ k.1 k.2⟩
   have ok:=(rd_ok kb.1 r0 r1).lst;unfold rrB;rw [decide_eq_true ok.1,decide_eq_true ok.2.1,decide_eq_true ok.2.2.1,decide_eq_true ok.2.2.2,decide_eq_true kb.2.1,kb.2.2,vGe]
   rfl
end Go.Proofs.YtgnkpbgaoiaefaaGreat
