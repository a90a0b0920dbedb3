import Derived.Test.YtnpembgchmmbjaaGreatLb32
import Derived.Test.YtnpembgchmmbjaaGreatLb33
import Derived.Test.YtnpembgchmmbjaaGreatLb28
import Derived.Test.YtnpembgchmmbjaaGreatLb13
import Derived.Test.YtnpembgchmmbjaaGreatLb07
import Derived.Test.YtnpembgchmmbjaaGreatLb30
import Derived.Test.YtnpembgchmmbjaaGreatLb20
import Derived.Test.YtnpembgchmmbjaaGreatLb12
import Derived.WalkMore
import Derived.RegionTactic
set_option maxRecDepth 100000
set_option maxHeartbeats 40000000
namespace Go.Proofs.YtnpembgchmmbjaaGreat
open Go.RowKit
structure LvM (L:LV):Prop where
 sz:LvSz L
 mac:0≤L.mac∧L.mac<18446744073709551616
 addr:0≤L.addr∧L.addr<4294967296
theorem LvM.take {L:LV} (h:LvM L) (f:Nat):VOk (vBm f L WV.zero):=by
 have t:=h.sz.txt;have l:=h.sz.lst
 match f with
 |0=>exact ⟨t.1,vGc,vGm,vFd⟩
 |1=>exact ⟨t.2.1,vGc,vGm,vFd⟩
 |2=>exact ⟨t.2.2.1,vGc,vGm,vFd⟩
 |3=>exact ⟨t.2.2.2.1,vGc,vGm,vFd⟩
 |4=>exact ⟨t.2.2.2.2,vGc,vGm,vFd⟩
 |5=>exact ⟨show ([116,114,117,110,107]:List UInt8).length≤1000000 by decide,vGc,vGm,vFd⟩
 |6|7|8=>exact ⟨vo_t,vGc,vGm,vFd⟩
 |9=>exact ⟨vo_t,h.mac,vGm,vFd⟩
 |10=>exact ⟨vo_t,vGc,h.addr,vFd⟩
 |11=>exact ⟨vo_t,vGc,h.addr,vFd⟩
 |12=>exact ⟨vo_t,vGc,vGm,⟨l.1,vFd.2⟩⟩
 |13=>exact ⟨vo_t,vGc,vGm,⟨l.2.1,vFd.2⟩⟩
 |14=>exact ⟨vo_t,vGc,vGm,⟨l.2.2.1,vFd.2⟩⟩
 |15=>exact ⟨vo_t,vGc,vGm,⟨vFd.1,l.2.2.2⟩⟩
 |f+16=>exact vok_zero
theorem rgRun_at {ps:List (Nat×Nat)} {k:Nat} {L:LV} (h:k<ps.length):
 vCr (ps.drop k) L=if vCt (ps.getD k (0,0)).1 (vBm (ps.getD k (0,0)).2 L WV.zero)=true then vCr (ps.drop (k+1)) (vCp (ps.getD k (0,0)).2 L WV.zero) else none:=by
 have e1:ps.drop k=ps.getD k (0,0) :: ps.drop (k+1):=by rw [List.drop_eq_getElem_cons h];simp [List.getD,List.getElem?_eq_getElem h]
 rw [e1];obtain ⟨w,f⟩:=ps.getD k (0,0);rw [vCr]
theorem vIk {ops:Array Oper} {rest:List Oper} {op:Oper} {a:Act} {w:World} {Q:Exit→Act→World→Prop} (hgd:op.guard=none) (x:Operand) (ho:op.op=.load 131 x)
 (p:Nat) (hx:a.eval x=.pointer (some ⟨p,0,none⟩)) (V:WV) (t1 t2:SlV) (hb:BoxF w p 6 (vc V t1 t2)) (h:wpList Tryz.prog ops Q rest (a.put op.dst (vHh V t1 t2)) w):wpList Tryz.prog ops Q (op :: rest) a w:=by
 obtain ⟨d,hd1,hd2⟩:=val_desc;exact wpList_load_mid hgd 131 x ho p 0 hx (valC V t1 t2) d hb.rangeV hd1 hd2 val_size h
theorem RdZ.fvZ {Z:LV→Prop} {w wr:World} {p:Nat} {ps:List (Nat×Nat)} {A:Option Addr} {n c:Nat} {L:LV} {s1 s2 s3 s4:SlV} (h:RdZ Z w p ps A n c L s1 s2 s3 s4 wr) (o:Obj) (T:TypeId):
 RdZ Z w p ps A n c L s1 s2 s3 s4 ((wr.alloc o).alloc (.cells #[.string ⟨#[]⟩,.int .i64 0,.int .u64 0,.int .u32 0,.slice none 0 0,.slice none 0 0] T))∧
 FV ((wr.alloc o).alloc (.cells #[.string ⟨#[]⟩,.int .i64 0,.int .u64 0,.int .u32 0,.slice none 0 0,.slice none 0 0] T)) p (wr.heap.size+1) L s1 s2 s3 s4 WV.zero SlV.nil SlV.nil∧Below wr.heap.size wr ((wr.alloc o).alloc (.cells #[.string ⟨#[]⟩,.int .i64 0,.int .u64 0,.int .u32 0,.slice none 0 0,.slice none 0 0] T)):=by
 have B:=vAi wr o (.cells #[.string ⟨#[]⟩,.int .i64 0,.int .u64 0,.int .u32 0,.slice none 0 0,.slice none 0 0] T);have R6:=h.keep B;have hlt:p<wr.heap.size:=h.pl;have vb:=(SV.start (wr.alloc o) T).box;rw [rd_sz] at vb
 have off:∀(k:IntKind) (s:SlV) (xs:List Int),ISl wr k s.A s.n s.c xs→OffP (wr.heap.size+1) s:=fun k s xs hi ad e e2=>by have:=lt_isl hi ad e e2;omega
 exact ⟨R6,R6.fv (by omega) vb ⟨ISl.nil,ISl.nil⟩ (off _ _ _ h.rd.1) (off _ _ _ h.rd.2.1) (off _ _ _ h.rd.2.2.1) (off _ _ _ h.rd.2.2.2) (fun ad e=>by cases e) (fun ad e=>by cases e),B⟩
def LvF (ps:List (Nat×Nat)) (L:LV):Prop:=∀f,f∈ps.map (·.2)→VOk (vBm f L WV.zero)
def LvK (L:LV):Prop:=LvF (pts L.kind true) L
theorem fput_cases (f:Nat) (L:LV):((vCp f L WV.zero).dev=L.dev∨(vCp f L WV.zero).dev=[])∧((vCp f L WV.zero).port=L.port∨(vCp f L WV.zero).port=[])∧((vCp f L WV.zero).peer=L.peer∨(vCp f L WV.zero).peer=[])∧((vCp f L WV.zero).far=L.far∨(vCp f L WV.zero).far=[])∧((vCp f L WV.zero).name=L.name∨(vCp f L WV.zero).name=[])∧((vCp f L WV.zero).mac=L.mac∨(vCp f L WV.zero).mac=0)∧((vCp f L WV.zero).addr=L.addr∨(vCp f L WV.zero).addr=0)∧((vCp f L WV.zero).tagged=L.tagged∨(vCp f L WV.zero).tagged=[])∧((vCp f L WV.zero).imports=L.imports∨(vCp f L WV.zero).imports=[])∧((vCp f L WV.zero).exports=L.exports∨(vCp f L WV.zero).exports=[])∧((vCp f L WV.zero).addrs=L.addrs∨(vCp f L WV.zero).addrs=[]):=by
 match f with
 |0|1|2|3|4|5|6|7|8|9|10|11|12|13|14|15=>simp [vCp,WV.zero]
 |f+16=>simp [vCp]
theorem vok_put {g:Nat} {L:LV} (f:Nat) (h:VOk (vBm g L WV.zero)):VOk (vBm g (vCp f L WV.zero) WV.zero):=by
 obtain ⟨c0,c1,c2,c3,c4,c5,c6,c7,c8,c9,c10⟩:=fput_cases f L;have ht:=h.txt;have hm:=h.mac;have ha:=h.addr;have hl:=h.lst
 match g with
 |0=>exact ⟨by rcases c0 with e|e<;>rw [show (vBm 0 (vCp f L WV.zero) WV.zero).text=_ from e]<;>first|exact ht|exact vo_t,vGc,vGm,vFd⟩
 |1=>exact ⟨by rcases c1 with e|e<;>rw [show (vBm 1 (vCp f L WV.zero) WV.zero).text=_ from e]<;>first|exact ht|exact vo_t,vGc,vGm,vFd⟩
 |2=>exact ⟨by rcases c2 with e|e<;>rw [show (vBm 2 (vCp f L WV.zero) WV.zero).text=_ from e]<;>first|exact ht|exact vo_t,vGc,vGm,vFd⟩
 |3=>exact ⟨by rcases c3 with e|e<;>rw [show (vBm 3 (vCp f L WV.zero) WV.zero).text=_ from e]<;>first|exact ht|exact vo_t,vGc,vGm,vFd⟩
 |4=>exact ⟨by rcases c4 with e|e<;>rw [show (vBm 4 (vCp f L WV.zero) WV.zero).text=_ from e]<;>first|exact ht|exact vo_t,vGc,vGm,vFd⟩
 |5=>exact ⟨ht,vGc,vGm,vFd⟩
 |6|7|8=>exact ⟨vo_t,vGc,vGm,vFd⟩
 |9=>exact ⟨vo_t,by rcases c5 with e|e<;>rw [show (vBm 9 (vCp f L WV.zero) WV.zero).mac=_ from e]<;>first|exact hm|exact vGc,vGm,vFd⟩
 |10=>exact ⟨vo_t,vGc,by rcases c6 with e|e<;>rw [show (vBm 10 (vCp f L WV.zero) WV.zero).addr=_ from e]<;>first|exact ha|exact vGm,vFd⟩
 |11=>exact ⟨vo_t,vGc,by rcases c6 with e|e<;>rw [show (vBm 11 (vCp f L WV.zero) WV.zero).addr=_ from e]<;>first|exact ha|exact vGm,vFd⟩
 |12=>exact ⟨vo_t,vGc,vGm,by rcases c7 with e|e<;>rw [show (vBm 12 (vCp f L WV.zero) WV.zero).list=_ from e]<;>first|exact ⟨hl.1,vFd.2⟩|exact vFd⟩
 |13=>exact ⟨vo_t,vGc,vGm,by rcases c8 with e|e<;>rw [show (vBm 13 (vCp f L WV.zero) WV.zero).list=_ from e]<;>first|exact ⟨hl.1,vFd.2⟩|exact vFd⟩
 |14=>exact ⟨vo_t,vGc,vGm,by rcases c9 with e|e<;>rw [show (vBm 14 (vCp f L WV.zero) WV.zero).list=_ from e]<;>first|exact ⟨hl.1,vFd.2⟩|exact vFd⟩
 |15=>exact ⟨vo_t,vGc,vGm,by rcases c10 with e|e<;>rw [show (vBm 15 (vCp f L WV.zero) WV.zero).addrs=_ from e]<;>first|exact ⟨vFd.1,hl.2⟩|exact vFd⟩
 |g+16=>exact vok_zero
theorem LvF.put {ps:List (Nat×Nat)} {L:LV} (h:LvF ps L) (f:Nat):LvF ps (vCp f L WV.zero):=fun g hg=>vok_put f (h g hg)
theorem LvF.take {ps:List (Nat×Nat)} {L:LV} (h:LvF ps L) {k:Nat} (hk:k<ps.length) {x:Nat×Nat} (e:ps.getD k (0,0)=x):VOk (vBm x.2 L WV.zero):=h _ (List.mem_map.2 ⟨x,by rw [←e];simp [List.getD,hk],rfl⟩)
theorem rt_start {w wa w9 w1:World} {L:LV} {s1 s2 s3 s4:SlV} {ps:List (Nat×Nat)} {A:Option Addr} {n c:Nat} (hL:LRead w L s1 s2 s3 s4) (hw:Below w.heap.size w wa) (hx:BoxF w9 (w.heap.size+1) 17 (lc L s1 s2 s3 s4)) (h9:Below (w.heap.size+1) wa w9) (hl:w.heap.size+1<w9.heap.size)
 (hb1:Below w9.heap.size w9 w1) (hps:PSl w1 (w.heap.size+1) A n c ps) (hpa:∀ad,A=some ad→w9.heap.size≤ad.block):RdZ (fun _=>True) w (w.heap.size+1) ps A n c L s1 s2 s3 s4 w1:=by
 have B:Below w.heap.size w w1:=(hw.trans (h9.mono (by omega))).trans (hb1.mono (by omega))
 have off:∀(k:IntKind) (s:SlV) (xs:List Int),ISl w k s.A s.n s.c xs→OffP (w.heap.size+1) s:=fun k s xs hi ad e e2=>by have:=lt_isl hi ad e e2;omega
 exact ⟨by omega,by have:=hb1.size;omega,hx.below (by omega) hb1,⟨hL.1.below B,hL.2.1.below B,hL.2.2.1.below B,hL.2.2.2.below B⟩,off _ _ _ hL.1,off _ _ _ hL.2.1,off _ _ _ hL.2.2.1,off _ _ _ hL.2.2.2,hps,fun ad e=>by have:=hpa ad e;omega,B,trivial⟩
theorem cright_k (L:LV) (s1 s2 s3 s4:SlV) (w:World) (h:LRead w L s1 s2 s3 s4) (hL:LvK L):
 Calls Tryz.prog 20 #[vBl L s1 s2 s3 s4] w fun e w'=>e=.returned (.bool (rgB L))∧Below w.heap.size w w':=by
 have H:=Lib.hid h;have LM:=Lib.hid (show LvF (pts L.kind true) L from hL);have P0:=Lib.hid (fun T=>vFu w L s1 s2 s3 s4 T);have OKP:=Lib.hid (pts_ok L.kind true);obtain ⟨rb,hrb⟩:∃rb,rgB L=rb:=⟨_,rfl⟩;have RB:=Lib.hid hrb;rw [hrb];clear h hL hrb;rw [show vBl L s1 s2 s3 s4=.agg #[.int .i64 L.row,.int .i64 L.kind,.string (str L.dev),.string (str L.port),.string (str L.peer),.string (str L.far),.string (str L.name),.int .u64 L.mac,.int .u32 L.addr,.int .i64 L.bits,.int .i64 L.vlan,.int .i64 L.num,.int .i64 L.cost,.slice s1.A s1.n s1.c,.slice s2.A s2.n s2.c,.slice s3.A s3.n s3.c,.slice s4.A s4.n s4.c] from rfl]
 go_enter Tryz.func20,Tryz.ntmps20
 go_wp2_with (first
  |((with_reducible refine vAk ?hg (.tmp 1) ?ho w.heap.size ?hx L s1 s2 s3 s4 (P0.out _) ?_);(case hg=>rfl);(case ho=>rfl);(case hx=>rfl);simp only [vBl])
  |((with_reducible refine vIm ?hg1 ?ho1 ?hg2 (.tmp 3) (.tmp 9) ?ho2 ?hx L s1 s2 s3 s4 ?hy ?_);(case hg1=>rfl);(case ho1=>rfl);(case hg2=>rfl);(case ho2=>rfl);(case hx=>rfl);(case hy=>rfl);intro w9 bx9 bl9 lt9;rw [rd_sz] at bx9 bl9 lt9)
  |(go_at_call 70;(with_reducible refine (parts_any L.kind _ _ _ (bx9.cell 1 (by omega))).mono ?_);rintro e w1 ⟨PA,pn,pc,rfl,hps,hb1,hpa⟩))
 have R1:=Lib.hid (rt_start H.out (below_box2 w _) bx9 bl9 lt9 hb1 hps hpa);have PN:=Lib.hid hps.1
 have hp6:pn≤6:=by have:=OKP.out.1;have:=PN.out;omega
 have Z1:=Lib.hid (((P0.out 37).below (by omega) (by rw [rd_sz];exact bl9)).below (by omega) hb1);generalize hP:pts L.kind true=ps at *;have PW:=Lib.hid hP;clear hP hps hpa hb1 bx9 bl9 lt9
 go_loopw [13] (fun i wr=>∃(k:Nat) (M:LV) (r1 r2 r3 r4:SlV),k≤pn∧i=.int .i64 (k:Int)∧vCr ps L=vCr (ps.drop k) M∧RdZ (fun _=>True) w (w.heap.size+1) ps PA pn pc M r1 r2 r3 r4 wr∧LvF ps M∧BoxF wr w.heap.size 17 (lc L s1 s2 s3 s4)) (fun i _=>pn - (intOf i).toNat)
 case atStart=>exact ⟨0,L,s1,s2,s3,s4,by omega,rfl,rfl,R1.out,LM.out,Z1.out⟩
 case round=>
  obtain ⟨k,M,r1,r2,r3,r4,hk,rfl,hrun,hR,hM,hZ⟩:=hrel;have RR:=Lib.hid hR;have ZZ:=Lib.hid hZ;have MM:=Lib.hid hM;have RUN:=Lib.hid hrun;clear hR hZ hM hrun
  by_cases hlt:k<pn
  · obtain ⟨bp,rfl,hbp,hpc⟩:=RR.out.ps.2.2.2 (by omega)
    obtain ⟨x0,x1⟩:=hpc k hlt;have N:=Lib.hid (rgRun_at (ps:=ps) (k:=k) (L:=M) (by rw [PN.out];exact hlt));have OK:=Lib.hid (OKP.out.at_ k);obtain ⟨x,hx⟩:∃x,ps.getD k (0,0)=x:=⟨_,rfl⟩;have VT0:=MM.out.take (by rw [PN.out];exact hlt) hx;rw [hx] at x0 x1 N OK;obtain ⟨wk,fk⟩:=x;clear hpc hx;dsimp only at x0 x1 N OK VT0;unfold fval at x1;have RC:=run_fnum fk OK.out.2;have FZ:=Lib.hid (RR.out.fvZ (.cells #[.int .i64 (wk:Int),.func (.func (fnum fk)) #[.pointer (some ⟨w.heap.size+1,0,none⟩)] #[]] 129) 131)
    have VT:=Lib.hid VT0;obtain ⟨mb,hmb⟩:∃mb,vCt wk (vBm fk M WV.zero)=mb:=⟨_,rfl⟩;have MB:=Lib.hid hmb;have CM:=Lib.hid (fun t1 t2 w h=>may_any wk OK.out.1 (vBm fk M WV.zero) t1 t2 w VT.out h)
    cases mb with
    |true=>
     have N2:=Lib.hid (show vCr ps L=vCr (ps.drop (k+1)) (vCp fk M WV.zero) by rw [RUN.out,N.out,if_pos hmb]);clear hmb N RUN
     go_wp2_with (first
      |((with_reducible refine (fld_any fk OK.out.2 FZ.out.2.1).mono ?_);rintro e w3 ⟨rfl,q1,q2,q3,q4,u1,u2,F7,E7⟩;have R7:=Lib.hid (FZ.out.1.next (by have:=RR.out.bel.size;omega) (fun ad e=>by cases e;show bp≠_;omega) F7 E7 trivial);have Z7:=Lib.hid ((ZZ.out.below (by omega) FZ.out.2.2).ex2 (by omega) E7 (by omega) (by have:=RR.out.pl;omega));have V7:=Lib.hid F7;have VR:=Lib.hid (show vFb w3 (vBm fk M WV.zero) u1 u2 from ⟨F7.v1.1,F7.v2.1⟩);have x7:w3.cell? ⟨wr.heap.size,0,none⟩=some (.int .i64 (wk:Int)):=((E7.cell 0 (by simp;omega) (by have:=RR.out.pl;omega) (by omega)).trans (by simp));clear F7 E7)
      |((with_reducible refine vIk ?hg (.tmp 7) ?ho (wr.heap.size+1) ?hx (vBm fk M WV.zero) u1 u2 V7.out.val ?_);(case hg=>rfl);(case ho=>rfl);(case hx=>rfl))
      |(go_at_call 71;(with_reducible refine (CM.out u1 u2 _ VR.out).mono ?_);rintro e w5 ⟨rfl,hb5⟩;rw [MB.out];have R8:=Lib.hid (R7.out.keep hb5);have Z8:=Lib.hid (Z7.out.below (by omega) hb5)))
     go_roundw
     case rel=>exact ⟨k+1,vCp fk M WV.zero,q1,q2,q3,q4,by omega,by go_num,N2.out,R8.out,MM.out.put fk,Z8.out⟩
     case measure=>simp [intOf];omega
    |false=>
     have N2:=Lib.hid (show rb=false by rw [←RB.out,rgB_none (by rw [PW.out,RUN.out,N.out,if_neg (by rw [hmb];decide)])]);clear hmb N RUN
     go_wp2_with (first
      |((with_reducible refine (fld_any fk OK.out.2 FZ.out.2.1).mono ?_);rintro e w3 ⟨rfl,q1,q2,q3,q4,u1,u2,F7,E7⟩;have R7:=Lib.hid (FZ.out.1.next (by have:=RR.out.bel.size;omega) (fun ad e=>by cases e;show bp≠_;omega) F7 E7 trivial);have V7:=Lib.hid F7;have VR:=Lib.hid (show vFb w3 (vBm fk M WV.zero) u1 u2 from ⟨F7.v1.1,F7.v2.1⟩);have x7:w3.cell? ⟨wr.heap.size,0,none⟩=some (.int .i64 (wk:Int)):=((E7.cell 0 (by simp;omega) (by have:=RR.out.pl;omega) (by omega)).trans (by simp));clear F7 E7)
      |((with_reducible refine vIk ?hg (.tmp 7) ?ho (wr.heap.size+1) ?hx (vBm fk M WV.zero) u1 u2 V7.out.val ?_);(case hg=>rfl);(case ho=>rfl);(case hx=>rfl))
      |(go_at_call 71;(with_reducible refine (CM.out u1 u2 _ VR.out).mono ?_);rintro e w5 ⟨rfl,hb5⟩;rw [MB.out];have R8:=Lib.hid (R7.out.keep hb5)))
     go_ret;exact ⟨by rw [N2.out];rfl,R8.out.bel⟩
  · obtain rfl:k=pn:=by omega
    have RM:=Lib.hid (show vCr (pts L.kind true) L=some M by rw [PW.out,RUN.out,List.drop_eq_nil_of_le (by rw [PN.out];exact Nat.le_refl _)];rfl);have RE:=Lib.hid (show rb=((decide (0<k) && apB L) && vFc M (LV.new L.row L.kind)) by rw [←RB.out,rgB_some RM.out,PW.out,PN.out]);clear RUN
    by_cases p0:0<k
    rotate_left
    · obtain rfl:k=0:=by omega
      have R0:=Lib.hid (show rb=false by rw [RE.out];rfl);go_wp2;go_ret;exact ⟨by rw [R0.out];rfl,RR.out.bel⟩
    · have p1:(0:Int)<(k:Int):=by omega
      have CA:=Lib.hid (fun w h=>apart_any L s1 s2 s3 s4 w h);have LR:=Lib.hid (show LRead wr L s1 s2 s3 s4 from ⟨H.out.1.below RR.out.bel,H.out.2.1.below RR.out.bel,H.out.2.2.1.below RR.out.bel,H.out.2.2.2.below RR.out.bel⟩);obtain ⟨ap,hap⟩:∃ap,apB L=ap:=⟨_,rfl⟩;have AP:=Lib.hid hap;have RE2:=Lib.hid (show rb=(ap && vFc M (LV.new L.row L.kind)) by rw [RE.out,hap,decide_eq_true p0,Bool.true_and])
      clear hap
      cases ap with
      |false=>
       go_wp2_with (first
        |((with_reducible refine vAk ?hg (.tmp 1) ?ho w.heap.size ?hx L s1 s2 s3 s4 ZZ.out ?_);(case hg=>rfl);(case ho=>rfl);(case hx=>rfl))
        |(go_at_call 72;(with_reducible refine (CA.out _ LR.out).mono ?_);rintro e w5 ⟨rfl,hb5⟩;rw [AP.out]))
       go_ret;exact ⟨by rw [RE2.out];rfl,RR.out.bel.trans (hb5.mono RR.out.bel.size)⟩
      |true=>
       have CS:=Lib.hid (show ∀w,LRead w M r1 r2 r3 r4→Calls Tryz.prog 73 #[vBl M r1 r2 r3 r4,.agg #[.int .i64 L.row,.int .i64 L.kind,.string ⟨#[]⟩,.string ⟨#[]⟩,.string ⟨#[]⟩,.string ⟨#[]⟩,.string ⟨#[]⟩,.int .u64 0,.int .u32 0,.int .i64 0,.int .i64 0,.int .i64 0,.int .i64 0,.slice none 0 0,.slice none 0 0,.slice none 0 0,.slice none 0 0]] w fun e w'=>e=.returned (.bool (vFc M (LV.new L.row L.kind)))∧Below w.heap.size w w' from
        fun w h=>csame_any M (LV.new L.row L.kind) r1 r2 r3 r4 SlV.nil SlV.nil SlV.nil SlV.nil w h ⟨ISl.nil,ISl.nil,ISl.nil,ISl.nil⟩)
       go_wp2_with (first
        |((with_reducible refine vAk ?hg (.tmp 1) ?ho w.heap.size ?hx L s1 s2 s3 s4 ZZ.out ?_);(case hg=>rfl);(case ho=>rfl);(case hx=>rfl))
        |(go_at_call 72;(with_reducible refine (CA.out _ LR.out).mono ?_);rintro e w5 ⟨rfl,hb5⟩;rw [AP.out];have R5:=Lib.hid (RR.out.keep hb5);have Z5:=Lib.hid (ZZ.out.below (by omega) hb5);have z0:w5.cell? ⟨w.heap.size,0,none⟩=some (.int .i64 L.row):=Z5.out.cell 0 (by omega);have z1:w5.cell? ⟨w.heap.size,1,none⟩=some (.int .i64 L.kind):=Z5.out.cell 1 (by omega))
        |((with_reducible refine vAk ?hg (.tmp 34) ?ho (w.heap.size+1) ?hx M r1 r2 r3 r4 R5.out.box ?_);(case hg=>rfl);(case ho=>rfl);(case hx=>rfl))
        |(go_at_call 73;(with_reducible refine (CS.out _ R5.out.rd).mono ?_);rintro e w6 ⟨rfl,hb6⟩))
       go_ret;exact ⟨by rw [RE2.out];rfl,R5.out.bel.trans (hb6.mono R5.out.bel.size)⟩
theorem vDr {s:List UInt8} (h:nmB s=true):s.length≤300:=by
 have:=((nmB_iff s).1 h).2.1
 rw [vBc] at this;omega
theorem ris_len {xs:List Int} {lo hi:Int} (h:vCb xs lo hi=true):xs.length≤16:=by
 unfold vCb at h;rw [Bool.and_eq_true] at h;exact ((vDb xs).1 h.1).2.1
theorem ls_len {hi:Int} {xs:List Int} (h:LsOk hi xs):xs.length≤16:=by
 rcases h with rfl|h
 · simp
 · exact ris_len h
theorem rd_ok {row:Int} {L:LV} (h:RdK row L) (r0: -9223372036854775808≤row) (r1:row≤9223372036854775807):LvOk L:=by
 have e0:([]:List UInt8).length≤300:=by decide
 have e1:([]:List Int).length≤16:=by decide
 rcases h with h|⟨h,_⟩|h|h|h|h|h|h|h
 · obtain ⟨s,a,m,rfl,hs,ha,hm⟩:=h
   exact ⟨⟨vDr hs,e0,e0,e0,e0⟩,⟨e1,e1,e1,e1⟩,⟨⟨r0,r1⟩,(show (0:Int)≤1∧(1:Int)≤18 by decide),⟨hm.1,hm.2.1⟩,(show (0:Int)≤0∧(0:Int)≤4294967295 by decide),(show (0:Int)≤0∧(0:Int)≤32 by decide),(show (0:Int)≤0∧(0:Int)≤4095 by decide),⟨by have:=ha.1;show 0≤a;omega,by have:=ha.2;show a≤_;omega⟩,(show (0:Int)≤0∧(0:Int)≤65535 by decide)⟩⟩
 · obtain ⟨s,p,c,v,t,rfl,hs,hp,hc,hv,ht⟩:=h
   exact ⟨⟨vDr hs,vDr hp,e0,e0,e0⟩,⟨ls_len ht,e1,e1,e1⟩,⟨⟨r0,r1⟩,(show (0:Int)≤2∧(2:Int)≤18 by decide),(show (0:Int)≤0∧(0:Int)<281474976710656 by decide),(show (0:Int)≤0∧(0:Int)≤4294967295 by decide),(show (0:Int)≤0∧(0:Int)≤32 by decide),⟨by have:=hv.1;show 0≤v;omega,by have:=hv.2;show v≤_;omega⟩,(show (0:Int)≤0∧(0:Int)≤16777216 by decide),⟨by have:=hc.1;show 0≤c;omega,by have:=hc.2;show c≤_;omega⟩⟩⟩
 · obtain ⟨s,p,q,r,rfl,hs,hp,hq,hr⟩:=h
   exact ⟨⟨vDr hs,vDr hp,vDr hq,vDr hr,e0⟩,⟨e1,e1,e1,e1⟩,⟨⟨r0,r1⟩,(show (0:Int)≤3∧(3:Int)≤18 by decide),(show (0:Int)≤0∧(0:Int)<281474976710656 by decide),(show (0:Int)≤0∧(0:Int)≤4294967295 by decide),(show (0:Int)≤0∧(0:Int)≤32 by decide),(show (0:Int)≤0∧(0:Int)≤4095 by decide),(show (0:Int)≤0∧(0:Int)≤16777216 by decide),(show (0:Int)≤0∧(0:Int)≤65535 by decide)⟩⟩
 · obtain ⟨s,v,m,p,rfl,hs,hv,hm,hp⟩:=h
   exact ⟨⟨vDr hs,vDr hp,e0,e0,e0⟩,⟨e1,e1,e1,e1⟩,⟨⟨r0,r1⟩,(show (0:Int)≤4∧(4:Int)≤18 by decide),⟨hm.1,hm.2.1⟩,(show (0:Int)≤0∧(0:Int)≤4294967295 by decide),(show (0:Int)≤0∧(0:Int)≤32 by decide),⟨by have:=hv.1;show 0≤v;omega,by have:=hv.2;show v≤_;omega⟩,(show (0:Int)≤0∧(0:Int)≤16777216 by decide),(show (0:Int)≤0∧(0:Int)≤65535 by decide)⟩⟩
 · obtain ⟨s,a,rfl,hs,ha⟩:=h
   exact ⟨⟨vDr hs,e0,e0,e0,e0⟩,⟨e1,e1,e1,e1⟩,⟨⟨r0,r1⟩,(show (0:Int)≤5∧(5:Int)≤18 by decide),(show (0:Int)≤0∧(0:Int)<281474976710656 by decide),⟨by have:=ha.1;show 0≤a;omega,by have:=ha.2;show a≤_;omega⟩,(show (0:Int)≤0∧(0:Int)≤32 by decide),(show (0:Int)≤0∧(0:Int)≤4095 by decide),(show (0:Int)≤0∧(0:Int)≤16777216 by decide),(show (0:Int)≤0∧(0:Int)≤65535 by decide)⟩⟩
 · obtain ⟨s,v,a,rfl,hs,hv,ha⟩:=h
   exact ⟨⟨vDr hs,e0,e0,e0,e0⟩,⟨e1,e1,e1,e1⟩,⟨⟨r0,r1⟩,(show (0:Int)≤6∧(6:Int)≤18 by decide),(show (0:Int)≤0∧(0:Int)<281474976710656 by decide),(show (0:Int)≤0∧(0:Int)≤4294967295 by decide),(show (0:Int)≤0∧(0:Int)≤32 by decide),⟨by have:=hv.1;show 0≤v;omega,by have:=hv.2;show v≤_;omega⟩,⟨by have:=ha.1;show 0≤a;omega,by have:=ha.2;show a≤_;omega⟩,(show (0:Int)≤0∧(0:Int)≤65535 by decide)⟩⟩
 · obtain ⟨s,a,x,rfl,hs,ha,hx⟩:=h
   exact ⟨⟨vDr hs,e0,e0,e0,e0⟩,⟨e1,e1,e1,ris_len hx.1⟩,⟨⟨r0,r1⟩,(show (0:Int)≤7∧(7:Int)≤18 by decide),(show (0:Int)≤0∧(0:Int)<281474976710656 by decide),(show (0:Int)≤0∧(0:Int)≤4294967295 by decide),(show (0:Int)≤0∧(0:Int)≤32 by decide),(show (0:Int)≤0∧(0:Int)≤4095 by decide),⟨by have:=ha.1;show 0≤a;omega,by have:=ha.2;show a≤_;omega⟩,(show (0:Int)≤0∧(0:Int)≤65535 by decide)⟩⟩
 · obtain ⟨s,n,x,y,rfl,hs,hn,hx,hy⟩:=h
   exact ⟨⟨vDr hs,e0,e0,e0,vDr hn⟩,⟨e1,ls_len hx,ls_len hy,e1⟩,⟨⟨r0,r1⟩,(show (0:Int)≤8∧(8:Int)≤18 by decide),(show (0:Int)≤0∧(0:Int)<281474976710656 by decide),(show (0:Int)≤0∧(0:Int)≤4294967295 by decide),(show (0:Int)≤0∧(0:Int)≤32 by decide),(show (0:Int)≤0∧(0:Int)≤4095 by decide),(show (0:Int)≤0∧(0:Int)≤16777216 by decide),(show (0:Int)≤0∧(0:Int)≤65535 by decide)⟩⟩
 · obtain ⟨s,v,n,a,b,rfl,hs,hv,hn,hab⟩:=h
   exact ⟨⟨vDr hs,e0,e0,e0,vDr hn⟩,⟨e1,e1,e1,e1⟩,⟨⟨r0,r1⟩,(show (0:Int)≤9∧(9:Int)≤18 by decide),(show (0:Int)≤0∧(0:Int)<281474976710656 by decide),⟨hab.2.1.1,hab.2.1.2⟩,⟨hab.2.2.1,hab.2.2.2⟩,⟨by have:=hv.1;show 0≤v;omega,by have:=hv.2;show v≤_;omega⟩,(show (0:Int)≤0∧(0:Int)≤16777216 by decide),(show (0:Int)≤0∧(0:Int)≤65535 by decide)⟩⟩
end Go.Proofs.YtnpembgchmmbjaaGreat
namespace Go.Proofs.YtnpembgchmmbjaaGreat.Mac
open Go.RowKit
end Go.Proofs.YtnpembgchmmbjaaGreat.Mac
namespace Go.Proofs.YtnpembgchmmbjaaGreat
open Go.RowKit
open Go.Lib (itoa)
theorem may0_of {s:List UInt8} (h:vCt 0 {WV.zero with text:=s}=true):nmB s=true:=by rw [vBj rfl] at h;exact h
theorem rg_of {w f:Nat} {ps:List (Nat×Nat)} {L M:LV} (h:vCr ((w,f) :: ps) L=some M):vCt w (vBm f L WV.zero)=true∧vCr ps (vCp f L WV.zero)=some M:=by
 rw [vCr] at h
 by_cases g:vCt w (vBm f L WV.zero)=true
 · rw [if_pos g] at h;exact ⟨g,h⟩
 · rw [if_neg g] at h;cases h
noncomputable def rrB (L:LV):Bool:=(decide (L.tagged.length≤16) && (decide (L.imports.length≤16) && (decide (L.exports.length≤16) && decide (L.addrs.length≤16)))) && (decide (rdE (wrW L) L.row=0) && vFc L (rdL (wrW L) L.row))
noncomputable def vGb (N:NV) (L:LV) (k:Int):Bool:=decide (L.kind=k) && (rgB L && netB N)
theorem fits_iff {N:NV} {L:LV} {k:Int}:vGb N L k=true↔L.kind=k∧rgB L=true∧NetOk N:=by
 unfold vGb;rw [Bool.and_eq_true,Bool.and_eq_true,decide_eq_true_eq,vHd]
theorem dv_none {N:NV} {s:List UInt8} (h:dvF N s<0):∀i,i<N.devices.length→(N.devices.getD i DevV.zero).name≠s:=by
 rcases dvK_fst s N.devices 0 _ rfl with ⟨j,h1,h2,_⟩|⟨_,h2⟩
 · unfold dvF at h;rw [h2] at h;omega
 · exact h2
theorem dv_neg {N:NV} {s:List UInt8} (h:dvF N s<0):dvF N s= -1:=by
 rcases dvK_fst s N.devices 0 _ rfl with ⟨j,h1,h2,_⟩|⟨h1,_⟩
 · unfold dvF at h;rw [h2] at h;omega
 · exact h1
def setL (xs:List PortV) (k:Nat) (v:Int):List PortV:=xs.set k {xs.getD k PortV.zero with link:=v}
theorem vFz (xs:List PortV) (k:Nat) (v:Int):(setL xs k v).length=xs.length:=by simp [setL]
def vEm (N:NV) (row:Int) (a b:Nat):NV:={N with ports:=setL (setL N.ports a (N.links.length:Int)) b (N.links.length:Int),links:=N.links++[⟨row,a,b⟩]}
def ndF (N:NV) (dev port:List UInt8):Int:=ptF N (dvF N dev) port
def laR (N:NV) (a b:Int):Int:=if a= -1∨b= -1 then 31 else if (ptA N a).dev=(ptA N b).dev∨(ptA N a).link≠-1∨(ptA N b).link≠-1 then 33 else if 20≤N.links.length then 3 else 0
noncomputable def laE (N:NV) (L:LV):Int:=if vGb N L 3=false then 2 else laR N (ndF N L.dev L.port) (ndF N L.peer L.far)
noncomputable def laN (N:NV) (L:LV):NV:=if laE N L=0 then vEm N L.row (ndF N L.dev L.port).toNat (ndF N L.peer L.far).toNat else NV.zero
theorem la_no {N:NV} {L:LV} (h:laE N L≠0):laN N L=NV.zero:=by unfold laN;rw [if_neg h]
theorem la_2 {N:NV} {L:LV} (h:vGb N L 3=false):laN N L=NV.zero∧laE N L=2:=by
 have e:laE N L=2:=by unfold laE;rw [if_pos h]
 exact ⟨la_no (by rw [e];decide),e⟩
theorem la_r {N:NV} {L:LV} (h:vGb N L 3=true):laE N L=laR N (ndF N L.dev L.port) (ndF N L.peer L.far):=by unfold laE;rw [if_neg (by rw [h];decide)]
theorem la_e {N:NV} {L:LV} (h:vGb N L 3=true) {e:Int} (h2:laR N (ndF N L.dev L.port) (ndF N L.peer L.far)=e) (h0:e≠0):laN N L=NV.zero∧laE N L=e:=by
 have g:=(la_r h).trans h2;exact ⟨la_no (by rw [g];exact h0),g⟩
theorem la_0 {N:NV} {L:LV} (h:vGb N L 3=true) (h2:laR N (ndF N L.dev L.port) (ndF N L.peer L.far)=0):laN N L=vEm N L.row (ndF N L.dev L.port).toNat (ndF N L.peer L.far).toNat∧laE N L=0:=by
 have g:=(la_r h).trans h2;exact ⟨by unfold laN;rw [if_pos g],g⟩
theorem vEp {N:NV} {dev:Int} {s:List UInt8}:ptF N dev s= -1∨∃j,j<N.ports.length∧ptF N dev s=(j:Int)∧(N.ports.getD j PortV.zero).dev=dev∧(N.ports.getD j PortV.zero).name=s:=by
 rcases ptF_fst N dev s _ rfl with ⟨j,h1,h2,h3,_⟩|⟨h,_⟩
 · have:=of_decide_eq_true h3
   exact .inr ⟨j,h1,h2,this.1,this.2⟩
 · exact .inl h
theorem pt_nodev {N:NV} (h:NetOk N) (s:List UInt8):ptF N (-1) s= -1:=by
 rcases vEp (N:=N) (dev:= -1) (s:=s) with e|⟨j,h1,_,h3,_⟩
 · exact e
 · have:=(vBb _ _).1 (h.pt j h1).dev
   omega
theorem la_inv {N:NV} {L:LV} (h:laE N L=0):vGb N L 3=true∧NetOk N∧∃a b:Nat,ndF N L.dev L.port=(a:Int)∧ndF N L.peer L.far=(b:Int)∧a<N.ports.length∧b<N.ports.length∧(N.ports.getD a PortV.zero).dev≠(N.ports.getD b PortV.zero).dev∧(N.ports.getD a PortV.zero).link= -1∧(N.ports.getD b PortV.zero).link= -1∧N.links.length<20∧laN N L=vEm N L.row a b:=by
 by_cases f:vGb N L 3=true
 rotate_left
 · rw [(la_2 (Bool.eq_false_iff.2 f)).2] at h;exact absurd h (by decide)
 have r:=(la_r f).symm.trans h;unfold laR at r
 by_cases c1:ndF N L.dev L.port= -1∨ndF N L.peer L.far= -1
 · rw [if_pos c1] at r;exact absurd r (by decide)
 rw [if_neg c1] at r;obtain ⟨a,ha,ea,_⟩:=(vEp (N:=N) (dev:=dvF N L.dev) (s:=L.port)).resolve_left (fun e=>c1 (.inl e));obtain ⟨b,hb,eb,_⟩:=(vEp (N:=N) (dev:=dvF N L.peer) (s:=L.far)).resolve_left (fun e=>c1 (.inr e));have ea:ndF N L.dev L.port=(a:Int):=ea;have eb:ndF N L.peer L.far=(b:Int):=eb;rw [ea,eb] at r
 by_cases c2:(ptA N (a:Int)).dev=(ptA N (b:Int)).dev∨(ptA N (a:Int)).link≠-1∨(ptA N (b:Int)).link≠-1
 · rw [if_pos c2] at r;exact absurd r (by decide)
 rw [if_neg c2] at r
 by_cases c3:20≤N.links.length
 · rw [if_pos c3] at r;exact absurd r (by decide)
 refine ⟨f,(fits_iff.1 f).2.2,a,b,ea,eb,ha,hb,fun e=>c2 (.inl e),?_,?_,by omega,?_⟩
 · exact Classical.byContradiction fun e=>c2 (.inr (.inl e))
 · exact Classical.byContradiction fun e=>c2 (.inr (.inr e))
 · unfold laN
   rw [if_pos h,ea,eb]
   rfl
end Go.Proofs.YtnpembgchmmbjaaGreat
