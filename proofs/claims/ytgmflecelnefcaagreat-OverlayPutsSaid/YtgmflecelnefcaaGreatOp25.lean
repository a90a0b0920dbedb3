import Derived.Test.YtgmflecelnefcaaGreatOp19
import Derived.Test.YtgmflecelnefcaaGreatOp22
import Derived.Test.YtgmflecelnefcaaGreatOp23
import Derived.Test.YtgmflecelnefcaaGreatOp24
import Derived.Test.YtgmflecelnefcaaGreatOp21
import Derived.Test.YtgmflecelnefcaaGreatOp18
import Derived.Test.YtgmflecelnefcaaGreatOp11
import Derived.Test.YtgmflecelnefcaaGreatOp06
import Derived.Test.YtgmflecelnefcaaGreatOp17
import Derived.WalkMore
import Derived.RegionTactic
set_option maxRecDepth 100000
set_option maxHeartbeats 40000000
namespace Go.Proofs.YtgmflecelnefcaaGreat
open Go.Lib (hid)
open Go.RowKit
theorem vBo {L M:LV} (h:L≠M):vEz L M=false:=by
 cases e:vEz L M with
 |false=>rfl
 |true=>exact absurd ((vDx L M).1 e) h
theorem csame_any (L M:LV) (s1 s2 s3 s4 t1 t2 t3 t4:SlV) (w:World) (h:LRead w L s1 s2 s3 s4) (g:LRead w M t1 t2 t3 t4):
 Calls Tryz.prog 140 #[vAv L s1 s2 s3 s4,vAv M t1 t2 t3 t4] w fun e w'=>e=.returned (.bool (vEz L M))∧Below w.heap.size w w':=by
 obtain ⟨f0,f1,f2,f3,f4,f5,f6,f7,f8,f9,f10,f11,f12,f13,f14,f15,f16⟩:=L;obtain ⟨g0,g1,g2,g3,g4,g5,g6,g7,g8,g9,g10,g11,g12,g13,g14,g15,g16⟩:=M;obtain ⟨h13,h14,h15,h16⟩:=h;obtain ⟨k13,k14,k15,k16⟩:=g;dsimp only at h13 h14 h15 h16 k13 k14 k15 k16
 by_cases e0:f0=g0
 rotate_left
 · rw [vBo (fun e=>e0 (congrArg LV.row e))]
   exact cs_0 f0 g0 f1 g1 f2 g2 f3 g3 f4 g4 f5 g5 f6 g6 f7 g7 f8 g8 f9 g9 f10 g10 f11 g11 f12 g12 s1 s2 s3 s4 t1 t2 t3 t4 w e0
 subst e0
 by_cases e1:f1=g1
 rotate_left
 · rw [vBo (fun e=>e1 (congrArg LV.kind e))]
   exact cs_1 f0 f1 g1 f2 g2 f3 g3 f4 g4 f5 g5 f6 g6 f7 g7 f8 g8 f9 g9 f10 g10 f11 g11 f12 g12 s1 s2 s3 s4 t1 t2 t3 t4 w e1
 subst e1
 by_cases e2:f2=g2
 rotate_left
 · rw [vBo (fun e=>e2 (congrArg LV.dev e))]
   exact cs_2 f0 f1 f2 g2 f3 g3 f4 g4 f5 g5 f6 g6 f7 g7 f8 g8 f9 g9 f10 g10 f11 g11 f12 g12 s1 s2 s3 s4 t1 t2 t3 t4 w e2
 subst e2
 by_cases e3:f3=g3
 rotate_left
 · rw [vBo (fun e=>e3 (congrArg LV.port e))]
   exact cs_3 f0 f1 f2 f3 g3 f4 g4 f5 g5 f6 g6 f7 g7 f8 g8 f9 g9 f10 g10 f11 g11 f12 g12 s1 s2 s3 s4 t1 t2 t3 t4 w e3
 subst e3
 by_cases e4:f4=g4
 rotate_left
 · rw [vBo (fun e=>e4 (congrArg LV.peer e))]
   exact cs_4 f0 f1 f2 f3 f4 g4 f5 g5 f6 g6 f7 g7 f8 g8 f9 g9 f10 g10 f11 g11 f12 g12 s1 s2 s3 s4 t1 t2 t3 t4 w e4
 subst e4
 by_cases e5:f5=g5
 rotate_left
 · rw [vBo (fun e=>e5 (congrArg LV.far e))]
   exact cs_5 f0 f1 f2 f3 f4 f5 g5 f6 g6 f7 g7 f8 g8 f9 g9 f10 g10 f11 g11 f12 g12 s1 s2 s3 s4 t1 t2 t3 t4 w e5
 subst e5
 by_cases e6:f6=g6
 rotate_left
 · rw [vBo (fun e=>e6 (congrArg LV.name e))]
   exact cs_6 f0 f1 f2 f3 f4 f5 f6 g6 f7 g7 f8 g8 f9 g9 f10 g10 f11 g11 f12 g12 s1 s2 s3 s4 t1 t2 t3 t4 w e6
 subst e6
 by_cases e7:f7=g7
 rotate_left
 · rw [vBo (fun e=>e7 (congrArg LV.mac e))]
   exact cs_7 f0 f1 f2 f3 f4 f5 f6 f7 g7 f8 g8 f9 g9 f10 g10 f11 g11 f12 g12 s1 s2 s3 s4 t1 t2 t3 t4 w e7
 subst e7
 by_cases e8:f8=g8
 rotate_left
 · rw [vBo (fun e=>e8 (congrArg LV.addr e))]
   exact cs_8 f0 f1 f2 f3 f4 f5 f6 f7 f8 g8 f9 g9 f10 g10 f11 g11 f12 g12 s1 s2 s3 s4 t1 t2 t3 t4 w e8
 subst e8
 by_cases e9:f9=g9
 rotate_left
 · rw [vBo (fun e=>e9 (congrArg LV.bits e))]
   exact cs_9 f0 f1 f2 f3 f4 f5 f6 f7 f8 f9 g9 f10 g10 f11 g11 f12 g12 s1 s2 s3 s4 t1 t2 t3 t4 w e9
 subst e9
 by_cases e10:f10=g10
 rotate_left
 · rw [vBo (fun e=>e10 (congrArg LV.vlan e))]
   exact cs_10 f0 f1 f2 f3 f4 f5 f6 f7 f8 f9 f10 g10 f11 g11 f12 g12 s1 s2 s3 s4 t1 t2 t3 t4 w e10
 subst e10
 by_cases e11:f11=g11
 rotate_left
 · rw [vBo (fun e=>e11 (congrArg LV.num e))]
   exact cs_11 f0 f1 f2 f3 f4 f5 f6 f7 f8 f9 f10 f11 g11 f12 g12 s1 s2 s3 s4 t1 t2 t3 t4 w e11
 subst e11
 by_cases e12:f12=g12
 rotate_left
 · rw [vBo (fun e=>e12 (congrArg LV.cost e))]
   exact cs_12 f0 f1 f2 f3 f4 f5 f6 f7 f8 f9 f10 f11 f12 g12 s1 s2 s3 s4 t1 t2 t3 t4 w e12
 subst e12
 by_cases e13:f13=g13
 rotate_left
 · rw [vBo (fun e=>e13 (congrArg LV.tagged e))]
   exact cs_13 f0 f1 f2 f3 f4 f5 f6 f7 f8 f9 f10 f11 f12 f13 g13 s1 s2 s3 s4 t1 t2 t3 t4 w h13 k13 e13
 subst e13
 by_cases e14:f14=g14
 rotate_left
 · rw [vBo (fun e=>e14 (congrArg LV.imports e))]
   exact cs_14 f0 f1 f2 f3 f4 f5 f6 f7 f8 f9 f10 f11 f12 f13 f14 g14 s1 s2 s3 s4 t1 t2 t3 t4 w h13 k13 h14 k14 e14
 subst e14
 by_cases e15:f15=g15
 rotate_left
 · rw [vBo (fun e=>e15 (congrArg LV.exports e))]
   exact cs_15 f0 f1 f2 f3 f4 f5 f6 f7 f8 f9 f10 f11 f12 f13 f14 f15 g15 s1 s2 s3 s4 t1 t2 t3 t4 w h13 k13 h14 k14 h15 k15 e15
 subst e15
 by_cases e16:f16=g16
 rotate_left
 · rw [vBo (fun e=>e16 (congrArg LV.addrs e))]
   exact cs_16 f0 f1 f2 f3 f4 f5 f6 f7 f8 f9 f10 f11 f12 f13 f14 f15 f16 g16 s1 s2 s3 s4 t1 t2 t3 t4 w h13 k13 h14 k14 h15 k15 h16 k16 e16
 subst e16;rw [vFp];exact cs_17 f0 f1 f2 f3 f4 f5 f6 f7 f8 f9 f10 f11 f12 f13 f14 f15 f16 s1 s2 s3 s4 t1 t2 t3 t4 w h13 k13 h14 k14 h15 k15 h16 k16
structure LvM (L:LV):Prop where
 sz:LvSz L
 mac:0≤L.mac∧L.mac<18446744073709551616
 addr:0≤L.addr∧L.addr<4294967296
theorem LvM.take {L:LV} (h:LvM L) (f:Nat):VOk (vBl f L WV.zero):=by
 have t:=h.sz.txt;have l:=h.sz.lst
 match f with
 |0=>exact ⟨t.1,vFc,vFn,vEm⟩
 |1=>exact ⟨t.2.1,vFc,vFn,vEm⟩
 |2=>exact ⟨t.2.2.1,vFc,vFn,vEm⟩
 |3=>exact ⟨t.2.2.2.1,vFc,vFn,vEm⟩
 |4=>exact ⟨t.2.2.2.2,vFc,vFn,vEm⟩
 |5=>exact ⟨show ([116,114,117,110,107]:List UInt8).length≤1000000 by decide,vFc,vFn,vEm⟩
 |6|7|8=>exact ⟨vIa,vFc,vFn,vEm⟩
 |9=>exact ⟨vIa,h.mac,vFn,vEm⟩
 |10=>exact ⟨vIa,vFc,h.addr,vEm⟩
 |11=>exact ⟨vIa,vFc,h.addr,vEm⟩
 |12=>exact ⟨vIa,vFc,vFn,⟨l.1,vEm.2⟩⟩
 |13=>exact ⟨vIa,vFc,vFn,⟨l.2.1,vEm.2⟩⟩
 |14=>exact ⟨vIa,vFc,vFn,⟨l.2.2.1,vEm.2⟩⟩
 |15=>exact ⟨vIa,vFc,vFn,⟨vEm.1,l.2.2.2⟩⟩
 |f+16=>exact vok_zero
theorem rgRun_at {ps:List (Nat×Nat)} {k:Nat} {L:LV} (h:k<ps.length):
 vDp (ps.drop k) L=if vCo (ps.getD k (0,0)).1 (vBl (ps.getD k (0,0)).2 L WV.zero)=true then vDp (ps.drop (k+1)) (vCi (ps.getD k (0,0)).2 L WV.zero) else none:=by
 have e1:ps.drop k=ps.getD k (0,0) :: ps.drop (k+1):=by rw [List.drop_eq_getElem_cons h];simp [List.getD,List.getElem?_eq_getElem h]
 rw [e1];obtain ⟨w,f⟩:=ps.getD k (0,0);rw [vDp]
theorem vIn {ops:Array Oper} {rest:List Oper} {op:Oper} {a:Act} {w:World} {Q:Exit→Act→World→Prop} (hgd:op.guard=none) (x:Operand) (ho:op.op=.load 163 x)
 (p:Nat) (hx:a.eval x=.pointer (some ⟨p,0,none⟩)) (V:WV) (t1 t2:SlV) (hb:BoxF w p 6 (vc V t1 t2)) (h:wpList Tryz.prog ops Q rest (a.put op.dst (vHm V t1 t2)) w):wpList Tryz.prog ops Q (op :: rest) a w:=by
 obtain ⟨d,hd1,hd2⟩:=val_desc;exact wpList_load_mid hgd 163 x ho p 0 hx (valC V t1 t2) d hb.rangeV hd1 hd2 val_size h
theorem RdZ.fvZ {Z:LV→Prop} {w wr:World} {p:Nat} {ps:List (Nat×Nat)} {A:Option Addr} {n c:Nat} {L:LV} {s1 s2 s3 s4:SlV} (h:RdZ Z w p ps A n c L s1 s2 s3 s4 wr) (o:Obj) (T:TypeId):
 RdZ Z w p ps A n c L s1 s2 s3 s4 ((wr.alloc o).alloc (.cells #[.string ⟨#[]⟩,.int .i64 0,.int .u64 0,.int .u32 0,.slice none 0 0,.slice none 0 0] T))∧
 FV ((wr.alloc o).alloc (.cells #[.string ⟨#[]⟩,.int .i64 0,.int .u64 0,.int .u32 0,.slice none 0 0,.slice none 0 0] T)) p (wr.heap.size+1) L s1 s2 s3 s4 WV.zero SlV.nil SlV.nil∧Below wr.heap.size wr ((wr.alloc o).alloc (.cells #[.string ⟨#[]⟩,.int .i64 0,.int .u64 0,.int .u32 0,.slice none 0 0,.slice none 0 0] T)):=by
 have B:=vAj wr o (.cells #[.string ⟨#[]⟩,.int .i64 0,.int .u64 0,.int .u32 0,.slice none 0 0,.slice none 0 0] T);have R6:=h.keep B;have hlt:p<wr.heap.size:=h.pl;have vb:=(SV.start (wr.alloc o) T).box;rw [rd_sz] at vb
 have off:∀(k:IntKind) (s:SlV) (xs:List Int),ISl wr k s.A s.n s.c xs→OffP (wr.heap.size+1) s:=fun k s xs hi ad e e2=>by have:=lt_isl hi ad e e2;omega
 exact ⟨R6,R6.fv (by omega) vb ⟨ISl.nil,ISl.nil⟩ (off _ _ _ h.rd.1) (off _ _ _ h.rd.2.1) (off _ _ _ h.rd.2.2.1) (off _ _ _ h.rd.2.2.2) (fun ad e=>by cases e) (fun ad e=>by cases e),B⟩
def LvF (ps:List (Nat×Nat)) (L:LV):Prop:=∀f,f∈ps.map (·.2)→VOk (vBl f L WV.zero)
def LvK (L:LV):Prop:=LvF (pts L.kind true) L
theorem fput_cases (f:Nat) (L:LV):((vCi f L WV.zero).dev=L.dev∨(vCi f L WV.zero).dev=[])∧((vCi f L WV.zero).port=L.port∨(vCi f L WV.zero).port=[])∧((vCi f L WV.zero).peer=L.peer∨(vCi f L WV.zero).peer=[])∧((vCi f L WV.zero).far=L.far∨(vCi f L WV.zero).far=[])∧((vCi f L WV.zero).name=L.name∨(vCi f L WV.zero).name=[])∧((vCi f L WV.zero).mac=L.mac∨(vCi f L WV.zero).mac=0)∧((vCi f L WV.zero).addr=L.addr∨(vCi f L WV.zero).addr=0)∧((vCi f L WV.zero).tagged=L.tagged∨(vCi f L WV.zero).tagged=[])∧((vCi f L WV.zero).imports=L.imports∨(vCi f L WV.zero).imports=[])∧((vCi f L WV.zero).exports=L.exports∨(vCi f L WV.zero).exports=[])∧((vCi f L WV.zero).addrs=L.addrs∨(vCi f L WV.zero).addrs=[]):=by
 match f with
 |0|1|2|3|4|5|6|7|8|9|10|11|12|13|14|15=>simp [vCi,WV.zero]
 |f+16=>simp [vCi]
theorem vok_put {g:Nat} {L:LV} (f:Nat) (h:VOk (vBl g L WV.zero)):VOk (vBl g (vCi f L WV.zero) WV.zero):=by
 obtain ⟨c0,c1,c2,c3,c4,c5,c6,c7,c8,c9,c10⟩:=fput_cases f L;have ht:=h.txt;have hm:=h.mac;have ha:=h.addr;have hl:=h.lst
 match g with
 |0=>exact ⟨by rcases c0 with e|e<;>rw [show (vBl 0 (vCi f L WV.zero) WV.zero).text=_ from e]<;>first|exact ht|exact vIa,vFc,vFn,vEm⟩
 |1=>exact ⟨by rcases c1 with e|e<;>rw [show (vBl 1 (vCi f L WV.zero) WV.zero).text=_ from e]<;>first|exact ht|exact vIa,vFc,vFn,vEm⟩
 |2=>exact ⟨by rcases c2 with e|e<;>rw [show (vBl 2 (vCi f L WV.zero) WV.zero).text=_ from e]<;>first|exact ht|exact vIa,vFc,vFn,vEm⟩
 |3=>exact ⟨by rcases c3 with e|e<;>rw [show (vBl 3 (vCi f L WV.zero) WV.zero).text=_ from e]<;>first|exact ht|exact vIa,vFc,vFn,vEm⟩
 |4=>exact ⟨by rcases c4 with e|e<;>rw [show (vBl 4 (vCi f L WV.zero) WV.zero).text=_ from e]<;>first|exact ht|exact vIa,vFc,vFn,vEm⟩
 |5=>exact ⟨ht,vFc,vFn,vEm⟩
 |6|7|8=>exact ⟨vIa,vFc,vFn,vEm⟩
 |9=>exact ⟨vIa,by rcases c5 with e|e<;>rw [show (vBl 9 (vCi f L WV.zero) WV.zero).mac=_ from e]<;>first|exact hm|exact vFc,vFn,vEm⟩
 |10=>exact ⟨vIa,vFc,by rcases c6 with e|e<;>rw [show (vBl 10 (vCi f L WV.zero) WV.zero).addr=_ from e]<;>first|exact ha|exact vFn,vEm⟩
 |11=>exact ⟨vIa,vFc,by rcases c6 with e|e<;>rw [show (vBl 11 (vCi f L WV.zero) WV.zero).addr=_ from e]<;>first|exact ha|exact vFn,vEm⟩
 |12=>exact ⟨vIa,vFc,vFn,by rcases c7 with e|e<;>rw [show (vBl 12 (vCi f L WV.zero) WV.zero).list=_ from e]<;>first|exact ⟨hl.1,vEm.2⟩|exact vEm⟩
 |13=>exact ⟨vIa,vFc,vFn,by rcases c8 with e|e<;>rw [show (vBl 13 (vCi f L WV.zero) WV.zero).list=_ from e]<;>first|exact ⟨hl.1,vEm.2⟩|exact vEm⟩
 |14=>exact ⟨vIa,vFc,vFn,by rcases c9 with e|e<;>rw [show (vBl 14 (vCi f L WV.zero) WV.zero).list=_ from e]<;>first|exact ⟨hl.1,vEm.2⟩|exact vEm⟩
 |15=>exact ⟨vIa,vFc,vFn,by rcases c10 with e|e<;>rw [show (vBl 15 (vCi f L WV.zero) WV.zero).addrs=_ from e]<;>first|exact ⟨vEm.1,hl.2⟩|exact vEm⟩
 |g+16=>exact vok_zero
theorem LvF.put {ps:List (Nat×Nat)} {L:LV} (h:LvF ps L) (f:Nat):LvF ps (vCi f L WV.zero):=fun g hg=>vok_put f (h g hg)
theorem LvF.take {ps:List (Nat×Nat)} {L:LV} (h:LvF ps L) {k:Nat} (hk:k<ps.length) {x:Nat×Nat} (e:ps.getD k (0,0)=x):VOk (vBl x.2 L WV.zero):=h _ (List.mem_map.2 ⟨x,by rw [←e];simp [List.getD,hk],rfl⟩)
theorem rt_start {w wa w9 w1:World} {L:LV} {s1 s2 s3 s4:SlV} {ps:List (Nat×Nat)} {A:Option Addr} {n c:Nat} (hL:LRead w L s1 s2 s3 s4) (hw:Below w.heap.size w wa) (hx:BoxF w9 (w.heap.size+1) 17 (lc L s1 s2 s3 s4)) (h9:Below (w.heap.size+1) wa w9) (hl:w.heap.size+1<w9.heap.size)
 (hb1:Below w9.heap.size w9 w1) (hps:PSl w1 (w.heap.size+1) A n c ps) (hpa:∀ad,A=some ad→w9.heap.size≤ad.block):RdZ (fun _=>True) w (w.heap.size+1) ps A n c L s1 s2 s3 s4 w1:=by
 have B:Below w.heap.size w w1:=(hw.trans (h9.mono (by omega))).trans (hb1.mono (by omega))
 have off:∀(k:IntKind) (s:SlV) (xs:List Int),ISl w k s.A s.n s.c xs→OffP (w.heap.size+1) s:=fun k s xs hi ad e e2=>by have:=lt_isl hi ad e e2;omega
 exact ⟨by omega,by have:=hb1.size;omega,hx.below (by omega) hb1,⟨hL.1.below B,hL.2.1.below B,hL.2.2.1.below B,hL.2.2.2.below B⟩,off _ _ _ hL.1,off _ _ _ hL.2.1,off _ _ _ hL.2.2.1,off _ _ _ hL.2.2.2,hps,fun ad e=>by have:=hpa ad e;omega,B,trivial⟩
theorem cright_k (L:LV) (s1 s2 s3 s4:SlV) (w:World) (h:LRead w L s1 s2 s3 s4) (hL:LvK L):
 Calls Tryz.prog 87 #[vAv L s1 s2 s3 s4] w fun e w'=>e=.returned (.bool (rgB L))∧Below w.heap.size w w':=by
 have H:=hid h;have LM:=hid (show LvF (pts L.kind true) L from hL);have P0:=hid (fun T=>vCs w L s1 s2 s3 s4 T);have OKP:=hid (pts_ok L.kind true);obtain ⟨rb,hrb⟩:∃rb,rgB L=rb:=⟨_,rfl⟩;have RB:=hid hrb;rw [hrb];clear h hL hrb;rw [show vAv L s1 s2 s3 s4=.agg #[.int .i64 L.row,.int .i64 L.kind,.string (str L.dev),.string (str L.port),.string (str L.peer),.string (str L.far),.string (str L.name),.int .u64 L.mac,.int .u32 L.addr,.int .i64 L.bits,.int .i64 L.vlan,.int .i64 L.num,.int .i64 L.cost,.slice s1.A s1.n s1.c,.slice s2.A s2.n s2.c,.slice s3.A s3.n s3.c,.slice s4.A s4.n s4.c] from rfl]
 go_enter Tryz.func87,Tryz.ntmps87
 go_wp2_with (first
  |((with_reducible refine vAf ?hg (.tmp 1) ?ho w.heap.size ?hx L s1 s2 s3 s4 (P0.out _) ?_);(case hg=>rfl);(case ho=>rfl);(case hx=>rfl);simp only [vAv])
  |((with_reducible refine vIo ?hg1 ?ho1 ?hg2 (.tmp 3) (.tmp 9) ?ho2 ?hx L s1 s2 s3 s4 ?hy ?_);(case hg1=>rfl);(case ho1=>rfl);(case hg2=>rfl);(case ho2=>rfl);(case hx=>rfl);(case hy=>rfl);intro w9 bx9 bl9 lt9;rw [rd_sz] at bx9 bl9 lt9)
  |(go_at_call 137;(with_reducible refine (parts_any L.kind _ _ _ (bx9.cell 1 (by omega))).mono ?_);rintro e w1 ⟨PA,pn,pc,rfl,hps,hb1,hpa⟩))
 have R1:=hid (rt_start H.out (below_box2 w _) bx9 bl9 lt9 hb1 hps hpa);have PN:=hid hps.1
 have hp6:pn≤6:=by have:=OKP.out.1;have:=PN.out;omega
 have Z1:=hid (((P0.out 37).below (by omega) (by rw [rd_sz];exact bl9)).below (by omega) hb1);generalize hP:pts L.kind true=ps at *;have PW:=hid hP;clear hP hps hpa hb1 bx9 bl9 lt9
 go_loopw [13] (fun i wr=>∃(k:Nat) (M:LV) (r1 r2 r3 r4:SlV),k≤pn∧i=.int .i64 (k:Int)∧vDp ps L=vDp (ps.drop k) M∧RdZ (fun _=>True) w (w.heap.size+1) ps PA pn pc M r1 r2 r3 r4 wr∧LvF ps M∧BoxF wr w.heap.size 17 (lc L s1 s2 s3 s4)) (fun i _=>pn - (intOf i).toNat)
 case atStart=>exact ⟨0,L,s1,s2,s3,s4,by omega,rfl,rfl,R1.out,LM.out,Z1.out⟩
 case round=>
  obtain ⟨k,M,r1,r2,r3,r4,hk,rfl,hrun,hR,hM,hZ⟩:=hrel;have RR:=hid hR;have ZZ:=hid hZ;have MM:=hid hM;have RUN:=hid hrun;clear hR hZ hM hrun
  by_cases hlt:k<pn
  · obtain ⟨bp,rfl,hbp,hpc⟩:=RR.out.ps.2.2.2 (by omega)
    obtain ⟨x0,x1⟩:=hpc k hlt;have N:=hid (rgRun_at (ps:=ps) (k:=k) (L:=M) (by rw [PN.out];exact hlt));have OK:=hid (OKP.out.at_ k);obtain ⟨x,hx⟩:∃x,ps.getD k (0,0)=x:=⟨_,rfl⟩;have VT0:=MM.out.take (by rw [PN.out];exact hlt) hx;rw [hx] at x0 x1 N OK;obtain ⟨wk,fk⟩:=x;clear hpc hx;dsimp only at x0 x1 N OK VT0;unfold fval at x1;have RC:=run_fnum fk OK.out.2;have FZ:=hid (RR.out.fvZ (.cells #[.int .i64 (wk:Int),.func (.func (fnum fk)) #[.pointer (some ⟨w.heap.size+1,0,none⟩)] #[]] 161) 163)
    have VT:=hid VT0;obtain ⟨mb,hmb⟩:∃mb,vCo wk (vBl fk M WV.zero)=mb:=⟨_,rfl⟩;have MB:=hid hmb;have CM:=hid (fun t1 t2 w h=>may_any wk OK.out.1 (vBl fk M WV.zero) t1 t2 w VT.out h)
    cases mb with
    |true=>
     have N2:=hid (show vDp ps L=vDp (ps.drop (k+1)) (vCi fk M WV.zero) by rw [RUN.out,N.out,if_pos hmb]);clear hmb N RUN
     go_wp2_with (first
      |((with_reducible refine (fld_any fk OK.out.2 FZ.out.2.1).mono ?_);rintro e w3 ⟨rfl,q1,q2,q3,q4,u1,u2,F7,E7⟩;have R7:=hid (FZ.out.1.next (by have:=RR.out.bel.size;omega) (fun ad e=>by cases e;show bp≠_;omega) F7 E7 trivial);have Z7:=hid ((ZZ.out.below (by omega) FZ.out.2.2).ex2 (by omega) E7 (by omega) (by have:=RR.out.pl;omega));have V7:=hid F7;have VR:=hid (show vFa w3 (vBl fk M WV.zero) u1 u2 from ⟨F7.v1.1,F7.v2.1⟩);have x7:w3.cell? ⟨wr.heap.size,0,none⟩=some (.int .i64 (wk:Int)):=((E7.cell 0 (by simp;omega) (by have:=RR.out.pl;omega) (by omega)).trans (by simp));clear F7 E7)
      |((with_reducible refine vIn ?hg (.tmp 7) ?ho (wr.heap.size+1) ?hx (vBl fk M WV.zero) u1 u2 V7.out.val ?_);(case hg=>rfl);(case ho=>rfl);(case hx=>rfl))
      |(go_at_call 138;(with_reducible refine (CM.out u1 u2 _ VR.out).mono ?_);rintro e w5 ⟨rfl,hb5⟩;rw [MB.out];have R8:=hid (R7.out.keep hb5);have Z8:=hid (Z7.out.below (by omega) hb5)))
     go_roundw
     case rel=>exact ⟨k+1,vCi fk M WV.zero,q1,q2,q3,q4,by omega,by go_num,N2.out,R8.out,MM.out.put fk,Z8.out⟩
     case measure=>simp [intOf];omega
    |false=>
     have N2:=hid (show rb=false by rw [←RB.out,rgB_none (by rw [PW.out,RUN.out,N.out,if_neg (by rw [hmb];decide)])]);clear hmb N RUN
     go_wp2_with (first
      |((with_reducible refine (fld_any fk OK.out.2 FZ.out.2.1).mono ?_);rintro e w3 ⟨rfl,q1,q2,q3,q4,u1,u2,F7,E7⟩;have R7:=hid (FZ.out.1.next (by have:=RR.out.bel.size;omega) (fun ad e=>by cases e;show bp≠_;omega) F7 E7 trivial);have V7:=hid F7;have VR:=hid (show vFa w3 (vBl fk M WV.zero) u1 u2 from ⟨F7.v1.1,F7.v2.1⟩);have x7:w3.cell? ⟨wr.heap.size,0,none⟩=some (.int .i64 (wk:Int)):=((E7.cell 0 (by simp;omega) (by have:=RR.out.pl;omega) (by omega)).trans (by simp));clear F7 E7)
      |((with_reducible refine vIn ?hg (.tmp 7) ?ho (wr.heap.size+1) ?hx (vBl fk M WV.zero) u1 u2 V7.out.val ?_);(case hg=>rfl);(case ho=>rfl);(case hx=>rfl))
      |(go_at_call 138;(with_reducible refine (CM.out u1 u2 _ VR.out).mono ?_);rintro e w5 ⟨rfl,hb5⟩;rw [MB.out];have R8:=hid (R7.out.keep hb5)))
     go_ret;exact ⟨by rw [N2.out];rfl,R8.out.bel⟩
  · obtain rfl:k=pn:=by omega
    have RM:=hid (show vDp (pts L.kind true) L=some M by rw [PW.out,RUN.out,List.drop_eq_nil_of_le (by rw [PN.out];exact Nat.le_refl _)];rfl);have RE:=hid (show rb=((decide (0<k) && apB L) && vEz M (LV.new L.row L.kind)) by rw [←RB.out,rgB_some RM.out,PW.out,PN.out]);clear RUN
    by_cases p0:0<k
    rotate_left
    · obtain rfl:k=0:=by omega
      have R0:=hid (show rb=false by rw [RE.out];rfl);go_wp2;go_ret;exact ⟨by rw [R0.out];rfl,RR.out.bel⟩
    · have p1:(0:Int)<(k:Int):=by omega
      have CA:=hid (fun w h=>apart_any L s1 s2 s3 s4 w h);have LR:=hid (show LRead wr L s1 s2 s3 s4 from ⟨H.out.1.below RR.out.bel,H.out.2.1.below RR.out.bel,H.out.2.2.1.below RR.out.bel,H.out.2.2.2.below RR.out.bel⟩);obtain ⟨ap,hap⟩:∃ap,apB L=ap:=⟨_,rfl⟩;have AP:=hid hap;have RE2:=hid (show rb=(ap && vEz M (LV.new L.row L.kind)) by rw [RE.out,hap,decide_eq_true p0,Bool.true_and])
      clear hap
      cases ap with
      |false=>
       go_wp2_with (first
        |((with_reducible refine vAf ?hg (.tmp 1) ?ho w.heap.size ?hx L s1 s2 s3 s4 ZZ.out ?_);(case hg=>rfl);(case ho=>rfl);(case hx=>rfl))
        |(go_at_call 139;(with_reducible refine (CA.out _ LR.out).mono ?_);rintro e w5 ⟨rfl,hb5⟩;rw [AP.out]))
       go_ret;exact ⟨by rw [RE2.out];rfl,RR.out.bel.trans (hb5.mono RR.out.bel.size)⟩
      |true=>
       have CS:=hid (show ∀w,LRead w M r1 r2 r3 r4→Calls Tryz.prog 140 #[vAv M r1 r2 r3 r4,.agg #[.int .i64 L.row,.int .i64 L.kind,.string ⟨#[]⟩,.string ⟨#[]⟩,.string ⟨#[]⟩,.string ⟨#[]⟩,.string ⟨#[]⟩,.int .u64 0,.int .u32 0,.int .i64 0,.int .i64 0,.int .i64 0,.int .i64 0,.slice none 0 0,.slice none 0 0,.slice none 0 0,.slice none 0 0]] w fun e w'=>e=.returned (.bool (vEz M (LV.new L.row L.kind)))∧Below w.heap.size w w' from
        fun w h=>csame_any M (LV.new L.row L.kind) r1 r2 r3 r4 SlV.nil SlV.nil SlV.nil SlV.nil w h ⟨ISl.nil,ISl.nil,ISl.nil,ISl.nil⟩)
       go_wp2_with (first
        |((with_reducible refine vAf ?hg (.tmp 1) ?ho w.heap.size ?hx L s1 s2 s3 s4 ZZ.out ?_);(case hg=>rfl);(case ho=>rfl);(case hx=>rfl))
        |(go_at_call 139;(with_reducible refine (CA.out _ LR.out).mono ?_);rintro e w5 ⟨rfl,hb5⟩;rw [AP.out];have R5:=hid (RR.out.keep hb5);have Z5:=hid (ZZ.out.below (by omega) hb5);have z0:w5.cell? ⟨w.heap.size,0,none⟩=some (.int .i64 L.row):=Z5.out.cell 0 (by omega);have z1:w5.cell? ⟨w.heap.size,1,none⟩=some (.int .i64 L.kind):=Z5.out.cell 1 (by omega))
        |((with_reducible refine vAf ?hg (.tmp 34) ?ho (w.heap.size+1) ?hx M r1 r2 r3 r4 R5.out.box ?_);(case hg=>rfl);(case ho=>rfl);(case hx=>rfl))
        |(go_at_call 140;(with_reducible refine (CS.out _ R5.out.rd).mono ?_);rintro e w6 ⟨rfl,hb6⟩))
       go_ret;exact ⟨by rw [RE2.out];rfl,R5.out.bel.trans (hb6.mono R5.out.bel.size)⟩
theorem nm_len {s:List UInt8} (h:nmB s=true):s.length≤300:=by
 have:=((vGi s).1 h).2.1
 rw [vBa] at this;omega
end Go.Proofs.YtgmflecelnefcaaGreat
namespace Go.Proofs.YtgmflecelnefcaaGreat.Mac
open Go.Lib (hid)
open Go.RowKit
end Go.Proofs.YtgmflecelnefcaaGreat.Mac
namespace Go.Proofs.YtgmflecelnefcaaGreat
open Go.Lib (hid)
open Go.RowKit
open Go.Lib (itoa)
theorem wn_back {n lo hi:Int} (h0:lo≤n) (h1:n≤hi) (hs:n.natAbs<10000000000):nB (wnS n) lo hi=true∧nV (wnS n) lo hi=n:=nB_of (by have:=nF_back n lo hi hs;rw [if_pos ⟨h0,h1⟩] at this;exact this)
theorem wE_num {c:UInt8} {n lo hi:Int} (e:wdE c (wnS n)=if nB (wnS n) lo hi=true then 0 else 21) (h0:lo≤n) (h1:n≤hi) (hs:n.natAbs<10000000000):wdE c (wnS n)=0:=by rw [e,if_pos (wn_back h0 h1 hs).1]
theorem may0_of {s:List UInt8} (h:vCo 0 {WV.zero with text:=s}=true):nmB s=true:=by rw [vBe rfl] at h;exact h
theorem vHr {w:Nat} {lo hi x:Int} (ho:optB w=false) (hw:mayW w {WV.zero with n:=x}=(decide (lo≤x) && decide (x≤hi))) (h:vCo w {WV.zero with n:=x}=true):lo≤x∧x≤hi:=by
 rw [vBe ho,hw,Bool.and_eq_true,decide_eq_true_eq,decide_eq_true_eq] at h;exact h
theorem rg_of {w f:Nat} {ps:List (Nat×Nat)} {L M:LV} (h:vDp ((w,f) :: ps) L=some M):vCo w (vBl f L WV.zero)=true∧vDp ps (vCi f L WV.zero)=some M:=by
 rw [vDp] at h
 by_cases g:vCo w (vBl f L WV.zero)=true
 · rw [if_pos g] at h;exact ⟨g,h⟩
 · rw [if_neg g] at h;cases h
theorem getD_app {α:Type} (xs ys:List α) (i:Nat) (d:α):(xs++ys).getD i d=if i<xs.length then xs.getD i d else ys.getD (i - xs.length) d:=by
 by_cases h:i<xs.length
 · rw [if_pos h];simp [List.getD,List.getElem?_append_left h]
 · rw [if_neg h];simp [List.getD,List.getElem?_append_right (Nat.le_of_not_lt h)]
theorem getD_old {α:Type} {xs ys:List α} {i:Nat} {d:α} (h:i<xs.length):(xs++ys).getD i d=xs.getD i d:=by rw [getD_app,if_pos h]
theorem getD_new {α:Type} {xs ys:List α} {j:Nat} {d:α}:(xs++ys).getD (xs.length+j) d=ys.getD j d:=by rw [getD_app,if_neg (by omega),Nat.add_sub_cancel_left]
theorem atK_cases (dev v:Int):∀(xs:List DomV) (k:Nat),atK xs dev v k= -1∨(k:Int)≤atK xs dev v k
 | [],k=>.inl rfl
 |d :: r,k=>by
  unfold atK
  by_cases c:d.dev=dev∧d.vlan=v
  · rw [if_pos c];exact .inr (Int.le_refl _)
  · rw [if_neg c]
    rcases atK_cases dev v r (k+1) with h|h
    · exact .inl h
    · exact .inr (by omega)
theorem atF_cases (N:NV) (dev v:Int):atF N dev v= -1∨0≤atF N dev v:=atK_cases dev v N.domains 0
theorem atF_lt {N:NV} {dev v:Int} (h:0≤atF N dev v):∃j,j<N.domains.length∧atF N dev v=(j:Int)∧(N.domains.getD j DomV.zero).dev=dev∧(N.domains.getD j DomV.zero).vlan=v:=by
 obtain ⟨j,h1,h2,h3,h4⟩:=atK_place dev v N.domains 0 h;exact ⟨j,h1,by unfold atF;rw [h2];congr 1;omega,h3,h4⟩
noncomputable def vCk (N:NV) (L:LV) (k:Int):Bool:=decide (L.kind=k) && (rgB L && vHw N)
theorem vDm {N:NV} {L:LV} {k:Int}:vCk N L k=true↔L.kind=k∧rgB L=true∧NetOk N:=by
 unfold vCk;rw [Bool.and_eq_true,Bool.and_eq_true,decide_eq_true_eq,netB_iff]
theorem dv_place {N:NV} {s:List UInt8} (h:0≤dvF N s):∃j,j<N.devices.length∧dvF N s=(j:Int)∧(N.devices.getD j DevV.zero).name=s:=by
 rcases dvK_fst s N.devices 0 _ rfl with ⟨j,h1,h2,h3,_⟩|⟨h1,_⟩
 · exact ⟨j,h1,by unfold dvF;rw [h2];congr 1;omega,h3⟩
 · unfold dvF at h;rw [h1] at h;omega
theorem dv_none {N:NV} {s:List UInt8} (h:dvF N s<0):∀i,i<N.devices.length→(N.devices.getD i DevV.zero).name≠s:=by
 rcases dvK_fst s N.devices 0 _ rfl with ⟨j,h1,h2,_⟩|⟨_,h2⟩
 · unfold dvF at h;rw [h2] at h;omega
 · exact h2
theorem dv_neg {N:NV} {s:List UInt8} (h:dvF N s<0):dvF N s= -1:=by
 rcases dvK_fst s N.devices 0 _ rfl with ⟨j,h1,h2,_⟩|⟨h1,_⟩
 · unfold dvF at h;rw [h2] at h;omega
 · exact h1
def fdK:List DomV→Int→Int→Nat→Int
 | [],_,_,_=> -1
 |d :: r,dev,v,k=>if d.dev=dev∧d.vni=v∧v≠0 then (k:Int) else fdK r dev v (k+1)
def fdF (N:NV) (dev v:Int):Int:=fdK N.domains dev v 0
theorem fdK_at {xs:List DomV} {k:Nat} (h:k<xs.length) (dev v:Int):fdK (xs.drop k) dev v k=if (xs.getD k DomV.zero).dev=dev∧(xs.getD k DomV.zero).vni=v∧v≠0 then (k:Int) else fdK (xs.drop (k+1)) dev v (k+1):=by
 have e1:xs.drop k=xs.getD k DomV.zero :: xs.drop (k+1):=by rw [List.drop_eq_getElem_cons h];simp [List.getD,List.getElem?_eq_getElem h]
 rw [e1]
 rfl
theorem fdK_fst (dev v:Int):∀(xs:List DomV) (k:Nat),(∃j,j<xs.length∧fdK xs dev v k=((k+j:Nat):Int)∧((xs.getD j DomV.zero).dev=dev∧(xs.getD j DomV.zero).vni=v∧v≠0)∧∀i,i<j→¬((xs.getD i DomV.zero).dev=dev∧(xs.getD i DomV.zero).vni=v∧v≠0))∨(fdK xs dev v k= -1∧∀i,i<xs.length→¬((xs.getD i DomV.zero).dev=dev∧(xs.getD i DomV.zero).vni=v∧v≠0))
 | [],k=>.inr ⟨rfl,fun i hi=>absurd hi (Nat.not_lt_zero _)⟩
 |d :: r,k=>by
  by_cases hd:d.dev=dev∧d.vni=v∧v≠0
  · exact .inl ⟨0,by simp,by rw [fdK,if_pos hd];simp,hd,fun i hi=>absurd hi (Nat.not_lt_zero _)⟩
  · rcases fdK_fst dev v r (k+1) with ⟨j,h1,h2,h3,h4⟩|⟨h1,h2⟩
    · refine .inl ⟨j+1,by simpa using h1,by rw [fdK,if_neg hd,h2];congr 1;omega,by simpa using h3,fun i hi=>?_⟩
      match i with
      |0=>simpa using hd
      |i+1=>simpa using h4 i (by omega)
    · refine .inr ⟨by rw [fdK,if_neg hd,h1],fun i hi=>?_⟩
      match i with
      |0=>simpa using hd
      |i+1=>simpa using h2 i (by simpa using hi)
theorem vGw (N:NV) (dev v:Int):fdF N dev v= -1∨∃j,j<N.domains.length∧fdF N dev v=(j:Int)∧(N.domains.getD j DomV.zero).dev=dev∧(N.domains.getD j DomV.zero).vni=v∧v≠0:=by
 rcases fdK_fst dev v N.domains 0 with ⟨j,h1,h2,h3,_⟩|⟨h,_⟩
 · exact .inr ⟨j,h1,by unfold fdF;rw [h2];congr 1;omega,h3⟩
 · exact .inl h
def owK:List DevV→Int→Nat→Int
 | [],_,_=> -1
 |d :: r,a,k=>if d.vtep=a then (k:Int) else owK r a (k+1)
def owF (N:NV) (a:Int):Int:=owK N.devices a 0
theorem owK_at {xs:List DevV} {k:Nat} (h:k<xs.length) (a:Int):owK (xs.drop k) a k=if (xs.getD k DevV.zero).vtep=a then (k:Int) else owK (xs.drop (k+1)) a (k+1):=by
 have e1:xs.drop k=xs.getD k DevV.zero :: xs.drop (k+1):=by rw [List.drop_eq_getElem_cons h];simp [List.getD,List.getElem?_eq_getElem h]
 rw [e1]
 rfl
theorem owK_fst (a:Int):∀(xs:List DevV) (k:Nat),(∃j,j<xs.length∧owK xs a k=((k+j:Nat):Int)∧(xs.getD j DevV.zero).vtep=a∧∀i,i<j→¬(xs.getD i DevV.zero).vtep=a)∨(owK xs a k= -1∧∀i,i<xs.length→¬(xs.getD i DevV.zero).vtep=a)
 | [],k=>.inr ⟨rfl,fun i hi=>absurd hi (Nat.not_lt_zero _)⟩
 |d :: r,k=>by
  by_cases hd:d.vtep=a
  · exact .inl ⟨0,by simp,by rw [owK,if_pos hd];simp,hd,fun i hi=>absurd hi (Nat.not_lt_zero _)⟩
  · rcases owK_fst a r (k+1) with ⟨j,h1,h2,h3,h4⟩|⟨h1,h2⟩
    · refine .inl ⟨j+1,by simpa using h1,by rw [owK,if_neg hd,h2];congr 1;omega,by simpa using h3,fun i hi=>?_⟩
      match i with
      |0=>simpa using hd
      |i+1=>simpa using h4 i (by omega)
    · refine .inr ⟨by rw [owK,if_neg hd,h1],fun i hi=>?_⟩
      match i with
      |0=>simpa using hd
      |i+1=>simpa using h2 i (by simpa using hi)
theorem ow_place (N:NV) (a:Int):owF N a= -1∨∃j,j<N.devices.length∧owF N a=(j:Int)∧(N.devices.getD j DevV.zero).vtep=a:=by
 rcases owK_fst a N.devices 0 with ⟨j,h1,h2,h3,_⟩|⟨h,_⟩
 · exact .inr ⟨j,h1,by unfold owF;rw [h2];congr 1;omega,h3⟩
 · exact .inl h
def lsK:List FloodV→Int→Int→Nat→Int
 | [],_,_,_=> -1
 |f :: r,dev,v,k=>if f.dev=dev∧f.vni=v then (k:Int) else lsK r dev v (k+1)
def lsF (N:NV) (dev v:Int):Int:=lsK N.floods dev v 0
theorem lsK_at {xs:List FloodV} {k:Nat} (h:k<xs.length) (dev v:Int):lsK (xs.drop k) dev v k=if (xs.getD k FloodV.zero).dev=dev∧(xs.getD k FloodV.zero).vni=v then (k:Int) else lsK (xs.drop (k+1)) dev v (k+1):=by
 have e1:xs.drop k=xs.getD k FloodV.zero :: xs.drop (k+1):=by rw [List.drop_eq_getElem_cons h];simp [List.getD,List.getElem?_eq_getElem h]
 rw [e1]
 rfl
theorem lsK_fst (dev v:Int):∀(xs:List FloodV) (k:Nat),(∃j,j<xs.length∧lsK xs dev v k=((k+j:Nat):Int)∧((xs.getD j FloodV.zero).dev=dev∧(xs.getD j FloodV.zero).vni=v)∧∀i,i<j→¬((xs.getD i FloodV.zero).dev=dev∧(xs.getD i FloodV.zero).vni=v))∨(lsK xs dev v k= -1∧∀i,i<xs.length→¬((xs.getD i FloodV.zero).dev=dev∧(xs.getD i FloodV.zero).vni=v))
 | [],k=>.inr ⟨rfl,fun i hi=>absurd hi (Nat.not_lt_zero _)⟩
 |d :: r,k=>by
  by_cases hd:d.dev=dev∧d.vni=v
  · exact .inl ⟨0,by simp,by rw [lsK,if_pos hd];simp,hd,fun i hi=>absurd hi (Nat.not_lt_zero _)⟩
  · rcases lsK_fst dev v r (k+1) with ⟨j,h1,h2,h3,h4⟩|⟨h1,h2⟩
    · refine .inl ⟨j+1,by simpa using h1,by rw [lsK,if_neg hd,h2];congr 1;omega,by simpa using h3,fun i hi=>?_⟩
      match i with
      |0=>simpa using hd
      |i+1=>simpa using h4 i (by omega)
    · refine .inr ⟨by rw [lsK,if_neg hd,h1],fun i hi=>?_⟩
      match i with
      |0=>simpa using hd
      |i+1=>simpa using h2 i (by simpa using hi)
theorem vFr (N:NV) (dev v:Int):lsF N dev v= -1∨∃j,j<N.floods.length∧lsF N dev v=(j:Int)∧(N.floods.getD j FloodV.zero).dev=dev∧(N.floods.getD j FloodV.zero).vni=v:=by
 rcases lsK_fst dev v N.floods 0 with ⟨j,h1,h2,h3,_⟩|⟨h,_⟩
 · exact .inr ⟨j,h1,by unfold lsF;rw [h2];congr 1;omega,h3⟩
 · exact .inl h
theorem setD_len {α:Type} (xs:List α) (k:Nat) (v:α):(xs.set k v).length=xs.length:=by simp
theorem setD_at {α:Type} {xs:List α} {k:Nat} (h:k<xs.length) (v d:α):(xs.set k v).getD k d=v:=by simp [List.getD,h]
def vFy (N:NV) (k:Nat) (a:Int):NV:={N with devices:=N.devices.set k {N.devices.getD k DevV.zero with vtep:=a}}
def vGr (N:NV) (k:Nat) (v row:Int):NV:={N with domains:=N.domains.set k {N.domains.getD k DomV.zero with vni:=v,row:=row}}
def vBg (N:NV) (row:Int) (dev:Nat) (v:Int) (xs:List Int):NV:={N with floods:=N.floods++[⟨row,dev,v,xs⟩]}
theorem fl_len (N:NV) (row:Int) (dev:Nat) (v:Int) (xs:List Int):(vBg N row dev v xs).floods.length=N.floods.length+1:=by
 show (N.floods++[_]).length=_
 simp
theorem vIh {N:NV} (row:Int) {dev:Nat} (v:Int) {xs:List Int} (h:NetOk N) (hd:dev<N.devices.length) (hx:xs.length≤16) (z:N.floods.length<48):NetOk (vBg N row dev v xs):=by
 have W:=fl_len N row dev v xs;refine ⟨h.zdv,h.zpt,h.zlk,h.zdm,h.zst,by rw [W];omega,h.zvr,h.zir,⟨fun i hi=>?_,fun i hi=>h.dm.2 i hi⟩,fun i hi=>?_,fun i hi=>?_,⟨fun i hi=>?_,fun i hi=>?_,fun i hi=>?_,fun i hi=>?_⟩⟩
 · have g:=h.dm.1 i hi
   exact ⟨g.dev,g.vlan,g.vni,g.one,g.irb⟩
 · have g:=h.pt i hi
   exact ⟨g.dev,g.lo,g.hi,g.tag,g.out,g.one,g.dom,g.doms,g.link⟩
 · have g:=h.lk i hi
   exact ⟨g.a,g.b,g.dev,g.la,g.lb⟩
 · have g:=h.rs.st i hi
   exact ⟨g.dom,g.port,g.dev,g.mbr⟩
 · rw [W] at hi
   by_cases ho:i<N.floods.length
   · rw [show (vBg N row dev v xs).floods.getD i FloodV.zero=N.floods.getD i FloodV.zero from getD_old ho]
     have g:=h.rs.fl i ho;exact ⟨g.dev,g.most⟩
   · obtain rfl:i=N.floods.length:=by omega
     have e:(vBg N row dev v xs).floods.getD N.floods.length FloodV.zero=⟨row,dev,v,xs⟩:=by
      show (N.floods++[_]).getD _ _=_
      have:=getD_new (xs:=N.floods) (ys:=[(⟨row,dev,v,xs⟩:FloodV)]) (j:=0) (d:=FloodV.zero)
      rw [Nat.add_zero] at this;rw [this]
      rfl
     rw [e];exact ⟨(vBb _ _).2 ⟨by show (0:Int)≤(dev:Int);omega,by show (dev:Int)<(N.devices.length:Int);omega⟩,hx⟩
 · have g:=h.rs.vr i hi
   exact ⟨g.dev,g.imp,g.exp⟩
 · have g:=h.rs.ir i hi
   exact ⟨g.dom,g.vrf,g.bits,g.dev,g.irb⟩
noncomputable def vtE (N:NV) (L:LV):Int:=if vCk N L 5=false then 2 else if dvF N L.dev<0 then 31 else if 0<(N.devices.getD (dvF N L.dev).toNat DevV.zero).vtep∨0≤owF N L.addr then 30 else 0
noncomputable def vtN (N:NV) (L:LV):NV:=if vtE N L=0 then vFy N (dvF N L.dev).toNat L.addr else NV.zero
noncomputable def vnE (N:NV) (L:LV):Int:=if vCk N L 6=false then 2 else if dvF N L.dev<0 then 31 else if (N.devices.getD (dvF N L.dev).toNat DevV.zero).vtep=0 then 35 else if atF N (dvF N L.dev) L.vlan<0 then 32 else if 0<(N.domains.getD (atF N (dvF N L.dev) L.vlan).toNat DomV.zero).vni∨0≤fdF N (dvF N L.dev) L.num then 30 else 0
noncomputable def vnN (N:NV) (L:LV):NV:=if vnE N L=0 then vGr N (atF N (dvF N L.dev) L.vlan).toNat L.num L.row else NV.zero
noncomputable def flE (N:NV) (L:LV):Int:=if vCk N L 7=false then 2 else if dvF N L.dev<0 then 31 else if fdF N (dvF N L.dev) L.num<0 then 31 else if 0≤lsF N (dvF N L.dev) L.num then 30 else if memB L.addrs (N.devices.getD (dvF N L.dev).toNat DevV.zero).vtep=true then 36 else if 48≤N.floods.length then 3 else 0
noncomputable def flN (N:NV) (L:LV):NV:=if flE N L=0 then vBg N L.row (dvF N L.dev).toNat L.num L.addrs else NV.zero
end Go.Proofs.YtgmflecelnefcaaGreat
