import Derived.Test.YtkpbbfehglihlaaGreatDoorDs13
import Derived.Test.YtkpbbfehglihlaaGreatDoorDs27
import Derived.Test.YtkpbbfehglihlaaGreatDoorDs29
import Derived.Test.YtkpbbfehglihlaaGreatDoorDs51
import Derived.Test.YtkpbbfehglihlaaGreatDoorDs52
import Derived.Test.YtkpbbfehglihlaaGreatDoorDs53
import Derived.Test.YtkpbbfehglihlaaGreatDoorDs26
import Derived.Test.YtkpbbfehglihlaaGreatDoorDs12
import Derived.Test.YtkpbbfehglihlaaGreatDoorDs07
import Derived.RegionTactic
import Derived.WalkMore
set_option maxRecDepth 100000
set_option maxHeartbeats 40000000
namespace Go.Proofs.YtkpbbfehglihlaaGreatDoor
open Go.Lib (hid)
open Go.RowKit
theorem vBn {L M:LV} (h:L≠M):vFf L M=false:=by
 cases e:vFf L M with
 |false=>rfl
 |true=>exact absurd ((vFi L M).1 e) h
theorem csame_any (L M:LV) (s1 s2 s3 s4 t1 t2 t3 t4:SlV) (w:World) (h:LRead w L s1 s2 s3 s4) (g:LRead w M t1 t2 t3 t4):
 Calls Tryz.prog 91 #[vBk L s1 s2 s3 s4,vBk M t1 t2 t3 t4] w fun e w'=>e=.returned (.bool (vFf L M))∧Below w.heap.size w w':=by
 obtain ⟨f0,f1,f2,f3,f4,f5,f6,f7,f8,f9,f10,f11,f12,f13,f14,f15,f16⟩:=L;obtain ⟨g0,g1,g2,g3,g4,g5,g6,g7,g8,g9,g10,g11,g12,g13,g14,g15,g16⟩:=M;obtain ⟨h13,h14,h15,h16⟩:=h;obtain ⟨k13,k14,k15,k16⟩:=g;dsimp only at h13 h14 h15 h16 k13 k14 k15 k16
 by_cases e0:f0=g0
 rotate_left
 · rw [vBn (fun e=>e0 (congrArg LV.row e))]
   exact cs_0 f0 g0 f1 g1 f2 g2 f3 g3 f4 g4 f5 g5 f6 g6 f7 g7 f8 g8 f9 g9 f10 g10 f11 g11 f12 g12 s1 s2 s3 s4 t1 t2 t3 t4 w e0
 subst e0
 by_cases e1:f1=g1
 rotate_left
 · rw [vBn (fun e=>e1 (congrArg LV.kind e))]
   exact cs_1 f0 f1 g1 f2 g2 f3 g3 f4 g4 f5 g5 f6 g6 f7 g7 f8 g8 f9 g9 f10 g10 f11 g11 f12 g12 s1 s2 s3 s4 t1 t2 t3 t4 w e1
 subst e1
 by_cases e2:f2=g2
 rotate_left
 · rw [vBn (fun e=>e2 (congrArg LV.dev e))]
   exact cs_2 f0 f1 f2 g2 f3 g3 f4 g4 f5 g5 f6 g6 f7 g7 f8 g8 f9 g9 f10 g10 f11 g11 f12 g12 s1 s2 s3 s4 t1 t2 t3 t4 w e2
 subst e2
 by_cases e3:f3=g3
 rotate_left
 · rw [vBn (fun e=>e3 (congrArg LV.port e))]
   exact cs_3 f0 f1 f2 f3 g3 f4 g4 f5 g5 f6 g6 f7 g7 f8 g8 f9 g9 f10 g10 f11 g11 f12 g12 s1 s2 s3 s4 t1 t2 t3 t4 w e3
 subst e3
 by_cases e4:f4=g4
 rotate_left
 · rw [vBn (fun e=>e4 (congrArg LV.peer e))]
   exact cs_4 f0 f1 f2 f3 f4 g4 f5 g5 f6 g6 f7 g7 f8 g8 f9 g9 f10 g10 f11 g11 f12 g12 s1 s2 s3 s4 t1 t2 t3 t4 w e4
 subst e4
 by_cases e5:f5=g5
 rotate_left
 · rw [vBn (fun e=>e5 (congrArg LV.far e))]
   exact cs_5 f0 f1 f2 f3 f4 f5 g5 f6 g6 f7 g7 f8 g8 f9 g9 f10 g10 f11 g11 f12 g12 s1 s2 s3 s4 t1 t2 t3 t4 w e5
 subst e5
 by_cases e6:f6=g6
 rotate_left
 · rw [vBn (fun e=>e6 (congrArg LV.name e))]
   exact cs_6 f0 f1 f2 f3 f4 f5 f6 g6 f7 g7 f8 g8 f9 g9 f10 g10 f11 g11 f12 g12 s1 s2 s3 s4 t1 t2 t3 t4 w e6
 subst e6
 by_cases e7:f7=g7
 rotate_left
 · rw [vBn (fun e=>e7 (congrArg LV.mac e))]
   exact cs_7 f0 f1 f2 f3 f4 f5 f6 f7 g7 f8 g8 f9 g9 f10 g10 f11 g11 f12 g12 s1 s2 s3 s4 t1 t2 t3 t4 w e7
 subst e7
 by_cases e8:f8=g8
 rotate_left
 · rw [vBn (fun e=>e8 (congrArg LV.addr e))]
   exact cs_8 f0 f1 f2 f3 f4 f5 f6 f7 f8 g8 f9 g9 f10 g10 f11 g11 f12 g12 s1 s2 s3 s4 t1 t2 t3 t4 w e8
 subst e8
 by_cases e9:f9=g9
 rotate_left
 · rw [vBn (fun e=>e9 (congrArg LV.bits e))]
   exact cs_9 f0 f1 f2 f3 f4 f5 f6 f7 f8 f9 g9 f10 g10 f11 g11 f12 g12 s1 s2 s3 s4 t1 t2 t3 t4 w e9
 subst e9
 by_cases e10:f10=g10
 rotate_left
 · rw [vBn (fun e=>e10 (congrArg LV.vlan e))]
   exact cs_10 f0 f1 f2 f3 f4 f5 f6 f7 f8 f9 f10 g10 f11 g11 f12 g12 s1 s2 s3 s4 t1 t2 t3 t4 w e10
 subst e10
 by_cases e11:f11=g11
 rotate_left
 · rw [vBn (fun e=>e11 (congrArg LV.num e))]
   exact cs_11 f0 f1 f2 f3 f4 f5 f6 f7 f8 f9 f10 f11 g11 f12 g12 s1 s2 s3 s4 t1 t2 t3 t4 w e11
 subst e11
 by_cases e12:f12=g12
 rotate_left
 · rw [vBn (fun e=>e12 (congrArg LV.cost e))]
   exact cs_12 f0 f1 f2 f3 f4 f5 f6 f7 f8 f9 f10 f11 f12 g12 s1 s2 s3 s4 t1 t2 t3 t4 w e12
 subst e12
 by_cases e13:f13=g13
 rotate_left
 · rw [vBn (fun e=>e13 (congrArg LV.tagged e))]
   exact cs_13 f0 f1 f2 f3 f4 f5 f6 f7 f8 f9 f10 f11 f12 f13 g13 s1 s2 s3 s4 t1 t2 t3 t4 w h13 k13 e13
 subst e13
 by_cases e14:f14=g14
 rotate_left
 · rw [vBn (fun e=>e14 (congrArg LV.imports e))]
   exact cs_14 f0 f1 f2 f3 f4 f5 f6 f7 f8 f9 f10 f11 f12 f13 f14 g14 s1 s2 s3 s4 t1 t2 t3 t4 w h13 k13 h14 k14 e14
 subst e14
 by_cases e15:f15=g15
 rotate_left
 · rw [vBn (fun e=>e15 (congrArg LV.exports e))]
   exact cs_15 f0 f1 f2 f3 f4 f5 f6 f7 f8 f9 f10 f11 f12 f13 f14 f15 g15 s1 s2 s3 s4 t1 t2 t3 t4 w h13 k13 h14 k14 h15 k15 e15
 subst e15
 by_cases e16:f16=g16
 rotate_left
 · rw [vBn (fun e=>e16 (congrArg LV.addrs e))]
   exact cs_16 f0 f1 f2 f3 f4 f5 f6 f7 f8 f9 f10 f11 f12 f13 f14 f15 f16 g16 s1 s2 s3 s4 t1 t2 t3 t4 w h13 k13 h14 k14 h15 k15 h16 k16 e16
 subst e16;rw [vFs];exact cs_17 f0 f1 f2 f3 f4 f5 f6 f7 f8 f9 f10 f11 f12 f13 f14 f15 f16 s1 s2 s3 s4 t1 t2 t3 t4 w h13 k13 h14 k14 h15 k15 h16 k16
structure LvM (L:LV):Prop where
 sz:LvSz L
 mac:0≤L.mac∧L.mac<18446744073709551616
 addr:0≤L.addr∧L.addr<4294967296
theorem LvM.take {L:LV} (h:LvM L) (f:Nat):VOk (vBl f L WV.zero):=by
 have t:=h.sz.txt;have l:=h.sz.lst
 match f with
 |0=>exact ⟨t.1,vGe,vGj,vFc⟩
 |1=>exact ⟨t.2.1,vGe,vGj,vFc⟩
 |2=>exact ⟨t.2.2.1,vGe,vGj,vFc⟩
 |3=>exact ⟨t.2.2.2.1,vGe,vGj,vFc⟩
 |4=>exact ⟨t.2.2.2.2,vGe,vGj,vFc⟩
 |5=>exact ⟨show ([116,114,117,110,107]:List UInt8).length≤1000000 by decide,vGe,vGj,vFc⟩
 |6|7|8=>exact ⟨vo_t,vGe,vGj,vFc⟩
 |9=>exact ⟨vo_t,h.mac,vGj,vFc⟩
 |10=>exact ⟨vo_t,vGe,h.addr,vFc⟩
 |11=>exact ⟨vo_t,vGe,h.addr,vFc⟩
 |12=>exact ⟨vo_t,vGe,vGj,⟨l.1,vFc.2⟩⟩
 |13=>exact ⟨vo_t,vGe,vGj,⟨l.2.1,vFc.2⟩⟩
 |14=>exact ⟨vo_t,vGe,vGj,⟨l.2.2.1,vFc.2⟩⟩
 |15=>exact ⟨vo_t,vGe,vGj,⟨vFc.1,l.2.2.2⟩⟩
 |f+16=>exact vok_zero
theorem rgRun_at {ps:List (Nat×Nat)} {k:Nat} {L:LV} (h:k<ps.length):
 vCp (ps.drop k) L=if vCq (ps.getD k (0,0)).1 (vBl (ps.getD k (0,0)).2 L WV.zero)=true then vCp (ps.drop (k+1)) (vCo (ps.getD k (0,0)).2 L WV.zero) else none:=by
 have e1:ps.drop k=ps.getD k (0,0) :: ps.drop (k+1):=by rw [List.drop_eq_getElem_cons h];simp [List.getD,List.getElem?_eq_getElem h]
 rw [e1];obtain ⟨w,f⟩:=ps.getD k (0,0);rw [vCp]
theorem vIa {ops:Array Oper} {rest:List Oper} {op:Oper} {a:Act} {w:World} {Q:Exit→Act→World→Prop} (hgd:op.guard=none) (x:Operand) (ho:op.op=.load 129 x)
 (p:Nat) (hx:a.eval x=.pointer (some ⟨p,0,none⟩)) (V:WV) (t1 t2:SlV) (hb:BoxF w p 6 (vc V t1 t2)) (h:wpList Tryz.prog ops Q rest (a.put op.dst (vHg V t1 t2)) w):wpList Tryz.prog ops Q (op :: rest) a w:=by
 obtain ⟨d,hd1,hd2⟩:=val_desc;exact wpList_load_mid hgd 129 x ho p 0 hx (valC V t1 t2) d hb.rangeV hd1 hd2 val_size h
theorem RdZ.fvZ {Z:LV→Prop} {w wr:World} {p:Nat} {ps:List (Nat×Nat)} {A:Option Addr} {n c:Nat} {L:LV} {s1 s2 s3 s4:SlV} (h:RdZ Z w p ps A n c L s1 s2 s3 s4 wr) (o:Obj) (T:TypeId):
 RdZ Z w p ps A n c L s1 s2 s3 s4 ((wr.alloc o).alloc (.cells #[.string ⟨#[]⟩,.int .i64 0,.int .u64 0,.int .u32 0,.slice none 0 0,.slice none 0 0] T))∧
 FV ((wr.alloc o).alloc (.cells #[.string ⟨#[]⟩,.int .i64 0,.int .u64 0,.int .u32 0,.slice none 0 0,.slice none 0 0] T)) p (wr.heap.size+1) L s1 s2 s3 s4 WV.zero SlV.nil SlV.nil∧Below wr.heap.size wr ((wr.alloc o).alloc (.cells #[.string ⟨#[]⟩,.int .i64 0,.int .u64 0,.int .u32 0,.slice none 0 0,.slice none 0 0] T)):=by
 have B:=vAi wr o (.cells #[.string ⟨#[]⟩,.int .i64 0,.int .u64 0,.int .u32 0,.slice none 0 0,.slice none 0 0] T);have R6:=h.keep B;have hlt:p<wr.heap.size:=h.pl;have vb:=(SV.start (wr.alloc o) T).box;rw [rd_sz] at vb
 have off:∀(k:IntKind) (s:SlV) (xs:List Int),ISl wr k s.A s.n s.c xs→OffP (wr.heap.size+1) s:=fun k s xs hi ad e e2=>by have:=lt_isl hi ad e e2;omega
 exact ⟨R6,R6.fv (by omega) vb ⟨ISl.nil,ISl.nil⟩ (off _ _ _ h.rd.1) (off _ _ _ h.rd.2.1) (off _ _ _ h.rd.2.2.1) (off _ _ _ h.rd.2.2.2) (fun ad e=>by cases e) (fun ad e=>by cases e),B⟩
def LvF (ps:List (Nat×Nat)) (L:LV):Prop:=∀f,f∈ps.map (·.2)→VOk (vBl f L WV.zero)
def LvK (L:LV):Prop:=LvF (pts L.kind true) L
theorem fput_cases (f:Nat) (L:LV):((vCo f L WV.zero).dev=L.dev∨(vCo f L WV.zero).dev=[])∧((vCo f L WV.zero).port=L.port∨(vCo f L WV.zero).port=[])∧((vCo f L WV.zero).peer=L.peer∨(vCo f L WV.zero).peer=[])∧((vCo f L WV.zero).far=L.far∨(vCo f L WV.zero).far=[])∧((vCo f L WV.zero).name=L.name∨(vCo f L WV.zero).name=[])∧((vCo f L WV.zero).mac=L.mac∨(vCo f L WV.zero).mac=0)∧((vCo f L WV.zero).addr=L.addr∨(vCo f L WV.zero).addr=0)∧((vCo f L WV.zero).tagged=L.tagged∨(vCo f L WV.zero).tagged=[])∧((vCo f L WV.zero).imports=L.imports∨(vCo f L WV.zero).imports=[])∧((vCo f L WV.zero).exports=L.exports∨(vCo f L WV.zero).exports=[])∧((vCo f L WV.zero).addrs=L.addrs∨(vCo f L WV.zero).addrs=[]):=by
 match f with
 |0|1|2|3|4|5|6|7|8|9|10|11|12|13|14|15=>simp [vCo,WV.zero]
 |f+16=>simp [vCo]
theorem vok_put {g:Nat} {L:LV} (f:Nat) (h:VOk (vBl g L WV.zero)):VOk (vBl g (vCo f L WV.zero) WV.zero):=by
 obtain ⟨c0,c1,c2,c3,c4,c5,c6,c7,c8,c9,c10⟩:=fput_cases f L;have ht:=h.txt;have hm:=h.mac;have ha:=h.addr;have hl:=h.lst
 match g with
 |0=>exact ⟨by rcases c0 with e|e<;>rw [show (vBl 0 (vCo f L WV.zero) WV.zero).text=_ from e]<;>first|exact ht|exact vo_t,vGe,vGj,vFc⟩
 |1=>exact ⟨by rcases c1 with e|e<;>rw [show (vBl 1 (vCo f L WV.zero) WV.zero).text=_ from e]<;>first|exact ht|exact vo_t,vGe,vGj,vFc⟩
 |2=>exact ⟨by rcases c2 with e|e<;>rw [show (vBl 2 (vCo f L WV.zero) WV.zero).text=_ from e]<;>first|exact ht|exact vo_t,vGe,vGj,vFc⟩
 |3=>exact ⟨by rcases c3 with e|e<;>rw [show (vBl 3 (vCo f L WV.zero) WV.zero).text=_ from e]<;>first|exact ht|exact vo_t,vGe,vGj,vFc⟩
 |4=>exact ⟨by rcases c4 with e|e<;>rw [show (vBl 4 (vCo f L WV.zero) WV.zero).text=_ from e]<;>first|exact ht|exact vo_t,vGe,vGj,vFc⟩
 |5=>exact ⟨ht,vGe,vGj,vFc⟩
 |6|7|8=>exact ⟨vo_t,vGe,vGj,vFc⟩
 |9=>exact ⟨vo_t,by rcases c5 with e|e<;>rw [show (vBl 9 (vCo f L WV.zero) WV.zero).mac=_ from e]<;>first|exact hm|exact vGe,vGj,vFc⟩
 |10=>exact ⟨vo_t,vGe,by rcases c6 with e|e<;>rw [show (vBl 10 (vCo f L WV.zero) WV.zero).addr=_ from e]<;>first|exact ha|exact vGj,vFc⟩
 |11=>exact ⟨vo_t,vGe,by rcases c6 with e|e<;>rw [show (vBl 11 (vCo f L WV.zero) WV.zero).addr=_ from e]<;>first|exact ha|exact vGj,vFc⟩
 |12=>exact ⟨vo_t,vGe,vGj,by rcases c7 with e|e<;>rw [show (vBl 12 (vCo f L WV.zero) WV.zero).list=_ from e]<;>first|exact ⟨hl.1,vFc.2⟩|exact vFc⟩
 |13=>exact ⟨vo_t,vGe,vGj,by rcases c8 with e|e<;>rw [show (vBl 13 (vCo f L WV.zero) WV.zero).list=_ from e]<;>first|exact ⟨hl.1,vFc.2⟩|exact vFc⟩
 |14=>exact ⟨vo_t,vGe,vGj,by rcases c9 with e|e<;>rw [show (vBl 14 (vCo f L WV.zero) WV.zero).list=_ from e]<;>first|exact ⟨hl.1,vFc.2⟩|exact vFc⟩
 |15=>exact ⟨vo_t,vGe,vGj,by rcases c10 with e|e<;>rw [show (vBl 15 (vCo f L WV.zero) WV.zero).addrs=_ from e]<;>first|exact ⟨vFc.1,hl.2⟩|exact vFc⟩
 |g+16=>exact vok_zero
theorem LvF.put {ps:List (Nat×Nat)} {L:LV} (h:LvF ps L) (f:Nat):LvF ps (vCo f L WV.zero):=fun g hg=>vok_put f (h g hg)
theorem LvF.take {ps:List (Nat×Nat)} {L:LV} (h:LvF ps L) {k:Nat} (hk:k<ps.length) {x:Nat×Nat} (e:ps.getD k (0,0)=x):VOk (vBl x.2 L WV.zero):=h _ (List.mem_map.2 ⟨x,by rw [←e];simp [List.getD,hk],rfl⟩)
theorem rt_start {w wa w9 w1:World} {L:LV} {s1 s2 s3 s4:SlV} {ps:List (Nat×Nat)} {A:Option Addr} {n c:Nat} (hL:LRead w L s1 s2 s3 s4) (hw:Below w.heap.size w wa) (hx:BoxF w9 (w.heap.size+1) 17 (lc L s1 s2 s3 s4)) (h9:Below (w.heap.size+1) wa w9) (hl:w.heap.size+1<w9.heap.size)
 (hb1:Below w9.heap.size w9 w1) (hps:PSl w1 (w.heap.size+1) A n c ps) (hpa:∀ad,A=some ad→w9.heap.size≤ad.block):RdZ (fun _=>True) w (w.heap.size+1) ps A n c L s1 s2 s3 s4 w1:=by
 have B:Below w.heap.size w w1:=(hw.trans (h9.mono (by omega))).trans (hb1.mono (by omega))
 have off:∀(k:IntKind) (s:SlV) (xs:List Int),ISl w k s.A s.n s.c xs→OffP (w.heap.size+1) s:=fun k s xs hi ad e e2=>by have:=lt_isl hi ad e e2;omega
 exact ⟨by omega,by have:=hb1.size;omega,hx.below (by omega) hb1,⟨hL.1.below B,hL.2.1.below B,hL.2.2.1.below B,hL.2.2.2.below B⟩,off _ _ _ hL.1,off _ _ _ hL.2.1,off _ _ _ hL.2.2.1,off _ _ _ hL.2.2.2,hps,fun ad e=>by have:=hpa ad e;omega,B,trivial⟩
theorem cright_k (L:LV) (s1 s2 s3 s4:SlV) (w:World) (h:LRead w L s1 s2 s3 s4) (hL:LvK L):
 Calls Tryz.prog 27 #[vBk L s1 s2 s3 s4] w fun e w'=>e=.returned (.bool (rgB L))∧Below w.heap.size w w':=by
 have H:=hid h;have LM:=hid (show LvF (pts L.kind true) L from hL);have P0:=hid (fun T=>vFv w L s1 s2 s3 s4 T);have OKP:=hid (pts_ok L.kind true);obtain ⟨rb,hrb⟩:∃rb,rgB L=rb:=⟨_,rfl⟩;have RB:=hid hrb;rw [hrb];clear h hL hrb;rw [show vBk L s1 s2 s3 s4=.agg #[.int .i64 L.row,.int .i64 L.kind,.string (str L.dev),.string (str L.port),.string (str L.peer),.string (str L.far),.string (str L.name),.int .u64 L.mac,.int .u32 L.addr,.int .i64 L.bits,.int .i64 L.vlan,.int .i64 L.num,.int .i64 L.cost,.slice s1.A s1.n s1.c,.slice s2.A s2.n s2.c,.slice s3.A s3.n s3.c,.slice s4.A s4.n s4.c] from rfl]
 go_enter Tryz.func27,Tryz.ntmps27
 go_wp2_with (first
  |((with_reducible refine vAk ?hg (.tmp 1) ?ho w.heap.size ?hx L s1 s2 s3 s4 (P0.out _) ?_);(case hg=>rfl);(case ho=>rfl);(case hx=>rfl);simp only [vBk])
  |((with_reducible refine vIj ?hg1 ?ho1 ?hg2 (.tmp 3) (.tmp 9) ?ho2 ?hx L s1 s2 s3 s4 ?hy ?_);(case hg1=>rfl);(case ho1=>rfl);(case hg2=>rfl);(case ho2=>rfl);(case hx=>rfl);(case hy=>rfl);intro w9 bx9 bl9 lt9;rw [rd_sz] at bx9 bl9 lt9)
  |(go_at_call 88;(with_reducible refine (parts_any L.kind _ _ _ (bx9.cell 1 (by omega))).mono ?_);rintro e w1 ⟨PA,pn,pc,rfl,hps,hb1,hpa⟩))
 have R1:=hid (rt_start H.out (below_box2 w _) bx9 bl9 lt9 hb1 hps hpa);have PN:=hid hps.1
 have hp6:pn≤6:=by have:=OKP.out.1;have:=PN.out;omega
 have Z1:=hid (((P0.out 37).below (by omega) (by rw [rd_sz];exact bl9)).below (by omega) hb1);generalize hP:pts L.kind true=ps at *;have PW:=hid hP;clear hP hps hpa hb1 bx9 bl9 lt9
 go_loopw [13] (fun i wr=>∃(k:Nat) (M:LV) (r1 r2 r3 r4:SlV),k≤pn∧i=.int .i64 (k:Int)∧vCp ps L=vCp (ps.drop k) M∧RdZ (fun _=>True) w (w.heap.size+1) ps PA pn pc M r1 r2 r3 r4 wr∧LvF ps M∧BoxF wr w.heap.size 17 (lc L s1 s2 s3 s4)) (fun i _=>pn - (intOf i).toNat)
 case atStart=>exact ⟨0,L,s1,s2,s3,s4,by omega,rfl,rfl,R1.out,LM.out,Z1.out⟩
 case round=>
  obtain ⟨k,M,r1,r2,r3,r4,hk,rfl,hrun,hR,hM,hZ⟩:=hrel;have RR:=hid hR;have ZZ:=hid hZ;have MM:=hid hM;have RUN:=hid hrun;clear hR hZ hM hrun
  by_cases hlt:k<pn
  · obtain ⟨bp,rfl,hbp,hpc⟩:=RR.out.ps.2.2.2 (by omega)
    obtain ⟨x0,x1⟩:=hpc k hlt;have N:=hid (rgRun_at (ps:=ps) (k:=k) (L:=M) (by rw [PN.out];exact hlt));have OK:=hid (OKP.out.at_ k);obtain ⟨x,hx⟩:∃x,ps.getD k (0,0)=x:=⟨_,rfl⟩;have VT0:=MM.out.take (by rw [PN.out];exact hlt) hx;rw [hx] at x0 x1 N OK;obtain ⟨wk,fk⟩:=x;clear hpc hx;dsimp only at x0 x1 N OK VT0;unfold fval at x1;have RC:=run_fnum fk OK.out.2;have FZ:=hid (RR.out.fvZ (.cells #[.int .i64 (wk:Int),.func (.func (fnum fk)) #[.pointer (some ⟨w.heap.size+1,0,none⟩)] #[]] 127) 129)
    have VT:=hid VT0;obtain ⟨mb,hmb⟩:∃mb,vCq wk (vBl fk M WV.zero)=mb:=⟨_,rfl⟩;have MB:=hid hmb;have CM:=hid (fun t1 t2 w h=>may_any wk OK.out.1 (vBl fk M WV.zero) t1 t2 w VT.out h)
    cases mb with
    |true=>
     have N2:=hid (show vCp ps L=vCp (ps.drop (k+1)) (vCo fk M WV.zero) by rw [RUN.out,N.out,if_pos hmb]);clear hmb N RUN
     go_wp2_with (first
      |((with_reducible refine (fld_any fk OK.out.2 FZ.out.2.1).mono ?_);rintro e w3 ⟨rfl,q1,q2,q3,q4,u1,u2,F7,E7⟩;have R7:=hid (FZ.out.1.next (by have:=RR.out.bel.size;omega) (fun ad e=>by cases e;show bp≠_;omega) F7 E7 trivial);have Z7:=hid ((ZZ.out.below (by omega) FZ.out.2.2).ex2 (by omega) E7 (by omega) (by have:=RR.out.pl;omega));have V7:=hid F7;have VR:=hid (show vFd w3 (vBl fk M WV.zero) u1 u2 from ⟨F7.v1.1,F7.v2.1⟩);have x7:w3.cell? ⟨wr.heap.size,0,none⟩=some (.int .i64 (wk:Int)):=((E7.cell 0 (by simp;omega) (by have:=RR.out.pl;omega) (by omega)).trans (by simp));clear F7 E7)
      |((with_reducible refine vIa ?hg (.tmp 7) ?ho (wr.heap.size+1) ?hx (vBl fk M WV.zero) u1 u2 V7.out.val ?_);(case hg=>rfl);(case ho=>rfl);(case hx=>rfl))
      |(go_at_call 89;(with_reducible refine (CM.out u1 u2 _ VR.out).mono ?_);rintro e w5 ⟨rfl,hb5⟩;rw [MB.out];have R8:=hid (R7.out.keep hb5);have Z8:=hid (Z7.out.below (by omega) hb5)))
     go_roundw
     case rel=>exact ⟨k+1,vCo fk M WV.zero,q1,q2,q3,q4,by omega,by go_num,N2.out,R8.out,MM.out.put fk,Z8.out⟩
     case measure=>simp [intOf];omega
    |false=>
     have N2:=hid (show rb=false by rw [←RB.out,rgB_none (by rw [PW.out,RUN.out,N.out,if_neg (by rw [hmb];decide)])]);clear hmb N RUN
     go_wp2_with (first
      |((with_reducible refine (fld_any fk OK.out.2 FZ.out.2.1).mono ?_);rintro e w3 ⟨rfl,q1,q2,q3,q4,u1,u2,F7,E7⟩;have R7:=hid (FZ.out.1.next (by have:=RR.out.bel.size;omega) (fun ad e=>by cases e;show bp≠_;omega) F7 E7 trivial);have V7:=hid F7;have VR:=hid (show vFd w3 (vBl fk M WV.zero) u1 u2 from ⟨F7.v1.1,F7.v2.1⟩);have x7:w3.cell? ⟨wr.heap.size,0,none⟩=some (.int .i64 (wk:Int)):=((E7.cell 0 (by simp;omega) (by have:=RR.out.pl;omega) (by omega)).trans (by simp));clear F7 E7)
      |((with_reducible refine vIa ?hg (.tmp 7) ?ho (wr.heap.size+1) ?hx (vBl fk M WV.zero) u1 u2 V7.out.val ?_);(case hg=>rfl);(case ho=>rfl);(case hx=>rfl))
      |(go_at_call 89;(with_reducible refine (CM.out u1 u2 _ VR.out).mono ?_);rintro e w5 ⟨rfl,hb5⟩;rw [MB.out];have R8:=hid (R7.out.keep hb5)))
     go_ret;exact ⟨by rw [N2.out];rfl,R8.out.bel⟩
  · obtain rfl:k=pn:=by omega
    have RM:=hid (show vCp (pts L.kind true) L=some M by rw [PW.out,RUN.out,List.drop_eq_nil_of_le (by rw [PN.out];exact Nat.le_refl _)];rfl);have RE:=hid (show rb=((decide (0<k) && apB L) && vFf M (LV.new L.row L.kind)) by rw [←RB.out,rgB_some RM.out,PW.out,PN.out]);clear RUN
    by_cases p0:0<k
    rotate_left
    · obtain rfl:k=0:=by omega
      have R0:=hid (show rb=false by rw [RE.out];rfl);go_wp2;go_ret;exact ⟨by rw [R0.out];rfl,RR.out.bel⟩
    · have p1:(0:Int)<(k:Int):=by omega
      have CA:=hid (fun w h=>apart_any L s1 s2 s3 s4 w h);have LR:=hid (show LRead wr L s1 s2 s3 s4 from ⟨H.out.1.below RR.out.bel,H.out.2.1.below RR.out.bel,H.out.2.2.1.below RR.out.bel,H.out.2.2.2.below RR.out.bel⟩);obtain ⟨ap,hap⟩:∃ap,apB L=ap:=⟨_,rfl⟩;have AP:=hid hap;have RE2:=hid (show rb=(ap && vFf M (LV.new L.row L.kind)) by rw [RE.out,hap,decide_eq_true p0,Bool.true_and])
      clear hap
      cases ap with
      |false=>
       go_wp2_with (first
        |((with_reducible refine vAk ?hg (.tmp 1) ?ho w.heap.size ?hx L s1 s2 s3 s4 ZZ.out ?_);(case hg=>rfl);(case ho=>rfl);(case hx=>rfl))
        |(go_at_call 90;(with_reducible refine (CA.out _ LR.out).mono ?_);rintro e w5 ⟨rfl,hb5⟩;rw [AP.out]))
       go_ret;exact ⟨by rw [RE2.out];rfl,RR.out.bel.trans (hb5.mono RR.out.bel.size)⟩
      |true=>
       have CS:=hid (show ∀w,LRead w M r1 r2 r3 r4→Calls Tryz.prog 91 #[vBk M r1 r2 r3 r4,.agg #[.int .i64 L.row,.int .i64 L.kind,.string ⟨#[]⟩,.string ⟨#[]⟩,.string ⟨#[]⟩,.string ⟨#[]⟩,.string ⟨#[]⟩,.int .u64 0,.int .u32 0,.int .i64 0,.int .i64 0,.int .i64 0,.int .i64 0,.slice none 0 0,.slice none 0 0,.slice none 0 0,.slice none 0 0]] w fun e w'=>e=.returned (.bool (vFf M (LV.new L.row L.kind)))∧Below w.heap.size w w' from
        fun w h=>csame_any M (LV.new L.row L.kind) r1 r2 r3 r4 SlV.nil SlV.nil SlV.nil SlV.nil w h ⟨ISl.nil,ISl.nil,ISl.nil,ISl.nil⟩)
       go_wp2_with (first
        |((with_reducible refine vAk ?hg (.tmp 1) ?ho w.heap.size ?hx L s1 s2 s3 s4 ZZ.out ?_);(case hg=>rfl);(case ho=>rfl);(case hx=>rfl))
        |(go_at_call 90;(with_reducible refine (CA.out _ LR.out).mono ?_);rintro e w5 ⟨rfl,hb5⟩;rw [AP.out];have R5:=hid (RR.out.keep hb5);have Z5:=hid (ZZ.out.below (by omega) hb5);have z0:w5.cell? ⟨w.heap.size,0,none⟩=some (.int .i64 L.row):=Z5.out.cell 0 (by omega);have z1:w5.cell? ⟨w.heap.size,1,none⟩=some (.int .i64 L.kind):=Z5.out.cell 1 (by omega))
        |((with_reducible refine vAk ?hg (.tmp 34) ?ho (w.heap.size+1) ?hx M r1 r2 r3 r4 R5.out.box ?_);(case hg=>rfl);(case ho=>rfl);(case hx=>rfl))
        |(go_at_call 91;(with_reducible refine (CS.out _ R5.out.rd).mono ?_);rintro e w6 ⟨rfl,hb6⟩))
       go_ret;exact ⟨by rw [RE2.out];rfl,R5.out.bel.trans (hb6.mono R5.out.bel.size)⟩
theorem vDn {s:List UInt8} (h:nmB s=true):s.length≤300:=by
 have:=((vGi s).1 h).2.1
 rw [vBa] at this;omega
theorem ris_len {xs:List Int} {lo hi:Int} (h:vBy xs lo hi=true):xs.length≤16:=by
 unfold vBy at h;rw [Bool.and_eq_true] at h;exact ((vCz xs).1 h.1).2.1
theorem ls_len {hi:Int} {xs:List Int} (h:LsOk hi xs):xs.length≤16:=by
 rcases h with rfl|h
 · simp
 · exact ris_len h
theorem rd_ok {row:Int} {L:LV} (h:RdK row L) (r0: -9223372036854775808≤row) (r1:row≤9223372036854775807):LvOk L:=by
 have e0:([]:List UInt8).length≤300:=by decide
 have e1:([]:List Int).length≤16:=by decide
 rcases h with h|⟨h,_⟩|h|h|h|h|h|h|h
 · obtain ⟨s,a,m,rfl,hs,ha,hm⟩:=h
   exact ⟨⟨vDn hs,e0,e0,e0,e0⟩,⟨e1,e1,e1,e1⟩,⟨⟨r0,r1⟩,(show (0:Int)≤1∧(1:Int)≤18 by decide),⟨hm.1,hm.2.1⟩,(show (0:Int)≤0∧(0:Int)≤4294967295 by decide),(show (0:Int)≤0∧(0:Int)≤32 by decide),(show (0:Int)≤0∧(0:Int)≤4095 by decide),⟨by have:=ha.1;show 0≤a;omega,by have:=ha.2;show a≤_;omega⟩,(show (0:Int)≤0∧(0:Int)≤65535 by decide)⟩⟩
 · obtain ⟨s,p,c,v,t,rfl,hs,hp,hc,hv,ht⟩:=h
   exact ⟨⟨vDn hs,vDn hp,e0,e0,e0⟩,⟨ls_len ht,e1,e1,e1⟩,⟨⟨r0,r1⟩,(show (0:Int)≤2∧(2:Int)≤18 by decide),(show (0:Int)≤0∧(0:Int)<281474976710656 by decide),(show (0:Int)≤0∧(0:Int)≤4294967295 by decide),(show (0:Int)≤0∧(0:Int)≤32 by decide),⟨by have:=hv.1;show 0≤v;omega,by have:=hv.2;show v≤_;omega⟩,(show (0:Int)≤0∧(0:Int)≤16777216 by decide),⟨by have:=hc.1;show 0≤c;omega,by have:=hc.2;show c≤_;omega⟩⟩⟩
 · obtain ⟨s,p,q,r,rfl,hs,hp,hq,hr⟩:=h
   exact ⟨⟨vDn hs,vDn hp,vDn hq,vDn hr,e0⟩,⟨e1,e1,e1,e1⟩,⟨⟨r0,r1⟩,(show (0:Int)≤3∧(3:Int)≤18 by decide),(show (0:Int)≤0∧(0:Int)<281474976710656 by decide),(show (0:Int)≤0∧(0:Int)≤4294967295 by decide),(show (0:Int)≤0∧(0:Int)≤32 by decide),(show (0:Int)≤0∧(0:Int)≤4095 by decide),(show (0:Int)≤0∧(0:Int)≤16777216 by decide),(show (0:Int)≤0∧(0:Int)≤65535 by decide)⟩⟩
 · obtain ⟨s,v,m,p,rfl,hs,hv,hm,hp⟩:=h
   exact ⟨⟨vDn hs,vDn hp,e0,e0,e0⟩,⟨e1,e1,e1,e1⟩,⟨⟨r0,r1⟩,(show (0:Int)≤4∧(4:Int)≤18 by decide),⟨hm.1,hm.2.1⟩,(show (0:Int)≤0∧(0:Int)≤4294967295 by decide),(show (0:Int)≤0∧(0:Int)≤32 by decide),⟨by have:=hv.1;show 0≤v;omega,by have:=hv.2;show v≤_;omega⟩,(show (0:Int)≤0∧(0:Int)≤16777216 by decide),(show (0:Int)≤0∧(0:Int)≤65535 by decide)⟩⟩
 · obtain ⟨s,a,rfl,hs,ha⟩:=h
   exact ⟨⟨vDn hs,e0,e0,e0,e0⟩,⟨e1,e1,e1,e1⟩,⟨⟨r0,r1⟩,(show (0:Int)≤5∧(5:Int)≤18 by decide),(show (0:Int)≤0∧(0:Int)<281474976710656 by decide),⟨by have:=ha.1;show 0≤a;omega,by have:=ha.2;show a≤_;omega⟩,(show (0:Int)≤0∧(0:Int)≤32 by decide),(show (0:Int)≤0∧(0:Int)≤4095 by decide),(show (0:Int)≤0∧(0:Int)≤16777216 by decide),(show (0:Int)≤0∧(0:Int)≤65535 by decide)⟩⟩
 · obtain ⟨s,v,a,rfl,hs,hv,ha⟩:=h
   exact ⟨⟨vDn hs,e0,e0,e0,e0⟩,⟨e1,e1,e1,e1⟩,⟨⟨r0,r1⟩,(show (0:Int)≤6∧(6:Int)≤18 by decide),(show (0:Int)≤0∧(0:Int)<281474976710656 by decide),(show (0:Int)≤0∧(0:Int)≤4294967295 by decide),(show (0:Int)≤0∧(0:Int)≤32 by decide),⟨by have:=hv.1;show 0≤v;omega,by have:=hv.2;show v≤_;omega⟩,⟨by have:=ha.1;show 0≤a;omega,by have:=ha.2;show a≤_;omega⟩,(show (0:Int)≤0∧(0:Int)≤65535 by decide)⟩⟩
 · obtain ⟨s,a,x,rfl,hs,ha,hx⟩:=h
   exact ⟨⟨vDn hs,e0,e0,e0,e0⟩,⟨e1,e1,e1,ris_len hx.1⟩,⟨⟨r0,r1⟩,(show (0:Int)≤7∧(7:Int)≤18 by decide),(show (0:Int)≤0∧(0:Int)<281474976710656 by decide),(show (0:Int)≤0∧(0:Int)≤4294967295 by decide),(show (0:Int)≤0∧(0:Int)≤32 by decide),(show (0:Int)≤0∧(0:Int)≤4095 by decide),⟨by have:=ha.1;show 0≤a;omega,by have:=ha.2;show a≤_;omega⟩,(show (0:Int)≤0∧(0:Int)≤65535 by decide)⟩⟩
 · obtain ⟨s,n,x,y,rfl,hs,hn,hx,hy⟩:=h
   exact ⟨⟨vDn hs,e0,e0,e0,vDn hn⟩,⟨e1,ls_len hx,ls_len hy,e1⟩,⟨⟨r0,r1⟩,(show (0:Int)≤8∧(8:Int)≤18 by decide),(show (0:Int)≤0∧(0:Int)<281474976710656 by decide),(show (0:Int)≤0∧(0:Int)≤4294967295 by decide),(show (0:Int)≤0∧(0:Int)≤32 by decide),(show (0:Int)≤0∧(0:Int)≤4095 by decide),(show (0:Int)≤0∧(0:Int)≤16777216 by decide),(show (0:Int)≤0∧(0:Int)≤65535 by decide)⟩⟩
 · obtain ⟨s,v,n,a,b,rfl,hs,hv,hn,hab⟩:=h
   exact ⟨⟨vDn hs,e0,e0,e0,vDn hn⟩,⟨e1,e1,e1,e1⟩,⟨⟨r0,r1⟩,(show (0:Int)≤9∧(9:Int)≤18 by decide),(show (0:Int)≤0∧(0:Int)<281474976710656 by decide),⟨hab.2.1.1,hab.2.1.2⟩,⟨hab.2.2.1,hab.2.2.2⟩,⟨by have:=hv.1;show 0≤v;omega,by have:=hv.2;show v≤_;omega⟩,(show (0:Int)≤0∧(0:Int)≤16777216 by decide),(show (0:Int)≤0∧(0:Int)≤65535 by decide)⟩⟩
end Go.Proofs.YtkpbbfehglihlaaGreatDoor
