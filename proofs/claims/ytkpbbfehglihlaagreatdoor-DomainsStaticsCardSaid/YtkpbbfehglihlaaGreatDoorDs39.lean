import Derived.Test.YtkpbbfehglihlaaGreatDoorDs38
import Derived.Test.YtkpbbfehglihlaaGreatDoorDs50
import Derived.Test.YtkpbbfehglihlaaGreatDoorDs54
import Derived.Test.YtkpbbfehglihlaaGreatDoorDs55
import Derived.Test.YtkpbbfehglihlaaGreatDoorDs56
import Derived.Test.YtkpbbfehglihlaaGreatDoorDs27
import Derived.Test.YtkpbbfehglihlaaGreatDoorDs05
import Derived.Test.YtkpbbfehglihlaaGreatDoorDs01
import Derived.Test.YtkpbbfehglihlaaGreatDoorDs07
import Derived.Test.YtkpbbfehglihlaaGreatDoorDs31
import Derived.Test.YtkpbbfehglihlaaGreatDoorDs08
import Derived.Test.YtkpbbfehglihlaaGreatDoorDs24
import Derived.Test.YtkpbbfehglihlaaGreatDoorDs12
import Derived.Test.YtkpbbfehglihlaaGreatDoorDs04
import Derived.Test.YtkpbbfehglihlaaGreatDoorDs20
import Derived.Test.YtkpbbfehglihlaaGreatDoorDs22
import Derived.Test.YtkpbbfehglihlaaGreatDoorDs26
import Derived.RegionTactic
import Derived.Deep.RegionHeldLaw
import Derived.Test.YtkpbbfehglihlaaGreatDoorShelf
import Derived.Deep.CutBlock
import Derived.Deep.DeepCutAuto
set_option maxRecDepth 100000
set_option maxHeartbeats 40000000
namespace Go.Proofs.YtkpbbfehglihlaaGreatDoor
open Go.Lib (hid)
open Go.RowKit
theorem vBe {L M:LV} (h:L≠M):vFf L M=false:=by
 cases e:vFf L M with
 |false=>rfl
 |true=>exact absurd ((vFi L M).1 e) h
theorem rsame_any (L M:LV) (s1 s2 s3 s4 t1 t2 t3 t4:SlV) (w:World) (h:LRead w L s1 s2 s3 s4) (g:LRead w M t1 t2 t3 t4):
 Calls Tryz.prog 166 #[vBk L s1 s2 s3 s4,vBk M t1 t2 t3 t4] w fun e w'=>e=.returned (.bool (vFf L M))∧Below w.heap.size w w':=by
 obtain ⟨f0,f1,f2,f3,f4,f5,f6,f7,f8,f9,f10,f11,f12,f13,f14,f15,f16⟩:=L;obtain ⟨g0,g1,g2,g3,g4,g5,g6,g7,g8,g9,g10,g11,g12,g13,g14,g15,g16⟩:=M;obtain ⟨h13,h14,h15,h16⟩:=h;obtain ⟨k13,k14,k15,k16⟩:=g;dsimp only at h13 h14 h15 h16 k13 k14 k15 k16
 by_cases e0:f0=g0
 rotate_left
 · rw [vBe (fun e=>e0 (congrArg LV.row e))]
   exact rs_0 f0 g0 f1 g1 f2 g2 f3 g3 f4 g4 f5 g5 f6 g6 f7 g7 f8 g8 f9 g9 f10 g10 f11 g11 f12 g12 s1 s2 s3 s4 t1 t2 t3 t4 w e0
 subst e0
 by_cases e1:f1=g1
 rotate_left
 · rw [vBe (fun e=>e1 (congrArg LV.kind e))]
   exact rs_1 f0 f1 g1 f2 g2 f3 g3 f4 g4 f5 g5 f6 g6 f7 g7 f8 g8 f9 g9 f10 g10 f11 g11 f12 g12 s1 s2 s3 s4 t1 t2 t3 t4 w e1
 subst e1
 by_cases e2:f2=g2
 rotate_left
 · rw [vBe (fun e=>e2 (congrArg LV.dev e))]
   exact rs_2 f0 f1 f2 g2 f3 g3 f4 g4 f5 g5 f6 g6 f7 g7 f8 g8 f9 g9 f10 g10 f11 g11 f12 g12 s1 s2 s3 s4 t1 t2 t3 t4 w e2
 subst e2
 by_cases e3:f3=g3
 rotate_left
 · rw [vBe (fun e=>e3 (congrArg LV.port e))]
   exact rs_3 f0 f1 f2 f3 g3 f4 g4 f5 g5 f6 g6 f7 g7 f8 g8 f9 g9 f10 g10 f11 g11 f12 g12 s1 s2 s3 s4 t1 t2 t3 t4 w e3
 subst e3
 by_cases e4:f4=g4
 rotate_left
 · rw [vBe (fun e=>e4 (congrArg LV.peer e))]
   exact rs_4 f0 f1 f2 f3 f4 g4 f5 g5 f6 g6 f7 g7 f8 g8 f9 g9 f10 g10 f11 g11 f12 g12 s1 s2 s3 s4 t1 t2 t3 t4 w e4
 subst e4
 by_cases e5:f5=g5
 rotate_left
 · rw [vBe (fun e=>e5 (congrArg LV.far e))]
   exact rs_5 f0 f1 f2 f3 f4 f5 g5 f6 g6 f7 g7 f8 g8 f9 g9 f10 g10 f11 g11 f12 g12 s1 s2 s3 s4 t1 t2 t3 t4 w e5
 subst e5
 by_cases e6:f6=g6
 rotate_left
 · rw [vBe (fun e=>e6 (congrArg LV.name e))]
   exact rs_6 f0 f1 f2 f3 f4 f5 f6 g6 f7 g7 f8 g8 f9 g9 f10 g10 f11 g11 f12 g12 s1 s2 s3 s4 t1 t2 t3 t4 w e6
 subst e6
 by_cases e7:f7=g7
 rotate_left
 · rw [vBe (fun e=>e7 (congrArg LV.mac e))]
   exact rs_7 f0 f1 f2 f3 f4 f5 f6 f7 g7 f8 g8 f9 g9 f10 g10 f11 g11 f12 g12 s1 s2 s3 s4 t1 t2 t3 t4 w e7
 subst e7
 by_cases e8:f8=g8
 rotate_left
 · rw [vBe (fun e=>e8 (congrArg LV.addr e))]
   exact rs_8 f0 f1 f2 f3 f4 f5 f6 f7 f8 g8 f9 g9 f10 g10 f11 g11 f12 g12 s1 s2 s3 s4 t1 t2 t3 t4 w e8
 subst e8
 by_cases e9:f9=g9
 rotate_left
 · rw [vBe (fun e=>e9 (congrArg LV.bits e))]
   exact rs_9 f0 f1 f2 f3 f4 f5 f6 f7 f8 f9 g9 f10 g10 f11 g11 f12 g12 s1 s2 s3 s4 t1 t2 t3 t4 w e9
 subst e9
 by_cases e10:f10=g10
 rotate_left
 · rw [vBe (fun e=>e10 (congrArg LV.vlan e))]
   exact rs_10 f0 f1 f2 f3 f4 f5 f6 f7 f8 f9 f10 g10 f11 g11 f12 g12 s1 s2 s3 s4 t1 t2 t3 t4 w e10
 subst e10
 by_cases e11:f11=g11
 rotate_left
 · rw [vBe (fun e=>e11 (congrArg LV.num e))]
   exact rs_11 f0 f1 f2 f3 f4 f5 f6 f7 f8 f9 f10 f11 g11 f12 g12 s1 s2 s3 s4 t1 t2 t3 t4 w e11
 subst e11
 by_cases e12:f12=g12
 rotate_left
 · rw [vBe (fun e=>e12 (congrArg LV.cost e))]
   exact rs_12 f0 f1 f2 f3 f4 f5 f6 f7 f8 f9 f10 f11 f12 g12 s1 s2 s3 s4 t1 t2 t3 t4 w e12
 subst e12
 by_cases e13:f13=g13
 rotate_left
 · rw [vBe (fun e=>e13 (congrArg LV.tagged e))]
   exact rs_13 f0 f1 f2 f3 f4 f5 f6 f7 f8 f9 f10 f11 f12 f13 g13 s1 s2 s3 s4 t1 t2 t3 t4 w h13 k13 e13
 subst e13
 by_cases e14:f14=g14
 rotate_left
 · rw [vBe (fun e=>e14 (congrArg LV.imports e))]
   exact rs_14 f0 f1 f2 f3 f4 f5 f6 f7 f8 f9 f10 f11 f12 f13 f14 g14 s1 s2 s3 s4 t1 t2 t3 t4 w h13 k13 h14 k14 e14
 subst e14
 by_cases e15:f15=g15
 rotate_left
 · rw [vBe (fun e=>e15 (congrArg LV.exports e))]
   exact rs_15 f0 f1 f2 f3 f4 f5 f6 f7 f8 f9 f10 f11 f12 f13 f14 f15 g15 s1 s2 s3 s4 t1 t2 t3 t4 w h13 k13 h14 k14 h15 k15 e15
 subst e15
 by_cases e16:f16=g16
 rotate_left
 · rw [vBe (fun e=>e16 (congrArg LV.addrs e))]
   exact rs_16 f0 f1 f2 f3 f4 f5 f6 f7 f8 f9 f10 f11 f12 f13 f14 f15 f16 g16 s1 s2 s3 s4 t1 t2 t3 t4 w h13 k13 h14 k14 h15 k15 h16 k16 e16
 subst e16;rw [vFs];exact rs_17 f0 f1 f2 f3 f4 f5 f6 f7 f8 f9 f10 f11 f12 f13 f14 f15 f16 s1 s2 s3 s4 t1 t2 t3 t4 w h13 k13 h14 k14 h15 k15 h16 k16
open Go.Lib (decDigits byteCells)
theorem vEc (x:Int) (n:Nat) (h:x=(n:Int)) (hn:n<1000000000000000000) (w:World):
 Calls Tryz.prog 210 #[.int .i64 x] w fun e w'=>e=.returned (.string (str (decDigits n)))∧Below w.heap.size w w':=by
 subst h;exact vEq n hn w
theorem txt_parts (a:Nat):txt a=decDigits (a / 16777216)++[46]++decDigits (a / 65536 % 256)++[46]++decDigits (a / 256 % 256)++[46]++decDigits (a % 256):=by
 unfold txt;simp
theorem dec3 (n:Nat) (h:n<1000):(decDigits n).length≤3:=vGf 3 (by omega) h
theorem refText_any (a:Nat) (ha:a<4294967296) (w:World):
 Calls Tryz.prog 186 #[.int .u32 (a:Int)] w fun e w'=>e=.returned (.string (str (txt a)))∧Below w.heap.size w w':=by
 have T:=hid (txt_parts a);have l1:=dec3 (a / 16777216) (by omega);have l2:=dec3 (a / 65536 % 256) (by omega);have l3:=dec3 (a / 256 % 256) (by omega);have l4:=dec3 (a % 256) (by omega)
 go_enter Tryz.func186,Tryz.ntmps186
 go_wp2_with (first
  |(go_at_call 210;(with_reducible refine (vEc ((a:Int) / 16777216) (a / 16777216) (by omega) (by omega) _).mono ?_);rintro e w1 ⟨rfl,hb1⟩)
  |(go_at_call 210;(with_reducible refine (vEc ((a:Int) / 65536 % 256) (a / 65536 % 256) (by omega) (by omega) _).mono ?_);rintro e w2 ⟨rfl,hb2⟩)
  |(go_at_call 210;(with_reducible refine (vEc ((a:Int) / 256 % 256) (a / 256 % 256) (by omega) (by omega) _).mono ?_);rintro e w3 ⟨rfl,hb3⟩)
  |(go_at_call 210;(with_reducible refine (vEc ((a:Int) % 256) (a % 256) (by omega) (by omega) _).mono ?_);rintro e w4 ⟨rfl,hb4⟩))
 go_ret;exact ⟨by rw [T.out];simp [vCm],vAa (vAa (vAa hb1 hb2) hb3) hb4⟩
theorem Tryz.info185:(Tryz.prog.info? 185).map (fun i=>(i.zero,i.size,i.bytes))=some (some (.agg #[.pointer none,.slice none 0 0]),2,32):=by kernel_rfl
open Go.Lib (decDigits itoa byteCells)
open Go.Lib (decDigits byteCells)
def I64 (x:Int):Prop:= -9223372036854775808≤x∧x≤9223372036854775807
structure LvW (L:LV):Prop where
 row:I64 L.row
 kind:I64 L.kind
 mac:0≤L.mac∧L.mac<18446744073709551616
 addr:0≤L.addr∧L.addr<4294967296
 bits:I64 L.bits
 vlan:I64 L.vlan
 num:I64 L.num
 cost:I64 L.cost
 tagged:∀x∈L.tagged,I64 x
 imports:∀x∈L.imports,I64 x
 exports:∀x∈L.exports,I64 x
 addrs:∀x∈L.addrs,0≤x∧x<4294967296
def GotWs (ps:List (List UInt8)) (w:World) (e:Ending) (w':World):Prop:=∃A n c,e=.returned (.slice A n c)∧SSl w' A n c ps∧Below w.heap.size w w'
theorem row_lit (w:World) (ps:List (List UInt8)) (T:TypeId) (h:ps.length≤1000):SSl (w.alloc (.cells (txts ps).toArray T)) (some ⟨w.heap.size,0,none⟩) ps.length ps.length ps:=by
 refine ⟨rfl,Nat.le_refl _,by unfold maxLen;omega,fun _=>⟨w.heap.size,0,rfl,by simp,fun j hj=>?_⟩⟩;rw [Nat.zero_add,World.cell?_alloc_new];simp [txts,List.getD,List.getElem?_eq_getElem hj]
theorem run_op_line {ρ:Operand→Value} {o:Oper} {x:Operand} {w:World} {b off:Nat} {L:LV} {s1 s2 s3 s4:SlV} (h:w.rangeAt b off (vEk L s1 s2 s3 s4)) (ho:o.op=.load 37 x) (hx:ρ x=.pointer (some ⟨b,off,none⟩)):
 (execOp ρ o).run Tryz.prog w=.ok (.value (vBk L s1 s2 s3 s4)) w:=by
 obtain ⟨d,hd1,hd2⟩:=line_desc;unfold execOp;simp only [ho,hx,Instr.loadAt,Instr.sureAddr,Sem.run_bind,Sem.run_pure,Result.andThen_ok,run_loadVar_mid w b off 37 (vEk L s1 s2 s3 s4) d h hd1 hd2 vGo]
 rfl
theorem lines_at {w:World} {A:Option Addr} {n c:Nat} {xs:List LV} (h:RSl lineR w (vAs w) A n c xs) (k:Nat) (hk:k<n):
 ∃b off s1 s2 s3 s4,A=some ⟨b,off,none⟩∧b<w.heap.size∧LRead w (xs.getD k LV.zero) s1 s2 s3 s4∧w.rangeAt b (off+k * 17) (vEk (xs.getD k LV.zero) s1 s2 s3 s4):=by
 obtain ⟨b,off,e,_,hb,hc⟩:=h.at_ (by omega)
 have hl:k<xs.length:=by rw [h.len];exact hk
 have e2:xs.getD k LV.zero=xs[k]:=by simp [List.getD,hl]
 obtain ⟨vs,h1,h2⟩:=hc k xs[k] (List.getElem?_eq_getElem hl);obtain ⟨s1,s2,s3,s4,rfl,h3⟩:=line_read h1;exact ⟨b,off,s1,s2,s3,s4,e,hb,by rw [e2];exact h3,by rw [e2];exact h2⟩
end Go.Proofs.YtkpbbfehglihlaaGreatDoor
