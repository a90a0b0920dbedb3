import Derived.Test.YtgmflecelnefcaaGreatOp27
import Derived.Test.YtgmflecelnefcaaGreatOp28
import Derived.Test.YtgmflecelnefcaaGreatOp29
import Derived.Test.YtgmflecelnefcaaGreatOp05
import Derived.Test.YtgmflecelnefcaaGreatOp01
import Derived.Test.YtgmflecelnefcaaGreatOp06
import Derived.Test.YtgmflecelnefcaaGreatOp25
import Derived.Test.YtgmflecelnefcaaGreatOp07
import Derived.Test.YtgmflecelnefcaaGreatOp18
import Derived.Test.YtgmflecelnefcaaGreatOp11
import Derived.Test.YtgmflecelnefcaaGreatOp04
import Derived.Test.YtgmflecelnefcaaGreatOp17
import Derived.Deep.RegionHeldLaw
import Derived.Test.YtgmflecelnefcaaGreatShelf
import Derived.Deep.CutBlock
import Derived.Deep.DeepCutAuto
import Derived.RegionTactic
set_option maxRecDepth 100000
set_option maxHeartbeats 40000000
namespace Go.Proofs.YtgmflecelnefcaaGreat
open Go.Lib (hid)
open Go.RowKit
theorem vBd {L M:LV} (h:L≠M):vEz L M=false:=by
 cases e:vEz L M with
 |false=>rfl
 |true=>exact absurd ((vDx L M).1 e) h
theorem rsame_any (L M:LV) (s1 s2 s3 s4 t1 t2 t3 t4:SlV) (w:World) (h:LRead w L s1 s2 s3 s4) (g:LRead w M t1 t2 t3 t4):
 Calls Tryz.prog 180 #[vAv L s1 s2 s3 s4,vAv M t1 t2 t3 t4] w fun e w'=>e=.returned (.bool (vEz L M))∧Below w.heap.size w w':=by
 obtain ⟨f0,f1,f2,f3,f4,f5,f6,f7,f8,f9,f10,f11,f12,f13,f14,f15,f16⟩:=L;obtain ⟨g0,g1,g2,g3,g4,g5,g6,g7,g8,g9,g10,g11,g12,g13,g14,g15,g16⟩:=M;obtain ⟨h13,h14,h15,h16⟩:=h;obtain ⟨k13,k14,k15,k16⟩:=g;dsimp only at h13 h14 h15 h16 k13 k14 k15 k16
 by_cases e0:f0=g0
 rotate_left
 · rw [vBd (fun e=>e0 (congrArg LV.row e))]
   exact rs_0 f0 g0 f1 g1 f2 g2 f3 g3 f4 g4 f5 g5 f6 g6 f7 g7 f8 g8 f9 g9 f10 g10 f11 g11 f12 g12 s1 s2 s3 s4 t1 t2 t3 t4 w e0
 subst e0
 by_cases e1:f1=g1
 rotate_left
 · rw [vBd (fun e=>e1 (congrArg LV.kind e))]
   exact rs_1 f0 f1 g1 f2 g2 f3 g3 f4 g4 f5 g5 f6 g6 f7 g7 f8 g8 f9 g9 f10 g10 f11 g11 f12 g12 s1 s2 s3 s4 t1 t2 t3 t4 w e1
 subst e1
 by_cases e2:f2=g2
 rotate_left
 · rw [vBd (fun e=>e2 (congrArg LV.dev e))]
   exact rs_2 f0 f1 f2 g2 f3 g3 f4 g4 f5 g5 f6 g6 f7 g7 f8 g8 f9 g9 f10 g10 f11 g11 f12 g12 s1 s2 s3 s4 t1 t2 t3 t4 w e2
 subst e2
 by_cases e3:f3=g3
 rotate_left
 · rw [vBd (fun e=>e3 (congrArg LV.port e))]
   exact rs_3 f0 f1 f2 f3 g3 f4 g4 f5 g5 f6 g6 f7 g7 f8 g8 f9 g9 f10 g10 f11 g11 f12 g12 s1 s2 s3 s4 t1 t2 t3 t4 w e3
 subst e3
 by_cases e4:f4=g4
 rotate_left
 · rw [vBd (fun e=>e4 (congrArg LV.peer e))]
   exact rs_4 f0 f1 f2 f3 f4 g4 f5 g5 f6 g6 f7 g7 f8 g8 f9 g9 f10 g10 f11 g11 f12 g12 s1 s2 s3 s4 t1 t2 t3 t4 w e4
 subst e4
 by_cases e5:f5=g5
 rotate_left
 · rw [vBd (fun e=>e5 (congrArg LV.far e))]
   exact rs_5 f0 f1 f2 f3 f4 f5 g5 f6 g6 f7 g7 f8 g8 f9 g9 f10 g10 f11 g11 f12 g12 s1 s2 s3 s4 t1 t2 t3 t4 w e5
 subst e5
 by_cases e6:f6=g6
 rotate_left
 · rw [vBd (fun e=>e6 (congrArg LV.name e))]
   exact rs_6 f0 f1 f2 f3 f4 f5 f6 g6 f7 g7 f8 g8 f9 g9 f10 g10 f11 g11 f12 g12 s1 s2 s3 s4 t1 t2 t3 t4 w e6
 subst e6
 by_cases e7:f7=g7
 rotate_left
 · rw [vBd (fun e=>e7 (congrArg LV.mac e))]
   exact rs_7 f0 f1 f2 f3 f4 f5 f6 f7 g7 f8 g8 f9 g9 f10 g10 f11 g11 f12 g12 s1 s2 s3 s4 t1 t2 t3 t4 w e7
 subst e7
 by_cases e8:f8=g8
 rotate_left
 · rw [vBd (fun e=>e8 (congrArg LV.addr e))]
   exact rs_8 f0 f1 f2 f3 f4 f5 f6 f7 f8 g8 f9 g9 f10 g10 f11 g11 f12 g12 s1 s2 s3 s4 t1 t2 t3 t4 w e8
 subst e8
 by_cases e9:f9=g9
 rotate_left
 · rw [vBd (fun e=>e9 (congrArg LV.bits e))]
   exact rs_9 f0 f1 f2 f3 f4 f5 f6 f7 f8 f9 g9 f10 g10 f11 g11 f12 g12 s1 s2 s3 s4 t1 t2 t3 t4 w e9
 subst e9
 by_cases e10:f10=g10
 rotate_left
 · rw [vBd (fun e=>e10 (congrArg LV.vlan e))]
   exact rs_10 f0 f1 f2 f3 f4 f5 f6 f7 f8 f9 f10 g10 f11 g11 f12 g12 s1 s2 s3 s4 t1 t2 t3 t4 w e10
 subst e10
 by_cases e11:f11=g11
 rotate_left
 · rw [vBd (fun e=>e11 (congrArg LV.num e))]
   exact rs_11 f0 f1 f2 f3 f4 f5 f6 f7 f8 f9 f10 f11 g11 f12 g12 s1 s2 s3 s4 t1 t2 t3 t4 w e11
 subst e11
 by_cases e12:f12=g12
 rotate_left
 · rw [vBd (fun e=>e12 (congrArg LV.cost e))]
   exact rs_12 f0 f1 f2 f3 f4 f5 f6 f7 f8 f9 f10 f11 f12 g12 s1 s2 s3 s4 t1 t2 t3 t4 w e12
 subst e12
 by_cases e13:f13=g13
 rotate_left
 · rw [vBd (fun e=>e13 (congrArg LV.tagged e))]
   exact rs_13 f0 f1 f2 f3 f4 f5 f6 f7 f8 f9 f10 f11 f12 f13 g13 s1 s2 s3 s4 t1 t2 t3 t4 w h13 k13 e13
 subst e13
 by_cases e14:f14=g14
 rotate_left
 · rw [vBd (fun e=>e14 (congrArg LV.imports e))]
   exact rs_14 f0 f1 f2 f3 f4 f5 f6 f7 f8 f9 f10 f11 f12 f13 f14 g14 s1 s2 s3 s4 t1 t2 t3 t4 w h13 k13 h14 k14 e14
 subst e14
 by_cases e15:f15=g15
 rotate_left
 · rw [vBd (fun e=>e15 (congrArg LV.exports e))]
   exact rs_15 f0 f1 f2 f3 f4 f5 f6 f7 f8 f9 f10 f11 f12 f13 f14 f15 g15 s1 s2 s3 s4 t1 t2 t3 t4 w h13 k13 h14 k14 h15 k15 e15
 subst e15
 by_cases e16:f16=g16
 rotate_left
 · rw [vBd (fun e=>e16 (congrArg LV.addrs e))]
   exact rs_16 f0 f1 f2 f3 f4 f5 f6 f7 f8 f9 f10 f11 f12 f13 f14 f15 f16 g16 s1 s2 s3 s4 t1 t2 t3 t4 w h13 k13 h14 k14 h15 k15 h16 k16 e16
 subst e16;rw [vFp];exact rs_17 f0 f1 f2 f3 f4 f5 f6 f7 f8 f9 f10 f11 f12 f13 f14 f15 f16 s1 s2 s3 s4 t1 t2 t3 t4 w h13 k13 h14 k14 h15 k15 h16 k16
open Go.Lib (decDigits byteCells)
theorem vEb (x:Int) (n:Nat) (h:x=(n:Int)) (hn:n<1000000000000000000) (w:World):
 Calls Tryz.prog 214 #[.int .i64 x] w fun e w'=>e=.returned (.string (str (decDigits n)))∧Below w.heap.size w w':=by
 subst h;exact vEp n hn w
theorem txt_parts (a:Nat):txt a=decDigits (a / 16777216)++[46]++decDigits (a / 65536 % 256)++[46]++decDigits (a / 256 % 256)++[46]++decDigits (a % 256):=by
 unfold txt;simp
theorem dec3 (n:Nat) (h:n<1000):(decDigits n).length≤3:=vGp 3 (by omega) h
theorem refText_any (a:Nat) (ha:a<4294967296) (w:World):
 Calls Tryz.prog 195 #[.int .u32 (a:Int)] w fun e w'=>e=.returned (.string (str (txt a)))∧Below w.heap.size w w':=by
 have T:=hid (txt_parts a);have l1:=dec3 (a / 16777216) (by omega);have l2:=dec3 (a / 65536 % 256) (by omega);have l3:=dec3 (a / 256 % 256) (by omega);have l4:=dec3 (a % 256) (by omega)
 go_enter Tryz.func195,Tryz.ntmps195
 go_wp2_with (first
  |(go_at_call 214;(with_reducible refine (vEb ((a:Int) / 16777216) (a / 16777216) (by omega) (by omega) _).mono ?_);rintro e w1 ⟨rfl,hb1⟩)
  |(go_at_call 214;(with_reducible refine (vEb ((a:Int) / 65536 % 256) (a / 65536 % 256) (by omega) (by omega) _).mono ?_);rintro e w2 ⟨rfl,hb2⟩)
  |(go_at_call 214;(with_reducible refine (vEb ((a:Int) / 256 % 256) (a / 256 % 256) (by omega) (by omega) _).mono ?_);rintro e w3 ⟨rfl,hb3⟩)
  |(go_at_call 214;(with_reducible refine (vEb ((a:Int) % 256) (a % 256) (by omega) (by omega) _).mono ?_);rintro e w4 ⟨rfl,hb4⟩))
 go_ret;exact ⟨by rw [T.out];simp [vBn],vAa (vAa (vAa hb1 hb2) hb3) hb4⟩
def abyte (a k:Nat):Nat:=a / 256 ^ (3 - k) % 256
def txtPre (a:Nat):Nat→List UInt8
 |0=>[]
 |k+1=>txtPre a k++(if 0<k then [46] else [])++decDigits (abyte a k)
theorem txtPre_four (a:Nat) (h:a<4294967296):txtPre a 4=txt a:=by
 have e0:abyte a 0=a / 16777216:=by unfold abyte;simp only [Nat.reduceSub,Nat.reducePow];omega
 have e1:abyte a 1=a / 65536 % 256:=by unfold abyte;simp only [Nat.reduceSub,Nat.reducePow]
 have e2:abyte a 2=a / 256 % 256:=by unfold abyte;simp only [Nat.reduceSub,Nat.reducePow]
 have e3:abyte a 3=a % 256:=by unfold abyte;simp only [Nat.reduceSub,Nat.reducePow];omega
 rw [txt_parts];simp [txtPre,e0,e1,e2,e3]
theorem abyte_lt (a k:Nat):abyte a k<256:=Nat.mod_lt _ (by decide)
theorem txtPre_len (a k:Nat):(txtPre a k).length≤4 * k:=by
 induction k with
 |zero=>simp [txtPre]
 |succ k ih=>
  have:=dec3 (abyte a k) (by have:=abyte_lt a k;omega)
  simp only [txtPre,List.length_append]
  split<;>simp<;>omega
open Go.Lib (decDigits itoa byteCells)
def txI (x:Int):List UInt8:=itoa x
def txA (x:Int):List UInt8:=txt x.toNat
def In64 (xs:List Int):Prop:=∀x∈xs,-9223372036854775808≤x∧x≤9223372036854775807
def InU32 (xs:List Int):Prop:=∀x∈xs,0≤x∧x<4294967296
theorem txI_len {x:Int} (h: -9223372036854775808≤x∧x≤9223372036854775807):(txI x).length≤20:=itoa_len x h.1 h.2
theorem txA_len {x:Int} (h:0≤x∧x<4294967296):(txA x).length≤20:=by
 unfold txA;rw [←txtPre_four x.toNat (by omega)]
 have:=txtPre_len x.toNat 4
 omega
theorem jnK_len2 {f:Int→List UInt8} {xs:List Int} (h:∀x∈xs,(f x).length≤20) (k:Nat) (hk:k≤xs.length):(jnK f xs k).length≤k * 21:=by
 induction k with
 |zero=>simp [jnK]
 |succ k ih=>
  have h1:=h _ (vGc (xs:=xs) (i:=k) (by omega));have h2:=ih (by omega);rw [jnK,List.length_append,List.length_append]
  split
  · rw [List.length_singleton];omega
  · rw [List.length_nil];omega
theorem jnK_next0 (f:Int→List UInt8) (xs:List Int) (k:Nat) (h:¬0<k):jnK f xs (k+1)=jnK f xs k++f (xs.getD k 0):=by
 conv=>lhs;unfold jnK
 rw [if_neg h,List.append_nil]
theorem jnK_next (f:Int→List UInt8) (xs:List Int) (k:Nat) (h:0<k):jnK f xs (k+1)=jnK f xs k++[44]++f (xs.getD k 0):=by
 conv=>lhs;unfold jnK
 rw [if_pos h]
theorem refTxtI_any (x:Int) (h: -9223372036854775808≤x∧x≤9223372036854775807) (w:World):
 Calls Tryz.prog 192 #[.int .i64 x] w fun e w'=>e=.returned (.string (str (txI x)))∧Below w.heap.size w w':=vAo x h.1 h.2 w
theorem vGj (x:Int) (h:0≤x∧x<4294967296) (w:World):
 Calls Tryz.prog 195 #[.int .u32 x] w fun e w'=>e=.returned (.string (str (txA x)))∧Below w.heap.size w w':=by
 have h2:=refText_any x.toNat (by omega) w;rw [show ((x.toNat:Nat):Int)=x by omega] at h2;exact h2
theorem refListI_any (A:Option Addr) (n c:Nat) (xs:List Int) (w:World) (h:ISl w .i64 A n c xs) (hn:n≤1000) (hr:In64 xs):
 Calls Tryz.prog 213 #[.slice A n c] w fun e w'=>e=.returned (.string (str (jn txI xs)))∧Below w.heap.size w w':=by
 have hle:=h.le;have hcap:=h.cap;have hlen:=h.len;have H:=hid h;have HR:=hid hr;have JL:=hid (fun k (hk:k≤xs.length)=>jnK_len2 (f:=txI) (fun x hx=>txI_len (hr x hx)) k hk);have HLEN:=hid hlen;clear h hr hlen
 go_enter Tryz.func213,Tryz.ntmps213
 go_wp2
 go_loopw [3,4] (fun s i wr=>∃k:Nat,k≤n∧i=.int .i64 (k:Int)∧s=.string (str (jnK txI xs k))∧Below w.heap.size w wr) (fun _ i _=>n - (intOf i).toNat)
 case atStart=>exact ⟨0,by omega,rfl,rfl,Below.refl _ _⟩
 case round=>
  obtain ⟨k,hk,rfl,rfl,hb⟩:=hrel;have hjl:=JL.out k (by rw [HLEN.out];exact hk)
  by_cases hlt:k<n
  · obtain ⟨b,off,rfl,hB,hc⟩:=H.out.2.2.2 (by omega)
    have c0:wr.cell? ⟨b,off+k,none⟩=some (.int .i64 (xs.getD k 0)):=(hb.cell (p:=⟨b,off+k,none⟩) hB).trans (hc k hlt);have hx:=HR.out _ (vGc (xs:=xs) (i:=k) (by rw [HLEN.out];exact hlt));have hxl:=txI_len hx;clear hc
    by_cases k0:0<k
    · have N:=hid (jnK_next txI xs k k0)
      generalize jnK txI xs k=j at hjl N;generalize xs.getD k 0=x at c0 hx hxl N;have HX:=hid hx;clear hx;go_wp2_with (go_at_call 192;(with_reducible refine (refTxtI_any x HX.out _).mono ?_);rintro e w2 ⟨rfl,hb2⟩;have hbb2:=hb.trans (hb2.mono hb.size));clear hb hb2
      go_roundw
      case rel=>exact ⟨k+1,by omega,by go_num,by rw [N.out];simp [vBn],hbb2⟩
      case measure=>simp [intOf];omega
    · have N:=hid (jnK_next0 txI xs k k0)
      generalize jnK txI xs k=j at hjl N;generalize xs.getD k 0=x at c0 hx hxl N;have HX:=hid hx;clear hx;go_wp2_with (go_at_call 192;(with_reducible refine (refTxtI_any x HX.out _).mono ?_);rintro e w2 ⟨rfl,hb2⟩;have hbb2:=hb.trans (hb2.mono hb.size));clear hb hb2
      go_roundw
      case rel=>exact ⟨k+1,by omega,by go_num,by rw [N.out];simp [vBn],hbb2⟩
      case measure=>simp [intOf];omega
  · obtain rfl:k=n:=by omega
    have E:=hid (show jn txI xs=jnK txI xs k by unfold jn;rw [HLEN.out]);go_wp2;go_ret;exact ⟨by rw [E.out];rfl,hb⟩
theorem refListA_any (A:Option Addr) (n c:Nat) (xs:List Int) (w:World) (h:ISl w .u32 A n c xs) (hn:n≤1000) (hr:InU32 xs):
 Calls Tryz.prog 196 #[.slice A n c] w fun e w'=>e=.returned (.string (str (jn txA xs)))∧Below w.heap.size w w':=by
 have hle:=h.le;have hcap:=h.cap;have hlen:=h.len;have H:=hid h;have HR:=hid hr;have JL:=hid (fun k (hk:k≤xs.length)=>jnK_len2 (f:=txA) (fun x hx=>txA_len (hr x hx)) k hk);have HLEN:=hid hlen;clear h hr hlen
 go_enter Tryz.func196,Tryz.ntmps196
 go_wp2
 go_loopw [3,4] (fun s i wr=>∃k:Nat,k≤n∧i=.int .i64 (k:Int)∧s=.string (str (jnK txA xs k))∧Below w.heap.size w wr) (fun _ i _=>n - (intOf i).toNat)
 case atStart=>exact ⟨0,by omega,rfl,rfl,Below.refl _ _⟩
 case round=>
  obtain ⟨k,hk,rfl,rfl,hb⟩:=hrel;have hjl:=JL.out k (by rw [HLEN.out];exact hk)
  by_cases hlt:k<n
  · obtain ⟨b,off,rfl,hB,hc⟩:=H.out.2.2.2 (by omega)
    have c0:wr.cell? ⟨b,off+k,none⟩=some (.int .u32 (xs.getD k 0)):=(hb.cell (p:=⟨b,off+k,none⟩) hB).trans (hc k hlt);have hx:=HR.out _ (vGc (xs:=xs) (i:=k) (by rw [HLEN.out];exact hlt));have hxl:=txA_len hx;clear hc
    by_cases k0:0<k
    · have N:=hid (jnK_next txA xs k k0)
      generalize jnK txA xs k=j at hjl N;generalize xs.getD k 0=x at c0 hx hxl N;have HX:=hid hx;clear hx;go_wp2_with (go_at_call 195;(with_reducible refine (vGj x HX.out _).mono ?_);rintro e w2 ⟨rfl,hb2⟩;have hbb2:=hb.trans (hb2.mono hb.size));clear hb hb2
      go_roundw
      case rel=>exact ⟨k+1,by omega,by go_num,by rw [N.out];simp [vBn],hbb2⟩
      case measure=>simp [intOf];omega
    · have N:=hid (jnK_next0 txA xs k k0)
      generalize jnK txA xs k=j at hjl N;generalize xs.getD k 0=x at c0 hx hxl N;have HX:=hid hx;clear hx;go_wp2_with (go_at_call 195;(with_reducible refine (vGj x HX.out _).mono ?_);rintro e w2 ⟨rfl,hb2⟩;have hbb2:=hb.trans (hb2.mono hb.size));clear hb hb2
      go_roundw
      case rel=>exact ⟨k+1,by omega,by go_num,by rw [N.out];simp [vBn],hbb2⟩
      case measure=>simp [intOf];omega
  · obtain rfl:k=n:=by omega
    have E:=hid (show jn txA xs=jnK txA xs k by unfold jn;rw [HLEN.out]);go_wp2;go_ret;exact ⟨by rw [E.out];rfl,hb⟩
open Go.Lib (decDigits byteCells)
def I64 (x:Int):Prop:= -9223372036854775808≤x∧x≤9223372036854775807
structure LvW (L:LV):Prop where
 row:I64 L.row
 kind:I64 L.kind
 mac:0≤L.mac∧L.mac<18446744073709551616
 addr:0≤L.addr∧L.addr<4294967296
 bits:I64 L.bits
 vlan:I64 L.vlan
 num:I64 L.num
 cost:I64 L.cost
 tagged:∀x∈L.tagged,I64 x
 imports:∀x∈L.imports,I64 x
 exports:∀x∈L.exports,I64 x
 addrs:∀x∈L.addrs,0≤x∧x<4294967296
def GotWs (ps:List (List UInt8)) (w:World) (e:Ending) (w':World):Prop:=∃A n c,e=.returned (.slice A n c)∧SSl w' A n c ps∧Below w.heap.size w w'
theorem row_lit (w:World) (ps:List (List UInt8)) (T:TypeId) (h:ps.length≤1000):SSl (w.alloc (.cells (txts ps).toArray T)) (some ⟨w.heap.size,0,none⟩) ps.length ps.length ps:=by
 refine ⟨rfl,Nat.le_refl _,by unfold maxLen;omega,fun _=>⟨w.heap.size,0,rfl,by simp,fun j hj=>?_⟩⟩;rw [Nat.zero_add,World.cell?_alloc_new];simp [txts,List.getD,List.getElem?_eq_getElem hj]
theorem run_op_line {ρ:Operand→Value} {o:Oper} {x:Operand} {w:World} {b off:Nat} {L:LV} {s1 s2 s3 s4:SlV} (h:w.rangeAt b off (vEl L s1 s2 s3 s4)) (ho:o.op=.load 37 x) (hx:ρ x=.pointer (some ⟨b,off,none⟩)):
 (execOp ρ o).run Tryz.prog w=.ok (.value (vAv L s1 s2 s3 s4)) w:=by
 obtain ⟨d,hd1,hd2⟩:=line_desc;unfold execOp;simp only [ho,hx,Instr.loadAt,Instr.sureAddr,Sem.run_bind,Sem.run_pure,Result.andThen_ok,run_loadVar_mid w b off 37 (vEl L s1 s2 s3 s4) d h hd1 hd2 vHc]
 rfl
theorem lines_at {w:World} {A:Option Addr} {n c:Nat} {xs:List LV} (h:RSl lineR w (vAp w) A n c xs) (k:Nat) (hk:k<n):
 ∃b off s1 s2 s3 s4,A=some ⟨b,off,none⟩∧b<w.heap.size∧LRead w (xs.getD k LV.zero) s1 s2 s3 s4∧w.rangeAt b (off+k * 17) (vEl (xs.getD k LV.zero) s1 s2 s3 s4):=by
 obtain ⟨b,off,e,_,hb,hc⟩:=h.at_ (by omega)
 have hl:k<xs.length:=by rw [h.len];exact hk
 have e2:xs.getD k LV.zero=xs[k]:=by simp [List.getD,hl]
 obtain ⟨vs,h1,h2⟩:=hc k xs[k] (List.getElem?_eq_getElem hl);obtain ⟨s1,s2,s3,s4,rfl,h3⟩:=line_read h1;exact ⟨b,off,s1,s2,s3,s4,e,hb,by rw [e2];exact h3,by rw [e2];exact h2⟩
open Go
section
variable {P:Program} {ops:Array Oper} {Q:Exit→Act→World→Prop} {md:Region.Mode} {S:Bool→World→Prop} {j0:Nat}
theorem getD_ready {listed:Array Bool} {j:Nat} (h:listed.getD j true=false):listed.getD j false=false:=by
 unfold Array.getD at h ⊢
 split at h
 · rename_i hj
   rw [dif_pos hj];exact h
 · cases h
def StepF (P:Program) (ops:Array Oper) (S:Bool→World→Prop) (j0 i:Nat) (o:Oper) (v:Value) (a:Act):Prop:=
 (Region.wanted o (yielded ops a.tmps)=true∧((i=j0∧∀w,S false w→StepRun P (S true) v ((execOp a.eval o).run P w))∨(i≠j0∧∀f w,S f w→StepRun P (S f) v ((execOp a.eval o).run P w))))∨
 (Region.wanted o (yielded ops a.tmps)=false∧v=undef∧i≠j0)
theorem StepF.of_put {i:Nat} {o:Oper} {v u:Value} {a:Act} {dst:Option Tmp} (hs:∀cs b,o.op≠.select cs b) (h:∀d,dst=some d→d∉o.looksAt ops):
 StepF P ops S j0 i o v (a.put dst u)↔StepF P ops S j0 i o v a:=by
 unfold StepF;rw [execOp_put o hs a dst u h,wanted_put o a dst u h]
theorem stepRun_wp {i:Nat} {o:Oper} {v:Value} {a:Act} {T:World→Prop} (hi:ops[i]?=some o) (hw:Region.wanted o (yielded ops a.tmps)=true) {K:Act→World→Prop} {w:World} (hr:StepRun P T v ((execOp a.eval o).run P w)) (h:∀w',T w'→K (a.put o.dst v) w'):
 wpOp P ops Q i K a w:=by
 unfold Go.wpOp;simp only [hi,hw,if_true]
 left
 unfold Oper.wp;generalize (execOp a.eval o).run P w=r at hr ⊢
 cases r with
 |ok n w'=>
  cases n with
  |value u=>
   obtain ⟨rfl,h2⟩:=hr;exact h _ h2
  |skip=>
   obtain ⟨rfl,h2⟩:=hr;exact h _ h2
  |enter f args=>exact Calls.mono (show Calls P f args w' _ from hr) fun e w'' ⟨he,hs⟩=>by subst he;exact h _ hs
  |_=>exact (show False from hr).elim
 |halt x w'=>exact (show False from hr).elim
theorem getD_setF (listed:Array Bool) {i j:Nat} (h:i≠j):(listed.setIfInBounds i true).getD j false=listed.getD j false:=by
 unfold Array.getD
 by_cases hj:j<listed.size
 · rw [dif_pos (by simpa using hj),dif_pos hj]
   exact Array.getElem_setIfInBounds_ne _ h
 · rw [dif_neg (by simpa using hj),dif_neg hj]
theorem StepF.wpOp {i:Nat} {o:Oper} {v:Value} {a:Act} {listed:Array Bool} (hi:ops[i]?=some o) (hsz:listed.size=ops.size) (hun:listed.getD i false=false) (hy:StepF P ops S j0 i o v a) {K:Act→World→Prop} {w:World} (hS:S (listed.getD j0 false) w)
 (h:∀w',S ((listed.setIfInBounds i true).getD j0 false) w'→K (a.put o.dst v) w'):wpOp P ops Q i K a w:=by
 have hlt:i<listed.size:=by rw [hsz];exact (Array.getElem?_eq_some_iff.1 hi).1
 rcases hy with ⟨hw,⟨rfl,hr⟩|⟨hne,hr⟩⟩|⟨hw,rfl,hne⟩
 · rw [hun] at hS
   refine stepRun_wp hi hw (hr w hS) (fun w' hS'=>h w' ?_);rw [show (listed.setIfInBounds i true).getD i false=true by simp [Array.getD,hlt]];exact hS'
 · refine stepRun_wp hi hw (hr _ w hS) (fun w' hS'=>h w' ?_)
   rw [show (listed.setIfInBounds i true).getD j0 false=listed.getD j0 false from getD_setF listed hne];exact hS'
 · unfold Go.wpOp
   simp only [hi,hw,Bool.false_eq_true,if_false];refine h w ?_;rw [show (listed.setIfInBounds i true).getD j0 false=listed.getD j0 false from getD_setF listed hne];exact hS
def DerF (P:Program) (md:Region.Mode) (ops:Array Oper) (Q:Exit→Act→World→Prop) (S:Bool→World→Prop) (j0:Nat):Nat→Array Bool→Act→Prop
 |0,listed,a=>Region.ready md ops listed=[]∧∀w,S (listed.getD j0 false) w→Q .normal a w
 |fuel+1,listed,a=>(Region.ready md ops listed=[]∧∀w,S (listed.getD j0 false) w→Q .normal a w)∨
  ∃i oi v,ops[i]?=some oi∧Region.free md ops listed i=true∧i∈Region.ready md ops listed∧StepF P ops S j0 i oi v a∧DerF P md ops Q S j0 fuel (listed.setIfInBounds i true) (a.put oi.dst v)
theorem DerF.swap (hsel:∀(j:Nat) (o:Oper) cs b,ops[j]?=some o→o.op≠.select cs b):∀(fuel:Nat) (listed:Array Bool) (a:Act),DerF P md ops Q S j0 (fuel+1) listed a→
 ∀(j:Nat) (oj:Oper),ops[j]?=some oj→j∈Region.ready md ops listed→∃v,StepF P ops S j0 j oj v a∧DerF P md ops Q S j0 fuel (listed.setIfInBounds j true) (a.put oj.dst v):=by
 intro fuel
 induction fuel with
 |zero=>
  intro listed a D j oj hoj hj
  rcases D with ⟨hr,_⟩|⟨i,oi,v,hi,hf,hr,hy,D'⟩
  · rw [hr] at hj;cases hj
  · by_cases hij:j=i
    · subst hij
      rw [hi] at hoj
      cases hoj
      exact ⟨v,hy,D'⟩
    · have:=ready_mono hj hij
      rw [D'.1] at this
      cases this
 |succ fuel ih=>
  intro listed a D j oj hoj hj
  rcases D with ⟨hr,_⟩|⟨i,oi,v,hi,hf,hr,hy,D'⟩
  · rw [hr] at hj;cases hj
  · by_cases hij:j=i
    · subst hij
      rw [hi] at hoj
      cases hoj
      exact ⟨v,hy,D'⟩
    · obtain ⟨u,hyj,D2⟩:=ih _ _ D' j oj hoj (ready_mono hj hij)
      obtain ⟨hjun,oj2,hoj2,hall⟩:=mem_ready.1 hj;rw [hoj] at hoj2
      cases hoj2
      have hnot:∀e∈oj.after,Region.binds md e=true→e.on≠i:=fun e he hb heq=>by
       have h1:=hall e he hb;have h0:=(mem_ready.1 hr).1;rw [heq] at h1
       rcases Nat.lt_or_ge i listed.size with h'|h'
       · simp [h'] at h0 h1;rw [h0] at h1;cases h1
       · simp [Array.getElem?_eq_none h'] at h1
      obtain ⟨h1,h2,h3⟩:=Oper.apart_spec (Region.free_spec hi hf j oj hoj hij hjun hnot)
      refine ⟨u,(StepF.of_put (hsel j oj · · hoj) h1).1 hyj,.inr ⟨i,oi,v,hi,vHd hf,ready_mono hr (Ne.symm hij),(StepF.of_put (hsel i oi · · hi) h3).2 hy,?_⟩⟩
      rw [Array.setIfInBounds_comm _ _ hij,←Act.put_comm a v u h2];exact D2
theorem DerF.any (hsel:∀(j:Nat) (o:Oper) cs b,ops[j]?=some o→o.op≠.select cs b):∀(fuel:Nat) (listed:Array Bool) (a:Act),listed.size=ops.size→DerF P md ops Q S j0 fuel listed a→∀w,S (listed.getD j0 false) w→wpAny P md ops Q fuel listed a w:=by
 intro fuel
 induction fuel with
 |zero=>intro listed a _ D w hS;exact ⟨D.1,D.2 w hS⟩
 |succ fuel ih=>
  intro listed a hsz D w hS;refine ⟨fun hr=>?_,fun j hj=>?_⟩
  · rcases D with ⟨_,h⟩|⟨i,oi,v,hi,hf,hr2,hy,D'⟩
    · exact h w hS
    · rw [hr] at hr2;cases hr2
  · obtain ⟨hun,oj,hoj,_⟩:=mem_ready.1 hj
    obtain ⟨v,hy,D'⟩:=DerF.swap hsel fuel listed a D j oj hoj hj;exact hy.wpOp hoj hsz (getD_ready hun) hS (fun w' hS'=>ih _ _ (by simpa using hsz) D' w' hS')
def SeqF (P:Program) (ops:Array Oper) (Q:Exit→Act→World→Prop) (S:Bool→World→Prop) (j0:Nat):Nat→List Oper→Act→Prop
 |k,[],a=>∀w,S (decide (j0<k)) w→Q .normal a w
 |k,o :: rest,a=>∃v,StepF P ops S j0 k o v a∧SeqF P ops Q S j0 (k+1) rest (a.put o.dst v)
theorem SeqF.run {k:Nat} {o:Oper} {rest:List Oper} {a:Act} (v:Value) (hw:Region.wanted o (yielded ops a.tmps)=true) (hk:k≠j0) (hr:∀f w,S f w→StepRun P (S f) v ((execOp a.eval o).run P w)) (h:SeqF P ops Q S j0 (k+1) rest (a.put o.dst v)):
 SeqF P ops Q S j0 k (o :: rest) a:=⟨v,.inl ⟨hw,.inr ⟨hk,hr⟩⟩,h⟩
theorem SeqF.make {k:Nat} {o:Oper} {rest:List Oper} {a:Act} (v:Value) (hw:Region.wanted o (yielded ops a.tmps)=true) (hk:k=j0) (hr:∀w,S false w→StepRun P (S true) v ((execOp a.eval o).run P w)) (h:SeqF P ops Q S j0 (k+1) rest (a.put o.dst v)):
 SeqF P ops Q S j0 k (o :: rest) a:=⟨v,.inl ⟨hw,.inl ⟨hk,hr⟩⟩,h⟩
theorem SeqF.last {k:Nat} {a:Act} (h:∀w,S (decide (j0<k)) w→Q .normal a w):SeqF P ops Q S j0 k [] a:=h
theorem upto_getD (n k j:Nat) (h:j<n):(upto n k).getD j false=decide (j<k):=by
 unfold upto;simp [Array.getD,h]
theorem SeqF.der (hck:vDb md ops=true) (hj:j0<ops.size):∀(n k:Nat) (a:Act),k+n=ops.size→SeqF P ops Q S j0 k (ops.toList.drop k) a→DerF P md ops Q S j0 n (upto ops.size k) a:=by
 unfold vDb at hck;simp only [Bool.and_eq_true,List.all_eq_true,List.mem_range] at hck;intro n
 induction n with
 |zero=>
  intro k a hk h;rw [List.drop_eq_nil_of_le (by simp;omega)] at h;refine ⟨vHv k (by omega),?_⟩;rw [upto_getD _ _ _ hj];exact h
 |succ n ih=>
  intro k a hk h
  have hlt:k<ops.size:=by omega
  rw [List.drop_eq_getElem_cons (by simpa using hlt)] at h;obtain ⟨v,hs,h⟩:=h;obtain ⟨h1,h2⟩:=hck.2 k hlt;refine .inr ⟨k,ops[k],v,Array.getElem?_eq_getElem hlt,h1,by simpa using h2,by simpa using hs,?_⟩;rw [upto_set];exact ih (k+1) _ (by omega) (by simpa using h)
theorem wp_region_makes {l:List Oper} {id:Nat} {a:Act} {w:World} (S:Bool→World→Prop) (j0:Nat) (hm:P.follows .mixedOrders=true) (hck:vDb .any l.toArray=true) (hj:j0<l.length) (hS:S false w.drew) (h:SeqF P l.toArray Q S j0 0 l a):(Code.region id l.toArray true).wp P Q a w:=by
 have hsel:=Region.noSelect_spec (ops:=l.toArray) (by unfold vDb at hck;rw [Bool.and_eq_true] at hck;exact hck.1);have hd:=SeqF.der (md:=.any) hck (by simpa using hj) l.toArray.size 0 a (by omega) (by simpa using h)
 have h0:(upto l.toArray.size 0).getD j0 false=false:=by rw [upto_getD _ _ _ (by simpa using hj)];simp
 have hs0:S ((upto l.toArray.size 0).getD j0 false) w.drew:=by rw [h0];exact hS
 rw [upto_zero] at hd hs0;exact wp_region_any hm (DerF.any hsel _ _ _ (by simp) hd _ hs0)
end
def NineI (w:World) (q:Nat) (zs:List Int):Prop:=q<w.heap.size∧∀j,j<9→w.cell? ⟨q,j,none⟩=some (.int .i64 (zs.getD j 0))
theorem nine_new (w:World) (T:TypeId) (z0 z1 z2 z3 z4 z5 z6 z7 z8:Int) {q:Nat} (hq:w.heap.size=q):NineI (w.alloc (.cells #[.int .i64 z0,.int .i64 z1,.int .i64 z2,.int .i64 z3,.int .i64 z4,.int .i64 z5,.int .i64 z6,.int .i64 z7,.int .i64 z8] T)) q [z0,z1,z2,z3,z4,z5,z6,z7,z8]:=by
 subst hq;refine ⟨by simp,fun j hj=>?_⟩
 match j,hj with
 |0,_|1,_|2,_|3,_|4,_|5,_|6,_|7,_|8,_=>simp
 |j+9,h=>exact absurd h (by omega)
def nineZ (L:LV):List Int:=[((str L.dev).size:Int),((str L.port).size:Int),((str L.peer).size:Int),((str L.far).size:Int),((str L.name).size:Int),(L.tagged.length:Int),(L.imports.length:Int),(L.exports.length:Int),(L.addrs.length:Int)]
structure LvSm (L:LV):Prop where
 txt:L.dev.length≤300∧L.port.length≤300∧L.peer.length≤300∧L.far.length≤300∧L.name.length≤300
 lst:L.tagged.length≤300∧L.imports.length≤300∧L.exports.length≤300∧L.addrs.length≤300
theorem nine_sm {L:LV} (h:∀j,j<9→(nineZ L).getD j 0≤300):LvSm L:=by
 have h0:=h 0 (by omega);have h1:=h 1 (by omega);have h2:=h 2 (by omega);have h3:=h 3 (by omega);have h4:=h 4 (by omega);have h5:=h 5 (by omega);have h6:=h 6 (by omega);have h7:=h 7 (by omega);have h8:=h 8 (by omega);simp [nineZ,vBa] at h0 h1 h2 h3 h4 h5 h6 h7 h8;exact ⟨⟨by omega,by omega,by omega,by omega,by omega⟩,⟨by omega,by omega,by omega,by omega⟩⟩
def GotSm (n:Nat) (xs:List LV) (w:World) (e:Ending) (w':World):Prop:=∃g,e=.returned (.bool g)∧(g=false→n≤400∧∀k,k<n→LvSm (xs.getD k LV.zero))∧Below w.heap.size w w'
theorem great12_any (A:Option Addr) (n c:Nat) (xs:List LV) (w:World) (h:RSl lineR w (vAp w) A n c xs):
 Calls Tryz.prog 28 #[.slice A n c] w fun e w'=>GotSm n xs w e w':=by
 unfold GotSm;have hle:=h.le;have hcap:=h.cap;have H:=hid h;clear h
 by_cases h4:400<n
 · have i0:(400:Int)<(n:Int):=by omega
   go_enter Tryz.func28,Tryz.ntmps28
   go_wp2;go_ret;exact ⟨true,rfl,fun e=>(by cases e),Below.refl _ _⟩
 have i0:¬(400:Int)<(n:Int):=by omega
 go_enter Tryz.func28,Tryz.ntmps28
 go_wp2
 go_loopw [3,4] (fun s i wr=>∃(k:Nat) (z:Int),i=.int .i64 k∧s=.int .i64 z∧k≤n∧(∀j,j<k→LvSm (xs.getD j LV.zero))∧Below w.heap.size w wr) (fun _ i _=>match i with| .int _ x=>(n - x).toNat|_=>0)
 case atStart=>exact ⟨0,0,rfl,rfl,by omega,fun j h=>absurd h (by omega),Below.refl _ _⟩
 case round=>
  obtain ⟨k,z,rfl,rfl,hk,hsm,hb⟩:=hrel;have W:=hid hb;have SM:=hid hsm;clear hb hsm
  by_cases hlt:k<n
  · obtain ⟨b0,o0,s1,s2,s3,s4,rfl,hb0,l0,r0⟩:=lines_at H.out k hlt
    obtain ⟨L,hL⟩:∃L,xs.getD k LV.zero=L:=⟨_,rfl⟩;rw [hL] at r0;have R0:=vAb r0 (W.out.block b0 hb0);have c2:wr.cell? ⟨b0,o0+k * 17+2,none⟩=some (.string (str L.dev)):=R0 2 _ rfl;have c3:wr.cell? ⟨b0,o0+k * 17+3,none⟩=some (.string (str L.port)):=R0 3 _ rfl;have c4:wr.cell? ⟨b0,o0+k * 17+4,none⟩=some (.string (str L.peer)):=R0 4 _ rfl;have c5:wr.cell? ⟨b0,o0+k * 17+5,none⟩=some (.string (str L.far)):=R0 5 _ rfl
    have c6:wr.cell? ⟨b0,o0+k * 17+6,none⟩=some (.string (str L.name)):=R0 6 _ rfl;have c13:wr.cell? ⟨b0,o0+k * 17+13,none⟩=some (.slice s1.A s1.n s1.c):=R0 13 _ rfl;have c14:wr.cell? ⟨b0,o0+k * 17+14,none⟩=some (.slice s2.A s2.n s2.c):=R0 14 _ rfl;have c15:wr.cell? ⟨b0,o0+k * 17+15,none⟩=some (.slice s3.A s3.n s3.c):=R0 15 _ rfl;have c16:wr.cell? ⟨b0,o0+k * 17+16,none⟩=some (.slice s4.A s4.n s4.c):=R0 16 _ rfl
    have i1:(k:Int)<(n:Int):=by omega
    have LN:=hid (show nineZ L=([((str L.dev).size:Int),((str L.port).size:Int),((str L.peer).size:Int),((str L.far).size:Int),((str L.name).size:Int),(s1.n:Int),(s2.n:Int),(s3.n:Int),(s4.n:Int)]:List Int) from by rw [hL] at l0;unfold nineZ;rw [l0.1.len,l0.2.1.len,l0.2.2.1.len,l0.2.2.2.len]);have HL:=hid hL;clear l0 r0 R0 hL
    have KP:=hid (show ∀wx,Below wr.heap.size wr wx→wx.cell? ⟨b0,o0+k * 17+2,none⟩=some (.string (str L.dev))∧wx.cell? ⟨b0,o0+k * 17+3,none⟩=some (.string (str L.port))∧wx.cell? ⟨b0,o0+k * 17+4,none⟩=some (.string (str L.peer))∧wx.cell? ⟨b0,o0+k * 17+5,none⟩=some (.string (str L.far))∧wx.cell? ⟨b0,o0+k * 17+6,none⟩=some (.string (str L.name))∧wx.cell? ⟨b0,o0+k * 17+13,none⟩=some (.slice s1.A s1.n s1.c)∧wx.cell? ⟨b0,o0+k * 17+14,none⟩=some (.slice s2.A s2.n s2.c)∧wx.cell? ⟨b0,o0+k * 17+15,none⟩=some (.slice s3.A s3.n s3.c)∧wx.cell? ⟨b0,o0+k * 17+16,none⟩=some (.slice s4.A s4.n s4.c) from
     fun wx hx=>by
      have hbr:b0<wr.heap.size:=Nat.lt_of_lt_of_le hb0 W.out.size
      exact ⟨(hx.cell (p:=⟨b0,_,none⟩) hbr).trans c2,(hx.cell (p:=⟨b0,_,none⟩) hbr).trans c3,(hx.cell (p:=⟨b0,_,none⟩) hbr).trans c4,(hx.cell (p:=⟨b0,_,none⟩) hbr).trans c5,(hx.cell (p:=⟨b0,_,none⟩) hbr).trans c6,(hx.cell (p:=⟨b0,_,none⟩) hbr).trans c13,(hx.cell (p:=⟨b0,_,none⟩) hbr).trans c14,(hx.cell (p:=⟨b0,_,none⟩) hbr).trans c15,(hx.cell (p:=⟨b0,_,none⟩) hbr).trans c16⟩)
    clear c2 c3 c4 c5 c6 c13 c14 c15 c16;go_wp2;refine wp_region_makes (fun f wx=>Below wr.heap.size wr wx∧(f=true→NineI wx wr.heap.size (nineZ L))∧(f=false→wx.heap.size=wr.heap.size)) 54 (by kernel_rfl) (by kernel_rfl) (by decide) ⟨(Below.refl _ _).drew,fun h=>(by cases h),fun _=>rfl⟩ ?_
    repeat
     first
      |(refine SeqF.run ?_ rfl (by decide) (fun f wx hx=>?_) ?_
        rotate_left
        · obtain ⟨c2,c3,c4,c5,c6,c13,c14,c15,c16⟩:=KP.out wx hx.1
          go_simp
          refine StepRun.val ?_;exact hx
        simp only [Act.put,List.setIfInBounds_toArray,List.set_cons_zero,List.set_cons_succ])
    refine SeqF.make (.slice (some ⟨wr.heap.size,0,none⟩) 9 9) rfl rfl (fun wx hx=>?_) ?_
    · have hs:=hx.2.2 rfl
      go_simp
      exact ⟨rfl,hx.1.alloc (by omega) _,by rw [LN.out];exact nine_new wx _ _ _ _ _ _ _ _ _ _ hs⟩
    simp only [Act.put,List.setIfInBounds_toArray,List.set_cons_zero,List.set_cons_succ]
    repeat
     first
      |(refine SeqF.run ?_ rfl (by decide) (fun f wx hx=>?_) ?_
        rotate_left
        · obtain ⟨c2,c3,c4,c5,c6,c13,c14,c15,c16⟩:=KP.out wx hx.1
          go_simp
          refine StepRun.val ?_;exact hx
        simp only [Act.put,List.setIfInBounds_toArray,List.set_cons_zero,List.set_cons_succ])
    refine SeqF.last (fun w5 h5=>?_);have W5:=hid (vAa W.out h5.1);have NI:=hid (h5.2.1 rfl);clear h5;go_wp2
    go_loopw [3,72] (fun s j wq=>∃(jn:Nat) (z2:Int),j=.int .i64 jn∧s=.int .i64 z2∧jn≤9∧(∀i,i<jn→(nineZ L).getD i 0≤300)∧wq=w5) (fun _ j _=>match j with| .int _ x=>(9 - x).toNat|_=>0)
    case atStart=>exact ⟨0,z,rfl,rfl,by omega,fun i h=>absurd h (by omega),rfl⟩
    case round=>
     obtain ⟨jn,z2,rfl,rfl,hj,hle9,hwq⟩:=hrel;subst hwq;have L9:=hid hle9;clear hle9
     by_cases hj9:jn<9
     · have hz:=NI.out.2 jn hj9
       obtain ⟨zj,hzj⟩:∃zj,(nineZ L).getD jn 0=zj:=⟨_,rfl⟩;rw [hzj] at hz;have ZJ:=hid hzj;clear hzj
       have i2:(jn:Int)<9:=by omega
       by_cases h3:300<zj
       · go_wp2
         go_ret;exact ⟨true,rfl,fun e=>(by cases e),W5.out⟩
       · go_wp2
         go_roundw
         case rel=>exact ⟨jn+1,_,by simp,rfl,by omega,fun i hi=>(by
          by_cases e:i=jn
          · subst e;rw [ZJ.out];omega
          · exact L9.out i (by omega)),trivial⟩
         case measure=>simp only [];omega
     · have i2:¬(jn:Int)<9:=by omega
       go_wp2
       go_roundw
       case rel=>exact ⟨k+1,z2,by simp,rfl,by omega,fun j hj2=>(by
        by_cases e:j=k
        · subst e;rw [HL.out];exact nine_sm (fun i hi=>L9.out i (by omega))
        · exact SM.out j (by omega)),W5.out⟩
       case measure=>simp only [];omega
  · go_wp2
    go_ret;exact ⟨_,rfl,fun _=>⟨by omega,fun j hj=>SM.out j (by omega)⟩,W.out⟩
open Go
section
variable {P:Program} {ops:Array Oper} {Q:Exit→Act→World→Prop}
def leftI (d:Nat→Bool):Nat→Nat
 |0=>0
 |n+1=>leftI d n+if d n then 0 else 1
theorem leftI_set (d:Nat→Bool) (j:Nat) (hj:d j=false):∀n,leftI (fun i=>i == j || d i) n+(if j<n then 1 else 0)=leftI d n
 |0=>by simp [leftI]
 |n+1=>by
  have ih:=leftI_set d j hj n
  change leftI (fun i=>i == j || d i) n+(if (n == j || d n)=true then 0 else 1)+(if j<n+1 then 1 else 0)=leftI d n+(if d n=true then 0 else 1)
  by_cases h:n=j
  · subst h
    rw [if_neg (Nat.lt_irrefl n)] at ih;rw [hj,if_pos (by simp),if_pos (Nat.lt_succ_self n),if_neg (by simp)];omega
  · have e:(n == j)=false:=by simpa using h
    rw [e,Bool.false_or]
    by_cases h2:j<n
    · rw [if_pos h2] at ih
      rw [if_pos (show j<n+1 by omega)];omega
    · rw [if_neg h2] at ih
      rw [if_neg (show ¬j<n+1 by omega)];omega
theorem leftI_zero (d:Nat→Bool):∀n,leftI d n=0→∀j,j<n→d j=true
 |0,_,j,hj=>absurd hj (by omega)
 |n+1,h,j,hj=>by
  unfold leftI at h
  by_cases e:j=n
  · subst e
    cases hd:d j with
    |true=>rfl
    |false=>rw [hd] at h;simp at h
  · exact leftI_zero d n (by omega) j (by omega)
def RunI (P:Program) (K:Value→World→Prop):Result Next→Prop
 | .ok (.value u) w'=>K u w'
 | .ok .skip w'=>K undef w'
 | .ok (.enter f args) w'=>Calls P f args w' fun e w''=>∃v,e=.returned v∧K v w''
 |_=>False
def StepI (P:Program) (ops:Array Oper) (o:Oper) (a:Act) (w:World) (K:Value→World→Prop):Prop:=
 (Region.wanted o (yielded ops a.tmps)=true∧RunI P K ((execOp a.eval o).run P w))∨(Region.wanted o (yielded ops a.tmps)=false∧K undef w)
theorem StepI.wpOp {i:Nat} {o:Oper} {a:Act} (hi:ops[i]?=some o) {w:World} {K:Act→World→Prop} (h:StepI P ops o a w (fun v w'=>K (a.put o.dst v) w')):wpOp P ops Q i K a w:=by
 unfold Go.wpOp;simp only [hi]
 rcases h with ⟨hw,hr⟩|⟨hw,hr⟩
 · simp only [hw,if_true]
   left
   unfold Oper.wp;generalize (execOp a.eval o).run P w=r at hr ⊢
   cases r with
   |ok n w'=>
    cases n with
    |value u=>exact hr
    |skip=>exact hr
    |enter f args=>exact Calls.mono (show Calls P f args w' _ from hr) fun e w'' ⟨v,he,hs⟩=>by subst he;exact hs
    |_=>exact (show False from hr).elim
   |halt x w'=>exact (show False from hr).elim
 · simp only [hw,Bool.false_eq_true,if_false]
   exact hr
theorem ready_nilI (hck:vDb .any ops=true) {listed:Array Bool} (hl:listed.size=ops.size) (h:Region.ready .any ops listed=[]):∀j,j<ops.size→listed.getD j false=true:=by
 unfold vDb at hck;simp only [Bool.and_eq_true,List.all_eq_true,List.mem_range] at hck;intro j
 induction j using Nat.strongRecOn with
 |ind j ih=>
  intro hj
  cases hd:listed.getD j false with
  |true=>rfl
  |false=>
   have hr:j∈Region.ready .any ops (upto ops.size j):=by simpa using (hck.2 j hj).2
   obtain ⟨_,o,ho,ha⟩:=mem_ready.1 hr
   have hin:j∈Region.ready .any ops listed:=mem_ready.2 ⟨by
    have hjl:j<listed.size:=by omega
    simp [hjl] at hd ⊢
    exact hd,o,ho,fun e he hb=>by
    have h1:=ha e he hb
    have h2:e.on<j:=by
     unfold upto at h1
     by_cases g:e.on<ops.size
     · simpa [g] using h1
     · simp [g] at h1
    exact ih e.on h2 (by omega)⟩
   rw [h] at hin
   cases hin
theorem wpAny_inv (Inv:(Nat→Bool)→Act→World→Prop) (hck:vDb .any ops=true)
 (hstep:∀d a w j o,Inv d a w→ops[j]?=some o→d j=false→(∀i,(o.after.any fun e=>e.on == i && Region.binds .any e)=true→d i=true)→StepI P ops o a w (fun v w'=>Inv (fun i=>i == j || d i) (a.put o.dst v) w'))
 (hend:∀d a w,Inv d a w→(∀j,j<ops.size→d j=true)→Q .normal a w):
 ∀(fuel:Nat) (listed:Array Bool) (a:Act) (w:World),listed.size=ops.size→leftI (fun i=>listed.getD i false) ops.size≤fuel→Inv (fun i=>listed.getD i false) a w→wpAny P .any ops Q fuel listed a w:=by
 intro fuel
 induction fuel with
 |zero=>
  intro listed a w hs hf hI;have hall:=leftI_zero _ _ (Nat.le_zero.1 hf);refine ⟨?_,hend _ _ _ hI hall⟩;rw [List.eq_nil_iff_forall_not_mem];intro j hj;obtain ⟨h0,o,ho,_⟩:=mem_ready.1 hj;have hlt:=(Array.getElem?_eq_some_iff.1 ho).1
  have:=hall j hlt
  have hjl:j<listed.size:=by omega
  simp [hjl] at this h0;rw [this] at h0
  cases h0
 |succ fuel ih=>
  intro listed a w hs hf hI;refine ⟨fun hr=>hend _ _ _ hI (ready_nilI hck hs hr),fun j hj=>?_⟩;obtain ⟨h0,o,ho,ha⟩:=mem_ready.1 hj;have hlt:=(Array.getElem?_eq_some_iff.1 ho).1
  have hjl:j<listed.size:=by omega
  have hd:(fun i=>listed.getD i false) j=false:=by
   simp [hjl] at h0 ⊢;exact h0
  have hfn:(fun i=>(listed.setIfInBounds j true).getD i false)=(fun i=>i == j || listed.getD i false):=by
   funext i
   by_cases e:i=j
   · subst e;simp [hjl]
   · rw [getD_set_ne false (fun g=>e g.symm)]
     have:(i == j)=false:=by simpa using e
     rw [this]
     rfl
  refine StepI.wpOp ho ?_
  have hst:=hstep _ a w j o hI ho hd (fun i hi=>by
   obtain ⟨e,he,hb⟩:=Array.any_eq_true'.1 hi;simp only [Bool.and_eq_true,beq_iff_eq] at hb;rw [←hb.1]
   exact ha e he hb.2)
  have hK:∀v w',Inv (fun i=>i == j || listed.getD i false) (a.put o.dst v) w'→wpAny P .any ops Q fuel (listed.setIfInBounds j true) (a.put o.dst v) w':=fun v w' h=>by
   refine ih _ _ _ (by simpa using hs) ?_ (by rw [hfn];exact h);rw [hfn]
   have:=leftI_set (fun i=>listed.getD i false) j hd ops.size
   rw [if_pos hlt] at this;omega
  rcases hst with ⟨hw,hr⟩|⟨hw,hr⟩
  · refine .inl ⟨hw,?_⟩
    generalize (execOp a.eval o).run P w=r at hr ⊢
    cases r with
    |ok n w'=>
     cases n with
     |value u=>exact hK _ _ hr
     |skip=>exact hK _ _ hr
     |enter f args=>exact Calls.mono (show Calls P f args w' _ from hr) fun e w'' ⟨v,he,hs⟩=>⟨v,he,hK _ _ hs⟩
     |_=>exact (show False from hr).elim
    |halt x w'=>exact (show False from hr).elim
  · exact .inr ⟨hw,hK _ _ hr⟩
theorem leftI_none:∀n,leftI (fun _=>false) n=n
 |0=>rfl
 |n+1=>by unfold leftI;rw [leftI_none n];simp
theorem vCb {l:List Oper} {id:Nat} {a:Act} {w:World} (Inv:(Nat→Bool)→Act→World→Prop) (hm:P.follows .mixedOrders=true) (hck:vDb .any l.toArray=true) (h0:Inv (fun _=>false) a w.drew)
 (hstep:∀d a w j o,Inv d a w→l[j]?=some o→d j=false→(∀i,(o.after.any fun e=>e.on == i && Region.binds .any e)=true→d i=true)→StepI P l.toArray o a w (fun v w'=>Inv (fun i=>i == j || d i) (a.put o.dst v) w'))
 (hend:∀d a w,Inv d a w→(∀j,j<l.length→d j=true)→Q .normal a w):(Code.region id l.toArray true).wp P Q a w:=by
 have hfn:(fun i=>(Array.replicate l.toArray.size false).getD i false)=(fun _=>false):=by
  funext i
  by_cases h:i<l.length<;>simp [h]
 refine wp_region_any hm (wpAny_inv Inv hck (fun d a w j o hI ho hd hdep=>hstep d a w j o hI (by simpa using ho) hd hdep) (fun d a w hI hall=>hend d a w hI (by simpa using hall)) _ _ _ _ (by simp) (by rw [hfn,leftI_none];exact Nat.le_refl _) (by rw [hfn];exact h0))
end
end Go.Proofs.YtgmflecelnefcaaGreat
