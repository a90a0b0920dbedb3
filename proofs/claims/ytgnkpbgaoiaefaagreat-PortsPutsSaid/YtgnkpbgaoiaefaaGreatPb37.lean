import Derived.Test.YtgnkpbgaoiaefaaGreatPb34
import Derived.Test.YtgnkpbgaoiaefaaGreatPb36
import Derived.Test.YtgnkpbgaoiaefaaGreatPb11
import Derived.Test.YtgnkpbgaoiaefaaGreatPb27
import Derived.Test.YtgnkpbgaoiaefaaGreatPb08
import Derived.Test.YtgnkpbgaoiaefaaGreatPb07
import Derived.Test.YtgnkpbgaoiaefaaGreatPb04
import Derived.Test.YtgnkpbgaoiaefaaGreatPb23
import Derived.Test.YtgnkpbgaoiaefaaGreatPb25
import Derived.Test.YtgnkpbgaoiaefaaGreatPb29
import Derived.Deep.CutBlock
import Derived.Deep.DeepCutAuto
import Derived.Deep.RegionHeldLaw
import Derived.RegionTactic
set_option maxRecDepth 100000
set_option maxHeartbeats 40000000
namespace Go.Proofs.YtgnkpbgaoiaefaaGreat
open Go.Lib (hid)
open Go.RowKit
def I64 (x:Int):Prop:= -9223372036854775808≤x∧x≤9223372036854775807
structure LvW (L:LV):Prop where
 row:I64 L.row
 kind:I64 L.kind
 mac:0≤L.mac∧L.mac<18446744073709551616
 addr:0≤L.addr∧L.addr<4294967296
 bits:I64 L.bits
 vlan:I64 L.vlan
 num:I64 L.num
 cost:I64 L.cost
 tagged:∀x∈L.tagged,I64 x
 imports:∀x∈L.imports,I64 x
 exports:∀x∈L.exports,I64 x
 addrs:∀x∈L.addrs,0≤x∧x<4294967296
def GotWs (ps:List (List UInt8)) (w:World) (e:Ending) (w':World):Prop:=∃A n c,e=.returned (.slice A n c)∧SSl w' A n c ps∧Below w.heap.size w w'
theorem row_lit (w:World) (ps:List (List UInt8)) (T:TypeId) (h:ps.length≤1000):SSl (w.alloc (.cells (txts ps).toArray T)) (some ⟨w.heap.size,0,none⟩) ps.length ps.length ps:=by
 refine ⟨rfl,Nat.le_refl _,by unfold maxLen;omega,fun _=>⟨w.heap.size,0,rfl,by simp,fun j hj=>?_⟩⟩;rw [Nat.zero_add,World.cell?_alloc_new];simp [txts,List.getD,List.getElem?_eq_getElem hj]
theorem rspell_any (s:SlV) (xs:List Int) (w:World) (h:ISl w .i64 s.A s.n s.c xs) (hn:xs.length≤1000) (hr:∀x∈xs,I64 x):Calls Tryz.prog 143 #[.slice s.A s.n s.c] w fun e w'=>e=.returned (.string (str (wlS wnS xs)))∧Below w.heap.size w w':=by
 have hl:=h.len;have hle:=h.le;have hcap:=h.cap
 by_cases h0:s.n=0
 · have hx:xs=[]:=List.eq_nil_of_length_eq_zero (by omega)
   have E:=hid (show wlS wnS xs=vGm by unfold wlS;rw [if_pos hx])
   have d:((s.n:Int) == 0)=true:=by rw [h0];rfl
   clear h hx h0 hr
   go_enter Tryz.func143,Tryz.ntmps143
   go_wp2;go_ret;exact ⟨by rw [E.out];rfl,Below.refl _ _⟩
 · have E:=hid (show wlS wnS xs=jn txI xs by unfold wlS;rw [if_neg (fun e=>h0 (by rw [←hl,e];rfl))];rfl)
   have d:((s.n:Int) == 0)=false:=by rw [beq_eq_false_iff_ne];omega
   have C:=hid (refListI_any s.A s.n s.c xs w h (by omega) hr);clear h h0 hr
   go_enter Tryz.func143,Tryz.ntmps143
   go_wp2_with (go_at_call 177;(with_reducible refine C.out.mono ?_);rintro e w1 ⟨rfl,b1⟩);go_ret;exact ⟨by rw [E.out];rfl,b1⟩
theorem rwords1 (L:LV) (s1 s2 s3 s4:SlV) (w:World) (h:LRead w L s1 s2 s3 s4) (hw:LvW L) (hk:L.kind=1):Calls Tryz.prog 81 #[vAw L s1 s2 s3 s4] w (GotWs (wrW L) w):=by
 have WR:=hid (show wrW L=[vEe,L.dev,wnS L.num,wmS L.mac] by unfold wrW;rw [if_pos hk]);have H:=hid h;have HW:=hid hw;have P0:=hid (vCc w L s1 s2 s3 s4 37);have CV:=hid (fun w'=>vAl L.vlan hw.vlan.1 hw.vlan.2 w');have CN:=hid (fun w'=>vAl L.num hw.num.1 hw.num.2 w');have CC:=hid (fun w'=>vAl L.cost hw.cost.1 hw.cost.2 w');have CM:=hid (fun w'=>Mac.refText_any L.mac w' hw.mac.1 hw.mac.2)
 have HK:=hid hk;clear h hw hk;unfold vAw
 go_enter Tryz.func81,Tryz.ntmps81
 go_upto_region 1 with fail
 obtain ⟨w1,hw1⟩:∃w1,w.alloc (.cells #[.int .i64 L.row,.int .i64 L.kind,.string (str L.dev),.string (str L.port),.string (str L.peer),.string (str L.far),.string (str L.name),.int .u64 L.mac,.int .u32 L.addr,.int .i64 L.bits,.int .i64 L.vlan,.int .i64 L.num,.int .i64 L.cost,.slice s1.A s1.n s1.c,.slice s2.A s2.n s2.c,.slice s3.A s3.n s3.c,.slice s4.A s4.n s4.c] 37)=w1:=⟨_,rfl⟩;have B1:=hid (show Below w.heap.size w w1 by rw [←hw1];exact (Below.refl _ _).alloc (Nat.le_refl _) _)
 rw [hw1] at P0 ⊢;have Q0:=hid (show w.heap.size<w1.heap.size by rw [←hw1];simp);clear hw1
 have KP:=hid (show ∀wx,Below w1.heap.size w1 wx→(wx.cell? ⟨w.heap.size,1,none⟩=some (.int .i64 1)∧wx.cell? ⟨w.heap.size,2,none⟩=some (.string (str L.dev))∧wx.cell? ⟨w.heap.size,7,none⟩=some (.int .u64 L.mac)∧wx.cell? ⟨w.heap.size,10,none⟩=some (.int .i64 L.vlan)∧wx.cell? ⟨w.heap.size,11,none⟩=some (.int .i64 L.num))∧LRead wx L s1 s2 s3 s4∧Below w.heap.size w wx from fun wx hx=>by
  have bx:=P0.out.below (by omega) hx
  exact ⟨⟨(bx.cell 1 (by omega)).trans (by first|rfl|(show some (Value.int .i64 L.kind)=_;rw [HK.out])),(bx.cell 2 (by omega)).trans (by first|rfl|(show some (Value.int .i64 L.kind)=_;rw [HK.out])),(bx.cell 7 (by omega)).trans (by first|rfl|(show some (Value.int .i64 L.kind)=_;rw [HK.out])),(bx.cell 10 (by omega)).trans (by first|rfl|(show some (Value.int .i64 L.kind)=_;rw [HK.out])),(bx.cell 11 (by omega)).trans (by first|rfl|(show some (Value.int .i64 L.kind)=_;rw [HK.out]))⟩,⟨H.out.1.below (B1.out.trans (hx.mono B1.out.size)),H.out.2.1.below (B1.out.trans (hx.mono B1.out.size)),H.out.2.2.1.below (B1.out.trans (hx.mono B1.out.size)),H.out.2.2.2.below (B1.out.trans (hx.mono B1.out.size))⟩,B1.out.trans (hx.mono B1.out.size)⟩)
 obtain ⟨⟨c1,c2,c7,c10,c11⟩,_,_⟩:=KP.out w1 (Below.refl _ _)
 go_wp2_with (first
  |(go_at_call 141;(with_reducible refine (CV.out _).mono ?_);rintro e w2 ⟨rfl,b_⟩;have Y2:=hid (b_);obtain ⟨⟨c1,c2,c7,c10,c11⟩,_,_⟩:=KP.out _ Y2.out;clear b_)
  |(go_at_call 141;(with_reducible refine (CN.out _).mono ?_);rintro e w3 ⟨rfl,b_⟩;have Y3:=hid (vAa Y2.out b_);obtain ⟨⟨c1,c2,c7,c10,c11⟩,_,_⟩:=KP.out _ Y3.out;clear b_)
  |(go_at_call 142;(with_reducible refine (CM.out _).mono ?_);rintro e w4 ⟨rfl,b_⟩;have Y4:=hid (vAa Y3.out b_);obtain ⟨⟨c1,c2,c7,c10,c11⟩,_,_⟩:=KP.out _ Y4.out;clear b_))
 go_ret;have B4:=(KP.out _ Y4.out).2.2;rw [WR.out];exact ⟨_,_,_,rfl,row_lit w4 [vEe,L.dev,wnS L.num,wmS L.mac] _ (by simp),B4.alloc B4.size _⟩
theorem rwords2 (L:LV) (s1 s2 s3 s4:SlV) (w:World) (h:LRead w L s1 s2 s3 s4) (hw:LvW L) (hk:L.kind=2) (ht:L.tagged=[]):Calls Tryz.prog 81 #[vAw L s1 s2 s3 s4] w (GotWs (wrW L) w):=by
 have WR:=hid (show wrW L=[vBf,L.dev,L.port,wnS L.cost,vAo,wnS L.vlan] by unfold wrW;rw [if_neg (by rw [hk];decide),if_pos hk,if_pos ht])
 have hz:s1.n=0:=by rw [←h.1.len,ht];rfl
 have d:((s1.n:Int) == 0)=true:=by rw [hz];rfl
 clear ht hz;have H:=hid h;have HW:=hid hw;have P0:=hid (vCc w L s1 s2 s3 s4 37);have CV:=hid (fun w'=>vAl L.vlan hw.vlan.1 hw.vlan.2 w');have CN:=hid (fun w'=>vAl L.num hw.num.1 hw.num.2 w');have CC:=hid (fun w'=>vAl L.cost hw.cost.1 hw.cost.2 w');have CM:=hid (fun w'=>Mac.refText_any L.mac w' hw.mac.1 hw.mac.2);have HK:=hid hk
 clear h hw hk;unfold vAw
 go_enter Tryz.func81,Tryz.ntmps81
 go_upto_region 1 with fail
 obtain ⟨w1,hw1⟩:∃w1,w.alloc (.cells #[.int .i64 L.row,.int .i64 L.kind,.string (str L.dev),.string (str L.port),.string (str L.peer),.string (str L.far),.string (str L.name),.int .u64 L.mac,.int .u32 L.addr,.int .i64 L.bits,.int .i64 L.vlan,.int .i64 L.num,.int .i64 L.cost,.slice s1.A s1.n s1.c,.slice s2.A s2.n s2.c,.slice s3.A s3.n s3.c,.slice s4.A s4.n s4.c] 37)=w1:=⟨_,rfl⟩;have B1:=hid (show Below w.heap.size w w1 by rw [←hw1];exact (Below.refl _ _).alloc (Nat.le_refl _) _)
 rw [hw1] at P0 ⊢;have Q0:=hid (show w.heap.size<w1.heap.size by rw [←hw1];simp);clear hw1
 have KP:=hid (show ∀wx,Below w1.heap.size w1 wx→(wx.cell? ⟨w.heap.size,1,none⟩=some (.int .i64 2)∧wx.cell? ⟨w.heap.size,2,none⟩=some (.string (str L.dev))∧wx.cell? ⟨w.heap.size,3,none⟩=some (.string (str L.port))∧wx.cell? ⟨w.heap.size,7,none⟩=some (.int .u64 L.mac)∧wx.cell? ⟨w.heap.size,10,none⟩=some (.int .i64 L.vlan)∧wx.cell? ⟨w.heap.size,11,none⟩=some (.int .i64 L.num)∧wx.cell? ⟨w.heap.size,12,none⟩=some (.int .i64 L.cost)∧wx.cell? ⟨w.heap.size,13,none⟩=some (.slice s1.A s1.n s1.c))∧LRead wx L s1 s2 s3 s4∧Below w.heap.size w wx from fun wx hx=>by
  have bx:=P0.out.below (by omega) hx
  exact ⟨⟨(bx.cell 1 (by omega)).trans (by first|rfl|(show some (Value.int .i64 L.kind)=_;rw [HK.out])),(bx.cell 2 (by omega)).trans (by first|rfl|(show some (Value.int .i64 L.kind)=_;rw [HK.out])),(bx.cell 3 (by omega)).trans (by first|rfl|(show some (Value.int .i64 L.kind)=_;rw [HK.out])),(bx.cell 7 (by omega)).trans (by first|rfl|(show some (Value.int .i64 L.kind)=_;rw [HK.out])),(bx.cell 10 (by omega)).trans (by first|rfl|(show some (Value.int .i64 L.kind)=_;rw [HK.out])),(bx.cell 11 (by omega)).trans (by first|rfl|(show some (Value.int .i64 L.kind)=_;rw [HK.out])),(bx.cell 12 (by omega)).trans (by first|rfl|(show some (Value.int .i64 L.kind)=_;rw [HK.out])),(bx.cell 13 (by omega)).trans (by first|rfl|(show some (Value.int .i64 L.kind)=_;rw [HK.out]))⟩,⟨H.out.1.below (B1.out.trans (hx.mono B1.out.size)),H.out.2.1.below (B1.out.trans (hx.mono B1.out.size)),H.out.2.2.1.below (B1.out.trans (hx.mono B1.out.size)),H.out.2.2.2.below (B1.out.trans (hx.mono B1.out.size))⟩,B1.out.trans (hx.mono B1.out.size)⟩)
 obtain ⟨⟨c1,c2,c3,c7,c10,c11,c12,c13⟩,_,_⟩:=KP.out w1 (Below.refl _ _)
 go_wp2_with (first
  |(go_at_call 141;(with_reducible refine (CV.out _).mono ?_);rintro e w2 ⟨rfl,b_⟩;have Y2:=hid (b_);obtain ⟨⟨c1,c2,c3,c7,c10,c11,c12,c13⟩,_,_⟩:=KP.out _ Y2.out;clear b_)
  |(go_at_call 141;(with_reducible refine (CN.out _).mono ?_);rintro e w3 ⟨rfl,b_⟩;have Y3:=hid (vAa Y2.out b_);obtain ⟨⟨c1,c2,c3,c7,c10,c11,c12,c13⟩,_,_⟩:=KP.out _ Y3.out;clear b_)
  |(go_at_call 142;(with_reducible refine (CM.out _).mono ?_);rintro e w4 ⟨rfl,b_⟩;have Y4:=hid (vAa Y3.out b_);obtain ⟨⟨c1,c2,c3,c7,c10,c11,c12,c13⟩,_,_⟩:=KP.out _ Y4.out;clear b_)
  |(go_at_call 141;(with_reducible refine (CC.out _).mono ?_);rintro e w5 ⟨rfl,b_⟩;have Y5:=hid (vAa Y4.out b_);obtain ⟨⟨c1,c2,c3,c7,c10,c11,c12,c13⟩,_,_⟩:=KP.out _ Y5.out;clear b_))
 go_ret;have B4:=(KP.out _ Y5.out).2.2;rw [WR.out];exact ⟨_,_,_,rfl,row_lit w5 [vBf,L.dev,L.port,wnS L.cost,vAo,wnS L.vlan] _ (by simp),B4.alloc B4.size _⟩
theorem rwords3 (L:LV) (s1 s2 s3 s4:SlV) (w:World) (h:LRead w L s1 s2 s3 s4) (hw:LvW L) (hk:L.kind=2) (ht:¬L.tagged=[]) (hn:L.tagged.length≤1000) (hv:L.vlan=0):Calls Tryz.prog 81 #[vAw L s1 s2 s3 s4] w (GotWs (wrW L) w):=by
 have WR:=hid (show wrW L=[vBf,L.dev,L.port,wnS L.cost,vAu,vGm,jn wnS L.tagged] by unfold wrW;rw [if_neg (by rw [hk];decide),if_pos hk,if_neg ht,if_pos hv]);have SP:=hid (fun (w':World) (hr:LRead w' L s1 s2 s3 s4)=>rspell_any s1 L.tagged w' hr.1 hn hw.tagged);rw [show wlS wnS L.tagged=jn wnS L.tagged by unfold wlS;rw [if_neg ht]] at SP
 have hz:¬s1.n=0:=fun e=>ht (List.eq_nil_of_length_eq_zero (by rw [h.1.len,e]))
 have d:((s1.n:Int) == 0)=false:=by rw [beq_eq_false_iff_ne];omega
 have d2:(L.vlan == 0)=true:=by rw [hv];rfl
 clear ht hz hv hn;have H:=hid h;have HW:=hid hw;have P0:=hid (vCc w L s1 s2 s3 s4 37);have CV:=hid (fun w'=>vAl L.vlan hw.vlan.1 hw.vlan.2 w');have CN:=hid (fun w'=>vAl L.num hw.num.1 hw.num.2 w');have CC:=hid (fun w'=>vAl L.cost hw.cost.1 hw.cost.2 w');have CM:=hid (fun w'=>Mac.refText_any L.mac w' hw.mac.1 hw.mac.2);have HK:=hid hk
 clear h hw hk;unfold vAw
 go_enter Tryz.func81,Tryz.ntmps81
 go_upto_region 1 with fail
 obtain ⟨w1,hw1⟩:∃w1,w.alloc (.cells #[.int .i64 L.row,.int .i64 L.kind,.string (str L.dev),.string (str L.port),.string (str L.peer),.string (str L.far),.string (str L.name),.int .u64 L.mac,.int .u32 L.addr,.int .i64 L.bits,.int .i64 L.vlan,.int .i64 L.num,.int .i64 L.cost,.slice s1.A s1.n s1.c,.slice s2.A s2.n s2.c,.slice s3.A s3.n s3.c,.slice s4.A s4.n s4.c] 37)=w1:=⟨_,rfl⟩;have B1:=hid (show Below w.heap.size w w1 by rw [←hw1];exact (Below.refl _ _).alloc (Nat.le_refl _) _)
 rw [hw1] at P0 ⊢;have Q0:=hid (show w.heap.size<w1.heap.size by rw [←hw1];simp);clear hw1
 have KP:=hid (show ∀wx,Below w1.heap.size w1 wx→(wx.cell? ⟨w.heap.size,1,none⟩=some (.int .i64 2)∧wx.cell? ⟨w.heap.size,2,none⟩=some (.string (str L.dev))∧wx.cell? ⟨w.heap.size,3,none⟩=some (.string (str L.port))∧wx.cell? ⟨w.heap.size,7,none⟩=some (.int .u64 L.mac)∧wx.cell? ⟨w.heap.size,10,none⟩=some (.int .i64 L.vlan)∧wx.cell? ⟨w.heap.size,11,none⟩=some (.int .i64 L.num)∧wx.cell? ⟨w.heap.size,12,none⟩=some (.int .i64 L.cost)∧wx.cell? ⟨w.heap.size,13,none⟩=some (.slice s1.A s1.n s1.c))∧LRead wx L s1 s2 s3 s4∧Below w.heap.size w wx from fun wx hx=>by
  have bx:=P0.out.below (by omega) hx
  exact ⟨⟨(bx.cell 1 (by omega)).trans (by first|rfl|(show some (Value.int .i64 L.kind)=_;rw [HK.out])),(bx.cell 2 (by omega)).trans (by first|rfl|(show some (Value.int .i64 L.kind)=_;rw [HK.out])),(bx.cell 3 (by omega)).trans (by first|rfl|(show some (Value.int .i64 L.kind)=_;rw [HK.out])),(bx.cell 7 (by omega)).trans (by first|rfl|(show some (Value.int .i64 L.kind)=_;rw [HK.out])),(bx.cell 10 (by omega)).trans (by first|rfl|(show some (Value.int .i64 L.kind)=_;rw [HK.out])),(bx.cell 11 (by omega)).trans (by first|rfl|(show some (Value.int .i64 L.kind)=_;rw [HK.out])),(bx.cell 12 (by omega)).trans (by first|rfl|(show some (Value.int .i64 L.kind)=_;rw [HK.out])),(bx.cell 13 (by omega)).trans (by first|rfl|(show some (Value.int .i64 L.kind)=_;rw [HK.out]))⟩,⟨H.out.1.below (B1.out.trans (hx.mono B1.out.size)),H.out.2.1.below (B1.out.trans (hx.mono B1.out.size)),H.out.2.2.1.below (B1.out.trans (hx.mono B1.out.size)),H.out.2.2.2.below (B1.out.trans (hx.mono B1.out.size))⟩,B1.out.trans (hx.mono B1.out.size)⟩)
 obtain ⟨⟨c1,c2,c3,c7,c10,c11,c12,c13⟩,_,_⟩:=KP.out w1 (Below.refl _ _)
 go_wp2_with (first
  |(go_at_call 141;(with_reducible refine (CV.out _).mono ?_);rintro e w2 ⟨rfl,b_⟩;have Y2:=hid (b_);obtain ⟨⟨c1,c2,c3,c7,c10,c11,c12,c13⟩,_,_⟩:=KP.out _ Y2.out;clear b_)
  |(go_at_call 141;(with_reducible refine (CN.out _).mono ?_);rintro e w3 ⟨rfl,b_⟩;have Y3:=hid (vAa Y2.out b_);obtain ⟨⟨c1,c2,c3,c7,c10,c11,c12,c13⟩,_,_⟩:=KP.out _ Y3.out;clear b_)
  |(go_at_call 142;(with_reducible refine (CM.out _).mono ?_);rintro e w4 ⟨rfl,b_⟩;have Y4:=hid (vAa Y3.out b_);obtain ⟨⟨c1,c2,c3,c7,c10,c11,c12,c13⟩,_,_⟩:=KP.out _ Y4.out;clear b_)
  |(go_at_call 141;(with_reducible refine (CC.out _).mono ?_);rintro e w5 ⟨rfl,b_⟩;have Y5:=hid (vAa Y4.out b_);obtain ⟨⟨c1,c2,c3,c7,c10,c11,c12,c13⟩,_,_⟩:=KP.out _ Y5.out;clear b_))
 refine vGn (fun wx=>Below w1.heap.size w1 wx) 9 (by kernel_rfl) (by kernel_rfl) (vAd Y5.out 1) ?_;simp only [List.take_succ_cons,List.take_zero,List.drop_succ_cons,List.drop_zero]
 repeat
  first
   |(refine SeqT.run ?_ rfl (fun wx hx=>?_) ?_
     rotate_left
     · obtain ⟨⟨c1,c2,c3,c7,c10,c11,c12,c13⟩,hr_,_⟩:=KP.out wx hx
       go_simp
       first
        |(refine StepRun.val ?_;exact hx)
        |(refine StepRun.call (v:=.string (str (jn wnS L.tagged))) ?_;(with_reducible refine Calls.mono (SP.out _ hr_) ?_);rintro e w' ⟨rfl,hb⟩;exact ⟨rfl,vAa hx hb⟩)
     simp only [Act.put,List.setIfInBounds_toArray,List.set_cons_zero,List.set_cons_succ])
 refine SeqT.last (fun w6 h6=>?_);have B4:=hid (KP.out _ h6).2.2;go_wp2;go_ret;rw [WR.out];exact ⟨_,_,_,rfl,row_lit w6 [vBf,L.dev,L.port,wnS L.cost,vAu,vGm,jn wnS L.tagged] _ (by simp),B4.out.alloc B4.out.size _⟩
theorem rwords4 (L:LV) (s1 s2 s3 s4:SlV) (w:World) (h:LRead w L s1 s2 s3 s4) (hw:LvW L) (hk:L.kind=2) (ht:¬L.tagged=[]) (hn:L.tagged.length≤1000) (hv:¬L.vlan=0):Calls Tryz.prog 81 #[vAw L s1 s2 s3 s4] w (GotWs (wrW L) w):=by
 have WR:=hid (show wrW L=[vBf,L.dev,L.port,wnS L.cost,vAu,wnS L.vlan,jn wnS L.tagged] by unfold wrW;rw [if_neg (by rw [hk];decide),if_pos hk,if_neg ht,if_neg hv]);have SP:=hid (fun (w':World) (hr:LRead w' L s1 s2 s3 s4)=>rspell_any s1 L.tagged w' hr.1 hn hw.tagged);rw [show wlS wnS L.tagged=jn wnS L.tagged by unfold wlS;rw [if_neg ht]] at SP
 have hz:¬s1.n=0:=fun e=>ht (List.eq_nil_of_length_eq_zero (by rw [h.1.len,e]))
 have d:((s1.n:Int) == 0)=false:=by rw [beq_eq_false_iff_ne];omega
 have d2:(L.vlan == 0)=false:=by simpa using hv
 clear ht hz hv hn;have H:=hid h;have HW:=hid hw;have P0:=hid (vCc w L s1 s2 s3 s4 37);have CV:=hid (fun w'=>vAl L.vlan hw.vlan.1 hw.vlan.2 w');have CN:=hid (fun w'=>vAl L.num hw.num.1 hw.num.2 w');have CC:=hid (fun w'=>vAl L.cost hw.cost.1 hw.cost.2 w');have CM:=hid (fun w'=>Mac.refText_any L.mac w' hw.mac.1 hw.mac.2);have HK:=hid hk
 clear h hw hk;unfold vAw
 go_enter Tryz.func81,Tryz.ntmps81
 go_upto_region 1 with fail
 obtain ⟨w1,hw1⟩:∃w1,w.alloc (.cells #[.int .i64 L.row,.int .i64 L.kind,.string (str L.dev),.string (str L.port),.string (str L.peer),.string (str L.far),.string (str L.name),.int .u64 L.mac,.int .u32 L.addr,.int .i64 L.bits,.int .i64 L.vlan,.int .i64 L.num,.int .i64 L.cost,.slice s1.A s1.n s1.c,.slice s2.A s2.n s2.c,.slice s3.A s3.n s3.c,.slice s4.A s4.n s4.c] 37)=w1:=⟨_,rfl⟩;have B1:=hid (show Below w.heap.size w w1 by rw [←hw1];exact (Below.refl _ _).alloc (Nat.le_refl _) _)
 rw [hw1] at P0 ⊢;have Q0:=hid (show w.heap.size<w1.heap.size by rw [←hw1];simp);clear hw1
 have KP:=hid (show ∀wx,Below w1.heap.size w1 wx→(wx.cell? ⟨w.heap.size,1,none⟩=some (.int .i64 2)∧wx.cell? ⟨w.heap.size,2,none⟩=some (.string (str L.dev))∧wx.cell? ⟨w.heap.size,3,none⟩=some (.string (str L.port))∧wx.cell? ⟨w.heap.size,7,none⟩=some (.int .u64 L.mac)∧wx.cell? ⟨w.heap.size,10,none⟩=some (.int .i64 L.vlan)∧wx.cell? ⟨w.heap.size,11,none⟩=some (.int .i64 L.num)∧wx.cell? ⟨w.heap.size,12,none⟩=some (.int .i64 L.cost)∧wx.cell? ⟨w.heap.size,13,none⟩=some (.slice s1.A s1.n s1.c))∧LRead wx L s1 s2 s3 s4∧Below w.heap.size w wx from fun wx hx=>by
  have bx:=P0.out.below (by omega) hx
  exact ⟨⟨(bx.cell 1 (by omega)).trans (by first|rfl|(show some (Value.int .i64 L.kind)=_;rw [HK.out])),(bx.cell 2 (by omega)).trans (by first|rfl|(show some (Value.int .i64 L.kind)=_;rw [HK.out])),(bx.cell 3 (by omega)).trans (by first|rfl|(show some (Value.int .i64 L.kind)=_;rw [HK.out])),(bx.cell 7 (by omega)).trans (by first|rfl|(show some (Value.int .i64 L.kind)=_;rw [HK.out])),(bx.cell 10 (by omega)).trans (by first|rfl|(show some (Value.int .i64 L.kind)=_;rw [HK.out])),(bx.cell 11 (by omega)).trans (by first|rfl|(show some (Value.int .i64 L.kind)=_;rw [HK.out])),(bx.cell 12 (by omega)).trans (by first|rfl|(show some (Value.int .i64 L.kind)=_;rw [HK.out])),(bx.cell 13 (by omega)).trans (by first|rfl|(show some (Value.int .i64 L.kind)=_;rw [HK.out]))⟩,⟨H.out.1.below (B1.out.trans (hx.mono B1.out.size)),H.out.2.1.below (B1.out.trans (hx.mono B1.out.size)),H.out.2.2.1.below (B1.out.trans (hx.mono B1.out.size)),H.out.2.2.2.below (B1.out.trans (hx.mono B1.out.size))⟩,B1.out.trans (hx.mono B1.out.size)⟩)
 obtain ⟨⟨c1,c2,c3,c7,c10,c11,c12,c13⟩,_,_⟩:=KP.out w1 (Below.refl _ _)
 go_wp2_with (first
  |(go_at_call 141;(with_reducible refine (CV.out _).mono ?_);rintro e w2 ⟨rfl,b_⟩;have Y2:=hid (b_);obtain ⟨⟨c1,c2,c3,c7,c10,c11,c12,c13⟩,_,_⟩:=KP.out _ Y2.out;clear b_)
  |(go_at_call 141;(with_reducible refine (CN.out _).mono ?_);rintro e w3 ⟨rfl,b_⟩;have Y3:=hid (vAa Y2.out b_);obtain ⟨⟨c1,c2,c3,c7,c10,c11,c12,c13⟩,_,_⟩:=KP.out _ Y3.out;clear b_)
  |(go_at_call 142;(with_reducible refine (CM.out _).mono ?_);rintro e w4 ⟨rfl,b_⟩;have Y4:=hid (vAa Y3.out b_);obtain ⟨⟨c1,c2,c3,c7,c10,c11,c12,c13⟩,_,_⟩:=KP.out _ Y4.out;clear b_)
  |(go_at_call 141;(with_reducible refine (CC.out _).mono ?_);rintro e w5 ⟨rfl,b_⟩;have Y5:=hid (vAa Y4.out b_);obtain ⟨⟨c1,c2,c3,c7,c10,c11,c12,c13⟩,_,_⟩:=KP.out _ Y5.out;clear b_))
 refine vGn (fun wx=>Below w1.heap.size w1 wx) 9 (by kernel_rfl) (by kernel_rfl) (vAd Y5.out 1) ?_;simp only [List.take_succ_cons,List.take_zero,List.drop_succ_cons,List.drop_zero]
 repeat
  first
   |(refine SeqT.run ?_ rfl (fun wx hx=>?_) ?_
     rotate_left
     · obtain ⟨⟨c1,c2,c3,c7,c10,c11,c12,c13⟩,hr_,_⟩:=KP.out wx hx
       go_simp
       first
        |(refine StepRun.val ?_;exact hx)
        |(refine StepRun.call (v:=.string (str (jn wnS L.tagged))) ?_;(with_reducible refine Calls.mono (SP.out _ hr_) ?_);rintro e w' ⟨rfl,hb⟩;exact ⟨rfl,vAa hx hb⟩)
     simp only [Act.put,List.setIfInBounds_toArray,List.set_cons_zero,List.set_cons_succ])
 refine SeqT.last (fun w6 h6=>?_);have B4:=hid (KP.out _ h6).2.2;go_wp2;go_ret;rw [WR.out];exact ⟨_,_,_,rfl,row_lit w6 [vBf,L.dev,L.port,wnS L.cost,vAu,wnS L.vlan,jn wnS L.tagged] _ (by simp),B4.out.alloc B4.out.size _⟩
theorem run_op_line {ρ:Operand→Value} {o:Oper} {x:Operand} {w:World} {b off:Nat} {L:LV} {s1 s2 s3 s4:SlV} (h:w.rangeAt b off (vEu L s1 s2 s3 s4)) (ho:o.op=.load 37 x) (hx:ρ x=.pointer (some ⟨b,off,none⟩)):
 (execOp ρ o).run Tryz.prog w=.ok (.value (vAw L s1 s2 s3 s4)) w:=by
 obtain ⟨d,hd1,hd2⟩:=line_desc;unfold execOp;simp only [ho,hx,Instr.loadAt,Instr.sureAddr,Sem.run_bind,Sem.run_pure,Result.andThen_ok,run_loadVar_mid w b off 37 (vEu L s1 s2 s3 s4) d h hd1 hd2 vHe]
 rfl
theorem lines_at {w:World} {A:Option Addr} {n c:Nat} {xs:List LV} (h:RSl lineR w (vAs w) A n c xs) (k:Nat) (hk:k<n):
 ∃b off s1 s2 s3 s4,A=some ⟨b,off,none⟩∧b<w.heap.size∧LRead w (xs.getD k LV.zero) s1 s2 s3 s4∧w.rangeAt b (off+k * 17) (vEu (xs.getD k LV.zero) s1 s2 s3 s4):=by
 obtain ⟨b,off,e,_,hb,hc⟩:=h.at_ (by omega)
 have hl:k<xs.length:=by rw [h.len];exact hk
 have e2:xs.getD k LV.zero=xs[k]:=by simp [List.getD,hl]
 obtain ⟨vs,h1,h2⟩:=hc k xs[k] (List.getElem?_eq_getElem hl);obtain ⟨s1,s2,s3,s4,rfl,h3⟩:=line_read h1;exact ⟨b,off,s1,s2,s3,s4,e,hb,by rw [e2];exact h3,by rw [e2];exact h2⟩
open Go
section
variable {P:Program} {ops:Array Oper} {Q:Exit→Act→World→Prop} {md:Region.Mode} {S:Bool→World→Prop} {j0:Nat}
theorem getD_ready {listed:Array Bool} {j:Nat} (h:listed.getD j true=false):listed.getD j false=false:=by
 unfold Array.getD at h ⊢
 split at h
 · rename_i hj
   rw [dif_pos hj];exact h
 · cases h
def StepF (P:Program) (ops:Array Oper) (S:Bool→World→Prop) (j0 i:Nat) (o:Oper) (v:Value) (a:Act):Prop:=
 (Region.wanted o (yielded ops a.tmps)=true∧((i=j0∧∀w,S false w→StepRun P (S true) v ((execOp a.eval o).run P w))∨(i≠j0∧∀f w,S f w→StepRun P (S f) v ((execOp a.eval o).run P w))))∨
 (Region.wanted o (yielded ops a.tmps)=false∧v=undef∧i≠j0)
theorem StepF.of_put {i:Nat} {o:Oper} {v u:Value} {a:Act} {dst:Option Tmp} (hs:∀cs b,o.op≠.select cs b) (h:∀d,dst=some d→d∉o.looksAt ops):
 StepF P ops S j0 i o v (a.put dst u)↔StepF P ops S j0 i o v a:=by
 unfold StepF;rw [execOp_put o hs a dst u h,wanted_put o a dst u h]
theorem stepRun_wp {i:Nat} {o:Oper} {v:Value} {a:Act} {T:World→Prop} (hi:ops[i]?=some o) (hw:Region.wanted o (yielded ops a.tmps)=true) {K:Act→World→Prop} {w:World} (hr:StepRun P T v ((execOp a.eval o).run P w)) (h:∀w',T w'→K (a.put o.dst v) w'):
 wpOp P ops Q i K a w:=by
 unfold Go.wpOp;simp only [hi,hw,if_true]
 left
 unfold Oper.wp;generalize (execOp a.eval o).run P w=r at hr ⊢
 cases r with
 |ok n w'=>
  cases n with
  |value u=>
   obtain ⟨rfl,h2⟩:=hr;exact h _ h2
  |skip=>
   obtain ⟨rfl,h2⟩:=hr;exact h _ h2
  |enter f args=>exact Calls.mono (show Calls P f args w' _ from hr) fun e w'' ⟨he,hs⟩=>by subst he;exact h _ hs
  |_=>exact (show False from hr).elim
 |halt x w'=>exact (show False from hr).elim
theorem getD_setF (listed:Array Bool) {i j:Nat} (h:i≠j):(listed.setIfInBounds i true).getD j false=listed.getD j false:=by
 unfold Array.getD
 by_cases hj:j<listed.size
 · rw [dif_pos (by simpa using hj),dif_pos hj]
   exact Array.getElem_setIfInBounds_ne _ h
 · rw [dif_neg (by simpa using hj),dif_neg hj]
theorem StepF.wpOp {i:Nat} {o:Oper} {v:Value} {a:Act} {listed:Array Bool} (hi:ops[i]?=some o) (hsz:listed.size=ops.size) (hun:listed.getD i false=false) (hy:StepF P ops S j0 i o v a) {K:Act→World→Prop} {w:World} (hS:S (listed.getD j0 false) w)
 (h:∀w',S ((listed.setIfInBounds i true).getD j0 false) w'→K (a.put o.dst v) w'):wpOp P ops Q i K a w:=by
 have hlt:i<listed.size:=by rw [hsz];exact (Array.getElem?_eq_some_iff.1 hi).1
 rcases hy with ⟨hw,⟨rfl,hr⟩|⟨hne,hr⟩⟩|⟨hw,rfl,hne⟩
 · rw [hun] at hS
   refine stepRun_wp hi hw (hr w hS) (fun w' hS'=>h w' ?_);rw [show (listed.setIfInBounds i true).getD i false=true by simp [Array.getD,hlt]];exact hS'
 · refine stepRun_wp hi hw (hr _ w hS) (fun w' hS'=>h w' ?_)
   rw [show (listed.setIfInBounds i true).getD j0 false=listed.getD j0 false from getD_setF listed hne];exact hS'
 · unfold Go.wpOp
   simp only [hi,hw,Bool.false_eq_true,if_false];refine h w ?_;rw [show (listed.setIfInBounds i true).getD j0 false=listed.getD j0 false from getD_setF listed hne];exact hS
def DerF (P:Program) (md:Region.Mode) (ops:Array Oper) (Q:Exit→Act→World→Prop) (S:Bool→World→Prop) (j0:Nat):Nat→Array Bool→Act→Prop
 |0,listed,a=>Region.ready md ops listed=[]∧∀w,S (listed.getD j0 false) w→Q .normal a w
 |fuel+1,listed,a=>(Region.ready md ops listed=[]∧∀w,S (listed.getD j0 false) w→Q .normal a w)∨
  ∃i oi v,ops[i]?=some oi∧Region.free md ops listed i=true∧i∈Region.ready md ops listed∧StepF P ops S j0 i oi v a∧DerF P md ops Q S j0 fuel (listed.setIfInBounds i true) (a.put oi.dst v)
theorem DerF.swap (hsel:∀(j:Nat) (o:Oper) cs b,ops[j]?=some o→o.op≠.select cs b):∀(fuel:Nat) (listed:Array Bool) (a:Act),DerF P md ops Q S j0 (fuel+1) listed a→
 ∀(j:Nat) (oj:Oper),ops[j]?=some oj→j∈Region.ready md ops listed→∃v,StepF P ops S j0 j oj v a∧DerF P md ops Q S j0 fuel (listed.setIfInBounds j true) (a.put oj.dst v):=by
 intro fuel
 induction fuel with
 |zero=>
  intro listed a D j oj hoj hj
  rcases D with ⟨hr,_⟩|⟨i,oi,v,hi,hf,hr,hy,D'⟩
  · rw [hr] at hj;cases hj
  · by_cases hij:j=i
    · subst hij
      rw [hi] at hoj
      cases hoj
      exact ⟨v,hy,D'⟩
    · have:=ready_mono hj hij
      rw [D'.1] at this
      cases this
 |succ fuel ih=>
  intro listed a D j oj hoj hj
  rcases D with ⟨hr,_⟩|⟨i,oi,v,hi,hf,hr,hy,D'⟩
  · rw [hr] at hj;cases hj
  · by_cases hij:j=i
    · subst hij
      rw [hi] at hoj
      cases hoj
      exact ⟨v,hy,D'⟩
    · obtain ⟨u,hyj,D2⟩:=ih _ _ D' j oj hoj (ready_mono hj hij)
      obtain ⟨hjun,oj2,hoj2,hall⟩:=mem_ready.1 hj;rw [hoj] at hoj2
      cases hoj2
      have hnot:∀e∈oj.after,Region.binds md e=true→e.on≠i:=fun e he hb heq=>by
       have h1:=hall e he hb;have h0:=(mem_ready.1 hr).1;rw [heq] at h1
       rcases Nat.lt_or_ge i listed.size with h'|h'
       · simp [h'] at h0 h1;rw [h0] at h1;cases h1
       · simp [Array.getElem?_eq_none h'] at h1
      obtain ⟨h1,h2,h3⟩:=Oper.apart_spec (Region.free_spec hi hf j oj hoj hij hjun hnot)
      refine ⟨u,(StepF.of_put (hsel j oj · · hoj) h1).1 hyj,.inr ⟨i,oi,v,hi,vHf hf,ready_mono hr (Ne.symm hij),(StepF.of_put (hsel i oi · · hi) h3).2 hy,?_⟩⟩
      rw [Array.setIfInBounds_comm _ _ hij,←Act.put_comm a v u h2];exact D2
theorem DerF.any (hsel:∀(j:Nat) (o:Oper) cs b,ops[j]?=some o→o.op≠.select cs b):∀(fuel:Nat) (listed:Array Bool) (a:Act),listed.size=ops.size→DerF P md ops Q S j0 fuel listed a→∀w,S (listed.getD j0 false) w→wpAny P md ops Q fuel listed a w:=by
 intro fuel
 induction fuel with
 |zero=>intro listed a _ D w hS;exact ⟨D.1,D.2 w hS⟩
 |succ fuel ih=>
  intro listed a hsz D w hS;refine ⟨fun hr=>?_,fun j hj=>?_⟩
  · rcases D with ⟨_,h⟩|⟨i,oi,v,hi,hf,hr2,hy,D'⟩
    · exact h w hS
    · rw [hr] at hr2;cases hr2
  · obtain ⟨hun,oj,hoj,_⟩:=mem_ready.1 hj
    obtain ⟨v,hy,D'⟩:=DerF.swap hsel fuel listed a D j oj hoj hj;exact hy.wpOp hoj hsz (getD_ready hun) hS (fun w' hS'=>ih _ _ (by simpa using hsz) D' w' hS')
def SeqF (P:Program) (ops:Array Oper) (Q:Exit→Act→World→Prop) (S:Bool→World→Prop) (j0:Nat):Nat→List Oper→Act→Prop
 |k,[],a=>∀w,S (decide (j0<k)) w→Q .normal a w
 |k,o :: rest,a=>∃v,StepF P ops S j0 k o v a∧SeqF P ops Q S j0 (k+1) rest (a.put o.dst v)
theorem SeqF.run {k:Nat} {o:Oper} {rest:List Oper} {a:Act} (v:Value) (hw:Region.wanted o (yielded ops a.tmps)=true) (hk:k≠j0) (hr:∀f w,S f w→StepRun P (S f) v ((execOp a.eval o).run P w)) (h:SeqF P ops Q S j0 (k+1) rest (a.put o.dst v)):
 SeqF P ops Q S j0 k (o :: rest) a:=⟨v,.inl ⟨hw,.inr ⟨hk,hr⟩⟩,h⟩
theorem SeqF.make {k:Nat} {o:Oper} {rest:List Oper} {a:Act} (v:Value) (hw:Region.wanted o (yielded ops a.tmps)=true) (hk:k=j0) (hr:∀w,S false w→StepRun P (S true) v ((execOp a.eval o).run P w)) (h:SeqF P ops Q S j0 (k+1) rest (a.put o.dst v)):
 SeqF P ops Q S j0 k (o :: rest) a:=⟨v,.inl ⟨hw,.inl ⟨hk,hr⟩⟩,h⟩
theorem SeqF.last {k:Nat} {a:Act} (h:∀w,S (decide (j0<k)) w→Q .normal a w):SeqF P ops Q S j0 k [] a:=h
theorem upto_getD (n k j:Nat) (h:j<n):(upto n k).getD j false=decide (j<k):=by
 unfold upto;simp [Array.getD,h]
theorem SeqF.der (hck:vDo md ops=true) (hj:j0<ops.size):∀(n k:Nat) (a:Act),k+n=ops.size→SeqF P ops Q S j0 k (ops.toList.drop k) a→DerF P md ops Q S j0 n (upto ops.size k) a:=by
 unfold vDo at hck;simp only [Bool.and_eq_true,List.all_eq_true,List.mem_range] at hck;intro n
 induction n with
 |zero=>
  intro k a hk h;rw [List.drop_eq_nil_of_le (by simp;omega)] at h;refine ⟨vHz k (by omega),?_⟩;rw [upto_getD _ _ _ hj];exact h
 |succ n ih=>
  intro k a hk h
  have hlt:k<ops.size:=by omega
  rw [List.drop_eq_getElem_cons (by simpa using hlt)] at h;obtain ⟨v,hs,h⟩:=h;obtain ⟨h1,h2⟩:=hck.2 k hlt;refine .inr ⟨k,ops[k],v,Array.getElem?_eq_getElem hlt,h1,by simpa using h2,by simpa using hs,?_⟩;rw [upto_set];exact ih (k+1) _ (by omega) (by simpa using h)
theorem wp_region_makes {l:List Oper} {id:Nat} {a:Act} {w:World} (S:Bool→World→Prop) (j0:Nat) (hm:P.follows .mixedOrders=true) (hck:vDo .any l.toArray=true) (hj:j0<l.length) (hS:S false w.drew) (h:SeqF P l.toArray Q S j0 0 l a):(Code.region id l.toArray true).wp P Q a w:=by
 have hsel:=Region.noSelect_spec (ops:=l.toArray) (by unfold vDo at hck;rw [Bool.and_eq_true] at hck;exact hck.1);have hd:=SeqF.der (md:=.any) hck (by simpa using hj) l.toArray.size 0 a (by omega) (by simpa using h)
 have h0:(upto l.toArray.size 0).getD j0 false=false:=by rw [upto_getD _ _ _ (by simpa using hj)];simp
 have hs0:S ((upto l.toArray.size 0).getD j0 false) w.drew:=by rw [h0];exact hS
 rw [upto_zero] at hd hs0;exact wp_region_any hm (DerF.any hsel _ _ _ (by simp) hd _ hs0)
end
end Go.Proofs.YtgnkpbgaoiaefaaGreat
