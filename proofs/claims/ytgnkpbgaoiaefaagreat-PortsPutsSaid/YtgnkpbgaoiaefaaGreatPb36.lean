import Derived.Test.YtgnkpbgaoiaefaaGreatPb35
import Derived.Test.YtgnkpbgaoiaefaaGreatPb30
import Derived.Test.YtgnkpbgaoiaefaaGreatPb05
import Derived.Test.YtgnkpbgaoiaefaaGreatPb01
import Derived.Test.YtgnkpbgaoiaefaaGreatPb07
import Derived.RegionTactic
import Derived.Deep.RegionHeldLaw
import Derived.Test.YtgnkpbgaoiaefaaGreatShelf
set_option maxRecDepth 100000
set_option maxHeartbeats 40000000
namespace Go.Proofs.YtgnkpbgaoiaefaaGreat
open Go.Lib (hid)
open Go.RowKit
theorem vAx (w:World) (m:Nat):Drew w (w.drewN m):=⟨m,rfl⟩
theorem rs_14 (f0 f1:Int) (f2 f3 f4 f5 f6:List UInt8) (f7 f8 f9 f10 f11 f12:Int) (f13 f14 g14:List Int) (s1 s2 s3 s4 t1 t2 t3 t4:SlV) (w:World) (h13:ISl w .i64 s1.A s1.n s1.c f13) (k13:ISl w .i64 t1.A t1.n t1.c f13) (h14:ISl w .i64 s2.A s2.n s2.c f14) (k14:ISl w .i64 t2.A t2.n t2.c g14) (e:f14≠g14):
 Calls Tryz.prog 82 #[lF f0 f1 f2 f3 f4 f5 f6 f7 f8 f9 f10 f11 f12 s1 s2 s3 s4,lF f0 f1 f2 f3 f4 f5 f6 f7 f8 f9 f10 f11 f12 t1 t2 t3 t4] w fun e w'=>e=.returned (.bool false)∧Below w.heap.size w w':=by
 have H13:=hid h13;have G13:=hid k13;have H14:=hid h14;have G14:=hid k14;clear h13 k13 h14 k14;have d2:(f2 == f2)=true:=beq_self_eq_true _;have d3:(f3 == f3)=true:=beq_self_eq_true _;have d4:(f4 == f4)=true:=beq_self_eq_true _;have d5:(f5 == f5)=true:=beq_self_eq_true _;have d6:(f6 == f6)=true:=beq_self_eq_true _;have D13:=hid (show (f13 == f13)=true from beq_self_eq_true _);have D14:=hid (show (f14 == g14)=false by rw [beq_eq_false_iff_ne];exact e)
 clear e;unfold lF
 go_enter Tryz.func82,Tryz.ntmps82
 go_wp2_with (first
  |(go_at_call 22;(with_reducible refine (vDq s1 t1 f13 f13 _ ((H13.out.alloc _).alloc _) ((G13.out.alloc _).alloc _)).mono ?_);rintro e w13 ⟨rfl,m13,rfl⟩;rw [D13.out])
  |(go_at_call 22;(with_reducible refine (vDq s2 t2 f14 g14 _ (((H14.out.alloc _).alloc _).drew (vAx _ _)) (((G14.out.alloc _).alloc _).drew (vAx _ _))).mono ?_);rintro e w14 ⟨rfl,m14,rfl⟩;rw [D14.out]))
 go_ret;exact ⟨rfl,vAd (vAi _ _ _) _⟩
theorem rs_15 (f0 f1:Int) (f2 f3 f4 f5 f6:List UInt8) (f7 f8 f9 f10 f11 f12:Int) (f13 f14 f15 g15:List Int) (s1 s2 s3 s4 t1 t2 t3 t4:SlV) (w:World) (h13:ISl w .i64 s1.A s1.n s1.c f13) (k13:ISl w .i64 t1.A t1.n t1.c f13) (h14:ISl w .i64 s2.A s2.n s2.c f14) (k14:ISl w .i64 t2.A t2.n t2.c f14) (h15:ISl w .i64 s3.A s3.n s3.c f15) (k15:ISl w .i64 t3.A t3.n t3.c g15) (e:f15≠g15):
 Calls Tryz.prog 82 #[lF f0 f1 f2 f3 f4 f5 f6 f7 f8 f9 f10 f11 f12 s1 s2 s3 s4,lF f0 f1 f2 f3 f4 f5 f6 f7 f8 f9 f10 f11 f12 t1 t2 t3 t4] w fun e w'=>e=.returned (.bool false)∧Below w.heap.size w w':=by
 have H13:=hid h13;have G13:=hid k13;have H14:=hid h14;have G14:=hid k14;have H15:=hid h15;have G15:=hid k15;clear h13 k13 h14 k14 h15 k15;have d2:(f2 == f2)=true:=beq_self_eq_true _;have d3:(f3 == f3)=true:=beq_self_eq_true _;have d4:(f4 == f4)=true:=beq_self_eq_true _;have d5:(f5 == f5)=true:=beq_self_eq_true _;have d6:(f6 == f6)=true:=beq_self_eq_true _;have D13:=hid (show (f13 == f13)=true from beq_self_eq_true _)
 have D14:=hid (show (f14 == f14)=true from beq_self_eq_true _);have D15:=hid (show (f15 == g15)=false by rw [beq_eq_false_iff_ne];exact e);clear e;unfold lF
 go_enter Tryz.func82,Tryz.ntmps82
 go_wp2_with (first
  |(go_at_call 22;(with_reducible refine (vDq s1 t1 f13 f13 _ ((H13.out.alloc _).alloc _) ((G13.out.alloc _).alloc _)).mono ?_);rintro e w13 ⟨rfl,m13,rfl⟩;rw [D13.out])
  |(go_at_call 22;(with_reducible refine (vDq s2 t2 f14 f14 _ (((H14.out.alloc _).alloc _).drew (vAx _ _)) (((G14.out.alloc _).alloc _).drew (vAx _ _))).mono ?_);rintro e w14 ⟨rfl,m14,rfl⟩;rw [D14.out])
  |(go_at_call 22;(with_reducible refine (vDq s3 t3 f15 g15 _ (((H15.out.alloc _).alloc _).drew (vAx _ _)) (((G15.out.alloc _).alloc _).drew (vAx _ _))).mono ?_);rintro e w15 ⟨rfl,m15,rfl⟩;rw [D15.out]))
 go_ret;exact ⟨rfl,vAd (vAi _ _ _) _⟩
theorem rs_16 (f0 f1:Int) (f2 f3 f4 f5 f6:List UInt8) (f7 f8 f9 f10 f11 f12:Int) (f13 f14 f15 f16 g16:List Int) (s1 s2 s3 s4 t1 t2 t3 t4:SlV) (w:World) (h13:ISl w .i64 s1.A s1.n s1.c f13) (k13:ISl w .i64 t1.A t1.n t1.c f13) (h14:ISl w .i64 s2.A s2.n s2.c f14) (k14:ISl w .i64 t2.A t2.n t2.c f14) (h15:ISl w .i64 s3.A s3.n s3.c f15) (k15:ISl w .i64 t3.A t3.n t3.c f15) (h16:ISl w .u32 s4.A s4.n s4.c f16) (k16:ISl w .u32 t4.A t4.n t4.c g16) (e:f16≠g16):
 Calls Tryz.prog 82 #[lF f0 f1 f2 f3 f4 f5 f6 f7 f8 f9 f10 f11 f12 s1 s2 s3 s4,lF f0 f1 f2 f3 f4 f5 f6 f7 f8 f9 f10 f11 f12 t1 t2 t3 t4] w fun e w'=>e=.returned (.bool false)∧Below w.heap.size w w':=by
 have H13:=hid h13;have G13:=hid k13;have H14:=hid h14;have G14:=hid k14;have H15:=hid h15;have G15:=hid k15;have H16:=hid h16;have G16:=hid k16;clear h13 k13 h14 k14 h15 k15 h16 k16;have d2:(f2 == f2)=true:=beq_self_eq_true _;have d3:(f3 == f3)=true:=beq_self_eq_true _;have d4:(f4 == f4)=true:=beq_self_eq_true _;have d5:(f5 == f5)=true:=beq_self_eq_true _;have d6:(f6 == f6)=true:=beq_self_eq_true _
 have D13:=hid (show (f13 == f13)=true from beq_self_eq_true _);have D14:=hid (show (f14 == f14)=true from beq_self_eq_true _);have D15:=hid (show (f15 == f15)=true from beq_self_eq_true _);have D16:=hid (show (f16 == g16)=false by rw [beq_eq_false_iff_ne];exact e);clear e;unfold lF
 go_enter Tryz.func82,Tryz.ntmps82
 go_wp2_with (first
  |(go_at_call 22;(with_reducible refine (vDq s1 t1 f13 f13 _ ((H13.out.alloc _).alloc _) ((G13.out.alloc _).alloc _)).mono ?_);rintro e w13 ⟨rfl,m13,rfl⟩;rw [D13.out])
  |(go_at_call 22;(with_reducible refine (vDq s2 t2 f14 f14 _ (((H14.out.alloc _).alloc _).drew (vAx _ _)) (((G14.out.alloc _).alloc _).drew (vAx _ _))).mono ?_);rintro e w14 ⟨rfl,m14,rfl⟩;rw [D14.out])
  |(go_at_call 22;(with_reducible refine (vDq s3 t3 f15 f15 _ (((H15.out.alloc _).alloc _).drew (vAx _ _)) (((G15.out.alloc _).alloc _).drew (vAx _ _))).mono ?_);rintro e w15 ⟨rfl,m15,rfl⟩;rw [D15.out])
  |(go_at_call 23;(with_reducible refine (req_uint32 s4 t4 f16 g16 _ (((H16.out.alloc _).alloc _).drew (vAx _ _)) (((G16.out.alloc _).alloc _).drew (vAx _ _))).mono ?_);rintro e w16 ⟨rfl,m16,rfl⟩;rw [D16.out]))
 go_ret;exact ⟨rfl,vAd (vAi _ _ _) _⟩
theorem rs_17 (f0 f1:Int) (f2 f3 f4 f5 f6:List UInt8) (f7 f8 f9 f10 f11 f12:Int) (f13 f14 f15 f16:List Int) (s1 s2 s3 s4 t1 t2 t3 t4:SlV) (w:World) (h13:ISl w .i64 s1.A s1.n s1.c f13) (k13:ISl w .i64 t1.A t1.n t1.c f13) (h14:ISl w .i64 s2.A s2.n s2.c f14) (k14:ISl w .i64 t2.A t2.n t2.c f14) (h15:ISl w .i64 s3.A s3.n s3.c f15) (k15:ISl w .i64 t3.A t3.n t3.c f15) (h16:ISl w .u32 s4.A s4.n s4.c f16) (k16:ISl w .u32 t4.A t4.n t4.c f16):
 Calls Tryz.prog 82 #[lF f0 f1 f2 f3 f4 f5 f6 f7 f8 f9 f10 f11 f12 s1 s2 s3 s4,lF f0 f1 f2 f3 f4 f5 f6 f7 f8 f9 f10 f11 f12 t1 t2 t3 t4] w fun e w'=>e=.returned (.bool true)∧Below w.heap.size w w':=by
 have H13:=hid h13;have G13:=hid k13;have H14:=hid h14;have G14:=hid k14;have H15:=hid h15;have G15:=hid k15;have H16:=hid h16;have G16:=hid k16;clear h13 k13 h14 k14 h15 k15 h16 k16;have d2:(f2 == f2)=true:=beq_self_eq_true _;have d3:(f3 == f3)=true:=beq_self_eq_true _;have d4:(f4 == f4)=true:=beq_self_eq_true _;have d5:(f5 == f5)=true:=beq_self_eq_true _;have d6:(f6 == f6)=true:=beq_self_eq_true _
 have D13:=hid (show (f13 == f13)=true from beq_self_eq_true _);have D14:=hid (show (f14 == f14)=true from beq_self_eq_true _);have D15:=hid (show (f15 == f15)=true from beq_self_eq_true _);have D16:=hid (show (f16 == f16)=true from beq_self_eq_true _);unfold lF
 go_enter Tryz.func82,Tryz.ntmps82
 go_wp2_with (first
  |(go_at_call 22;(with_reducible refine (vDq s1 t1 f13 f13 _ ((H13.out.alloc _).alloc _) ((G13.out.alloc _).alloc _)).mono ?_);rintro e w13 ⟨rfl,m13,rfl⟩;rw [D13.out])
  |(go_at_call 22;(with_reducible refine (vDq s2 t2 f14 f14 _ (((H14.out.alloc _).alloc _).drew (vAx _ _)) (((G14.out.alloc _).alloc _).drew (vAx _ _))).mono ?_);rintro e w14 ⟨rfl,m14,rfl⟩;rw [D14.out])
  |(go_at_call 22;(with_reducible refine (vDq s3 t3 f15 f15 _ (((H15.out.alloc _).alloc _).drew (vAx _ _)) (((G15.out.alloc _).alloc _).drew (vAx _ _))).mono ?_);rintro e w15 ⟨rfl,m15,rfl⟩;rw [D15.out])
  |(go_at_call 23;(with_reducible refine (req_uint32 s4 t4 f16 f16 _ (((H16.out.alloc _).alloc _).drew (vAx _ _)) (((G16.out.alloc _).alloc _).drew (vAx _ _))).mono ?_);rintro e w16 ⟨rfl,m16,rfl⟩;rw [D16.out]))
 go_ret;exact ⟨rfl,vAd (vAi _ _ _) _⟩
theorem vBj {L M:LV} (h:L≠M):vFm L M=false:=by
 cases e:vFm L M with
 |false=>rfl
 |true=>exact absurd ((vFv L M).1 e) h
theorem rsame_any (L M:LV) (s1 s2 s3 s4 t1 t2 t3 t4:SlV) (w:World) (h:LRead w L s1 s2 s3 s4) (g:LRead w M t1 t2 t3 t4):
 Calls Tryz.prog 82 #[vAw L s1 s2 s3 s4,vAw M t1 t2 t3 t4] w fun e w'=>e=.returned (.bool (vFm L M))∧Below w.heap.size w w':=by
 obtain ⟨f0,f1,f2,f3,f4,f5,f6,f7,f8,f9,f10,f11,f12,f13,f14,f15,f16⟩:=L;obtain ⟨g0,g1,g2,g3,g4,g5,g6,g7,g8,g9,g10,g11,g12,g13,g14,g15,g16⟩:=M;obtain ⟨h13,h14,h15,h16⟩:=h;obtain ⟨k13,k14,k15,k16⟩:=g;dsimp only at h13 h14 h15 h16 k13 k14 k15 k16
 by_cases e0:f0=g0
 rotate_left
 · rw [vBj (fun e=>e0 (congrArg LV.row e))]
   exact rs_0 f0 g0 f1 g1 f2 g2 f3 g3 f4 g4 f5 g5 f6 g6 f7 g7 f8 g8 f9 g9 f10 g10 f11 g11 f12 g12 s1 s2 s3 s4 t1 t2 t3 t4 w e0
 subst e0
 by_cases e1:f1=g1
 rotate_left
 · rw [vBj (fun e=>e1 (congrArg LV.kind e))]
   exact rs_1 f0 f1 g1 f2 g2 f3 g3 f4 g4 f5 g5 f6 g6 f7 g7 f8 g8 f9 g9 f10 g10 f11 g11 f12 g12 s1 s2 s3 s4 t1 t2 t3 t4 w e1
 subst e1
 by_cases e2:f2=g2
 rotate_left
 · rw [vBj (fun e=>e2 (congrArg LV.dev e))]
   exact rs_2 f0 f1 f2 g2 f3 g3 f4 g4 f5 g5 f6 g6 f7 g7 f8 g8 f9 g9 f10 g10 f11 g11 f12 g12 s1 s2 s3 s4 t1 t2 t3 t4 w e2
 subst e2
 by_cases e3:f3=g3
 rotate_left
 · rw [vBj (fun e=>e3 (congrArg LV.port e))]
   exact rs_3 f0 f1 f2 f3 g3 f4 g4 f5 g5 f6 g6 f7 g7 f8 g8 f9 g9 f10 g10 f11 g11 f12 g12 s1 s2 s3 s4 t1 t2 t3 t4 w e3
 subst e3
 by_cases e4:f4=g4
 rotate_left
 · rw [vBj (fun e=>e4 (congrArg LV.peer e))]
   exact rs_4 f0 f1 f2 f3 f4 g4 f5 g5 f6 g6 f7 g7 f8 g8 f9 g9 f10 g10 f11 g11 f12 g12 s1 s2 s3 s4 t1 t2 t3 t4 w e4
 subst e4
 by_cases e5:f5=g5
 rotate_left
 · rw [vBj (fun e=>e5 (congrArg LV.far e))]
   exact rs_5 f0 f1 f2 f3 f4 f5 g5 f6 g6 f7 g7 f8 g8 f9 g9 f10 g10 f11 g11 f12 g12 s1 s2 s3 s4 t1 t2 t3 t4 w e5
 subst e5
 by_cases e6:f6=g6
 rotate_left
 · rw [vBj (fun e=>e6 (congrArg LV.name e))]
   exact rs_6 f0 f1 f2 f3 f4 f5 f6 g6 f7 g7 f8 g8 f9 g9 f10 g10 f11 g11 f12 g12 s1 s2 s3 s4 t1 t2 t3 t4 w e6
 subst e6
 by_cases e7:f7=g7
 rotate_left
 · rw [vBj (fun e=>e7 (congrArg LV.mac e))]
   exact rs_7 f0 f1 f2 f3 f4 f5 f6 f7 g7 f8 g8 f9 g9 f10 g10 f11 g11 f12 g12 s1 s2 s3 s4 t1 t2 t3 t4 w e7
 subst e7
 by_cases e8:f8=g8
 rotate_left
 · rw [vBj (fun e=>e8 (congrArg LV.addr e))]
   exact rs_8 f0 f1 f2 f3 f4 f5 f6 f7 f8 g8 f9 g9 f10 g10 f11 g11 f12 g12 s1 s2 s3 s4 t1 t2 t3 t4 w e8
 subst e8
 by_cases e9:f9=g9
 rotate_left
 · rw [vBj (fun e=>e9 (congrArg LV.bits e))]
   exact rs_9 f0 f1 f2 f3 f4 f5 f6 f7 f8 f9 g9 f10 g10 f11 g11 f12 g12 s1 s2 s3 s4 t1 t2 t3 t4 w e9
 subst e9
 by_cases e10:f10=g10
 rotate_left
 · rw [vBj (fun e=>e10 (congrArg LV.vlan e))]
   exact rs_10 f0 f1 f2 f3 f4 f5 f6 f7 f8 f9 f10 g10 f11 g11 f12 g12 s1 s2 s3 s4 t1 t2 t3 t4 w e10
 subst e10
 by_cases e11:f11=g11
 rotate_left
 · rw [vBj (fun e=>e11 (congrArg LV.num e))]
   exact rs_11 f0 f1 f2 f3 f4 f5 f6 f7 f8 f9 f10 f11 g11 f12 g12 s1 s2 s3 s4 t1 t2 t3 t4 w e11
 subst e11
 by_cases e12:f12=g12
 rotate_left
 · rw [vBj (fun e=>e12 (congrArg LV.cost e))]
   exact rs_12 f0 f1 f2 f3 f4 f5 f6 f7 f8 f9 f10 f11 f12 g12 s1 s2 s3 s4 t1 t2 t3 t4 w e12
 subst e12
 by_cases e13:f13=g13
 rotate_left
 · rw [vBj (fun e=>e13 (congrArg LV.tagged e))]
   exact rs_13 f0 f1 f2 f3 f4 f5 f6 f7 f8 f9 f10 f11 f12 f13 g13 s1 s2 s3 s4 t1 t2 t3 t4 w h13 k13 e13
 subst e13
 by_cases e14:f14=g14
 rotate_left
 · rw [vBj (fun e=>e14 (congrArg LV.imports e))]
   exact rs_14 f0 f1 f2 f3 f4 f5 f6 f7 f8 f9 f10 f11 f12 f13 f14 g14 s1 s2 s3 s4 t1 t2 t3 t4 w h13 k13 h14 k14 e14
 subst e14
 by_cases e15:f15=g15
 rotate_left
 · rw [vBj (fun e=>e15 (congrArg LV.exports e))]
   exact rs_15 f0 f1 f2 f3 f4 f5 f6 f7 f8 f9 f10 f11 f12 f13 f14 f15 g15 s1 s2 s3 s4 t1 t2 t3 t4 w h13 k13 h14 k14 h15 k15 e15
 subst e15
 by_cases e16:f16=g16
 rotate_left
 · rw [vBj (fun e=>e16 (congrArg LV.addrs e))]
   exact rs_16 f0 f1 f2 f3 f4 f5 f6 f7 f8 f9 f10 f11 f12 f13 f14 f15 f16 g16 s1 s2 s3 s4 t1 t2 t3 t4 w h13 k13 h14 k14 h15 k15 h16 k16 e16
 subst e16;rw [vGe];exact rs_17 f0 f1 f2 f3 f4 f5 f6 f7 f8 f9 f10 f11 f12 f13 f14 f15 f16 s1 s2 s3 s4 t1 t2 t3 t4 w h13 k13 h14 k14 h15 k15 h16 k16
open Go.Lib (decDigits byteCells)
theorem vEj (x:Int) (n:Nat) (h:x=(n:Int)) (hn:n<1000000000000000000) (w:World):
 Calls Tryz.prog 178 #[.int .i64 x] w fun e w'=>e=.returned (.string (str (decDigits n)))∧Below w.heap.size w w':=by
 subst h;exact vFe n hn w
theorem txt_parts (a:Nat):txt a=decDigits (a / 16777216)++[46]++decDigits (a / 65536 % 256)++[46]++decDigits (a / 256 % 256)++[46]++decDigits (a % 256):=by
 unfold txt;simp
theorem dec3 (n:Nat) (h:n<1000):(decDigits n).length≤3:=vGo 3 (by omega) h
theorem refText_any (a:Nat) (ha:a<4294967296) (w:World):
 Calls Tryz.prog 144 #[.int .u32 (a:Int)] w fun e w'=>e=.returned (.string (str (txt a)))∧Below w.heap.size w w':=by
 have T:=hid (txt_parts a);have l1:=dec3 (a / 16777216) (by omega);have l2:=dec3 (a / 65536 % 256) (by omega);have l3:=dec3 (a / 256 % 256) (by omega);have l4:=dec3 (a % 256) (by omega)
 go_enter Tryz.func144,Tryz.ntmps144
 go_wp2_with (first
  |(go_at_call 178;(with_reducible refine (vEj ((a:Int) / 16777216) (a / 16777216) (by omega) (by omega) _).mono ?_);rintro e w1 ⟨rfl,hb1⟩)
  |(go_at_call 178;(with_reducible refine (vEj ((a:Int) / 65536 % 256) (a / 65536 % 256) (by omega) (by omega) _).mono ?_);rintro e w2 ⟨rfl,hb2⟩)
  |(go_at_call 178;(with_reducible refine (vEj ((a:Int) / 256 % 256) (a / 256 % 256) (by omega) (by omega) _).mono ?_);rintro e w3 ⟨rfl,hb3⟩)
  |(go_at_call 178;(with_reducible refine (vEj ((a:Int) % 256) (a % 256) (by omega) (by omega) _).mono ?_);rintro e w4 ⟨rfl,hb4⟩))
 go_ret;exact ⟨by rw [T.out];simp [vCb],vAa (vAa (vAa hb1 hb2) hb3) hb4⟩
open Go.Lib (decDigits itoa byteCells)
def txI (x:Int):List UInt8:=itoa x
def In64 (xs:List Int):Prop:=∀x∈xs,-9223372036854775808≤x∧x≤9223372036854775807
theorem txI_len {x:Int} (h: -9223372036854775808≤x∧x≤9223372036854775807):(txI x).length≤20:=itoa_len x h.1 h.2
theorem jnK_len2 {f:Int→List UInt8} {xs:List Int} (h:∀x∈xs,(f x).length≤20) (k:Nat) (hk:k≤xs.length):(jnK f xs k).length≤k * 21:=by
 induction k with
 |zero=>simp [jnK]
 |succ k ih=>
  have h1:=h _ (vGz (xs:=xs) (i:=k) (by omega));have h2:=ih (by omega);rw [jnK,List.length_append,List.length_append]
  split
  · rw [List.length_singleton];omega
  · rw [List.length_nil];omega
theorem jnK_next0 (f:Int→List UInt8) (xs:List Int) (k:Nat) (h:¬0<k):jnK f xs (k+1)=jnK f xs k++f (xs.getD k 0):=by
 conv=>lhs;unfold jnK
 rw [if_neg h,List.append_nil]
theorem jnK_next (f:Int→List UInt8) (xs:List Int) (k:Nat) (h:0<k):jnK f xs (k+1)=jnK f xs k++[44]++f (xs.getD k 0):=by
 conv=>lhs;unfold jnK
 rw [if_pos h]
theorem refTxtI_any (x:Int) (h: -9223372036854775808≤x∧x≤9223372036854775807) (w:World):
 Calls Tryz.prog 141 #[.int .i64 x] w fun e w'=>e=.returned (.string (str (txI x)))∧Below w.heap.size w w':=vAl x h.1 h.2 w
theorem refListI_any (A:Option Addr) (n c:Nat) (xs:List Int) (w:World) (h:ISl w .i64 A n c xs) (hn:n≤1000) (hr:In64 xs):
 Calls Tryz.prog 177 #[.slice A n c] w fun e w'=>e=.returned (.string (str (jn txI xs)))∧Below w.heap.size w w':=by
 have hle:=h.le;have hcap:=h.cap;have hlen:=h.len;have H:=hid h;have HR:=hid hr;have JL:=hid (fun k (hk:k≤xs.length)=>jnK_len2 (f:=txI) (fun x hx=>txI_len (hr x hx)) k hk);have HLEN:=hid hlen;clear h hr hlen
 go_enter Tryz.func177,Tryz.ntmps177
 go_wp2
 go_loopw [3,4] (fun s i wr=>∃k:Nat,k≤n∧i=.int .i64 (k:Int)∧s=.string (str (jnK txI xs k))∧Below w.heap.size w wr) (fun _ i _=>n - (intOf i).toNat)
 case atStart=>exact ⟨0,by omega,rfl,rfl,Below.refl _ _⟩
 case round=>
  obtain ⟨k,hk,rfl,rfl,hb⟩:=hrel;have hjl:=JL.out k (by rw [HLEN.out];exact hk)
  by_cases hlt:k<n
  · obtain ⟨b,off,rfl,hB,hc⟩:=H.out.2.2.2 (by omega)
    have c0:wr.cell? ⟨b,off+k,none⟩=some (.int .i64 (xs.getD k 0)):=(hb.cell (p:=⟨b,off+k,none⟩) hB).trans (hc k hlt);have hx:=HR.out _ (vGz (xs:=xs) (i:=k) (by rw [HLEN.out];exact hlt));have hxl:=txI_len hx;clear hc
    by_cases k0:0<k
    · have N:=hid (jnK_next txI xs k k0)
      generalize jnK txI xs k=j at hjl N;generalize xs.getD k 0=x at c0 hx hxl N;have HX:=hid hx;clear hx;go_wp2_with (go_at_call 141;(with_reducible refine (refTxtI_any x HX.out _).mono ?_);rintro e w2 ⟨rfl,hb2⟩;have hbb2:=hb.trans (hb2.mono hb.size));clear hb hb2
      go_roundw
      case rel=>exact ⟨k+1,by omega,by go_num,by rw [N.out];simp [vCb],hbb2⟩
      case measure=>simp [intOf];omega
    · have N:=hid (jnK_next0 txI xs k k0)
      generalize jnK txI xs k=j at hjl N;generalize xs.getD k 0=x at c0 hx hxl N;have HX:=hid hx;clear hx;go_wp2_with (go_at_call 141;(with_reducible refine (refTxtI_any x HX.out _).mono ?_);rintro e w2 ⟨rfl,hb2⟩;have hbb2:=hb.trans (hb2.mono hb.size));clear hb hb2
      go_roundw
      case rel=>exact ⟨k+1,by omega,by go_num,by rw [N.out];simp [vCb],hbb2⟩
      case measure=>simp [intOf];omega
  · obtain rfl:k=n:=by omega
    have E:=hid (show jn txI xs=jnK txI xs k by unfold jn;rw [HLEN.out]);go_wp2;go_ret;exact ⟨by rw [E.out];rfl,hb⟩
open Go.Lib (decDigits byteCells)
end Go.Proofs.YtgnkpbgaoiaefaaGreat
