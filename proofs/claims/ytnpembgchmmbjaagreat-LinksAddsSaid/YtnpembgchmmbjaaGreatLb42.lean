import Derived.Test.YtnpembgchmmbjaaGreatLb41
import Derived.Test.YtnpembgchmmbjaaGreatLb30
import Derived.Test.YtnpembgchmmbjaaGreatLb05
import Derived.Test.YtnpembgchmmbjaaGreatLb01
import Derived.Test.YtnpembgchmmbjaaGreatLb07
import Derived.Test.YtnpembgchmmbjaaGreatLb34
import Derived.Test.YtnpembgchmmbjaaGreatLb04
import Derived.Test.YtnpembgchmmbjaaGreatLb26
import Derived.Test.YtnpembgchmmbjaaGreatLb13
import Derived.Test.YtnpembgchmmbjaaGreatLb22
import Derived.Test.YtnpembgchmmbjaaGreatLb24
import Derived.Test.YtnpembgchmmbjaaGreatLb28
import Derived.RegionTactic
import Derived.Deep.RegionHeldLaw
import Derived.Test.YtnpembgchmmbjaaGreatShelf
import Derived.Deep.CutBlock
import Derived.Deep.DeepCutAuto
import Derived.StillTail
set_option maxRecDepth 100000
set_option maxHeartbeats 40000000
namespace Go.Proofs.YtnpembgchmmbjaaGreat
open Go.RowKit
theorem vAs (w:World) (m:Nat):Drew w (w.drewN m):=⟨m,rfl⟩
theorem rs_14 (f0:Int) (f1:Int) (f2:List UInt8) (f3:List UInt8) (f4:List UInt8) (f5:List UInt8) (f6:List UInt8) (f7:Int) (f8:Int) (f9:Int) (f10:Int) (f11:Int) (f12:Int) (f13:List Int) (f14:List Int) (g14:List Int) (s1 s2 s3 s4 t1 t2 t3 t4:SlV) (w:World) (h13:ISl w .i64 s1.A s1.n s1.c f13) (k13:ISl w .i64 t1.A t1.n t1.c f13) (h14:ISl w .i64 s2.A s2.n s2.c f14) (k14:ISl w .i64 t2.A t2.n t2.c g14) (e:f14≠g14):
 Calls Tryz.prog 141 #[.agg #[.int .i64 f0,.int .i64 f1,.string (str f2),.string (str f3),.string (str f4),.string (str f5),.string (str f6),.int .u64 f7,.int .u32 f8,.int .i64 f9,.int .i64 f10,.int .i64 f11,.int .i64 f12,.slice s1.A s1.n s1.c,.slice s2.A s2.n s2.c,.slice s3.A s3.n s3.c,.slice s4.A s4.n s4.c],.agg #[.int .i64 f0,.int .i64 f1,.string (str f2),.string (str f3),.string (str f4),.string (str f5),.string (str f6),.int .u64 f7,.int .u32 f8,.int .i64 f9,.int .i64 f10,.int .i64 f11,.int .i64 f12,.slice t1.A t1.n t1.c,.slice t2.A t2.n t2.c,.slice t3.A t3.n t3.c,.slice t4.A t4.n t4.c]] w fun e w'=>e=.returned (.bool false)∧Below w.heap.size w w':=by
 have H13:=Lib.hid h13;have G13:=Lib.hid k13;have H14:=Lib.hid h14;have G14:=Lib.hid k14;clear h13 k13 h14 k14;have d2:(f2 == f2)=true:=beq_self_eq_true _;have d3:(f3 == f3)=true:=beq_self_eq_true _;have d4:(f4 == f4)=true:=beq_self_eq_true _;have d5:(f5 == f5)=true:=beq_self_eq_true _;have d6:(f6 == f6)=true:=beq_self_eq_true _;have D13:=Lib.hid (show (f13 == f13)=true from beq_self_eq_true _);have D14:=Lib.hid (show (f14 == g14)=false by rw [beq_eq_false_iff_ne];exact e)
 clear e
 go_enter Tryz.func141,Tryz.ntmps141
 go_wp2_with (first
  |(go_at_call 27;(with_reducible refine (vDp s1 t1 f13 f13 _ ((H13.out.alloc _).alloc _) ((G13.out.alloc _).alloc _)).mono ?_);rintro e w13 ⟨rfl,m13,rfl⟩;rw [D13.out])
  |(go_at_call 27;(with_reducible refine (vDp s2 t2 f14 g14 _ (((H14.out.alloc _).alloc _).drew (vAs _ _)) (((G14.out.alloc _).alloc _).drew (vAs _ _))).mono ?_);rintro e w14 ⟨rfl,m14,rfl⟩;rw [D14.out]))
 go_ret;exact ⟨rfl,vAd (vAi _ _ _) _⟩
theorem rs_15 (f0:Int) (f1:Int) (f2:List UInt8) (f3:List UInt8) (f4:List UInt8) (f5:List UInt8) (f6:List UInt8) (f7:Int) (f8:Int) (f9:Int) (f10:Int) (f11:Int) (f12:Int) (f13:List Int) (f14:List Int) (f15:List Int) (g15:List Int) (s1 s2 s3 s4 t1 t2 t3 t4:SlV) (w:World) (h13:ISl w .i64 s1.A s1.n s1.c f13) (k13:ISl w .i64 t1.A t1.n t1.c f13) (h14:ISl w .i64 s2.A s2.n s2.c f14) (k14:ISl w .i64 t2.A t2.n t2.c f14) (h15:ISl w .i64 s3.A s3.n s3.c f15) (k15:ISl w .i64 t3.A t3.n t3.c g15) (e:f15≠g15):
 Calls Tryz.prog 141 #[.agg #[.int .i64 f0,.int .i64 f1,.string (str f2),.string (str f3),.string (str f4),.string (str f5),.string (str f6),.int .u64 f7,.int .u32 f8,.int .i64 f9,.int .i64 f10,.int .i64 f11,.int .i64 f12,.slice s1.A s1.n s1.c,.slice s2.A s2.n s2.c,.slice s3.A s3.n s3.c,.slice s4.A s4.n s4.c],.agg #[.int .i64 f0,.int .i64 f1,.string (str f2),.string (str f3),.string (str f4),.string (str f5),.string (str f6),.int .u64 f7,.int .u32 f8,.int .i64 f9,.int .i64 f10,.int .i64 f11,.int .i64 f12,.slice t1.A t1.n t1.c,.slice t2.A t2.n t2.c,.slice t3.A t3.n t3.c,.slice t4.A t4.n t4.c]] w fun e w'=>e=.returned (.bool false)∧Below w.heap.size w w':=by
 have H13:=Lib.hid h13;have G13:=Lib.hid k13;have H14:=Lib.hid h14;have G14:=Lib.hid k14;have H15:=Lib.hid h15;have G15:=Lib.hid k15;clear h13 k13 h14 k14 h15 k15;have d2:(f2 == f2)=true:=beq_self_eq_true _;have d3:(f3 == f3)=true:=beq_self_eq_true _;have d4:(f4 == f4)=true:=beq_self_eq_true _;have d5:(f5 == f5)=true:=beq_self_eq_true _;have d6:(f6 == f6)=true:=beq_self_eq_true _;have D13:=Lib.hid (show (f13 == f13)=true from beq_self_eq_true _)
 have D14:=Lib.hid (show (f14 == f14)=true from beq_self_eq_true _);have D15:=Lib.hid (show (f15 == g15)=false by rw [beq_eq_false_iff_ne];exact e);clear e
 go_enter Tryz.func141,Tryz.ntmps141
 go_wp2_with (first
  |(go_at_call 27;(with_reducible refine (vDp s1 t1 f13 f13 _ ((H13.out.alloc _).alloc _) ((G13.out.alloc _).alloc _)).mono ?_);rintro e w13 ⟨rfl,m13,rfl⟩;rw [D13.out])
  |(go_at_call 27;(with_reducible refine (vDp s2 t2 f14 f14 _ (((H14.out.alloc _).alloc _).drew (vAs _ _)) (((G14.out.alloc _).alloc _).drew (vAs _ _))).mono ?_);rintro e w14 ⟨rfl,m14,rfl⟩;rw [D14.out])
  |(go_at_call 27;(with_reducible refine (vDp s3 t3 f15 g15 _ (((H15.out.alloc _).alloc _).drew (vAs _ _)) (((G15.out.alloc _).alloc _).drew (vAs _ _))).mono ?_);rintro e w15 ⟨rfl,m15,rfl⟩;rw [D15.out]))
 go_ret;exact ⟨rfl,vAd (vAi _ _ _) _⟩
theorem rs_16 (f0:Int) (f1:Int) (f2:List UInt8) (f3:List UInt8) (f4:List UInt8) (f5:List UInt8) (f6:List UInt8) (f7:Int) (f8:Int) (f9:Int) (f10:Int) (f11:Int) (f12:Int) (f13:List Int) (f14:List Int) (f15:List Int) (f16:List Int) (g16:List Int) (s1 s2 s3 s4 t1 t2 t3 t4:SlV) (w:World) (h13:ISl w .i64 s1.A s1.n s1.c f13) (k13:ISl w .i64 t1.A t1.n t1.c f13) (h14:ISl w .i64 s2.A s2.n s2.c f14) (k14:ISl w .i64 t2.A t2.n t2.c f14) (h15:ISl w .i64 s3.A s3.n s3.c f15) (k15:ISl w .i64 t3.A t3.n t3.c f15) (h16:ISl w .u32 s4.A s4.n s4.c f16) (k16:ISl w .u32 t4.A t4.n t4.c g16) (e:f16≠g16):
 Calls Tryz.prog 141 #[.agg #[.int .i64 f0,.int .i64 f1,.string (str f2),.string (str f3),.string (str f4),.string (str f5),.string (str f6),.int .u64 f7,.int .u32 f8,.int .i64 f9,.int .i64 f10,.int .i64 f11,.int .i64 f12,.slice s1.A s1.n s1.c,.slice s2.A s2.n s2.c,.slice s3.A s3.n s3.c,.slice s4.A s4.n s4.c],.agg #[.int .i64 f0,.int .i64 f1,.string (str f2),.string (str f3),.string (str f4),.string (str f5),.string (str f6),.int .u64 f7,.int .u32 f8,.int .i64 f9,.int .i64 f10,.int .i64 f11,.int .i64 f12,.slice t1.A t1.n t1.c,.slice t2.A t2.n t2.c,.slice t3.A t3.n t3.c,.slice t4.A t4.n t4.c]] w fun e w'=>e=.returned (.bool false)∧Below w.heap.size w w':=by
 have H13:=Lib.hid h13;have G13:=Lib.hid k13;have H14:=Lib.hid h14;have G14:=Lib.hid k14;have H15:=Lib.hid h15;have G15:=Lib.hid k15;have H16:=Lib.hid h16;have G16:=Lib.hid k16;clear h13 k13 h14 k14 h15 k15 h16 k16;have d2:(f2 == f2)=true:=beq_self_eq_true _;have d3:(f3 == f3)=true:=beq_self_eq_true _;have d4:(f4 == f4)=true:=beq_self_eq_true _;have d5:(f5 == f5)=true:=beq_self_eq_true _;have d6:(f6 == f6)=true:=beq_self_eq_true _
 have D13:=Lib.hid (show (f13 == f13)=true from beq_self_eq_true _);have D14:=Lib.hid (show (f14 == f14)=true from beq_self_eq_true _);have D15:=Lib.hid (show (f15 == f15)=true from beq_self_eq_true _);have D16:=Lib.hid (show (f16 == g16)=false by rw [beq_eq_false_iff_ne];exact e);clear e
 go_enter Tryz.func141,Tryz.ntmps141
 go_wp2_with (first
  |(go_at_call 27;(with_reducible refine (vDp s1 t1 f13 f13 _ ((H13.out.alloc _).alloc _) ((G13.out.alloc _).alloc _)).mono ?_);rintro e w13 ⟨rfl,m13,rfl⟩;rw [D13.out])
  |(go_at_call 27;(with_reducible refine (vDp s2 t2 f14 f14 _ (((H14.out.alloc _).alloc _).drew (vAs _ _)) (((G14.out.alloc _).alloc _).drew (vAs _ _))).mono ?_);rintro e w14 ⟨rfl,m14,rfl⟩;rw [D14.out])
  |(go_at_call 27;(with_reducible refine (vDp s3 t3 f15 f15 _ (((H15.out.alloc _).alloc _).drew (vAs _ _)) (((G15.out.alloc _).alloc _).drew (vAs _ _))).mono ?_);rintro e w15 ⟨rfl,m15,rfl⟩;rw [D15.out])
  |(go_at_call 28;(with_reducible refine (req_uint32 s4 t4 f16 g16 _ (((H16.out.alloc _).alloc _).drew (vAs _ _)) (((G16.out.alloc _).alloc _).drew (vAs _ _))).mono ?_);rintro e w16 ⟨rfl,m16,rfl⟩;rw [D16.out]))
 go_ret;exact ⟨rfl,vAd (vAi _ _ _) _⟩
theorem rs_17 (f0:Int) (f1:Int) (f2:List UInt8) (f3:List UInt8) (f4:List UInt8) (f5:List UInt8) (f6:List UInt8) (f7:Int) (f8:Int) (f9:Int) (f10:Int) (f11:Int) (f12:Int) (f13:List Int) (f14:List Int) (f15:List Int) (f16:List Int) (s1 s2 s3 s4 t1 t2 t3 t4:SlV) (w:World) (h13:ISl w .i64 s1.A s1.n s1.c f13) (k13:ISl w .i64 t1.A t1.n t1.c f13) (h14:ISl w .i64 s2.A s2.n s2.c f14) (k14:ISl w .i64 t2.A t2.n t2.c f14) (h15:ISl w .i64 s3.A s3.n s3.c f15) (k15:ISl w .i64 t3.A t3.n t3.c f15) (h16:ISl w .u32 s4.A s4.n s4.c f16) (k16:ISl w .u32 t4.A t4.n t4.c f16):
 Calls Tryz.prog 141 #[.agg #[.int .i64 f0,.int .i64 f1,.string (str f2),.string (str f3),.string (str f4),.string (str f5),.string (str f6),.int .u64 f7,.int .u32 f8,.int .i64 f9,.int .i64 f10,.int .i64 f11,.int .i64 f12,.slice s1.A s1.n s1.c,.slice s2.A s2.n s2.c,.slice s3.A s3.n s3.c,.slice s4.A s4.n s4.c],.agg #[.int .i64 f0,.int .i64 f1,.string (str f2),.string (str f3),.string (str f4),.string (str f5),.string (str f6),.int .u64 f7,.int .u32 f8,.int .i64 f9,.int .i64 f10,.int .i64 f11,.int .i64 f12,.slice t1.A t1.n t1.c,.slice t2.A t2.n t2.c,.slice t3.A t3.n t3.c,.slice t4.A t4.n t4.c]] w fun e w'=>e=.returned (.bool true)∧Below w.heap.size w w':=by
 have H13:=Lib.hid h13;have G13:=Lib.hid k13;have H14:=Lib.hid h14;have G14:=Lib.hid k14;have H15:=Lib.hid h15;have G15:=Lib.hid k15;have H16:=Lib.hid h16;have G16:=Lib.hid k16;clear h13 k13 h14 k14 h15 k15 h16 k16;have d2:(f2 == f2)=true:=beq_self_eq_true _;have d3:(f3 == f3)=true:=beq_self_eq_true _;have d4:(f4 == f4)=true:=beq_self_eq_true _;have d5:(f5 == f5)=true:=beq_self_eq_true _;have d6:(f6 == f6)=true:=beq_self_eq_true _
 have D13:=Lib.hid (show (f13 == f13)=true from beq_self_eq_true _);have D14:=Lib.hid (show (f14 == f14)=true from beq_self_eq_true _);have D15:=Lib.hid (show (f15 == f15)=true from beq_self_eq_true _);have D16:=Lib.hid (show (f16 == f16)=true from beq_self_eq_true _)
 go_enter Tryz.func141,Tryz.ntmps141
 go_wp2_with (first
  |(go_at_call 27;(with_reducible refine (vDp s1 t1 f13 f13 _ ((H13.out.alloc _).alloc _) ((G13.out.alloc _).alloc _)).mono ?_);rintro e w13 ⟨rfl,m13,rfl⟩;rw [D13.out])
  |(go_at_call 27;(with_reducible refine (vDp s2 t2 f14 f14 _ (((H14.out.alloc _).alloc _).drew (vAs _ _)) (((G14.out.alloc _).alloc _).drew (vAs _ _))).mono ?_);rintro e w14 ⟨rfl,m14,rfl⟩;rw [D14.out])
  |(go_at_call 27;(with_reducible refine (vDp s3 t3 f15 f15 _ (((H15.out.alloc _).alloc _).drew (vAs _ _)) (((G15.out.alloc _).alloc _).drew (vAs _ _))).mono ?_);rintro e w15 ⟨rfl,m15,rfl⟩;rw [D15.out])
  |(go_at_call 28;(with_reducible refine (req_uint32 s4 t4 f16 f16 _ (((H16.out.alloc _).alloc _).drew (vAs _ _)) (((G16.out.alloc _).alloc _).drew (vAs _ _))).mono ?_);rintro e w16 ⟨rfl,m16,rfl⟩;rw [D16.out]))
 go_ret;exact ⟨rfl,vAd (vAi _ _ _) _⟩
theorem vBe {L M:LV} (h:L≠M):vFc L M=false:=by
 cases e:vFc L M with
 |false=>rfl
 |true=>exact absurd ((vFo L M).1 e) h
theorem rsame_any (L M:LV) (s1 s2 s3 s4 t1 t2 t3 t4:SlV) (w:World) (h:LRead w L s1 s2 s3 s4) (g:LRead w M t1 t2 t3 t4):
 Calls Tryz.prog 141 #[vBl L s1 s2 s3 s4,vBl M t1 t2 t3 t4] w fun e w'=>e=.returned (.bool (vFc L M))∧Below w.heap.size w w':=by
 obtain ⟨f0,f1,f2,f3,f4,f5,f6,f7,f8,f9,f10,f11,f12,f13,f14,f15,f16⟩:=L;obtain ⟨g0,g1,g2,g3,g4,g5,g6,g7,g8,g9,g10,g11,g12,g13,g14,g15,g16⟩:=M;obtain ⟨h13,h14,h15,h16⟩:=h;obtain ⟨k13,k14,k15,k16⟩:=g;dsimp only at h13 h14 h15 h16 k13 k14 k15 k16
 by_cases e0:f0=g0
 rotate_left
 · rw [vBe (fun e=>e0 (congrArg LV.row e))]
   exact rs_0 f0 g0 f1 g1 f2 g2 f3 g3 f4 g4 f5 g5 f6 g6 f7 g7 f8 g8 f9 g9 f10 g10 f11 g11 f12 g12 s1 s2 s3 s4 t1 t2 t3 t4 w e0
 subst e0
 by_cases e1:f1=g1
 rotate_left
 · rw [vBe (fun e=>e1 (congrArg LV.kind e))]
   exact rs_1 f0 f1 g1 f2 g2 f3 g3 f4 g4 f5 g5 f6 g6 f7 g7 f8 g8 f9 g9 f10 g10 f11 g11 f12 g12 s1 s2 s3 s4 t1 t2 t3 t4 w e1
 subst e1
 by_cases e2:f2=g2
 rotate_left
 · rw [vBe (fun e=>e2 (congrArg LV.dev e))]
   exact rs_2 f0 f1 f2 g2 f3 g3 f4 g4 f5 g5 f6 g6 f7 g7 f8 g8 f9 g9 f10 g10 f11 g11 f12 g12 s1 s2 s3 s4 t1 t2 t3 t4 w e2
 subst e2
 by_cases e3:f3=g3
 rotate_left
 · rw [vBe (fun e=>e3 (congrArg LV.port e))]
   exact rs_3 f0 f1 f2 f3 g3 f4 g4 f5 g5 f6 g6 f7 g7 f8 g8 f9 g9 f10 g10 f11 g11 f12 g12 s1 s2 s3 s4 t1 t2 t3 t4 w e3
 subst e3
 by_cases e4:f4=g4
 rotate_left
 · rw [vBe (fun e=>e4 (congrArg LV.peer e))]
   exact rs_4 f0 f1 f2 f3 f4 g4 f5 g5 f6 g6 f7 g7 f8 g8 f9 g9 f10 g10 f11 g11 f12 g12 s1 s2 s3 s4 t1 t2 t3 t4 w e4
 subst e4
 by_cases e5:f5=g5
 rotate_left
 · rw [vBe (fun e=>e5 (congrArg LV.far e))]
   exact rs_5 f0 f1 f2 f3 f4 f5 g5 f6 g6 f7 g7 f8 g8 f9 g9 f10 g10 f11 g11 f12 g12 s1 s2 s3 s4 t1 t2 t3 t4 w e5
 subst e5
 by_cases e6:f6=g6
 rotate_left
 · rw [vBe (fun e=>e6 (congrArg LV.name e))]
   exact rs_6 f0 f1 f2 f3 f4 f5 f6 g6 f7 g7 f8 g8 f9 g9 f10 g10 f11 g11 f12 g12 s1 s2 s3 s4 t1 t2 t3 t4 w e6
 subst e6
 by_cases e7:f7=g7
 rotate_left
 · rw [vBe (fun e=>e7 (congrArg LV.mac e))]
   exact rs_7 f0 f1 f2 f3 f4 f5 f6 f7 g7 f8 g8 f9 g9 f10 g10 f11 g11 f12 g12 s1 s2 s3 s4 t1 t2 t3 t4 w e7
 subst e7
 by_cases e8:f8=g8
 rotate_left
 · rw [vBe (fun e=>e8 (congrArg LV.addr e))]
   exact rs_8 f0 f1 f2 f3 f4 f5 f6 f7 f8 g8 f9 g9 f10 g10 f11 g11 f12 g12 s1 s2 s3 s4 t1 t2 t3 t4 w e8
 subst e8
 by_cases e9:f9=g9
 rotate_left
 · rw [vBe (fun e=>e9 (congrArg LV.bits e))]
   exact rs_9 f0 f1 f2 f3 f4 f5 f6 f7 f8 f9 g9 f10 g10 f11 g11 f12 g12 s1 s2 s3 s4 t1 t2 t3 t4 w e9
 subst e9
 by_cases e10:f10=g10
 rotate_left
 · rw [vBe (fun e=>e10 (congrArg LV.vlan e))]
   exact rs_10 f0 f1 f2 f3 f4 f5 f6 f7 f8 f9 f10 g10 f11 g11 f12 g12 s1 s2 s3 s4 t1 t2 t3 t4 w e10
 subst e10
 by_cases e11:f11=g11
 rotate_left
 · rw [vBe (fun e=>e11 (congrArg LV.num e))]
   exact rs_11 f0 f1 f2 f3 f4 f5 f6 f7 f8 f9 f10 f11 g11 f12 g12 s1 s2 s3 s4 t1 t2 t3 t4 w e11
 subst e11
 by_cases e12:f12=g12
 rotate_left
 · rw [vBe (fun e=>e12 (congrArg LV.cost e))]
   exact rs_12 f0 f1 f2 f3 f4 f5 f6 f7 f8 f9 f10 f11 f12 g12 s1 s2 s3 s4 t1 t2 t3 t4 w e12
 subst e12
 by_cases e13:f13=g13
 rotate_left
 · rw [vBe (fun e=>e13 (congrArg LV.tagged e))]
   exact rs_13 f0 f1 f2 f3 f4 f5 f6 f7 f8 f9 f10 f11 f12 f13 g13 s1 s2 s3 s4 t1 t2 t3 t4 w h13 k13 e13
 subst e13
 by_cases e14:f14=g14
 rotate_left
 · rw [vBe (fun e=>e14 (congrArg LV.imports e))]
   exact rs_14 f0 f1 f2 f3 f4 f5 f6 f7 f8 f9 f10 f11 f12 f13 f14 g14 s1 s2 s3 s4 t1 t2 t3 t4 w h13 k13 h14 k14 e14
 subst e14
 by_cases e15:f15=g15
 rotate_left
 · rw [vBe (fun e=>e15 (congrArg LV.exports e))]
   exact rs_15 f0 f1 f2 f3 f4 f5 f6 f7 f8 f9 f10 f11 f12 f13 f14 f15 g15 s1 s2 s3 s4 t1 t2 t3 t4 w h13 k13 h14 k14 h15 k15 e15
 subst e15
 by_cases e16:f16=g16
 rotate_left
 · rw [vBe (fun e=>e16 (congrArg LV.addrs e))]
   exact rs_16 f0 f1 f2 f3 f4 f5 f6 f7 f8 f9 f10 f11 f12 f13 f14 f15 f16 g16 s1 s2 s3 s4 t1 t2 t3 t4 w h13 k13 h14 k14 h15 k15 h16 k16 e16
 subst e16;rw [vFx];exact rs_17 f0 f1 f2 f3 f4 f5 f6 f7 f8 f9 f10 f11 f12 f13 f14 f15 f16 s1 s2 s3 s4 t1 t2 t3 t4 w h13 k13 h14 k14 h15 k15 h16 k16
open Go.Lib (decDigits byteCells)
theorem vEd (x:Int) (n:Nat) (h:x=(n:Int)) (hn:n<1000000000000000000) (w:World):
 Calls Tryz.prog 189 #[.int .i64 x] w fun e w'=>e=.returned (.string (str (decDigits n)))∧Below w.heap.size w w':=by
 subst h;exact vEt n hn w
theorem txt_parts (a:Nat):txt a=decDigits (a / 16777216)++[46]++decDigits (a / 65536 % 256)++[46]++decDigits (a / 256 % 256)++[46]++decDigits (a % 256):=by
 unfold txt;simp
theorem dec3 (n:Nat) (h:n<1000):(decDigits n).length≤3:=vHz 3 (by omega) h
theorem refText_any (a:Nat) (ha:a<4294967296) (w:World):
 Calls Tryz.prog 164 #[.int .u32 (a:Int)] w fun e w'=>e=.returned (.string (str (txt a)))∧Below w.heap.size w w':=by
 have T:=Lib.hid (txt_parts a);have l1:=dec3 (a / 16777216) (by omega);have l2:=dec3 (a / 65536 % 256) (by omega);have l3:=dec3 (a / 256 % 256) (by omega);have l4:=dec3 (a % 256) (by omega)
 go_enter Tryz.func164,Tryz.ntmps164
 go_wp2_with (first
  |(go_at_call 189;(with_reducible refine (vEd ((a:Int) / 16777216) (a / 16777216) (by omega) (by omega) _).mono ?_);rintro e w1 ⟨rfl,hb1⟩)
  |(go_at_call 189;(with_reducible refine (vEd ((a:Int) / 65536 % 256) (a / 65536 % 256) (by omega) (by omega) _).mono ?_);rintro e w2 ⟨rfl,hb2⟩)
  |(go_at_call 189;(with_reducible refine (vEd ((a:Int) / 256 % 256) (a / 256 % 256) (by omega) (by omega) _).mono ?_);rintro e w3 ⟨rfl,hb3⟩)
  |(go_at_call 189;(with_reducible refine (vEd ((a:Int) % 256) (a % 256) (by omega) (by omega) _).mono ?_);rintro e w4 ⟨rfl,hb4⟩))
 go_ret;exact ⟨by rw [T.out];simp [vCo],vAa (vAa (vAa hb1 hb2) hb3) hb4⟩
open Go.Lib (decDigits itoa byteCells)
open Go.Lib (decDigits byteCells)
def I64 (x:Int):Prop:= -9223372036854775808≤x∧x≤9223372036854775807
structure LvW (L:LV):Prop where
 row:I64 L.row
 kind:I64 L.kind
 mac:0≤L.mac∧L.mac<18446744073709551616
 addr:0≤L.addr∧L.addr<4294967296
 bits:I64 L.bits
 vlan:I64 L.vlan
 num:I64 L.num
 cost:I64 L.cost
 tagged:∀x∈L.tagged,I64 x
 imports:∀x∈L.imports,I64 x
 exports:∀x∈L.exports,I64 x
 addrs:∀x∈L.addrs,0≤x∧x<4294967296
def GotWs (ps:List (List UInt8)) (w:World) (e:Ending) (w':World):Prop:=∃A n c,e=.returned (.slice A n c)∧SSl w' A n c ps∧Below w.heap.size w w'
theorem row_lit (w:World) (ps:List (List UInt8)) (T:TypeId) (h:ps.length≤1000):SSl (w.alloc (.cells (txts ps).toArray T)) (some ⟨w.heap.size,0,none⟩) ps.length ps.length ps:=by
 refine ⟨rfl,Nat.le_refl _,by unfold maxLen;omega,fun _=>⟨w.heap.size,0,rfl,by simp,fun j hj=>?_⟩⟩;rw [Nat.zero_add,World.cell?_alloc_new];simp [txts,List.getD,List.getElem?_eq_getElem hj]
theorem run_op_line {ρ:Operand→Value} {o:Oper} {x:Operand} {w:World} {b off:Nat} {L:LV} {s1 s2 s3 s4:SlV} (h:w.rangeAt b off (vEi L s1 s2 s3 s4)) (ho:o.op=.load 37 x) (hx:ρ x=.pointer (some ⟨b,off,none⟩)):
 (execOp ρ o).run Tryz.prog w=.ok (.value (vBl L s1 s2 s3 s4)) w:=by
 obtain ⟨d,hd1,hd2⟩:=line_desc;unfold execOp;simp only [ho,hx,Instr.loadAt,Instr.sureAddr,Sem.run_bind,Sem.run_pure,Result.andThen_ok,run_loadVar_mid w b off 37 (vEi L s1 s2 s3 s4) d h hd1 hd2 vGy]
 rfl
theorem lines_at {w:World} {A:Option Addr} {n c:Nat} {xs:List LV} (h:RSl lineR w (vAw w) A n c xs) (k:Nat) (hk:k<n):
 ∃b off s1 s2 s3 s4,A=some ⟨b,off,none⟩∧b<w.heap.size∧LRead w (xs.getD k LV.zero) s1 s2 s3 s4∧w.rangeAt b (off+k * 17) (vEi (xs.getD k LV.zero) s1 s2 s3 s4):=by
 obtain ⟨b,off,e,_,hb,hc⟩:=h.at_ (by omega)
 have hl:k<xs.length:=by rw [h.len];exact hk
 have e2:xs.getD k LV.zero=xs[k]:=by simp [List.getD,hl]
 obtain ⟨vs,h1,h2⟩:=hc k xs[k] (List.getElem?_eq_getElem hl);obtain ⟨s1,s2,s3,s4,rfl,h3⟩:=line_read h1;exact ⟨b,off,s1,s2,s3,s4,e,hb,by rw [e2];exact h3,by rw [e2];exact h2⟩
open Go
section
variable {P:Program} {ops:Array Oper} {Q:Exit→Act→World→Prop} {md:Region.Mode} {S:Bool→World→Prop} {j0:Nat}
theorem getD_ready {listed:Array Bool} {j:Nat} (h:listed.getD j true=false):listed.getD j false=false:=by
 unfold Array.getD at h ⊢
 split at h
 · rename_i hj
   rw [dif_pos hj];exact h
 · cases h
def StepF (P:Program) (ops:Array Oper) (S:Bool→World→Prop) (j0 i:Nat) (o:Oper) (v:Value) (a:Act):Prop:=
 (Region.wanted o (yielded ops a.tmps)=true∧((i=j0∧∀w,S false w→StepRun P (S true) v ((execOp a.eval o).run P w))∨(i≠j0∧∀f w,S f w→StepRun P (S f) v ((execOp a.eval o).run P w))))∨
 (Region.wanted o (yielded ops a.tmps)=false∧v=undef∧i≠j0)
theorem StepF.of_put {i:Nat} {o:Oper} {v u:Value} {a:Act} {dst:Option Tmp} (hs:∀cs b,o.op≠.select cs b) (h:∀d,dst=some d→d∉o.looksAt ops):
 StepF P ops S j0 i o v (a.put dst u)↔StepF P ops S j0 i o v a:=by
 unfold StepF;rw [execOp_put o hs a dst u h,wanted_put o a dst u h]
theorem stepRun_wp {i:Nat} {o:Oper} {v:Value} {a:Act} {T:World→Prop} (hi:ops[i]?=some o) (hw:Region.wanted o (yielded ops a.tmps)=true) {K:Act→World→Prop} {w:World} (hr:StepRun P T v ((execOp a.eval o).run P w)) (h:∀w',T w'→K (a.put o.dst v) w'):
 wpOp P ops Q i K a w:=by
 unfold Go.wpOp;simp only [hi,hw,if_true]
 left
 unfold Oper.wp;generalize (execOp a.eval o).run P w=r at hr ⊢
 cases r with
 |ok n w'=>
  cases n with
  |value u=>
   obtain ⟨rfl,h2⟩:=hr;exact h _ h2
  |skip=>
   obtain ⟨rfl,h2⟩:=hr;exact h _ h2
  |enter f args=>exact Calls.mono (show Calls P f args w' _ from hr) fun e w'' ⟨he,hs⟩=>by subst he;exact h _ hs
  |_=>exact (show False from hr).elim
 |halt x w'=>exact (show False from hr).elim
theorem getD_setF (listed:Array Bool) {i j:Nat} (h:i≠j):(listed.setIfInBounds i true).getD j false=listed.getD j false:=by
 unfold Array.getD
 by_cases hj:j<listed.size
 · rw [dif_pos (by simpa using hj),dif_pos hj]
   exact Array.getElem_setIfInBounds_ne _ h
 · rw [dif_neg (by simpa using hj),dif_neg hj]
theorem StepF.wpOp {i:Nat} {o:Oper} {v:Value} {a:Act} {listed:Array Bool} (hi:ops[i]?=some o) (hsz:listed.size=ops.size) (hun:listed.getD i false=false) (hy:StepF P ops S j0 i o v a) {K:Act→World→Prop} {w:World} (hS:S (listed.getD j0 false) w)
 (h:∀w',S ((listed.setIfInBounds i true).getD j0 false) w'→K (a.put o.dst v) w'):wpOp P ops Q i K a w:=by
 have hlt:i<listed.size:=by rw [hsz];exact (Array.getElem?_eq_some_iff.1 hi).1
 rcases hy with ⟨hw,⟨rfl,hr⟩|⟨hne,hr⟩⟩|⟨hw,rfl,hne⟩
 · rw [hun] at hS
   refine stepRun_wp hi hw (hr w hS) (fun w' hS'=>h w' ?_);rw [show (listed.setIfInBounds i true).getD i false=true by simp [Array.getD,hlt]];exact hS'
 · refine stepRun_wp hi hw (hr _ w hS) (fun w' hS'=>h w' ?_)
   rw [show (listed.setIfInBounds i true).getD j0 false=listed.getD j0 false from getD_setF listed hne];exact hS'
 · unfold Go.wpOp
   simp only [hi,hw,Bool.false_eq_true,if_false];refine h w ?_;rw [show (listed.setIfInBounds i true).getD j0 false=listed.getD j0 false from getD_setF listed hne];exact hS
def DerF (P:Program) (md:Region.Mode) (ops:Array Oper) (Q:Exit→Act→World→Prop) (S:Bool→World→Prop) (j0:Nat):Nat→Array Bool→Act→Prop
 |0,listed,a=>Region.ready md ops listed=[]∧∀w,S (listed.getD j0 false) w→Q .normal a w
 |fuel+1,listed,a=>(Region.ready md ops listed=[]∧∀w,S (listed.getD j0 false) w→Q .normal a w)∨
  ∃i oi v,ops[i]?=some oi∧Region.free md ops listed i=true∧i∈Region.ready md ops listed∧StepF P ops S j0 i oi v a∧DerF P md ops Q S j0 fuel (listed.setIfInBounds i true) (a.put oi.dst v)
theorem DerF.swap (hsel:∀(j:Nat) (o:Oper) cs b,ops[j]?=some o→o.op≠.select cs b):∀(fuel:Nat) (listed:Array Bool) (a:Act),DerF P md ops Q S j0 (fuel+1) listed a→
 ∀(j:Nat) (oj:Oper),ops[j]?=some oj→j∈Region.ready md ops listed→∃v,StepF P ops S j0 j oj v a∧DerF P md ops Q S j0 fuel (listed.setIfInBounds j true) (a.put oj.dst v):=by
 intro fuel
 induction fuel with
 |zero=>
  intro listed a D j oj hoj hj
  rcases D with ⟨hr,_⟩|⟨i,oi,v,hi,hf,hr,hy,D'⟩
  · rw [hr] at hj;cases hj
  · by_cases hij:j=i
    · subst hij
      rw [hi] at hoj
      cases hoj
      exact ⟨v,hy,D'⟩
    · have:=ready_mono hj hij
      rw [D'.1] at this
      cases this
 |succ fuel ih=>
  intro listed a D j oj hoj hj
  rcases D with ⟨hr,_⟩|⟨i,oi,v,hi,hf,hr,hy,D'⟩
  · rw [hr] at hj;cases hj
  · by_cases hij:j=i
    · subst hij
      rw [hi] at hoj
      cases hoj
      exact ⟨v,hy,D'⟩
    · obtain ⟨u,hyj,D2⟩:=ih _ _ D' j oj hoj (ready_mono hj hij)
      obtain ⟨hjun,oj2,hoj2,hall⟩:=mem_ready.1 hj;rw [hoj] at hoj2
      cases hoj2
      have hnot:∀e∈oj.after,Region.binds md e=true→e.on≠i:=fun e he hb heq=>by
       have h1:=hall e he hb;have h0:=(mem_ready.1 hr).1;rw [heq] at h1
       rcases Nat.lt_or_ge i listed.size with h'|h'
       · simp [h'] at h0 h1;rw [h0] at h1;cases h1
       · simp [Array.getElem?_eq_none h'] at h1
      obtain ⟨h1,h2,h3⟩:=Oper.apart_spec (Region.free_spec hi hf j oj hoj hij hjun hnot)
      refine ⟨u,(StepF.of_put (hsel j oj · · hoj) h1).1 hyj,.inr ⟨i,oi,v,hi,free_more hf,ready_mono hr (Ne.symm hij),(StepF.of_put (hsel i oi · · hi) h3).2 hy,?_⟩⟩
      rw [Array.setIfInBounds_comm _ _ hij,←Act.put_comm a v u h2];exact D2
theorem DerF.any (hsel:∀(j:Nat) (o:Oper) cs b,ops[j]?=some o→o.op≠.select cs b):∀(fuel:Nat) (listed:Array Bool) (a:Act),listed.size=ops.size→DerF P md ops Q S j0 fuel listed a→∀w,S (listed.getD j0 false) w→wpAny P md ops Q fuel listed a w:=by
 intro fuel
 induction fuel with
 |zero=>intro listed a _ D w hS;exact ⟨D.1,D.2 w hS⟩
 |succ fuel ih=>
  intro listed a hsz D w hS;refine ⟨fun hr=>?_,fun j hj=>?_⟩
  · rcases D with ⟨_,h⟩|⟨i,oi,v,hi,hf,hr2,hy,D'⟩
    · exact h w hS
    · rw [hr] at hr2;cases hr2
  · obtain ⟨hun,oj,hoj,_⟩:=mem_ready.1 hj
    obtain ⟨v,hy,D'⟩:=DerF.swap hsel fuel listed a D j oj hoj hj;exact hy.wpOp hoj hsz (getD_ready hun) hS (fun w' hS'=>ih _ _ (by simpa using hsz) D' w' hS')
def SeqF (P:Program) (ops:Array Oper) (Q:Exit→Act→World→Prop) (S:Bool→World→Prop) (j0:Nat):Nat→List Oper→Act→Prop
 |k,[],a=>∀w,S (decide (j0<k)) w→Q .normal a w
 |k,o :: rest,a=>∃v,StepF P ops S j0 k o v a∧SeqF P ops Q S j0 (k+1) rest (a.put o.dst v)
theorem SeqF.run {k:Nat} {o:Oper} {rest:List Oper} {a:Act} (v:Value) (hw:Region.wanted o (yielded ops a.tmps)=true) (hk:k≠j0) (hr:∀f w,S f w→StepRun P (S f) v ((execOp a.eval o).run P w)) (h:SeqF P ops Q S j0 (k+1) rest (a.put o.dst v)):
 SeqF P ops Q S j0 k (o :: rest) a:=⟨v,.inl ⟨hw,.inr ⟨hk,hr⟩⟩,h⟩
theorem SeqF.make {k:Nat} {o:Oper} {rest:List Oper} {a:Act} (v:Value) (hw:Region.wanted o (yielded ops a.tmps)=true) (hk:k=j0) (hr:∀w,S false w→StepRun P (S true) v ((execOp a.eval o).run P w)) (h:SeqF P ops Q S j0 (k+1) rest (a.put o.dst v)):
 SeqF P ops Q S j0 k (o :: rest) a:=⟨v,.inl ⟨hw,.inl ⟨hk,hr⟩⟩,h⟩
theorem SeqF.last {k:Nat} {a:Act} (h:∀w,S (decide (j0<k)) w→Q .normal a w):SeqF P ops Q S j0 k [] a:=h
theorem upto_getD (n k j:Nat) (h:j<n):(upto n k).getD j false=decide (j<k):=by
 unfold upto;simp [Array.getD,h]
theorem SeqF.der (hck:vDh md ops=true) (hj:j0<ops.size):∀(n k:Nat) (a:Act),k+n=ops.size→SeqF P ops Q S j0 k (ops.toList.drop k) a→DerF P md ops Q S j0 n (upto ops.size k) a:=by
 unfold vDh at hck;simp only [Bool.and_eq_true,List.all_eq_true,List.mem_range] at hck;intro n
 induction n with
 |zero=>
  intro k a hk h;rw [List.drop_eq_nil_of_le (by simp;omega)] at h;refine ⟨vIa k (by omega),?_⟩;rw [upto_getD _ _ _ hj];exact h
 |succ n ih=>
  intro k a hk h
  have hlt:k<ops.size:=by omega
  rw [List.drop_eq_getElem_cons (by simpa using hlt)] at h;obtain ⟨v,hs,h⟩:=h;obtain ⟨h1,h2⟩:=hck.2 k hlt;refine .inr ⟨k,ops[k],v,Array.getElem?_eq_getElem hlt,h1,by simpa using h2,by simpa using hs,?_⟩;rw [upto_set];exact ih (k+1) _ (by omega) (by simpa using h)
theorem wp_region_makes {l:List Oper} {id:Nat} {a:Act} {w:World} (S:Bool→World→Prop) (j0:Nat) (hm:P.follows .mixedOrders=true) (hck:vDh .any l.toArray=true) (hj:j0<l.length) (hS:S false w.drew) (h:SeqF P l.toArray Q S j0 0 l a):(Code.region id l.toArray true).wp P Q a w:=by
 have hsel:=Region.noSelect_spec (ops:=l.toArray) (by unfold vDh at hck;rw [Bool.and_eq_true] at hck;exact hck.1);have hd:=SeqF.der (md:=.any) hck (by simpa using hj) l.toArray.size 0 a (by omega) (by simpa using h)
 have h0:(upto l.toArray.size 0).getD j0 false=false:=by rw [upto_getD _ _ _ (by simpa using hj)];simp
 have hs0:S ((upto l.toArray.size 0).getD j0 false) w.drew:=by rw [h0];exact hS
 rw [upto_zero] at hd hs0;exact wp_region_any hm (DerF.any hsel _ _ _ (by simp) hd _ hs0)
end
end Go.Proofs.YtnpembgchmmbjaaGreat
