import Derived.Test.YtgmflecelnefcaaGreatOp11
import Derived.RegionTactic
set_option maxRecDepth 100000
set_option maxHeartbeats 40000000
namespace Go.Proofs.YtgmflecelnefcaaGreat
open Go.Lib (hid)
open Go.RowKit
theorem vAq (w:World) (m:Nat):Drew w (w.drewN m):=⟨m,rfl⟩
theorem cs_14 (f0 f1:Int) (f2 f3 f4 f5 f6:List UInt8) (f7 f8 f9 f10 f11 f12:Int) (f13 f14 g14:List Int) (s1 s2 s3 s4 t1 t2 t3 t4:SlV) (w:World) (h13:ISl w .i64 s1.A s1.n s1.c f13) (k13:ISl w .i64 t1.A t1.n t1.c f13) (h14:ISl w .i64 s2.A s2.n s2.c f14) (k14:ISl w .i64 t2.A t2.n t2.c g14) (e:f14≠g14):
 Calls Tryz.prog 140 #[lF f0 f1 f2 f3 f4 f5 f6 f7 f8 f9 f10 f11 f12 s1 s2 s3 s4,lF f0 f1 f2 f3 f4 f5 f6 f7 f8 f9 f10 f11 f12 t1 t2 t3 t4] w fun e w'=>e=.returned (.bool false)∧Below w.heap.size w w':=by
 have H13:=hid h13;have G13:=hid k13;have H14:=hid h14;have G14:=hid k14;clear h13 k13 h14 k14;have d2:(f2 == f2)=true:=beq_self_eq_true _;have d3:(f3 == f3)=true:=beq_self_eq_true _;have d4:(f4 == f4)=true:=beq_self_eq_true _;have d5:(f5 == f5)=true:=beq_self_eq_true _;have d6:(f6 == f6)=true:=beq_self_eq_true _;have D13:=hid (show (f13 == f13)=true from beq_self_eq_true _);have D14:=hid (show (f14 == g14)=false by rw [beq_eq_false_iff_ne];exact e)
 clear e;unfold lF
 go_enter Tryz.func140,Tryz.ntmps140
 go_wp2_with (first
  |(go_at_call 115;(with_reducible refine (vEx s1 t1 f13 f13 _ ((H13.out.alloc _).alloc _) ((G13.out.alloc _).alloc _)).mono ?_);rintro e w13 ⟨rfl,m13,rfl⟩;rw [D13.out])
  |(go_at_call 115;(with_reducible refine (vEx s2 t2 f14 g14 _ (((H14.out.alloc _).alloc _).drew (vAq _ _)) (((G14.out.alloc _).alloc _).drew (vAq _ _))).mono ?_);rintro e w14 ⟨rfl,m14,rfl⟩;rw [D14.out]))
 go_ret;exact ⟨rfl,vAd (vAj _ _ _) _⟩
theorem cs_15 (f0 f1:Int) (f2 f3 f4 f5 f6:List UInt8) (f7 f8 f9 f10 f11 f12:Int) (f13 f14 f15 g15:List Int) (s1 s2 s3 s4 t1 t2 t3 t4:SlV) (w:World) (h13:ISl w .i64 s1.A s1.n s1.c f13) (k13:ISl w .i64 t1.A t1.n t1.c f13) (h14:ISl w .i64 s2.A s2.n s2.c f14) (k14:ISl w .i64 t2.A t2.n t2.c f14) (h15:ISl w .i64 s3.A s3.n s3.c f15) (k15:ISl w .i64 t3.A t3.n t3.c g15) (e:f15≠g15):
 Calls Tryz.prog 140 #[lF f0 f1 f2 f3 f4 f5 f6 f7 f8 f9 f10 f11 f12 s1 s2 s3 s4,lF f0 f1 f2 f3 f4 f5 f6 f7 f8 f9 f10 f11 f12 t1 t2 t3 t4] w fun e w'=>e=.returned (.bool false)∧Below w.heap.size w w':=by
 have H13:=hid h13;have G13:=hid k13;have H14:=hid h14;have G14:=hid k14;have H15:=hid h15;have G15:=hid k15;clear h13 k13 h14 k14 h15 k15;have d2:(f2 == f2)=true:=beq_self_eq_true _;have d3:(f3 == f3)=true:=beq_self_eq_true _;have d4:(f4 == f4)=true:=beq_self_eq_true _;have d5:(f5 == f5)=true:=beq_self_eq_true _;have d6:(f6 == f6)=true:=beq_self_eq_true _;have D13:=hid (show (f13 == f13)=true from beq_self_eq_true _)
 have D14:=hid (show (f14 == f14)=true from beq_self_eq_true _);have D15:=hid (show (f15 == g15)=false by rw [beq_eq_false_iff_ne];exact e);clear e;unfold lF
 go_enter Tryz.func140,Tryz.ntmps140
 go_wp2_with (first
  |(go_at_call 115;(with_reducible refine (vEx s1 t1 f13 f13 _ ((H13.out.alloc _).alloc _) ((G13.out.alloc _).alloc _)).mono ?_);rintro e w13 ⟨rfl,m13,rfl⟩;rw [D13.out])
  |(go_at_call 115;(with_reducible refine (vEx s2 t2 f14 f14 _ (((H14.out.alloc _).alloc _).drew (vAq _ _)) (((G14.out.alloc _).alloc _).drew (vAq _ _))).mono ?_);rintro e w14 ⟨rfl,m14,rfl⟩;rw [D14.out])
  |(go_at_call 115;(with_reducible refine (vEx s3 t3 f15 g15 _ (((H15.out.alloc _).alloc _).drew (vAq _ _)) (((G15.out.alloc _).alloc _).drew (vAq _ _))).mono ?_);rintro e w15 ⟨rfl,m15,rfl⟩;rw [D15.out]))
 go_ret;exact ⟨rfl,vAd (vAj _ _ _) _⟩
theorem cs_16 (f0 f1:Int) (f2 f3 f4 f5 f6:List UInt8) (f7 f8 f9 f10 f11 f12:Int) (f13 f14 f15 f16 g16:List Int) (s1 s2 s3 s4 t1 t2 t3 t4:SlV) (w:World) (h13:ISl w .i64 s1.A s1.n s1.c f13) (k13:ISl w .i64 t1.A t1.n t1.c f13) (h14:ISl w .i64 s2.A s2.n s2.c f14) (k14:ISl w .i64 t2.A t2.n t2.c f14) (h15:ISl w .i64 s3.A s3.n s3.c f15) (k15:ISl w .i64 t3.A t3.n t3.c f15) (h16:ISl w .u32 s4.A s4.n s4.c f16) (k16:ISl w .u32 t4.A t4.n t4.c g16) (e:f16≠g16):
 Calls Tryz.prog 140 #[lF f0 f1 f2 f3 f4 f5 f6 f7 f8 f9 f10 f11 f12 s1 s2 s3 s4,lF f0 f1 f2 f3 f4 f5 f6 f7 f8 f9 f10 f11 f12 t1 t2 t3 t4] w fun e w'=>e=.returned (.bool false)∧Below w.heap.size w w':=by
 have H13:=hid h13;have G13:=hid k13;have H14:=hid h14;have G14:=hid k14;have H15:=hid h15;have G15:=hid k15;have H16:=hid h16;have G16:=hid k16;clear h13 k13 h14 k14 h15 k15 h16 k16;have d2:(f2 == f2)=true:=beq_self_eq_true _;have d3:(f3 == f3)=true:=beq_self_eq_true _;have d4:(f4 == f4)=true:=beq_self_eq_true _;have d5:(f5 == f5)=true:=beq_self_eq_true _;have d6:(f6 == f6)=true:=beq_self_eq_true _
 have D13:=hid (show (f13 == f13)=true from beq_self_eq_true _);have D14:=hid (show (f14 == f14)=true from beq_self_eq_true _);have D15:=hid (show (f15 == f15)=true from beq_self_eq_true _);have D16:=hid (show (f16 == g16)=false by rw [beq_eq_false_iff_ne];exact e);clear e;unfold lF
 go_enter Tryz.func140,Tryz.ntmps140
 go_wp2_with (first
  |(go_at_call 115;(with_reducible refine (vEx s1 t1 f13 f13 _ ((H13.out.alloc _).alloc _) ((G13.out.alloc _).alloc _)).mono ?_);rintro e w13 ⟨rfl,m13,rfl⟩;rw [D13.out])
  |(go_at_call 115;(with_reducible refine (vEx s2 t2 f14 f14 _ (((H14.out.alloc _).alloc _).drew (vAq _ _)) (((G14.out.alloc _).alloc _).drew (vAq _ _))).mono ?_);rintro e w14 ⟨rfl,m14,rfl⟩;rw [D14.out])
  |(go_at_call 115;(with_reducible refine (vEx s3 t3 f15 f15 _ (((H15.out.alloc _).alloc _).drew (vAq _ _)) (((G15.out.alloc _).alloc _).drew (vAq _ _))).mono ?_);rintro e w15 ⟨rfl,m15,rfl⟩;rw [D15.out])
  |(go_at_call 116;(with_reducible refine (eq_uint32 s4 t4 f16 g16 _ (((H16.out.alloc _).alloc _).drew (vAq _ _)) (((G16.out.alloc _).alloc _).drew (vAq _ _))).mono ?_);rintro e w16 ⟨rfl,m16,rfl⟩;rw [D16.out]))
 go_ret;exact ⟨rfl,vAd (vAj _ _ _) _⟩
theorem cs_17 (f0 f1:Int) (f2 f3 f4 f5 f6:List UInt8) (f7 f8 f9 f10 f11 f12:Int) (f13 f14 f15 f16:List Int) (s1 s2 s3 s4 t1 t2 t3 t4:SlV) (w:World) (h13:ISl w .i64 s1.A s1.n s1.c f13) (k13:ISl w .i64 t1.A t1.n t1.c f13) (h14:ISl w .i64 s2.A s2.n s2.c f14) (k14:ISl w .i64 t2.A t2.n t2.c f14) (h15:ISl w .i64 s3.A s3.n s3.c f15) (k15:ISl w .i64 t3.A t3.n t3.c f15) (h16:ISl w .u32 s4.A s4.n s4.c f16) (k16:ISl w .u32 t4.A t4.n t4.c f16):
 Calls Tryz.prog 140 #[lF f0 f1 f2 f3 f4 f5 f6 f7 f8 f9 f10 f11 f12 s1 s2 s3 s4,lF f0 f1 f2 f3 f4 f5 f6 f7 f8 f9 f10 f11 f12 t1 t2 t3 t4] w fun e w'=>e=.returned (.bool true)∧Below w.heap.size w w':=by
 have H13:=hid h13;have G13:=hid k13;have H14:=hid h14;have G14:=hid k14;have H15:=hid h15;have G15:=hid k15;have H16:=hid h16;have G16:=hid k16;clear h13 k13 h14 k14 h15 k15 h16 k16;have d2:(f2 == f2)=true:=beq_self_eq_true _;have d3:(f3 == f3)=true:=beq_self_eq_true _;have d4:(f4 == f4)=true:=beq_self_eq_true _;have d5:(f5 == f5)=true:=beq_self_eq_true _;have d6:(f6 == f6)=true:=beq_self_eq_true _
 have D13:=hid (show (f13 == f13)=true from beq_self_eq_true _);have D14:=hid (show (f14 == f14)=true from beq_self_eq_true _);have D15:=hid (show (f15 == f15)=true from beq_self_eq_true _);have D16:=hid (show (f16 == f16)=true from beq_self_eq_true _);unfold lF
 go_enter Tryz.func140,Tryz.ntmps140
 go_wp2_with (first
  |(go_at_call 115;(with_reducible refine (vEx s1 t1 f13 f13 _ ((H13.out.alloc _).alloc _) ((G13.out.alloc _).alloc _)).mono ?_);rintro e w13 ⟨rfl,m13,rfl⟩;rw [D13.out])
  |(go_at_call 115;(with_reducible refine (vEx s2 t2 f14 f14 _ (((H14.out.alloc _).alloc _).drew (vAq _ _)) (((G14.out.alloc _).alloc _).drew (vAq _ _))).mono ?_);rintro e w14 ⟨rfl,m14,rfl⟩;rw [D14.out])
  |(go_at_call 115;(with_reducible refine (vEx s3 t3 f15 f15 _ (((H15.out.alloc _).alloc _).drew (vAq _ _)) (((G15.out.alloc _).alloc _).drew (vAq _ _))).mono ?_);rintro e w15 ⟨rfl,m15,rfl⟩;rw [D15.out])
  |(go_at_call 116;(with_reducible refine (eq_uint32 s4 t4 f16 f16 _ (((H16.out.alloc _).alloc _).drew (vAq _ _)) (((G16.out.alloc _).alloc _).drew (vAq _ _))).mono ?_);rintro e w16 ⟨rfl,m16,rfl⟩;rw [D16.out]))
 go_ret;exact ⟨rfl,vAd (vAj _ _ _) _⟩
end Go.Proofs.YtgmflecelnefcaaGreat
