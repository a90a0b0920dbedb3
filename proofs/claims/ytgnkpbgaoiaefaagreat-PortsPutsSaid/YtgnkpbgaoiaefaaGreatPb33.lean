import Derived.Test.YtgnkpbgaoiaefaaGreatPb09
import Derived.Test.YtgnkpbgaoiaefaaGreatPb30
import Derived.RegionTactic
set_option maxRecDepth 100000
set_option maxHeartbeats 40000000
namespace Go.Proofs.YtgnkpbgaoiaefaaGreat
open Go.Lib (hid)
open Go.RowKit
theorem cs_0 (f0 g0 f1 g1:Int) (f2 g2 f3 g3 f4 g4 f5 g5 f6 g6:List UInt8) (f7 g7 f8 g8 f9 g9 f10 g10 f11 g11 f12 g12:Int) (s1 s2 s3 s4 t1 t2 t3 t4:SlV) (w:World) (e:f0≠g0):
 Calls Tryz.prog 37 #[lF f0 f1 f2 f3 f4 f5 f6 f7 f8 f9 f10 f11 f12 s1 s2 s3 s4,lF g0 g1 g2 g3 g4 g5 g6 g7 g8 g9 g10 g11 g12 t1 t2 t3 t4] w fun e w'=>e=.returned (.bool false)∧Below w.heap.size w w':=by
 have d0:(f0 == g0)=false:=by rw [beq_eq_false_iff_ne];exact e
 clear e;unfold lF
 go_enter Tryz.func37,Tryz.ntmps37
 go_wp2;go_ret;exact ⟨rfl,vAi _ _ _⟩
theorem cs_1 (f0 f1 g1:Int) (f2 g2 f3 g3 f4 g4 f5 g5 f6 g6:List UInt8) (f7 g7 f8 g8 f9 g9 f10 g10 f11 g11 f12 g12:Int) (s1 s2 s3 s4 t1 t2 t3 t4:SlV) (w:World) (e:f1≠g1):
 Calls Tryz.prog 37 #[lF f0 f1 f2 f3 f4 f5 f6 f7 f8 f9 f10 f11 f12 s1 s2 s3 s4,lF f0 g1 g2 g3 g4 g5 g6 g7 g8 g9 g10 g11 g12 t1 t2 t3 t4] w fun e w'=>e=.returned (.bool false)∧Below w.heap.size w w':=by
 have d1:(f1 == g1)=false:=by rw [beq_eq_false_iff_ne];exact e
 clear e;unfold lF
 go_enter Tryz.func37,Tryz.ntmps37
 go_wp2;go_ret;exact ⟨rfl,vAi _ _ _⟩
theorem cs_2 (f0 f1:Int) (f2 g2 f3 g3 f4 g4 f5 g5 f6 g6:List UInt8) (f7 g7 f8 g8 f9 g9 f10 g10 f11 g11 f12 g12:Int) (s1 s2 s3 s4 t1 t2 t3 t4:SlV) (w:World) (e:f2≠g2):
 Calls Tryz.prog 37 #[lF f0 f1 f2 f3 f4 f5 f6 f7 f8 f9 f10 f11 f12 s1 s2 s3 s4,lF f0 f1 g2 g3 g4 g5 g6 g7 g8 g9 g10 g11 g12 t1 t2 t3 t4] w fun e w'=>e=.returned (.bool false)∧Below w.heap.size w w':=by
 have d2:(f2 == g2)=false:=by rw [beq_eq_false_iff_ne];exact e
 clear e;unfold lF
 go_enter Tryz.func37,Tryz.ntmps37
 go_wp2;go_ret;exact ⟨rfl,vAi _ _ _⟩
theorem cs_3 (f0 f1:Int) (f2 f3 g3 f4 g4 f5 g5 f6 g6:List UInt8) (f7 g7 f8 g8 f9 g9 f10 g10 f11 g11 f12 g12:Int) (s1 s2 s3 s4 t1 t2 t3 t4:SlV) (w:World) (e:f3≠g3):
 Calls Tryz.prog 37 #[lF f0 f1 f2 f3 f4 f5 f6 f7 f8 f9 f10 f11 f12 s1 s2 s3 s4,lF f0 f1 f2 g3 g4 g5 g6 g7 g8 g9 g10 g11 g12 t1 t2 t3 t4] w fun e w'=>e=.returned (.bool false)∧Below w.heap.size w w':=by
 have d2:(f2 == f2)=true:=beq_self_eq_true _
 have d3:(f3 == g3)=false:=by rw [beq_eq_false_iff_ne];exact e
 clear e;unfold lF
 go_enter Tryz.func37,Tryz.ntmps37
 go_wp2;go_ret;exact ⟨rfl,vAi _ _ _⟩
theorem cs_4 (f0 f1:Int) (f2 f3 f4 g4 f5 g5 f6 g6:List UInt8) (f7 g7 f8 g8 f9 g9 f10 g10 f11 g11 f12 g12:Int) (s1 s2 s3 s4 t1 t2 t3 t4:SlV) (w:World) (e:f4≠g4):
 Calls Tryz.prog 37 #[lF f0 f1 f2 f3 f4 f5 f6 f7 f8 f9 f10 f11 f12 s1 s2 s3 s4,lF f0 f1 f2 f3 g4 g5 g6 g7 g8 g9 g10 g11 g12 t1 t2 t3 t4] w fun e w'=>e=.returned (.bool false)∧Below w.heap.size w w':=by
 have d2:(f2 == f2)=true:=beq_self_eq_true _;have d3:(f3 == f3)=true:=beq_self_eq_true _
 have d4:(f4 == g4)=false:=by rw [beq_eq_false_iff_ne];exact e
 clear e;unfold lF
 go_enter Tryz.func37,Tryz.ntmps37
 go_wp2;go_ret;exact ⟨rfl,vAi _ _ _⟩
theorem cs_5 (f0 f1:Int) (f2 f3 f4 f5 g5 f6 g6:List UInt8) (f7 g7 f8 g8 f9 g9 f10 g10 f11 g11 f12 g12:Int) (s1 s2 s3 s4 t1 t2 t3 t4:SlV) (w:World) (e:f5≠g5):
 Calls Tryz.prog 37 #[lF f0 f1 f2 f3 f4 f5 f6 f7 f8 f9 f10 f11 f12 s1 s2 s3 s4,lF f0 f1 f2 f3 f4 g5 g6 g7 g8 g9 g10 g11 g12 t1 t2 t3 t4] w fun e w'=>e=.returned (.bool false)∧Below w.heap.size w w':=by
 have d2:(f2 == f2)=true:=beq_self_eq_true _;have d3:(f3 == f3)=true:=beq_self_eq_true _;have d4:(f4 == f4)=true:=beq_self_eq_true _
 have d5:(f5 == g5)=false:=by rw [beq_eq_false_iff_ne];exact e
 clear e;unfold lF
 go_enter Tryz.func37,Tryz.ntmps37
 go_wp2;go_ret;exact ⟨rfl,vAi _ _ _⟩
theorem cs_6 (f0 f1:Int) (f2 f3 f4 f5 f6 g6:List UInt8) (f7 g7 f8 g8 f9 g9 f10 g10 f11 g11 f12 g12:Int) (s1 s2 s3 s4 t1 t2 t3 t4:SlV) (w:World) (e:f6≠g6):
 Calls Tryz.prog 37 #[lF f0 f1 f2 f3 f4 f5 f6 f7 f8 f9 f10 f11 f12 s1 s2 s3 s4,lF f0 f1 f2 f3 f4 f5 g6 g7 g8 g9 g10 g11 g12 t1 t2 t3 t4] w fun e w'=>e=.returned (.bool false)∧Below w.heap.size w w':=by
 have d2:(f2 == f2)=true:=beq_self_eq_true _;have d3:(f3 == f3)=true:=beq_self_eq_true _;have d4:(f4 == f4)=true:=beq_self_eq_true _;have d5:(f5 == f5)=true:=beq_self_eq_true _
 have d6:(f6 == g6)=false:=by rw [beq_eq_false_iff_ne];exact e
 clear e;unfold lF
 go_enter Tryz.func37,Tryz.ntmps37
 go_wp2;go_ret;exact ⟨rfl,vAi _ _ _⟩
theorem cs_7 (f0 f1:Int) (f2 f3 f4 f5 f6:List UInt8) (f7 g7 f8 g8 f9 g9 f10 g10 f11 g11 f12 g12:Int) (s1 s2 s3 s4 t1 t2 t3 t4:SlV) (w:World) (e:f7≠g7):
 Calls Tryz.prog 37 #[lF f0 f1 f2 f3 f4 f5 f6 f7 f8 f9 f10 f11 f12 s1 s2 s3 s4,lF f0 f1 f2 f3 f4 f5 f6 g7 g8 g9 g10 g11 g12 t1 t2 t3 t4] w fun e w'=>e=.returned (.bool false)∧Below w.heap.size w w':=by
 have d2:(f2 == f2)=true:=beq_self_eq_true _;have d3:(f3 == f3)=true:=beq_self_eq_true _;have d4:(f4 == f4)=true:=beq_self_eq_true _;have d5:(f5 == f5)=true:=beq_self_eq_true _;have d6:(f6 == f6)=true:=beq_self_eq_true _
 have d7:(f7 == g7)=false:=by rw [beq_eq_false_iff_ne];exact e
 clear e;unfold lF
 go_enter Tryz.func37,Tryz.ntmps37
 go_wp2;go_ret;exact ⟨rfl,vAi _ _ _⟩
theorem cs_8 (f0 f1:Int) (f2 f3 f4 f5 f6:List UInt8) (f7 f8 g8 f9 g9 f10 g10 f11 g11 f12 g12:Int) (s1 s2 s3 s4 t1 t2 t3 t4:SlV) (w:World) (e:f8≠g8):
 Calls Tryz.prog 37 #[lF f0 f1 f2 f3 f4 f5 f6 f7 f8 f9 f10 f11 f12 s1 s2 s3 s4,lF f0 f1 f2 f3 f4 f5 f6 f7 g8 g9 g10 g11 g12 t1 t2 t3 t4] w fun e w'=>e=.returned (.bool false)∧Below w.heap.size w w':=by
 have d2:(f2 == f2)=true:=beq_self_eq_true _;have d3:(f3 == f3)=true:=beq_self_eq_true _;have d4:(f4 == f4)=true:=beq_self_eq_true _;have d5:(f5 == f5)=true:=beq_self_eq_true _;have d6:(f6 == f6)=true:=beq_self_eq_true _
 have d8:(f8 == g8)=false:=by rw [beq_eq_false_iff_ne];exact e
 clear e;unfold lF
 go_enter Tryz.func37,Tryz.ntmps37
 go_wp2;go_ret;exact ⟨rfl,vAi _ _ _⟩
theorem cs_9 (f0 f1:Int) (f2 f3 f4 f5 f6:List UInt8) (f7 f8 f9 g9 f10 g10 f11 g11 f12 g12:Int) (s1 s2 s3 s4 t1 t2 t3 t4:SlV) (w:World) (e:f9≠g9):
 Calls Tryz.prog 37 #[lF f0 f1 f2 f3 f4 f5 f6 f7 f8 f9 f10 f11 f12 s1 s2 s3 s4,lF f0 f1 f2 f3 f4 f5 f6 f7 f8 g9 g10 g11 g12 t1 t2 t3 t4] w fun e w'=>e=.returned (.bool false)∧Below w.heap.size w w':=by
 have d2:(f2 == f2)=true:=beq_self_eq_true _;have d3:(f3 == f3)=true:=beq_self_eq_true _;have d4:(f4 == f4)=true:=beq_self_eq_true _;have d5:(f5 == f5)=true:=beq_self_eq_true _;have d6:(f6 == f6)=true:=beq_self_eq_true _
 have d9:(f9 == g9)=false:=by rw [beq_eq_false_iff_ne];exact e
 clear e;unfold lF
 go_enter Tryz.func37,Tryz.ntmps37
 go_wp2;go_ret;exact ⟨rfl,vAi _ _ _⟩
theorem cs_10 (f0 f1:Int) (f2 f3 f4 f5 f6:List UInt8) (f7 f8 f9 f10 g10 f11 g11 f12 g12:Int) (s1 s2 s3 s4 t1 t2 t3 t4:SlV) (w:World) (e:f10≠g10):
 Calls Tryz.prog 37 #[lF f0 f1 f2 f3 f4 f5 f6 f7 f8 f9 f10 f11 f12 s1 s2 s3 s4,lF f0 f1 f2 f3 f4 f5 f6 f7 f8 f9 g10 g11 g12 t1 t2 t3 t4] w fun e w'=>e=.returned (.bool false)∧Below w.heap.size w w':=by
 have d2:(f2 == f2)=true:=beq_self_eq_true _;have d3:(f3 == f3)=true:=beq_self_eq_true _;have d4:(f4 == f4)=true:=beq_self_eq_true _;have d5:(f5 == f5)=true:=beq_self_eq_true _;have d6:(f6 == f6)=true:=beq_self_eq_true _
 have d10:(f10 == g10)=false:=by rw [beq_eq_false_iff_ne];exact e
 clear e;unfold lF
 go_enter Tryz.func37,Tryz.ntmps37
 go_wp2;go_ret;exact ⟨rfl,vAi _ _ _⟩
theorem cs_11 (f0 f1:Int) (f2 f3 f4 f5 f6:List UInt8) (f7 f8 f9 f10 f11 g11 f12 g12:Int) (s1 s2 s3 s4 t1 t2 t3 t4:SlV) (w:World) (e:f11≠g11):
 Calls Tryz.prog 37 #[lF f0 f1 f2 f3 f4 f5 f6 f7 f8 f9 f10 f11 f12 s1 s2 s3 s4,lF f0 f1 f2 f3 f4 f5 f6 f7 f8 f9 f10 g11 g12 t1 t2 t3 t4] w fun e w'=>e=.returned (.bool false)∧Below w.heap.size w w':=by
 have d2:(f2 == f2)=true:=beq_self_eq_true _;have d3:(f3 == f3)=true:=beq_self_eq_true _;have d4:(f4 == f4)=true:=beq_self_eq_true _;have d5:(f5 == f5)=true:=beq_self_eq_true _;have d6:(f6 == f6)=true:=beq_self_eq_true _
 have d11:(f11 == g11)=false:=by rw [beq_eq_false_iff_ne];exact e
 clear e;unfold lF
 go_enter Tryz.func37,Tryz.ntmps37
 go_wp2;go_ret;exact ⟨rfl,vAi _ _ _⟩
theorem cs_12 (f0 f1:Int) (f2 f3 f4 f5 f6:List UInt8) (f7 f8 f9 f10 f11 f12 g12:Int) (s1 s2 s3 s4 t1 t2 t3 t4:SlV) (w:World) (e:f12≠g12):
 Calls Tryz.prog 37 #[lF f0 f1 f2 f3 f4 f5 f6 f7 f8 f9 f10 f11 f12 s1 s2 s3 s4,lF f0 f1 f2 f3 f4 f5 f6 f7 f8 f9 f10 f11 g12 t1 t2 t3 t4] w fun e w'=>e=.returned (.bool false)∧Below w.heap.size w w':=by
 have d2:(f2 == f2)=true:=beq_self_eq_true _;have d3:(f3 == f3)=true:=beq_self_eq_true _;have d4:(f4 == f4)=true:=beq_self_eq_true _;have d5:(f5 == f5)=true:=beq_self_eq_true _;have d6:(f6 == f6)=true:=beq_self_eq_true _
 have d12:(f12 == g12)=false:=by rw [beq_eq_false_iff_ne];exact e
 clear e;unfold lF
 go_enter Tryz.func37,Tryz.ntmps37
 go_wp2;go_ret;exact ⟨rfl,vAi _ _ _⟩
theorem cs_13 (f0 f1:Int) (f2 f3 f4 f5 f6:List UInt8) (f7 f8 f9 f10 f11 f12:Int) (f13 g13:List Int) (s1 s2 s3 s4 t1 t2 t3 t4:SlV) (w:World) (h13:ISl w .i64 s1.A s1.n s1.c f13) (k13:ISl w .i64 t1.A t1.n t1.c g13) (e:f13≠g13):
 Calls Tryz.prog 37 #[lF f0 f1 f2 f3 f4 f5 f6 f7 f8 f9 f10 f11 f12 s1 s2 s3 s4,lF f0 f1 f2 f3 f4 f5 f6 f7 f8 f9 f10 f11 f12 t1 t2 t3 t4] w fun e w'=>e=.returned (.bool false)∧Below w.heap.size w w':=by
 have H13:=hid h13;have G13:=hid k13;clear h13 k13;have d2:(f2 == f2)=true:=beq_self_eq_true _;have d3:(f3 == f3)=true:=beq_self_eq_true _;have d4:(f4 == f4)=true:=beq_self_eq_true _;have d5:(f5 == f5)=true:=beq_self_eq_true _;have d6:(f6 == f6)=true:=beq_self_eq_true _;have D13:=hid (show (f13 == g13)=false by rw [beq_eq_false_iff_ne];exact e);clear e;unfold lF
 go_enter Tryz.func37,Tryz.ntmps37
 go_wp2_with (go_at_call 116;(with_reducible refine (vFi s1 t1 f13 g13 _ ((H13.out.alloc _).alloc _) ((G13.out.alloc _).alloc _)).mono ?_);rintro e w13 ⟨rfl,m13,rfl⟩;rw [D13.out]);go_ret;exact ⟨rfl,vAd (vAi _ _ _) _⟩
theorem vAy (w:World) (m:Nat):Drew w (w.drewN m):=⟨m,rfl⟩
theorem cs_14 (f0 f1:Int) (f2 f3 f4 f5 f6:List UInt8) (f7 f8 f9 f10 f11 f12:Int) (f13 f14 g14:List Int) (s1 s2 s3 s4 t1 t2 t3 t4:SlV) (w:World) (h13:ISl w .i64 s1.A s1.n s1.c f13) (k13:ISl w .i64 t1.A t1.n t1.c f13) (h14:ISl w .i64 s2.A s2.n s2.c f14) (k14:ISl w .i64 t2.A t2.n t2.c g14) (e:f14≠g14):
 Calls Tryz.prog 37 #[lF f0 f1 f2 f3 f4 f5 f6 f7 f8 f9 f10 f11 f12 s1 s2 s3 s4,lF f0 f1 f2 f3 f4 f5 f6 f7 f8 f9 f10 f11 f12 t1 t2 t3 t4] w fun e w'=>e=.returned (.bool false)∧Below w.heap.size w w':=by
 have H13:=hid h13;have G13:=hid k13;have H14:=hid h14;have G14:=hid k14;clear h13 k13 h14 k14;have d2:(f2 == f2)=true:=beq_self_eq_true _;have d3:(f3 == f3)=true:=beq_self_eq_true _;have d4:(f4 == f4)=true:=beq_self_eq_true _;have d5:(f5 == f5)=true:=beq_self_eq_true _;have d6:(f6 == f6)=true:=beq_self_eq_true _;have D13:=hid (show (f13 == f13)=true from beq_self_eq_true _);have D14:=hid (show (f14 == g14)=false by rw [beq_eq_false_iff_ne];exact e)
 clear e;unfold lF
 go_enter Tryz.func37,Tryz.ntmps37
 go_wp2_with (first
  |(go_at_call 116;(with_reducible refine (vFi s1 t1 f13 f13 _ ((H13.out.alloc _).alloc _) ((G13.out.alloc _).alloc _)).mono ?_);rintro e w13 ⟨rfl,m13,rfl⟩;rw [D13.out])
  |(go_at_call 116;(with_reducible refine (vFi s2 t2 f14 g14 _ (((H14.out.alloc _).alloc _).drew (vAy _ _)) (((G14.out.alloc _).alloc _).drew (vAy _ _))).mono ?_);rintro e w14 ⟨rfl,m14,rfl⟩;rw [D14.out]))
 go_ret;exact ⟨rfl,vAd (vAi _ _ _) _⟩
theorem cs_15 (f0 f1:Int) (f2 f3 f4 f5 f6:List UInt8) (f7 f8 f9 f10 f11 f12:Int) (f13 f14 f15 g15:List Int) (s1 s2 s3 s4 t1 t2 t3 t4:SlV) (w:World) (h13:ISl w .i64 s1.A s1.n s1.c f13) (k13:ISl w .i64 t1.A t1.n t1.c f13) (h14:ISl w .i64 s2.A s2.n s2.c f14) (k14:ISl w .i64 t2.A t2.n t2.c f14) (h15:ISl w .i64 s3.A s3.n s3.c f15) (k15:ISl w .i64 t3.A t3.n t3.c g15) (e:f15≠g15):
 Calls Tryz.prog 37 #[lF f0 f1 f2 f3 f4 f5 f6 f7 f8 f9 f10 f11 f12 s1 s2 s3 s4,lF f0 f1 f2 f3 f4 f5 f6 f7 f8 f9 f10 f11 f12 t1 t2 t3 t4] w fun e w'=>e=.returned (.bool false)∧Below w.heap.size w w':=by
 have H13:=hid h13;have G13:=hid k13;have H14:=hid h14;have G14:=hid k14;have H15:=hid h15;have G15:=hid k15;clear h13 k13 h14 k14 h15 k15;have d2:(f2 == f2)=true:=beq_self_eq_true _;have d3:(f3 == f3)=true:=beq_self_eq_true _;have d4:(f4 == f4)=true:=beq_self_eq_true _;have d5:(f5 == f5)=true:=beq_self_eq_true _;have d6:(f6 == f6)=true:=beq_self_eq_true _;have D13:=hid (show (f13 == f13)=true from beq_self_eq_true _)
 have D14:=hid (show (f14 == f14)=true from beq_self_eq_true _);have D15:=hid (show (f15 == g15)=false by rw [beq_eq_false_iff_ne];exact e);clear e;unfold lF
 go_enter Tryz.func37,Tryz.ntmps37
 go_wp2_with (first
  |(go_at_call 116;(with_reducible refine (vFi s1 t1 f13 f13 _ ((H13.out.alloc _).alloc _) ((G13.out.alloc _).alloc _)).mono ?_);rintro e w13 ⟨rfl,m13,rfl⟩;rw [D13.out])
  |(go_at_call 116;(with_reducible refine (vFi s2 t2 f14 f14 _ (((H14.out.alloc _).alloc _).drew (vAy _ _)) (((G14.out.alloc _).alloc _).drew (vAy _ _))).mono ?_);rintro e w14 ⟨rfl,m14,rfl⟩;rw [D14.out])
  |(go_at_call 116;(with_reducible refine (vFi s3 t3 f15 g15 _ (((H15.out.alloc _).alloc _).drew (vAy _ _)) (((G15.out.alloc _).alloc _).drew (vAy _ _))).mono ?_);rintro e w15 ⟨rfl,m15,rfl⟩;rw [D15.out]))
 go_ret;exact ⟨rfl,vAd (vAi _ _ _) _⟩
theorem cs_16 (f0 f1:Int) (f2 f3 f4 f5 f6:List UInt8) (f7 f8 f9 f10 f11 f12:Int) (f13 f14 f15 f16 g16:List Int) (s1 s2 s3 s4 t1 t2 t3 t4:SlV) (w:World) (h13:ISl w .i64 s1.A s1.n s1.c f13) (k13:ISl w .i64 t1.A t1.n t1.c f13) (h14:ISl w .i64 s2.A s2.n s2.c f14) (k14:ISl w .i64 t2.A t2.n t2.c f14) (h15:ISl w .i64 s3.A s3.n s3.c f15) (k15:ISl w .i64 t3.A t3.n t3.c f15) (h16:ISl w .u32 s4.A s4.n s4.c f16) (k16:ISl w .u32 t4.A t4.n t4.c g16) (e:f16≠g16):
 Calls Tryz.prog 37 #[lF f0 f1 f2 f3 f4 f5 f6 f7 f8 f9 f10 f11 f12 s1 s2 s3 s4,lF f0 f1 f2 f3 f4 f5 f6 f7 f8 f9 f10 f11 f12 t1 t2 t3 t4] w fun e w'=>e=.returned (.bool false)∧Below w.heap.size w w':=by
 have H13:=hid h13;have G13:=hid k13;have H14:=hid h14;have G14:=hid k14;have H15:=hid h15;have G15:=hid k15;have H16:=hid h16;have G16:=hid k16;clear h13 k13 h14 k14 h15 k15 h16 k16;have d2:(f2 == f2)=true:=beq_self_eq_true _;have d3:(f3 == f3)=true:=beq_self_eq_true _;have d4:(f4 == f4)=true:=beq_self_eq_true _;have d5:(f5 == f5)=true:=beq_self_eq_true _;have d6:(f6 == f6)=true:=beq_self_eq_true _
 have D13:=hid (show (f13 == f13)=true from beq_self_eq_true _);have D14:=hid (show (f14 == f14)=true from beq_self_eq_true _);have D15:=hid (show (f15 == f15)=true from beq_self_eq_true _);have D16:=hid (show (f16 == g16)=false by rw [beq_eq_false_iff_ne];exact e);clear e;unfold lF
 go_enter Tryz.func37,Tryz.ntmps37
 go_wp2_with (first
  |(go_at_call 116;(with_reducible refine (vFi s1 t1 f13 f13 _ ((H13.out.alloc _).alloc _) ((G13.out.alloc _).alloc _)).mono ?_);rintro e w13 ⟨rfl,m13,rfl⟩;rw [D13.out])
  |(go_at_call 116;(with_reducible refine (vFi s2 t2 f14 f14 _ (((H14.out.alloc _).alloc _).drew (vAy _ _)) (((G14.out.alloc _).alloc _).drew (vAy _ _))).mono ?_);rintro e w14 ⟨rfl,m14,rfl⟩;rw [D14.out])
  |(go_at_call 116;(with_reducible refine (vFi s3 t3 f15 f15 _ (((H15.out.alloc _).alloc _).drew (vAy _ _)) (((G15.out.alloc _).alloc _).drew (vAy _ _))).mono ?_);rintro e w15 ⟨rfl,m15,rfl⟩;rw [D15.out])
  |(go_at_call 117;(with_reducible refine (eq_uint32 s4 t4 f16 g16 _ (((H16.out.alloc _).alloc _).drew (vAy _ _)) (((G16.out.alloc _).alloc _).drew (vAy _ _))).mono ?_);rintro e w16 ⟨rfl,m16,rfl⟩;rw [D16.out]))
 go_ret;exact ⟨rfl,vAd (vAi _ _ _) _⟩
theorem cs_17 (f0 f1:Int) (f2 f3 f4 f5 f6:List UInt8) (f7 f8 f9 f10 f11 f12:Int) (f13 f14 f15 f16:List Int) (s1 s2 s3 s4 t1 t2 t3 t4:SlV) (w:World) (h13:ISl w .i64 s1.A s1.n s1.c f13) (k13:ISl w .i64 t1.A t1.n t1.c f13) (h14:ISl w .i64 s2.A s2.n s2.c f14) (k14:ISl w .i64 t2.A t2.n t2.c f14) (h15:ISl w .i64 s3.A s3.n s3.c f15) (k15:ISl w .i64 t3.A t3.n t3.c f15) (h16:ISl w .u32 s4.A s4.n s4.c f16) (k16:ISl w .u32 t4.A t4.n t4.c f16):
 Calls Tryz.prog 37 #[lF f0 f1 f2 f3 f4 f5 f6 f7 f8 f9 f10 f11 f12 s1 s2 s3 s4,lF f0 f1 f2 f3 f4 f5 f6 f7 f8 f9 f10 f11 f12 t1 t2 t3 t4] w fun e w'=>e=.returned (.bool true)∧Below w.heap.size w w':=by
 have H13:=hid h13;have G13:=hid k13;have H14:=hid h14;have G14:=hid k14;have H15:=hid h15;have G15:=hid k15;have H16:=hid h16;have G16:=hid k16;clear h13 k13 h14 k14 h15 k15 h16 k16;have d2:(f2 == f2)=true:=beq_self_eq_true _;have d3:(f3 == f3)=true:=beq_self_eq_true _;have d4:(f4 == f4)=true:=beq_self_eq_true _;have d5:(f5 == f5)=true:=beq_self_eq_true _;have d6:(f6 == f6)=true:=beq_self_eq_true _
 have D13:=hid (show (f13 == f13)=true from beq_self_eq_true _);have D14:=hid (show (f14 == f14)=true from beq_self_eq_true _);have D15:=hid (show (f15 == f15)=true from beq_self_eq_true _);have D16:=hid (show (f16 == f16)=true from beq_self_eq_true _);unfold lF
 go_enter Tryz.func37,Tryz.ntmps37
 go_wp2_with (first
  |(go_at_call 116;(with_reducible refine (vFi s1 t1 f13 f13 _ ((H13.out.alloc _).alloc _) ((G13.out.alloc _).alloc _)).mono ?_);rintro e w13 ⟨rfl,m13,rfl⟩;rw [D13.out])
  |(go_at_call 116;(with_reducible refine (vFi s2 t2 f14 f14 _ (((H14.out.alloc _).alloc _).drew (vAy _ _)) (((G14.out.alloc _).alloc _).drew (vAy _ _))).mono ?_);rintro e w14 ⟨rfl,m14,rfl⟩;rw [D14.out])
  |(go_at_call 116;(with_reducible refine (vFi s3 t3 f15 f15 _ (((H15.out.alloc _).alloc _).drew (vAy _ _)) (((G15.out.alloc _).alloc _).drew (vAy _ _))).mono ?_);rintro e w15 ⟨rfl,m15,rfl⟩;rw [D15.out])
  |(go_at_call 117;(with_reducible refine (eq_uint32 s4 t4 f16 f16 _ (((H16.out.alloc _).alloc _).drew (vAy _ _)) (((G16.out.alloc _).alloc _).drew (vAy _ _))).mono ?_);rintro e w16 ⟨rfl,m16,rfl⟩;rw [D16.out]))
 go_ret;exact ⟨rfl,vAd (vAi _ _ _) _⟩
theorem vBr {L M:LV} (h:L≠M):vFm L M=false:=by
 cases e:vFm L M with
 |false=>rfl
 |true=>exact absurd ((vFv L M).1 e) h
theorem csame_any (L M:LV) (s1 s2 s3 s4 t1 t2 t3 t4:SlV) (w:World) (h:LRead w L s1 s2 s3 s4) (g:LRead w M t1 t2 t3 t4):
 Calls Tryz.prog 37 #[vAw L s1 s2 s3 s4,vAw M t1 t2 t3 t4] w fun e w'=>e=.returned (.bool (vFm L M))∧Below w.heap.size w w':=by
 obtain ⟨f0,f1,f2,f3,f4,f5,f6,f7,f8,f9,f10,f11,f12,f13,f14,f15,f16⟩:=L;obtain ⟨g0,g1,g2,g3,g4,g5,g6,g7,g8,g9,g10,g11,g12,g13,g14,g15,g16⟩:=M;obtain ⟨h13,h14,h15,h16⟩:=h;obtain ⟨k13,k14,k15,k16⟩:=g;dsimp only at h13 h14 h15 h16 k13 k14 k15 k16
 by_cases e0:f0=g0
 rotate_left
 · rw [vBr (fun e=>e0 (congrArg LV.row e))]
   exact cs_0 f0 g0 f1 g1 f2 g2 f3 g3 f4 g4 f5 g5 f6 g6 f7 g7 f8 g8 f9 g9 f10 g10 f11 g11 f12 g12 s1 s2 s3 s4 t1 t2 t3 t4 w e0
 subst e0
 by_cases e1:f1=g1
 rotate_left
 · rw [vBr (fun e=>e1 (congrArg LV.kind e))]
   exact cs_1 f0 f1 g1 f2 g2 f3 g3 f4 g4 f5 g5 f6 g6 f7 g7 f8 g8 f9 g9 f10 g10 f11 g11 f12 g12 s1 s2 s3 s4 t1 t2 t3 t4 w e1
 subst e1
 by_cases e2:f2=g2
 rotate_left
 · rw [vBr (fun e=>e2 (congrArg LV.dev e))]
   exact cs_2 f0 f1 f2 g2 f3 g3 f4 g4 f5 g5 f6 g6 f7 g7 f8 g8 f9 g9 f10 g10 f11 g11 f12 g12 s1 s2 s3 s4 t1 t2 t3 t4 w e2
 subst e2
 by_cases e3:f3=g3
 rotate_left
 · rw [vBr (fun e=>e3 (congrArg LV.port e))]
   exact cs_3 f0 f1 f2 f3 g3 f4 g4 f5 g5 f6 g6 f7 g7 f8 g8 f9 g9 f10 g10 f11 g11 f12 g12 s1 s2 s3 s4 t1 t2 t3 t4 w e3
 subst e3
 by_cases e4:f4=g4
 rotate_left
 · rw [vBr (fun e=>e4 (congrArg LV.peer e))]
   exact cs_4 f0 f1 f2 f3 f4 g4 f5 g5 f6 g6 f7 g7 f8 g8 f9 g9 f10 g10 f11 g11 f12 g12 s1 s2 s3 s4 t1 t2 t3 t4 w e4
 subst e4
 by_cases e5:f5=g5
 rotate_left
 · rw [vBr (fun e=>e5 (congrArg LV.far e))]
   exact cs_5 f0 f1 f2 f3 f4 f5 g5 f6 g6 f7 g7 f8 g8 f9 g9 f10 g10 f11 g11 f12 g12 s1 s2 s3 s4 t1 t2 t3 t4 w e5
 subst e5
 by_cases e6:f6=g6
 rotate_left
 · rw [vBr (fun e=>e6 (congrArg LV.name e))]
   exact cs_6 f0 f1 f2 f3 f4 f5 f6 g6 f7 g7 f8 g8 f9 g9 f10 g10 f11 g11 f12 g12 s1 s2 s3 s4 t1 t2 t3 t4 w e6
 subst e6
 by_cases e7:f7=g7
 rotate_left
 · rw [vBr (fun e=>e7 (congrArg LV.mac e))]
   exact cs_7 f0 f1 f2 f3 f4 f5 f6 f7 g7 f8 g8 f9 g9 f10 g10 f11 g11 f12 g12 s1 s2 s3 s4 t1 t2 t3 t4 w e7
 subst e7
 by_cases e8:f8=g8
 rotate_left
 · rw [vBr (fun e=>e8 (congrArg LV.addr e))]
   exact cs_8 f0 f1 f2 f3 f4 f5 f6 f7 f8 g8 f9 g9 f10 g10 f11 g11 f12 g12 s1 s2 s3 s4 t1 t2 t3 t4 w e8
 subst e8
 by_cases e9:f9=g9
 rotate_left
 · rw [vBr (fun e=>e9 (congrArg LV.bits e))]
   exact cs_9 f0 f1 f2 f3 f4 f5 f6 f7 f8 f9 g9 f10 g10 f11 g11 f12 g12 s1 s2 s3 s4 t1 t2 t3 t4 w e9
 subst e9
 by_cases e10:f10=g10
 rotate_left
 · rw [vBr (fun e=>e10 (congrArg LV.vlan e))]
   exact cs_10 f0 f1 f2 f3 f4 f5 f6 f7 f8 f9 f10 g10 f11 g11 f12 g12 s1 s2 s3 s4 t1 t2 t3 t4 w e10
 subst e10
 by_cases e11:f11=g11
 rotate_left
 · rw [vBr (fun e=>e11 (congrArg LV.num e))]
   exact cs_11 f0 f1 f2 f3 f4 f5 f6 f7 f8 f9 f10 f11 g11 f12 g12 s1 s2 s3 s4 t1 t2 t3 t4 w e11
 subst e11
 by_cases e12:f12=g12
 rotate_left
 · rw [vBr (fun e=>e12 (congrArg LV.cost e))]
   exact cs_12 f0 f1 f2 f3 f4 f5 f6 f7 f8 f9 f10 f11 f12 g12 s1 s2 s3 s4 t1 t2 t3 t4 w e12
 subst e12
 by_cases e13:f13=g13
 rotate_left
 · rw [vBr (fun e=>e13 (congrArg LV.tagged e))]
   exact cs_13 f0 f1 f2 f3 f4 f5 f6 f7 f8 f9 f10 f11 f12 f13 g13 s1 s2 s3 s4 t1 t2 t3 t4 w h13 k13 e13
 subst e13
 by_cases e14:f14=g14
 rotate_left
 · rw [vBr (fun e=>e14 (congrArg LV.imports e))]
   exact cs_14 f0 f1 f2 f3 f4 f5 f6 f7 f8 f9 f10 f11 f12 f13 f14 g14 s1 s2 s3 s4 t1 t2 t3 t4 w h13 k13 h14 k14 e14
 subst e14
 by_cases e15:f15=g15
 rotate_left
 · rw [vBr (fun e=>e15 (congrArg LV.exports e))]
   exact cs_15 f0 f1 f2 f3 f4 f5 f6 f7 f8 f9 f10 f11 f12 f13 f14 f15 g15 s1 s2 s3 s4 t1 t2 t3 t4 w h13 k13 h14 k14 h15 k15 e15
 subst e15
 by_cases e16:f16=g16
 rotate_left
 · rw [vBr (fun e=>e16 (congrArg LV.addrs e))]
   exact cs_16 f0 f1 f2 f3 f4 f5 f6 f7 f8 f9 f10 f11 f12 f13 f14 f15 f16 g16 s1 s2 s3 s4 t1 t2 t3 t4 w h13 k13 h14 k14 h15 k15 h16 k16 e16
 subst e16;rw [vGe];exact cs_17 f0 f1 f2 f3 f4 f5 f6 f7 f8 f9 f10 f11 f12 f13 f14 f15 f16 s1 s2 s3 s4 t1 t2 t3 t4 w h13 k13 h14 k14 h15 k15 h16 k16
end Go.Proofs.YtgnkpbgaoiaefaaGreat
