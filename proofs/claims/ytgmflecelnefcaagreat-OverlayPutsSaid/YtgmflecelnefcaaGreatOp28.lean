import Derived.Test.YtgmflecelnefcaaGreatOp26
import Derived.Test.YtgmflecelnefcaaGreatOp19
import Derived.RegionTactic
set_option maxRecDepth 100000
set_option maxHeartbeats 40000000
namespace Go.Proofs.YtgmflecelnefcaaGreat
open Go.RowKit
theorem rs_7 (f0 f1:Int) (f2 f3 f4 f5 f6:List UInt8) (f7 g7 f8 g8 f9 g9 f10 g10 f11 g11 f12 g12:Int) (s1 s2 s3 s4 t1 t2 t3 t4:SlV) (w:World) (e:f7≠g7):
 Calls Tryz.prog 180 #[lF f0 f1 f2 f3 f4 f5 f6 f7 f8 f9 f10 f11 f12 s1 s2 s3 s4,lF f0 f1 f2 f3 f4 f5 f6 g7 g8 g9 g10 g11 g12 t1 t2 t3 t4] w fun e w'=>e=.returned (.bool false)∧Below w.heap.size w w':=by
 have d2:(f2 == f2)=true:=beq_self_eq_true _;have d3:(f3 == f3)=true:=beq_self_eq_true _;have d4:(f4 == f4)=true:=beq_self_eq_true _;have d5:(f5 == f5)=true:=beq_self_eq_true _;have d6:(f6 == f6)=true:=beq_self_eq_true _
 have d7:(f7 == g7)=false:=by rw [beq_eq_false_iff_ne];exact e
 clear e;unfold lF
 go_enter Tryz.func180,Tryz.ntmps180
 go_wp2;go_ret;exact ⟨rfl,vAj _ _ _⟩
theorem rs_8 (f0 f1:Int) (f2 f3 f4 f5 f6:List UInt8) (f7 f8 g8 f9 g9 f10 g10 f11 g11 f12 g12:Int) (s1 s2 s3 s4 t1 t2 t3 t4:SlV) (w:World) (e:f8≠g8):
 Calls Tryz.prog 180 #[lF f0 f1 f2 f3 f4 f5 f6 f7 f8 f9 f10 f11 f12 s1 s2 s3 s4,lF f0 f1 f2 f3 f4 f5 f6 f7 g8 g9 g10 g11 g12 t1 t2 t3 t4] w fun e w'=>e=.returned (.bool false)∧Below w.heap.size w w':=by
 have d2:(f2 == f2)=true:=beq_self_eq_true _;have d3:(f3 == f3)=true:=beq_self_eq_true _;have d4:(f4 == f4)=true:=beq_self_eq_true _;have d5:(f5 == f5)=true:=beq_self_eq_true _;have d6:(f6 == f6)=true:=beq_self_eq_true _
 have d8:(f8 == g8)=false:=by rw [beq_eq_false_iff_ne];exact e
 clear e;unfold lF
 go_enter Tryz.func180,Tryz.ntmps180
 go_wp2;go_ret;exact ⟨rfl,vAj _ _ _⟩
theorem rs_9 (f0 f1:Int) (f2 f3 f4 f5 f6:List UInt8) (f7 f8 f9 g9 f10 g10 f11 g11 f12 g12:Int) (s1 s2 s3 s4 t1 t2 t3 t4:SlV) (w:World) (e:f9≠g9):
 Calls Tryz.prog 180 #[lF f0 f1 f2 f3 f4 f5 f6 f7 f8 f9 f10 f11 f12 s1 s2 s3 s4,lF f0 f1 f2 f3 f4 f5 f6 f7 f8 g9 g10 g11 g12 t1 t2 t3 t4] w fun e w'=>e=.returned (.bool false)∧Below w.heap.size w w':=by
 have d2:(f2 == f2)=true:=beq_self_eq_true _;have d3:(f3 == f3)=true:=beq_self_eq_true _;have d4:(f4 == f4)=true:=beq_self_eq_true _;have d5:(f5 == f5)=true:=beq_self_eq_true _;have d6:(f6 == f6)=true:=beq_self_eq_true _
 have d9:(f9 == g9)=false:=by rw [beq_eq_false_iff_ne];exact e
 clear e;unfold lF
 go_enter Tryz.func180,Tryz.ntmps180
 go_wp2;go_ret;exact ⟨rfl,vAj _ _ _⟩
theorem rs_10 (f0 f1:Int) (f2 f3 f4 f5 f6:List UInt8) (f7 f8 f9 f10 g10 f11 g11 f12 g12:Int) (s1 s2 s3 s4 t1 t2 t3 t4:SlV) (w:World) (e:f10≠g10):
 Calls Tryz.prog 180 #[lF f0 f1 f2 f3 f4 f5 f6 f7 f8 f9 f10 f11 f12 s1 s2 s3 s4,lF f0 f1 f2 f3 f4 f5 f6 f7 f8 f9 g10 g11 g12 t1 t2 t3 t4] w fun e w'=>e=.returned (.bool false)∧Below w.heap.size w w':=by
 have d2:(f2 == f2)=true:=beq_self_eq_true _;have d3:(f3 == f3)=true:=beq_self_eq_true _;have d4:(f4 == f4)=true:=beq_self_eq_true _;have d5:(f5 == f5)=true:=beq_self_eq_true _;have d6:(f6 == f6)=true:=beq_self_eq_true _
 have d10:(f10 == g10)=false:=by rw [beq_eq_false_iff_ne];exact e
 clear e;unfold lF
 go_enter Tryz.func180,Tryz.ntmps180
 go_wp2;go_ret;exact ⟨rfl,vAj _ _ _⟩
theorem rs_11 (f0 f1:Int) (f2 f3 f4 f5 f6:List UInt8) (f7 f8 f9 f10 f11 g11 f12 g12:Int) (s1 s2 s3 s4 t1 t2 t3 t4:SlV) (w:World) (e:f11≠g11):
 Calls Tryz.prog 180 #[lF f0 f1 f2 f3 f4 f5 f6 f7 f8 f9 f10 f11 f12 s1 s2 s3 s4,lF f0 f1 f2 f3 f4 f5 f6 f7 f8 f9 f10 g11 g12 t1 t2 t3 t4] w fun e w'=>e=.returned (.bool false)∧Below w.heap.size w w':=by
 have d2:(f2 == f2)=true:=beq_self_eq_true _;have d3:(f3 == f3)=true:=beq_self_eq_true _;have d4:(f4 == f4)=true:=beq_self_eq_true _;have d5:(f5 == f5)=true:=beq_self_eq_true _;have d6:(f6 == f6)=true:=beq_self_eq_true _
 have d11:(f11 == g11)=false:=by rw [beq_eq_false_iff_ne];exact e
 clear e;unfold lF
 go_enter Tryz.func180,Tryz.ntmps180
 go_wp2;go_ret;exact ⟨rfl,vAj _ _ _⟩
theorem rs_12 (f0 f1:Int) (f2 f3 f4 f5 f6:List UInt8) (f7 f8 f9 f10 f11 f12 g12:Int) (s1 s2 s3 s4 t1 t2 t3 t4:SlV) (w:World) (e:f12≠g12):
 Calls Tryz.prog 180 #[lF f0 f1 f2 f3 f4 f5 f6 f7 f8 f9 f10 f11 f12 s1 s2 s3 s4,lF f0 f1 f2 f3 f4 f5 f6 f7 f8 f9 f10 f11 g12 t1 t2 t3 t4] w fun e w'=>e=.returned (.bool false)∧Below w.heap.size w w':=by
 have d2:(f2 == f2)=true:=beq_self_eq_true _;have d3:(f3 == f3)=true:=beq_self_eq_true _;have d4:(f4 == f4)=true:=beq_self_eq_true _;have d5:(f5 == f5)=true:=beq_self_eq_true _;have d6:(f6 == f6)=true:=beq_self_eq_true _
 have d12:(f12 == g12)=false:=by rw [beq_eq_false_iff_ne];exact e
 clear e;unfold lF
 go_enter Tryz.func180,Tryz.ntmps180
 go_wp2;go_ret;exact ⟨rfl,vAj _ _ _⟩
theorem rs_13 (f0 f1:Int) (f2 f3 f4 f5 f6:List UInt8) (f7 f8 f9 f10 f11 f12:Int) (f13 g13:List Int) (s1 s2 s3 s4 t1 t2 t3 t4:SlV) (w:World) (h13:ISl w .i64 s1.A s1.n s1.c f13) (k13:ISl w .i64 t1.A t1.n t1.c g13) (e:f13≠g13):
 Calls Tryz.prog 180 #[lF f0 f1 f2 f3 f4 f5 f6 f7 f8 f9 f10 f11 f12 s1 s2 s3 s4,lF f0 f1 f2 f3 f4 f5 f6 f7 f8 f9 f10 f11 f12 t1 t2 t3 t4] w fun e w'=>e=.returned (.bool false)∧Below w.heap.size w w':=by
 have H13:=Lib.hid h13;have G13:=Lib.hid k13;clear h13 k13;have d2:(f2 == f2)=true:=beq_self_eq_true _;have d3:(f3 == f3)=true:=beq_self_eq_true _;have d4:(f4 == f4)=true:=beq_self_eq_true _;have d5:(f5 == f5)=true:=beq_self_eq_true _;have d6:(f6 == f6)=true:=beq_self_eq_true _;have D13:=Lib.hid (show (f13 == g13)=false by rw [beq_eq_false_iff_ne];exact e);clear e;unfold lF
 go_enter Tryz.func180,Tryz.ntmps180
 go_wp2_with (go_at_call 34;(with_reducible refine (vDg s1 t1 f13 g13 _ ((H13.out.alloc _).alloc _) ((G13.out.alloc _).alloc _)).mono ?_);rintro e w13 ⟨rfl,m13,rfl⟩;rw [D13.out]);go_ret;exact ⟨rfl,vAd (vAj _ _ _) _⟩
end Go.Proofs.YtgmflecelnefcaaGreat
