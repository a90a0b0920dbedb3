import Derived.Test.YtgmflecelnefcaaGreatOp11
import Derived.RegionTactic
set_option maxRecDepth 100000
set_option maxHeartbeats 40000000
namespace Go.Proofs.YtgmflecelnefcaaGreat
open Go.RowKit
theorem cs_0 (f0 g0 f1 g1:Int) (f2 g2 f3 g3 f4 g4 f5 g5 f6 g6:List UInt8) (f7 g7 f8 g8 f9 g9 f10 g10 f11 g11 f12 g12:Int) (s1 s2 s3 s4 t1 t2 t3 t4:SlV) (w:World) (e:f0≠g0):
 Calls Tryz.prog 140 #[lF f0 f1 f2 f3 f4 f5 f6 f7 f8 f9 f10 f11 f12 s1 s2 s3 s4,lF g0 g1 g2 g3 g4 g5 g6 g7 g8 g9 g10 g11 g12 t1 t2 t3 t4] w fun e w'=>e=.returned (.bool false)∧Below w.heap.size w w':=by
 have d0:(f0 == g0)=false:=by rw [beq_eq_false_iff_ne];exact e
 clear e;unfold lF
 go_enter Tryz.func140,Tryz.ntmps140
 go_wp2;go_ret;exact ⟨rfl,vAj _ _ _⟩
theorem cs_1 (f0 f1 g1:Int) (f2 g2 f3 g3 f4 g4 f5 g5 f6 g6:List UInt8) (f7 g7 f8 g8 f9 g9 f10 g10 f11 g11 f12 g12:Int) (s1 s2 s3 s4 t1 t2 t3 t4:SlV) (w:World) (e:f1≠g1):
 Calls Tryz.prog 140 #[lF f0 f1 f2 f3 f4 f5 f6 f7 f8 f9 f10 f11 f12 s1 s2 s3 s4,lF f0 g1 g2 g3 g4 g5 g6 g7 g8 g9 g10 g11 g12 t1 t2 t3 t4] w fun e w'=>e=.returned (.bool false)∧Below w.heap.size w w':=by
 have d1:(f1 == g1)=false:=by rw [beq_eq_false_iff_ne];exact e
 clear e;unfold lF
 go_enter Tryz.func140,Tryz.ntmps140
 go_wp2;go_ret;exact ⟨rfl,vAj _ _ _⟩
theorem cs_2 (f0 f1:Int) (f2 g2 f3 g3 f4 g4 f5 g5 f6 g6:List UInt8) (f7 g7 f8 g8 f9 g9 f10 g10 f11 g11 f12 g12:Int) (s1 s2 s3 s4 t1 t2 t3 t4:SlV) (w:World) (e:f2≠g2):
 Calls Tryz.prog 140 #[lF f0 f1 f2 f3 f4 f5 f6 f7 f8 f9 f10 f11 f12 s1 s2 s3 s4,lF f0 f1 g2 g3 g4 g5 g6 g7 g8 g9 g10 g11 g12 t1 t2 t3 t4] w fun e w'=>e=.returned (.bool false)∧Below w.heap.size w w':=by
 have d2:(f2 == g2)=false:=by rw [beq_eq_false_iff_ne];exact e
 clear e;unfold lF
 go_enter Tryz.func140,Tryz.ntmps140
 go_wp2;go_ret;exact ⟨rfl,vAj _ _ _⟩
theorem cs_3 (f0 f1:Int) (f2 f3 g3 f4 g4 f5 g5 f6 g6:List UInt8) (f7 g7 f8 g8 f9 g9 f10 g10 f11 g11 f12 g12:Int) (s1 s2 s3 s4 t1 t2 t3 t4:SlV) (w:World) (e:f3≠g3):
 Calls Tryz.prog 140 #[lF f0 f1 f2 f3 f4 f5 f6 f7 f8 f9 f10 f11 f12 s1 s2 s3 s4,lF f0 f1 f2 g3 g4 g5 g6 g7 g8 g9 g10 g11 g12 t1 t2 t3 t4] w fun e w'=>e=.returned (.bool false)∧Below w.heap.size w w':=by
 have d2:(f2 == f2)=true:=beq_self_eq_true _
 have d3:(f3 == g3)=false:=by rw [beq_eq_false_iff_ne];exact e
 clear e;unfold lF
 go_enter Tryz.func140,Tryz.ntmps140
 go_wp2;go_ret;exact ⟨rfl,vAj _ _ _⟩
theorem cs_4 (f0 f1:Int) (f2 f3 f4 g4 f5 g5 f6 g6:List UInt8) (f7 g7 f8 g8 f9 g9 f10 g10 f11 g11 f12 g12:Int) (s1 s2 s3 s4 t1 t2 t3 t4:SlV) (w:World) (e:f4≠g4):
 Calls Tryz.prog 140 #[lF f0 f1 f2 f3 f4 f5 f6 f7 f8 f9 f10 f11 f12 s1 s2 s3 s4,lF f0 f1 f2 f3 g4 g5 g6 g7 g8 g9 g10 g11 g12 t1 t2 t3 t4] w fun e w'=>e=.returned (.bool false)∧Below w.heap.size w w':=by
 have d2:(f2 == f2)=true:=beq_self_eq_true _;have d3:(f3 == f3)=true:=beq_self_eq_true _
 have d4:(f4 == g4)=false:=by rw [beq_eq_false_iff_ne];exact e
 clear e;unfold lF
 go_enter Tryz.func140,Tryz.ntmps140
 go_wp2;go_ret;exact ⟨rfl,vAj _ _ _⟩
theorem cs_5 (f0 f1:Int) (f2 f3 f4 f5 g5 f6 g6:List UInt8) (f7 g7 f8 g8 f9 g9 f10 g10 f11 g11 f12 g12:Int) (s1 s2 s3 s4 t1 t2 t3 t4:SlV) (w:World) (e:f5≠g5):
 Calls Tryz.prog 140 #[lF f0 f1 f2 f3 f4 f5 f6 f7 f8 f9 f10 f11 f12 s1 s2 s3 s4,lF f0 f1 f2 f3 f4 g5 g6 g7 g8 g9 g10 g11 g12 t1 t2 t3 t4] w fun e w'=>e=.returned (.bool false)∧Below w.heap.size w w':=by
 have d2:(f2 == f2)=true:=beq_self_eq_true _;have d3:(f3 == f3)=true:=beq_self_eq_true _;have d4:(f4 == f4)=true:=beq_self_eq_true _
 have d5:(f5 == g5)=false:=by rw [beq_eq_false_iff_ne];exact e
 clear e;unfold lF
 go_enter Tryz.func140,Tryz.ntmps140
 go_wp2;go_ret;exact ⟨rfl,vAj _ _ _⟩
theorem cs_6 (f0 f1:Int) (f2 f3 f4 f5 f6 g6:List UInt8) (f7 g7 f8 g8 f9 g9 f10 g10 f11 g11 f12 g12:Int) (s1 s2 s3 s4 t1 t2 t3 t4:SlV) (w:World) (e:f6≠g6):
 Calls Tryz.prog 140 #[lF f0 f1 f2 f3 f4 f5 f6 f7 f8 f9 f10 f11 f12 s1 s2 s3 s4,lF f0 f1 f2 f3 f4 f5 g6 g7 g8 g9 g10 g11 g12 t1 t2 t3 t4] w fun e w'=>e=.returned (.bool false)∧Below w.heap.size w w':=by
 have d2:(f2 == f2)=true:=beq_self_eq_true _;have d3:(f3 == f3)=true:=beq_self_eq_true _;have d4:(f4 == f4)=true:=beq_self_eq_true _;have d5:(f5 == f5)=true:=beq_self_eq_true _
 have d6:(f6 == g6)=false:=by rw [beq_eq_false_iff_ne];exact e
 clear e;unfold lF
 go_enter Tryz.func140,Tryz.ntmps140
 go_wp2;go_ret;exact ⟨rfl,vAj _ _ _⟩
end Go.Proofs.YtgmflecelnefcaaGreat
