/- Are two lines alike: the walk of stmt.Same, by the first place where they differ (made by mk-stsamec.py). -/
import Derived.Test.YtagbfklcbekceaaGreatDoorStLib
import Derived.Test.YtagbfklcbekceaaGreatDoorStRg
import Derived.RegionTactic
namespace Go.Proofs.YtagbfklcbekceaaGreatDoor
open Go.RowKit

theorem drew_drewN3 (w : World) (m : Nat) : Drew w (w.drewN m) := ⟨m, rfl⟩
set_option maxRecDepth 100000 in
set_option maxHeartbeats 2000000 in
theorem cs_0 (f0 : Int) (g0 : Int) (f1 : Int) (g1 : Int) (f2 : List UInt8) (g2 : List UInt8) (f3 : List UInt8) (g3 : List UInt8) (f4 : List UInt8) (g4 : List UInt8) (f5 : List UInt8) (g5 : List UInt8) (f6 : List UInt8) (g6 : List UInt8) (f7 : Int) (g7 : Int) (f8 : Int) (g8 : Int) (f9 : Int) (g9 : Int) (f10 : Int) (g10 : Int) (f11 : Int) (g11 : Int) (f12 : Int) (g12 : Int) (s1 s2 s3 s4 t1 t2 t3 t4 : SlV) (w : World) (e : f0 ≠ g0) :
    Calls Tryz.prog 18 #[.agg #[.int .i64 f0, .int .i64 f1, .string (str f2), .string (str f3), .string (str f4), .string (str f5), .string (str f6), .int .u64 f7, .int .u32 f8, .int .i64 f9, .int .i64 f10, .int .i64 f11, .int .i64 f12, .slice s1.A s1.n s1.c, .slice s2.A s2.n s2.c, .slice s3.A s3.n s3.c, .slice s4.A s4.n s4.c], .agg #[.int .i64 g0, .int .i64 g1, .string (str g2), .string (str g3), .string (str g4), .string (str g5), .string (str g6), .int .u64 g7, .int .u32 g8, .int .i64 g9, .int .i64 g10, .int .i64 g11, .int .i64 g12, .slice t1.A t1.n t1.c, .slice t2.A t2.n t2.c, .slice t3.A t3.n t3.c, .slice t4.A t4.n t4.c]] w fun e w' => e = .returned (.bool false) ∧ Below w.heap.size w w' := by
  have d0 : (f0 == g0) = false := by rw [beq_eq_false_iff_ne]; exact e
  clear e
  go_enter Tryz.func18, Tryz.ntmps18
  go_wp2
  go_ret
  exact ⟨rfl, two_alloc _ _ _⟩
set_option maxRecDepth 100000 in
set_option maxHeartbeats 2000000 in
theorem cs_1 (f0 : Int) (f1 : Int) (g1 : Int) (f2 : List UInt8) (g2 : List UInt8) (f3 : List UInt8) (g3 : List UInt8) (f4 : List UInt8) (g4 : List UInt8) (f5 : List UInt8) (g5 : List UInt8) (f6 : List UInt8) (g6 : List UInt8) (f7 : Int) (g7 : Int) (f8 : Int) (g8 : Int) (f9 : Int) (g9 : Int) (f10 : Int) (g10 : Int) (f11 : Int) (g11 : Int) (f12 : Int) (g12 : Int) (s1 s2 s3 s4 t1 t2 t3 t4 : SlV) (w : World) (e : f1 ≠ g1) :
    Calls Tryz.prog 18 #[.agg #[.int .i64 f0, .int .i64 f1, .string (str f2), .string (str f3), .string (str f4), .string (str f5), .string (str f6), .int .u64 f7, .int .u32 f8, .int .i64 f9, .int .i64 f10, .int .i64 f11, .int .i64 f12, .slice s1.A s1.n s1.c, .slice s2.A s2.n s2.c, .slice s3.A s3.n s3.c, .slice s4.A s4.n s4.c], .agg #[.int .i64 f0, .int .i64 g1, .string (str g2), .string (str g3), .string (str g4), .string (str g5), .string (str g6), .int .u64 g7, .int .u32 g8, .int .i64 g9, .int .i64 g10, .int .i64 g11, .int .i64 g12, .slice t1.A t1.n t1.c, .slice t2.A t2.n t2.c, .slice t3.A t3.n t3.c, .slice t4.A t4.n t4.c]] w fun e w' => e = .returned (.bool false) ∧ Below w.heap.size w w' := by
  have d1 : (f1 == g1) = false := by rw [beq_eq_false_iff_ne]; exact e
  clear e
  go_enter Tryz.func18, Tryz.ntmps18
  go_wp2
  go_ret
  exact ⟨rfl, two_alloc _ _ _⟩
set_option maxRecDepth 100000 in
set_option maxHeartbeats 2000000 in
theorem cs_2 (f0 : Int) (f1 : Int) (f2 : List UInt8) (g2 : List UInt8) (f3 : List UInt8) (g3 : List UInt8) (f4 : List UInt8) (g4 : List UInt8) (f5 : List UInt8) (g5 : List UInt8) (f6 : List UInt8) (g6 : List UInt8) (f7 : Int) (g7 : Int) (f8 : Int) (g8 : Int) (f9 : Int) (g9 : Int) (f10 : Int) (g10 : Int) (f11 : Int) (g11 : Int) (f12 : Int) (g12 : Int) (s1 s2 s3 s4 t1 t2 t3 t4 : SlV) (w : World) (e : f2 ≠ g2) :
    Calls Tryz.prog 18 #[.agg #[.int .i64 f0, .int .i64 f1, .string (str f2), .string (str f3), .string (str f4), .string (str f5), .string (str f6), .int .u64 f7, .int .u32 f8, .int .i64 f9, .int .i64 f10, .int .i64 f11, .int .i64 f12, .slice s1.A s1.n s1.c, .slice s2.A s2.n s2.c, .slice s3.A s3.n s3.c, .slice s4.A s4.n s4.c], .agg #[.int .i64 f0, .int .i64 f1, .string (str g2), .string (str g3), .string (str g4), .string (str g5), .string (str g6), .int .u64 g7, .int .u32 g8, .int .i64 g9, .int .i64 g10, .int .i64 g11, .int .i64 g12, .slice t1.A t1.n t1.c, .slice t2.A t2.n t2.c, .slice t3.A t3.n t3.c, .slice t4.A t4.n t4.c]] w fun e w' => e = .returned (.bool false) ∧ Below w.heap.size w w' := by
  have d2 : (f2 == g2) = false := by rw [beq_eq_false_iff_ne]; exact e
  clear e
  go_enter Tryz.func18, Tryz.ntmps18
  go_wp2
  go_ret
  exact ⟨rfl, two_alloc _ _ _⟩
set_option maxRecDepth 100000 in
set_option maxHeartbeats 2000000 in
theorem cs_3 (f0 : Int) (f1 : Int) (f2 : List UInt8) (f3 : List UInt8) (g3 : List UInt8) (f4 : List UInt8) (g4 : List UInt8) (f5 : List UInt8) (g5 : List UInt8) (f6 : List UInt8) (g6 : List UInt8) (f7 : Int) (g7 : Int) (f8 : Int) (g8 : Int) (f9 : Int) (g9 : Int) (f10 : Int) (g10 : Int) (f11 : Int) (g11 : Int) (f12 : Int) (g12 : Int) (s1 s2 s3 s4 t1 t2 t3 t4 : SlV) (w : World) (e : f3 ≠ g3) :
    Calls Tryz.prog 18 #[.agg #[.int .i64 f0, .int .i64 f1, .string (str f2), .string (str f3), .string (str f4), .string (str f5), .string (str f6), .int .u64 f7, .int .u32 f8, .int .i64 f9, .int .i64 f10, .int .i64 f11, .int .i64 f12, .slice s1.A s1.n s1.c, .slice s2.A s2.n s2.c, .slice s3.A s3.n s3.c, .slice s4.A s4.n s4.c], .agg #[.int .i64 f0, .int .i64 f1, .string (str f2), .string (str g3), .string (str g4), .string (str g5), .string (str g6), .int .u64 g7, .int .u32 g8, .int .i64 g9, .int .i64 g10, .int .i64 g11, .int .i64 g12, .slice t1.A t1.n t1.c, .slice t2.A t2.n t2.c, .slice t3.A t3.n t3.c, .slice t4.A t4.n t4.c]] w fun e w' => e = .returned (.bool false) ∧ Below w.heap.size w w' := by
  have d2 : (f2 == f2) = true := beq_self_eq_true _
  have d3 : (f3 == g3) = false := by rw [beq_eq_false_iff_ne]; exact e
  clear e
  go_enter Tryz.func18, Tryz.ntmps18
  go_wp2
  go_ret
  exact ⟨rfl, two_alloc _ _ _⟩
set_option maxRecDepth 100000 in
set_option maxHeartbeats 2000000 in
theorem cs_4 (f0 : Int) (f1 : Int) (f2 : List UInt8) (f3 : List UInt8) (f4 : List UInt8) (g4 : List UInt8) (f5 : List UInt8) (g5 : List UInt8) (f6 : List UInt8) (g6 : List UInt8) (f7 : Int) (g7 : Int) (f8 : Int) (g8 : Int) (f9 : Int) (g9 : Int) (f10 : Int) (g10 : Int) (f11 : Int) (g11 : Int) (f12 : Int) (g12 : Int) (s1 s2 s3 s4 t1 t2 t3 t4 : SlV) (w : World) (e : f4 ≠ g4) :
    Calls Tryz.prog 18 #[.agg #[.int .i64 f0, .int .i64 f1, .string (str f2), .string (str f3), .string (str f4), .string (str f5), .string (str f6), .int .u64 f7, .int .u32 f8, .int .i64 f9, .int .i64 f10, .int .i64 f11, .int .i64 f12, .slice s1.A s1.n s1.c, .slice s2.A s2.n s2.c, .slice s3.A s3.n s3.c, .slice s4.A s4.n s4.c], .agg #[.int .i64 f0, .int .i64 f1, .string (str f2), .string (str f3), .string (str g4), .string (str g5), .string (str g6), .int .u64 g7, .int .u32 g8, .int .i64 g9, .int .i64 g10, .int .i64 g11, .int .i64 g12, .slice t1.A t1.n t1.c, .slice t2.A t2.n t2.c, .slice t3.A t3.n t3.c, .slice t4.A t4.n t4.c]] w fun e w' => e = .returned (.bool false) ∧ Below w.heap.size w w' := by
  have d2 : (f2 == f2) = true := beq_self_eq_true _
  have d3 : (f3 == f3) = true := beq_self_eq_true _
  have d4 : (f4 == g4) = false := by rw [beq_eq_false_iff_ne]; exact e
  clear e
  go_enter Tryz.func18, Tryz.ntmps18
  go_wp2
  go_ret
  exact ⟨rfl, two_alloc _ _ _⟩
set_option maxRecDepth 100000 in
set_option maxHeartbeats 2000000 in
theorem cs_5 (f0 : Int) (f1 : Int) (f2 : List UInt8) (f3 : List UInt8) (f4 : List UInt8) (f5 : List UInt8) (g5 : List UInt8) (f6 : List UInt8) (g6 : List UInt8) (f7 : Int) (g7 : Int) (f8 : Int) (g8 : Int) (f9 : Int) (g9 : Int) (f10 : Int) (g10 : Int) (f11 : Int) (g11 : Int) (f12 : Int) (g12 : Int) (s1 s2 s3 s4 t1 t2 t3 t4 : SlV) (w : World) (e : f5 ≠ g5) :
    Calls Tryz.prog 18 #[.agg #[.int .i64 f0, .int .i64 f1, .string (str f2), .string (str f3), .string (str f4), .string (str f5), .string (str f6), .int .u64 f7, .int .u32 f8, .int .i64 f9, .int .i64 f10, .int .i64 f11, .int .i64 f12, .slice s1.A s1.n s1.c, .slice s2.A s2.n s2.c, .slice s3.A s3.n s3.c, .slice s4.A s4.n s4.c], .agg #[.int .i64 f0, .int .i64 f1, .string (str f2), .string (str f3), .string (str f4), .string (str g5), .string (str g6), .int .u64 g7, .int .u32 g8, .int .i64 g9, .int .i64 g10, .int .i64 g11, .int .i64 g12, .slice t1.A t1.n t1.c, .slice t2.A t2.n t2.c, .slice t3.A t3.n t3.c, .slice t4.A t4.n t4.c]] w fun e w' => e = .returned (.bool false) ∧ Below w.heap.size w w' := by
  have d2 : (f2 == f2) = true := beq_self_eq_true _
  have d3 : (f3 == f3) = true := beq_self_eq_true _
  have d4 : (f4 == f4) = true := beq_self_eq_true _
  have d5 : (f5 == g5) = false := by rw [beq_eq_false_iff_ne]; exact e
  clear e
  go_enter Tryz.func18, Tryz.ntmps18
  go_wp2
  go_ret
  exact ⟨rfl, two_alloc _ _ _⟩
set_option maxRecDepth 100000 in
set_option maxHeartbeats 2000000 in
theorem cs_6 (f0 : Int) (f1 : Int) (f2 : List UInt8) (f3 : List UInt8) (f4 : List UInt8) (f5 : List UInt8) (f6 : List UInt8) (g6 : List UInt8) (f7 : Int) (g7 : Int) (f8 : Int) (g8 : Int) (f9 : Int) (g9 : Int) (f10 : Int) (g10 : Int) (f11 : Int) (g11 : Int) (f12 : Int) (g12 : Int) (s1 s2 s3 s4 t1 t2 t3 t4 : SlV) (w : World) (e : f6 ≠ g6) :
    Calls Tryz.prog 18 #[.agg #[.int .i64 f0, .int .i64 f1, .string (str f2), .string (str f3), .string (str f4), .string (str f5), .string (str f6), .int .u64 f7, .int .u32 f8, .int .i64 f9, .int .i64 f10, .int .i64 f11, .int .i64 f12, .slice s1.A s1.n s1.c, .slice s2.A s2.n s2.c, .slice s3.A s3.n s3.c, .slice s4.A s4.n s4.c], .agg #[.int .i64 f0, .int .i64 f1, .string (str f2), .string (str f3), .string (str f4), .string (str f5), .string (str g6), .int .u64 g7, .int .u32 g8, .int .i64 g9, .int .i64 g10, .int .i64 g11, .int .i64 g12, .slice t1.A t1.n t1.c, .slice t2.A t2.n t2.c, .slice t3.A t3.n t3.c, .slice t4.A t4.n t4.c]] w fun e w' => e = .returned (.bool false) ∧ Below w.heap.size w w' := by
  have d2 : (f2 == f2) = true := beq_self_eq_true _
  have d3 : (f3 == f3) = true := beq_self_eq_true _
  have d4 : (f4 == f4) = true := beq_self_eq_true _
  have d5 : (f5 == f5) = true := beq_self_eq_true _
  have d6 : (f6 == g6) = false := by rw [beq_eq_false_iff_ne]; exact e
  clear e
  go_enter Tryz.func18, Tryz.ntmps18
  go_wp2
  go_ret
  exact ⟨rfl, two_alloc _ _ _⟩
end Go.Proofs.YtagbfklcbekceaaGreatDoor
