/- XStSameC3; XStSameC; XStRgt; XStOk -/
import Derived.Test.YthobolmedppneaaGreatKb05
import Derived.Test.YthobolmedppneaaGreatKb20
import Derived.Test.YthobolmedppneaaGreatKb23
import Derived.Test.YthobolmedppneaaGreatKb18
import Derived.Test.YthobolmedppneaaGreatKb04
import Derived.RegionTactic
import Derived.WalkMore
/- Are two lines alike: the walk of stmt.Same, by the first place where they differ (made by mk-stsamec.py). -/
namespace Go.Proofs.YthobolmedppneaaGreat
open Go.RowKit

theorem drew_drewN5 (w : World) (m : Nat) : Drew w (w.drewN m) := ⟨m, rfl⟩
set_option maxRecDepth 100000 in
set_option maxHeartbeats 2000000 in
theorem cs_14 (f0 : Int) (f1 : Int) (f2 : List UInt8) (f3 : List UInt8) (f4 : List UInt8) (f5 : List UInt8) (f6 : List UInt8) (f7 : Int) (f8 : Int) (f9 : Int) (f10 : Int) (f11 : Int) (f12 : Int) (f13 : List Int) (f14 : List Int) (g14 : List Int) (s1 s2 s3 s4 t1 t2 t3 t4 : SlV) (w : World) (h13 : ISl w .i64 s1.A s1.n s1.c f13) (k13 : ISl w .i64 t1.A t1.n t1.c f13) (h14 : ISl w .i64 s2.A s2.n s2.c f14) (k14 : ISl w .i64 t2.A t2.n t2.c g14) (e : f14 ≠ g14) :
    Calls Tryz.prog 103 #[.agg #[.int .i64 f0, .int .i64 f1, .string (str f2), .string (str f3), .string (str f4), .string (str f5), .string (str f6), .int .u64 f7, .int .u32 f8, .int .i64 f9, .int .i64 f10, .int .i64 f11, .int .i64 f12, .slice s1.A s1.n s1.c, .slice s2.A s2.n s2.c, .slice s3.A s3.n s3.c, .slice s4.A s4.n s4.c], .agg #[.int .i64 f0, .int .i64 f1, .string (str f2), .string (str f3), .string (str f4), .string (str f5), .string (str f6), .int .u64 f7, .int .u32 f8, .int .i64 f9, .int .i64 f10, .int .i64 f11, .int .i64 f12, .slice t1.A t1.n t1.c, .slice t2.A t2.n t2.c, .slice t3.A t3.n t3.c, .slice t4.A t4.n t4.c]] w fun e w' => e = .returned (.bool false) ∧ Below w.heap.size w w' := by
  have H13 := Lib.hid h13; have G13 := Lib.hid k13
  have H14 := Lib.hid h14; have G14 := Lib.hid k14
  clear h13 k13 h14 k14
  have d2 : (f2 == f2) = true := beq_self_eq_true _
  have d3 : (f3 == f3) = true := beq_self_eq_true _
  have d4 : (f4 == f4) = true := beq_self_eq_true _
  have d5 : (f5 == f5) = true := beq_self_eq_true _
  have d6 : (f6 == f6) = true := beq_self_eq_true _
  have D13 := Lib.hid (show (f13 == f13) = true from beq_self_eq_true _)
  have D14 := Lib.hid (show (f14 == g14) = false by rw [beq_eq_false_iff_ne]; exact e)
  clear e
  go_enter Tryz.func103, Tryz.ntmps103
  go_wp2_with (first
    | (go_at_call 95; (with_reducible refine (eq_int s1 t1 f13 f13 _ ((H13.out.alloc _).alloc _) ((G13.out.alloc _).alloc _)).mono ?_); rintro e w13 ⟨rfl, m13, rfl⟩; rw [D13.out])
    | (go_at_call 95; (with_reducible refine (eq_int s2 t2 f14 g14 _ (((H14.out.alloc _).alloc _).drew (drew_drewN5 _ _)) (((G14.out.alloc _).alloc _).drew (drew_drewN5 _ _))).mono ?_); rintro e w14 ⟨rfl, m14, rfl⟩; rw [D14.out]))
  go_ret
  exact ⟨rfl, below_drewN (two_alloc _ _ _) _⟩
set_option maxRecDepth 100000 in
set_option maxHeartbeats 2000000 in
theorem cs_15 (f0 : Int) (f1 : Int) (f2 : List UInt8) (f3 : List UInt8) (f4 : List UInt8) (f5 : List UInt8) (f6 : List UInt8) (f7 : Int) (f8 : Int) (f9 : Int) (f10 : Int) (f11 : Int) (f12 : Int) (f13 : List Int) (f14 : List Int) (f15 : List Int) (g15 : List Int) (s1 s2 s3 s4 t1 t2 t3 t4 : SlV) (w : World) (h13 : ISl w .i64 s1.A s1.n s1.c f13) (k13 : ISl w .i64 t1.A t1.n t1.c f13) (h14 : ISl w .i64 s2.A s2.n s2.c f14) (k14 : ISl w .i64 t2.A t2.n t2.c f14) (h15 : ISl w .i64 s3.A s3.n s3.c f15) (k15 : ISl w .i64 t3.A t3.n t3.c g15) (e : f15 ≠ g15) :
    Calls Tryz.prog 103 #[.agg #[.int .i64 f0, .int .i64 f1, .string (str f2), .string (str f3), .string (str f4), .string (str f5), .string (str f6), .int .u64 f7, .int .u32 f8, .int .i64 f9, .int .i64 f10, .int .i64 f11, .int .i64 f12, .slice s1.A s1.n s1.c, .slice s2.A s2.n s2.c, .slice s3.A s3.n s3.c, .slice s4.A s4.n s4.c], .agg #[.int .i64 f0, .int .i64 f1, .string (str f2), .string (str f3), .string (str f4), .string (str f5), .string (str f6), .int .u64 f7, .int .u32 f8, .int .i64 f9, .int .i64 f10, .int .i64 f11, .int .i64 f12, .slice t1.A t1.n t1.c, .slice t2.A t2.n t2.c, .slice t3.A t3.n t3.c, .slice t4.A t4.n t4.c]] w fun e w' => e = .returned (.bool false) ∧ Below w.heap.size w w' := by
  have H13 := Lib.hid h13; have G13 := Lib.hid k13
  have H14 := Lib.hid h14; have G14 := Lib.hid k14
  have H15 := Lib.hid h15; have G15 := Lib.hid k15
  clear h13 k13 h14 k14 h15 k15
  have d2 : (f2 == f2) = true := beq_self_eq_true _
  have d3 : (f3 == f3) = true := beq_self_eq_true _
  have d4 : (f4 == f4) = true := beq_self_eq_true _
  have d5 : (f5 == f5) = true := beq_self_eq_true _
  have d6 : (f6 == f6) = true := beq_self_eq_true _
  have D13 := Lib.hid (show (f13 == f13) = true from beq_self_eq_true _)
  have D14 := Lib.hid (show (f14 == f14) = true from beq_self_eq_true _)
  have D15 := Lib.hid (show (f15 == g15) = false by rw [beq_eq_false_iff_ne]; exact e)
  clear e
  go_enter Tryz.func103, Tryz.ntmps103
  go_wp2_with (first
    | (go_at_call 95; (with_reducible refine (eq_int s1 t1 f13 f13 _ ((H13.out.alloc _).alloc _) ((G13.out.alloc _).alloc _)).mono ?_); rintro e w13 ⟨rfl, m13, rfl⟩; rw [D13.out])
    | (go_at_call 95; (with_reducible refine (eq_int s2 t2 f14 f14 _ (((H14.out.alloc _).alloc _).drew (drew_drewN5 _ _)) (((G14.out.alloc _).alloc _).drew (drew_drewN5 _ _))).mono ?_); rintro e w14 ⟨rfl, m14, rfl⟩; rw [D14.out])
    | (go_at_call 95; (with_reducible refine (eq_int s3 t3 f15 g15 _ (((H15.out.alloc _).alloc _).drew (drew_drewN5 _ _)) (((G15.out.alloc _).alloc _).drew (drew_drewN5 _ _))).mono ?_); rintro e w15 ⟨rfl, m15, rfl⟩; rw [D15.out]))
  go_ret
  exact ⟨rfl, below_drewN (two_alloc _ _ _) _⟩
set_option maxRecDepth 100000 in
set_option maxHeartbeats 2000000 in
theorem cs_16 (f0 : Int) (f1 : Int) (f2 : List UInt8) (f3 : List UInt8) (f4 : List UInt8) (f5 : List UInt8) (f6 : List UInt8) (f7 : Int) (f8 : Int) (f9 : Int) (f10 : Int) (f11 : Int) (f12 : Int) (f13 : List Int) (f14 : List Int) (f15 : List Int) (f16 : List Int) (g16 : List Int) (s1 s2 s3 s4 t1 t2 t3 t4 : SlV) (w : World) (h13 : ISl w .i64 s1.A s1.n s1.c f13) (k13 : ISl w .i64 t1.A t1.n t1.c f13) (h14 : ISl w .i64 s2.A s2.n s2.c f14) (k14 : ISl w .i64 t2.A t2.n t2.c f14) (h15 : ISl w .i64 s3.A s3.n s3.c f15) (k15 : ISl w .i64 t3.A t3.n t3.c f15) (h16 : ISl w .u32 s4.A s4.n s4.c f16) (k16 : ISl w .u32 t4.A t4.n t4.c g16) (e : f16 ≠ g16) :
    Calls Tryz.prog 103 #[.agg #[.int .i64 f0, .int .i64 f1, .string (str f2), .string (str f3), .string (str f4), .string (str f5), .string (str f6), .int .u64 f7, .int .u32 f8, .int .i64 f9, .int .i64 f10, .int .i64 f11, .int .i64 f12, .slice s1.A s1.n s1.c, .slice s2.A s2.n s2.c, .slice s3.A s3.n s3.c, .slice s4.A s4.n s4.c], .agg #[.int .i64 f0, .int .i64 f1, .string (str f2), .string (str f3), .string (str f4), .string (str f5), .string (str f6), .int .u64 f7, .int .u32 f8, .int .i64 f9, .int .i64 f10, .int .i64 f11, .int .i64 f12, .slice t1.A t1.n t1.c, .slice t2.A t2.n t2.c, .slice t3.A t3.n t3.c, .slice t4.A t4.n t4.c]] w fun e w' => e = .returned (.bool false) ∧ Below w.heap.size w w' := by
  have H13 := Lib.hid h13; have G13 := Lib.hid k13
  have H14 := Lib.hid h14; have G14 := Lib.hid k14
  have H15 := Lib.hid h15; have G15 := Lib.hid k15
  have H16 := Lib.hid h16; have G16 := Lib.hid k16
  clear h13 k13 h14 k14 h15 k15 h16 k16
  have d2 : (f2 == f2) = true := beq_self_eq_true _
  have d3 : (f3 == f3) = true := beq_self_eq_true _
  have d4 : (f4 == f4) = true := beq_self_eq_true _
  have d5 : (f5 == f5) = true := beq_self_eq_true _
  have d6 : (f6 == f6) = true := beq_self_eq_true _
  have D13 := Lib.hid (show (f13 == f13) = true from beq_self_eq_true _)
  have D14 := Lib.hid (show (f14 == f14) = true from beq_self_eq_true _)
  have D15 := Lib.hid (show (f15 == f15) = true from beq_self_eq_true _)
  have D16 := Lib.hid (show (f16 == g16) = false by rw [beq_eq_false_iff_ne]; exact e)
  clear e
  go_enter Tryz.func103, Tryz.ntmps103
  go_wp2_with (first
    | (go_at_call 95; (with_reducible refine (eq_int s1 t1 f13 f13 _ ((H13.out.alloc _).alloc _) ((G13.out.alloc _).alloc _)).mono ?_); rintro e w13 ⟨rfl, m13, rfl⟩; rw [D13.out])
    | (go_at_call 95; (with_reducible refine (eq_int s2 t2 f14 f14 _ (((H14.out.alloc _).alloc _).drew (drew_drewN5 _ _)) (((G14.out.alloc _).alloc _).drew (drew_drewN5 _ _))).mono ?_); rintro e w14 ⟨rfl, m14, rfl⟩; rw [D14.out])
    | (go_at_call 95; (with_reducible refine (eq_int s3 t3 f15 f15 _ (((H15.out.alloc _).alloc _).drew (drew_drewN5 _ _)) (((G15.out.alloc _).alloc _).drew (drew_drewN5 _ _))).mono ?_); rintro e w15 ⟨rfl, m15, rfl⟩; rw [D15.out])
    | (go_at_call 96; (with_reducible refine (eq_uint32 s4 t4 f16 g16 _ (((H16.out.alloc _).alloc _).drew (drew_drewN5 _ _)) (((G16.out.alloc _).alloc _).drew (drew_drewN5 _ _))).mono ?_); rintro e w16 ⟨rfl, m16, rfl⟩; rw [D16.out]))
  go_ret
  exact ⟨rfl, below_drewN (two_alloc _ _ _) _⟩
set_option maxRecDepth 100000 in
set_option maxHeartbeats 2000000 in
theorem cs_17 (f0 : Int) (f1 : Int) (f2 : List UInt8) (f3 : List UInt8) (f4 : List UInt8) (f5 : List UInt8) (f6 : List UInt8) (f7 : Int) (f8 : Int) (f9 : Int) (f10 : Int) (f11 : Int) (f12 : Int) (f13 : List Int) (f14 : List Int) (f15 : List Int) (f16 : List Int) (s1 s2 s3 s4 t1 t2 t3 t4 : SlV) (w : World) (h13 : ISl w .i64 s1.A s1.n s1.c f13) (k13 : ISl w .i64 t1.A t1.n t1.c f13) (h14 : ISl w .i64 s2.A s2.n s2.c f14) (k14 : ISl w .i64 t2.A t2.n t2.c f14) (h15 : ISl w .i64 s3.A s3.n s3.c f15) (k15 : ISl w .i64 t3.A t3.n t3.c f15) (h16 : ISl w .u32 s4.A s4.n s4.c f16) (k16 : ISl w .u32 t4.A t4.n t4.c f16) :
    Calls Tryz.prog 103 #[.agg #[.int .i64 f0, .int .i64 f1, .string (str f2), .string (str f3), .string (str f4), .string (str f5), .string (str f6), .int .u64 f7, .int .u32 f8, .int .i64 f9, .int .i64 f10, .int .i64 f11, .int .i64 f12, .slice s1.A s1.n s1.c, .slice s2.A s2.n s2.c, .slice s3.A s3.n s3.c, .slice s4.A s4.n s4.c], .agg #[.int .i64 f0, .int .i64 f1, .string (str f2), .string (str f3), .string (str f4), .string (str f5), .string (str f6), .int .u64 f7, .int .u32 f8, .int .i64 f9, .int .i64 f10, .int .i64 f11, .int .i64 f12, .slice t1.A t1.n t1.c, .slice t2.A t2.n t2.c, .slice t3.A t3.n t3.c, .slice t4.A t4.n t4.c]] w fun e w' => e = .returned (.bool true) ∧ Below w.heap.size w w' := by
  have H13 := Lib.hid h13; have G13 := Lib.hid k13
  have H14 := Lib.hid h14; have G14 := Lib.hid k14
  have H15 := Lib.hid h15; have G15 := Lib.hid k15
  have H16 := Lib.hid h16; have G16 := Lib.hid k16
  clear h13 k13 h14 k14 h15 k15 h16 k16
  have d2 : (f2 == f2) = true := beq_self_eq_true _
  have d3 : (f3 == f3) = true := beq_self_eq_true _
  have d4 : (f4 == f4) = true := beq_self_eq_true _
  have d5 : (f5 == f5) = true := beq_self_eq_true _
  have d6 : (f6 == f6) = true := beq_self_eq_true _
  have D13 := Lib.hid (show (f13 == f13) = true from beq_self_eq_true _)
  have D14 := Lib.hid (show (f14 == f14) = true from beq_self_eq_true _)
  have D15 := Lib.hid (show (f15 == f15) = true from beq_self_eq_true _)
  have D16 := Lib.hid (show (f16 == f16) = true from beq_self_eq_true _)
  go_enter Tryz.func103, Tryz.ntmps103
  go_wp2_with (first
    | (go_at_call 95; (with_reducible refine (eq_int s1 t1 f13 f13 _ ((H13.out.alloc _).alloc _) ((G13.out.alloc _).alloc _)).mono ?_); rintro e w13 ⟨rfl, m13, rfl⟩; rw [D13.out])
    | (go_at_call 95; (with_reducible refine (eq_int s2 t2 f14 f14 _ (((H14.out.alloc _).alloc _).drew (drew_drewN5 _ _)) (((G14.out.alloc _).alloc _).drew (drew_drewN5 _ _))).mono ?_); rintro e w14 ⟨rfl, m14, rfl⟩; rw [D14.out])
    | (go_at_call 95; (with_reducible refine (eq_int s3 t3 f15 f15 _ (((H15.out.alloc _).alloc _).drew (drew_drewN5 _ _)) (((G15.out.alloc _).alloc _).drew (drew_drewN5 _ _))).mono ?_); rintro e w15 ⟨rfl, m15, rfl⟩; rw [D15.out])
    | (go_at_call 96; (with_reducible refine (eq_uint32 s4 t4 f16 f16 _ (((H16.out.alloc _).alloc _).drew (drew_drewN5 _ _)) (((G16.out.alloc _).alloc _).drew (drew_drewN5 _ _))).mono ?_); rintro e w16 ⟨rfl, m16, rfl⟩; rw [D16.out]))
  go_ret
  exact ⟨rfl, below_drewN (two_alloc _ _ _) _⟩
end Go.Proofs.YthobolmedppneaaGreat

/- Are two lines alike: the contract of stmt.Same (made by mk-stsamec.py). -/
namespace Go.Proofs.YthobolmedppneaaGreat
open Go.RowKit

theorem sameB_no {L M : LV} (h : L ≠ M) : sameB L M = false := by
  cases e : sameB L M with
  | false => rfl
  | true => exact absurd ((sameB_iff L M).1 e) h
theorem csame_any (L M : LV) (s1 s2 s3 s4 t1 t2 t3 t4 : SlV) (w : World) (h : LRead w L s1 s2 s3 s4) (g : LRead w M t1 t2 t3 t4) :
    Calls Tryz.prog 103 #[lineV L s1 s2 s3 s4, lineV M t1 t2 t3 t4] w fun e w' => e = .returned (.bool (sameB L M)) ∧ Below w.heap.size w w' := by
  obtain ⟨f0, f1, f2, f3, f4, f5, f6, f7, f8, f9, f10, f11, f12, f13, f14, f15, f16⟩ := L
  obtain ⟨g0, g1, g2, g3, g4, g5, g6, g7, g8, g9, g10, g11, g12, g13, g14, g15, g16⟩ := M
  obtain ⟨h13, h14, h15, h16⟩ := h
  obtain ⟨k13, k14, k15, k16⟩ := g
  dsimp only at h13 h14 h15 h16 k13 k14 k15 k16
  by_cases e0 : f0 = g0
  rotate_left
  · rw [sameB_no (fun e => e0 (congrArg LV.row e))]
    exact cs_0 f0 g0 f1 g1 f2 g2 f3 g3 f4 g4 f5 g5 f6 g6 f7 g7 f8 g8 f9 g9 f10 g10 f11 g11 f12 g12 s1 s2 s3 s4 t1 t2 t3 t4 w  e0
  subst e0
  by_cases e1 : f1 = g1
  rotate_left
  · rw [sameB_no (fun e => e1 (congrArg LV.kind e))]
    exact cs_1 f0 f1 g1 f2 g2 f3 g3 f4 g4 f5 g5 f6 g6 f7 g7 f8 g8 f9 g9 f10 g10 f11 g11 f12 g12 s1 s2 s3 s4 t1 t2 t3 t4 w  e1
  subst e1
  by_cases e2 : f2 = g2
  rotate_left
  · rw [sameB_no (fun e => e2 (congrArg LV.dev e))]
    exact cs_2 f0 f1 f2 g2 f3 g3 f4 g4 f5 g5 f6 g6 f7 g7 f8 g8 f9 g9 f10 g10 f11 g11 f12 g12 s1 s2 s3 s4 t1 t2 t3 t4 w  e2
  subst e2
  by_cases e3 : f3 = g3
  rotate_left
  · rw [sameB_no (fun e => e3 (congrArg LV.port e))]
    exact cs_3 f0 f1 f2 f3 g3 f4 g4 f5 g5 f6 g6 f7 g7 f8 g8 f9 g9 f10 g10 f11 g11 f12 g12 s1 s2 s3 s4 t1 t2 t3 t4 w  e3
  subst e3
  by_cases e4 : f4 = g4
  rotate_left
  · rw [sameB_no (fun e => e4 (congrArg LV.peer e))]
    exact cs_4 f0 f1 f2 f3 f4 g4 f5 g5 f6 g6 f7 g7 f8 g8 f9 g9 f10 g10 f11 g11 f12 g12 s1 s2 s3 s4 t1 t2 t3 t4 w  e4
  subst e4
  by_cases e5 : f5 = g5
  rotate_left
  · rw [sameB_no (fun e => e5 (congrArg LV.far e))]
    exact cs_5 f0 f1 f2 f3 f4 f5 g5 f6 g6 f7 g7 f8 g8 f9 g9 f10 g10 f11 g11 f12 g12 s1 s2 s3 s4 t1 t2 t3 t4 w  e5
  subst e5
  by_cases e6 : f6 = g6
  rotate_left
  · rw [sameB_no (fun e => e6 (congrArg LV.name e))]
    exact cs_6 f0 f1 f2 f3 f4 f5 f6 g6 f7 g7 f8 g8 f9 g9 f10 g10 f11 g11 f12 g12 s1 s2 s3 s4 t1 t2 t3 t4 w  e6
  subst e6
  by_cases e7 : f7 = g7
  rotate_left
  · rw [sameB_no (fun e => e7 (congrArg LV.mac e))]
    exact cs_7 f0 f1 f2 f3 f4 f5 f6 f7 g7 f8 g8 f9 g9 f10 g10 f11 g11 f12 g12 s1 s2 s3 s4 t1 t2 t3 t4 w  e7
  subst e7
  by_cases e8 : f8 = g8
  rotate_left
  · rw [sameB_no (fun e => e8 (congrArg LV.addr e))]
    exact cs_8 f0 f1 f2 f3 f4 f5 f6 f7 f8 g8 f9 g9 f10 g10 f11 g11 f12 g12 s1 s2 s3 s4 t1 t2 t3 t4 w  e8
  subst e8
  by_cases e9 : f9 = g9
  rotate_left
  · rw [sameB_no (fun e => e9 (congrArg LV.bits e))]
    exact cs_9 f0 f1 f2 f3 f4 f5 f6 f7 f8 f9 g9 f10 g10 f11 g11 f12 g12 s1 s2 s3 s4 t1 t2 t3 t4 w  e9
  subst e9
  by_cases e10 : f10 = g10
  rotate_left
  · rw [sameB_no (fun e => e10 (congrArg LV.vlan e))]
    exact cs_10 f0 f1 f2 f3 f4 f5 f6 f7 f8 f9 f10 g10 f11 g11 f12 g12 s1 s2 s3 s4 t1 t2 t3 t4 w  e10
  subst e10
  by_cases e11 : f11 = g11
  rotate_left
  · rw [sameB_no (fun e => e11 (congrArg LV.num e))]
    exact cs_11 f0 f1 f2 f3 f4 f5 f6 f7 f8 f9 f10 f11 g11 f12 g12 s1 s2 s3 s4 t1 t2 t3 t4 w  e11
  subst e11
  by_cases e12 : f12 = g12
  rotate_left
  · rw [sameB_no (fun e => e12 (congrArg LV.cost e))]
    exact cs_12 f0 f1 f2 f3 f4 f5 f6 f7 f8 f9 f10 f11 f12 g12 s1 s2 s3 s4 t1 t2 t3 t4 w  e12
  subst e12
  by_cases e13 : f13 = g13
  rotate_left
  · rw [sameB_no (fun e => e13 (congrArg LV.tagged e))]
    exact cs_13 f0 f1 f2 f3 f4 f5 f6 f7 f8 f9 f10 f11 f12 f13 g13 s1 s2 s3 s4 t1 t2 t3 t4 w h13 k13 e13
  subst e13
  by_cases e14 : f14 = g14
  rotate_left
  · rw [sameB_no (fun e => e14 (congrArg LV.imports e))]
    exact cs_14 f0 f1 f2 f3 f4 f5 f6 f7 f8 f9 f10 f11 f12 f13 f14 g14 s1 s2 s3 s4 t1 t2 t3 t4 w h13 k13 h14 k14 e14
  subst e14
  by_cases e15 : f15 = g15
  rotate_left
  · rw [sameB_no (fun e => e15 (congrArg LV.exports e))]
    exact cs_15 f0 f1 f2 f3 f4 f5 f6 f7 f8 f9 f10 f11 f12 f13 f14 f15 g15 s1 s2 s3 s4 t1 t2 t3 t4 w h13 k13 h14 k14 h15 k15 e15
  subst e15
  by_cases e16 : f16 = g16
  rotate_left
  · rw [sameB_no (fun e => e16 (congrArg LV.addrs e))]
    exact cs_16 f0 f1 f2 f3 f4 f5 f6 f7 f8 f9 f10 f11 f12 f13 f14 f15 f16 g16 s1 s2 s3 s4 t1 t2 t3 t4 w h13 k13 h14 k14 h15 k15 h16 k16 e16
  subst e16
  rw [sameB_self]
  exact cs_17 f0 f1 f2 f3 f4 f5 f6 f7 f8 f9 f10 f11 f12 f13 f14 f15 f16 s1 s2 s3 s4 t1 t2 t3 t4 w h13 k13 h14 k14 h15 k15 h16 k16
end Go.Proofs.YthobolmedppneaaGreat

/- May a line be: the contract of stmt.Right, of any line. -/
namespace Go.Proofs.YthobolmedppneaaGreat
open Go.RowKit

/-- a line whose numbers may be taken out -/
structure LvM (L : LV) : Prop where
  sz : LvSz L
  mac : 0 ≤ L.mac ∧ L.mac < 18446744073709551616
  addr : 0 ≤ L.addr ∧ L.addr < 4294967296
theorem LvM.put {L : LV} (h : LvM L) (f : Nat) : LvM (fput f L WV.zero) := by
  refine ⟨fput_sz h.sz vok_zero f, ?_, ?_⟩
  · match f with
    | 9 => exact vo_m
    | 0 | 1 | 2 | 3 | 4 | 5 | 6 | 7 | 8 | 10 | 11 | 12 | 13 | 14 | 15 => exact h.mac
    | f + 16 => exact h.mac
  · match f with
    | 10 | 11 => exact vo_a
    | 0 | 1 | 2 | 3 | 4 | 5 | 6 | 7 | 8 | 9 | 12 | 13 | 14 | 15 => exact h.addr
    | f + 16 => exact h.addr
theorem LvM.take {L : LV} (h : LvM L) (f : Nat) : VOk (ftake f L WV.zero) := by
  have t := h.sz.txt
  have l := h.sz.lst
  match f with
  | 0 => exact ⟨t.1, vo_m, vo_a, vo_l⟩
  | 1 => exact ⟨t.2.1, vo_m, vo_a, vo_l⟩
  | 2 => exact ⟨t.2.2.1, vo_m, vo_a, vo_l⟩
  | 3 => exact ⟨t.2.2.2.1, vo_m, vo_a, vo_l⟩
  | 4 => exact ⟨t.2.2.2.2, vo_m, vo_a, vo_l⟩
  | 5 => exact ⟨show ([116, 114, 117, 110, 107] : List UInt8).length ≤ 1000000 by decide, vo_m, vo_a, vo_l⟩
  | 6 | 7 | 8 => exact ⟨vo_t, vo_m, vo_a, vo_l⟩
  | 9 => exact ⟨vo_t, h.mac, vo_a, vo_l⟩
  | 10 => exact ⟨vo_t, vo_m, h.addr, vo_l⟩
  | 11 => exact ⟨vo_t, vo_m, h.addr, vo_l⟩
  | 12 => exact ⟨vo_t, vo_m, vo_a, ⟨l.1, vo_l.2⟩⟩
  | 13 => exact ⟨vo_t, vo_m, vo_a, ⟨l.2.1, vo_l.2⟩⟩
  | 14 => exact ⟨vo_t, vo_m, vo_a, ⟨l.2.2.1, vo_l.2⟩⟩
  | 15 => exact ⟨vo_t, vo_m, vo_a, ⟨vo_l.1, l.2.2.2⟩⟩
  | f + 16 => exact vok_zero
theorem rgRun_at {ps : List (Nat × Nat)} {k : Nat} {L : LV} (h : k < ps.length) :
    rgRun (ps.drop k) L = if mayB (ps.getD k (0, 0)).1 (ftake (ps.getD k (0, 0)).2 L WV.zero) = true then rgRun (ps.drop (k + 1)) (fput (ps.getD k (0, 0)).2 L WV.zero) else none := by
  have e1 : ps.drop k = ps.getD k (0, 0) :: ps.drop (k + 1) := by rw [List.drop_eq_getElem_cons h]; simp [List.getD, List.getElem?_eq_getElem h]
  rw [e1]
  obtain ⟨w, f⟩ := ps.getD k (0, 0)
  rw [rgRun]
/-- a value loaded whole -/
theorem wpList_valOf {ops : Array Oper} {rest : List Oper} {op : Oper} {a : Act} {w : World} {Q : Exit → Act → World → Prop} (hgd : op.guard = none) (x : Operand) (ho : op.op = .load 145 x)
    (p : Nat) (hx : a.eval x = .pointer (some ⟨p, 0, none⟩)) (V : WV) (t1 t2 : SlV) (hb : BoxF w p 6 (vc V t1 t2)) (h : wpList Tryz.prog ops Q rest (a.put op.dst (valV V t1 t2)) w) : wpList Tryz.prog ops Q (op :: rest) a w := by
  obtain ⟨d, hd1, hd2⟩ := val_desc
  exact wpList_load_mid hgd 145 x ho p 0 hx (valC V t1 t2) d hb.rangeV hd1 hd2 val_size h
/-- a zero value's box beside the line's -/
theorem RdS.fvZ {w wr : World} {p : Nat} {ps : List (Nat × Nat)} {A : Option Addr} {n c : Nat} {L : LV} {s1 s2 s3 s4 : SlV} (h : RdS w p ps A n c L s1 s2 s3 s4 wr) (o : Obj) (T : TypeId) :
    RdS w p ps A n c L s1 s2 s3 s4 ((wr.alloc o).alloc (.cells #[.string ⟨#[]⟩, .int .i64 0, .int .u64 0, .int .u32 0, .slice none 0 0, .slice none 0 0] T)) ∧
    FV ((wr.alloc o).alloc (.cells #[.string ⟨#[]⟩, .int .i64 0, .int .u64 0, .int .u32 0, .slice none 0 0, .slice none 0 0] T)) p (wr.heap.size + 1) L s1 s2 s3 s4 WV.zero SlV.nil SlV.nil ∧ Below wr.heap.size wr ((wr.alloc o).alloc (.cells #[.string ⟨#[]⟩, .int .i64 0, .int .u64 0, .int .u32 0, .slice none 0 0, .slice none 0 0] T)) := by
  have B := two_alloc wr o (.cells #[.string ⟨#[]⟩, .int .i64 0, .int .u64 0, .int .u32 0, .slice none 0 0, .slice none 0 0] T)
  have R6 := h.keep B
  have hlt : p < wr.heap.size := h.pl
  have vb := (SV.start (wr.alloc o) T).box
  rw [rd_sz] at vb
  have off : ∀ (k : IntKind) (s : SlV) (xs : List Int), ISl wr k s.A s.n s.c xs → OffP (wr.heap.size + 1) s := fun k s xs hi ad e e2 => by have := lt_isl hi ad e e2; omega
  exact ⟨R6, R6.fv (by omega) vb ⟨ISl.nil, ISl.nil⟩ (off _ _ _ h.rd.1) (off _ _ _ h.rd.2.1) (off _ _ _ h.rd.2.2.1) (off _ _ _ h.rd.2.2.2) (fun ad e => by cases e) (fun ad e => by cases e), B⟩
theorem rt_start {w wa w9 w1 : World} {L : LV} {s1 s2 s3 s4 : SlV} {ps : List (Nat × Nat)} {A : Option Addr} {n c : Nat} (hL : LRead w L s1 s2 s3 s4) (hz : LvSz L) (hw : Below w.heap.size w wa) (hx : BoxF w9 (w.heap.size + 1) 17 (lc L s1 s2 s3 s4)) (h9 : Below (w.heap.size + 1) wa w9) (hl : w.heap.size + 1 < w9.heap.size)
    (hb1 : Below w9.heap.size w9 w1) (hps : PSl w1 (w.heap.size + 1) A n c ps) (hpa : ∀ ad, A = some ad → w9.heap.size ≤ ad.block) : RdS w (w.heap.size + 1) ps A n c L s1 s2 s3 s4 w1 := by
  have B : Below w.heap.size w w1 := (hw.trans (h9.mono (by omega))).trans (hb1.mono (by omega))
  have off : ∀ (k : IntKind) (s : SlV) (xs : List Int), ISl w k s.A s.n s.c xs → OffP (w.heap.size + 1) s := fun k s xs hi ad e e2 => by have := lt_isl hi ad e e2; omega
  exact ⟨by omega, by have := hb1.size; omega, hx.below (by omega) hb1, ⟨hL.1.below B, hL.2.1.below B, hL.2.2.1.below B, hL.2.2.2.below B⟩, off _ _ _ hL.1, off _ _ _ hL.2.1, off _ _ _ hL.2.2.1, off _ _ _ hL.2.2.2, hps, fun ad e => by have := hpa ad e; omega, B, hz⟩
set_option maxRecDepth 100000 in
set_option maxHeartbeats 8000000 in
theorem cright_m (L : LV) (s1 s2 s3 s4 : SlV) (w : World) (h : LRead w L s1 s2 s3 s4) (hL : LvM L) :
    Calls Tryz.prog 69 #[lineV L s1 s2 s3 s4] w fun e w' => e = .returned (.bool (rgB L)) ∧ Below w.heap.size w w' := by
  have H := Lib.hid h
  have LM := Lib.hid hL
  have P0 := Lib.hid (fun T => line_boxed w L s1 s2 s3 s4 T)
  have OKP := Lib.hid (pts_ok L.kind true)
  obtain ⟨rb, hrb⟩ : ∃ rb, rgB L = rb := ⟨_, rfl⟩
  have RB := Lib.hid hrb
  rw [hrb]
  clear h hL hrb
  rw [show lineV L s1 s2 s3 s4 = .agg #[.int .i64 L.row, .int .i64 L.kind, .string (str L.dev), .string (str L.port), .string (str L.peer), .string (str L.far), .string (str L.name), .int .u64 L.mac, .int .u32 L.addr, .int .i64 L.bits, .int .i64 L.vlan, .int .i64 L.num, .int .i64 L.cost, .slice s1.A s1.n s1.c, .slice s2.A s2.n s2.c, .slice s3.A s3.n s3.c, .slice s4.A s4.n s4.c] from rfl]
  go_enter Tryz.func69, Tryz.ntmps69
  go_wp2_with (first
    | ((with_reducible refine wpList_lineOf ?hg (.tmp 1) ?ho w.heap.size ?hx L s1 s2 s3 s4 (P0.out _) ?_); (case hg => rfl); (case ho => rfl); (case hx => rfl); simp only [lineV])
    | ((with_reducible refine wpList_newfields ?hg1 ?ho1 ?hg2 (.tmp 3) (.tmp 9) ?ho2 ?hx L s1 s2 s3 s4 ?hy ?_); (case hg1 => rfl); (case ho1 => rfl); (case hg2 => rfl); (case ho2 => rfl); (case hx => rfl); (case hy => rfl); intro w9 bx9 bl9 lt9; rw [rd_sz] at bx9 bl9 lt9)
    | (go_at_call 100; (with_reducible refine (parts_any L.kind _ _ _ (bx9.cell 1 (by omega))).mono ?_); rintro e w1 ⟨PA, pn, pc, rfl, hps, hb1, hpa⟩))
  have R1 := Lib.hid (rt_start H.out LM.out.sz (below_box2 w _) bx9 bl9 lt9 hb1 hps hpa)
  have PN := Lib.hid hps.1
  have hp6 : pn ≤ 6 := by have := OKP.out.1; have := PN.out; omega
  have Z1 := Lib.hid (((P0.out 37).below (by omega) (by rw [rd_sz]; exact bl9)).below (by omega) hb1)
  generalize hP : pts L.kind true = ps at *
  have PW := Lib.hid hP
  clear hP hps hpa hb1 bx9 bl9 lt9
  go_loopw [13] (fun i wr => ∃ (k : Nat) (M : LV) (r1 r2 r3 r4 : SlV), k ≤ pn ∧ i = .int .i64 (k : Int) ∧ rgRun ps L = rgRun (ps.drop k) M ∧ RdS w (w.heap.size + 1) ps PA pn pc M r1 r2 r3 r4 wr ∧ LvM M ∧ BoxF wr w.heap.size 17 (lc L s1 s2 s3 s4)) (fun i _ => pn - (intOf i).toNat)
  case atStart => exact ⟨0, L, s1, s2, s3, s4, by omega, rfl, rfl, R1.out, LM.out, Z1.out⟩
  case round =>
    obtain ⟨k, M, r1, r2, r3, r4, hk, rfl, hrun, hR, hM, hZ⟩ := hrel
    have RR := Lib.hid hR
    have ZZ := Lib.hid hZ
    have MM := Lib.hid hM
    have RUN := Lib.hid hrun
    clear hR hZ hM hrun
    by_cases hlt : k < pn
    · obtain ⟨bp, rfl, hbp, hpc⟩ := RR.out.ps.2.2.2 (by omega)
      obtain ⟨x0, x1⟩ := hpc k hlt
      have N := Lib.hid (rgRun_at (ps := ps) (k := k) (L := M) (by rw [PN.out]; exact hlt))
      have OK := Lib.hid (OKP.out.at_ k)
      obtain ⟨x, hx⟩ : ∃ x, ps.getD k (0, 0) = x := ⟨_, rfl⟩
      rw [hx] at x0 x1 N OK
      obtain ⟨wk, fk⟩ := x
      clear hpc hx
      dsimp only at x0 x1 N OK
      unfold fval at x1
      have RC := run_fnum fk OK.out.2
      have FZ := Lib.hid (RR.out.fvZ (.cells #[.int .i64 (wk : Int), .func (.func (fnum fk)) #[.pointer (some ⟨w.heap.size + 1, 0, none⟩)] #[]] 143) 145)
      have VT := Lib.hid (MM.out.take fk)
      obtain ⟨mb, hmb⟩ : ∃ mb, mayB wk (ftake fk M WV.zero) = mb := ⟨_, rfl⟩
      have MB := Lib.hid hmb
      have CM := Lib.hid (fun t1 t2 w h => may_any wk OK.out.1 (ftake fk M WV.zero) t1 t2 w VT.out h)
      cases mb with
      | true =>
        have N2 := Lib.hid (show rgRun ps L = rgRun (ps.drop (k + 1)) (fput fk M WV.zero) by rw [RUN.out, N.out, if_pos hmb])
        clear hmb N RUN
        go_wp2_with (first
          | ((with_reducible refine (fld_any fk OK.out.2 FZ.out.2.1).mono ?_); rintro e w3 ⟨rfl, q1, q2, q3, q4, u1, u2, F7, E7⟩; have R7 := Lib.hid (FZ.out.1.next (by have := RR.out.bel.size; omega) (fun ad e => by cases e; show bp ≠ _; omega) F7 E7 (fput_sz RR.out.sz vok_zero fk)); have Z7 := Lib.hid ((ZZ.out.below (by omega) FZ.out.2.2).ex2 (by omega) E7 (by omega) (by have := RR.out.pl; omega)); have V7 := Lib.hid F7; have VR := Lib.hid (show VRead w3 (ftake fk M WV.zero) u1 u2 from ⟨F7.v1.1, F7.v2.1⟩); have x7 : w3.cell? ⟨wr.heap.size, 0, none⟩ = some (.int .i64 (wk : Int)) := ((E7.cell 0 (by simp; omega) (by have := RR.out.pl; omega) (by omega)).trans (by simp)); clear F7 E7)
          | ((with_reducible refine wpList_valOf ?hg (.tmp 7) ?ho (wr.heap.size + 1) ?hx (ftake fk M WV.zero) u1 u2 V7.out.val ?_); (case hg => rfl); (case ho => rfl); (case hx => rfl))
          | (go_at_call 101; (with_reducible refine (CM.out u1 u2 _ VR.out).mono ?_); rintro e w5 ⟨rfl, hb5⟩; rw [MB.out]; have R8 := Lib.hid (R7.out.keep hb5); have Z8 := Lib.hid (Z7.out.below (by omega) hb5)))
        go_roundw
        case rel => exact ⟨k + 1, fput fk M WV.zero, q1, q2, q3, q4, by omega, by go_num, N2.out, R8.out, MM.out.put fk, Z8.out⟩
        case measure => simp [intOf]; omega
      | false =>
        have N2 := Lib.hid (show rb = false by rw [← RB.out, rgB_none (by rw [PW.out, RUN.out, N.out, if_neg (by rw [hmb]; decide)])])
        clear hmb N RUN
        go_wp2_with (first
          | ((with_reducible refine (fld_any fk OK.out.2 FZ.out.2.1).mono ?_); rintro e w3 ⟨rfl, q1, q2, q3, q4, u1, u2, F7, E7⟩; have R7 := Lib.hid (FZ.out.1.next (by have := RR.out.bel.size; omega) (fun ad e => by cases e; show bp ≠ _; omega) F7 E7 (fput_sz RR.out.sz vok_zero fk)); have V7 := Lib.hid F7; have VR := Lib.hid (show VRead w3 (ftake fk M WV.zero) u1 u2 from ⟨F7.v1.1, F7.v2.1⟩); have x7 : w3.cell? ⟨wr.heap.size, 0, none⟩ = some (.int .i64 (wk : Int)) := ((E7.cell 0 (by simp; omega) (by have := RR.out.pl; omega) (by omega)).trans (by simp)); clear F7 E7)
          | ((with_reducible refine wpList_valOf ?hg (.tmp 7) ?ho (wr.heap.size + 1) ?hx (ftake fk M WV.zero) u1 u2 V7.out.val ?_); (case hg => rfl); (case ho => rfl); (case hx => rfl))
          | (go_at_call 101; (with_reducible refine (CM.out u1 u2 _ VR.out).mono ?_); rintro e w5 ⟨rfl, hb5⟩; rw [MB.out]; have R8 := Lib.hid (R7.out.keep hb5)))
        go_ret
        exact ⟨by rw [N2.out]; rfl, R8.out.bel⟩
    · obtain rfl : k = pn := by omega
      have RM := Lib.hid (show rgRun (pts L.kind true) L = some M by rw [PW.out, RUN.out, List.drop_eq_nil_of_le (by rw [PN.out]; exact Nat.le_refl _)]; rfl)
      have RE := Lib.hid (show rb = ((decide (0 < k) && apB L) && sameB M (LV.new L.row L.kind)) by rw [← RB.out, rgB_some RM.out, PW.out, PN.out])
      clear RUN
      by_cases p0 : 0 < k
      rotate_left
      · obtain rfl : k = 0 := by omega
        have R0 := Lib.hid (show rb = false by rw [RE.out]; rfl)
        go_wp2
        go_ret
        exact ⟨by rw [R0.out]; rfl, RR.out.bel⟩
      · have p1 : (0 : Int) < (k : Int) := by omega
        have CA := Lib.hid (fun w h => apart_any L s1 s2 s3 s4 w h)
        have LR := Lib.hid (show LRead wr L s1 s2 s3 s4 from ⟨H.out.1.below RR.out.bel, H.out.2.1.below RR.out.bel, H.out.2.2.1.below RR.out.bel, H.out.2.2.2.below RR.out.bel⟩)
        obtain ⟨ap, hap⟩ : ∃ ap, apB L = ap := ⟨_, rfl⟩
        have AP := Lib.hid hap
        have RE2 := Lib.hid (show rb = (ap && sameB M (LV.new L.row L.kind)) by rw [RE.out, hap, decide_eq_true p0, Bool.true_and])
        clear hap
        cases ap with
        | false =>
          go_wp2_with (first
            | ((with_reducible refine wpList_lineOf ?hg (.tmp 1) ?ho w.heap.size ?hx L s1 s2 s3 s4 ZZ.out ?_); (case hg => rfl); (case ho => rfl); (case hx => rfl))
            | (go_at_call 102; (with_reducible refine (CA.out _ LR.out).mono ?_); rintro e w5 ⟨rfl, hb5⟩; rw [AP.out]))
          go_ret
          exact ⟨by rw [RE2.out]; rfl, RR.out.bel.trans (hb5.mono RR.out.bel.size)⟩
        | true =>
          have CS := Lib.hid (show ∀ w, LRead w M r1 r2 r3 r4 → Calls Tryz.prog 103 #[lineV M r1 r2 r3 r4, .agg #[.int .i64 L.row, .int .i64 L.kind, .string ⟨#[]⟩, .string ⟨#[]⟩, .string ⟨#[]⟩, .string ⟨#[]⟩, .string ⟨#[]⟩, .int .u64 0, .int .u32 0, .int .i64 0, .int .i64 0, .int .i64 0, .int .i64 0, .slice none 0 0, .slice none 0 0, .slice none 0 0, .slice none 0 0]] w fun e w' => e = .returned (.bool (sameB M (LV.new L.row L.kind))) ∧ Below w.heap.size w w' from
            fun w h => csame_any M (LV.new L.row L.kind) r1 r2 r3 r4 SlV.nil SlV.nil SlV.nil SlV.nil w h ⟨ISl.nil, ISl.nil, ISl.nil, ISl.nil⟩)
          go_wp2_with (first
            | ((with_reducible refine wpList_lineOf ?hg (.tmp 1) ?ho w.heap.size ?hx L s1 s2 s3 s4 ZZ.out ?_); (case hg => rfl); (case ho => rfl); (case hx => rfl))
            | (go_at_call 102; (with_reducible refine (CA.out _ LR.out).mono ?_); rintro e w5 ⟨rfl, hb5⟩; rw [AP.out]; have R5 := Lib.hid (RR.out.keep hb5); have Z5 := Lib.hid (ZZ.out.below (by omega) hb5); have z0 : w5.cell? ⟨w.heap.size, 0, none⟩ = some (.int .i64 L.row) := Z5.out.cell 0 (by omega); have z1 : w5.cell? ⟨w.heap.size, 1, none⟩ = some (.int .i64 L.kind) := Z5.out.cell 1 (by omega))
            | ((with_reducible refine wpList_lineOf ?hg (.tmp 34) ?ho (w.heap.size + 1) ?hx M r1 r2 r3 r4 R5.out.box ?_); (case hg => rfl); (case ho => rfl); (case hx => rfl))
            | (go_at_call 103; (with_reducible refine (CS.out _ R5.out.rd).mono ?_); rintro e w6 ⟨rfl, hb6⟩))
          go_ret
          exact ⟨by rw [RE2.out]; rfl, R5.out.bel.trans (hb6.mono R5.out.bel.size)⟩
end Go.Proofs.YthobolmedppneaaGreat

/- A line that is read is a small one; one field of a line's box stored; the contract of palinglaw11.Great. -/
namespace Go.Proofs.YthobolmedppneaaGreat
open Go.RowKit

theorem ris_len {xs : List Int} {lo hi : Int} (h : risIn xs lo hi = true) : xs.length ≤ 16 := by
  unfold risIn at h
  rw [Bool.and_eq_true] at h
  exact ((risB_iff xs).1 h.1).2.1
theorem ls_len {hi : Int} {xs : List Int} (h : LsOk hi xs) : xs.length ≤ 16 := by
  rcases h with rfl | h
  · simp
  · exact ris_len h
end Go.Proofs.YthobolmedppneaaGreat

