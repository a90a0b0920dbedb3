/- The contract of palingref11.Same at two values of one line. -/
import Derived.Test.YtcpakmkfnnbgeaaGreatDoorStPut
import Derived.Test.YtcpakmkfnnbgeaaGreatDoorRef3
import Derived.RegionTactic
namespace Go.Proofs.YtcpakmkfnnbgeaaGreatDoor
open Go.RowKit

theorem drew_drewN (w : World) (m : Nat) : Drew w (w.drewN m) := ⟨m, rfl⟩
set_option maxRecDepth 100000 in
set_option maxHeartbeats 4000000 in
theorem rsame_self (L : LV) (s1 s2 s3 s4 t1 t2 t3 t4 : SlV) (w : World) (h : LRead w L s1 s2 s3 s4) (g : LRead w L t1 t2 t3 t4) :
    Calls Tryz.prog 20 #[lineV L s1 s2 s3 s4, lineV L t1 t2 t3 t4] w fun e w' => e = .returned (.bool true) ∧ Below w.heap.size w w' := by
  obtain ⟨h1, h2, h3, h4⟩ := h
  obtain ⟨g1, g2, g3, g4⟩ := g
  have H1 := Lib.hid h1; have H2 := Lib.hid h2; have H3 := Lib.hid h3; have H4 := Lib.hid h4
  have G1 := Lib.hid g1; have G2 := Lib.hid g2; have G3 := Lib.hid g3; have G4 := Lib.hid g4
  clear h1 h2 h3 h4 g1 g2 g3 g4
  unfold lineV
  generalize L.row = f0 at *
  generalize L.kind = f1 at *
  generalize L.dev = f2 at *
  generalize L.port = f3 at *
  generalize L.peer = f4 at *
  generalize L.far = f5 at *
  generalize L.name = f6 at *
  generalize L.mac = f7 at *
  generalize L.addr = f8 at *
  generalize L.bits = f9 at *
  generalize L.vlan = f10 at *
  generalize L.num = f11 at *
  generalize L.cost = f12 at *
  have e2 : (f2 == f2) = true := by simp
  have e3 : (f3 == f3) = true := by simp
  have e4 : (f4 == f4) = true := by simp
  have e5 : (f5 == f5) = true := by simp
  have e6 : (f6 == f6) = true := by simp
  go_enter Tryz.func20, Tryz.ntmps20
  go_wp2_with (first
    | (go_at_call 30; (with_reducible refine (ints_any s1.A t1.A _ s1.c _ t1.c L.tagged _ ((H1.out.alloc _).alloc _) ((G1.out.alloc _).alloc _)).mono ?_); rintro e w1 ⟨rfl, m1, rfl⟩)
    | (go_at_call 30; (with_reducible refine (ints_any s2.A t2.A _ s2.c _ t2.c L.imports _ (((H2.out.alloc _).alloc _).drew (drew_drewN _ _)) (((G2.out.alloc _).alloc _).drew (drew_drewN _ _))).mono ?_); rintro e w2 ⟨rfl, m2, rfl⟩)
    | (go_at_call 30; (with_reducible refine (ints_any s3.A t3.A _ s3.c _ t3.c L.exports _ (((H3.out.alloc _).alloc _).drew (drew_drewN _ _)) (((G3.out.alloc _).alloc _).drew (drew_drewN _ _))).mono ?_); rintro e w3 ⟨rfl, m3, rfl⟩)
    | (go_at_call 31; (with_reducible refine (addrs_any s4.A t4.A _ s4.c _ t4.c L.addrs _ (((H4.out.alloc _).alloc _).drew (drew_drewN _ _)) (((G4.out.alloc _).alloc _).drew (drew_drewN _ _))).mono ?_); rintro e w4 ⟨rfl, m4, rfl⟩))
  go_ret
  exact ⟨rfl, below_drewN (two_alloc _ _ _) _⟩
end Go.Proofs.YtcpakmkfnnbgeaaGreatDoor
