/- Only what the statement at hand leans on. -/
import Derived.Test.YtgmflecelnefcaaGreatOk06
import Derived.Test.YtgmflecelnefcaaGreatOk32
import Derived.Test.YtgmflecelnefcaaGreatOk08
/- Package names, Same: are two nets alike in all? (Made by mk-nnsame.py.) -/
namespace Go.Proofs.YtgmflecelnefcaaGreat
open Go.RowKit

theorem eqi_any (s t : Sl3) (xs ys : List Int) (w : World) (h : ISl w .i64 s.A s.n s.c xs) (h2 : ISl w .i64 t.A t.n t.c ys) : Calls Tryz.prog 115 #[.slice s.A s.n s.c, .slice t.A t.n t.c] w fun e w' => e = .returned (.bool (xs == ys)) ∧ Drew w w' := eq_int ⟨s.A, s.n, s.c⟩ ⟨t.A, t.n, t.c⟩ xs ys w h h2
theorem equ_any (s t : Sl3) (xs ys : List Int) (w : World) (h : ISl w .u32 s.A s.n s.c xs) (h2 : ISl w .u32 t.A t.n t.c ys) : Calls Tryz.prog 116 #[.slice s.A s.n s.c, .slice t.A t.n t.c] w fun e w' => e = .returned (.bool (xs == ys)) ∧ Drew w w' := eq_uint32 ⟨s.A, s.n, s.c⟩ ⟨t.A, t.n, t.c⟩ xs ys w h h2
set_option maxRecDepth 20000 in
set_option maxHeartbeats 4000000 in
theorem eqs_dev (A : Option Addr) (n c : Nat) (B : Option Addr) (m d : Nat) (xs ys : List DevV) (w : World) (h : RSl devR w (allB w) A n c xs) (g : RSl devR w (allB w) B m d ys) (V : Bool) (hV : V = true ↔ xs = ys) :
    Calls Tryz.prog 50 #[.slice A n c, .slice B m d] w fun e w' => e = .returned (.bool V) ∧ Below w.heap.size w w' := by
  have hle := h.le
  have hcap := h.cap
  have gle := g.le
  have gcap := g.cap
  have HL := Lib.hid h.len
  have GL := Lib.hid g.len
  have H := Lib.hid h
  have G := Lib.hid g
  have NO := Lib.hid (show ¬ xs = ys → V = false from fun hn => by cases hv : V with | false => rfl | true => exact absurd (hV.1 hv) hn)
  have YES := Lib.hid hV.2
  clear h g hV
  by_cases hnm : n = m
  rotate_left
  · have EV := Lib.hid (NO.out (fun e => hnm (by rw [← HL.out, ← GL.out, e])))
    have ne : ((n : Int) != (m : Int)) = true := by simp; omega
    clear hnm
    go_enter Tryz.func50, Tryz.ntmps50
    go_wp2
    go_ret
    exact ⟨by rw [EV.out]; rfl, Below.refl _ _⟩
  subst hnm
  go_enter Tryz.func50, Tryz.ntmps50
  go_wp2
  go_loopw [13] (fun i wr => ∃ k q : Nat, i = .int .i64 k ∧ k ≤ n ∧ wr = w.drewN q ∧ ∀ j, j < k → xs.getD j DevV.zero = ys.getD j DevV.zero) (fun i _ => match i with | .int _ y => (n - y).toNat | _ => 0)
  case atStart => exact ⟨0, 0, rfl, by omega, rfl, fun j hj => absurd hj (by omega)⟩
  case round =>
    obtain ⟨k, q, rfl, hk, rfl, hall⟩ := hrel
    have AL := Lib.hid hall
    clear hall
    by_cases hlt : k < n
    rotate_left
    · have lt2 : ¬ (k : Int) < (n : Int) := by omega
      have EV := Lib.hid (YES.out (list_eq_getD DevV.zero (by rw [HL.out, GL.out]) (fun j hj => AL.out j (by rw [HL.out] at hj; omega))))
      go_wp2
      go_ret
      exact ⟨by rw [EV.out]; rfl, below_drewN (Below.refl _ _) _⟩
    obtain ⟨b0, o0, vs, rfl, _, hb0, hvs, r0⟩ := rsl_at H.out k hlt DevV.zero
    obtain ⟨b1, o1, us, rfl, _, hb1, hus, r1⟩ := rsl_at G.out k hlt DevV.zero
    have hvs : vs = devC (xs.getD k DevV.zero) := hvs
    have hus : us = devC (ys.getD k DevV.zero) := hus
    subst hvs hus
    obtain ⟨X, hX⟩ : ∃ X, xs.getD k DevV.zero = X := ⟨_, rfl⟩
    obtain ⟨Y, hY⟩ : ∃ Y, ys.getD k DevV.zero = Y := ⟨_, rfl⟩
    rw [hX] at r0
    rw [hY] at r1
    have d0 := r0 0 _ rfl
    have e0_ := r1 0 _ rfl
    have d1 := r0 1 _ rfl
    have e1_ := r1 1 _ rfl
    have d2 := r0 2 _ rfl
    have e2_ := r1 2 _ rfl
    have d3 := r0 3 _ rfl
    have e3_ := r1 3 _ rfl
    have d4 := r0 4 _ rfl
    have e4_ := r1 4 _ rfl
    simp only [Nat.add_zero] at d0 e0_
    rw [show o0 + k * devR.n = o0 + k * 5 from rfl] at d0 d1 d2 d3 d4
    rw [show o1 + k * devR.n = o1 + k * 5 from rfl] at e0_ e1_ e2_ e3_ e4_
    have lt2 : (k : Int) < (n : Int) := by omega
    have HX := Lib.hid hX
    have HY := Lib.hid hY
    clear r0 r1 hX hY
    have NE := Lib.hid (show ¬ X = Y → V = false from fun hn => NO.out (fun g => hn (by rw [← HX.out, ← HY.out, g])))
    have ALk := Lib.hid (show X = Y → ∀ j, j < k + 1 → xs.getD j DevV.zero = ys.getD j DevV.zero from fun e j hj => by
      rcases Nat.lt_or_ge j k with h' | h'
      · exact AL.out j h'
      · obtain rfl : j = k := by omega
        rw [HX.out, HY.out, e])
    go_upto_region 6 with fail
    obtain ⟨B, hB⟩ : ∃ B : Bool, B = true ↔ X = Y := ⟨@decide (X = Y) (Classical.propDecidable _), @decide_eq_true_iff _ (Classical.propDecidable _)⟩
    have XE := fun W => eq_dev X Y B hB W
    unfold devC at XE
    have HB1 := Lib.hid (show B = true → X = Y from hB.1)
    have HB2 := Lib.hid (show B = false → ¬ X = Y from fun e g => by have := hB.2 g; rw [e] at this; cases this)
    clear hB
    cases B
    all_goals
      refine wp_region_text (fun wx => ∃ q, wx = w.drewN q) (by kernel_rfl) (by kernel_rfl) ⟨q + 1, rfl⟩ ?_
      repeat
        first
          | (refine Seq.pass rfl ?_; simp only [Act.put, List.setIfInBounds_toArray, List.set_cons_zero, List.set_cons_succ])
          | (refine Seq.run ?_ rfl (fun wx hx => ?_) ?_
             rotate_left
             · obtain ⟨qx, rfl⟩ := hx
               go_simp
               (refine StepRun.val ?_; exact ⟨_, rfl⟩)
             simp only [Act.put, List.setIfInBounds_toArray, List.set_cons_zero, List.set_cons_succ])
      refine Seq.last (fun w7 h7 => ?_)
      obtain ⟨q7, rfl⟩ := h7
    · have EV := Lib.hid (NE.out (HB2.out rfl))
      go_wp2
      go_ret
      exact ⟨by rw [EV.out]; rfl, below_drewN (Below.refl _ _) _⟩
    · have AK := Lib.hid (ALk.out (HB1.out rfl))
      go_wp2
      go_roundw
      case rel => exact ⟨k + 1, q7, by simp, by omega, rfl, AK.out⟩
      case measure => simp only []; omega
set_option maxRecDepth 20000 in
set_option maxHeartbeats 4000000 in
theorem eqs_link (A : Option Addr) (n c : Nat) (B : Option Addr) (m d : Nat) (xs ys : List LinkV) (w : World) (h : RSl linkR w (allB w) A n c xs) (g : RSl linkR w (allB w) B m d ys) (V : Bool) (hV : V = true ↔ xs = ys) :
    Calls Tryz.prog 53 #[.slice A n c, .slice B m d] w fun e w' => e = .returned (.bool V) ∧ Below w.heap.size w w' := by
  have hle := h.le
  have hcap := h.cap
  have gle := g.le
  have gcap := g.cap
  have HL := Lib.hid h.len
  have GL := Lib.hid g.len
  have H := Lib.hid h
  have G := Lib.hid g
  have NO := Lib.hid (show ¬ xs = ys → V = false from fun hn => by cases hv : V with | false => rfl | true => exact absurd (hV.1 hv) hn)
  have YES := Lib.hid hV.2
  clear h g hV
  by_cases hnm : n = m
  rotate_left
  · have EV := Lib.hid (NO.out (fun e => hnm (by rw [← HL.out, ← GL.out, e])))
    have ne : ((n : Int) != (m : Int)) = true := by simp; omega
    clear hnm
    go_enter Tryz.func53, Tryz.ntmps53
    go_wp2
    go_ret
    exact ⟨by rw [EV.out]; rfl, Below.refl _ _⟩
  subst hnm
  go_enter Tryz.func53, Tryz.ntmps53
  go_wp2
  go_loopw [13] (fun i wr => ∃ k q : Nat, i = .int .i64 k ∧ k ≤ n ∧ wr = w.drewN q ∧ ∀ j, j < k → xs.getD j LinkV.zero = ys.getD j LinkV.zero) (fun i _ => match i with | .int _ y => (n - y).toNat | _ => 0)
  case atStart => exact ⟨0, 0, rfl, by omega, rfl, fun j hj => absurd hj (by omega)⟩
  case round =>
    obtain ⟨k, q, rfl, hk, rfl, hall⟩ := hrel
    have AL := Lib.hid hall
    clear hall
    by_cases hlt : k < n
    rotate_left
    · have lt2 : ¬ (k : Int) < (n : Int) := by omega
      have EV := Lib.hid (YES.out (list_eq_getD LinkV.zero (by rw [HL.out, GL.out]) (fun j hj => AL.out j (by rw [HL.out] at hj; omega))))
      go_wp2
      go_ret
      exact ⟨by rw [EV.out]; rfl, below_drewN (Below.refl _ _) _⟩
    obtain ⟨b0, o0, vs, rfl, _, hb0, hvs, r0⟩ := rsl_at H.out k hlt LinkV.zero
    obtain ⟨b1, o1, us, rfl, _, hb1, hus, r1⟩ := rsl_at G.out k hlt LinkV.zero
    have hvs : vs = linkC (xs.getD k LinkV.zero) := hvs
    have hus : us = linkC (ys.getD k LinkV.zero) := hus
    subst hvs hus
    obtain ⟨X, hX⟩ : ∃ X, xs.getD k LinkV.zero = X := ⟨_, rfl⟩
    obtain ⟨Y, hY⟩ : ∃ Y, ys.getD k LinkV.zero = Y := ⟨_, rfl⟩
    rw [hX] at r0
    rw [hY] at r1
    have d0 := r0 0 _ rfl
    have e0_ := r1 0 _ rfl
    have d1 := r0 1 _ rfl
    have e1_ := r1 1 _ rfl
    have d2 := r0 2 _ rfl
    have e2_ := r1 2 _ rfl
    simp only [Nat.add_zero] at d0 e0_
    rw [show o0 + k * linkR.n = o0 + k * 3 from rfl] at d0 d1 d2
    rw [show o1 + k * linkR.n = o1 + k * 3 from rfl] at e0_ e1_ e2_
    have lt2 : (k : Int) < (n : Int) := by omega
    have HX := Lib.hid hX
    have HY := Lib.hid hY
    clear r0 r1 hX hY
    have NE := Lib.hid (show ¬ X = Y → V = false from fun hn => NO.out (fun g => hn (by rw [← HX.out, ← HY.out, g])))
    have ALk := Lib.hid (show X = Y → ∀ j, j < k + 1 → xs.getD j LinkV.zero = ys.getD j LinkV.zero from fun e j hj => by
      rcases Nat.lt_or_ge j k with h' | h'
      · exact AL.out j h'
      · obtain rfl : j = k := by omega
        rw [HX.out, HY.out, e])
    go_upto_region 6 with fail
    obtain ⟨B, hB⟩ : ∃ B : Bool, B = true ↔ X = Y := ⟨@decide (X = Y) (Classical.propDecidable _), @decide_eq_true_iff _ (Classical.propDecidable _)⟩
    have XE := fun W => eq_link X Y B hB W
    unfold linkC at XE
    have HB1 := Lib.hid (show B = true → X = Y from hB.1)
    have HB2 := Lib.hid (show B = false → ¬ X = Y from fun e g => by have := hB.2 g; rw [e] at this; cases this)
    clear hB
    cases B
    all_goals
      refine wp_region_text (fun wx => ∃ q, wx = w.drewN q) (by kernel_rfl) (by kernel_rfl) ⟨q + 1, rfl⟩ ?_
      repeat
        first
          | (refine Seq.pass rfl ?_; simp only [Act.put, List.setIfInBounds_toArray, List.set_cons_zero, List.set_cons_succ])
          | (refine Seq.run ?_ rfl (fun wx hx => ?_) ?_
             rotate_left
             · obtain ⟨qx, rfl⟩ := hx
               go_simp
               (refine StepRun.val ?_; exact ⟨_, rfl⟩)
             simp only [Act.put, List.setIfInBounds_toArray, List.set_cons_zero, List.set_cons_succ])
      refine Seq.last (fun w7 h7 => ?_)
      obtain ⟨q7, rfl⟩ := h7
    · have EV := Lib.hid (NE.out (HB2.out rfl))
      go_wp2
      go_ret
      exact ⟨by rw [EV.out]; rfl, below_drewN (Below.refl _ _) _⟩
    · have AK := Lib.hid (ALk.out (HB1.out rfl))
      go_wp2
      go_roundw
      case rel => exact ⟨k + 1, q7, by simp, by omega, rfl, AK.out⟩
      case measure => simp only []; omega
set_option maxRecDepth 20000 in
set_option maxHeartbeats 4000000 in
theorem eqs_stat (A : Option Addr) (n c : Nat) (B : Option Addr) (m d : Nat) (xs ys : List StatV) (w : World) (h : RSl statR w (allB w) A n c xs) (g : RSl statR w (allB w) B m d ys) (V : Bool) (hV : V = true ↔ xs = ys) :
    Calls Tryz.prog 56 #[.slice A n c, .slice B m d] w fun e w' => e = .returned (.bool V) ∧ Below w.heap.size w w' := by
  have hle := h.le
  have hcap := h.cap
  have gle := g.le
  have gcap := g.cap
  have HL := Lib.hid h.len
  have GL := Lib.hid g.len
  have H := Lib.hid h
  have G := Lib.hid g
  have NO := Lib.hid (show ¬ xs = ys → V = false from fun hn => by cases hv : V with | false => rfl | true => exact absurd (hV.1 hv) hn)
  have YES := Lib.hid hV.2
  clear h g hV
  by_cases hnm : n = m
  rotate_left
  · have EV := Lib.hid (NO.out (fun e => hnm (by rw [← HL.out, ← GL.out, e])))
    have ne : ((n : Int) != (m : Int)) = true := by simp; omega
    clear hnm
    go_enter Tryz.func56, Tryz.ntmps56
    go_wp2
    go_ret
    exact ⟨by rw [EV.out]; rfl, Below.refl _ _⟩
  subst hnm
  go_enter Tryz.func56, Tryz.ntmps56
  go_wp2
  go_loopw [13] (fun i wr => ∃ k q : Nat, i = .int .i64 k ∧ k ≤ n ∧ wr = w.drewN q ∧ ∀ j, j < k → xs.getD j StatV.zero = ys.getD j StatV.zero) (fun i _ => match i with | .int _ y => (n - y).toNat | _ => 0)
  case atStart => exact ⟨0, 0, rfl, by omega, rfl, fun j hj => absurd hj (by omega)⟩
  case round =>
    obtain ⟨k, q, rfl, hk, rfl, hall⟩ := hrel
    have AL := Lib.hid hall
    clear hall
    by_cases hlt : k < n
    rotate_left
    · have lt2 : ¬ (k : Int) < (n : Int) := by omega
      have EV := Lib.hid (YES.out (list_eq_getD StatV.zero (by rw [HL.out, GL.out]) (fun j hj => AL.out j (by rw [HL.out] at hj; omega))))
      go_wp2
      go_ret
      exact ⟨by rw [EV.out]; rfl, below_drewN (Below.refl _ _) _⟩
    obtain ⟨b0, o0, vs, rfl, _, hb0, hvs, r0⟩ := rsl_at H.out k hlt StatV.zero
    obtain ⟨b1, o1, us, rfl, _, hb1, hus, r1⟩ := rsl_at G.out k hlt StatV.zero
    have hvs : vs = statC (xs.getD k StatV.zero) := hvs
    have hus : us = statC (ys.getD k StatV.zero) := hus
    subst hvs hus
    obtain ⟨X, hX⟩ : ∃ X, xs.getD k StatV.zero = X := ⟨_, rfl⟩
    obtain ⟨Y, hY⟩ : ∃ Y, ys.getD k StatV.zero = Y := ⟨_, rfl⟩
    rw [hX] at r0
    rw [hY] at r1
    have d0 := r0 0 _ rfl
    have e0_ := r1 0 _ rfl
    have d1 := r0 1 _ rfl
    have e1_ := r1 1 _ rfl
    have d2 := r0 2 _ rfl
    have e2_ := r1 2 _ rfl
    have d3 := r0 3 _ rfl
    have e3_ := r1 3 _ rfl
    simp only [Nat.add_zero] at d0 e0_
    rw [show o0 + k * statR.n = o0 + k * 4 from rfl] at d0 d1 d2 d3
    rw [show o1 + k * statR.n = o1 + k * 4 from rfl] at e0_ e1_ e2_ e3_
    have lt2 : (k : Int) < (n : Int) := by omega
    have HX := Lib.hid hX
    have HY := Lib.hid hY
    clear r0 r1 hX hY
    have NE := Lib.hid (show ¬ X = Y → V = false from fun hn => NO.out (fun g => hn (by rw [← HX.out, ← HY.out, g])))
    have ALk := Lib.hid (show X = Y → ∀ j, j < k + 1 → xs.getD j StatV.zero = ys.getD j StatV.zero from fun e j hj => by
      rcases Nat.lt_or_ge j k with h' | h'
      · exact AL.out j h'
      · obtain rfl : j = k := by omega
        rw [HX.out, HY.out, e])
    go_upto_region 6 with fail
    obtain ⟨B, hB⟩ : ∃ B : Bool, B = true ↔ X = Y := ⟨@decide (X = Y) (Classical.propDecidable _), @decide_eq_true_iff _ (Classical.propDecidable _)⟩
    have XE := fun W => eq_stat X Y B hB W
    unfold statC at XE
    have HB1 := Lib.hid (show B = true → X = Y from hB.1)
    have HB2 := Lib.hid (show B = false → ¬ X = Y from fun e g => by have := hB.2 g; rw [e] at this; cases this)
    clear hB
    cases B
    all_goals
      refine wp_region_text (fun wx => ∃ q, wx = w.drewN q) (by kernel_rfl) (by kernel_rfl) ⟨q + 1, rfl⟩ ?_
      repeat
        first
          | (refine Seq.pass rfl ?_; simp only [Act.put, List.setIfInBounds_toArray, List.set_cons_zero, List.set_cons_succ])
          | (refine Seq.run ?_ rfl (fun wx hx => ?_) ?_
             rotate_left
             · obtain ⟨qx, rfl⟩ := hx
               go_simp
               (refine StepRun.val ?_; exact ⟨_, rfl⟩)
             simp only [Act.put, List.setIfInBounds_toArray, List.set_cons_zero, List.set_cons_succ])
      refine Seq.last (fun w7 h7 => ?_)
      obtain ⟨q7, rfl⟩ := h7
    · have EV := Lib.hid (NE.out (HB2.out rfl))
      go_wp2
      go_ret
      exact ⟨by rw [EV.out]; rfl, below_drewN (Below.refl _ _) _⟩
    · have AK := Lib.hid (ALk.out (HB1.out rfl))
      go_wp2
      go_roundw
      case rel => exact ⟨k + 1, q7, by simp, by omega, rfl, AK.out⟩
      case measure => simp only []; omega
set_option maxRecDepth 20000 in
set_option maxHeartbeats 4000000 in
theorem eqs_irb (A : Option Addr) (n c : Nat) (B : Option Addr) (m d : Nat) (xs ys : List IrbV) (w : World) (h : RSl irbR w (allB w) A n c xs) (g : RSl irbR w (allB w) B m d ys) (V : Bool) (hV : V = true ↔ xs = ys) :
    Calls Tryz.prog 61 #[.slice A n c, .slice B m d] w fun e w' => e = .returned (.bool V) ∧ Below w.heap.size w w' := by
  have hle := h.le
  have hcap := h.cap
  have gle := g.le
  have gcap := g.cap
  have HL := Lib.hid h.len
  have GL := Lib.hid g.len
  have H := Lib.hid h
  have G := Lib.hid g
  have NO := Lib.hid (show ¬ xs = ys → V = false from fun hn => by cases hv : V with | false => rfl | true => exact absurd (hV.1 hv) hn)
  have YES := Lib.hid hV.2
  clear h g hV
  by_cases hnm : n = m
  rotate_left
  · have EV := Lib.hid (NO.out (fun e => hnm (by rw [← HL.out, ← GL.out, e])))
    have ne : ((n : Int) != (m : Int)) = true := by simp; omega
    clear hnm
    go_enter Tryz.func61, Tryz.ntmps61
    go_wp2
    go_ret
    exact ⟨by rw [EV.out]; rfl, Below.refl _ _⟩
  subst hnm
  go_enter Tryz.func61, Tryz.ntmps61
  go_wp2
  go_loopw [13] (fun i wr => ∃ k q : Nat, i = .int .i64 k ∧ k ≤ n ∧ wr = w.drewN q ∧ ∀ j, j < k → xs.getD j IrbV.zero = ys.getD j IrbV.zero) (fun i _ => match i with | .int _ y => (n - y).toNat | _ => 0)
  case atStart => exact ⟨0, 0, rfl, by omega, rfl, fun j hj => absurd hj (by omega)⟩
  case round =>
    obtain ⟨k, q, rfl, hk, rfl, hall⟩ := hrel
    have AL := Lib.hid hall
    clear hall
    by_cases hlt : k < n
    rotate_left
    · have lt2 : ¬ (k : Int) < (n : Int) := by omega
      have EV := Lib.hid (YES.out (list_eq_getD IrbV.zero (by rw [HL.out, GL.out]) (fun j hj => AL.out j (by rw [HL.out] at hj; omega))))
      go_wp2
      go_ret
      exact ⟨by rw [EV.out]; rfl, below_drewN (Below.refl _ _) _⟩
    obtain ⟨b0, o0, vs, rfl, _, hb0, hvs, r0⟩ := rsl_at H.out k hlt IrbV.zero
    obtain ⟨b1, o1, us, rfl, _, hb1, hus, r1⟩ := rsl_at G.out k hlt IrbV.zero
    have hvs : vs = irbC (xs.getD k IrbV.zero) := hvs
    have hus : us = irbC (ys.getD k IrbV.zero) := hus
    subst hvs hus
    obtain ⟨X, hX⟩ : ∃ X, xs.getD k IrbV.zero = X := ⟨_, rfl⟩
    obtain ⟨Y, hY⟩ : ∃ Y, ys.getD k IrbV.zero = Y := ⟨_, rfl⟩
    rw [hX] at r0
    rw [hY] at r1
    have d0 := r0 0 _ rfl
    have e0_ := r1 0 _ rfl
    have d1 := r0 1 _ rfl
    have e1_ := r1 1 _ rfl
    have d2 := r0 2 _ rfl
    have e2_ := r1 2 _ rfl
    have d3 := r0 3 _ rfl
    have e3_ := r1 3 _ rfl
    have d4 := r0 4 _ rfl
    have e4_ := r1 4 _ rfl
    simp only [Nat.add_zero] at d0 e0_
    rw [show o0 + k * irbR.n = o0 + k * 5 from rfl] at d0 d1 d2 d3 d4
    rw [show o1 + k * irbR.n = o1 + k * 5 from rfl] at e0_ e1_ e2_ e3_ e4_
    have lt2 : (k : Int) < (n : Int) := by omega
    have HX := Lib.hid hX
    have HY := Lib.hid hY
    clear r0 r1 hX hY
    have NE := Lib.hid (show ¬ X = Y → V = false from fun hn => NO.out (fun g => hn (by rw [← HX.out, ← HY.out, g])))
    have ALk := Lib.hid (show X = Y → ∀ j, j < k + 1 → xs.getD j IrbV.zero = ys.getD j IrbV.zero from fun e j hj => by
      rcases Nat.lt_or_ge j k with h' | h'
      · exact AL.out j h'
      · obtain rfl : j = k := by omega
        rw [HX.out, HY.out, e])
    go_upto_region 6 with fail
    obtain ⟨B, hB⟩ : ∃ B : Bool, B = true ↔ X = Y := ⟨@decide (X = Y) (Classical.propDecidable _), @decide_eq_true_iff _ (Classical.propDecidable _)⟩
    have XE := fun W => eq_irb X Y B hB W
    unfold irbC at XE
    have HB1 := Lib.hid (show B = true → X = Y from hB.1)
    have HB2 := Lib.hid (show B = false → ¬ X = Y from fun e g => by have := hB.2 g; rw [e] at this; cases this)
    clear hB
    cases B
    all_goals
      refine wp_region_text (fun wx => ∃ q, wx = w.drewN q) (by kernel_rfl) (by kernel_rfl) ⟨q + 1, rfl⟩ ?_
      repeat
        first
          | (refine Seq.pass rfl ?_; simp only [Act.put, List.setIfInBounds_toArray, List.set_cons_zero, List.set_cons_succ])
          | (refine Seq.run ?_ rfl (fun wx hx => ?_) ?_
             rotate_left
             · obtain ⟨qx, rfl⟩ := hx
               go_simp
               (refine StepRun.val ?_; exact ⟨_, rfl⟩)
             simp only [Act.put, List.setIfInBounds_toArray, List.set_cons_zero, List.set_cons_succ])
      refine Seq.last (fun w7 h7 => ?_)
      obtain ⟨q7, rfl⟩ := h7
    · have EV := Lib.hid (NE.out (HB2.out rfl))
      go_wp2
      go_ret
      exact ⟨by rw [EV.out]; rfl, below_drewN (Below.refl _ _) _⟩
    · have AK := Lib.hid (ALk.out (HB1.out rfl))
      go_wp2
      go_roundw
      case rel => exact ⟨k + 1, q7, by simp, by omega, rfl, AK.out⟩
      case measure => simp only []; omega
set_option maxRecDepth 20000 in
set_option maxHeartbeats 4000000 in
theorem same_port (X Y : PortV) (s t : Sl3) (w : World) (h1 : RSl (Rdr.int .i64) w (allB w) s.A s.n s.c X.tagged) (g1 : RSl (Rdr.int .i64) w (allB w) t.A t.n t.c Y.tagged) (V : Bool) (hV : V = true ↔ X = Y) : Calls Tryz.prog 52 #[.agg #[.int .i64 X.row, .int .i64 X.dev, .int .i64 X.native, .int .i64 X.cost, .int .i64 X.link, .string (str X.name), .slice s.A s.n s.c], .agg #[.int .i64 Y.row, .int .i64 Y.dev, .int .i64 Y.native, .int .i64 Y.cost, .int .i64 Y.link, .string (str Y.name), .slice t.A t.n t.c]] w fun e w' => e = .returned (.bool V) ∧ Below w.heap.size w w' := by
  have Q1 := fun (w' : World) (hb : Below w.heap.size w w') => eqi_any s t X.tagged Y.tagged w' (isl_rsl (up_rsl h1 hb)) (isl_rsl (up_rsl g1 hb))
  obtain ⟨q1, hq1⟩ : ∃ v, (X.tagged == Y.tagged) = v := ⟨_, rfl⟩
  rw [hq1] at Q1
  have Q1 := Lib.hid Q1
  have NO := Lib.hid (show ¬ X = Y → V = false from fun hn => by cases hv : V with | false => rfl | true => exact absurd (hV.1 hv) hn)
  have YES := Lib.hid hV.2
  have B0 := Lib.hid (alloc2_below w (.cells #[.int .i64 X.row, .int .i64 X.dev, .int .i64 X.native, .int .i64 X.cost, .int .i64 X.link, .string (str X.name), .slice s.A s.n s.c] 68) (.cells #[.int .i64 Y.row, .int .i64 Y.dev, .int .i64 Y.native, .int .i64 Y.cost, .int .i64 Y.link, .string (str Y.name), .slice t.A t.n t.c] 68))
  have K0 := Lib.hid (show ∀ W, (w.alloc (.cells #[.int .i64 X.row, .int .i64 X.dev, .int .i64 X.native, .int .i64 X.cost, .int .i64 X.link, .string (str X.name), .slice s.A s.n s.c] 68)).alloc (.cells #[.int .i64 Y.row, .int .i64 Y.dev, .int .i64 Y.native, .int .i64 Y.cost, .int .i64 Y.link, .string (str Y.name), .slice t.A t.n t.c] 68) = W → ∀ wx, Drew W wx → Cs wx w.heap.size [.int .i64 X.row, .int .i64 X.dev, .int .i64 X.native, .int .i64 X.cost, .int .i64 X.link, .string (str X.name), .slice s.A s.n s.c] ∧ Cs wx (w.heap.size + 1) [.int .i64 Y.row, .int .i64 Y.dev, .int .i64 Y.native, .int .i64 Y.cost, .int .i64 Y.link, .string (str Y.name), .slice t.A t.n t.c] ∧ Below w.heap.size w wx from fun W hW wx hx => by
    have bb : Below W.heap.size W wx := Below.drew (Below.refl _ _) hx
    subst hW
    have h1 := Cs.new w [.int .i64 X.row, .int .i64 X.dev, .int .i64 X.native, .int .i64 X.cost, .int .i64 X.link, .string (str X.name), .slice s.A s.n s.c] 68
    have h2 := Cs.new (w.alloc (.cells #[.int .i64 X.row, .int .i64 X.dev, .int .i64 X.native, .int .i64 X.cost, .int .i64 X.link, .string (str X.name), .slice s.A s.n s.c] 68)) [.int .i64 Y.row, .int .i64 Y.dev, .int .i64 Y.native, .int .i64 Y.cost, .int .i64 Y.link, .string (str Y.name), .slice t.A t.n t.c] 68
    rw [show (w.alloc (.cells #[.int .i64 X.row, .int .i64 X.dev, .int .i64 X.native, .int .i64 X.cost, .int .i64 X.link, .string (str X.name), .slice s.A s.n s.c] 68)).heap.size = w.heap.size + 1 by simp] at h2
    exact ⟨(h1.below (alloc_below _ _)).below bb, h2.below bb, (alloc2_below w _ _).trans (bb.mono (alloc2_below w _ _).size)⟩)
  clear h1 g1 hV
  go_enter Tryz.func52, Tryz.ntmps52
  go_upto_region 1 with fail
  obtain ⟨W, hW⟩ : ∃ W, (w.alloc (.cells #[.int .i64 X.row, .int .i64 X.dev, .int .i64 X.native, .int .i64 X.cost, .int .i64 X.link, .string (str X.name), .slice s.A s.n s.c] 68)).alloc (.cells #[.int .i64 Y.row, .int .i64 Y.dev, .int .i64 Y.native, .int .i64 Y.cost, .int .i64 Y.link, .string (str Y.name), .slice t.A t.n t.c] 68) = W := ⟨_, rfl⟩
  have K := Lib.hid (K0.out W hW)
  rw [hW]
  rw [hW] at B0
  clear hW K0
  obtain ⟨hx0, hy0, _⟩ := K.out W (Drew.refl _)
  have ql1 := hx0.2
  have ql2 := hy0.2
  have c0 := hx0.1 0 _ rfl
  have m0 := hy0.1 0 _ rfl
  have c1 := hx0.1 1 _ rfl
  have m1 := hy0.1 1 _ rfl
  have c2 := hx0.1 2 _ rfl
  have m2 := hy0.1 2 _ rfl
  have c3 := hx0.1 3 _ rfl
  have m3 := hy0.1 3 _ rfl
  have c4 := hx0.1 4 _ rfl
  have m4 := hy0.1 4 _ rfl
  have c5 := hx0.1 5 _ rfl
  have m5 := hy0.1 5 _ rfl
  have c6 := hx0.1 6 _ rfl
  have m6 := hy0.1 6 _ rfl
  clear hx0 hy0
  by_cases t_row : X.row = Y.row
  rotate_left
  · have z_row : (X.row == Y.row) = false := by simpa using t_row
    have EV := Lib.hid (NO.out (fun e => t_row (by rw [e])))
    clear t_row
    go_wp2
    go_ret
    exact ⟨by rw [EV.out]; rfl, B0.out⟩
  have z_row : (X.row == Y.row) = true := by simpa using t_row
  by_cases t_dev : X.dev = Y.dev
  rotate_left
  · have z_dev : (X.dev == Y.dev) = false := by simpa using t_dev
    have EV := Lib.hid (NO.out (fun e => t_dev (by rw [e])))
    clear t_dev t_row
    go_wp2
    go_ret
    exact ⟨by rw [EV.out]; rfl, B0.out⟩
  have z_dev : (X.dev == Y.dev) = true := by simpa using t_dev
  by_cases t_native : X.native = Y.native
  rotate_left
  · have z_native : (X.native == Y.native) = false := by simpa using t_native
    have EV := Lib.hid (NO.out (fun e => t_native (by rw [e])))
    clear t_native t_row t_dev
    go_wp2
    go_ret
    exact ⟨by rw [EV.out]; rfl, B0.out⟩
  have z_native : (X.native == Y.native) = true := by simpa using t_native
  by_cases t_cost : X.cost = Y.cost
  rotate_left
  · have z_cost : (X.cost == Y.cost) = false := by simpa using t_cost
    have EV := Lib.hid (NO.out (fun e => t_cost (by rw [e])))
    clear t_cost t_row t_dev t_native
    go_wp2
    go_ret
    exact ⟨by rw [EV.out]; rfl, B0.out⟩
  have z_cost : (X.cost == Y.cost) = true := by simpa using t_cost
  by_cases t_link : X.link = Y.link
  rotate_left
  · have z_link : (X.link == Y.link) = false := by simpa using t_link
    have EV := Lib.hid (NO.out (fun e => t_link (by rw [e])))
    clear t_link t_row t_dev t_native t_cost
    go_wp2
    go_ret
    exact ⟨by rw [EV.out]; rfl, B0.out⟩
  have z_link : (X.link == Y.link) = true := by simpa using t_link
  by_cases t_name : X.name = Y.name
  rotate_left
  · have z_name : (X.name == Y.name) = false := by simpa using t_name
    have EV := Lib.hid (NO.out (fun e => t_name (by rw [e])))
    clear t_name t_row t_dev t_native t_cost t_link
    go_wp2
    go_ret
    exact ⟨by rw [EV.out]; rfl, B0.out⟩
  have z_name : (X.name == Y.name) = true := by simpa using t_name
  cases q1 with
  | false =>
    have EV := Lib.hid (NO.out (fun e => by rw [e] at hq1; simp at hq1))
    clear hq1 t_row t_dev t_native t_cost t_link t_name
    go_wp2_with (first | (go_at_call 115; (with_reducible refine (Q1.out _ B0.out).mono ?_); rintro e w1 ⟨rfl, hd⟩; have D1 := Lib.hid (show Drew W w1 from hd); have B1 := Lib.hid (K.out _ D1.out).2.2; clear hd))
    go_ret
    exact ⟨by rw [EV.out]; rfl, B1.out⟩
  | true =>
  have EV := Lib.hid (YES.out (port_ext t_row t_dev t_native t_cost t_link t_name (by simpa using hq1)))
  clear t_row t_dev t_native t_cost t_link t_name hq1
  go_wp2_with (first | (go_at_call 115; (with_reducible refine (Q1.out _ B0.out).mono ?_); rintro e w1 ⟨rfl, hd⟩; have D1 := Lib.hid (show Drew W w1 from hd); have B1 := Lib.hid (K.out _ D1.out).2.2; clear hd))
  go_ret
  exact ⟨by rw [EV.out]; rfl, B1.out⟩
set_option maxRecDepth 20000 in
set_option maxHeartbeats 4000000 in
theorem same_dom (X Y : DomV) (s t : Sl3) (w : World) (h1 : RSl (Rdr.int .i64) w (allB w) s.A s.n s.c X.peers) (g1 : RSl (Rdr.int .i64) w (allB w) t.A t.n t.c Y.peers) (V : Bool) (hV : V = true ↔ X = Y) : Calls Tryz.prog 55 #[.agg #[.int .i64 X.dev, .int .i64 X.vlan, .int .i64 X.vni, .int .i64 X.irb, .int .i64 X.row, .slice s.A s.n s.c], .agg #[.int .i64 Y.dev, .int .i64 Y.vlan, .int .i64 Y.vni, .int .i64 Y.irb, .int .i64 Y.row, .slice t.A t.n t.c]] w fun e w' => e = .returned (.bool V) ∧ Below w.heap.size w w' := by
  have Q1 := fun (w' : World) (hb : Below w.heap.size w w') => eqi_any s t X.peers Y.peers w' (isl_rsl (up_rsl h1 hb)) (isl_rsl (up_rsl g1 hb))
  obtain ⟨q1, hq1⟩ : ∃ v, (X.peers == Y.peers) = v := ⟨_, rfl⟩
  rw [hq1] at Q1
  have Q1 := Lib.hid Q1
  have NO := Lib.hid (show ¬ X = Y → V = false from fun hn => by cases hv : V with | false => rfl | true => exact absurd (hV.1 hv) hn)
  have YES := Lib.hid hV.2
  have B0 := Lib.hid (alloc2_below w (.cells #[.int .i64 X.dev, .int .i64 X.vlan, .int .i64 X.vni, .int .i64 X.irb, .int .i64 X.row, .slice s.A s.n s.c] 54) (.cells #[.int .i64 Y.dev, .int .i64 Y.vlan, .int .i64 Y.vni, .int .i64 Y.irb, .int .i64 Y.row, .slice t.A t.n t.c] 54))
  have K0 := Lib.hid (show ∀ W, (w.alloc (.cells #[.int .i64 X.dev, .int .i64 X.vlan, .int .i64 X.vni, .int .i64 X.irb, .int .i64 X.row, .slice s.A s.n s.c] 54)).alloc (.cells #[.int .i64 Y.dev, .int .i64 Y.vlan, .int .i64 Y.vni, .int .i64 Y.irb, .int .i64 Y.row, .slice t.A t.n t.c] 54) = W → ∀ wx, Drew W wx → Cs wx w.heap.size [.int .i64 X.dev, .int .i64 X.vlan, .int .i64 X.vni, .int .i64 X.irb, .int .i64 X.row, .slice s.A s.n s.c] ∧ Cs wx (w.heap.size + 1) [.int .i64 Y.dev, .int .i64 Y.vlan, .int .i64 Y.vni, .int .i64 Y.irb, .int .i64 Y.row, .slice t.A t.n t.c] ∧ Below w.heap.size w wx from fun W hW wx hx => by
    have bb : Below W.heap.size W wx := Below.drew (Below.refl _ _) hx
    subst hW
    have h1 := Cs.new w [.int .i64 X.dev, .int .i64 X.vlan, .int .i64 X.vni, .int .i64 X.irb, .int .i64 X.row, .slice s.A s.n s.c] 54
    have h2 := Cs.new (w.alloc (.cells #[.int .i64 X.dev, .int .i64 X.vlan, .int .i64 X.vni, .int .i64 X.irb, .int .i64 X.row, .slice s.A s.n s.c] 54)) [.int .i64 Y.dev, .int .i64 Y.vlan, .int .i64 Y.vni, .int .i64 Y.irb, .int .i64 Y.row, .slice t.A t.n t.c] 54
    rw [show (w.alloc (.cells #[.int .i64 X.dev, .int .i64 X.vlan, .int .i64 X.vni, .int .i64 X.irb, .int .i64 X.row, .slice s.A s.n s.c] 54)).heap.size = w.heap.size + 1 by simp] at h2
    exact ⟨(h1.below (alloc_below _ _)).below bb, h2.below bb, (alloc2_below w _ _).trans (bb.mono (alloc2_below w _ _).size)⟩)
  clear h1 g1 hV
  go_enter Tryz.func55, Tryz.ntmps55
  go_upto_region 1 with fail
  obtain ⟨W, hW⟩ : ∃ W, (w.alloc (.cells #[.int .i64 X.dev, .int .i64 X.vlan, .int .i64 X.vni, .int .i64 X.irb, .int .i64 X.row, .slice s.A s.n s.c] 54)).alloc (.cells #[.int .i64 Y.dev, .int .i64 Y.vlan, .int .i64 Y.vni, .int .i64 Y.irb, .int .i64 Y.row, .slice t.A t.n t.c] 54) = W := ⟨_, rfl⟩
  have K := Lib.hid (K0.out W hW)
  rw [hW]
  rw [hW] at B0
  clear hW K0
  obtain ⟨hx0, hy0, _⟩ := K.out W (Drew.refl _)
  have ql1 := hx0.2
  have ql2 := hy0.2
  have c0 := hx0.1 0 _ rfl
  have m0 := hy0.1 0 _ rfl
  have c1 := hx0.1 1 _ rfl
  have m1 := hy0.1 1 _ rfl
  have c2 := hx0.1 2 _ rfl
  have m2 := hy0.1 2 _ rfl
  have c3 := hx0.1 3 _ rfl
  have m3 := hy0.1 3 _ rfl
  have c4 := hx0.1 4 _ rfl
  have m4 := hy0.1 4 _ rfl
  have c5 := hx0.1 5 _ rfl
  have m5 := hy0.1 5 _ rfl
  clear hx0 hy0
  by_cases t_dev : X.dev = Y.dev
  rotate_left
  · have z_dev : (X.dev == Y.dev) = false := by simpa using t_dev
    have EV := Lib.hid (NO.out (fun e => t_dev (by rw [e])))
    clear t_dev
    go_wp2
    go_ret
    exact ⟨by rw [EV.out]; rfl, B0.out⟩
  have z_dev : (X.dev == Y.dev) = true := by simpa using t_dev
  by_cases t_vlan : X.vlan = Y.vlan
  rotate_left
  · have z_vlan : (X.vlan == Y.vlan) = false := by simpa using t_vlan
    have EV := Lib.hid (NO.out (fun e => t_vlan (by rw [e])))
    clear t_vlan t_dev
    go_wp2
    go_ret
    exact ⟨by rw [EV.out]; rfl, B0.out⟩
  have z_vlan : (X.vlan == Y.vlan) = true := by simpa using t_vlan
  by_cases t_vni : X.vni = Y.vni
  rotate_left
  · have z_vni : (X.vni == Y.vni) = false := by simpa using t_vni
    have EV := Lib.hid (NO.out (fun e => t_vni (by rw [e])))
    clear t_vni t_dev t_vlan
    go_wp2
    go_ret
    exact ⟨by rw [EV.out]; rfl, B0.out⟩
  have z_vni : (X.vni == Y.vni) = true := by simpa using t_vni
  by_cases t_irb : X.irb = Y.irb
  rotate_left
  · have z_irb : (X.irb == Y.irb) = false := by simpa using t_irb
    have EV := Lib.hid (NO.out (fun e => t_irb (by rw [e])))
    clear t_irb t_dev t_vlan t_vni
    go_wp2
    go_ret
    exact ⟨by rw [EV.out]; rfl, B0.out⟩
  have z_irb : (X.irb == Y.irb) = true := by simpa using t_irb
  by_cases t_row : X.row = Y.row
  rotate_left
  · have z_row : (X.row == Y.row) = false := by simpa using t_row
    have EV := Lib.hid (NO.out (fun e => t_row (by rw [e])))
    clear t_row t_dev t_vlan t_vni t_irb
    go_wp2
    go_ret
    exact ⟨by rw [EV.out]; rfl, B0.out⟩
  have z_row : (X.row == Y.row) = true := by simpa using t_row
  cases q1 with
  | false =>
    have EV := Lib.hid (NO.out (fun e => by rw [e] at hq1; simp at hq1))
    clear hq1 t_dev t_vlan t_vni t_irb t_row
    go_wp2_with (first | (go_at_call 115; (with_reducible refine (Q1.out _ B0.out).mono ?_); rintro e w1 ⟨rfl, hd⟩; have D1 := Lib.hid (show Drew W w1 from hd); have B1 := Lib.hid (K.out _ D1.out).2.2; clear hd))
    go_ret
    exact ⟨by rw [EV.out]; rfl, B1.out⟩
  | true =>
  have EV := Lib.hid (YES.out (dom_ext t_dev t_vlan t_vni t_irb t_row (by simpa using hq1)))
  clear t_dev t_vlan t_vni t_irb t_row hq1
  go_wp2_with (first | (go_at_call 115; (with_reducible refine (Q1.out _ B0.out).mono ?_); rintro e w1 ⟨rfl, hd⟩; have D1 := Lib.hid (show Drew W w1 from hd); have B1 := Lib.hid (K.out _ D1.out).2.2; clear hd))
  go_ret
  exact ⟨by rw [EV.out]; rfl, B1.out⟩
set_option maxRecDepth 20000 in
set_option maxHeartbeats 4000000 in
theorem same_flood (X Y : FloodV) (s t : Sl3) (w : World) (h1 : RSl (Rdr.int .u32) w (allB w) s.A s.n s.c X.addrs) (g1 : RSl (Rdr.int .u32) w (allB w) t.A t.n t.c Y.addrs) (V : Bool) (hV : V = true ↔ X = Y) : Calls Tryz.prog 58 #[.agg #[.int .i64 X.row, .int .i64 X.dev, .int .i64 X.vni, .slice s.A s.n s.c], .agg #[.int .i64 Y.row, .int .i64 Y.dev, .int .i64 Y.vni, .slice t.A t.n t.c]] w fun e w' => e = .returned (.bool V) ∧ Below w.heap.size w w' := by
  have Q1 := fun (w' : World) (hb : Below w.heap.size w w') => equ_any s t X.addrs Y.addrs w' (isl_rsl (up_rsl h1 hb)) (isl_rsl (up_rsl g1 hb))
  obtain ⟨q1, hq1⟩ : ∃ v, (X.addrs == Y.addrs) = v := ⟨_, rfl⟩
  rw [hq1] at Q1
  have Q1 := Lib.hid Q1
  have NO := Lib.hid (show ¬ X = Y → V = false from fun hn => by cases hv : V with | false => rfl | true => exact absurd (hV.1 hv) hn)
  have YES := Lib.hid hV.2
  have B0 := Lib.hid (alloc2_below w (.cells #[.int .i64 X.row, .int .i64 X.dev, .int .i64 X.vni, .slice s.A s.n s.c] 71) (.cells #[.int .i64 Y.row, .int .i64 Y.dev, .int .i64 Y.vni, .slice t.A t.n t.c] 71))
  have K0 := Lib.hid (show ∀ W, (w.alloc (.cells #[.int .i64 X.row, .int .i64 X.dev, .int .i64 X.vni, .slice s.A s.n s.c] 71)).alloc (.cells #[.int .i64 Y.row, .int .i64 Y.dev, .int .i64 Y.vni, .slice t.A t.n t.c] 71) = W → ∀ wx, Drew W wx → Cs wx w.heap.size [.int .i64 X.row, .int .i64 X.dev, .int .i64 X.vni, .slice s.A s.n s.c] ∧ Cs wx (w.heap.size + 1) [.int .i64 Y.row, .int .i64 Y.dev, .int .i64 Y.vni, .slice t.A t.n t.c] ∧ Below w.heap.size w wx from fun W hW wx hx => by
    have bb : Below W.heap.size W wx := Below.drew (Below.refl _ _) hx
    subst hW
    have h1 := Cs.new w [.int .i64 X.row, .int .i64 X.dev, .int .i64 X.vni, .slice s.A s.n s.c] 71
    have h2 := Cs.new (w.alloc (.cells #[.int .i64 X.row, .int .i64 X.dev, .int .i64 X.vni, .slice s.A s.n s.c] 71)) [.int .i64 Y.row, .int .i64 Y.dev, .int .i64 Y.vni, .slice t.A t.n t.c] 71
    rw [show (w.alloc (.cells #[.int .i64 X.row, .int .i64 X.dev, .int .i64 X.vni, .slice s.A s.n s.c] 71)).heap.size = w.heap.size + 1 by simp] at h2
    exact ⟨(h1.below (alloc_below _ _)).below bb, h2.below bb, (alloc2_below w _ _).trans (bb.mono (alloc2_below w _ _).size)⟩)
  clear h1 g1 hV
  go_enter Tryz.func58, Tryz.ntmps58
  go_upto_region 1 with fail
  obtain ⟨W, hW⟩ : ∃ W, (w.alloc (.cells #[.int .i64 X.row, .int .i64 X.dev, .int .i64 X.vni, .slice s.A s.n s.c] 71)).alloc (.cells #[.int .i64 Y.row, .int .i64 Y.dev, .int .i64 Y.vni, .slice t.A t.n t.c] 71) = W := ⟨_, rfl⟩
  have K := Lib.hid (K0.out W hW)
  rw [hW]
  rw [hW] at B0
  clear hW K0
  obtain ⟨hx0, hy0, _⟩ := K.out W (Drew.refl _)
  have ql1 := hx0.2
  have ql2 := hy0.2
  have c0 := hx0.1 0 _ rfl
  have m0 := hy0.1 0 _ rfl
  have c1 := hx0.1 1 _ rfl
  have m1 := hy0.1 1 _ rfl
  have c2 := hx0.1 2 _ rfl
  have m2 := hy0.1 2 _ rfl
  have c3 := hx0.1 3 _ rfl
  have m3 := hy0.1 3 _ rfl
  clear hx0 hy0
  by_cases t_row : X.row = Y.row
  rotate_left
  · have z_row : (X.row == Y.row) = false := by simpa using t_row
    have EV := Lib.hid (NO.out (fun e => t_row (by rw [e])))
    clear t_row
    go_wp2
    go_ret
    exact ⟨by rw [EV.out]; rfl, B0.out⟩
  have z_row : (X.row == Y.row) = true := by simpa using t_row
  by_cases t_dev : X.dev = Y.dev
  rotate_left
  · have z_dev : (X.dev == Y.dev) = false := by simpa using t_dev
    have EV := Lib.hid (NO.out (fun e => t_dev (by rw [e])))
    clear t_dev t_row
    go_wp2
    go_ret
    exact ⟨by rw [EV.out]; rfl, B0.out⟩
  have z_dev : (X.dev == Y.dev) = true := by simpa using t_dev
  by_cases t_vni : X.vni = Y.vni
  rotate_left
  · have z_vni : (X.vni == Y.vni) = false := by simpa using t_vni
    have EV := Lib.hid (NO.out (fun e => t_vni (by rw [e])))
    clear t_vni t_row t_dev
    go_wp2
    go_ret
    exact ⟨by rw [EV.out]; rfl, B0.out⟩
  have z_vni : (X.vni == Y.vni) = true := by simpa using t_vni
  cases q1 with
  | false =>
    have EV := Lib.hid (NO.out (fun e => by rw [e] at hq1; simp at hq1))
    clear hq1 t_row t_dev t_vni
    go_wp2_with (first | (go_at_call 116; (with_reducible refine (Q1.out _ B0.out).mono ?_); rintro e w1 ⟨rfl, hd⟩; have D1 := Lib.hid (show Drew W w1 from hd); have B1 := Lib.hid (K.out _ D1.out).2.2; clear hd))
    go_ret
    exact ⟨by rw [EV.out]; rfl, B1.out⟩
  | true =>
  have EV := Lib.hid (YES.out (flood_ext t_row t_dev t_vni (by simpa using hq1)))
  clear t_row t_dev t_vni hq1
  go_wp2_with (first | (go_at_call 116; (with_reducible refine (Q1.out _ B0.out).mono ?_); rintro e w1 ⟨rfl, hd⟩; have D1 := Lib.hid (show Drew W w1 from hd); have B1 := Lib.hid (K.out _ D1.out).2.2; clear hd))
  go_ret
  exact ⟨by rw [EV.out]; rfl, B1.out⟩
set_option maxRecDepth 20000 in
set_option maxHeartbeats 4000000 in
theorem same_vrf (X Y : VrfV) (s1 s2 t1 t2 : Sl3) (w : World) (h1 : RSl (Rdr.int .i64) w (allB w) s1.A s1.n s1.c X.imports) (h2 : RSl (Rdr.int .i64) w (allB w) s2.A s2.n s2.c X.exports) (g1 : RSl (Rdr.int .i64) w (allB w) t1.A t1.n t1.c Y.imports) (g2 : RSl (Rdr.int .i64) w (allB w) t2.A t2.n t2.c Y.exports) (V : Bool) (hV : V = true ↔ X = Y) : Calls Tryz.prog 60 #[.agg #[.int .i64 X.row, .int .i64 X.dev, .string (str X.name), .slice s1.A s1.n s1.c, .slice s2.A s2.n s2.c], .agg #[.int .i64 Y.row, .int .i64 Y.dev, .string (str Y.name), .slice t1.A t1.n t1.c, .slice t2.A t2.n t2.c]] w fun e w' => e = .returned (.bool V) ∧ Below w.heap.size w w' := by
  have Q1 := fun (w' : World) (hb : Below w.heap.size w w') => eqi_any s1 t1 X.imports Y.imports w' (isl_rsl (up_rsl h1 hb)) (isl_rsl (up_rsl g1 hb))
  obtain ⟨q1, hq1⟩ : ∃ v, (X.imports == Y.imports) = v := ⟨_, rfl⟩
  rw [hq1] at Q1
  have Q1 := Lib.hid Q1
  have Q2 := fun (w' : World) (hb : Below w.heap.size w w') => eqi_any s2 t2 X.exports Y.exports w' (isl_rsl (up_rsl h2 hb)) (isl_rsl (up_rsl g2 hb))
  obtain ⟨q2, hq2⟩ : ∃ v, (X.exports == Y.exports) = v := ⟨_, rfl⟩
  rw [hq2] at Q2
  have Q2 := Lib.hid Q2
  have NO := Lib.hid (show ¬ X = Y → V = false from fun hn => by cases hv : V with | false => rfl | true => exact absurd (hV.1 hv) hn)
  have YES := Lib.hid hV.2
  have B0 := Lib.hid (alloc2_below w (.cells #[.int .i64 X.row, .int .i64 X.dev, .string (str X.name), .slice s1.A s1.n s1.c, .slice s2.A s2.n s2.c] 74) (.cells #[.int .i64 Y.row, .int .i64 Y.dev, .string (str Y.name), .slice t1.A t1.n t1.c, .slice t2.A t2.n t2.c] 74))
  have K0 := Lib.hid (show ∀ W, (w.alloc (.cells #[.int .i64 X.row, .int .i64 X.dev, .string (str X.name), .slice s1.A s1.n s1.c, .slice s2.A s2.n s2.c] 74)).alloc (.cells #[.int .i64 Y.row, .int .i64 Y.dev, .string (str Y.name), .slice t1.A t1.n t1.c, .slice t2.A t2.n t2.c] 74) = W → ∀ wx, Drew W wx → Cs wx w.heap.size [.int .i64 X.row, .int .i64 X.dev, .string (str X.name), .slice s1.A s1.n s1.c, .slice s2.A s2.n s2.c] ∧ Cs wx (w.heap.size + 1) [.int .i64 Y.row, .int .i64 Y.dev, .string (str Y.name), .slice t1.A t1.n t1.c, .slice t2.A t2.n t2.c] ∧ Below w.heap.size w wx from fun W hW wx hx => by
    have bb : Below W.heap.size W wx := Below.drew (Below.refl _ _) hx
    subst hW
    have h1 := Cs.new w [.int .i64 X.row, .int .i64 X.dev, .string (str X.name), .slice s1.A s1.n s1.c, .slice s2.A s2.n s2.c] 74
    have h2 := Cs.new (w.alloc (.cells #[.int .i64 X.row, .int .i64 X.dev, .string (str X.name), .slice s1.A s1.n s1.c, .slice s2.A s2.n s2.c] 74)) [.int .i64 Y.row, .int .i64 Y.dev, .string (str Y.name), .slice t1.A t1.n t1.c, .slice t2.A t2.n t2.c] 74
    rw [show (w.alloc (.cells #[.int .i64 X.row, .int .i64 X.dev, .string (str X.name), .slice s1.A s1.n s1.c, .slice s2.A s2.n s2.c] 74)).heap.size = w.heap.size + 1 by simp] at h2
    exact ⟨(h1.below (alloc_below _ _)).below bb, h2.below bb, (alloc2_below w _ _).trans (bb.mono (alloc2_below w _ _).size)⟩)
  clear h1 g1 h2 g2 hV
  go_enter Tryz.func60, Tryz.ntmps60
  go_upto_region 1 with fail
  obtain ⟨W, hW⟩ : ∃ W, (w.alloc (.cells #[.int .i64 X.row, .int .i64 X.dev, .string (str X.name), .slice s1.A s1.n s1.c, .slice s2.A s2.n s2.c] 74)).alloc (.cells #[.int .i64 Y.row, .int .i64 Y.dev, .string (str Y.name), .slice t1.A t1.n t1.c, .slice t2.A t2.n t2.c] 74) = W := ⟨_, rfl⟩
  have K := Lib.hid (K0.out W hW)
  rw [hW]
  rw [hW] at B0
  clear hW K0
  obtain ⟨hx0, hy0, _⟩ := K.out W (Drew.refl _)
  have ql1 := hx0.2
  have ql2 := hy0.2
  have c0 := hx0.1 0 _ rfl
  have m0 := hy0.1 0 _ rfl
  have c1 := hx0.1 1 _ rfl
  have m1 := hy0.1 1 _ rfl
  have c2 := hx0.1 2 _ rfl
  have m2 := hy0.1 2 _ rfl
  have c3 := hx0.1 3 _ rfl
  have m3 := hy0.1 3 _ rfl
  have c4 := hx0.1 4 _ rfl
  have m4 := hy0.1 4 _ rfl
  clear hx0 hy0
  by_cases t_row : X.row = Y.row
  rotate_left
  · have z_row : (X.row == Y.row) = false := by simpa using t_row
    have EV := Lib.hid (NO.out (fun e => t_row (by rw [e])))
    clear t_row
    go_wp2
    go_ret
    exact ⟨by rw [EV.out]; rfl, B0.out⟩
  have z_row : (X.row == Y.row) = true := by simpa using t_row
  by_cases t_dev : X.dev = Y.dev
  rotate_left
  · have z_dev : (X.dev == Y.dev) = false := by simpa using t_dev
    have EV := Lib.hid (NO.out (fun e => t_dev (by rw [e])))
    clear t_dev t_row
    go_wp2
    go_ret
    exact ⟨by rw [EV.out]; rfl, B0.out⟩
  have z_dev : (X.dev == Y.dev) = true := by simpa using t_dev
  by_cases t_name : X.name = Y.name
  rotate_left
  · have z_name : (X.name == Y.name) = false := by simpa using t_name
    have EV := Lib.hid (NO.out (fun e => t_name (by rw [e])))
    clear t_name t_row t_dev
    go_wp2
    go_ret
    exact ⟨by rw [EV.out]; rfl, B0.out⟩
  have z_name : (X.name == Y.name) = true := by simpa using t_name
  cases q1 with
  | false =>
    have EV := Lib.hid (NO.out (fun e => by rw [e] at hq1; simp at hq1))
    clear hq1 t_row t_dev t_name
    go_wp2_with (first | (go_at_call 115; (with_reducible refine (Q1.out _ B0.out).mono ?_); rintro e w1 ⟨rfl, hd⟩; have D1 := Lib.hid (show Drew W w1 from hd); have B1 := Lib.hid (K.out _ D1.out).2.2; have c4 := (K.out _ D1.out).1.1 4 _ rfl; have m4 := (K.out _ D1.out).2.1.1 4 _ rfl; clear hd))
    go_ret
    exact ⟨by rw [EV.out]; rfl, B1.out⟩
  | true =>
  cases q2 with
  | false =>
    have EV := Lib.hid (NO.out (fun e => by rw [e] at hq2; simp at hq2))
    clear hq2 t_row t_dev t_name
    go_wp2_with (first | (go_at_call 115; (with_reducible refine (Q1.out _ B0.out).mono ?_); rintro e w1 ⟨rfl, hd⟩; have D1 := Lib.hid (show Drew W w1 from hd); have B1 := Lib.hid (K.out _ D1.out).2.2; have c4 := (K.out _ D1.out).1.1 4 _ rfl; have m4 := (K.out _ D1.out).2.1.1 4 _ rfl; clear hd) | (go_at_call 115; (with_reducible refine (Q2.out _ B1.out).mono ?_); rintro e w2 ⟨rfl, hd⟩; have D2 := Lib.hid (show Drew W w2 from D1.out.trans hd); have B2 := Lib.hid (K.out _ D2.out).2.2; clear hd))
    go_ret
    exact ⟨by rw [EV.out]; rfl, B2.out⟩
  | true =>
  have EV := Lib.hid (YES.out (vrf_ext t_row t_dev t_name (by simpa using hq1) (by simpa using hq2)))
  clear t_row t_dev t_name hq1 hq2
  go_wp2_with (first | (go_at_call 115; (with_reducible refine (Q1.out _ B0.out).mono ?_); rintro e w1 ⟨rfl, hd⟩; have D1 := Lib.hid (show Drew W w1 from hd); have B1 := Lib.hid (K.out _ D1.out).2.2; have c4 := (K.out _ D1.out).1.1 4 _ rfl; have m4 := (K.out _ D1.out).2.1.1 4 _ rfl; clear hd) | (go_at_call 115; (with_reducible refine (Q2.out _ B1.out).mono ?_); rintro e w2 ⟨rfl, hd⟩; have D2 := Lib.hid (show Drew W w2 from D1.out.trans hd); have B2 := Lib.hid (K.out _ D2.out).2.2; clear hd))
  go_ret
  exact ⟨by rw [EV.out]; rfl, B2.out⟩
set_option maxRecDepth 20000 in
set_option maxHeartbeats 4000000 in
theorem eqf_port (A : Option Addr) (n c : Nat) (B : Option Addr) (m d : Nat) (xs ys : List PortV) (w : World) (h : RSl portR w (allB w) A n c xs) (g : RSl portR w (allB w) B m d ys) (V : Bool) (hV : V = true ↔ xs = ys) :
    Calls Tryz.prog 51 #[.slice A n c, .slice B m d, .func (.func 52) #[] #[]] w fun e w' => e = .returned (.bool V) ∧ Below w.heap.size w w' := by
  have hle := h.le
  have hcap := h.cap
  have gle := g.le
  have gcap := g.cap
  have HL := Lib.hid h.len
  have GL := Lib.hid g.len
  have H := Lib.hid h
  have G := Lib.hid g
  have NO := Lib.hid (show ¬ xs = ys → V = false from fun hn => by cases hv : V with | false => rfl | true => exact absurd (hV.1 hv) hn)
  have YES := Lib.hid hV.2
  clear h g hV
  by_cases hnm : n = m
  rotate_left
  · have EV := Lib.hid (NO.out (fun e => hnm (by rw [← HL.out, ← GL.out, e])))
    have ne : ((n : Int) != (m : Int)) = true := by simp; omega
    clear hnm
    go_enter Tryz.func51, Tryz.ntmps51
    go_wp2
    go_ret
    exact ⟨by rw [EV.out]; rfl, Below.refl _ _⟩
  subst hnm
  go_enter Tryz.func51, Tryz.ntmps51
  go_wp2
  go_loopw [17] (fun i wr => ∃ k : Nat, i = .int .i64 k ∧ k ≤ n ∧ Below w.heap.size w wr ∧ ∀ j, j < k → xs.getD j PortV.zero = ys.getD j PortV.zero) (fun i _ => match i with | .int _ y => (n - y).toNat | _ => 0)
  case atStart => exact ⟨0, rfl, by omega, Below.refl _ _, fun j hj => absurd hj (by omega)⟩
  case round =>
    obtain ⟨k, rfl, hk, hb, hall⟩ := hrel
    have W := Lib.hid hb
    have AL := Lib.hid hall
    clear hall hb
    by_cases hlt : k < n
    rotate_left
    · have lt2 : ¬ (k : Int) < (n : Int) := by omega
      have EV := Lib.hid (YES.out (list_eq_getD PortV.zero (by rw [HL.out, GL.out]) (fun j hj => AL.out j (by rw [HL.out] at hj; omega))))
      go_wp2
      go_ret
      exact ⟨by rw [EV.out]; rfl, W.out⟩
    obtain ⟨b0, o0, vs, rfl, _, hb0, ⟨s, rfl, l1⟩, r0⟩ := rsl_at H.out k hlt PortV.zero
    obtain ⟨b1, o1, us, rfl, _, hb1, ⟨t, rfl, u1⟩, r1⟩ := rsl_at G.out k hlt PortV.zero
    have R0 := rangeAt_keep r0 (W.out.block b0 hb0)
    have R1 := rangeAt_keep r1 (W.out.block b1 hb1)
    obtain ⟨X, hX⟩ : ∃ X, xs.getD k PortV.zero = X := ⟨_, rfl⟩
    obtain ⟨Y, hY⟩ : ∃ Y, ys.getD k PortV.zero = Y := ⟨_, rfl⟩
    rw [hX] at R0 l1
    rw [hY] at R1 u1
    have d0 := R0 0 _ rfl
    have e0_ := R1 0 _ rfl
    have d1 := R0 1 _ rfl
    have e1_ := R1 1 _ rfl
    have d2 := R0 2 _ rfl
    have e2_ := R1 2 _ rfl
    have d3 := R0 3 _ rfl
    have e3_ := R1 3 _ rfl
    have d4 := R0 4 _ rfl
    have e4_ := R1 4 _ rfl
    have d5 := R0 5 _ rfl
    have e5_ := R1 5 _ rfl
    have d6 := R0 6 _ rfl
    have e6_ := R1 6 _ rfl
    simp only [Nat.add_zero] at d0 e0_
    rw [show o0 + k * portR.n = o0 + k * 7 from rfl] at d0 d1 d2 d3 d4 d5 d6
    rw [show o1 + k * portR.n = o1 + k * 7 from rfl] at e0_ e1_ e2_ e3_ e4_ e5_ e6_
    have lt2 : (k : Int) < (n : Int) := by omega
    have z0 : b0 < wr.heap.size := Nat.lt_of_lt_of_le hb0 W.out.size
    have z1 : b1 < wr.heap.size := Nat.lt_of_lt_of_le hb1 W.out.size
    have HX := Lib.hid hX
    have HY := Lib.hid hY
    have NE := Lib.hid (show ¬ X = Y → V = false from fun hn => NO.out (fun g => hn (by rw [← HX.out, ← HY.out, g])))
    have ALk := Lib.hid (show X = Y → ∀ j, j < k + 1 → xs.getD j PortV.zero = ys.getD j PortV.zero from fun e j hj => by
      rcases Nat.lt_or_ge j k with h' | h'
      · exact AL.out j h'
      · obtain rfl : j = k := by omega
        rw [HX.out, HY.out, e])
    obtain ⟨B, hB⟩ : ∃ B : Bool, B = true ↔ X = Y := ⟨@decide (X = Y) (Classical.propDecidable _), @decide_eq_true_iff _ (Classical.propDecidable _)⟩
    have SM := Lib.hid (fun (w' : World) (hb : Below w.heap.size w w') => same_port X Y s t w' (up_rsl l1 hb) (up_rsl u1 hb) B hB)
    have HB1 := Lib.hid (show B = true → X = Y from hB.1)
    have HB2 := Lib.hid (show B = false → ¬ X = Y from fun e g => by have := hB.2 g; rw [e] at this; cases this)
    clear r0 r1 R0 R1 hX hY l1 u1 hB
    cases B with
    | false =>
      have EV := Lib.hid (NE.out (HB2.out rfl))
      go_wp2_with (go_at_call 52; (with_reducible refine (SM.out _ (trans_below W.out (alloc2_below wr _ _))).mono ?_); rintro e w5 ⟨rfl, hb5⟩; have W5 := Lib.hid (trans_below (trans_below W.out (alloc2_below wr _ _)) hb5); clear hb5)
      go_ret
      exact ⟨by rw [EV.out]; rfl, W5.out⟩
    | true =>
      have AK := Lib.hid (ALk.out (HB1.out rfl))
      go_wp2_with (go_at_call 52; (with_reducible refine (SM.out _ (trans_below W.out (alloc2_below wr _ _))).mono ?_); rintro e w5 ⟨rfl, hb5⟩; have W5 := Lib.hid (trans_below (trans_below W.out (alloc2_below wr _ _)) hb5); clear hb5)
      go_roundw
      case rel => exact ⟨k + 1, by simp, by omega, W5.out, AK.out⟩
      case measure => simp only []; omega
set_option maxRecDepth 20000 in
set_option maxHeartbeats 4000000 in
theorem eqf_dom (A : Option Addr) (n c : Nat) (B : Option Addr) (m d : Nat) (xs ys : List DomV) (w : World) (h : RSl domR w (allB w) A n c xs) (g : RSl domR w (allB w) B m d ys) (V : Bool) (hV : V = true ↔ xs = ys) :
    Calls Tryz.prog 54 #[.slice A n c, .slice B m d, .func (.func 55) #[] #[]] w fun e w' => e = .returned (.bool V) ∧ Below w.heap.size w w' := by
  have hle := h.le
  have hcap := h.cap
  have gle := g.le
  have gcap := g.cap
  have HL := Lib.hid h.len
  have GL := Lib.hid g.len
  have H := Lib.hid h
  have G := Lib.hid g
  have NO := Lib.hid (show ¬ xs = ys → V = false from fun hn => by cases hv : V with | false => rfl | true => exact absurd (hV.1 hv) hn)
  have YES := Lib.hid hV.2
  clear h g hV
  by_cases hnm : n = m
  rotate_left
  · have EV := Lib.hid (NO.out (fun e => hnm (by rw [← HL.out, ← GL.out, e])))
    have ne : ((n : Int) != (m : Int)) = true := by simp; omega
    clear hnm
    go_enter Tryz.func54, Tryz.ntmps54
    go_wp2
    go_ret
    exact ⟨by rw [EV.out]; rfl, Below.refl _ _⟩
  subst hnm
  go_enter Tryz.func54, Tryz.ntmps54
  go_wp2
  go_loopw [17] (fun i wr => ∃ k : Nat, i = .int .i64 k ∧ k ≤ n ∧ Below w.heap.size w wr ∧ ∀ j, j < k → xs.getD j DomV.zero = ys.getD j DomV.zero) (fun i _ => match i with | .int _ y => (n - y).toNat | _ => 0)
  case atStart => exact ⟨0, rfl, by omega, Below.refl _ _, fun j hj => absurd hj (by omega)⟩
  case round =>
    obtain ⟨k, rfl, hk, hb, hall⟩ := hrel
    have W := Lib.hid hb
    have AL := Lib.hid hall
    clear hall hb
    by_cases hlt : k < n
    rotate_left
    · have lt2 : ¬ (k : Int) < (n : Int) := by omega
      have EV := Lib.hid (YES.out (list_eq_getD DomV.zero (by rw [HL.out, GL.out]) (fun j hj => AL.out j (by rw [HL.out] at hj; omega))))
      go_wp2
      go_ret
      exact ⟨by rw [EV.out]; rfl, W.out⟩
    obtain ⟨b0, o0, vs, rfl, _, hb0, ⟨s, rfl, l1⟩, r0⟩ := rsl_at H.out k hlt DomV.zero
    obtain ⟨b1, o1, us, rfl, _, hb1, ⟨t, rfl, u1⟩, r1⟩ := rsl_at G.out k hlt DomV.zero
    have R0 := rangeAt_keep r0 (W.out.block b0 hb0)
    have R1 := rangeAt_keep r1 (W.out.block b1 hb1)
    obtain ⟨X, hX⟩ : ∃ X, xs.getD k DomV.zero = X := ⟨_, rfl⟩
    obtain ⟨Y, hY⟩ : ∃ Y, ys.getD k DomV.zero = Y := ⟨_, rfl⟩
    rw [hX] at R0 l1
    rw [hY] at R1 u1
    have d0 := R0 0 _ rfl
    have e0_ := R1 0 _ rfl
    have d1 := R0 1 _ rfl
    have e1_ := R1 1 _ rfl
    have d2 := R0 2 _ rfl
    have e2_ := R1 2 _ rfl
    have d3 := R0 3 _ rfl
    have e3_ := R1 3 _ rfl
    have d4 := R0 4 _ rfl
    have e4_ := R1 4 _ rfl
    have d5 := R0 5 _ rfl
    have e5_ := R1 5 _ rfl
    simp only [Nat.add_zero] at d0 e0_
    rw [show o0 + k * domR.n = o0 + k * 6 from rfl] at d0 d1 d2 d3 d4 d5
    rw [show o1 + k * domR.n = o1 + k * 6 from rfl] at e0_ e1_ e2_ e3_ e4_ e5_
    have lt2 : (k : Int) < (n : Int) := by omega
    have z0 : b0 < wr.heap.size := Nat.lt_of_lt_of_le hb0 W.out.size
    have z1 : b1 < wr.heap.size := Nat.lt_of_lt_of_le hb1 W.out.size
    have HX := Lib.hid hX
    have HY := Lib.hid hY
    have NE := Lib.hid (show ¬ X = Y → V = false from fun hn => NO.out (fun g => hn (by rw [← HX.out, ← HY.out, g])))
    have ALk := Lib.hid (show X = Y → ∀ j, j < k + 1 → xs.getD j DomV.zero = ys.getD j DomV.zero from fun e j hj => by
      rcases Nat.lt_or_ge j k with h' | h'
      · exact AL.out j h'
      · obtain rfl : j = k := by omega
        rw [HX.out, HY.out, e])
    obtain ⟨B, hB⟩ : ∃ B : Bool, B = true ↔ X = Y := ⟨@decide (X = Y) (Classical.propDecidable _), @decide_eq_true_iff _ (Classical.propDecidable _)⟩
    have SM := Lib.hid (fun (w' : World) (hb : Below w.heap.size w w') => same_dom X Y s t w' (up_rsl l1 hb) (up_rsl u1 hb) B hB)
    have HB1 := Lib.hid (show B = true → X = Y from hB.1)
    have HB2 := Lib.hid (show B = false → ¬ X = Y from fun e g => by have := hB.2 g; rw [e] at this; cases this)
    clear r0 r1 R0 R1 hX hY l1 u1 hB
    cases B with
    | false =>
      have EV := Lib.hid (NE.out (HB2.out rfl))
      go_wp2_with (go_at_call 55; (with_reducible refine (SM.out _ (trans_below W.out (alloc2_below wr _ _))).mono ?_); rintro e w5 ⟨rfl, hb5⟩; have W5 := Lib.hid (trans_below (trans_below W.out (alloc2_below wr _ _)) hb5); clear hb5)
      go_ret
      exact ⟨by rw [EV.out]; rfl, W5.out⟩
    | true =>
      have AK := Lib.hid (ALk.out (HB1.out rfl))
      go_wp2_with (go_at_call 55; (with_reducible refine (SM.out _ (trans_below W.out (alloc2_below wr _ _))).mono ?_); rintro e w5 ⟨rfl, hb5⟩; have W5 := Lib.hid (trans_below (trans_below W.out (alloc2_below wr _ _)) hb5); clear hb5)
      go_roundw
      case rel => exact ⟨k + 1, by simp, by omega, W5.out, AK.out⟩
      case measure => simp only []; omega
set_option maxRecDepth 20000 in
set_option maxHeartbeats 4000000 in
theorem eqf_flood (A : Option Addr) (n c : Nat) (B : Option Addr) (m d : Nat) (xs ys : List FloodV) (w : World) (h : RSl floodR w (allB w) A n c xs) (g : RSl floodR w (allB w) B m d ys) (V : Bool) (hV : V = true ↔ xs = ys) :
    Calls Tryz.prog 57 #[.slice A n c, .slice B m d, .func (.func 58) #[] #[]] w fun e w' => e = .returned (.bool V) ∧ Below w.heap.size w w' := by
  have hle := h.le
  have hcap := h.cap
  have gle := g.le
  have gcap := g.cap
  have HL := Lib.hid h.len
  have GL := Lib.hid g.len
  have H := Lib.hid h
  have G := Lib.hid g
  have NO := Lib.hid (show ¬ xs = ys → V = false from fun hn => by cases hv : V with | false => rfl | true => exact absurd (hV.1 hv) hn)
  have YES := Lib.hid hV.2
  clear h g hV
  by_cases hnm : n = m
  rotate_left
  · have EV := Lib.hid (NO.out (fun e => hnm (by rw [← HL.out, ← GL.out, e])))
    have ne : ((n : Int) != (m : Int)) = true := by simp; omega
    clear hnm
    go_enter Tryz.func57, Tryz.ntmps57
    go_wp2
    go_ret
    exact ⟨by rw [EV.out]; rfl, Below.refl _ _⟩
  subst hnm
  go_enter Tryz.func57, Tryz.ntmps57
  go_wp2
  go_loopw [17] (fun i wr => ∃ k : Nat, i = .int .i64 k ∧ k ≤ n ∧ Below w.heap.size w wr ∧ ∀ j, j < k → xs.getD j FloodV.zero = ys.getD j FloodV.zero) (fun i _ => match i with | .int _ y => (n - y).toNat | _ => 0)
  case atStart => exact ⟨0, rfl, by omega, Below.refl _ _, fun j hj => absurd hj (by omega)⟩
  case round =>
    obtain ⟨k, rfl, hk, hb, hall⟩ := hrel
    have W := Lib.hid hb
    have AL := Lib.hid hall
    clear hall hb
    by_cases hlt : k < n
    rotate_left
    · have lt2 : ¬ (k : Int) < (n : Int) := by omega
      have EV := Lib.hid (YES.out (list_eq_getD FloodV.zero (by rw [HL.out, GL.out]) (fun j hj => AL.out j (by rw [HL.out] at hj; omega))))
      go_wp2
      go_ret
      exact ⟨by rw [EV.out]; rfl, W.out⟩
    obtain ⟨b0, o0, vs, rfl, _, hb0, ⟨s, rfl, l1⟩, r0⟩ := rsl_at H.out k hlt FloodV.zero
    obtain ⟨b1, o1, us, rfl, _, hb1, ⟨t, rfl, u1⟩, r1⟩ := rsl_at G.out k hlt FloodV.zero
    have R0 := rangeAt_keep r0 (W.out.block b0 hb0)
    have R1 := rangeAt_keep r1 (W.out.block b1 hb1)
    obtain ⟨X, hX⟩ : ∃ X, xs.getD k FloodV.zero = X := ⟨_, rfl⟩
    obtain ⟨Y, hY⟩ : ∃ Y, ys.getD k FloodV.zero = Y := ⟨_, rfl⟩
    rw [hX] at R0 l1
    rw [hY] at R1 u1
    have d0 := R0 0 _ rfl
    have e0_ := R1 0 _ rfl
    have d1 := R0 1 _ rfl
    have e1_ := R1 1 _ rfl
    have d2 := R0 2 _ rfl
    have e2_ := R1 2 _ rfl
    have d3 := R0 3 _ rfl
    have e3_ := R1 3 _ rfl
    simp only [Nat.add_zero] at d0 e0_
    rw [show o0 + k * floodR.n = o0 + k * 4 from rfl] at d0 d1 d2 d3
    rw [show o1 + k * floodR.n = o1 + k * 4 from rfl] at e0_ e1_ e2_ e3_
    have lt2 : (k : Int) < (n : Int) := by omega
    have z0 : b0 < wr.heap.size := Nat.lt_of_lt_of_le hb0 W.out.size
    have z1 : b1 < wr.heap.size := Nat.lt_of_lt_of_le hb1 W.out.size
    have HX := Lib.hid hX
    have HY := Lib.hid hY
    have NE := Lib.hid (show ¬ X = Y → V = false from fun hn => NO.out (fun g => hn (by rw [← HX.out, ← HY.out, g])))
    have ALk := Lib.hid (show X = Y → ∀ j, j < k + 1 → xs.getD j FloodV.zero = ys.getD j FloodV.zero from fun e j hj => by
      rcases Nat.lt_or_ge j k with h' | h'
      · exact AL.out j h'
      · obtain rfl : j = k := by omega
        rw [HX.out, HY.out, e])
    obtain ⟨B, hB⟩ : ∃ B : Bool, B = true ↔ X = Y := ⟨@decide (X = Y) (Classical.propDecidable _), @decide_eq_true_iff _ (Classical.propDecidable _)⟩
    have SM := Lib.hid (fun (w' : World) (hb : Below w.heap.size w w') => same_flood X Y s t w' (up_rsl l1 hb) (up_rsl u1 hb) B hB)
    have HB1 := Lib.hid (show B = true → X = Y from hB.1)
    have HB2 := Lib.hid (show B = false → ¬ X = Y from fun e g => by have := hB.2 g; rw [e] at this; cases this)
    clear r0 r1 R0 R1 hX hY l1 u1 hB
    cases B with
    | false =>
      have EV := Lib.hid (NE.out (HB2.out rfl))
      go_wp2_with (go_at_call 58; (with_reducible refine (SM.out _ (trans_below W.out (alloc2_below wr _ _))).mono ?_); rintro e w5 ⟨rfl, hb5⟩; have W5 := Lib.hid (trans_below (trans_below W.out (alloc2_below wr _ _)) hb5); clear hb5)
      go_ret
      exact ⟨by rw [EV.out]; rfl, W5.out⟩
    | true =>
      have AK := Lib.hid (ALk.out (HB1.out rfl))
      go_wp2_with (go_at_call 58; (with_reducible refine (SM.out _ (trans_below W.out (alloc2_below wr _ _))).mono ?_); rintro e w5 ⟨rfl, hb5⟩; have W5 := Lib.hid (trans_below (trans_below W.out (alloc2_below wr _ _)) hb5); clear hb5)
      go_roundw
      case rel => exact ⟨k + 1, by simp, by omega, W5.out, AK.out⟩
      case measure => simp only []; omega
set_option maxRecDepth 20000 in
set_option maxHeartbeats 4000000 in
theorem eqf_vrf (A : Option Addr) (n c : Nat) (B : Option Addr) (m d : Nat) (xs ys : List VrfV) (w : World) (h : RSl vrfR w (allB w) A n c xs) (g : RSl vrfR w (allB w) B m d ys) (V : Bool) (hV : V = true ↔ xs = ys) :
    Calls Tryz.prog 59 #[.slice A n c, .slice B m d, .func (.func 60) #[] #[]] w fun e w' => e = .returned (.bool V) ∧ Below w.heap.size w w' := by
  have hle := h.le
  have hcap := h.cap
  have gle := g.le
  have gcap := g.cap
  have HL := Lib.hid h.len
  have GL := Lib.hid g.len
  have H := Lib.hid h
  have G := Lib.hid g
  have NO := Lib.hid (show ¬ xs = ys → V = false from fun hn => by cases hv : V with | false => rfl | true => exact absurd (hV.1 hv) hn)
  have YES := Lib.hid hV.2
  clear h g hV
  by_cases hnm : n = m
  rotate_left
  · have EV := Lib.hid (NO.out (fun e => hnm (by rw [← HL.out, ← GL.out, e])))
    have ne : ((n : Int) != (m : Int)) = true := by simp; omega
    clear hnm
    go_enter Tryz.func59, Tryz.ntmps59
    go_wp2
    go_ret
    exact ⟨by rw [EV.out]; rfl, Below.refl _ _⟩
  subst hnm
  go_enter Tryz.func59, Tryz.ntmps59
  go_wp2
  go_loopw [17] (fun i wr => ∃ k : Nat, i = .int .i64 k ∧ k ≤ n ∧ Below w.heap.size w wr ∧ ∀ j, j < k → xs.getD j VrfV.zero = ys.getD j VrfV.zero) (fun i _ => match i with | .int _ y => (n - y).toNat | _ => 0)
  case atStart => exact ⟨0, rfl, by omega, Below.refl _ _, fun j hj => absurd hj (by omega)⟩
  case round =>
    obtain ⟨k, rfl, hk, hb, hall⟩ := hrel
    have W := Lib.hid hb
    have AL := Lib.hid hall
    clear hall hb
    by_cases hlt : k < n
    rotate_left
    · have lt2 : ¬ (k : Int) < (n : Int) := by omega
      have EV := Lib.hid (YES.out (list_eq_getD VrfV.zero (by rw [HL.out, GL.out]) (fun j hj => AL.out j (by rw [HL.out] at hj; omega))))
      go_wp2
      go_ret
      exact ⟨by rw [EV.out]; rfl, W.out⟩
    obtain ⟨b0, o0, vs, rfl, _, hb0, ⟨s1, s2, rfl, l1, l2⟩, r0⟩ := rsl_at H.out k hlt VrfV.zero
    obtain ⟨b1, o1, us, rfl, _, hb1, ⟨t1, t2, rfl, u1, u2⟩, r1⟩ := rsl_at G.out k hlt VrfV.zero
    have R0 := rangeAt_keep r0 (W.out.block b0 hb0)
    have R1 := rangeAt_keep r1 (W.out.block b1 hb1)
    obtain ⟨X, hX⟩ : ∃ X, xs.getD k VrfV.zero = X := ⟨_, rfl⟩
    obtain ⟨Y, hY⟩ : ∃ Y, ys.getD k VrfV.zero = Y := ⟨_, rfl⟩
    rw [hX] at R0 l1 l2
    rw [hY] at R1 u1 u2
    have d0 := R0 0 _ rfl
    have e0_ := R1 0 _ rfl
    have d1 := R0 1 _ rfl
    have e1_ := R1 1 _ rfl
    have d2 := R0 2 _ rfl
    have e2_ := R1 2 _ rfl
    have d3 := R0 3 _ rfl
    have e3_ := R1 3 _ rfl
    have d4 := R0 4 _ rfl
    have e4_ := R1 4 _ rfl
    simp only [Nat.add_zero] at d0 e0_
    rw [show o0 + k * vrfR.n = o0 + k * 5 from rfl] at d0 d1 d2 d3 d4
    rw [show o1 + k * vrfR.n = o1 + k * 5 from rfl] at e0_ e1_ e2_ e3_ e4_
    have lt2 : (k : Int) < (n : Int) := by omega
    have z0 : b0 < wr.heap.size := Nat.lt_of_lt_of_le hb0 W.out.size
    have z1 : b1 < wr.heap.size := Nat.lt_of_lt_of_le hb1 W.out.size
    have HX := Lib.hid hX
    have HY := Lib.hid hY
    have NE := Lib.hid (show ¬ X = Y → V = false from fun hn => NO.out (fun g => hn (by rw [← HX.out, ← HY.out, g])))
    have ALk := Lib.hid (show X = Y → ∀ j, j < k + 1 → xs.getD j VrfV.zero = ys.getD j VrfV.zero from fun e j hj => by
      rcases Nat.lt_or_ge j k with h' | h'
      · exact AL.out j h'
      · obtain rfl : j = k := by omega
        rw [HX.out, HY.out, e])
    obtain ⟨B, hB⟩ : ∃ B : Bool, B = true ↔ X = Y := ⟨@decide (X = Y) (Classical.propDecidable _), @decide_eq_true_iff _ (Classical.propDecidable _)⟩
    have SM := Lib.hid (fun (w' : World) (hb : Below w.heap.size w w') => same_vrf X Y s1 s2 t1 t2 w' (up_rsl l1 hb) (up_rsl l2 hb) (up_rsl u1 hb) (up_rsl u2 hb) B hB)
    have HB1 := Lib.hid (show B = true → X = Y from hB.1)
    have HB2 := Lib.hid (show B = false → ¬ X = Y from fun e g => by have := hB.2 g; rw [e] at this; cases this)
    clear r0 r1 R0 R1 hX hY l1 l2 u1 u2 hB
    cases B with
    | false =>
      have EV := Lib.hid (NE.out (HB2.out rfl))
      go_wp2_with (go_at_call 60; (with_reducible refine (SM.out _ (trans_below W.out (alloc2_below wr _ _))).mono ?_); rintro e w5 ⟨rfl, hb5⟩; have W5 := Lib.hid (trans_below (trans_below W.out (alloc2_below wr _ _)) hb5); clear hb5)
      go_ret
      exact ⟨by rw [EV.out]; rfl, W5.out⟩
    | true =>
      have AK := Lib.hid (ALk.out (HB1.out rfl))
      go_wp2_with (go_at_call 60; (with_reducible refine (SM.out _ (trans_below W.out (alloc2_below wr _ _))).mono ?_); rintro e w5 ⟨rfl, hb5⟩; have W5 := Lib.hid (trans_below (trans_below W.out (alloc2_below wr _ _)) hb5); clear hb5)
      go_roundw
      case rel => exact ⟨k + 1, by simp, by omega, W5.out, AK.out⟩
      case measure => simp only []; omega
set_option maxRecDepth 20000 in
set_option maxHeartbeats 8000000 in
theorem xnsame_any (N M : NV) (S S2 : NSl3) (w : World) (h : NRead w (allB w) N S) (h2 : NRead w (allB w) M S2) (_hs : NvSz N) (_hs2 : NvSz M) : Calls Tryz.prog 22 #[netV S, netV S2] w fun e w' => e = .returned (.bool (nsmB N M)) ∧ Below w.heap.size w w' := by
  have NO := Lib.hid (@nsmB_no N M)
  have YES := Lib.hid (@nsmB_yes N M)
  generalize nsmB N M = V at *
  obtain ⟨v1, h_1⟩ : ∃ v : Bool, v = true ↔ N.devices = M.devices := ⟨@decide _ (Classical.propDecidable _), @decide_eq_true_iff _ (Classical.propDecidable _)⟩
  have A1 := Lib.hid (fun (w' : World) (hb : Below w.heap.size w w') => eqs_dev S.dv.A S.dv.n S.dv.c S2.dv.A S2.dv.n S2.dv.c N.devices M.devices w' (up_rsl h.dv hb) (up_rsl h2.dv hb) v1 h_1)
  obtain ⟨v2, h_2⟩ : ∃ v : Bool, v = true ↔ N.ports = M.ports := ⟨@decide _ (Classical.propDecidable _), @decide_eq_true_iff _ (Classical.propDecidable _)⟩
  have A2 := Lib.hid (fun (w' : World) (hb : Below w.heap.size w w') => eqf_port S.pt.A S.pt.n S.pt.c S2.pt.A S2.pt.n S2.pt.c N.ports M.ports w' (up_rsl h.pt hb) (up_rsl h2.pt hb) v2 h_2)
  obtain ⟨v3, h_3⟩ : ∃ v : Bool, v = true ↔ N.links = M.links := ⟨@decide _ (Classical.propDecidable _), @decide_eq_true_iff _ (Classical.propDecidable _)⟩
  have A3 := Lib.hid (fun (w' : World) (hb : Below w.heap.size w w') => eqs_link S.lk.A S.lk.n S.lk.c S2.lk.A S2.lk.n S2.lk.c N.links M.links w' (up_rsl h.lk hb) (up_rsl h2.lk hb) v3 h_3)
  obtain ⟨v4, h_4⟩ : ∃ v : Bool, v = true ↔ N.domains = M.domains := ⟨@decide _ (Classical.propDecidable _), @decide_eq_true_iff _ (Classical.propDecidable _)⟩
  have A4 := Lib.hid (fun (w' : World) (hb : Below w.heap.size w w') => eqf_dom S.dm.A S.dm.n S.dm.c S2.dm.A S2.dm.n S2.dm.c N.domains M.domains w' (up_rsl h.dm hb) (up_rsl h2.dm hb) v4 h_4)
  obtain ⟨v5, h_5⟩ : ∃ v : Bool, v = true ↔ N.statics = M.statics := ⟨@decide _ (Classical.propDecidable _), @decide_eq_true_iff _ (Classical.propDecidable _)⟩
  have A5 := Lib.hid (fun (w' : World) (hb : Below w.heap.size w w') => eqs_stat S.st.A S.st.n S.st.c S2.st.A S2.st.n S2.st.c N.statics M.statics w' (up_rsl h.st hb) (up_rsl h2.st hb) v5 h_5)
  obtain ⟨v6, h_6⟩ : ∃ v : Bool, v = true ↔ N.floods = M.floods := ⟨@decide _ (Classical.propDecidable _), @decide_eq_true_iff _ (Classical.propDecidable _)⟩
  have A6 := Lib.hid (fun (w' : World) (hb : Below w.heap.size w w') => eqf_flood S.fl.A S.fl.n S.fl.c S2.fl.A S2.fl.n S2.fl.c N.floods M.floods w' (up_rsl h.fl hb) (up_rsl h2.fl hb) v6 h_6)
  obtain ⟨v7, h_7⟩ : ∃ v : Bool, v = true ↔ N.vrfs = M.vrfs := ⟨@decide _ (Classical.propDecidable _), @decide_eq_true_iff _ (Classical.propDecidable _)⟩
  have A7 := Lib.hid (fun (w' : World) (hb : Below w.heap.size w w') => eqf_vrf S.vr.A S.vr.n S.vr.c S2.vr.A S2.vr.n S2.vr.c N.vrfs M.vrfs w' (up_rsl h.vr hb) (up_rsl h2.vr hb) v7 h_7)
  obtain ⟨v8, h_8⟩ : ∃ v : Bool, v = true ↔ N.irbs = M.irbs := ⟨@decide _ (Classical.propDecidable _), @decide_eq_true_iff _ (Classical.propDecidable _)⟩
  have A8 := Lib.hid (fun (w' : World) (hb : Below w.heap.size w w') => eqs_irb S.ir.A S.ir.n S.ir.c S2.ir.A S2.ir.n S2.ir.c N.irbs M.irbs w' (up_rsl h.ir hb) (up_rsl h2.ir hb) v8 h_8)
  have KB := Lib.hid (show ∀ W, (w.alloc (.cells (nA S) 31)).alloc (.cells (nA S2) 31) = W → ∀ wx, Below W.heap.size W wx → (NF wx w.heap.size S) ∧ (NF wx (w.heap.size + 1) S2) ∧ Below w.heap.size w wx from fun W hW wx hx => by
    have NC := net_cs S _ _ (netC S2) hW
    have n := (NC.1.below hx).1
    have m := (NC.2.1.below hx).1
    exact ⟨⟨n 0 _ rfl, n 1 _ rfl, n 2 _ rfl, n 3 _ rfl, n 4 _ rfl, n 5 _ rfl, n 6 _ rfl, n 7 _ rfl⟩, ⟨m 0 _ rfl, m 1 _ rfl, m 2 _ rfl, m 3 _ rfl, m 4 _ rfl, m 5 _ rfl, m 6 _ rfl, m 7 _ rfl⟩, NC.2.2.trans (hx.mono NC.2.2.size)⟩)
  have HV := Lib.hid (show V = true ↔ v1 = true ∧ v2 = true ∧ v3 = true ∧ v4 = true ∧ v5 = true ∧ v6 = true ∧ v7 = true ∧ v8 = true by
    rw [h_1, h_2, h_3, h_4, h_5, h_6, h_7, h_8]
    constructor
    · intro hv
      have : N = M := by
        by_cases g : N = M
        · exact g
        · rw [NO.out g] at hv; cases hv
      subst this
      exact ⟨rfl, rfl, rfl, rfl, rfl, rfl, rfl, rfl⟩
    · rintro ⟨a1, a2, a3, a4, a5, a6, a7, a8⟩
      exact YES.out (nv_ext ⟨a1, a3, a5, a8⟩ a2 a4 a6 a7))
  clear h h2 h_1 h_2 h_3 h_4 h_5 h_6 h_7 h_8 NO YES
  unfold netV
  go_enter Tryz.func22, Tryz.ntmps22
  go_upto_region 1 with fail
  obtain ⟨W, hW⟩ : ∃ W, (w.alloc (.cells (nA S) 31)).alloc (.cells (nA S2) 31) = W := ⟨_, rfl⟩
  have KQ := Lib.hid (KB.out W hW)
  have ql : w.heap.size < W.heap.size := by rw [← hW]; (simp <;> omega)
  have ql2 : w.heap.size + 1 < W.heap.size := by rw [← hW]; (simp <;> omega)
  rw [hW]
  clear hW KB
  obtain ⟨⟨f0, f1, f2, f3, f4, f5, f6, f7⟩, ⟨g0, g1, g2, g3, g4, g5, g6, g7⟩, _⟩ := KQ.out W (Below.refl _ _)
  have Y0 := Lib.hid (Below.refl W.heap.size W)
  cases v1 with
  | false =>
    have EV := Lib.hid (show V = false by
      cases V with
      | false => rfl
      | true => have := HV.out.1 rfl; simp at this)
    go_wp2_with (first | (go_at_call 50; (with_reducible refine (A1.out _ (KQ.out _ Y0.out).2.2).mono ?_); rintro e w1 ⟨rfl, hb⟩; have Y1 := Lib.hid (trans_below Y0.out hb); obtain ⟨⟨f0, f1, f2, f3, f4, f5, f6, f7⟩, ⟨g0, g1, g2, g3, g4, g5, g6, g7⟩, _⟩ := KQ.out _ Y1.out; clear hb))
    go_ret
    exact ⟨by rw [EV.out]; rfl, (KQ.out _ Y1.out).2.2⟩
  | true =>
  cases v2 with
  | false =>
    have EV := Lib.hid (show V = false by
      cases V with
      | false => rfl
      | true => have := HV.out.1 rfl; simp at this)
    go_wp2_with (first | (go_at_call 50; (with_reducible refine (A1.out _ (KQ.out _ Y0.out).2.2).mono ?_); rintro e w1 ⟨rfl, hb⟩; have Y1 := Lib.hid (trans_below Y0.out hb); obtain ⟨⟨f0, f1, f2, f3, f4, f5, f6, f7⟩, ⟨g0, g1, g2, g3, g4, g5, g6, g7⟩, _⟩ := KQ.out _ Y1.out; clear hb) | (go_at_call 51; (with_reducible refine (A2.out _ (KQ.out _ Y1.out).2.2).mono ?_); rintro e w2 ⟨rfl, hb⟩; have Y2 := Lib.hid (trans_below Y1.out hb); obtain ⟨⟨f0, f1, f2, f3, f4, f5, f6, f7⟩, ⟨g0, g1, g2, g3, g4, g5, g6, g7⟩, _⟩ := KQ.out _ Y2.out; clear hb))
    go_ret
    exact ⟨by rw [EV.out]; rfl, (KQ.out _ Y2.out).2.2⟩
  | true =>
  cases v3 with
  | false =>
    have EV := Lib.hid (show V = false by
      cases V with
      | false => rfl
      | true => have := HV.out.1 rfl; simp at this)
    go_wp2_with (first | (go_at_call 50; (with_reducible refine (A1.out _ (KQ.out _ Y0.out).2.2).mono ?_); rintro e w1 ⟨rfl, hb⟩; have Y1 := Lib.hid (trans_below Y0.out hb); obtain ⟨⟨f0, f1, f2, f3, f4, f5, f6, f7⟩, ⟨g0, g1, g2, g3, g4, g5, g6, g7⟩, _⟩ := KQ.out _ Y1.out; clear hb) | (go_at_call 51; (with_reducible refine (A2.out _ (KQ.out _ Y1.out).2.2).mono ?_); rintro e w2 ⟨rfl, hb⟩; have Y2 := Lib.hid (trans_below Y1.out hb); obtain ⟨⟨f0, f1, f2, f3, f4, f5, f6, f7⟩, ⟨g0, g1, g2, g3, g4, g5, g6, g7⟩, _⟩ := KQ.out _ Y2.out; clear hb) | (go_at_call 53; (with_reducible refine (A3.out _ (KQ.out _ Y2.out).2.2).mono ?_); rintro e w3 ⟨rfl, hb⟩; have Y3 := Lib.hid (trans_below Y2.out hb); obtain ⟨⟨f0, f1, f2, f3, f4, f5, f6, f7⟩, ⟨g0, g1, g2, g3, g4, g5, g6, g7⟩, _⟩ := KQ.out _ Y3.out; clear hb))
    go_ret
    exact ⟨by rw [EV.out]; rfl, (KQ.out _ Y3.out).2.2⟩
  | true =>
  cases v4 with
  | false =>
    have EV := Lib.hid (show V = false by
      cases V with
      | false => rfl
      | true => have := HV.out.1 rfl; simp at this)
    go_wp2_with (first | (go_at_call 50; (with_reducible refine (A1.out _ (KQ.out _ Y0.out).2.2).mono ?_); rintro e w1 ⟨rfl, hb⟩; have Y1 := Lib.hid (trans_below Y0.out hb); obtain ⟨⟨f0, f1, f2, f3, f4, f5, f6, f7⟩, ⟨g0, g1, g2, g3, g4, g5, g6, g7⟩, _⟩ := KQ.out _ Y1.out; clear hb) | (go_at_call 51; (with_reducible refine (A2.out _ (KQ.out _ Y1.out).2.2).mono ?_); rintro e w2 ⟨rfl, hb⟩; have Y2 := Lib.hid (trans_below Y1.out hb); obtain ⟨⟨f0, f1, f2, f3, f4, f5, f6, f7⟩, ⟨g0, g1, g2, g3, g4, g5, g6, g7⟩, _⟩ := KQ.out _ Y2.out; clear hb) | (go_at_call 53; (with_reducible refine (A3.out _ (KQ.out _ Y2.out).2.2).mono ?_); rintro e w3 ⟨rfl, hb⟩; have Y3 := Lib.hid (trans_below Y2.out hb); obtain ⟨⟨f0, f1, f2, f3, f4, f5, f6, f7⟩, ⟨g0, g1, g2, g3, g4, g5, g6, g7⟩, _⟩ := KQ.out _ Y3.out; clear hb) | (go_at_call 54; (with_reducible refine (A4.out _ (KQ.out _ Y3.out).2.2).mono ?_); rintro e w4 ⟨rfl, hb⟩; have Y4 := Lib.hid (trans_below Y3.out hb); obtain ⟨⟨f0, f1, f2, f3, f4, f5, f6, f7⟩, ⟨g0, g1, g2, g3, g4, g5, g6, g7⟩, _⟩ := KQ.out _ Y4.out; clear hb))
    go_ret
    exact ⟨by rw [EV.out]; rfl, (KQ.out _ Y4.out).2.2⟩
  | true =>
  cases v5 with
  | false =>
    have EV := Lib.hid (show V = false by
      cases V with
      | false => rfl
      | true => have := HV.out.1 rfl; simp at this)
    go_wp2_with (first | (go_at_call 50; (with_reducible refine (A1.out _ (KQ.out _ Y0.out).2.2).mono ?_); rintro e w1 ⟨rfl, hb⟩; have Y1 := Lib.hid (trans_below Y0.out hb); obtain ⟨⟨f0, f1, f2, f3, f4, f5, f6, f7⟩, ⟨g0, g1, g2, g3, g4, g5, g6, g7⟩, _⟩ := KQ.out _ Y1.out; clear hb) | (go_at_call 51; (with_reducible refine (A2.out _ (KQ.out _ Y1.out).2.2).mono ?_); rintro e w2 ⟨rfl, hb⟩; have Y2 := Lib.hid (trans_below Y1.out hb); obtain ⟨⟨f0, f1, f2, f3, f4, f5, f6, f7⟩, ⟨g0, g1, g2, g3, g4, g5, g6, g7⟩, _⟩ := KQ.out _ Y2.out; clear hb) | (go_at_call 53; (with_reducible refine (A3.out _ (KQ.out _ Y2.out).2.2).mono ?_); rintro e w3 ⟨rfl, hb⟩; have Y3 := Lib.hid (trans_below Y2.out hb); obtain ⟨⟨f0, f1, f2, f3, f4, f5, f6, f7⟩, ⟨g0, g1, g2, g3, g4, g5, g6, g7⟩, _⟩ := KQ.out _ Y3.out; clear hb) | (go_at_call 54; (with_reducible refine (A4.out _ (KQ.out _ Y3.out).2.2).mono ?_); rintro e w4 ⟨rfl, hb⟩; have Y4 := Lib.hid (trans_below Y3.out hb); obtain ⟨⟨f0, f1, f2, f3, f4, f5, f6, f7⟩, ⟨g0, g1, g2, g3, g4, g5, g6, g7⟩, _⟩ := KQ.out _ Y4.out; clear hb) | (go_at_call 56; (with_reducible refine (A5.out _ (KQ.out _ Y4.out).2.2).mono ?_); rintro e w5 ⟨rfl, hb⟩; have Y5 := Lib.hid (trans_below Y4.out hb); obtain ⟨⟨f0, f1, f2, f3, f4, f5, f6, f7⟩, ⟨g0, g1, g2, g3, g4, g5, g6, g7⟩, _⟩ := KQ.out _ Y5.out; clear hb))
    go_ret
    exact ⟨by rw [EV.out]; rfl, (KQ.out _ Y5.out).2.2⟩
  | true =>
  cases v6 with
  | false =>
    have EV := Lib.hid (show V = false by
      cases V with
      | false => rfl
      | true => have := HV.out.1 rfl; simp at this)
    go_wp2_with (first | (go_at_call 50; (with_reducible refine (A1.out _ (KQ.out _ Y0.out).2.2).mono ?_); rintro e w1 ⟨rfl, hb⟩; have Y1 := Lib.hid (trans_below Y0.out hb); obtain ⟨⟨f0, f1, f2, f3, f4, f5, f6, f7⟩, ⟨g0, g1, g2, g3, g4, g5, g6, g7⟩, _⟩ := KQ.out _ Y1.out; clear hb) | (go_at_call 51; (with_reducible refine (A2.out _ (KQ.out _ Y1.out).2.2).mono ?_); rintro e w2 ⟨rfl, hb⟩; have Y2 := Lib.hid (trans_below Y1.out hb); obtain ⟨⟨f0, f1, f2, f3, f4, f5, f6, f7⟩, ⟨g0, g1, g2, g3, g4, g5, g6, g7⟩, _⟩ := KQ.out _ Y2.out; clear hb) | (go_at_call 53; (with_reducible refine (A3.out _ (KQ.out _ Y2.out).2.2).mono ?_); rintro e w3 ⟨rfl, hb⟩; have Y3 := Lib.hid (trans_below Y2.out hb); obtain ⟨⟨f0, f1, f2, f3, f4, f5, f6, f7⟩, ⟨g0, g1, g2, g3, g4, g5, g6, g7⟩, _⟩ := KQ.out _ Y3.out; clear hb) | (go_at_call 54; (with_reducible refine (A4.out _ (KQ.out _ Y3.out).2.2).mono ?_); rintro e w4 ⟨rfl, hb⟩; have Y4 := Lib.hid (trans_below Y3.out hb); obtain ⟨⟨f0, f1, f2, f3, f4, f5, f6, f7⟩, ⟨g0, g1, g2, g3, g4, g5, g6, g7⟩, _⟩ := KQ.out _ Y4.out; clear hb) | (go_at_call 56; (with_reducible refine (A5.out _ (KQ.out _ Y4.out).2.2).mono ?_); rintro e w5 ⟨rfl, hb⟩; have Y5 := Lib.hid (trans_below Y4.out hb); obtain ⟨⟨f0, f1, f2, f3, f4, f5, f6, f7⟩, ⟨g0, g1, g2, g3, g4, g5, g6, g7⟩, _⟩ := KQ.out _ Y5.out; clear hb) | (go_at_call 57; (with_reducible refine (A6.out _ (KQ.out _ Y5.out).2.2).mono ?_); rintro e w6 ⟨rfl, hb⟩; have Y6 := Lib.hid (trans_below Y5.out hb); obtain ⟨⟨f0, f1, f2, f3, f4, f5, f6, f7⟩, ⟨g0, g1, g2, g3, g4, g5, g6, g7⟩, _⟩ := KQ.out _ Y6.out; clear hb))
    go_ret
    exact ⟨by rw [EV.out]; rfl, (KQ.out _ Y6.out).2.2⟩
  | true =>
  cases v7 with
  | false =>
    have EV := Lib.hid (show V = false by
      cases V with
      | false => rfl
      | true => have := HV.out.1 rfl; simp at this)
    go_wp2_with (first | (go_at_call 50; (with_reducible refine (A1.out _ (KQ.out _ Y0.out).2.2).mono ?_); rintro e w1 ⟨rfl, hb⟩; have Y1 := Lib.hid (trans_below Y0.out hb); obtain ⟨⟨f0, f1, f2, f3, f4, f5, f6, f7⟩, ⟨g0, g1, g2, g3, g4, g5, g6, g7⟩, _⟩ := KQ.out _ Y1.out; clear hb) | (go_at_call 51; (with_reducible refine (A2.out _ (KQ.out _ Y1.out).2.2).mono ?_); rintro e w2 ⟨rfl, hb⟩; have Y2 := Lib.hid (trans_below Y1.out hb); obtain ⟨⟨f0, f1, f2, f3, f4, f5, f6, f7⟩, ⟨g0, g1, g2, g3, g4, g5, g6, g7⟩, _⟩ := KQ.out _ Y2.out; clear hb) | (go_at_call 53; (with_reducible refine (A3.out _ (KQ.out _ Y2.out).2.2).mono ?_); rintro e w3 ⟨rfl, hb⟩; have Y3 := Lib.hid (trans_below Y2.out hb); obtain ⟨⟨f0, f1, f2, f3, f4, f5, f6, f7⟩, ⟨g0, g1, g2, g3, g4, g5, g6, g7⟩, _⟩ := KQ.out _ Y3.out; clear hb) | (go_at_call 54; (with_reducible refine (A4.out _ (KQ.out _ Y3.out).2.2).mono ?_); rintro e w4 ⟨rfl, hb⟩; have Y4 := Lib.hid (trans_below Y3.out hb); obtain ⟨⟨f0, f1, f2, f3, f4, f5, f6, f7⟩, ⟨g0, g1, g2, g3, g4, g5, g6, g7⟩, _⟩ := KQ.out _ Y4.out; clear hb) | (go_at_call 56; (with_reducible refine (A5.out _ (KQ.out _ Y4.out).2.2).mono ?_); rintro e w5 ⟨rfl, hb⟩; have Y5 := Lib.hid (trans_below Y4.out hb); obtain ⟨⟨f0, f1, f2, f3, f4, f5, f6, f7⟩, ⟨g0, g1, g2, g3, g4, g5, g6, g7⟩, _⟩ := KQ.out _ Y5.out; clear hb) | (go_at_call 57; (with_reducible refine (A6.out _ (KQ.out _ Y5.out).2.2).mono ?_); rintro e w6 ⟨rfl, hb⟩; have Y6 := Lib.hid (trans_below Y5.out hb); obtain ⟨⟨f0, f1, f2, f3, f4, f5, f6, f7⟩, ⟨g0, g1, g2, g3, g4, g5, g6, g7⟩, _⟩ := KQ.out _ Y6.out; clear hb) | (go_at_call 59; (with_reducible refine (A7.out _ (KQ.out _ Y6.out).2.2).mono ?_); rintro e w7 ⟨rfl, hb⟩; have Y7 := Lib.hid (trans_below Y6.out hb); obtain ⟨⟨f0, f1, f2, f3, f4, f5, f6, f7⟩, ⟨g0, g1, g2, g3, g4, g5, g6, g7⟩, _⟩ := KQ.out _ Y7.out; clear hb))
    go_ret
    exact ⟨by rw [EV.out]; rfl, (KQ.out _ Y7.out).2.2⟩
  | true =>
  cases v8 with
  | false =>
    have EV := Lib.hid (show V = false by
      cases V with
      | false => rfl
      | true => have := HV.out.1 rfl; simp at this)
    go_wp2_with (first | (go_at_call 50; (with_reducible refine (A1.out _ (KQ.out _ Y0.out).2.2).mono ?_); rintro e w1 ⟨rfl, hb⟩; have Y1 := Lib.hid (trans_below Y0.out hb); obtain ⟨⟨f0, f1, f2, f3, f4, f5, f6, f7⟩, ⟨g0, g1, g2, g3, g4, g5, g6, g7⟩, _⟩ := KQ.out _ Y1.out; clear hb) | (go_at_call 51; (with_reducible refine (A2.out _ (KQ.out _ Y1.out).2.2).mono ?_); rintro e w2 ⟨rfl, hb⟩; have Y2 := Lib.hid (trans_below Y1.out hb); obtain ⟨⟨f0, f1, f2, f3, f4, f5, f6, f7⟩, ⟨g0, g1, g2, g3, g4, g5, g6, g7⟩, _⟩ := KQ.out _ Y2.out; clear hb) | (go_at_call 53; (with_reducible refine (A3.out _ (KQ.out _ Y2.out).2.2).mono ?_); rintro e w3 ⟨rfl, hb⟩; have Y3 := Lib.hid (trans_below Y2.out hb); obtain ⟨⟨f0, f1, f2, f3, f4, f5, f6, f7⟩, ⟨g0, g1, g2, g3, g4, g5, g6, g7⟩, _⟩ := KQ.out _ Y3.out; clear hb) | (go_at_call 54; (with_reducible refine (A4.out _ (KQ.out _ Y3.out).2.2).mono ?_); rintro e w4 ⟨rfl, hb⟩; have Y4 := Lib.hid (trans_below Y3.out hb); obtain ⟨⟨f0, f1, f2, f3, f4, f5, f6, f7⟩, ⟨g0, g1, g2, g3, g4, g5, g6, g7⟩, _⟩ := KQ.out _ Y4.out; clear hb) | (go_at_call 56; (with_reducible refine (A5.out _ (KQ.out _ Y4.out).2.2).mono ?_); rintro e w5 ⟨rfl, hb⟩; have Y5 := Lib.hid (trans_below Y4.out hb); obtain ⟨⟨f0, f1, f2, f3, f4, f5, f6, f7⟩, ⟨g0, g1, g2, g3, g4, g5, g6, g7⟩, _⟩ := KQ.out _ Y5.out; clear hb) | (go_at_call 57; (with_reducible refine (A6.out _ (KQ.out _ Y5.out).2.2).mono ?_); rintro e w6 ⟨rfl, hb⟩; have Y6 := Lib.hid (trans_below Y5.out hb); obtain ⟨⟨f0, f1, f2, f3, f4, f5, f6, f7⟩, ⟨g0, g1, g2, g3, g4, g5, g6, g7⟩, _⟩ := KQ.out _ Y6.out; clear hb) | (go_at_call 59; (with_reducible refine (A7.out _ (KQ.out _ Y6.out).2.2).mono ?_); rintro e w7 ⟨rfl, hb⟩; have Y7 := Lib.hid (trans_below Y6.out hb); obtain ⟨⟨f0, f1, f2, f3, f4, f5, f6, f7⟩, ⟨g0, g1, g2, g3, g4, g5, g6, g7⟩, _⟩ := KQ.out _ Y7.out; clear hb) | (go_at_call 61; (with_reducible refine (A8.out _ (KQ.out _ Y7.out).2.2).mono ?_); rintro e w8 ⟨rfl, hb⟩; have Y8 := Lib.hid (trans_below Y7.out hb); obtain ⟨⟨f0, f1, f2, f3, f4, f5, f6, f7⟩, ⟨g0, g1, g2, g3, g4, g5, g6, g7⟩, _⟩ := KQ.out _ Y8.out; clear hb))
    go_ret
    exact ⟨by rw [EV.out]; rfl, (KQ.out _ Y8.out).2.2⟩
  | true =>
  have EV := Lib.hid (show V = true from HV.out.2 (by simp))
  go_wp2_with (first | (go_at_call 50; (with_reducible refine (A1.out _ (KQ.out _ Y0.out).2.2).mono ?_); rintro e w1 ⟨rfl, hb⟩; have Y1 := Lib.hid (trans_below Y0.out hb); obtain ⟨⟨f0, f1, f2, f3, f4, f5, f6, f7⟩, ⟨g0, g1, g2, g3, g4, g5, g6, g7⟩, _⟩ := KQ.out _ Y1.out; clear hb) | (go_at_call 51; (with_reducible refine (A2.out _ (KQ.out _ Y1.out).2.2).mono ?_); rintro e w2 ⟨rfl, hb⟩; have Y2 := Lib.hid (trans_below Y1.out hb); obtain ⟨⟨f0, f1, f2, f3, f4, f5, f6, f7⟩, ⟨g0, g1, g2, g3, g4, g5, g6, g7⟩, _⟩ := KQ.out _ Y2.out; clear hb) | (go_at_call 53; (with_reducible refine (A3.out _ (KQ.out _ Y2.out).2.2).mono ?_); rintro e w3 ⟨rfl, hb⟩; have Y3 := Lib.hid (trans_below Y2.out hb); obtain ⟨⟨f0, f1, f2, f3, f4, f5, f6, f7⟩, ⟨g0, g1, g2, g3, g4, g5, g6, g7⟩, _⟩ := KQ.out _ Y3.out; clear hb) | (go_at_call 54; (with_reducible refine (A4.out _ (KQ.out _ Y3.out).2.2).mono ?_); rintro e w4 ⟨rfl, hb⟩; have Y4 := Lib.hid (trans_below Y3.out hb); obtain ⟨⟨f0, f1, f2, f3, f4, f5, f6, f7⟩, ⟨g0, g1, g2, g3, g4, g5, g6, g7⟩, _⟩ := KQ.out _ Y4.out; clear hb) | (go_at_call 56; (with_reducible refine (A5.out _ (KQ.out _ Y4.out).2.2).mono ?_); rintro e w5 ⟨rfl, hb⟩; have Y5 := Lib.hid (trans_below Y4.out hb); obtain ⟨⟨f0, f1, f2, f3, f4, f5, f6, f7⟩, ⟨g0, g1, g2, g3, g4, g5, g6, g7⟩, _⟩ := KQ.out _ Y5.out; clear hb) | (go_at_call 57; (with_reducible refine (A6.out _ (KQ.out _ Y5.out).2.2).mono ?_); rintro e w6 ⟨rfl, hb⟩; have Y6 := Lib.hid (trans_below Y5.out hb); obtain ⟨⟨f0, f1, f2, f3, f4, f5, f6, f7⟩, ⟨g0, g1, g2, g3, g4, g5, g6, g7⟩, _⟩ := KQ.out _ Y6.out; clear hb) | (go_at_call 59; (with_reducible refine (A7.out _ (KQ.out _ Y6.out).2.2).mono ?_); rintro e w7 ⟨rfl, hb⟩; have Y7 := Lib.hid (trans_below Y6.out hb); obtain ⟨⟨f0, f1, f2, f3, f4, f5, f6, f7⟩, ⟨g0, g1, g2, g3, g4, g5, g6, g7⟩, _⟩ := KQ.out _ Y7.out; clear hb) | (go_at_call 61; (with_reducible refine (A8.out _ (KQ.out _ Y7.out).2.2).mono ?_); rintro e w8 ⟨rfl, hb⟩; have Y8 := Lib.hid (trans_below Y7.out hb); obtain ⟨⟨f0, f1, f2, f3, f4, f5, f6, f7⟩, ⟨g0, g1, g2, g3, g4, g5, g6, g7⟩, _⟩ := KQ.out _ Y8.out; clear hb))
  go_ret
  exact ⟨by rw [EV.out]; rfl, (KQ.out _ Y8.out).2.2⟩
end Go.Proofs.YtgmflecelnefcaaGreat

