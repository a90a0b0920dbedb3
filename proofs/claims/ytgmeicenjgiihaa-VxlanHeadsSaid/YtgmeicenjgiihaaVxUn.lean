/- The contract of vxlan.Unwrap. -/
import Derived.Test.YtgmeicenjgiihaaVxSt
import Derived.Test.YtgmeicenjgiihaaVxRUnwrap
import Derived.RegionTactic
namespace Go.Proofs.Ytgmeicenjgiihaa
open Go.RowKit
open Go.Lib (byteCells)

theorem five_new (w : World) (v0 v1 v2 v3 v4 : Value) (e : TypeId) (q : Nat) (hq : q = w.heap.size) :
    (w.alloc (.cells #[v0, v1, v2, v3, v4] e)).cell? ⟨q, 0, none⟩ = some v0 ∧ (w.alloc (.cells #[v0, v1, v2, v3, v4] e)).cell? ⟨q, 1, none⟩ = some v1 ∧ (w.alloc (.cells #[v0, v1, v2, v3, v4] e)).cell? ⟨q, 2, none⟩ = some v2 ∧ (w.alloc (.cells #[v0, v1, v2, v3, v4] e)).cell? ⟨q, 3, none⟩ = some v3 ∧ (w.alloc (.cells #[v0, v1, v2, v3, v4] e)).cell? ⟨q, 4, none⟩ = some v4 := by
  subst hq
  exact ⟨by simp, by simp, by simp, by simp, by simp⟩
theorem unwrap_keep {w w' : World} {A : Option Addr} {n c : Nat} (g : Ex (w.heap.size + 1) (((w.alloc (.cells #[.int .u64 0, .int .u64 0, .int .i64 0, .slice none 0 0] 37)).alloc (.cells #[.int .u32 0, .int .u32 0, .int .i64 0, .int .u64 0, .int .u64 0, .int .i64 0, .slice none 0 0, .slice A n c, .int .i64 0] 69)).alloc (.cells #[.func (.func 32) #[.pointer (some ⟨w.heap.size + 1, 0, none⟩)] #[], .func (.func 33) #[.pointer (some ⟨w.heap.size + 1, 0, none⟩)] #[], .func (.func 34) #[.pointer (some ⟨w.heap.size + 1, 0, none⟩)] #[], .func (.func 35) #[.pointer (some ⟨w.heap.size + 1, 0, none⟩)] #[], .func (.func 36) #[.pointer (some ⟨w.heap.size + 1, 0, none⟩)] #[]] 1)) w') :
    (w'.cell? ⟨w.heap.size + 2, 0, none⟩ = some (.func (.func 32) #[.pointer (some ⟨w.heap.size + 1, 0, none⟩)] #[]) ∧ w'.cell? ⟨w.heap.size + 2, 1, none⟩ = some (.func (.func 33) #[.pointer (some ⟨w.heap.size + 1, 0, none⟩)] #[]) ∧ w'.cell? ⟨w.heap.size + 2, 2, none⟩ = some (.func (.func 34) #[.pointer (some ⟨w.heap.size + 1, 0, none⟩)] #[]) ∧ w'.cell? ⟨w.heap.size + 2, 3, none⟩ = some (.func (.func 35) #[.pointer (some ⟨w.heap.size + 1, 0, none⟩)] #[]) ∧ w'.cell? ⟨w.heap.size + 2, 4, none⟩ = some (.func (.func 36) #[.pointer (some ⟨w.heap.size + 1, 0, none⟩)] #[])) ∧
    Box4 w' w.heap.size (.int .u64 0) (.int .u64 0) (.int .i64 0) (.slice none 0 0) ∧ Below w.heap.size w w' ∧ w.heap.size + 2 < w'.heap.size := by
  have hs : w.heap.size + 2 < ((((w.alloc (.cells #[.int .u64 0, .int .u64 0, .int .i64 0, .slice none 0 0] 37)).alloc (.cells #[.int .u32 0, .int .u32 0, .int .i64 0, .int .u64 0, .int .u64 0, .int .i64 0, .slice none 0 0, .slice A n c, .int .i64 0] 69)).alloc (.cells #[.func (.func 32) #[.pointer (some ⟨w.heap.size + 1, 0, none⟩)] #[], .func (.func 33) #[.pointer (some ⟨w.heap.size + 1, 0, none⟩)] #[], .func (.func 34) #[.pointer (some ⟨w.heap.size + 1, 0, none⟩)] #[], .func (.func 35) #[.pointer (some ⟨w.heap.size + 1, 0, none⟩)] #[], .func (.func 36) #[.pointer (some ⟨w.heap.size + 1, 0, none⟩)] #[]] 1))).heap.size := by simp
  have h4 : Box4 (((w.alloc (.cells #[.int .u64 0, .int .u64 0, .int .i64 0, .slice none 0 0] 37)).alloc (.cells #[.int .u32 0, .int .u32 0, .int .i64 0, .int .u64 0, .int .u64 0, .int .i64 0, .slice none 0 0, .slice A n c, .int .i64 0] 69)).alloc (.cells #[.func (.func 32) #[.pointer (some ⟨w.heap.size + 1, 0, none⟩)] #[], .func (.func 33) #[.pointer (some ⟨w.heap.size + 1, 0, none⟩)] #[], .func (.func 34) #[.pointer (some ⟨w.heap.size + 1, 0, none⟩)] #[], .func (.func 35) #[.pointer (some ⟨w.heap.size + 1, 0, none⟩)] #[], .func (.func 36) #[.pointer (some ⟨w.heap.size + 1, 0, none⟩)] #[]] 1)) w.heap.size (.int .u64 0) (.int .u64 0) (.int .i64 0) (.slice none 0 0) := ((Box4.new w _ _ _ _ _ _ rfl).alloc _).alloc _
  have hb : Below w.heap.size w (((w.alloc (.cells #[.int .u64 0, .int .u64 0, .int .i64 0, .slice none 0 0] 37)).alloc (.cells #[.int .u32 0, .int .u32 0, .int .i64 0, .int .u64 0, .int .u64 0, .int .i64 0, .slice none 0 0, .slice A n c, .int .i64 0] 69)).alloc (.cells #[.func (.func 32) #[.pointer (some ⟨w.heap.size + 1, 0, none⟩)] #[], .func (.func 33) #[.pointer (some ⟨w.heap.size + 1, 0, none⟩)] #[], .func (.func 34) #[.pointer (some ⟨w.heap.size + 1, 0, none⟩)] #[], .func (.func 35) #[.pointer (some ⟨w.heap.size + 1, 0, none⟩)] #[], .func (.func 36) #[.pointer (some ⟨w.heap.size + 1, 0, none⟩)] #[]] 1)) := (((Below.refl _ _).alloc (Nat.le_refl _) _).alloc (by simp) _).alloc (by simp; omega) _
  obtain ⟨s0, s1, s2, s3, s4⟩ := five_new ((w.alloc (.cells #[.int .u64 0, .int .u64 0, .int .i64 0, .slice none 0 0] 37)).alloc (.cells #[.int .u32 0, .int .u32 0, .int .i64 0, .int .u64 0, .int .u64 0, .int .i64 0, .slice none 0 0, .slice A n c, .int .i64 0] 69)) (.func (.func 32) #[.pointer (some ⟨w.heap.size + 1, 0, none⟩)] #[]) (.func (.func 33) #[.pointer (some ⟨w.heap.size + 1, 0, none⟩)] #[]) (.func (.func 34) #[.pointer (some ⟨w.heap.size + 1, 0, none⟩)] #[]) (.func (.func 35) #[.pointer (some ⟨w.heap.size + 1, 0, none⟩)] #[]) (.func (.func 36) #[.pointer (some ⟨w.heap.size + 1, 0, none⟩)] #[]) 1 (w.heap.size + 2) (by simp)
  exact ⟨⟨(g.cell 0 hs (by omega)).trans s0, (g.cell 1 hs (by omega)).trans s1, (g.cell 2 hs (by omega)).trans s2, (g.cell 3 hs (by omega)).trans s3, (g.cell 4 hs (by omega)).trans s4⟩, h4.ex g (by omega), Below.ex hb g (by omega) (by simp; omega), Nat.lt_of_lt_of_le hs g.size⟩
theorem four_odd (w : World) (v0 v1 v2 v3 : Value) (e : TypeId) (n0 : NoByte v0) (n1 : NoByte v1) (n2 : NoByte v2) (n3 : NoByte v3) : Odd (w.alloc (.cells #[v0, v1, v2, v3] e)) w.heap.size := by
  intro o u hu
  match o, hu with
  | 0, hu =>
    have : v0 = u := by simpa using hu
    exact this ▸ n0
  | 1, hu =>
    have : v1 = u := by simpa using hu
    exact this ▸ n1
  | 2, hu =>
    have : v2 = u := by simpa using hu
    exact this ▸ n2
  | 3, hu =>
    have : v3 = u := by simpa using hu
    exact this ▸ n3
  | o + 4, hu => simp at hu
theorem unwrap_odd {w w' : World} {A : Option Addr} {n c : Nat} (g : Ex (w.heap.size + 1) (((w.alloc (.cells #[.int .u64 0, .int .u64 0, .int .i64 0, .slice none 0 0] 37)).alloc (.cells #[.int .u32 0, .int .u32 0, .int .i64 0, .int .u64 0, .int .u64 0, .int .i64 0, .slice none 0 0, .slice A n c, .int .i64 0] 69)).alloc (.cells #[.func (.func 32) #[.pointer (some ⟨w.heap.size + 1, 0, none⟩)] #[], .func (.func 33) #[.pointer (some ⟨w.heap.size + 1, 0, none⟩)] #[], .func (.func 34) #[.pointer (some ⟨w.heap.size + 1, 0, none⟩)] #[], .func (.func 35) #[.pointer (some ⟨w.heap.size + 1, 0, none⟩)] #[], .func (.func 36) #[.pointer (some ⟨w.heap.size + 1, 0, none⟩)] #[]] 1)) w') : Odd w' w.heap.size := by
  intro o u hu
  rw [g.cell o (by simp; omega) (by omega)] at hu
  have h1 := (Below.refl (w.alloc (.cells #[.int .u64 0, .int .u64 0, .int .i64 0, .slice none 0 0] 37)).heap.size (w.alloc (.cells #[.int .u64 0, .int .u64 0, .int .i64 0, .slice none 0 0] 37))).alloc (Nat.le_refl _) (.cells #[.int .u32 0, .int .u32 0, .int .i64 0, .int .u64 0, .int .u64 0, .int .i64 0, .slice none 0 0, .slice A n c, .int .i64 0] 69)
  have h2 := h1.alloc (by simp) (.cells #[.func (.func 32) #[.pointer (some ⟨w.heap.size + 1, 0, none⟩)] #[], .func (.func 33) #[.pointer (some ⟨w.heap.size + 1, 0, none⟩)] #[], .func (.func 34) #[.pointer (some ⟨w.heap.size + 1, 0, none⟩)] #[], .func (.func 35) #[.pointer (some ⟨w.heap.size + 1, 0, none⟩)] #[], .func (.func 36) #[.pointer (some ⟨w.heap.size + 1, 0, none⟩)] #[]] 1)
  rw [h2.cell (p := ⟨w.heap.size, o, none⟩) (by simp)] at hu
  exact four_odd w _ _ _ _ _ (noByte_u64 _) (noByte_u64 _) (noByte_i64 _) (noByte_slice _ _ _) o u hu
theorem bsl_putv4 {w : World} {q : Nat} {v0 v1 v2 v3 u0 u1 u2 u3 : Value} {A : Option Addr} {n c : Nat} {l : List UInt8} (g : BSl w A n c l) (h : Box4 w q v0 v1 v2 v3) (o : Odd w q) (n0 : NoByte u0) (n1 : NoByte u1) (n2 : NoByte u2) : BSl (putv4 w q u0 u1 u2 u3) A n c l := by
  obtain ⟨h0, h1, h2, h3, _⟩ := h
  have o0 := o.set h0 n0
  have o1 := o0.set (cell_other h1 (by omega)) n1
  have o2 := o1.set (cell_other (cell_other h2 (by omega)) (by omega)) n2
  exact (((g.odd o 0 _).odd o0 1 _).odd o1 2 _).odd o2 3 _
theorem reading_new (w : World) (A : Option Addr) (n c : Nat) : Box9 (((w.alloc (.cells #[.int .u64 0, .int .u64 0, .int .i64 0, .slice none 0 0] 37)).alloc (.cells #[.int .u32 0, .int .u32 0, .int .i64 0, .int .u64 0, .int .u64 0, .int .i64 0, .slice none 0 0, .slice A n c, .int .i64 0] 69)).alloc (.cells #[.func (.func 32) #[.pointer (some ⟨w.heap.size + 1, 0, none⟩)] #[], .func (.func 33) #[.pointer (some ⟨w.heap.size + 1, 0, none⟩)] #[], .func (.func 34) #[.pointer (some ⟨w.heap.size + 1, 0, none⟩)] #[], .func (.func 35) #[.pointer (some ⟨w.heap.size + 1, 0, none⟩)] #[], .func (.func 36) #[.pointer (some ⟨w.heap.size + 1, 0, none⟩)] #[]] 1)) (w.heap.size + 1) (.int .u32 0) (.int .u32 0) (.int .i64 0) (.int .u64 0) (.int .u64 0) (.int .i64 0) (.slice none 0 0) (.slice A n c) (.int .i64 0) :=
  (Box9.new (w.alloc (.cells #[.int .u64 0, .int .u64 0, .int .i64 0, .slice none 0 0] 37)) _ _ _ _ _ _ _ _ _ _ _ (by simp) ⟨noByte_u32 _, noByte_u32 _, noByte_i64 _, noByte_u64 _, noByte_u64 _, noByte_i64 _, noByte_slice _ _ _, noByte_slice _ _ _, noByte_i64 _⟩).alloc _
set_option maxRecDepth 20000 in
set_option maxHeartbeats 4000000 in
theorem xunwrap_1 (A : Option Addr) (n c : Nat) (k : List UInt8) (w : World) (h : BSl w A n c k) (hn : n ≤ 4000) (e1 : ¬ sO k = 0) :
    Calls Try.prog 14 #[.slice A n c] w (GotUw w 0 0 0 0 0 0 [] (sO k)) := by
  have hl := h.len
  have Y0 := Lib.hid (reading_new w A n c)
  have X0 := Lib.hid (((h.alloc (.cells #[.int .u64 0, .int .u64 0, .int .i64 0, .slice none 0 0] 37)).alloc (.cells #[.int .u32 0, .int .u32 0, .int .i64 0, .int .u64 0, .int .u64 0, .int .i64 0, .slice none 0 0, .slice A n c, .int .i64 0] 69)).alloc (.cells #[.func (.func 32) #[.pointer (some ⟨w.heap.size + 1, 0, none⟩)] #[], .func (.func 33) #[.pointer (some ⟨w.heap.size + 1, 0, none⟩)] #[], .func (.func 34) #[.pointer (some ⟨w.heap.size + 1, 0, none⟩)] #[], .func (.func 35) #[.pointer (some ⟨w.heap.size + 1, 0, none⟩)] #[], .func (.func 36) #[.pointer (some ⟨w.heap.size + 1, 0, none⟩)] #[]] 1))
  have C1 := Lib.hid (fun w1 hB h => outer_any (w.heap.size + 1) (.int .u32 0) (.int .u32 0) (.int .i64 0) (.int .u64 0) (.int .u64 0) (.int .i64 0) (.slice none 0 0) (.int .i64 0) A n c k w1 hB h)
  have q1 : (tL k).length ≤ 4000 := by unfold tL; split <;> simp <;> omega
  generalize sO k = G1 at *
  generalize tL k = l1 at *
  have hmf : ∀ (fn : Fn) (first cap : Array Value) (w : World), (Instr.makeFunc fn first cap).run Try.prog w = .ok (.func fn first cap) w := fun _ _ _ _ => rfl
  clear h hl
  go_enter Try.func14, Try.ntmps14
  go_wp2
  refine wp_loop_rounds 1 ?_
  rw [rounds_succ]
  go_wp2_with (first
    | (go_at_call 32; (with_reducible refine (C1.out _ Y0.out X0.out).mono ?_); rintro e w1 ⟨rfl, A1, m1, c1, hY1, hX1, hE1⟩; have Y1 := Lib.hid hY1; have X1 := Lib.hid hX1; have E1 := Lib.hid (hE1); clear hY1 hX1 hE1; obtain ⟨r0, r1, r2, r3, r4, r5, r6, r7, r8, rf, _⟩ := Y1.out; have zl := Y1.out.lt; obtain ⟨⟨s0, s1, s2, s3, s4⟩, ⟨f0, f1, f2, f3, ff⟩, bl, sl⟩ := unwrap_keep E1.out; have FB := Lib.hid (unwrap_keep E1.out).2.1; have BL := Lib.hid bl; clear bl; have fl : w.heap.size < w1.heap.size := by omega)
      | fail)
  go_region
  go_wp2
  have RR := Lib.hid (show Box4 (putv4 w1 w.heap.size (.int .u64 0) (.int .u64 0) (.int .i64 0) (.slice none 0 0)).drew w.heap.size (.int .u64 0) (.int .u64 0) (.int .i64 0) (.slice none 0 0) from (FB.out.put (.int .u64 0) (.int .u64 0) (.int .i64 0) (.slice none 0 0)).drewN 1)
  have QQ := Lib.hid (show Below w.heap.size w (putv4 w1 w.heap.size (.int .u64 0) (.int .u64 0) (.int .i64 0) (.slice none 0 0)).drew from below_drewN (putv4_below (.int .u64 0) (.int .u64 0) (.int .i64 0) (.slice none 0 0) BL.out (Nat.le_refl _)) 1)
  change bodyPost _ _ _ _ _ (putv4 w1 w.heap.size (.int .u64 0) (.int .u64 0) (.int .i64 0) (.slice none 0 0)).drew
  generalize (putv4 w1 w.heap.size (.int .u64 0) (.int .u64 0) (.int .i64 0) (.slice none 0 0)).drew = w9 at *
  obtain ⟨t0, t1, t2, t3, _⟩ := RR.out
  exact bodyPost_ret (v := .tuple #[.int .u32 0, .int .u32 0, .int .i64 0, .agg #[.int .u64 0, .int .u64 0, .int .i64 0, .slice none 0 0], .int .i64 G1]) (by simp [results, Try.results14, go_sem, t0, t1, t2, t3]) rfl ⟨none, 0, 0, rfl, BSl.nil, QQ.out⟩
set_option maxRecDepth 20000 in
set_option maxHeartbeats 4000000 in
theorem xunwrap_2 (A : Option Addr) (n c : Nat) (k : List UInt8) (w : World) (h : BSl w A n c k) (hn : n ≤ 4000) (e1 : sO k = 0) (e2 : ¬ sP (tL k) = 0) :
    Calls Try.prog 14 #[.slice A n c] w (GotUw w 0 0 0 0 0 0 [] (sP (tL k))) := by
  have hl := h.len
  have Y0 := Lib.hid (reading_new w A n c)
  have X0 := Lib.hid (((h.alloc (.cells #[.int .u64 0, .int .u64 0, .int .i64 0, .slice none 0 0] 37)).alloc (.cells #[.int .u32 0, .int .u32 0, .int .i64 0, .int .u64 0, .int .u64 0, .int .i64 0, .slice none 0 0, .slice A n c, .int .i64 0] 69)).alloc (.cells #[.func (.func 32) #[.pointer (some ⟨w.heap.size + 1, 0, none⟩)] #[], .func (.func 33) #[.pointer (some ⟨w.heap.size + 1, 0, none⟩)] #[], .func (.func 34) #[.pointer (some ⟨w.heap.size + 1, 0, none⟩)] #[], .func (.func 35) #[.pointer (some ⟨w.heap.size + 1, 0, none⟩)] #[], .func (.func 36) #[.pointer (some ⟨w.heap.size + 1, 0, none⟩)] #[]] 1))
  have C1 := Lib.hid (fun w1 hB h => outer_any (w.heap.size + 1) (.int .u32 0) (.int .u32 0) (.int .i64 0) (.int .u64 0) (.int .u64 0) (.int .i64 0) (.slice none 0 0) (.int .i64 0) A n c k w1 hB h)
  have q1 : (tL k).length ≤ 4000 := by unfold tL; split <;> simp <;> omega
  generalize sO k = G1 at *
  generalize tL k = l1 at *
  subst e1
  have C2 := Lib.hid (fun A n c w1 hB (h : BSl w1 A n c l1) => packet_any (w.heap.size + 1) (.int .u32 0) (.int .u32 0) (.int .i64 0) (.int .u64 0) (.int .u64 0) (.int .i64 0) (.slice none 0 0) (.int .i64 0) A n c l1 w1 hB h (by have := h.len; omega))
  have q2 : (ol (rE l1) (bodyF l1)).length ≤ 4000 := by unfold ol; split <;> simp [bodyF] <;> omega
  generalize sP l1 = G2 at *
  generalize oi (rE l1) (four l1 12) = xs at *
  generalize oi (rE l1) (four l1 16) = xd at *
  generalize ol (rE l1) (bodyF l1) = l2 at *
  have hmf : ∀ (fn : Fn) (first cap : Array Value) (w : World), (Instr.makeFunc fn first cap).run Try.prog w = .ok (.func fn first cap) w := fun _ _ _ _ => rfl
  clear h hl
  go_enter Try.func14, Try.ntmps14
  go_wp2
  refine wp_loop_rounds 2 ?_
  rw [rounds_succ]
  go_wp2_with (first
    | (go_at_call 32; (with_reducible refine (C1.out _ Y0.out X0.out).mono ?_); rintro e w1 ⟨rfl, A1, m1, c1, hY1, hX1, hE1⟩; have Y1 := Lib.hid hY1; have X1 := Lib.hid hX1; have E1 := Lib.hid (hE1); clear hY1 hX1 hE1; obtain ⟨r0, r1, r2, r3, r4, r5, r6, r7, r8, rf, _⟩ := Y1.out; have zl := Y1.out.lt; obtain ⟨⟨s0, s1, s2, s3, s4⟩, ⟨f0, f1, f2, f3, ff⟩, bl, sl⟩ := unwrap_keep E1.out; have FB := Lib.hid (unwrap_keep E1.out).2.1; have BL := Lib.hid bl; clear bl; have fl : w.heap.size < w1.heap.size := by omega)
      | fail)
  rw [rounds_succ]
  go_wp2_with (first
    | (go_at_call 33; (with_reducible refine (C2.out _ _ _ _ Y1.out X1.out).mono ?_); rintro e w2 ⟨rfl, A2, m2, c2, hY2, hX2, hE2⟩; clear r0 r1 r2 r3 r4 r5 r6 r7 r8 rf s0 s1 s2 s3 s4 f0 f1 f2 f3 ff zl fl sl; have Y2 := Lib.hid hY2; have X2 := Lib.hid hX2; have E2 := Lib.hid (E1.out.trans hE2); clear hY2 hX2 hE2; obtain ⟨r0, r1, r2, r3, r4, r5, r6, r7, r8, rf, _⟩ := Y2.out; have zl := Y2.out.lt; obtain ⟨⟨s0, s1, s2, s3, s4⟩, ⟨f0, f1, f2, f3, ff⟩, bl, sl⟩ := unwrap_keep E2.out; have FB := Lib.hid (unwrap_keep E2.out).2.1; have BL := Lib.hid bl; clear bl; have fl : w.heap.size < w2.heap.size := by omega)
      | fail)
  go_region
  go_wp2
  have RR := Lib.hid (show Box4 (putv4 w2 w.heap.size (.int .u64 0) (.int .u64 0) (.int .i64 0) (.slice none 0 0)).drew w.heap.size (.int .u64 0) (.int .u64 0) (.int .i64 0) (.slice none 0 0) from (FB.out.put (.int .u64 0) (.int .u64 0) (.int .i64 0) (.slice none 0 0)).drewN 1)
  have QQ := Lib.hid (show Below w.heap.size w (putv4 w2 w.heap.size (.int .u64 0) (.int .u64 0) (.int .i64 0) (.slice none 0 0)).drew from below_drewN (putv4_below (.int .u64 0) (.int .u64 0) (.int .i64 0) (.slice none 0 0) BL.out (Nat.le_refl _)) 1)
  change bodyPost _ _ _ _ _ (putv4 w2 w.heap.size (.int .u64 0) (.int .u64 0) (.int .i64 0) (.slice none 0 0)).drew
  generalize (putv4 w2 w.heap.size (.int .u64 0) (.int .u64 0) (.int .i64 0) (.slice none 0 0)).drew = w9 at *
  obtain ⟨t0, t1, t2, t3, _⟩ := RR.out
  exact bodyPost_ret (v := .tuple #[.int .u32 0, .int .u32 0, .int .i64 0, .agg #[.int .u64 0, .int .u64 0, .int .i64 0, .slice none 0 0], .int .i64 G2]) (by simp [results, Try.results14, go_sem, t0, t1, t2, t3]) rfl ⟨none, 0, 0, rfl, BSl.nil, QQ.out⟩
set_option maxRecDepth 20000 in
set_option maxHeartbeats 4000000 in
theorem xunwrap_3 (A : Option Addr) (n c : Nat) (k : List UInt8) (w : World) (h : BSl w A n c k) (hn : n ≤ 4000) (e1 : sO k = 0) (e2 : sP (tL k) = 0) (e3 : ¬ sD (ol (rE (tL k)) (bodyF (tL k))) = 0) :
    Calls Try.prog 14 #[.slice A n c] w (GotUw w 0 0 0 0 0 0 [] (sD (ol (rE (tL k)) (bodyF (tL k))))) := by
  have hl := h.len
  have Y0 := Lib.hid (reading_new w A n c)
  have X0 := Lib.hid (((h.alloc (.cells #[.int .u64 0, .int .u64 0, .int .i64 0, .slice none 0 0] 37)).alloc (.cells #[.int .u32 0, .int .u32 0, .int .i64 0, .int .u64 0, .int .u64 0, .int .i64 0, .slice none 0 0, .slice A n c, .int .i64 0] 69)).alloc (.cells #[.func (.func 32) #[.pointer (some ⟨w.heap.size + 1, 0, none⟩)] #[], .func (.func 33) #[.pointer (some ⟨w.heap.size + 1, 0, none⟩)] #[], .func (.func 34) #[.pointer (some ⟨w.heap.size + 1, 0, none⟩)] #[], .func (.func 35) #[.pointer (some ⟨w.heap.size + 1, 0, none⟩)] #[], .func (.func 36) #[.pointer (some ⟨w.heap.size + 1, 0, none⟩)] #[]] 1))
  have C1 := Lib.hid (fun w1 hB h => outer_any (w.heap.size + 1) (.int .u32 0) (.int .u32 0) (.int .i64 0) (.int .u64 0) (.int .u64 0) (.int .i64 0) (.slice none 0 0) (.int .i64 0) A n c k w1 hB h)
  have q1 : (tL k).length ≤ 4000 := by unfold tL; split <;> simp <;> omega
  generalize sO k = G1 at *
  generalize tL k = l1 at *
  subst e1
  have C2 := Lib.hid (fun A n c w1 hB (h : BSl w1 A n c l1) => packet_any (w.heap.size + 1) (.int .u32 0) (.int .u32 0) (.int .i64 0) (.int .u64 0) (.int .u64 0) (.int .i64 0) (.slice none 0 0) (.int .i64 0) A n c l1 w1 hB h (by have := h.len; omega))
  have q2 : (ol (rE l1) (bodyF l1)).length ≤ 4000 := by unfold ol; split <;> simp [bodyF] <;> omega
  generalize sP l1 = G2 at *
  generalize oi (rE l1) (four l1 12) = xs at *
  generalize oi (rE l1) (four l1 16) = xd at *
  generalize ol (rE l1) (bodyF l1) = l2 at *
  subst e2
  have C3 := Lib.hid (fun A n c w1 hB (h : BSl w1 A n c l2) => datagram_any (w.heap.size + 1) (.int .u32 xs) (.int .u32 xd) (.int .i64 0) (.int .u64 0) (.int .u64 0) (.int .i64 0) (.slice none 0 0) (.int .i64 0) A n c l2 w1 hB h (by have := h.len; omega))
  have q3 : (ol (udE l2) (udB l2)).length ≤ 4000 := by unfold ol; split <;> simp [udB] <;> omega
  generalize sD l2 = G3 at *
  generalize ol (udE l2) (udB l2) = l3 at *
  have hmf : ∀ (fn : Fn) (first cap : Array Value) (w : World), (Instr.makeFunc fn first cap).run Try.prog w = .ok (.func fn first cap) w := fun _ _ _ _ => rfl
  clear h hl
  go_enter Try.func14, Try.ntmps14
  go_wp2
  refine wp_loop_rounds 3 ?_
  rw [rounds_succ]
  go_wp2_with (first
    | (go_at_call 32; (with_reducible refine (C1.out _ Y0.out X0.out).mono ?_); rintro e w1 ⟨rfl, A1, m1, c1, hY1, hX1, hE1⟩; have Y1 := Lib.hid hY1; have X1 := Lib.hid hX1; have E1 := Lib.hid (hE1); clear hY1 hX1 hE1; obtain ⟨r0, r1, r2, r3, r4, r5, r6, r7, r8, rf, _⟩ := Y1.out; have zl := Y1.out.lt; obtain ⟨⟨s0, s1, s2, s3, s4⟩, ⟨f0, f1, f2, f3, ff⟩, bl, sl⟩ := unwrap_keep E1.out; have FB := Lib.hid (unwrap_keep E1.out).2.1; have BL := Lib.hid bl; clear bl; have fl : w.heap.size < w1.heap.size := by omega)
      | fail)
  rw [rounds_succ]
  go_wp2_with (first
    | (go_at_call 33; (with_reducible refine (C2.out _ _ _ _ Y1.out X1.out).mono ?_); rintro e w2 ⟨rfl, A2, m2, c2, hY2, hX2, hE2⟩; clear r0 r1 r2 r3 r4 r5 r6 r7 r8 rf s0 s1 s2 s3 s4 f0 f1 f2 f3 ff zl fl sl; have Y2 := Lib.hid hY2; have X2 := Lib.hid hX2; have E2 := Lib.hid (E1.out.trans hE2); clear hY2 hX2 hE2; obtain ⟨r0, r1, r2, r3, r4, r5, r6, r7, r8, rf, _⟩ := Y2.out; have zl := Y2.out.lt; obtain ⟨⟨s0, s1, s2, s3, s4⟩, ⟨f0, f1, f2, f3, ff⟩, bl, sl⟩ := unwrap_keep E2.out; have FB := Lib.hid (unwrap_keep E2.out).2.1; have BL := Lib.hid bl; clear bl; have fl : w.heap.size < w2.heap.size := by omega)
      | fail)
  rw [rounds_succ]
  go_wp2_with (first
    | (go_at_call 34; (with_reducible refine (C3.out _ _ _ _ Y2.out X2.out).mono ?_); rintro e w3 ⟨rfl, A3, m3, c3, hY3, hX3, hE3⟩; clear r0 r1 r2 r3 r4 r5 r6 r7 r8 rf s0 s1 s2 s3 s4 f0 f1 f2 f3 ff zl fl sl; have Y3 := Lib.hid hY3; have X3 := Lib.hid hX3; have E3 := Lib.hid (E2.out.trans hE3); clear hY3 hX3 hE3; obtain ⟨r0, r1, r2, r3, r4, r5, r6, r7, r8, rf, _⟩ := Y3.out; have zl := Y3.out.lt; obtain ⟨⟨s0, s1, s2, s3, s4⟩, ⟨f0, f1, f2, f3, ff⟩, bl, sl⟩ := unwrap_keep E3.out; have FB := Lib.hid (unwrap_keep E3.out).2.1; have BL := Lib.hid bl; clear bl; have fl : w.heap.size < w3.heap.size := by omega)
      | fail)
  go_region
  go_wp2
  have RR := Lib.hid (show Box4 (putv4 w3 w.heap.size (.int .u64 0) (.int .u64 0) (.int .i64 0) (.slice none 0 0)).drew w.heap.size (.int .u64 0) (.int .u64 0) (.int .i64 0) (.slice none 0 0) from (FB.out.put (.int .u64 0) (.int .u64 0) (.int .i64 0) (.slice none 0 0)).drewN 1)
  have QQ := Lib.hid (show Below w.heap.size w (putv4 w3 w.heap.size (.int .u64 0) (.int .u64 0) (.int .i64 0) (.slice none 0 0)).drew from below_drewN (putv4_below (.int .u64 0) (.int .u64 0) (.int .i64 0) (.slice none 0 0) BL.out (Nat.le_refl _)) 1)
  change bodyPost _ _ _ _ _ (putv4 w3 w.heap.size (.int .u64 0) (.int .u64 0) (.int .i64 0) (.slice none 0 0)).drew
  generalize (putv4 w3 w.heap.size (.int .u64 0) (.int .u64 0) (.int .i64 0) (.slice none 0 0)).drew = w9 at *
  obtain ⟨t0, t1, t2, t3, _⟩ := RR.out
  exact bodyPost_ret (v := .tuple #[.int .u32 0, .int .u32 0, .int .i64 0, .agg #[.int .u64 0, .int .u64 0, .int .i64 0, .slice none 0 0], .int .i64 G3]) (by simp [results, Try.results14, go_sem, t0, t1, t2, t3]) rfl ⟨none, 0, 0, rfl, BSl.nil, QQ.out⟩
set_option maxRecDepth 20000 in
set_option maxHeartbeats 4000000 in
theorem xunwrap_4 (A : Option Addr) (n c : Nat) (k : List UInt8) (w : World) (h : BSl w A n c k) (hn : n ≤ 4000) (e1 : sO k = 0) (e2 : sP (tL k) = 0) (e3 : sD (ol (rE (tL k)) (bodyF (tL k))) = 0) (e4 : ¬ vnE (ol (udE (ol (rE (tL k)) (bodyF (tL k)))) (udB (ol (rE (tL k)) (bodyF (tL k))))) = 0) :
    Calls Try.prog 14 #[.slice A n c] w (GotUw w 0 0 0 0 0 0 [] (vnE (ol (udE (ol (rE (tL k)) (bodyF (tL k)))) (udB (ol (rE (tL k)) (bodyF (tL k))))))) := by
  have hl := h.len
  have Y0 := Lib.hid (reading_new w A n c)
  have X0 := Lib.hid (((h.alloc (.cells #[.int .u64 0, .int .u64 0, .int .i64 0, .slice none 0 0] 37)).alloc (.cells #[.int .u32 0, .int .u32 0, .int .i64 0, .int .u64 0, .int .u64 0, .int .i64 0, .slice none 0 0, .slice A n c, .int .i64 0] 69)).alloc (.cells #[.func (.func 32) #[.pointer (some ⟨w.heap.size + 1, 0, none⟩)] #[], .func (.func 33) #[.pointer (some ⟨w.heap.size + 1, 0, none⟩)] #[], .func (.func 34) #[.pointer (some ⟨w.heap.size + 1, 0, none⟩)] #[], .func (.func 35) #[.pointer (some ⟨w.heap.size + 1, 0, none⟩)] #[], .func (.func 36) #[.pointer (some ⟨w.heap.size + 1, 0, none⟩)] #[]] 1))
  have C1 := Lib.hid (fun w1 hB h => outer_any (w.heap.size + 1) (.int .u32 0) (.int .u32 0) (.int .i64 0) (.int .u64 0) (.int .u64 0) (.int .i64 0) (.slice none 0 0) (.int .i64 0) A n c k w1 hB h)
  have q1 : (tL k).length ≤ 4000 := by unfold tL; split <;> simp <;> omega
  generalize sO k = G1 at *
  generalize tL k = l1 at *
  subst e1
  have C2 := Lib.hid (fun A n c w1 hB (h : BSl w1 A n c l1) => packet_any (w.heap.size + 1) (.int .u32 0) (.int .u32 0) (.int .i64 0) (.int .u64 0) (.int .u64 0) (.int .i64 0) (.slice none 0 0) (.int .i64 0) A n c l1 w1 hB h (by have := h.len; omega))
  have q2 : (ol (rE l1) (bodyF l1)).length ≤ 4000 := by unfold ol; split <;> simp [bodyF] <;> omega
  generalize sP l1 = G2 at *
  generalize oi (rE l1) (four l1 12) = xs at *
  generalize oi (rE l1) (four l1 16) = xd at *
  generalize ol (rE l1) (bodyF l1) = l2 at *
  subst e2
  have C3 := Lib.hid (fun A n c w1 hB (h : BSl w1 A n c l2) => datagram_any (w.heap.size + 1) (.int .u32 xs) (.int .u32 xd) (.int .i64 0) (.int .u64 0) (.int .u64 0) (.int .i64 0) (.slice none 0 0) (.int .i64 0) A n c l2 w1 hB h (by have := h.len; omega))
  have q3 : (ol (udE l2) (udB l2)).length ≤ 4000 := by unfold ol; split <;> simp [udB] <;> omega
  generalize sD l2 = G3 at *
  generalize ol (udE l2) (udB l2) = l3 at *
  subst e3
  have C4 := Lib.hid (fun A n c w1 hB (h : BSl w1 A n c l3) => head_any (w.heap.size + 1) (.int .u32 xs) (.int .u32 xd) (.int .i64 0) (.int .u64 0) (.int .u64 0) (.int .i64 0) (.slice none 0 0) (.int .i64 0) A n c l3 w1 hB h (by have := h.len; omega))
  generalize oi (vnE l3) (three l3) = V at *
  generalize ol (vnE l3) (l3.drop 8) = l4 at *
  generalize vnE l3 = G4 at *
  have hmf : ∀ (fn : Fn) (first cap : Array Value) (w : World), (Instr.makeFunc fn first cap).run Try.prog w = .ok (.func fn first cap) w := fun _ _ _ _ => rfl
  clear h hl
  go_enter Try.func14, Try.ntmps14
  go_wp2
  refine wp_loop_rounds 4 ?_
  rw [rounds_succ]
  go_wp2_with (first
    | (go_at_call 32; (with_reducible refine (C1.out _ Y0.out X0.out).mono ?_); rintro e w1 ⟨rfl, A1, m1, c1, hY1, hX1, hE1⟩; have Y1 := Lib.hid hY1; have X1 := Lib.hid hX1; have E1 := Lib.hid (hE1); clear hY1 hX1 hE1; obtain ⟨r0, r1, r2, r3, r4, r5, r6, r7, r8, rf, _⟩ := Y1.out; have zl := Y1.out.lt; obtain ⟨⟨s0, s1, s2, s3, s4⟩, ⟨f0, f1, f2, f3, ff⟩, bl, sl⟩ := unwrap_keep E1.out; have FB := Lib.hid (unwrap_keep E1.out).2.1; have BL := Lib.hid bl; clear bl; have fl : w.heap.size < w1.heap.size := by omega)
      | fail)
  rw [rounds_succ]
  go_wp2_with (first
    | (go_at_call 33; (with_reducible refine (C2.out _ _ _ _ Y1.out X1.out).mono ?_); rintro e w2 ⟨rfl, A2, m2, c2, hY2, hX2, hE2⟩; clear r0 r1 r2 r3 r4 r5 r6 r7 r8 rf s0 s1 s2 s3 s4 f0 f1 f2 f3 ff zl fl sl; have Y2 := Lib.hid hY2; have X2 := Lib.hid hX2; have E2 := Lib.hid (E1.out.trans hE2); clear hY2 hX2 hE2; obtain ⟨r0, r1, r2, r3, r4, r5, r6, r7, r8, rf, _⟩ := Y2.out; have zl := Y2.out.lt; obtain ⟨⟨s0, s1, s2, s3, s4⟩, ⟨f0, f1, f2, f3, ff⟩, bl, sl⟩ := unwrap_keep E2.out; have FB := Lib.hid (unwrap_keep E2.out).2.1; have BL := Lib.hid bl; clear bl; have fl : w.heap.size < w2.heap.size := by omega)
      | fail)
  rw [rounds_succ]
  go_wp2_with (first
    | (go_at_call 34; (with_reducible refine (C3.out _ _ _ _ Y2.out X2.out).mono ?_); rintro e w3 ⟨rfl, A3, m3, c3, hY3, hX3, hE3⟩; clear r0 r1 r2 r3 r4 r5 r6 r7 r8 rf s0 s1 s2 s3 s4 f0 f1 f2 f3 ff zl fl sl; have Y3 := Lib.hid hY3; have X3 := Lib.hid hX3; have E3 := Lib.hid (E2.out.trans hE3); clear hY3 hX3 hE3; obtain ⟨r0, r1, r2, r3, r4, r5, r6, r7, r8, rf, _⟩ := Y3.out; have zl := Y3.out.lt; obtain ⟨⟨s0, s1, s2, s3, s4⟩, ⟨f0, f1, f2, f3, ff⟩, bl, sl⟩ := unwrap_keep E3.out; have FB := Lib.hid (unwrap_keep E3.out).2.1; have BL := Lib.hid bl; clear bl; have fl : w.heap.size < w3.heap.size := by omega)
      | fail)
  rw [rounds_succ]
  go_wp2_with (first
    | (go_at_call 35; (with_reducible refine (C4.out _ _ _ _ Y3.out X3.out).mono ?_); rintro e w4 ⟨rfl, A4, m4, c4, hY4, hX4, hE4⟩; clear r0 r1 r2 r3 r4 r5 r6 r7 r8 rf s0 s1 s2 s3 s4 f0 f1 f2 f3 ff zl fl sl; have Y4 := Lib.hid hY4; have X4 := Lib.hid hX4; have E4 := Lib.hid (E3.out.trans hE4); clear hY4 hX4 hE4; obtain ⟨r0, r1, r2, r3, r4, r5, r6, r7, r8, rf, _⟩ := Y4.out; have zl := Y4.out.lt; obtain ⟨⟨s0, s1, s2, s3, s4⟩, ⟨f0, f1, f2, f3, ff⟩, bl, sl⟩ := unwrap_keep E4.out; have FB := Lib.hid (unwrap_keep E4.out).2.1; have BL := Lib.hid bl; clear bl; have fl : w.heap.size < w4.heap.size := by omega)
      | fail)
  go_region
  go_wp2
  have RR := Lib.hid (show Box4 (putv4 w4 w.heap.size (.int .u64 0) (.int .u64 0) (.int .i64 0) (.slice none 0 0)).drew w.heap.size (.int .u64 0) (.int .u64 0) (.int .i64 0) (.slice none 0 0) from (FB.out.put (.int .u64 0) (.int .u64 0) (.int .i64 0) (.slice none 0 0)).drewN 1)
  have QQ := Lib.hid (show Below w.heap.size w (putv4 w4 w.heap.size (.int .u64 0) (.int .u64 0) (.int .i64 0) (.slice none 0 0)).drew from below_drewN (putv4_below (.int .u64 0) (.int .u64 0) (.int .i64 0) (.slice none 0 0) BL.out (Nat.le_refl _)) 1)
  change bodyPost _ _ _ _ _ (putv4 w4 w.heap.size (.int .u64 0) (.int .u64 0) (.int .i64 0) (.slice none 0 0)).drew
  generalize (putv4 w4 w.heap.size (.int .u64 0) (.int .u64 0) (.int .i64 0) (.slice none 0 0)).drew = w9 at *
  obtain ⟨t0, t1, t2, t3, _⟩ := RR.out
  exact bodyPost_ret (v := .tuple #[.int .u32 0, .int .u32 0, .int .i64 0, .agg #[.int .u64 0, .int .u64 0, .int .i64 0, .slice none 0 0], .int .i64 G4]) (by simp [results, Try.results14, go_sem, t0, t1, t2, t3]) rfl ⟨none, 0, 0, rfl, BSl.nil, QQ.out⟩
set_option maxRecDepth 20000 in
set_option maxHeartbeats 4000000 in
theorem xunwrap_5 (A : Option Addr) (n c : Nat) (k : List UInt8) (w : World) (h : BSl w A n c k) (hn : n ≤ 4000) (e1 : sO k = 0) (e2 : sP (tL k) = 0) (e3 : sD (ol (rE (tL k)) (bodyF (tL k))) = 0) (e4 : vnE (ol (udE (ol (rE (tL k)) (bodyF (tL k)))) (udB (ol (rE (tL k)) (bodyF (tL k))))) = 0) (e5 : ¬ sI (ol (vnE (ol (udE (ol (rE (tL k)) (bodyF (tL k)))) (udB (ol (rE (tL k)) (bodyF (tL k)))))) ((ol (udE (ol (rE (tL k)) (bodyF (tL k)))) (udB (ol (rE (tL k)) (bodyF (tL k))))).drop 8)) = 0) :
    Calls Try.prog 14 #[.slice A n c] w (GotUw w 0 0 0 0 0 0 [] (sI (ol (vnE (ol (udE (ol (rE (tL k)) (bodyF (tL k)))) (udB (ol (rE (tL k)) (bodyF (tL k)))))) ((ol (udE (ol (rE (tL k)) (bodyF (tL k)))) (udB (ol (rE (tL k)) (bodyF (tL k))))).drop 8)))) := by
  have hl := h.len
  have Y0 := Lib.hid (reading_new w A n c)
  have X0 := Lib.hid (((h.alloc (.cells #[.int .u64 0, .int .u64 0, .int .i64 0, .slice none 0 0] 37)).alloc (.cells #[.int .u32 0, .int .u32 0, .int .i64 0, .int .u64 0, .int .u64 0, .int .i64 0, .slice none 0 0, .slice A n c, .int .i64 0] 69)).alloc (.cells #[.func (.func 32) #[.pointer (some ⟨w.heap.size + 1, 0, none⟩)] #[], .func (.func 33) #[.pointer (some ⟨w.heap.size + 1, 0, none⟩)] #[], .func (.func 34) #[.pointer (some ⟨w.heap.size + 1, 0, none⟩)] #[], .func (.func 35) #[.pointer (some ⟨w.heap.size + 1, 0, none⟩)] #[], .func (.func 36) #[.pointer (some ⟨w.heap.size + 1, 0, none⟩)] #[]] 1))
  have C1 := Lib.hid (fun w1 hB h => outer_any (w.heap.size + 1) (.int .u32 0) (.int .u32 0) (.int .i64 0) (.int .u64 0) (.int .u64 0) (.int .i64 0) (.slice none 0 0) (.int .i64 0) A n c k w1 hB h)
  have q1 : (tL k).length ≤ 4000 := by unfold tL; split <;> simp <;> omega
  generalize sO k = G1 at *
  generalize tL k = l1 at *
  subst e1
  have C2 := Lib.hid (fun A n c w1 hB (h : BSl w1 A n c l1) => packet_any (w.heap.size + 1) (.int .u32 0) (.int .u32 0) (.int .i64 0) (.int .u64 0) (.int .u64 0) (.int .i64 0) (.slice none 0 0) (.int .i64 0) A n c l1 w1 hB h (by have := h.len; omega))
  have q2 : (ol (rE l1) (bodyF l1)).length ≤ 4000 := by unfold ol; split <;> simp [bodyF] <;> omega
  generalize sP l1 = G2 at *
  generalize oi (rE l1) (four l1 12) = xs at *
  generalize oi (rE l1) (four l1 16) = xd at *
  generalize ol (rE l1) (bodyF l1) = l2 at *
  subst e2
  have C3 := Lib.hid (fun A n c w1 hB (h : BSl w1 A n c l2) => datagram_any (w.heap.size + 1) (.int .u32 xs) (.int .u32 xd) (.int .i64 0) (.int .u64 0) (.int .u64 0) (.int .i64 0) (.slice none 0 0) (.int .i64 0) A n c l2 w1 hB h (by have := h.len; omega))
  have q3 : (ol (udE l2) (udB l2)).length ≤ 4000 := by unfold ol; split <;> simp [udB] <;> omega
  generalize sD l2 = G3 at *
  generalize ol (udE l2) (udB l2) = l3 at *
  subst e3
  have C4 := Lib.hid (fun A n c w1 hB (h : BSl w1 A n c l3) => head_any (w.heap.size + 1) (.int .u32 xs) (.int .u32 xd) (.int .i64 0) (.int .u64 0) (.int .u64 0) (.int .i64 0) (.slice none 0 0) (.int .i64 0) A n c l3 w1 hB h (by have := h.len; omega))
  generalize oi (vnE l3) (three l3) = V at *
  generalize ol (vnE l3) (l3.drop 8) = l4 at *
  generalize vnE l3 = G4 at *
  subst e4
  have C5 := Lib.hid (fun A n c w1 hB (h : BSl w1 A n c l4) => inner_any (w.heap.size + 1) (.int .u32 xs) (.int .u32 xd) (.int .i64 V) (.int .u64 0) (.int .u64 0) (.int .i64 0) (.slice none 0 0) (.int .i64 0) A n c l4 w1 hB h)
  generalize sI l4 = G5 at *
  generalize tD l4 = D5 at *
  generalize tS l4 = S5 at *
  generalize tT l4 = T5 at *
  generalize tL l4 = l5 at *
  have hmf : ∀ (fn : Fn) (first cap : Array Value) (w : World), (Instr.makeFunc fn first cap).run Try.prog w = .ok (.func fn first cap) w := fun _ _ _ _ => rfl
  clear h hl
  go_enter Try.func14, Try.ntmps14
  go_wp2
  refine wp_loop_rounds 5 ?_
  rw [rounds_succ]
  go_wp2_with (first
    | (go_at_call 32; (with_reducible refine (C1.out _ Y0.out X0.out).mono ?_); rintro e w1 ⟨rfl, A1, m1, c1, hY1, hX1, hE1⟩; have Y1 := Lib.hid hY1; have X1 := Lib.hid hX1; have E1 := Lib.hid (hE1); clear hY1 hX1 hE1; obtain ⟨r0, r1, r2, r3, r4, r5, r6, r7, r8, rf, _⟩ := Y1.out; have zl := Y1.out.lt; obtain ⟨⟨s0, s1, s2, s3, s4⟩, ⟨f0, f1, f2, f3, ff⟩, bl, sl⟩ := unwrap_keep E1.out; have FB := Lib.hid (unwrap_keep E1.out).2.1; have BL := Lib.hid bl; clear bl; have fl : w.heap.size < w1.heap.size := by omega)
      | fail)
  rw [rounds_succ]
  go_wp2_with (first
    | (go_at_call 33; (with_reducible refine (C2.out _ _ _ _ Y1.out X1.out).mono ?_); rintro e w2 ⟨rfl, A2, m2, c2, hY2, hX2, hE2⟩; clear r0 r1 r2 r3 r4 r5 r6 r7 r8 rf s0 s1 s2 s3 s4 f0 f1 f2 f3 ff zl fl sl; have Y2 := Lib.hid hY2; have X2 := Lib.hid hX2; have E2 := Lib.hid (E1.out.trans hE2); clear hY2 hX2 hE2; obtain ⟨r0, r1, r2, r3, r4, r5, r6, r7, r8, rf, _⟩ := Y2.out; have zl := Y2.out.lt; obtain ⟨⟨s0, s1, s2, s3, s4⟩, ⟨f0, f1, f2, f3, ff⟩, bl, sl⟩ := unwrap_keep E2.out; have FB := Lib.hid (unwrap_keep E2.out).2.1; have BL := Lib.hid bl; clear bl; have fl : w.heap.size < w2.heap.size := by omega)
      | fail)
  rw [rounds_succ]
  go_wp2_with (first
    | (go_at_call 34; (with_reducible refine (C3.out _ _ _ _ Y2.out X2.out).mono ?_); rintro e w3 ⟨rfl, A3, m3, c3, hY3, hX3, hE3⟩; clear r0 r1 r2 r3 r4 r5 r6 r7 r8 rf s0 s1 s2 s3 s4 f0 f1 f2 f3 ff zl fl sl; have Y3 := Lib.hid hY3; have X3 := Lib.hid hX3; have E3 := Lib.hid (E2.out.trans hE3); clear hY3 hX3 hE3; obtain ⟨r0, r1, r2, r3, r4, r5, r6, r7, r8, rf, _⟩ := Y3.out; have zl := Y3.out.lt; obtain ⟨⟨s0, s1, s2, s3, s4⟩, ⟨f0, f1, f2, f3, ff⟩, bl, sl⟩ := unwrap_keep E3.out; have FB := Lib.hid (unwrap_keep E3.out).2.1; have BL := Lib.hid bl; clear bl; have fl : w.heap.size < w3.heap.size := by omega)
      | fail)
  rw [rounds_succ]
  go_wp2_with (first
    | (go_at_call 35; (with_reducible refine (C4.out _ _ _ _ Y3.out X3.out).mono ?_); rintro e w4 ⟨rfl, A4, m4, c4, hY4, hX4, hE4⟩; clear r0 r1 r2 r3 r4 r5 r6 r7 r8 rf s0 s1 s2 s3 s4 f0 f1 f2 f3 ff zl fl sl; have Y4 := Lib.hid hY4; have X4 := Lib.hid hX4; have E4 := Lib.hid (E3.out.trans hE4); clear hY4 hX4 hE4; obtain ⟨r0, r1, r2, r3, r4, r5, r6, r7, r8, rf, _⟩ := Y4.out; have zl := Y4.out.lt; obtain ⟨⟨s0, s1, s2, s3, s4⟩, ⟨f0, f1, f2, f3, ff⟩, bl, sl⟩ := unwrap_keep E4.out; have FB := Lib.hid (unwrap_keep E4.out).2.1; have BL := Lib.hid bl; clear bl; have fl : w.heap.size < w4.heap.size := by omega)
      | fail)
  rw [rounds_succ]
  go_wp2_with (first
    | (go_at_call 36; (with_reducible refine (C5.out _ _ _ _ Y4.out X4.out).mono ?_); rintro e w5 ⟨rfl, A5, m5, c5, hY5, hX5, hE5⟩; clear r0 r1 r2 r3 r4 r5 r6 r7 r8 rf s0 s1 s2 s3 s4 f0 f1 f2 f3 ff zl fl sl; have Y5 := Lib.hid hY5; have X5 := Lib.hid hX5; have E5 := Lib.hid (E4.out.trans hE5); clear hY5 hX5 hE5; obtain ⟨r0, r1, r2, r3, r4, r5, r6, r7, r8, rf, _⟩ := Y5.out; have zl := Y5.out.lt; obtain ⟨⟨s0, s1, s2, s3, s4⟩, ⟨f0, f1, f2, f3, ff⟩, bl, sl⟩ := unwrap_keep E5.out; have FB := Lib.hid (unwrap_keep E5.out).2.1; have BL := Lib.hid bl; clear bl; have fl : w.heap.size < w5.heap.size := by omega)
      | fail)
  go_region
  go_wp2
  have RR := Lib.hid (show Box4 (putv4 w5 w.heap.size (.int .u64 0) (.int .u64 0) (.int .i64 0) (.slice none 0 0)).drew w.heap.size (.int .u64 0) (.int .u64 0) (.int .i64 0) (.slice none 0 0) from (FB.out.put (.int .u64 0) (.int .u64 0) (.int .i64 0) (.slice none 0 0)).drewN 1)
  have QQ := Lib.hid (show Below w.heap.size w (putv4 w5 w.heap.size (.int .u64 0) (.int .u64 0) (.int .i64 0) (.slice none 0 0)).drew from below_drewN (putv4_below (.int .u64 0) (.int .u64 0) (.int .i64 0) (.slice none 0 0) BL.out (Nat.le_refl _)) 1)
  change bodyPost _ _ _ _ _ (putv4 w5 w.heap.size (.int .u64 0) (.int .u64 0) (.int .i64 0) (.slice none 0 0)).drew
  generalize (putv4 w5 w.heap.size (.int .u64 0) (.int .u64 0) (.int .i64 0) (.slice none 0 0)).drew = w9 at *
  obtain ⟨t0, t1, t2, t3, _⟩ := RR.out
  exact bodyPost_ret (v := .tuple #[.int .u32 0, .int .u32 0, .int .i64 0, .agg #[.int .u64 0, .int .u64 0, .int .i64 0, .slice none 0 0], .int .i64 G5]) (by simp [results, Try.results14, go_sem, t0, t1, t2, t3]) rfl ⟨none, 0, 0, rfl, BSl.nil, QQ.out⟩
set_option maxRecDepth 20000 in
set_option maxHeartbeats 4000000 in
theorem xunwrap_0 (A : Option Addr) (n c : Nat) (k : List UInt8) (w : World) (h : BSl w A n c k) (hn : n ≤ 4000) (e1 : sO k = 0) (e2 : sP (tL k) = 0) (e3 : sD (ol (rE (tL k)) (bodyF (tL k))) = 0) (e4 : vnE (ol (udE (ol (rE (tL k)) (bodyF (tL k)))) (udB (ol (rE (tL k)) (bodyF (tL k))))) = 0) (e5 : sI (ol (vnE (ol (udE (ol (rE (tL k)) (bodyF (tL k)))) (udB (ol (rE (tL k)) (bodyF (tL k)))))) ((ol (udE (ol (rE (tL k)) (bodyF (tL k)))) (udB (ol (rE (tL k)) (bodyF (tL k))))).drop 8)) = 0) :
    Calls Try.prog 14 #[.slice A n c] w (GotUw w (oi (rE (tL k)) (four (tL k) 12)) (oi (rE (tL k)) (four (tL k) 16)) (oi (vnE (ol (udE (ol (rE (tL k)) (bodyF (tL k)))) (udB (ol (rE (tL k)) (bodyF (tL k)))))) (three (ol (udE (ol (rE (tL k)) (bodyF (tL k)))) (udB (ol (rE (tL k)) (bodyF (tL k))))))) (tD (ol (vnE (ol (udE (ol (rE (tL k)) (bodyF (tL k)))) (udB (ol (rE (tL k)) (bodyF (tL k)))))) ((ol (udE (ol (rE (tL k)) (bodyF (tL k)))) (udB (ol (rE (tL k)) (bodyF (tL k))))).drop 8))) (tS (ol (vnE (ol (udE (ol (rE (tL k)) (bodyF (tL k)))) (udB (ol (rE (tL k)) (bodyF (tL k)))))) ((ol (udE (ol (rE (tL k)) (bodyF (tL k)))) (udB (ol (rE (tL k)) (bodyF (tL k))))).drop 8))) (tT (ol (vnE (ol (udE (ol (rE (tL k)) (bodyF (tL k)))) (udB (ol (rE (tL k)) (bodyF (tL k)))))) ((ol (udE (ol (rE (tL k)) (bodyF (tL k)))) (udB (ol (rE (tL k)) (bodyF (tL k))))).drop 8))) (tL (ol (vnE (ol (udE (ol (rE (tL k)) (bodyF (tL k)))) (udB (ol (rE (tL k)) (bodyF (tL k)))))) ((ol (udE (ol (rE (tL k)) (bodyF (tL k)))) (udB (ol (rE (tL k)) (bodyF (tL k))))).drop 8))) 0) := by
  have hl := h.len
  have Y0 := Lib.hid (reading_new w A n c)
  have X0 := Lib.hid (((h.alloc (.cells #[.int .u64 0, .int .u64 0, .int .i64 0, .slice none 0 0] 37)).alloc (.cells #[.int .u32 0, .int .u32 0, .int .i64 0, .int .u64 0, .int .u64 0, .int .i64 0, .slice none 0 0, .slice A n c, .int .i64 0] 69)).alloc (.cells #[.func (.func 32) #[.pointer (some ⟨w.heap.size + 1, 0, none⟩)] #[], .func (.func 33) #[.pointer (some ⟨w.heap.size + 1, 0, none⟩)] #[], .func (.func 34) #[.pointer (some ⟨w.heap.size + 1, 0, none⟩)] #[], .func (.func 35) #[.pointer (some ⟨w.heap.size + 1, 0, none⟩)] #[], .func (.func 36) #[.pointer (some ⟨w.heap.size + 1, 0, none⟩)] #[]] 1))
  have C1 := Lib.hid (fun w1 hB h => outer_any (w.heap.size + 1) (.int .u32 0) (.int .u32 0) (.int .i64 0) (.int .u64 0) (.int .u64 0) (.int .i64 0) (.slice none 0 0) (.int .i64 0) A n c k w1 hB h)
  have q1 : (tL k).length ≤ 4000 := by unfold tL; split <;> simp <;> omega
  generalize sO k = G1 at *
  generalize tL k = l1 at *
  subst e1
  have C2 := Lib.hid (fun A n c w1 hB (h : BSl w1 A n c l1) => packet_any (w.heap.size + 1) (.int .u32 0) (.int .u32 0) (.int .i64 0) (.int .u64 0) (.int .u64 0) (.int .i64 0) (.slice none 0 0) (.int .i64 0) A n c l1 w1 hB h (by have := h.len; omega))
  have q2 : (ol (rE l1) (bodyF l1)).length ≤ 4000 := by unfold ol; split <;> simp [bodyF] <;> omega
  generalize sP l1 = G2 at *
  generalize oi (rE l1) (four l1 12) = xs at *
  generalize oi (rE l1) (four l1 16) = xd at *
  generalize ol (rE l1) (bodyF l1) = l2 at *
  subst e2
  have C3 := Lib.hid (fun A n c w1 hB (h : BSl w1 A n c l2) => datagram_any (w.heap.size + 1) (.int .u32 xs) (.int .u32 xd) (.int .i64 0) (.int .u64 0) (.int .u64 0) (.int .i64 0) (.slice none 0 0) (.int .i64 0) A n c l2 w1 hB h (by have := h.len; omega))
  have q3 : (ol (udE l2) (udB l2)).length ≤ 4000 := by unfold ol; split <;> simp [udB] <;> omega
  generalize sD l2 = G3 at *
  generalize ol (udE l2) (udB l2) = l3 at *
  subst e3
  have C4 := Lib.hid (fun A n c w1 hB (h : BSl w1 A n c l3) => head_any (w.heap.size + 1) (.int .u32 xs) (.int .u32 xd) (.int .i64 0) (.int .u64 0) (.int .u64 0) (.int .i64 0) (.slice none 0 0) (.int .i64 0) A n c l3 w1 hB h (by have := h.len; omega))
  generalize oi (vnE l3) (three l3) = V at *
  generalize ol (vnE l3) (l3.drop 8) = l4 at *
  generalize vnE l3 = G4 at *
  subst e4
  have C5 := Lib.hid (fun A n c w1 hB (h : BSl w1 A n c l4) => inner_any (w.heap.size + 1) (.int .u32 xs) (.int .u32 xd) (.int .i64 V) (.int .u64 0) (.int .u64 0) (.int .i64 0) (.slice none 0 0) (.int .i64 0) A n c l4 w1 hB h)
  generalize sI l4 = G5 at *
  generalize tD l4 = D5 at *
  generalize tS l4 = S5 at *
  generalize tT l4 = T5 at *
  generalize tL l4 = l5 at *
  subst e5
  have hmf : ∀ (fn : Fn) (first cap : Array Value) (w : World), (Instr.makeFunc fn first cap).run Try.prog w = .ok (.func fn first cap) w := fun _ _ _ _ => rfl
  clear h hl
  go_enter Try.func14, Try.ntmps14
  go_wp2
  refine wp_loop_rounds 6 ?_
  rw [rounds_succ]
  go_wp2_with (first
    | (go_at_call 32; (with_reducible refine (C1.out _ Y0.out X0.out).mono ?_); rintro e w1 ⟨rfl, A1, m1, c1, hY1, hX1, hE1⟩; have Y1 := Lib.hid hY1; have X1 := Lib.hid hX1; have E1 := Lib.hid (hE1); clear hY1 hX1 hE1; obtain ⟨r0, r1, r2, r3, r4, r5, r6, r7, r8, rf, _⟩ := Y1.out; have zl := Y1.out.lt; obtain ⟨⟨s0, s1, s2, s3, s4⟩, ⟨f0, f1, f2, f3, ff⟩, bl, sl⟩ := unwrap_keep E1.out; have FB := Lib.hid (unwrap_keep E1.out).2.1; have BL := Lib.hid bl; clear bl; have fl : w.heap.size < w1.heap.size := by omega)
      | fail)
  rw [rounds_succ]
  go_wp2_with (first
    | (go_at_call 33; (with_reducible refine (C2.out _ _ _ _ Y1.out X1.out).mono ?_); rintro e w2 ⟨rfl, A2, m2, c2, hY2, hX2, hE2⟩; clear r0 r1 r2 r3 r4 r5 r6 r7 r8 rf s0 s1 s2 s3 s4 f0 f1 f2 f3 ff zl fl sl; have Y2 := Lib.hid hY2; have X2 := Lib.hid hX2; have E2 := Lib.hid (E1.out.trans hE2); clear hY2 hX2 hE2; obtain ⟨r0, r1, r2, r3, r4, r5, r6, r7, r8, rf, _⟩ := Y2.out; have zl := Y2.out.lt; obtain ⟨⟨s0, s1, s2, s3, s4⟩, ⟨f0, f1, f2, f3, ff⟩, bl, sl⟩ := unwrap_keep E2.out; have FB := Lib.hid (unwrap_keep E2.out).2.1; have BL := Lib.hid bl; clear bl; have fl : w.heap.size < w2.heap.size := by omega)
      | fail)
  rw [rounds_succ]
  go_wp2_with (first
    | (go_at_call 34; (with_reducible refine (C3.out _ _ _ _ Y2.out X2.out).mono ?_); rintro e w3 ⟨rfl, A3, m3, c3, hY3, hX3, hE3⟩; clear r0 r1 r2 r3 r4 r5 r6 r7 r8 rf s0 s1 s2 s3 s4 f0 f1 f2 f3 ff zl fl sl; have Y3 := Lib.hid hY3; have X3 := Lib.hid hX3; have E3 := Lib.hid (E2.out.trans hE3); clear hY3 hX3 hE3; obtain ⟨r0, r1, r2, r3, r4, r5, r6, r7, r8, rf, _⟩ := Y3.out; have zl := Y3.out.lt; obtain ⟨⟨s0, s1, s2, s3, s4⟩, ⟨f0, f1, f2, f3, ff⟩, bl, sl⟩ := unwrap_keep E3.out; have FB := Lib.hid (unwrap_keep E3.out).2.1; have BL := Lib.hid bl; clear bl; have fl : w.heap.size < w3.heap.size := by omega)
      | fail)
  rw [rounds_succ]
  go_wp2_with (first
    | (go_at_call 35; (with_reducible refine (C4.out _ _ _ _ Y3.out X3.out).mono ?_); rintro e w4 ⟨rfl, A4, m4, c4, hY4, hX4, hE4⟩; clear r0 r1 r2 r3 r4 r5 r6 r7 r8 rf s0 s1 s2 s3 s4 f0 f1 f2 f3 ff zl fl sl; have Y4 := Lib.hid hY4; have X4 := Lib.hid hX4; have E4 := Lib.hid (E3.out.trans hE4); clear hY4 hX4 hE4; obtain ⟨r0, r1, r2, r3, r4, r5, r6, r7, r8, rf, _⟩ := Y4.out; have zl := Y4.out.lt; obtain ⟨⟨s0, s1, s2, s3, s4⟩, ⟨f0, f1, f2, f3, ff⟩, bl, sl⟩ := unwrap_keep E4.out; have FB := Lib.hid (unwrap_keep E4.out).2.1; have BL := Lib.hid bl; clear bl; have fl : w.heap.size < w4.heap.size := by omega)
      | fail)
  rw [rounds_succ]
  go_wp2_with (first
    | (go_at_call 36; (with_reducible refine (C5.out _ _ _ _ Y4.out X4.out).mono ?_); rintro e w5 ⟨rfl, A5, m5, c5, hY5, hX5, hE5⟩; clear r0 r1 r2 r3 r4 r5 r6 r7 r8 rf s0 s1 s2 s3 s4 f0 f1 f2 f3 ff zl fl sl; have Y5 := Lib.hid hY5; have X5 := Lib.hid hX5; have E5 := Lib.hid (E4.out.trans hE5); clear hY5 hX5 hE5; obtain ⟨r0, r1, r2, r3, r4, r5, r6, r7, r8, rf, _⟩ := Y5.out; have zl := Y5.out.lt; obtain ⟨⟨s0, s1, s2, s3, s4⟩, ⟨f0, f1, f2, f3, ff⟩, bl, sl⟩ := unwrap_keep E5.out; have FB := Lib.hid (unwrap_keep E5.out).2.1; have BL := Lib.hid bl; clear bl; have fl : w.heap.size < w5.heap.size := by omega)
      | fail)
  rw [rounds_succ]
  go_wp2
  go_region
  go_wp2
  have RR := Lib.hid (show Box4 (putv4 w5 w.heap.size (.int .u64 D5) (.int .u64 S5) (.int .i64 T5) (.slice A5 m5 c5)).drew w.heap.size (.int .u64 D5) (.int .u64 S5) (.int .i64 T5) (.slice A5 m5 c5) from (FB.out.put (.int .u64 D5) (.int .u64 S5) (.int .i64 T5) (.slice A5 m5 c5)).drewN 1)
  have QQ := Lib.hid (show Below w.heap.size w (putv4 w5 w.heap.size (.int .u64 D5) (.int .u64 S5) (.int .i64 T5) (.slice A5 m5 c5)).drew from below_drewN (putv4_below (.int .u64 D5) (.int .u64 S5) (.int .i64 T5) (.slice A5 m5 c5) BL.out (Nat.le_refl _)) 1)
  have FF := Lib.hid (show BSl (putv4 w5 w.heap.size (.int .u64 D5) (.int .u64 S5) (.int .i64 T5) (.slice A5 m5 c5)).drew A5 m5 c5 l5 from (bsl_putv4 X5.out FB.out (unwrap_odd E5.out) (noByte_u64 _) (noByte_u64 _) (noByte_i64 _)).drewN 1)
  change bodyPost _ _ _ _ _ (putv4 w5 w.heap.size (.int .u64 D5) (.int .u64 S5) (.int .i64 T5) (.slice A5 m5 c5)).drew
  generalize (putv4 w5 w.heap.size (.int .u64 D5) (.int .u64 S5) (.int .i64 T5) (.slice A5 m5 c5)).drew = w9 at *
  obtain ⟨t0, t1, t2, t3, _⟩ := RR.out
  exact bodyPost_ret (v := .tuple #[.int .u32 xs, .int .u32 xd, .int .i64 V, .agg #[.int .u64 D5, .int .u64 S5, .int .i64 T5, .slice A5 m5 c5], .int .i64 0]) (by simp [results, Try.results14, go_sem, t0, t1, t2, t3]) rfl ⟨A5, m5, c5, rfl, FF.out, QQ.out⟩
end Go.Proofs.Ytgmeicenjgiihaa
