/- The contract of palingref09.Unwrap. -/
import Derived.Test.YtgmeicenjgiihaaVxRVni
import Derived.Test.YtgmeicenjgiihaaPkAny
import Derived.Test.YtgmeicenjgiihaaUdRTake
import Derived.Test.YtgmeicenjgiihaaBsl
import Derived.Test.YtgmeicenjgiihaaPkBox
import Derived.RegionTactic
namespace Go.Proofs.Ytgmeicenjgiihaa
open Go.RowKit
open Go.Lib (byteCells)

/-- two ips, a VNI, a frame and a number, as a call returns them -/
def GotUw (w : World) (x y v D S T : Int) (l : List UInt8) (E : Int) (e : Ending) (w' : World) : Prop :=
  ∃ A n c, e = .returned (.tuple #[.int .u32 x, .int .u32 y, .int .i64 v, .agg #[.int .u64 D, .int .u64 S, .int .i64 T, .slice A n c], .int .i64 E]) ∧ BSl w' A n c l ∧ Below w.heap.size w w'
set_option maxRecDepth 20000 in
set_option maxHeartbeats 4000000 in
theorem runwrap_0 (A : Option Addr) (n c : Nat) (k : List UInt8) (w : World) (h : BSl w A n c k) (_hn : n ≤ 4000) (e1 : ¬ tE k = 0) :
    Calls Try.prog 15 #[.slice A n c] w (GotUw w 0 0 0 0 0 0 [] (tE k)) := by
  have hl := h.len
  have H := Lib.hid h
  have Y0 := Lib.hid (show Box4 ((w.alloc (.cells #[.int .u64 0, .int .u64 0, .int .i64 0, .slice none 0 0] 37)).alloc (.cells #[.int .u64 0, .int .u64 0, .int .i64 0, .slice none 0 0] 37)) w.heap.size (.int .u64 0) (.int .u64 0) (.int .i64 0) (.slice none 0 0) from (Box4.new w _ _ _ _ _ _ rfl).alloc _)
  have Y1 := Lib.hid (show Box4 ((w.alloc (.cells #[.int .u64 0, .int .u64 0, .int .i64 0, .slice none 0 0] 37)).alloc (.cells #[.int .u64 0, .int .u64 0, .int .i64 0, .slice none 0 0] 37)) (w.heap.size + 1) (.int .u64 0) (.int .u64 0) (.int .i64 0) (.slice none 0 0) from Box4.new (w.alloc (.cells #[.int .u64 0, .int .u64 0, .int .i64 0, .slice none 0 0] 37)) _ _ _ _ _ _ (by simp))
  have C1 := Lib.hid (fun w h => frtake_any A n c k w h)
  generalize tD k = D1 at *
  generalize tS k = S1 at *
  generalize tT k = T1 at *
  generalize tL k = l1 at *
  generalize tE k = G at *
  clear h hl
  go_enter Try.func15, Try.ntmps15
  go_wp2_with (first
    | (go_at_call 37; (with_reducible refine (C1.out _ ((H.out.alloc _).alloc _)).mono ?_); rintro e w1 ⟨A1, m1, c1, rfl, s1, hb1⟩; have B1 := Lib.hid hb1; clear s1 hb1; obtain ⟨z0, z1, z2, z3, zf⟩ := Y0.out.below B1.out; obtain ⟨n0, n1, n2, n3, _⟩ := Y1.out.below B1.out; have zl := (Y0.out.below B1.out).lt; have nl := (Y1.out.below B1.out).lt))
  go_region
  all_goals
    go_wp2
    have P := (Y0.out.below B1.out).put (.int .u64 0) (.int .u64 0) (.int .i64 0) (.slice none 0 0)
    have Q := putv4_below (q := w.heap.size) (.int .u64 0) (.int .u64 0) (.int .i64 0) (.slice none 0 0) (two_below B1.out) (Nat.le_refl _)
    have RR := Lib.hid (show Box4 ((putv4 w1 w.heap.size (.int .u64 0) (.int .u64 0) (.int .i64 0) (.slice none 0 0)).alloc (.cells #[.int .u64 D1, .int .u64 S1, .int .i64 T1, .slice A1 m1 c1] 37)).drew w.heap.size (.int .u64 0) (.int .u64 0) (.int .i64 0) (.slice none 0 0) from (P.alloc _).drewN 1)
    have QQ := Lib.hid (show Below w.heap.size w ((putv4 w1 w.heap.size (.int .u64 0) (.int .u64 0) (.int .i64 0) (.slice none 0 0)).alloc (.cells #[.int .u64 D1, .int .u64 S1, .int .i64 T1, .slice A1 m1 c1] 37)).drew from below_drewN (Q.alloc Q.size _) 1)
    change bodyPost _ _ _ _ _ ((putv4 w1 w.heap.size (.int .u64 0) (.int .u64 0) (.int .i64 0) (.slice none 0 0)).alloc (.cells #[.int .u64 D1, .int .u64 S1, .int .i64 T1, .slice A1 m1 c1] 37)).drew
    generalize ((putv4 w1 w.heap.size (.int .u64 0) (.int .u64 0) (.int .i64 0) (.slice none 0 0)).alloc (.cells #[.int .u64 D1, .int .u64 S1, .int .i64 T1, .slice A1 m1 c1] 37)).drew = w9 at *
    obtain ⟨t0, t1, t2, t3, _⟩ := RR.out
    clear P Q z0 z1 z2 z3 zf n0 n1 n2 n3 zl nl
    exact bodyPost_ret (v := .tuple #[.int .u32 0, .int .u32 0, .int .i64 0, .agg #[.int .u64 0, .int .u64 0, .int .i64 0, .slice none 0 0], .int .i64 G]) (by simp [results, Try.results15, go_sem, t0, t1, t2, t3]) rfl ⟨none, 0, 0, rfl, BSl.nil, QQ.out⟩

set_option maxRecDepth 20000 in
set_option maxHeartbeats 4000000 in
theorem runwrap_1 (A : Option Addr) (n c : Nat) (k : List UInt8) (w : World) (h : BSl w A n c k) (hn : n ≤ 4000) (e1 : tE k = 0) (e2 : ¬ two k 12 = 2048) :
    Calls Try.prog 15 #[.slice A n c] w (GotUw w 0 0 0 0 0 0 [] (11)) := by
  have hl := h.len
  have H := Lib.hid h
  have Y0 := Lib.hid (show Box4 ((w.alloc (.cells #[.int .u64 0, .int .u64 0, .int .i64 0, .slice none 0 0] 37)).alloc (.cells #[.int .u64 0, .int .u64 0, .int .i64 0, .slice none 0 0] 37)) w.heap.size (.int .u64 0) (.int .u64 0) (.int .i64 0) (.slice none 0 0) from (Box4.new w _ _ _ _ _ _ rfl).alloc _)
  have Y1 := Lib.hid (show Box4 ((w.alloc (.cells #[.int .u64 0, .int .u64 0, .int .i64 0, .slice none 0 0] 37)).alloc (.cells #[.int .u64 0, .int .u64 0, .int .i64 0, .slice none 0 0] 37)) (w.heap.size + 1) (.int .u64 0) (.int .u64 0) (.int .i64 0) (.slice none 0 0) from Box4.new (w.alloc (.cells #[.int .u64 0, .int .u64 0, .int .i64 0, .slice none 0 0] 37)) _ _ _ _ _ _ (by simp))
  have hk : 14 ≤ k.length ∧ k.length ≤ 1518 := by
    rcases tE_cases k with ⟨_, g⟩ | ⟨g, _⟩ | ⟨g, _⟩
    · exact g
    · rw [g] at e1; cases e1
    · rw [g] at e1; cases e1
  have C1 := Lib.hid (fun w h => frtake_mid A n c k w h (by omega) (by omega))
  have L1 : (k.drop 14).length = n - 14 := by rw [List.length_drop]; omega
  clear e1 hk
  generalize mbAt k 0 = D1 at *
  generalize mbAt k 6 = S1 at *
  generalize two k 12 = T1 at *
  generalize k.drop 14 = l1 at *
  clear h hl
  go_enter Try.func15, Try.ntmps15
  go_wp2_with (first
    | (go_at_call 37; (with_reducible refine (C1.out _ ((H.out.alloc _).alloc _)).mono ?_); rintro e w1 ⟨A1, c1, rfl, hown1, hb1⟩; have B1 := Lib.hid hb1; have X1 := Lib.hid (BSl.of_own hown1); clear hown1 hb1; obtain ⟨z0, z1, z2, z3, zf⟩ := Y0.out.below B1.out; obtain ⟨n0, n1, n2, n3, _⟩ := Y1.out.below B1.out; have zl := (Y0.out.below B1.out).lt; have nl := (Y1.out.below B1.out).lt))
  go_region
  all_goals
    go_wp2
    have P := (Y0.out.below B1.out).put (.int .u64 0) (.int .u64 0) (.int .i64 0) (.slice none 0 0)
    have Q := putv4_below (q := w.heap.size) (.int .u64 0) (.int .u64 0) (.int .i64 0) (.slice none 0 0) (two_below B1.out) (Nat.le_refl _)
    have RR := Lib.hid (show Box4 ((putv4 w1 w.heap.size (.int .u64 0) (.int .u64 0) (.int .i64 0) (.slice none 0 0)).alloc (.cells #[.int .u64 D1, .int .u64 S1, .int .i64 T1, .slice A1 (n - 14) c1] 37)).drew w.heap.size (.int .u64 0) (.int .u64 0) (.int .i64 0) (.slice none 0 0) from (P.alloc _).drewN 1)
    have QQ := Lib.hid (show Below w.heap.size w ((putv4 w1 w.heap.size (.int .u64 0) (.int .u64 0) (.int .i64 0) (.slice none 0 0)).alloc (.cells #[.int .u64 D1, .int .u64 S1, .int .i64 T1, .slice A1 (n - 14) c1] 37)).drew from below_drewN (Q.alloc Q.size _) 1)
    change bodyPost _ _ _ _ _ ((putv4 w1 w.heap.size (.int .u64 0) (.int .u64 0) (.int .i64 0) (.slice none 0 0)).alloc (.cells #[.int .u64 D1, .int .u64 S1, .int .i64 T1, .slice A1 (n - 14) c1] 37)).drew
    generalize ((putv4 w1 w.heap.size (.int .u64 0) (.int .u64 0) (.int .i64 0) (.slice none 0 0)).alloc (.cells #[.int .u64 D1, .int .u64 S1, .int .i64 T1, .slice A1 (n - 14) c1] 37)).drew = w9 at *
    obtain ⟨t0, t1, t2, t3, _⟩ := RR.out
    clear P Q z0 z1 z2 z3 zf n0 n1 n2 n3 zl nl
    exact bodyPost_ret (v := .tuple #[.int .u32 0, .int .u32 0, .int .i64 0, .agg #[.int .u64 0, .int .u64 0, .int .i64 0, .slice none 0 0], .int .i64 11]) (by simp [results, Try.results15, go_sem, t0, t1, t2, t3]) rfl ⟨none, 0, 0, rfl, BSl.nil, QQ.out⟩

set_option maxRecDepth 20000 in
set_option maxHeartbeats 4000000 in
theorem runwrap_2 (A : Option Addr) (n c : Nat) (k : List UInt8) (w : World) (h : BSl w A n c k) (hn : n ≤ 4000) (e1 : tE k = 0) (e2 : two k 12 = 2048) (e3 : ¬ rE (k.drop 14) = 0) :
    Calls Try.prog 15 #[.slice A n c] w (GotUw w 0 0 0 0 0 0 [] (rE (k.drop 14))) := by
  have hl := h.len
  have H := Lib.hid h
  have Y0 := Lib.hid (show Box4 ((w.alloc (.cells #[.int .u64 0, .int .u64 0, .int .i64 0, .slice none 0 0] 37)).alloc (.cells #[.int .u64 0, .int .u64 0, .int .i64 0, .slice none 0 0] 37)) w.heap.size (.int .u64 0) (.int .u64 0) (.int .i64 0) (.slice none 0 0) from (Box4.new w _ _ _ _ _ _ rfl).alloc _)
  have Y1 := Lib.hid (show Box4 ((w.alloc (.cells #[.int .u64 0, .int .u64 0, .int .i64 0, .slice none 0 0] 37)).alloc (.cells #[.int .u64 0, .int .u64 0, .int .i64 0, .slice none 0 0] 37)) (w.heap.size + 1) (.int .u64 0) (.int .u64 0) (.int .i64 0) (.slice none 0 0) from Box4.new (w.alloc (.cells #[.int .u64 0, .int .u64 0, .int .i64 0, .slice none 0 0] 37)) _ _ _ _ _ _ (by simp))
  have hk : 14 ≤ k.length ∧ k.length ≤ 1518 := by
    rcases tE_cases k with ⟨_, g⟩ | ⟨g, _⟩ | ⟨g, _⟩
    · exact g
    · rw [g] at e1; cases e1
    · rw [g] at e1; cases e1
  have C1 := Lib.hid (fun w h => frtake_mid A n c k w h (by omega) (by omega))
  have L1 : (k.drop 14).length = n - 14 := by rw [List.length_drop]; omega
  clear e1 hk
  generalize mbAt k 0 = D1 at *
  generalize mbAt k 6 = S1 at *
  generalize two k 12 = T1 at *
  generalize k.drop 14 = l1 at *
  subst e2
  have C2 := Lib.hid (fun A n c w h => rtake_no A n c l1 w h e3)
  generalize rE l1 = G at *
  clear h hl
  go_enter Try.func15, Try.ntmps15
  go_wp2_with (first
    | (go_at_call 37; (with_reducible refine (C1.out _ ((H.out.alloc _).alloc _)).mono ?_); rintro e w1 ⟨A1, c1, rfl, hown1, hb1⟩; have B1 := Lib.hid hb1; have X1 := Lib.hid (BSl.of_own hown1); clear hown1 hb1; obtain ⟨z0, z1, z2, z3, zf⟩ := Y0.out.below B1.out; obtain ⟨n0, n1, n2, n3, _⟩ := Y1.out.below B1.out; have zl := (Y0.out.below B1.out).lt; have nl := (Y1.out.below B1.out).lt)
    | (go_at_call 38; (with_reducible refine (C2.out _ _ _ _ (X1.out.alloc _)).mono ?_); rintro e w2 ⟨A2, m2, c2, rfl, s2, hb2⟩; have B2 := Lib.hid (trans_below B1.out (one_below hb2)); have X2 := Lib.hid s2; clear s2 hb2; clear z0 z1 z2 z3 zf n0 n1 n2 n3 zl nl; obtain ⟨z0, z1, z2, z3, zf⟩ := Y0.out.below B2.out; obtain ⟨n0, n1, n2, n3, _⟩ := Y1.out.below B2.out; have zl := (Y0.out.below B2.out).lt; have nl := (Y1.out.below B2.out).lt))
  go_region
  all_goals
    go_wp2
    have P := (Y0.out.below B2.out).put (.int .u64 0) (.int .u64 0) (.int .i64 0) (.slice none 0 0)
    have Q := putv4_below (q := w.heap.size) (.int .u64 0) (.int .u64 0) (.int .i64 0) (.slice none 0 0) (two_below B2.out) (Nat.le_refl _)
    have RR := Lib.hid (show Box4 ((putv4 w2 w.heap.size (.int .u64 0) (.int .u64 0) (.int .i64 0) (.slice none 0 0)).alloc (.cells #[.int .i64 0, .int .i64 0, .int .i64 0, .int .i64 0, .int .u32 0, .int .u32 0, .slice A2 m2 c2] 61)).drew w.heap.size (.int .u64 0) (.int .u64 0) (.int .i64 0) (.slice none 0 0) from (P.alloc _).drewN 1)
    have QQ := Lib.hid (show Below w.heap.size w ((putv4 w2 w.heap.size (.int .u64 0) (.int .u64 0) (.int .i64 0) (.slice none 0 0)).alloc (.cells #[.int .i64 0, .int .i64 0, .int .i64 0, .int .i64 0, .int .u32 0, .int .u32 0, .slice A2 m2 c2] 61)).drew from below_drewN (Q.alloc Q.size _) 1)
    change bodyPost _ _ _ _ _ ((putv4 w2 w.heap.size (.int .u64 0) (.int .u64 0) (.int .i64 0) (.slice none 0 0)).alloc (.cells #[.int .i64 0, .int .i64 0, .int .i64 0, .int .i64 0, .int .u32 0, .int .u32 0, .slice A2 m2 c2] 61)).drew
    generalize ((putv4 w2 w.heap.size (.int .u64 0) (.int .u64 0) (.int .i64 0) (.slice none 0 0)).alloc (.cells #[.int .i64 0, .int .i64 0, .int .i64 0, .int .i64 0, .int .u32 0, .int .u32 0, .slice A2 m2 c2] 61)).drew = w9 at *
    obtain ⟨t0, t1, t2, t3, _⟩ := RR.out
    clear P Q z0 z1 z2 z3 zf n0 n1 n2 n3 zl nl
    exact bodyPost_ret (v := .tuple #[.int .u32 0, .int .u32 0, .int .i64 0, .agg #[.int .u64 0, .int .u64 0, .int .i64 0, .slice none 0 0], .int .i64 G]) (by simp [results, Try.results15, go_sem, t0, t1, t2, t3]) rfl ⟨none, 0, 0, rfl, BSl.nil, QQ.out⟩

set_option maxRecDepth 20000 in
set_option maxHeartbeats 4000000 in
theorem runwrap_3 (A : Option Addr) (n c : Nat) (k : List UInt8) (w : World) (h : BSl w A n c k) (hn : n ≤ 4000) (e1 : tE k = 0) (e2 : two k 12 = 2048) (e3 : rE (k.drop 14) = 0) (e4 : ¬ bat (k.drop 14) 9 = 17) :
    Calls Try.prog 15 #[.slice A n c] w (GotUw w 0 0 0 0 0 0 [] (11)) := by
  have hl := h.len
  have H := Lib.hid h
  have Y0 := Lib.hid (show Box4 ((w.alloc (.cells #[.int .u64 0, .int .u64 0, .int .i64 0, .slice none 0 0] 37)).alloc (.cells #[.int .u64 0, .int .u64 0, .int .i64 0, .slice none 0 0] 37)) w.heap.size (.int .u64 0) (.int .u64 0) (.int .i64 0) (.slice none 0 0) from (Box4.new w _ _ _ _ _ _ rfl).alloc _)
  have Y1 := Lib.hid (show Box4 ((w.alloc (.cells #[.int .u64 0, .int .u64 0, .int .i64 0, .slice none 0 0] 37)).alloc (.cells #[.int .u64 0, .int .u64 0, .int .i64 0, .slice none 0 0] 37)) (w.heap.size + 1) (.int .u64 0) (.int .u64 0) (.int .i64 0) (.slice none 0 0) from Box4.new (w.alloc (.cells #[.int .u64 0, .int .u64 0, .int .i64 0, .slice none 0 0] 37)) _ _ _ _ _ _ (by simp))
  have hk : 14 ≤ k.length ∧ k.length ≤ 1518 := by
    rcases tE_cases k with ⟨_, g⟩ | ⟨g, _⟩ | ⟨g, _⟩
    · exact g
    · rw [g] at e1; cases e1
    · rw [g] at e1; cases e1
  have C1 := Lib.hid (fun w h => frtake_mid A n c k w h (by omega) (by omega))
  have L1 : (k.drop 14).length = n - 14 := by rw [List.length_drop]; omega
  clear e1 hk
  generalize mbAt k 0 = D1 at *
  generalize mbAt k 6 = S1 at *
  generalize two k 12 = T1 at *
  generalize k.drop 14 = l1 at *
  subst e2
  have C2 := Lib.hid (fun A n c w (h : BSl w A n c l1) => rtake_ok A n c l1 w h (by have := h.len; omega) e3)
  have L2 : (bodyF l1).length ≤ 4000 := by unfold bodyF; rw [List.length_drop, List.length_take]; omega
  clear e3
  generalize bat l1 1 = Q1 at *
  generalize two l1 4 = Q2 at *
  generalize bat l1 8 = Q3 at *
  generalize bat l1 9 = R at *
  generalize four l1 12 = xs at *
  generalize four l1 16 = xd at *
  generalize bodyF l1 = l2 at *
  clear h hl
  go_enter Try.func15, Try.ntmps15
  go_wp2_with (first
    | (go_at_call 37; (with_reducible refine (C1.out _ ((H.out.alloc _).alloc _)).mono ?_); rintro e w1 ⟨A1, c1, rfl, hown1, hb1⟩; have B1 := Lib.hid hb1; have X1 := Lib.hid (BSl.of_own hown1); clear hown1 hb1; obtain ⟨z0, z1, z2, z3, zf⟩ := Y0.out.below B1.out; obtain ⟨n0, n1, n2, n3, _⟩ := Y1.out.below B1.out; have zl := (Y0.out.below B1.out).lt; have nl := (Y1.out.below B1.out).lt)
    | (go_at_call 38; (with_reducible refine (C2.out _ _ _ _ (X1.out.alloc _)).mono ?_); rintro e w2 ⟨A2, m2, c2, rfl, s2, hb2⟩; have B2 := Lib.hid (trans_below B1.out (one_below hb2)); have X2 := Lib.hid s2; clear s2 hb2; clear z0 z1 z2 z3 zf n0 n1 n2 n3 zl nl; obtain ⟨z0, z1, z2, z3, zf⟩ := Y0.out.below B2.out; obtain ⟨n0, n1, n2, n3, _⟩ := Y1.out.below B2.out; have zl := (Y0.out.below B2.out).lt; have nl := (Y1.out.below B2.out).lt))
  go_region
  all_goals
    go_wp2
    have P := (Y0.out.below B2.out).put (.int .u64 0) (.int .u64 0) (.int .i64 0) (.slice none 0 0)
    have Q := putv4_below (q := w.heap.size) (.int .u64 0) (.int .u64 0) (.int .i64 0) (.slice none 0 0) (two_below B2.out) (Nat.le_refl _)
    have RR := Lib.hid (show Box4 ((putv4 w2 w.heap.size (.int .u64 0) (.int .u64 0) (.int .i64 0) (.slice none 0 0)).alloc (.cells #[.int .i64 Q1, .int .i64 Q2, .int .i64 Q3, .int .i64 R, .int .u32 xs, .int .u32 xd, .slice A2 m2 c2] 61)).drew w.heap.size (.int .u64 0) (.int .u64 0) (.int .i64 0) (.slice none 0 0) from (P.alloc _).drewN 1)
    have QQ := Lib.hid (show Below w.heap.size w ((putv4 w2 w.heap.size (.int .u64 0) (.int .u64 0) (.int .i64 0) (.slice none 0 0)).alloc (.cells #[.int .i64 Q1, .int .i64 Q2, .int .i64 Q3, .int .i64 R, .int .u32 xs, .int .u32 xd, .slice A2 m2 c2] 61)).drew from below_drewN (Q.alloc Q.size _) 1)
    change bodyPost _ _ _ _ _ ((putv4 w2 w.heap.size (.int .u64 0) (.int .u64 0) (.int .i64 0) (.slice none 0 0)).alloc (.cells #[.int .i64 Q1, .int .i64 Q2, .int .i64 Q3, .int .i64 R, .int .u32 xs, .int .u32 xd, .slice A2 m2 c2] 61)).drew
    generalize ((putv4 w2 w.heap.size (.int .u64 0) (.int .u64 0) (.int .i64 0) (.slice none 0 0)).alloc (.cells #[.int .i64 Q1, .int .i64 Q2, .int .i64 Q3, .int .i64 R, .int .u32 xs, .int .u32 xd, .slice A2 m2 c2] 61)).drew = w9 at *
    obtain ⟨t0, t1, t2, t3, _⟩ := RR.out
    clear P Q z0 z1 z2 z3 zf n0 n1 n2 n3 zl nl
    exact bodyPost_ret (v := .tuple #[.int .u32 0, .int .u32 0, .int .i64 0, .agg #[.int .u64 0, .int .u64 0, .int .i64 0, .slice none 0 0], .int .i64 11]) (by simp [results, Try.results15, go_sem, t0, t1, t2, t3]) rfl ⟨none, 0, 0, rfl, BSl.nil, QQ.out⟩

set_option maxRecDepth 20000 in
set_option maxHeartbeats 4000000 in
theorem runwrap_4 (A : Option Addr) (n c : Nat) (k : List UInt8) (w : World) (h : BSl w A n c k) (hn : n ≤ 4000) (e1 : tE k = 0) (e2 : two k 12 = 2048) (e3 : rE (k.drop 14) = 0) (e4 : bat (k.drop 14) 9 = 17) (e5 : ¬ udE (bodyF (k.drop 14)) = 0) :
    Calls Try.prog 15 #[.slice A n c] w (GotUw w 0 0 0 0 0 0 [] (udE (bodyF (k.drop 14)))) := by
  have hl := h.len
  have H := Lib.hid h
  have Y0 := Lib.hid (show Box4 ((w.alloc (.cells #[.int .u64 0, .int .u64 0, .int .i64 0, .slice none 0 0] 37)).alloc (.cells #[.int .u64 0, .int .u64 0, .int .i64 0, .slice none 0 0] 37)) w.heap.size (.int .u64 0) (.int .u64 0) (.int .i64 0) (.slice none 0 0) from (Box4.new w _ _ _ _ _ _ rfl).alloc _)
  have Y1 := Lib.hid (show Box4 ((w.alloc (.cells #[.int .u64 0, .int .u64 0, .int .i64 0, .slice none 0 0] 37)).alloc (.cells #[.int .u64 0, .int .u64 0, .int .i64 0, .slice none 0 0] 37)) (w.heap.size + 1) (.int .u64 0) (.int .u64 0) (.int .i64 0) (.slice none 0 0) from Box4.new (w.alloc (.cells #[.int .u64 0, .int .u64 0, .int .i64 0, .slice none 0 0] 37)) _ _ _ _ _ _ (by simp))
  have hk : 14 ≤ k.length ∧ k.length ≤ 1518 := by
    rcases tE_cases k with ⟨_, g⟩ | ⟨g, _⟩ | ⟨g, _⟩
    · exact g
    · rw [g] at e1; cases e1
    · rw [g] at e1; cases e1
  have C1 := Lib.hid (fun w h => frtake_mid A n c k w h (by omega) (by omega))
  have L1 : (k.drop 14).length = n - 14 := by rw [List.length_drop]; omega
  clear e1 hk
  generalize mbAt k 0 = D1 at *
  generalize mbAt k 6 = S1 at *
  generalize two k 12 = T1 at *
  generalize k.drop 14 = l1 at *
  subst e2
  have C2 := Lib.hid (fun A n c w (h : BSl w A n c l1) => rtake_ok A n c l1 w h (by have := h.len; omega) e3)
  have L2 : (bodyF l1).length ≤ 4000 := by unfold bodyF; rw [List.length_drop, List.length_take]; omega
  clear e3
  generalize bat l1 1 = Q1 at *
  generalize two l1 4 = Q2 at *
  generalize bat l1 8 = Q3 at *
  generalize bat l1 9 = R at *
  generalize four l1 12 = xs at *
  generalize four l1 16 = xd at *
  generalize bodyF l1 = l2 at *
  subst e4
  have C3 := Lib.hid (fun A n c w h => rutake_no A n c l2 w h e5)
  generalize udE l2 = G at *
  clear h hl
  go_enter Try.func15, Try.ntmps15
  go_wp2_with (first
    | (go_at_call 37; (with_reducible refine (C1.out _ ((H.out.alloc _).alloc _)).mono ?_); rintro e w1 ⟨A1, c1, rfl, hown1, hb1⟩; have B1 := Lib.hid hb1; have X1 := Lib.hid (BSl.of_own hown1); clear hown1 hb1; obtain ⟨z0, z1, z2, z3, zf⟩ := Y0.out.below B1.out; obtain ⟨n0, n1, n2, n3, _⟩ := Y1.out.below B1.out; have zl := (Y0.out.below B1.out).lt; have nl := (Y1.out.below B1.out).lt)
    | (go_at_call 38; (with_reducible refine (C2.out _ _ _ _ (X1.out.alloc _)).mono ?_); rintro e w2 ⟨A2, m2, c2, rfl, s2, hb2⟩; have B2 := Lib.hid (trans_below B1.out (one_below hb2)); have X2 := Lib.hid s2; clear s2 hb2; clear z0 z1 z2 z3 zf n0 n1 n2 n3 zl nl; obtain ⟨z0, z1, z2, z3, zf⟩ := Y0.out.below B2.out; obtain ⟨n0, n1, n2, n3, _⟩ := Y1.out.below B2.out; have zl := (Y0.out.below B2.out).lt; have nl := (Y1.out.below B2.out).lt)
    | (go_at_call 39; (with_reducible refine (C3.out _ _ _ _ (X2.out.alloc _)).mono ?_); rintro e w3 ⟨A3, m3, c3, rfl, s3, hb3⟩; have P2 := Lib.hid (Box7.new w2 (.int .i64 Q1) (.int .i64 Q2) (.int .i64 Q3) (.int .i64 17) (.int .u32 xs) (.int .u32 xd) (.slice A2 m2 c2) 61 w2.heap.size rfl); have P3 := Lib.hid (P2.out.below hb3); have B3 := Lib.hid (trans_below B2.out (one_below hb3)); have X3 := Lib.hid s3; clear s3 hb3 P2; clear z0 z1 z2 z3 zf n0 n1 n2 n3 zl nl; obtain ⟨z0, z1, z2, z3, zf⟩ := Y0.out.below B3.out; obtain ⟨n0, n1, n2, n3, _⟩ := Y1.out.below B3.out; have zl := (Y0.out.below B3.out).lt; have nl := (Y1.out.below B3.out).lt))
  go_region
  all_goals
    go_wp2
    have P := (Y0.out.below B3.out).put (.int .u64 0) (.int .u64 0) (.int .i64 0) (.slice none 0 0)
    have Q := putv4_below (q := w.heap.size) (.int .u64 0) (.int .u64 0) (.int .i64 0) (.slice none 0 0) (two_below B3.out) (Nat.le_refl _)
    have RR := Lib.hid (show Box4 (putv4 w3 w.heap.size (.int .u64 0) (.int .u64 0) (.int .i64 0) (.slice none 0 0)).drew w.heap.size (.int .u64 0) (.int .u64 0) (.int .i64 0) (.slice none 0 0) from (P).drewN 1)
    have QQ := Lib.hid (show Below w.heap.size w (putv4 w3 w.heap.size (.int .u64 0) (.int .u64 0) (.int .i64 0) (.slice none 0 0)).drew from below_drewN (Q) 1)
    change bodyPost _ _ _ _ _ (putv4 w3 w.heap.size (.int .u64 0) (.int .u64 0) (.int .i64 0) (.slice none 0 0)).drew
    generalize (putv4 w3 w.heap.size (.int .u64 0) (.int .u64 0) (.int .i64 0) (.slice none 0 0)).drew = w9 at *
    obtain ⟨t0, t1, t2, t3, _⟩ := RR.out
    clear P Q z0 z1 z2 z3 zf n0 n1 n2 n3 zl nl
    exact bodyPost_ret (v := .tuple #[.int .u32 0, .int .u32 0, .int .i64 0, .agg #[.int .u64 0, .int .u64 0, .int .i64 0, .slice none 0 0], .int .i64 G]) (by simp [results, Try.results15, go_sem, t0, t1, t2, t3]) rfl ⟨none, 0, 0, rfl, BSl.nil, QQ.out⟩

set_option maxRecDepth 20000 in
set_option maxHeartbeats 4000000 in
theorem runwrap_5 (A : Option Addr) (n c : Nat) (k : List UInt8) (w : World) (h : BSl w A n c k) (hn : n ≤ 4000) (e1 : tE k = 0) (e2 : two k 12 = 2048) (e3 : rE (k.drop 14) = 0) (e4 : bat (k.drop 14) 9 = 17) (e5 : udE (bodyF (k.drop 14)) = 0) (e6 : ¬ two (bodyF (k.drop 14)) 2 = 4789) :
    Calls Try.prog 15 #[.slice A n c] w (GotUw w 0 0 0 0 0 0 [] (11)) := by
  have hl := h.len
  have H := Lib.hid h
  have Y0 := Lib.hid (show Box4 ((w.alloc (.cells #[.int .u64 0, .int .u64 0, .int .i64 0, .slice none 0 0] 37)).alloc (.cells #[.int .u64 0, .int .u64 0, .int .i64 0, .slice none 0 0] 37)) w.heap.size (.int .u64 0) (.int .u64 0) (.int .i64 0) (.slice none 0 0) from (Box4.new w _ _ _ _ _ _ rfl).alloc _)
  have Y1 := Lib.hid (show Box4 ((w.alloc (.cells #[.int .u64 0, .int .u64 0, .int .i64 0, .slice none 0 0] 37)).alloc (.cells #[.int .u64 0, .int .u64 0, .int .i64 0, .slice none 0 0] 37)) (w.heap.size + 1) (.int .u64 0) (.int .u64 0) (.int .i64 0) (.slice none 0 0) from Box4.new (w.alloc (.cells #[.int .u64 0, .int .u64 0, .int .i64 0, .slice none 0 0] 37)) _ _ _ _ _ _ (by simp))
  have hk : 14 ≤ k.length ∧ k.length ≤ 1518 := by
    rcases tE_cases k with ⟨_, g⟩ | ⟨g, _⟩ | ⟨g, _⟩
    · exact g
    · rw [g] at e1; cases e1
    · rw [g] at e1; cases e1
  have C1 := Lib.hid (fun w h => frtake_mid A n c k w h (by omega) (by omega))
  have L1 : (k.drop 14).length = n - 14 := by rw [List.length_drop]; omega
  clear e1 hk
  generalize mbAt k 0 = D1 at *
  generalize mbAt k 6 = S1 at *
  generalize two k 12 = T1 at *
  generalize k.drop 14 = l1 at *
  subst e2
  have C2 := Lib.hid (fun A n c w (h : BSl w A n c l1) => rtake_ok A n c l1 w h (by have := h.len; omega) e3)
  have L2 : (bodyF l1).length ≤ 4000 := by unfold bodyF; rw [List.length_drop, List.length_take]; omega
  clear e3
  generalize bat l1 1 = Q1 at *
  generalize two l1 4 = Q2 at *
  generalize bat l1 8 = Q3 at *
  generalize bat l1 9 = R at *
  generalize four l1 12 = xs at *
  generalize four l1 16 = xd at *
  generalize bodyF l1 = l2 at *
  subst e4
  have C3 := Lib.hid (fun A n c w (h : BSl w A n c l2) => rutake_ok A n c l2 w h (by have := h.len; omega) e5)
  have L3 : (udB l2).length ≤ 4000 := by unfold udB; rw [List.length_drop, List.length_take]; omega
  clear e5
  generalize two l2 0 = us at *
  generalize two l2 2 = ud at *
  generalize udB l2 = l3 at *
  clear h hl
  go_enter Try.func15, Try.ntmps15
  go_wp2_with (first
    | (go_at_call 37; (with_reducible refine (C1.out _ ((H.out.alloc _).alloc _)).mono ?_); rintro e w1 ⟨A1, c1, rfl, hown1, hb1⟩; have B1 := Lib.hid hb1; have X1 := Lib.hid (BSl.of_own hown1); clear hown1 hb1; obtain ⟨z0, z1, z2, z3, zf⟩ := Y0.out.below B1.out; obtain ⟨n0, n1, n2, n3, _⟩ := Y1.out.below B1.out; have zl := (Y0.out.below B1.out).lt; have nl := (Y1.out.below B1.out).lt)
    | (go_at_call 38; (with_reducible refine (C2.out _ _ _ _ (X1.out.alloc _)).mono ?_); rintro e w2 ⟨A2, m2, c2, rfl, s2, hb2⟩; have B2 := Lib.hid (trans_below B1.out (one_below hb2)); have X2 := Lib.hid s2; clear s2 hb2; clear z0 z1 z2 z3 zf n0 n1 n2 n3 zl nl; obtain ⟨z0, z1, z2, z3, zf⟩ := Y0.out.below B2.out; obtain ⟨n0, n1, n2, n3, _⟩ := Y1.out.below B2.out; have zl := (Y0.out.below B2.out).lt; have nl := (Y1.out.below B2.out).lt)
    | (go_at_call 39; (with_reducible refine (C3.out _ _ _ _ (X2.out.alloc _)).mono ?_); rintro e w3 ⟨A3, m3, c3, rfl, s3, hb3⟩; have P2 := Lib.hid (Box7.new w2 (.int .i64 Q1) (.int .i64 Q2) (.int .i64 Q3) (.int .i64 17) (.int .u32 xs) (.int .u32 xd) (.slice A2 m2 c2) 61 w2.heap.size rfl); have P3 := Lib.hid (P2.out.below hb3); have B3 := Lib.hid (trans_below B2.out (one_below hb3)); have X3 := Lib.hid s3; clear s3 hb3 P2; clear z0 z1 z2 z3 zf n0 n1 n2 n3 zl nl; obtain ⟨z0, z1, z2, z3, zf⟩ := Y0.out.below B3.out; obtain ⟨n0, n1, n2, n3, _⟩ := Y1.out.below B3.out; have zl := (Y0.out.below B3.out).lt; have nl := (Y1.out.below B3.out).lt))
  go_region
  all_goals
    go_wp2
    have P := (Y0.out.below B3.out).put (.int .u64 0) (.int .u64 0) (.int .i64 0) (.slice none 0 0)
    have Q := putv4_below (q := w.heap.size) (.int .u64 0) (.int .u64 0) (.int .i64 0) (.slice none 0 0) (two_below B3.out) (Nat.le_refl _)
    have RR := Lib.hid (show Box4 (putv4 w3 w.heap.size (.int .u64 0) (.int .u64 0) (.int .i64 0) (.slice none 0 0)).drew w.heap.size (.int .u64 0) (.int .u64 0) (.int .i64 0) (.slice none 0 0) from (P).drewN 1)
    have QQ := Lib.hid (show Below w.heap.size w (putv4 w3 w.heap.size (.int .u64 0) (.int .u64 0) (.int .i64 0) (.slice none 0 0)).drew from below_drewN (Q) 1)
    change bodyPost _ _ _ _ _ (putv4 w3 w.heap.size (.int .u64 0) (.int .u64 0) (.int .i64 0) (.slice none 0 0)).drew
    generalize (putv4 w3 w.heap.size (.int .u64 0) (.int .u64 0) (.int .i64 0) (.slice none 0 0)).drew = w9 at *
    obtain ⟨t0, t1, t2, t3, _⟩ := RR.out
    clear P Q z0 z1 z2 z3 zf n0 n1 n2 n3 zl nl
    exact bodyPost_ret (v := .tuple #[.int .u32 0, .int .u32 0, .int .i64 0, .agg #[.int .u64 0, .int .u64 0, .int .i64 0, .slice none 0 0], .int .i64 11]) (by simp [results, Try.results15, go_sem, t0, t1, t2, t3]) rfl ⟨none, 0, 0, rfl, BSl.nil, QQ.out⟩

set_option maxRecDepth 20000 in
set_option maxHeartbeats 4000000 in
theorem runwrap_6 (A : Option Addr) (n c : Nat) (k : List UInt8) (w : World) (h : BSl w A n c k) (hn : n ≤ 4000) (e1 : tE k = 0) (e2 : two k 12 = 2048) (e3 : rE (k.drop 14) = 0) (e4 : bat (k.drop 14) 9 = 17) (e5 : udE (bodyF (k.drop 14)) = 0) (e6 : two (bodyF (k.drop 14)) 2 = 4789) (e7 : ¬ vnE (udB (bodyF (k.drop 14))) = 0) :
    Calls Try.prog 15 #[.slice A n c] w (GotUw w 0 0 0 0 0 0 [] (vnE (udB (bodyF (k.drop 14))))) := by
  have hl := h.len
  have H := Lib.hid h
  have Y0 := Lib.hid (show Box4 ((w.alloc (.cells #[.int .u64 0, .int .u64 0, .int .i64 0, .slice none 0 0] 37)).alloc (.cells #[.int .u64 0, .int .u64 0, .int .i64 0, .slice none 0 0] 37)) w.heap.size (.int .u64 0) (.int .u64 0) (.int .i64 0) (.slice none 0 0) from (Box4.new w _ _ _ _ _ _ rfl).alloc _)
  have Y1 := Lib.hid (show Box4 ((w.alloc (.cells #[.int .u64 0, .int .u64 0, .int .i64 0, .slice none 0 0] 37)).alloc (.cells #[.int .u64 0, .int .u64 0, .int .i64 0, .slice none 0 0] 37)) (w.heap.size + 1) (.int .u64 0) (.int .u64 0) (.int .i64 0) (.slice none 0 0) from Box4.new (w.alloc (.cells #[.int .u64 0, .int .u64 0, .int .i64 0, .slice none 0 0] 37)) _ _ _ _ _ _ (by simp))
  have hk : 14 ≤ k.length ∧ k.length ≤ 1518 := by
    rcases tE_cases k with ⟨_, g⟩ | ⟨g, _⟩ | ⟨g, _⟩
    · exact g
    · rw [g] at e1; cases e1
    · rw [g] at e1; cases e1
  have C1 := Lib.hid (fun w h => frtake_mid A n c k w h (by omega) (by omega))
  have L1 : (k.drop 14).length = n - 14 := by rw [List.length_drop]; omega
  clear e1 hk
  generalize mbAt k 0 = D1 at *
  generalize mbAt k 6 = S1 at *
  generalize two k 12 = T1 at *
  generalize k.drop 14 = l1 at *
  subst e2
  have C2 := Lib.hid (fun A n c w (h : BSl w A n c l1) => rtake_ok A n c l1 w h (by have := h.len; omega) e3)
  have L2 : (bodyF l1).length ≤ 4000 := by unfold bodyF; rw [List.length_drop, List.length_take]; omega
  clear e3
  generalize bat l1 1 = Q1 at *
  generalize two l1 4 = Q2 at *
  generalize bat l1 8 = Q3 at *
  generalize bat l1 9 = R at *
  generalize four l1 12 = xs at *
  generalize four l1 16 = xd at *
  generalize bodyF l1 = l2 at *
  subst e4
  have C3 := Lib.hid (fun A n c w (h : BSl w A n c l2) => rutake_ok A n c l2 w h (by have := h.len; omega) e5)
  have L3 : (udB l2).length ≤ 4000 := by unfold udB; rw [List.length_drop, List.length_take]; omega
  clear e5
  generalize two l2 0 = us at *
  generalize two l2 2 = ud at *
  generalize udB l2 = l3 at *
  subst e6
  have C4 := Lib.hid (fun A n c w h => rvni_no A n c l3 w h e7)
  generalize vnE l3 = G at *
  clear h hl
  go_enter Try.func15, Try.ntmps15
  go_wp2_with (first
    | (go_at_call 37; (with_reducible refine (C1.out _ ((H.out.alloc _).alloc _)).mono ?_); rintro e w1 ⟨A1, c1, rfl, hown1, hb1⟩; have B1 := Lib.hid hb1; have X1 := Lib.hid (BSl.of_own hown1); clear hown1 hb1; obtain ⟨z0, z1, z2, z3, zf⟩ := Y0.out.below B1.out; obtain ⟨n0, n1, n2, n3, _⟩ := Y1.out.below B1.out; have zl := (Y0.out.below B1.out).lt; have nl := (Y1.out.below B1.out).lt)
    | (go_at_call 38; (with_reducible refine (C2.out _ _ _ _ (X1.out.alloc _)).mono ?_); rintro e w2 ⟨A2, m2, c2, rfl, s2, hb2⟩; have B2 := Lib.hid (trans_below B1.out (one_below hb2)); have X2 := Lib.hid s2; clear s2 hb2; clear z0 z1 z2 z3 zf n0 n1 n2 n3 zl nl; obtain ⟨z0, z1, z2, z3, zf⟩ := Y0.out.below B2.out; obtain ⟨n0, n1, n2, n3, _⟩ := Y1.out.below B2.out; have zl := (Y0.out.below B2.out).lt; have nl := (Y1.out.below B2.out).lt)
    | (go_at_call 39; (with_reducible refine (C3.out _ _ _ _ (X2.out.alloc _)).mono ?_); rintro e w3 ⟨A3, m3, c3, rfl, s3, hb3⟩; have P2 := Lib.hid (Box7.new w2 (.int .i64 Q1) (.int .i64 Q2) (.int .i64 Q3) (.int .i64 17) (.int .u32 xs) (.int .u32 xd) (.slice A2 m2 c2) 61 w2.heap.size rfl); have P3 := Lib.hid (P2.out.below hb3); have B3 := Lib.hid (trans_below B2.out (one_below hb3)); have X3 := Lib.hid s3; clear s3 hb3 P2; clear z0 z1 z2 z3 zf n0 n1 n2 n3 zl nl; obtain ⟨z0, z1, z2, z3, zf⟩ := Y0.out.below B3.out; obtain ⟨n0, n1, n2, n3, _⟩ := Y1.out.below B3.out; have zl := (Y0.out.below B3.out).lt; have nl := (Y1.out.below B3.out).lt)
    | (go_at_call 11; (with_reducible refine (C4.out _ _ _ _ X3.out).mono ?_); rintro e w4 ⟨A4, m4, c4, rfl, s4, hb4⟩; have P4 := Lib.hid (P3.out.below hb4); have B4 := Lib.hid (trans_below B3.out hb4); have X4 := Lib.hid s4; clear s4 hb4; clear z0 z1 z2 z3 zf n0 n1 n2 n3 zl nl; obtain ⟨z0, z1, z2, z3, zf⟩ := Y0.out.below B4.out; obtain ⟨n0, n1, n2, n3, _⟩ := Y1.out.below B4.out; have zl := (Y0.out.below B4.out).lt; have nl := (Y1.out.below B4.out).lt))
  go_region
  all_goals
    go_wp2
    have P := (Y0.out.below B4.out).put (.int .u64 0) (.int .u64 0) (.int .i64 0) (.slice none 0 0)
    have Q := putv4_below (q := w.heap.size) (.int .u64 0) (.int .u64 0) (.int .i64 0) (.slice none 0 0) (two_below B4.out) (Nat.le_refl _)
    have RR := Lib.hid (show Box4 (putv4 w4 w.heap.size (.int .u64 0) (.int .u64 0) (.int .i64 0) (.slice none 0 0)).drew w.heap.size (.int .u64 0) (.int .u64 0) (.int .i64 0) (.slice none 0 0) from (P).drewN 1)
    have QQ := Lib.hid (show Below w.heap.size w (putv4 w4 w.heap.size (.int .u64 0) (.int .u64 0) (.int .i64 0) (.slice none 0 0)).drew from below_drewN (Q) 1)
    change bodyPost _ _ _ _ _ (putv4 w4 w.heap.size (.int .u64 0) (.int .u64 0) (.int .i64 0) (.slice none 0 0)).drew
    generalize (putv4 w4 w.heap.size (.int .u64 0) (.int .u64 0) (.int .i64 0) (.slice none 0 0)).drew = w9 at *
    obtain ⟨t0, t1, t2, t3, _⟩ := RR.out
    clear P Q z0 z1 z2 z3 zf n0 n1 n2 n3 zl nl
    exact bodyPost_ret (v := .tuple #[.int .u32 0, .int .u32 0, .int .i64 0, .agg #[.int .u64 0, .int .u64 0, .int .i64 0, .slice none 0 0], .int .i64 G]) (by simp [results, Try.results15, go_sem, t0, t1, t2, t3]) rfl ⟨none, 0, 0, rfl, BSl.nil, QQ.out⟩

set_option maxRecDepth 20000 in
set_option maxHeartbeats 4000000 in
theorem runwrap_7 (A : Option Addr) (n c : Nat) (k : List UInt8) (w : World) (h : BSl w A n c k) (hn : n ≤ 4000) (e1 : tE k = 0) (e2 : two k 12 = 2048) (e3 : rE (k.drop 14) = 0) (e4 : bat (k.drop 14) 9 = 17) (e5 : udE (bodyF (k.drop 14)) = 0) (e6 : two (bodyF (k.drop 14)) 2 = 4789) (e7 : vnE (udB (bodyF (k.drop 14))) = 0) (e8 : ¬ tE ((udB (bodyF (k.drop 14))).drop 8) = 0) :
    Calls Try.prog 15 #[.slice A n c] w (GotUw w 0 0 0 0 0 0 [] (tE ((udB (bodyF (k.drop 14))).drop 8))) := by
  have hl := h.len
  have H := Lib.hid h
  have Y0 := Lib.hid (show Box4 ((w.alloc (.cells #[.int .u64 0, .int .u64 0, .int .i64 0, .slice none 0 0] 37)).alloc (.cells #[.int .u64 0, .int .u64 0, .int .i64 0, .slice none 0 0] 37)) w.heap.size (.int .u64 0) (.int .u64 0) (.int .i64 0) (.slice none 0 0) from (Box4.new w _ _ _ _ _ _ rfl).alloc _)
  have Y1 := Lib.hid (show Box4 ((w.alloc (.cells #[.int .u64 0, .int .u64 0, .int .i64 0, .slice none 0 0] 37)).alloc (.cells #[.int .u64 0, .int .u64 0, .int .i64 0, .slice none 0 0] 37)) (w.heap.size + 1) (.int .u64 0) (.int .u64 0) (.int .i64 0) (.slice none 0 0) from Box4.new (w.alloc (.cells #[.int .u64 0, .int .u64 0, .int .i64 0, .slice none 0 0] 37)) _ _ _ _ _ _ (by simp))
  have hk : 14 ≤ k.length ∧ k.length ≤ 1518 := by
    rcases tE_cases k with ⟨_, g⟩ | ⟨g, _⟩ | ⟨g, _⟩
    · exact g
    · rw [g] at e1; cases e1
    · rw [g] at e1; cases e1
  have C1 := Lib.hid (fun w h => frtake_mid A n c k w h (by omega) (by omega))
  have L1 : (k.drop 14).length = n - 14 := by rw [List.length_drop]; omega
  clear e1 hk
  generalize mbAt k 0 = D1 at *
  generalize mbAt k 6 = S1 at *
  generalize two k 12 = T1 at *
  generalize k.drop 14 = l1 at *
  subst e2
  have C2 := Lib.hid (fun A n c w (h : BSl w A n c l1) => rtake_ok A n c l1 w h (by have := h.len; omega) e3)
  have L2 : (bodyF l1).length ≤ 4000 := by unfold bodyF; rw [List.length_drop, List.length_take]; omega
  clear e3
  generalize bat l1 1 = Q1 at *
  generalize two l1 4 = Q2 at *
  generalize bat l1 8 = Q3 at *
  generalize bat l1 9 = R at *
  generalize four l1 12 = xs at *
  generalize four l1 16 = xd at *
  generalize bodyF l1 = l2 at *
  subst e4
  have C3 := Lib.hid (fun A n c w (h : BSl w A n c l2) => rutake_ok A n c l2 w h (by have := h.len; omega) e5)
  have L3 : (udB l2).length ≤ 4000 := by unfold udB; rw [List.length_drop, List.length_take]; omega
  clear e5
  generalize two l2 0 = us at *
  generalize two l2 2 = ud at *
  generalize udB l2 = l3 at *
  subst e6
  have C4 := Lib.hid (fun A n c w (h : BSl w A n c l3) => rvni_ok A n c l3 w h (by have := h.len; omega) e7)
  clear e7
  generalize three l3 = V at *
  generalize l3.drop 8 = l4 at *
  have C5 := Lib.hid (fun A n c w h => frtake_any A n c l4 w h)
  generalize tD l4 = D5 at *
  generalize tS l4 = S5 at *
  generalize tT l4 = T5 at *
  generalize tL l4 = l5 at *
  generalize tE l4 = G at *
  clear h hl
  go_enter Try.func15, Try.ntmps15
  go_wp2_with (first
    | (go_at_call 37; (with_reducible refine (C1.out _ ((H.out.alloc _).alloc _)).mono ?_); rintro e w1 ⟨A1, c1, rfl, hown1, hb1⟩; have B1 := Lib.hid hb1; have X1 := Lib.hid (BSl.of_own hown1); clear hown1 hb1; obtain ⟨z0, z1, z2, z3, zf⟩ := Y0.out.below B1.out; obtain ⟨n0, n1, n2, n3, _⟩ := Y1.out.below B1.out; have zl := (Y0.out.below B1.out).lt; have nl := (Y1.out.below B1.out).lt)
    | (go_at_call 38; (with_reducible refine (C2.out _ _ _ _ (X1.out.alloc _)).mono ?_); rintro e w2 ⟨A2, m2, c2, rfl, s2, hb2⟩; have B2 := Lib.hid (trans_below B1.out (one_below hb2)); have X2 := Lib.hid s2; clear s2 hb2; clear z0 z1 z2 z3 zf n0 n1 n2 n3 zl nl; obtain ⟨z0, z1, z2, z3, zf⟩ := Y0.out.below B2.out; obtain ⟨n0, n1, n2, n3, _⟩ := Y1.out.below B2.out; have zl := (Y0.out.below B2.out).lt; have nl := (Y1.out.below B2.out).lt)
    | (go_at_call 39; (with_reducible refine (C3.out _ _ _ _ (X2.out.alloc _)).mono ?_); rintro e w3 ⟨A3, m3, c3, rfl, s3, hb3⟩; have P2 := Lib.hid (Box7.new w2 (.int .i64 Q1) (.int .i64 Q2) (.int .i64 Q3) (.int .i64 17) (.int .u32 xs) (.int .u32 xd) (.slice A2 m2 c2) 61 w2.heap.size rfl); have P3 := Lib.hid (P2.out.below hb3); have B3 := Lib.hid (trans_below B2.out (one_below hb3)); have X3 := Lib.hid s3; clear s3 hb3 P2; clear z0 z1 z2 z3 zf n0 n1 n2 n3 zl nl; obtain ⟨z0, z1, z2, z3, zf⟩ := Y0.out.below B3.out; obtain ⟨n0, n1, n2, n3, _⟩ := Y1.out.below B3.out; have zl := (Y0.out.below B3.out).lt; have nl := (Y1.out.below B3.out).lt)
    | (go_at_call 11; (with_reducible refine (C4.out _ _ _ _ X3.out).mono ?_); rintro e w4 ⟨A4, m4, c4, rfl, s4, hb4⟩; have P4 := Lib.hid (P3.out.below hb4); have B4 := Lib.hid (trans_below B3.out hb4); have X4 := Lib.hid s4; clear s4 hb4; clear z0 z1 z2 z3 zf n0 n1 n2 n3 zl nl; obtain ⟨z0, z1, z2, z3, zf⟩ := Y0.out.below B4.out; obtain ⟨n0, n1, n2, n3, _⟩ := Y1.out.below B4.out; have zl := (Y0.out.below B4.out).lt; have nl := (Y1.out.below B4.out).lt)
    | (go_at_call 37; (with_reducible refine (C5.out _ _ _ _ X4.out).mono ?_); rintro e w5 ⟨A5, m5, c5, rfl, s5, hb5⟩; have B5 := Lib.hid (trans_below B4.out hb5); clear s5; clear z0 z1 z2 z3 zf n0 n1 n2 n3 zl nl; obtain ⟨z0, z1, z2, z3, zf⟩ := Y0.out.below B5.out; obtain ⟨n0, n1, n2, n3, _⟩ := Y1.out.below B5.out; have zl := (Y0.out.below B5.out).lt; have nl := (Y1.out.below B5.out).lt; clear hb5))
  go_region
  all_goals
    go_wp2
    have P := (Y0.out.below B5.out).put (.int .u64 0) (.int .u64 0) (.int .i64 0) (.slice none 0 0)
    have Q := putv4_below (q := w.heap.size) (.int .u64 0) (.int .u64 0) (.int .i64 0) (.slice none 0 0) (two_below B5.out) (Nat.le_refl _)
    have RR := Lib.hid (show Box4 ((putv4 w5 w.heap.size (.int .u64 0) (.int .u64 0) (.int .i64 0) (.slice none 0 0)).alloc (.cells #[.int .u64 D5, .int .u64 S5, .int .i64 T5, .slice A5 m5 c5] 37)).drew w.heap.size (.int .u64 0) (.int .u64 0) (.int .i64 0) (.slice none 0 0) from (P.alloc _).drewN 1)
    have QQ := Lib.hid (show Below w.heap.size w ((putv4 w5 w.heap.size (.int .u64 0) (.int .u64 0) (.int .i64 0) (.slice none 0 0)).alloc (.cells #[.int .u64 D5, .int .u64 S5, .int .i64 T5, .slice A5 m5 c5] 37)).drew from below_drewN (Q.alloc Q.size _) 1)
    change bodyPost _ _ _ _ _ ((putv4 w5 w.heap.size (.int .u64 0) (.int .u64 0) (.int .i64 0) (.slice none 0 0)).alloc (.cells #[.int .u64 D5, .int .u64 S5, .int .i64 T5, .slice A5 m5 c5] 37)).drew
    generalize ((putv4 w5 w.heap.size (.int .u64 0) (.int .u64 0) (.int .i64 0) (.slice none 0 0)).alloc (.cells #[.int .u64 D5, .int .u64 S5, .int .i64 T5, .slice A5 m5 c5] 37)).drew = w9 at *
    obtain ⟨t0, t1, t2, t3, _⟩ := RR.out
    clear P Q z0 z1 z2 z3 zf n0 n1 n2 n3 zl nl
    exact bodyPost_ret (v := .tuple #[.int .u32 0, .int .u32 0, .int .i64 0, .agg #[.int .u64 0, .int .u64 0, .int .i64 0, .slice none 0 0], .int .i64 G]) (by simp [results, Try.results15, go_sem, t0, t1, t2, t3]) rfl ⟨none, 0, 0, rfl, BSl.nil, QQ.out⟩

set_option maxRecDepth 20000 in
set_option maxHeartbeats 4000000 in
theorem runwrap_8 (A : Option Addr) (n c : Nat) (k : List UInt8) (w : World) (h : BSl w A n c k) (hn : n ≤ 4000) (e1 : tE k = 0) (e2 : two k 12 = 2048) (e3 : rE (k.drop 14) = 0) (e4 : bat (k.drop 14) 9 = 17) (e5 : udE (bodyF (k.drop 14)) = 0) (e6 : two (bodyF (k.drop 14)) 2 = 4789) (e7 : vnE (udB (bodyF (k.drop 14))) = 0) (e8 : tE ((udB (bodyF (k.drop 14))).drop 8) = 0) (e9 : two ((udB (bodyF (k.drop 14))).drop 8) 12 = 33024) :
    Calls Try.prog 15 #[.slice A n c] w (GotUw w 0 0 0 0 0 0 [] (15)) := by
  have hl := h.len
  have H := Lib.hid h
  have Y0 := Lib.hid (show Box4 ((w.alloc (.cells #[.int .u64 0, .int .u64 0, .int .i64 0, .slice none 0 0] 37)).alloc (.cells #[.int .u64 0, .int .u64 0, .int .i64 0, .slice none 0 0] 37)) w.heap.size (.int .u64 0) (.int .u64 0) (.int .i64 0) (.slice none 0 0) from (Box4.new w _ _ _ _ _ _ rfl).alloc _)
  have Y1 := Lib.hid (show Box4 ((w.alloc (.cells #[.int .u64 0, .int .u64 0, .int .i64 0, .slice none 0 0] 37)).alloc (.cells #[.int .u64 0, .int .u64 0, .int .i64 0, .slice none 0 0] 37)) (w.heap.size + 1) (.int .u64 0) (.int .u64 0) (.int .i64 0) (.slice none 0 0) from Box4.new (w.alloc (.cells #[.int .u64 0, .int .u64 0, .int .i64 0, .slice none 0 0] 37)) _ _ _ _ _ _ (by simp))
  have hk : 14 ≤ k.length ∧ k.length ≤ 1518 := by
    rcases tE_cases k with ⟨_, g⟩ | ⟨g, _⟩ | ⟨g, _⟩
    · exact g
    · rw [g] at e1; cases e1
    · rw [g] at e1; cases e1
  have C1 := Lib.hid (fun w h => frtake_mid A n c k w h (by omega) (by omega))
  have L1 : (k.drop 14).length = n - 14 := by rw [List.length_drop]; omega
  clear e1 hk
  generalize mbAt k 0 = D1 at *
  generalize mbAt k 6 = S1 at *
  generalize two k 12 = T1 at *
  generalize k.drop 14 = l1 at *
  subst e2
  have C2 := Lib.hid (fun A n c w (h : BSl w A n c l1) => rtake_ok A n c l1 w h (by have := h.len; omega) e3)
  have L2 : (bodyF l1).length ≤ 4000 := by unfold bodyF; rw [List.length_drop, List.length_take]; omega
  clear e3
  generalize bat l1 1 = Q1 at *
  generalize two l1 4 = Q2 at *
  generalize bat l1 8 = Q3 at *
  generalize bat l1 9 = R at *
  generalize four l1 12 = xs at *
  generalize four l1 16 = xd at *
  generalize bodyF l1 = l2 at *
  subst e4
  have C3 := Lib.hid (fun A n c w (h : BSl w A n c l2) => rutake_ok A n c l2 w h (by have := h.len; omega) e5)
  have L3 : (udB l2).length ≤ 4000 := by unfold udB; rw [List.length_drop, List.length_take]; omega
  clear e5
  generalize two l2 0 = us at *
  generalize two l2 2 = ud at *
  generalize udB l2 = l3 at *
  subst e6
  have C4 := Lib.hid (fun A n c w (h : BSl w A n c l3) => rvni_ok A n c l3 w h (by have := h.len; omega) e7)
  clear e7
  generalize three l3 = V at *
  generalize l3.drop 8 = l4 at *
  have hk5 : 14 ≤ l4.length ∧ l4.length ≤ 1518 := by
    rcases tE_cases l4 with ⟨_, g⟩ | ⟨g, _⟩ | ⟨g, _⟩
    · exact g
    · rw [g] at e8; cases e8
    · rw [g] at e8; cases e8
  have C5 := Lib.hid (fun A n c w (h : BSl w A n c l4) => frtake_mid A n c l4 w h (by have := h.len; omega) (by have := h.len; omega))
  clear e8 hk5
  generalize mbAt l4 0 = D5 at *
  generalize mbAt l4 6 = S5 at *
  generalize two l4 12 = T5 at *
  generalize l4.drop 14 = l5 at *
  subst e9
  clear h hl
  go_enter Try.func15, Try.ntmps15
  go_wp2_with (first
    | (go_at_call 37; (with_reducible refine (C1.out _ ((H.out.alloc _).alloc _)).mono ?_); rintro e w1 ⟨A1, c1, rfl, hown1, hb1⟩; have B1 := Lib.hid hb1; have X1 := Lib.hid (BSl.of_own hown1); clear hown1 hb1; obtain ⟨z0, z1, z2, z3, zf⟩ := Y0.out.below B1.out; obtain ⟨n0, n1, n2, n3, _⟩ := Y1.out.below B1.out; have zl := (Y0.out.below B1.out).lt; have nl := (Y1.out.below B1.out).lt)
    | (go_at_call 38; (with_reducible refine (C2.out _ _ _ _ (X1.out.alloc _)).mono ?_); rintro e w2 ⟨A2, m2, c2, rfl, s2, hb2⟩; have B2 := Lib.hid (trans_below B1.out (one_below hb2)); have X2 := Lib.hid s2; clear s2 hb2; clear z0 z1 z2 z3 zf n0 n1 n2 n3 zl nl; obtain ⟨z0, z1, z2, z3, zf⟩ := Y0.out.below B2.out; obtain ⟨n0, n1, n2, n3, _⟩ := Y1.out.below B2.out; have zl := (Y0.out.below B2.out).lt; have nl := (Y1.out.below B2.out).lt)
    | (go_at_call 39; (with_reducible refine (C3.out _ _ _ _ (X2.out.alloc _)).mono ?_); rintro e w3 ⟨A3, m3, c3, rfl, s3, hb3⟩; have P2 := Lib.hid (Box7.new w2 (.int .i64 Q1) (.int .i64 Q2) (.int .i64 Q3) (.int .i64 17) (.int .u32 xs) (.int .u32 xd) (.slice A2 m2 c2) 61 w2.heap.size rfl); have P3 := Lib.hid (P2.out.below hb3); have B3 := Lib.hid (trans_below B2.out (one_below hb3)); have X3 := Lib.hid s3; clear s3 hb3 P2; clear z0 z1 z2 z3 zf n0 n1 n2 n3 zl nl; obtain ⟨z0, z1, z2, z3, zf⟩ := Y0.out.below B3.out; obtain ⟨n0, n1, n2, n3, _⟩ := Y1.out.below B3.out; have zl := (Y0.out.below B3.out).lt; have nl := (Y1.out.below B3.out).lt)
    | (go_at_call 11; (with_reducible refine (C4.out _ _ _ _ X3.out).mono ?_); rintro e w4 ⟨A4, m4, c4, rfl, s4, hb4⟩; have P4 := Lib.hid (P3.out.below hb4); have B4 := Lib.hid (trans_below B3.out hb4); have X4 := Lib.hid s4; clear s4 hb4; clear z0 z1 z2 z3 zf n0 n1 n2 n3 zl nl; obtain ⟨z0, z1, z2, z3, zf⟩ := Y0.out.below B4.out; obtain ⟨n0, n1, n2, n3, _⟩ := Y1.out.below B4.out; have zl := (Y0.out.below B4.out).lt; have nl := (Y1.out.below B4.out).lt)
    | (go_at_call 37; (with_reducible refine (C5.out _ _ _ _ X4.out).mono ?_); rintro e w5 ⟨A5, c5, rfl, hown5, hb5⟩; have B5 := Lib.hid (trans_below B4.out hb5); have O5 := Lib.hid hown5; have y5 := (Y0.out.below B4.out).lt; obtain ⟨_, _, _, _, p4, p5, _, _⟩ := P4.out.below hb5; have pl := (P4.out.below hb5).lt; clear z0 z1 z2 z3 zf n0 n1 n2 n3 zl nl; obtain ⟨z0, z1, z2, z3, zf⟩ := Y0.out.below B5.out; obtain ⟨n0, n1, n2, n3, _⟩ := Y1.out.below B5.out; have zl := (Y0.out.below B5.out).lt; have nl := (Y1.out.below B5.out).lt; clear hown5 hb5))
  go_region
  all_goals
    go_wp2
    have P := (Y0.out.below B5.out).put (.int .u64 0) (.int .u64 0) (.int .i64 0) (.slice none 0 0)
    have Q := putv4_below (q := w.heap.size) (.int .u64 0) (.int .u64 0) (.int .i64 0) (.slice none 0 0) (two_below B5.out) (Nat.le_refl _)
    have RR := Lib.hid (show Box4 ((putv4 w5 w.heap.size (.int .u64 0) (.int .u64 0) (.int .i64 0) (.slice none 0 0)).alloc (.cells #[.int .u64 D5, .int .u64 S5, .int .i64 33024, .slice A5 (m4 - 14) c5] 37)).drew w.heap.size (.int .u64 0) (.int .u64 0) (.int .i64 0) (.slice none 0 0) from (P.alloc _).drewN 1)
    have QQ := Lib.hid (show Below w.heap.size w ((putv4 w5 w.heap.size (.int .u64 0) (.int .u64 0) (.int .i64 0) (.slice none 0 0)).alloc (.cells #[.int .u64 D5, .int .u64 S5, .int .i64 33024, .slice A5 (m4 - 14) c5] 37)).drew from below_drewN (Q.alloc Q.size _) 1)
    change bodyPost _ _ _ _ _ ((putv4 w5 w.heap.size (.int .u64 0) (.int .u64 0) (.int .i64 0) (.slice none 0 0)).alloc (.cells #[.int .u64 D5, .int .u64 S5, .int .i64 33024, .slice A5 (m4 - 14) c5] 37)).drew
    generalize ((putv4 w5 w.heap.size (.int .u64 0) (.int .u64 0) (.int .i64 0) (.slice none 0 0)).alloc (.cells #[.int .u64 D5, .int .u64 S5, .int .i64 33024, .slice A5 (m4 - 14) c5] 37)).drew = w9 at *
    obtain ⟨t0, t1, t2, t3, _⟩ := RR.out
    clear P Q z0 z1 z2 z3 zf n0 n1 n2 n3 zl nl
    exact bodyPost_ret (v := .tuple #[.int .u32 0, .int .u32 0, .int .i64 0, .agg #[.int .u64 0, .int .u64 0, .int .i64 0, .slice none 0 0], .int .i64 15]) (by simp [results, Try.results15, go_sem, t0, t1, t2, t3]) rfl ⟨none, 0, 0, rfl, BSl.nil, QQ.out⟩

set_option maxRecDepth 20000 in
set_option maxHeartbeats 4000000 in
theorem runwrap_9 (A : Option Addr) (n c : Nat) (k : List UInt8) (w : World) (h : BSl w A n c k) (hn : n ≤ 4000) (e1 : tE k = 0) (e2 : two k 12 = 2048) (e3 : rE (k.drop 14) = 0) (e4 : bat (k.drop 14) 9 = 17) (e5 : udE (bodyF (k.drop 14)) = 0) (e6 : two (bodyF (k.drop 14)) 2 = 4789) (e7 : vnE (udB (bodyF (k.drop 14))) = 0) (e8 : tE ((udB (bodyF (k.drop 14))).drop 8) = 0) (e9 : ¬ two ((udB (bodyF (k.drop 14))).drop 8) 12 = 33024) :
    Calls Try.prog 15 #[.slice A n c] w (GotUw w (four (k.drop 14) 12) (four (k.drop 14) 16) (three (udB (bodyF (k.drop 14)))) (mbAt ((udB (bodyF (k.drop 14))).drop 8) 0) (mbAt ((udB (bodyF (k.drop 14))).drop 8) 6) (two ((udB (bodyF (k.drop 14))).drop 8) 12) (((udB (bodyF (k.drop 14))).drop 8).drop 14) 0) := by
  have hl := h.len
  have H := Lib.hid h
  have Y0 := Lib.hid (show Box4 ((w.alloc (.cells #[.int .u64 0, .int .u64 0, .int .i64 0, .slice none 0 0] 37)).alloc (.cells #[.int .u64 0, .int .u64 0, .int .i64 0, .slice none 0 0] 37)) w.heap.size (.int .u64 0) (.int .u64 0) (.int .i64 0) (.slice none 0 0) from (Box4.new w _ _ _ _ _ _ rfl).alloc _)
  have Y1 := Lib.hid (show Box4 ((w.alloc (.cells #[.int .u64 0, .int .u64 0, .int .i64 0, .slice none 0 0] 37)).alloc (.cells #[.int .u64 0, .int .u64 0, .int .i64 0, .slice none 0 0] 37)) (w.heap.size + 1) (.int .u64 0) (.int .u64 0) (.int .i64 0) (.slice none 0 0) from Box4.new (w.alloc (.cells #[.int .u64 0, .int .u64 0, .int .i64 0, .slice none 0 0] 37)) _ _ _ _ _ _ (by simp))
  have hk : 14 ≤ k.length ∧ k.length ≤ 1518 := by
    rcases tE_cases k with ⟨_, g⟩ | ⟨g, _⟩ | ⟨g, _⟩
    · exact g
    · rw [g] at e1; cases e1
    · rw [g] at e1; cases e1
  have C1 := Lib.hid (fun w h => frtake_mid A n c k w h (by omega) (by omega))
  have L1 : (k.drop 14).length = n - 14 := by rw [List.length_drop]; omega
  clear e1 hk
  generalize mbAt k 0 = D1 at *
  generalize mbAt k 6 = S1 at *
  generalize two k 12 = T1 at *
  generalize k.drop 14 = l1 at *
  subst e2
  have C2 := Lib.hid (fun A n c w (h : BSl w A n c l1) => rtake_ok A n c l1 w h (by have := h.len; omega) e3)
  have L2 : (bodyF l1).length ≤ 4000 := by unfold bodyF; rw [List.length_drop, List.length_take]; omega
  clear e3
  generalize bat l1 1 = Q1 at *
  generalize two l1 4 = Q2 at *
  generalize bat l1 8 = Q3 at *
  generalize bat l1 9 = R at *
  generalize four l1 12 = xs at *
  generalize four l1 16 = xd at *
  generalize bodyF l1 = l2 at *
  subst e4
  have C3 := Lib.hid (fun A n c w (h : BSl w A n c l2) => rutake_ok A n c l2 w h (by have := h.len; omega) e5)
  have L3 : (udB l2).length ≤ 4000 := by unfold udB; rw [List.length_drop, List.length_take]; omega
  clear e5
  generalize two l2 0 = us at *
  generalize two l2 2 = ud at *
  generalize udB l2 = l3 at *
  subst e6
  have C4 := Lib.hid (fun A n c w (h : BSl w A n c l3) => rvni_ok A n c l3 w h (by have := h.len; omega) e7)
  clear e7
  generalize three l3 = V at *
  generalize l3.drop 8 = l4 at *
  have hk5 : 14 ≤ l4.length ∧ l4.length ≤ 1518 := by
    rcases tE_cases l4 with ⟨_, g⟩ | ⟨g, _⟩ | ⟨g, _⟩
    · exact g
    · rw [g] at e8; cases e8
    · rw [g] at e8; cases e8
  have C5 := Lib.hid (fun A n c w (h : BSl w A n c l4) => frtake_mid A n c l4 w h (by have := h.len; omega) (by have := h.len; omega))
  clear e8 hk5
  generalize mbAt l4 0 = D5 at *
  generalize mbAt l4 6 = S5 at *
  generalize two l4 12 = T5 at *
  generalize l4.drop 14 = l5 at *
  clear h hl
  go_enter Try.func15, Try.ntmps15
  go_wp2_with (first
    | (go_at_call 37; (with_reducible refine (C1.out _ ((H.out.alloc _).alloc _)).mono ?_); rintro e w1 ⟨A1, c1, rfl, hown1, hb1⟩; have B1 := Lib.hid hb1; have X1 := Lib.hid (BSl.of_own hown1); clear hown1 hb1; obtain ⟨z0, z1, z2, z3, zf⟩ := Y0.out.below B1.out; obtain ⟨n0, n1, n2, n3, _⟩ := Y1.out.below B1.out; have zl := (Y0.out.below B1.out).lt; have nl := (Y1.out.below B1.out).lt)
    | (go_at_call 38; (with_reducible refine (C2.out _ _ _ _ (X1.out.alloc _)).mono ?_); rintro e w2 ⟨A2, m2, c2, rfl, s2, hb2⟩; have B2 := Lib.hid (trans_below B1.out (one_below hb2)); have X2 := Lib.hid s2; clear s2 hb2; clear z0 z1 z2 z3 zf n0 n1 n2 n3 zl nl; obtain ⟨z0, z1, z2, z3, zf⟩ := Y0.out.below B2.out; obtain ⟨n0, n1, n2, n3, _⟩ := Y1.out.below B2.out; have zl := (Y0.out.below B2.out).lt; have nl := (Y1.out.below B2.out).lt)
    | (go_at_call 39; (with_reducible refine (C3.out _ _ _ _ (X2.out.alloc _)).mono ?_); rintro e w3 ⟨A3, m3, c3, rfl, s3, hb3⟩; have P2 := Lib.hid (Box7.new w2 (.int .i64 Q1) (.int .i64 Q2) (.int .i64 Q3) (.int .i64 17) (.int .u32 xs) (.int .u32 xd) (.slice A2 m2 c2) 61 w2.heap.size rfl); have P3 := Lib.hid (P2.out.below hb3); have B3 := Lib.hid (trans_below B2.out (one_below hb3)); have X3 := Lib.hid s3; clear s3 hb3 P2; clear z0 z1 z2 z3 zf n0 n1 n2 n3 zl nl; obtain ⟨z0, z1, z2, z3, zf⟩ := Y0.out.below B3.out; obtain ⟨n0, n1, n2, n3, _⟩ := Y1.out.below B3.out; have zl := (Y0.out.below B3.out).lt; have nl := (Y1.out.below B3.out).lt)
    | (go_at_call 11; (with_reducible refine (C4.out _ _ _ _ X3.out).mono ?_); rintro e w4 ⟨A4, m4, c4, rfl, s4, hb4⟩; have P4 := Lib.hid (P3.out.below hb4); have B4 := Lib.hid (trans_below B3.out hb4); have X4 := Lib.hid s4; clear s4 hb4; clear z0 z1 z2 z3 zf n0 n1 n2 n3 zl nl; obtain ⟨z0, z1, z2, z3, zf⟩ := Y0.out.below B4.out; obtain ⟨n0, n1, n2, n3, _⟩ := Y1.out.below B4.out; have zl := (Y0.out.below B4.out).lt; have nl := (Y1.out.below B4.out).lt)
    | (go_at_call 37; (with_reducible refine (C5.out _ _ _ _ X4.out).mono ?_); rintro e w5 ⟨A5, c5, rfl, hown5, hb5⟩; have B5 := Lib.hid (trans_below B4.out hb5); have O5 := Lib.hid hown5; have y5 := (Y0.out.below B4.out).lt; obtain ⟨_, _, _, _, p4, p5, _, _⟩ := P4.out.below hb5; have pl := (P4.out.below hb5).lt; clear z0 z1 z2 z3 zf n0 n1 n2 n3 zl nl; obtain ⟨z0, z1, z2, z3, zf⟩ := Y0.out.below B5.out; obtain ⟨n0, n1, n2, n3, _⟩ := Y1.out.below B5.out; have zl := (Y0.out.below B5.out).lt; have nl := (Y1.out.below B5.out).lt; clear hown5 hb5))
  go_region
  all_goals
    go_wp2
    have P := (Y0.out.below B5.out).put (.int .u64 D5) (.int .u64 S5) (.int .i64 T5) (.slice A5 (m4 - 14) c5)
    have Q := putv4_below (q := w.heap.size) (.int .u64 D5) (.int .u64 S5) (.int .i64 T5) (.slice A5 (m4 - 14) c5) (two_below B5.out) (Nat.le_refl _)
    have RR := Lib.hid (show Box4 ((putv4 w5 w.heap.size (.int .u64 D5) (.int .u64 S5) (.int .i64 T5) (.slice A5 (m4 - 14) c5)).alloc (.cells #[.int .u64 D5, .int .u64 S5, .int .i64 T5, .slice A5 (m4 - 14) c5] 37)).drew w.heap.size (.int .u64 D5) (.int .u64 S5) (.int .i64 T5) (.slice A5 (m4 - 14) c5) from (P.alloc _).drewN 1)
    have QQ := Lib.hid (show Below w.heap.size w ((putv4 w5 w.heap.size (.int .u64 D5) (.int .u64 S5) (.int .i64 T5) (.slice A5 (m4 - 14) c5)).alloc (.cells #[.int .u64 D5, .int .u64 S5, .int .i64 T5, .slice A5 (m4 - 14) c5] 37)).drew from below_drewN (Q.alloc Q.size _) 1)
    have FF := Lib.hid (show BSl ((putv4 w5 w.heap.size (.int .u64 D5) (.int .u64 S5) (.int .i64 T5) (.slice A5 (m4 - 14) c5)).alloc (.cells #[.int .u64 D5, .int .u64 S5, .int .i64 T5, .slice A5 (m4 - 14) c5] 37)).drew A5 (m4 - 14) c5 l5 from ((BSl.of_own (putv4_far (.int .u64 D5) (.int .u64 S5) (.int .i64 T5) (.slice A5 (m4 - 14) c5) O5.out y5)).alloc _).drewN 1)
    change bodyPost _ _ _ _ _ ((putv4 w5 w.heap.size (.int .u64 D5) (.int .u64 S5) (.int .i64 T5) (.slice A5 (m4 - 14) c5)).alloc (.cells #[.int .u64 D5, .int .u64 S5, .int .i64 T5, .slice A5 (m4 - 14) c5] 37)).drew
    generalize ((putv4 w5 w.heap.size (.int .u64 D5) (.int .u64 S5) (.int .i64 T5) (.slice A5 (m4 - 14) c5)).alloc (.cells #[.int .u64 D5, .int .u64 S5, .int .i64 T5, .slice A5 (m4 - 14) c5] 37)).drew = w9 at *
    obtain ⟨t0, t1, t2, t3, _⟩ := RR.out
    clear P Q z0 z1 z2 z3 zf n0 n1 n2 n3 zl nl
    exact bodyPost_ret (v := .tuple #[.int .u32 xs, .int .u32 xd, .int .i64 V, .agg #[.int .u64 D5, .int .u64 S5, .int .i64 T5, .slice A5 (m4 - 14) c5], .int .i64 0]) (by simp [results, Try.results15, go_sem, t0, t1, t2, t3]) rfl ⟨A5, m4 - 14, c5, rfl, FF.out, QQ.out⟩

/-- what Unwrap comes to -/
def GotUnwrap (w : World) (k : List UInt8) : Ending → World → Prop :=
  GotUw w (oi (uE k) (four (k.drop 14) 12)) (oi (uE k) (four (k.drop 14) 16)) (oi (uE k) (three (udB (bodyF (k.drop 14))))) (oi (uE k) (mbAt ((udB (bodyF (k.drop 14))).drop 8) 0)) (oi (uE k) (mbAt ((udB (bodyF (k.drop 14))).drop 8) 6)) (oi (uE k) (two ((udB (bodyF (k.drop 14))).drop 8) 12)) (ol (uE k) (((udB (bodyF (k.drop 14))).drop 8).drop 14)) (uE k)
theorem GotUnwrap.no {w : World} {k : List UInt8} {E : Int} (h : uE k = E) (hE : ¬ E = 0) {e : Ending} {w' : World} (g : GotUw w 0 0 0 0 0 0 [] E e w') : GotUnwrap w k e w' := by
  unfold GotUnwrap
  rw [h, oi_no hE, oi_no hE, oi_no hE, oi_no hE, oi_no hE, oi_no hE, ol_no hE]
  exact g
theorem runwrap_any (A : Option Addr) (n c : Nat) (k : List UInt8) (w : World) (h : BSl w A n c k) (hn : n ≤ 4000) : Calls Try.prog 15 #[.slice A n c] w (GotUnwrap w k) := by
  by_cases e1 : tE k = 0
  rotate_left
  · exact (runwrap_0 A n c k w h hn e1).mono fun _ _ g => GotUnwrap.no (by rw [uE, if_neg e1]) (by first | exact e1 | decide) g
  by_cases e2 : two k 12 = 2048
  rotate_left
  · exact (runwrap_1 A n c k w h hn e1 e2).mono fun _ _ g => GotUnwrap.no (by rw [uE, if_pos e1, if_neg e2]) (by first | exact e2 | decide) g
  by_cases e3 : rE (k.drop 14) = 0
  rotate_left
  · exact (runwrap_2 A n c k w h hn e1 e2 e3).mono fun _ _ g => GotUnwrap.no (by rw [uE, if_pos e1, if_pos e2, uE1, if_neg e3]) (by first | exact e3 | decide) g
  by_cases e4 : bat (k.drop 14) 9 = 17
  rotate_left
  · exact (runwrap_3 A n c k w h hn e1 e2 e3 e4).mono fun _ _ g => GotUnwrap.no (by rw [uE, if_pos e1, if_pos e2, uE1, if_pos e3, if_neg e4]) (by first | exact e4 | decide) g
  by_cases e5 : udE (bodyF (k.drop 14)) = 0
  rotate_left
  · exact (runwrap_4 A n c k w h hn e1 e2 e3 e4 e5).mono fun _ _ g => GotUnwrap.no (by rw [uE, if_pos e1, if_pos e2, uE1, if_pos e3, if_pos e4, uE2, if_neg e5]) (by first | exact e5 | decide) g
  by_cases e6 : two (bodyF (k.drop 14)) 2 = 4789
  rotate_left
  · exact (runwrap_5 A n c k w h hn e1 e2 e3 e4 e5 e6).mono fun _ _ g => GotUnwrap.no (by rw [uE, if_pos e1, if_pos e2, uE1, if_pos e3, if_pos e4, uE2, if_pos e5, if_neg e6]) (by first | exact e6 | decide) g
  by_cases e7 : vnE (udB (bodyF (k.drop 14))) = 0
  rotate_left
  · exact (runwrap_6 A n c k w h hn e1 e2 e3 e4 e5 e6 e7).mono fun _ _ g => GotUnwrap.no (by rw [uE, if_pos e1, if_pos e2, uE1, if_pos e3, if_pos e4, uE2, if_pos e5, if_pos e6, uE3, if_neg e7]) (by first | exact e7 | decide) g
  by_cases e8 : tE ((udB (bodyF (k.drop 14))).drop 8) = 0
  rotate_left
  · exact (runwrap_7 A n c k w h hn e1 e2 e3 e4 e5 e6 e7 e8).mono fun _ _ g => GotUnwrap.no (by rw [uE, if_pos e1, if_pos e2, uE1, if_pos e3, if_pos e4, uE2, if_pos e5, if_pos e6, uE3, if_pos e7, uE4, if_neg e8]) (by first | exact e8 | decide) g
  by_cases e9 : two ((udB (bodyF (k.drop 14))).drop 8) 12 = 33024
  · exact (runwrap_8 A n c k w h hn e1 e2 e3 e4 e5 e6 e7 e8 e9).mono fun _ _ g => GotUnwrap.no (by rw [uE, if_pos e1, if_pos e2, uE1, if_pos e3, if_pos e4, uE2, if_pos e5, if_pos e6, uE3, if_pos e7, uE4, if_pos e8, if_pos e9]) (by first | exact e9 | decide) g
  · have hE : uE k = 0 := by rw [uE, if_pos e1, if_pos e2, uE1, if_pos e3, if_pos e4, uE2, if_pos e5, if_pos e6, uE3, if_pos e7, uE4, if_pos e8, if_neg e9]
    unfold GotUnwrap
    rw [hE]
    exact runwrap_9 A n c k w h hn e1 e2 e3 e4 e5 e6 e7 e8 e9
end Go.Proofs.Ytgmeicenjgiihaa
