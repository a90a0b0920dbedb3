/- The contract of palinglaw09.works, the chapter's example: it holds; the walks of VxlanHeads, VxlanWraps and VxlanUnwraps. -/
import Derived.Test.YtgmeicenjgiihaaVxOwn
import Derived.Test.YtgmeicenjgiihaaFrs
namespace Go.Proofs.Ytgmeicenjgiihaa
open Go.RowKit
open Go.Lib (byteCells)

theorem GotHead.got {w : World} {v : Int} {e : Ending} {w' : World} (h : GotHead w v e w') : GotB w (ol (vhE v) (vhd v)) (vhE v) e w' := by
  rcases h with ⟨h0, x, he, ho, hb⟩ | ⟨h0, he, hb⟩
  · obtain ⟨A, c, rfl, h2⟩ := own_got ho
    rw [h0]
    exact ⟨A, 8, c, he, h2, hb⟩
  · rw [h0]
    exact ⟨none, 0, 0, he, BSl.nil, hb⟩
theorem xwrap_any (a b : Int) (v : Int) (D S : Nat) (T : Int) (A : Option Addr) (n c : Nat) (l : List UInt8) (w : World) (h : BSl w A n c l) (ha : 0 ≤ a ∧ a < 4294967296) (hb : 0 ≤ b ∧ b < 4294967296) (hD : D < 18446744073709551616) (hS : S < 18446744073709551616) :
    Calls Try.prog 12 #[.int .u32 a, .int .u32 b, .int .i64 v, .agg #[.int .u64 D, .int .u64 S, .int .i64 T, .slice A n c]] w (GotWrap w a b D S T v l) := by
  have hl := h.len
  unfold GotWrap
  by_cases hE : wE D S T v l.length = 0
  · obtain ⟨hT, hf, v0, v1, hn⟩ := wE_zero hE
    rw [hE]
    exact (xwrap_ok a b v D S T A n c l w h ha hb hD hS hT hf v0 v1 (by omega)).mono fun _ _ ⟨x, he, ho, hbl⟩ => by
      obtain ⟨A', c', rfl, h2⟩ := own_got ho
      exact ⟨A', 64 + n, c', he, h2, hbl⟩
  · rw [ol_no hE]
    exact (xwrap_no a b v D S T A n c l w h hD hS hE).mono fun _ _ ⟨he, hbl⟩ => ⟨none, 0, 0, he, BSl.nil, hbl⟩

theorem vex_head : ((wB 1 2 281474976710655 7 0 5010 []).drop 42).take 8 = [8, 0, 0, 0, 0, 19, 146, 0] := by decide +kernel
set_option maxRecDepth 20000 in
set_option maxHeartbeats 1000000 in
theorem works09_any (w : World) : Calls Try.prog 7 #[] w fun e w' => e = .returned (.bool true) ∧ Below w.heap.size w w' := by
  have WR := Lib.hid (show ∀ w, Calls Try.prog 12 #[.int .u32 1, .int .u32 2, .int .i64 5010, .agg #[.int .u64 281474976710655, .int .u64 7, .int .i64 0, .slice none 0 0]] w fun e w' => ∃ x, e = .returned (.tuple #[x, .int .i64 0]) ∧ w'.ownsRow w.heap.size 5 1 x (64 + 0) (byteCells (wB 1 2 281474976710655 7 0 5010 [])) ∧ Below w.heap.size w w' from
    fun w => xwrap_ok 1 2 5010 281474976710655 7 0 none 0 0 [] w BSl.nil (by decide) (by decide) (by decide) (by decide) (by decide) (by decide) (by decide) (by decide) (by decide))
  have UN := Lib.hid (show ∀ w, Calls Try.prog 14 #[.slice none 0 0] w (GotUw w 0 0 0 0 0 0 [] 10) from fun w => by
    have := xunwrap_any none 0 0 [] w BSl.nil (by decide)
    unfold GotUnwrap at this
    rw [show uE [] = 10 from rfl] at this
    exact this)
  have VX := Lib.hid vex_head
  generalize wB 1 2 281474976710655 7 0 5010 [] = L at *
  have hq : ((str [8, 0, 0, 0, 0, 19, 146, 0]).toList == (⟨#[8, 0, 0, 0, 0, 19, 146, 0]⟩ : ByteArray).toList) = true := by rw [show (⟨#[8, 0, 0, 0, 0, 19, 146, 0]⟩ : ByteArray) = str [8, 0, 0, 0, 0, 19, 146, 0] from rfl]; exact beq_self_eq_true _
  go_enter Try.func7, Try.ntmps7
  go_wp2_with (first
    | (go_at_call 12; (with_reducible refine (WR.out _).mono ?_); rintro e w1 ⟨v1, rfl, hown1, hb1⟩; obtain ⟨g, cap, rfl, hg0, hg1, hcap, hmax⟩ := own_form hown1 (by decide); have S1 := Lib.hid (BSl.of_own hown1); have B1 := Lib.hid hb1; have cap1 : (50 : Int) ≤ (cap : Int) := (by omega); have cap2 : 50 ≤ cap := (by omega); have cap3 : ¬ cap = 42 := (by omega); clear hown1 hb1)
    | (go_at_call 14; (with_reducible refine (UN.out _).mono ?_); rintro e w2 ⟨A2, n2, c2, rfl, s2, hb2⟩; have S2 := (S1.out.below hb2).sub 42 8 (by decide); rw [VX.out] at S2; have T2 := run_string_bsl (w2.alloc (.cells #[.int .u64 0, .int .u64 0, .int .i64 0, .slice A2 n2 c2] 37)) _ _ _ _ (S2.alloc _); have B2 := Lib.hid ((trans_below B1.out hb2).alloc (trans_below B1.out hb2).size (.cells #[.int .u64 0, .int .u64 0, .int .i64 0, .slice A2 n2 c2] 37)); clear S2 s2 hb2))
  go_ret
  exact ⟨rfl, B2.out⟩

set_option maxRecDepth 20000 in
set_option maxHeartbeats 1000000 in
theorem heads_walk (v : Int) (A : Option Addr) (n c : Nat) (l : List UInt8) (w : World) (h : BSl w A n c l) :
    Calls Try.prog 3 #[.int .i64 v, .slice A n c] w fun e w' => e = .returned (.bool true) ∧ Below w.heap.size w w' := by
  by_cases hn : 4000 < n
  · clear h
    go_enter Try.func3, Try.ntmps3
    go_wp2_with (go_at_call 7; (with_reducible refine (works09_any _).mono ?_); rintro e w1 ⟨rfl, hb1⟩)
    go_ret
    exact ⟨rfl, hb1⟩
  · have H1 := fun w => (xhead_any v w).mono fun e w' g => GotHead.got g
    have H2 := fun w => (rhead_any v w).mono fun e w' g => GotHead.got g
    have V1 : ∀ w : World, BSl w A n c l → Calls Try.prog 10 #[.slice A n c] w (GotVni w l) := fun w h => xvni_any A n c l w h (by omega)
    have V2 : ∀ w : World, BSl w A n c l → Calls Try.prog 11 #[.slice A n c] w (GotVni w l) := fun w h => rvni_any A n c l w h (by omega)
    unfold GotVni at V1 V2
    generalize ol (vhE v) (vhd v) = k at H1 H2
    generalize vhE v = E at H1 H2
    generalize oi (vnE l) (three l) = x at V1 V2
    generalize ol (vnE l) (l.drop 8) = k2 at V1 V2
    generalize vnE l = F at V1 V2
    have H1 := Lib.hid H1
    have H2 := Lib.hid H2
    have V1 := Lib.hid V1
    have V2 := Lib.hid V2
    have HS := Lib.hid h
    have i1 : (n : Int) ≤ 4000 := by omega
    clear h
    go_enter Try.func3, Try.ntmps3
    go_wp2_with (first
      | (go_at_call 8; (with_reducible refine (H1.out _).mono ?_); rintro e w1 ⟨A1, n1, c1, rfl, s1, hb1⟩)
      | (go_at_call 9; (with_reducible refine (H2.out _).mono ?_); rintro e w2 ⟨A2, n2, c2, rfl, s2, hb2⟩; have B2 := Lib.hid (trans_below hb1 hb2))
      | (go_at_call 10; (with_reducible refine (V1.out _ (HS.out.below B2.out)).mono ?_); rintro e w3 ⟨A3, n3, c3, rfl, s3, hb3⟩; have B3 := Lib.hid (trans_below B2.out hb3))
      | (go_at_call 11; (with_reducible refine (V2.out _ (HS.out.below B3.out)).mono ?_); rintro e w4 ⟨A4, n4, c4, rfl, s4, hb4⟩; have t1 := run_string_bsl w4 _ _ _ _ (((s1.below hb2).below hb3).below hb4); have t2 := run_string_bsl w4 _ _ _ _ ((s2.below hb3).below hb4); have t3 := run_string_bsl w4 _ _ _ _ (s3.below hb4); have t4 := run_string_bsl w4 _ _ _ _ s4; have B4 := Lib.hid (trans_below B3.out hb4))
      | (go_at_call 7; (with_reducible refine (works09_any _).mono ?_); rintro e w5 ⟨rfl, hb5⟩))
    go_ret
    exact ⟨by simp, trans_below B4.out hb5⟩

set_option maxRecDepth 20000 in
set_option maxHeartbeats 1000000 in
theorem wraps_walk (a b : Int) (v : Int) (D S : Nat) (T : Int) (A : Option Addr) (n c : Nat) (l : List UInt8) (w : World) (h : BSl w A n c l) (ha : 0 ≤ a ∧ a < 4294967296) (hb : 0 ≤ b ∧ b < 4294967296) (hD : D < 18446744073709551616) (hS : S < 18446744073709551616) :
    Calls Try.prog 4 #[.int .u32 a, .int .u32 b, .int .i64 v, .agg #[.int .u64 D, .int .u64 S, .int .i64 T, .slice A n c]] w fun e w' => e = .returned (.bool true) ∧ Below w.heap.size w w' := by
  by_cases hn : 4000 < n
  · clear h
    go_enter Try.func4, Try.ntmps4
    go_wp2_with (go_at_call 7; (with_reducible refine (works09_any _).mono ?_); rintro e w1 ⟨rfl, hb1⟩)
    go_ret
    exact ⟨rfl, one_below hb1⟩
  · have H1 := fun (w : World) h => xwrap_any a b v D S T A n c l w h ha hb hD hS
    have H2 := fun (w : World) h => rwrap_any a b v D S T A n c l w h ha hb hD hS
    unfold GotWrap at H1 H2
    generalize ol (wE D S T v l.length) (wB a b D S T v l) = k at H1 H2
    generalize wE D S T v l.length = E at H1 H2
    have H1 := Lib.hid H1
    have H2 := Lib.hid H2
    have HS := Lib.hid h
    have i1 : (n : Int) ≤ 4000 := by omega
    clear h
    go_enter Try.func4, Try.ntmps4
    go_wp2_with (first
      | (go_at_call 12; (with_reducible refine (H1.out _ (HS.out.alloc _)).mono ?_); rintro e w1 ⟨A1, n1, c1, rfl, s1, hb1⟩; obtain ⟨q0, q1, q2, q3, _⟩ := fput_keep hb1; have z1 : w.heap.size < w1.heap.size := by { have := hb1.size; simp at this; omega })
      | (go_at_call 13; (with_reducible refine (H2.out _ ((HS.out.alloc _).below hb1)).mono ?_); rintro e w2 ⟨A2, n2, c2, rfl, s2, hb2⟩; have t1 := run_string_bsl w2 _ _ _ _ (s1.below hb2); have t2 := run_string_bsl w2 _ _ _ _ s2)
      | (go_at_call 7; (with_reducible refine (works09_any _).mono ?_); rintro e w4 ⟨rfl, hb4⟩))
    go_ret
    exact ⟨by simp, trans_below (one_below hb1) (trans_below hb2 hb4)⟩

set_option maxRecDepth 20000 in
set_option maxHeartbeats 1000000 in
theorem unwraps_walk (A : Option Addr) (n c : Nat) (k : List UInt8) (w : World) (h : BSl w A n c k) :
    Calls Try.prog 5 #[.slice A n c] w fun e w' => e = .returned (.bool true) ∧ Below w.heap.size w w' := by
  by_cases hn : 4000 < n
  · clear h
    go_enter Try.func5, Try.ntmps5
    go_wp2_with (go_at_call 7; (with_reducible refine (works09_any _).mono ?_); rintro e w1 ⟨rfl, hb1⟩)
    go_ret
    exact ⟨rfl, hb1⟩
  · have H1 := fun (w : World) h => xunwrap_any A n c k w h (by omega)
    have H2 := fun (w : World) h => runwrap_any A n c k w h (by omega)
    unfold GotUnwrap at H1 H2
    generalize oi (uE k) (four (k.drop 14) 12) = x at H1 H2
    generalize oi (uE k) (four (k.drop 14) 16) = y at H1 H2
    generalize oi (uE k) (three (udB (bodyF (k.drop 14)))) = v at H1 H2
    generalize oi (uE k) (mbAt ((udB (bodyF (k.drop 14))).drop 8) 0) = D at H1 H2
    generalize oi (uE k) (mbAt ((udB (bodyF (k.drop 14))).drop 8) 6) = S at H1 H2
    generalize oi (uE k) (two ((udB (bodyF (k.drop 14))).drop 8) 12) = T at H1 H2
    generalize ol (uE k) (((udB (bodyF (k.drop 14))).drop 8).drop 14) = l at H1 H2
    generalize uE k = E at H1 H2
    have H1 := Lib.hid H1
    have H2 := Lib.hid H2
    have HS := Lib.hid h
    have i1 : (n : Int) ≤ 4000 := by omega
    clear h
    go_enter Try.func5, Try.ntmps5
    go_wp2_with (first
      | (go_at_call 14; (with_reducible refine (H1.out _ HS.out).mono ?_); rintro e w1 ⟨A1, n1, c1, rfl, s1, hb1⟩)
      | (go_at_call 15; (with_reducible refine (H2.out _ ((HS.out.below hb1).alloc _)).mono ?_); rintro e w2 ⟨A2, n2, c2, rfl, s2, hb2⟩; obtain ⟨q0, q1, q2, q3, _⟩ := fput_keep hb2; have z2 : w1.heap.size < w2.heap.size := by { have := hb2.size; simp at this; omega })
      | (go_at_call 16; (with_reducible refine (refSame_self D S T l A1 n1 c1 A2 n2 c2 _ (((s1.alloc _).below hb2).alloc _) (s2.alloc _)).mono ?_); rintro e w3 ⟨rfl, hb3⟩)
      | (go_at_call 7; (with_reducible refine (works09_any _).mono ?_); rintro e w4 ⟨rfl, hb4⟩))
    go_ret
    exact ⟨by simp, trans_below hb1 (trans_below (one_below hb2) (trans_below (one_below hb3) hb4))⟩
end Go.Proofs.Ytgmeicenjgiihaa
