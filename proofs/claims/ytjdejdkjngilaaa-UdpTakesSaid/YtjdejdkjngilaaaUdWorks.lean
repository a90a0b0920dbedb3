/- The contract of palinglaw08.works, the chapter's example: it holds; the walks of UdpTakes and UdpPuts. -/
import Derived.Test.YtjdejdkjngilaaaUdRTake
import Derived.Test.YtjdejdkjngilaaaUdRPut
namespace Go.Proofs.Ytjdejdkjngilaaa
open Go.RowKit
open Go.Lib (byteCells)

theorem uex_all : uds 1 2 [97] = [0, 1, 0, 2, 0, 9, 0, 0, 97] := by decide +kernel
set_option maxHeartbeats 1000000 in
theorem works08_any (w : World) : Calls Try.prog 6 #[] w fun e w' => e = .returned (.bool true) ∧ Below w.heap.size w w' := by
  have L0 := Lib.hid (show BSl (w.alloc (.cells #[.int .u8 97] 5 (1, 2))) (some ⟨w.heap.size, 0, none⟩) 1 1 [97] from bsl_one w 97 (1, 2) ⟨by decide, by decide⟩)
  have hcv := Joins.run_convert_bytes_const_at (P := Try.prog) w 22 5 #[.int .u8 97] 1 1 w.heap.size rfl Try.underlying22 Try.underlying5
  have hq : ((str [0, 1, 0, 2, 0, 9, 0, 0, 97]).toList == (⟨#[0, 1, 0, 2, 0, 9, 0, 0, 97]⟩ : ByteArray).toList) = true := by rw [show (⟨#[0, 1, 0, 2, 0, 9, 0, 0, 97]⟩ : ByteArray) = str [0, 1, 0, 2, 0, 9, 0, 0, 97] from rfl]; exact beq_self_eq_true _
  have PA := Lib.hid (show ∀ w, Calls Try.prog 9 #[.int .u64 5, .int .u64 5] w fun e w' => e = .returned (.int .i64 49152) ∧ w = w' from fun w => by
    have := port_any 5 5 (by decide) (by decide) w
    rw [show upF 5 5 = 49152 by decide] at this
    exact this)
  have U := Lib.hid uex_all
  go_enter Try.func6, Try.ntmps6
  go_wp2_with (first
    | (go_at_call 11; (with_reducible refine (uput_ok 1 2 _ 1 1 [97] _ L0.out (by decide) (by decide)).mono ?_); rintro e w1 ⟨v1, rfl, hown1, hb1⟩; obtain ⟨g, cap, rfl, hg0, hg1, hcap, hmax⟩ := own_form hown1 (by decide); have O1 := Lib.hid hown1; have B1 := Lib.hid (one_below hb1); clear hown1 hb1)
    | (go_at_call 7; (with_reducible refine (utake_no _ 4 cap _ _ ((BSl.of_own O1.out).head 4 (by decide)) (by rw [U.out]; decide)).mono ?_); rintro e w2 ⟨A2, n2, c2, rfl, s2, hb2⟩; have S2 := Lib.hid ((BSl.of_own O1.out).below hb2); have T2 := run_string_bsl w2 _ _ _ _ S2.out; rw [U.out] at T2; have B2 := Lib.hid (trans_below B1.out hb2); rw [show udE ((uds 1 2 [97]).take 4) = 10 by rw [U.out]; decide])
    | (go_at_call 9; (with_reducible refine (PA.out _).mono ?_); rintro e w3 ⟨rfl, rfl⟩))
  go_ret
  exact ⟨rfl, B2.out⟩

theorem utakes_walk (A : Option Addr) (n c : Nat) (l : List UInt8) (x y : Nat) (hx : x < 18446744073709551616) (hy : y < 18446744073709551616) (w : World) (h : BSl w A n c l) :
    Calls Try.prog 3 #[.slice A n c, .int .u64 x, .int .u64 y] w fun e w' => e = .returned (.bool true) ∧ Below w.heap.size w w' := by
  by_cases hn : 4000 < n
  · clear h
    go_enter Try.func3, Try.ntmps3
    go_wp2_with (go_at_call 6; (with_reducible refine (works08_any _).mono ?_); rintro e w1 ⟨rfl, hb1⟩)
    go_ret
    exact ⟨rfl, hb1⟩
  · have H1 : ∀ w : World, BSl w A n c l → Calls Try.prog 7 #[.slice A n c] w (GotUTake w l) := fun w h => utake_any A n c l w h (by omega)
    have H2 : ∀ w : World, BSl w A n c l → Calls Try.prog 8 #[.slice A n c] w (GotUTake w l) := fun w h => rutake_any A n c l w h (by omega)
    unfold GotUTake at H1 H2
    generalize oi (udE l) (two l 0) = S at H1 H2
    generalize oi (udE l) (two l 2) = D at H1 H2
    generalize ol (udE l) (udB l) = k at H1 H2
    generalize udE l = E at H1 H2
    have H1 := Lib.hid H1
    have H2 := Lib.hid H2
    have HS := Lib.hid h
    have P1 := Lib.hid (fun w => port_any x y hx hy w)
    have P2 := Lib.hid (fun w => rport_any x y hx hy w)
    generalize upF x y = p at *
    have i1 : (n : Int) ≤ 4000 := by omega
    clear h
    go_enter Try.func3, Try.ntmps3
    go_wp2_with (first
      | (go_at_call 7; (with_reducible refine (H1.out _ HS.out).mono ?_); rintro e w1 ⟨A1, n1, c1, rfl, s1, hb1⟩)
      | (go_at_call 8; (with_reducible refine (H2.out _ (HS.out.below hb1)).mono ?_); rintro e w2 ⟨A2, n2, c2, rfl, s2, hb2⟩; have t1 := run_string_bsl w2 A1 n1 c1 k (s1.below hb2); have t2 := run_string_bsl w2 A2 n2 c2 k s2)
      | (go_at_call 9; (with_reducible refine (P1.out _).mono ?_); rintro e w3 ⟨rfl, rfl⟩)
      | (go_at_call 10; (with_reducible refine (P2.out _).mono ?_); rintro e w3 ⟨rfl, rfl⟩)
      | (go_at_call 6; (with_reducible refine (works08_any _).mono ?_); rintro e w4 ⟨rfl, hb4⟩))
    go_ret
    exact ⟨by simp, trans_below hb1 (trans_below hb2 hb4)⟩

theorem uputs_walk (S D : Int) (A : Option Addr) (n c : Nat) (l : List UInt8) (w : World) (h : BSl w A n c l) :
    Calls Try.prog 4 #[.int .i64 S, .int .i64 D, .slice A n c] w fun e w' => e = .returned (.bool true) ∧ Below w.heap.size w w' := by
  by_cases hn : 4000 < n
  · clear h
    go_enter Try.func4, Try.ntmps4
    go_wp2_with (go_at_call 6; (with_reducible refine (works08_any _).mono ?_); rintro e w1 ⟨rfl, hb1⟩)
    go_ret
    exact ⟨rfl, hb1⟩
  · have H1 : ∀ w : World, BSl w A n c l → Calls Try.prog 11 #[.int .i64 S, .int .i64 D, .slice A n c] w (GotUPut w S D l) := fun w h => uput_any S D A n c l w h
    have H2 : ∀ w : World, BSl w A n c l → Calls Try.prog 12 #[.int .i64 S, .int .i64 D, .slice A n c] w (GotUPut w S D l) := fun w h => ruput_any S D A n c l w h
    unfold GotUPut at H1 H2
    generalize ol (upE S D l.length) (uds S D l) = k at H1 H2
    generalize upE S D l.length = E at H1 H2
    have H1 := Lib.hid H1
    have H2 := Lib.hid H2
    have HS := Lib.hid h
    have i1 : (n : Int) ≤ 4000 := by omega
    clear h
    go_enter Try.func4, Try.ntmps4
    go_wp2_with (first
      | (go_at_call 11; (with_reducible refine (H1.out _ HS.out).mono ?_); rintro e w1 ⟨A1, n1, c1, rfl, s1, hb1⟩)
      | (go_at_call 12; (with_reducible refine (H2.out _ (HS.out.below hb1)).mono ?_); rintro e w2 ⟨A2, n2, c2, rfl, s2, hb2⟩; have t1 := run_string_bsl w2 A1 n1 c1 k (s1.below hb2); have t2 := run_string_bsl w2 A2 n2 c2 k s2)
      | (go_at_call 6; (with_reducible refine (works08_any _).mono ?_); rintro e w4 ⟨rfl, hb4⟩))
    go_ret
    exact ⟨by simp, trans_below hb1 (trans_below hb2 hb4)⟩
end Go.Proofs.Ytjdejdkjngilaaa
