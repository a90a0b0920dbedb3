/- One bit turned of the packet's header around a frame: nothing is unwrapped; the walk of VxlanOuter. -/
import Derived.Test.YtgmeicenjgiihaaVxWalks
import Derived.Test.YtgmeicenjgiihaaPkBack
import Derived.Test.YtgmeicenjgiihaaKeep
import Derived.Test.YtgmeicenjgiihaaMacHost
import Derived.Test.YtgmeicenjgiihaaBsl
namespace Go.Proofs.Ytgmeicenjgiihaa
open Go.RowKit
open Go.Lib (byteCells)

theorem fbs_set (D S T : Int) (l : List UInt8) (k : Nat) (x : UInt8) : (fbs D S T l).set (14 + k) x = fbs D S T (l.set k x) := by
  unfold fbs
  rw [List.set_append_right _ _ (by simp [mb_len])]
  congr 2
  simp [mb_len]
theorem bat_fbs14 (D S T : Int) (l : List UInt8) (k : Nat) : bat (fbs D S T l) (14 + k) = bat l k := by
  unfold fbs
  rw [bat_app_right _ _ _ (by simp [mb_len])]
  congr 1
  simp [mb_len]
/-- a frame around bytes that are no packet -/
theorem uE_packet {D S : Int} {p : List UInt8} (h : p.length ≤ 1504) (hr : ¬ rE p = 0) : ¬ uE (fbs D S 2048 p) = 0 := by
  have ht : tE (fbs D S 2048 p) = 0 := tE_mid (by rw [fbs_len]; omega) (by rw [fbs_len]; omega)
  unfold uE
  rw [if_pos ht, two_fbs D S 2048 p (by decide) (by decide), if_pos rfl, drop_fbs]
  unfold uE1
  rw [if_neg hr]
  exact hr
theorem turned_no (a b D S T v : Int) (l : List UInt8) (ha : 0 ≤ a ∧ a < 4294967296) (hb : 0 ≤ b ∧ b < 4294967296) (hn : l.length ≤ 1400) (K : Nat) (hK : K < 20) (x : UInt8) (j : Nat) (hj : j < 8)
    (hx : (x.toNat : Int) = bat (wB a b D S T v l) (14 + K) + 2 ^ j ∨ (x.toNat : Int) = bat (wB a b D S T v l) (14 + K) - 2 ^ j) : ¬ uE ((wB a b D S T v l).set (14 + K) x) = 0 := by
  unfold wB at hx ⊢
  rw [bat_fbs14] at hx
  rw [fbs_set]
  have hp : pok 0 0 64 17 := by decide
  have hl : (wD D S T v l).length ≤ 1480 := by rw [wD_len]; omega
  refine uE_packet (by rw [List.length_set, wP_len]; omega) ?_
  unfold wP at hx ⊢
  rcases bits_no 0 0 64 17 a b (wD D S T v l) hp ha hb hl K hK x j hj hx with e | e | e <;> rw [e] <;> decide
theorem isHost_vip (a : Int) (ha : 0 ≤ a ∧ a < 4294967296) (w : World) : Calls Try.prog 18 #[.int .u64 (vip a)] w fun e w' => e = .returned (.tuple #[.int .u32 a, .bool true]) ∧ w = w' := by
  have h : isHostB (vip a) = true := by unfold isHostB vip; simp; omega
  have := isHost_any (vip a) w (by unfold vip; omega) (by unfold vip; omega)
  rw [h, if_pos rfl, show vip a % 4294967296 = a by unfold vip; omega] at this
  exact this

set_option maxRecDepth 20000 in
set_option maxHeartbeats 4000000 in
theorem outer_long (a b : Int) (v : Int) (D S : Nat) (T : Int) (A : Option Addr) (n c : Nat) (k j : Int) (w : World) (hn : 1400 < n) :
    Calls Try.prog 6 #[.int .u32 a, .int .u32 b, .int .i64 v, .agg #[.int .u64 D, .int .u64 S, .int .i64 T, .slice A n c], .int .u8 k, .int .u8 j] w fun e w' => e = .returned (.bool true) ∧ Below w.heap.size w w' := by
  have Y0 := Lib.hid (Box4.new w (.int .u64 D) (.int .u64 S) (.int .i64 T) (.slice A n c) 37 w.heap.size rfl)
  go_enter Try.func6, Try.ntmps6
  go_wp2_with (go_at_call 7; (with_reducible refine (works09_any _).mono ?_); rintro e w1 ⟨rfl, hb1⟩; have B1 := Lib.hid hb1; obtain ⟨q0, q1, q2, q3, _⟩ := Y0.out.below hb1; have ql := (Y0.out.below hb1).lt; clear hb1)
  go_ret
  exact ⟨rfl, one_below B1.out⟩
set_option maxRecDepth 20000 in
set_option maxHeartbeats 4000000 in
theorem outer_bad (a b : Int) (v : Int) (D S : Nat) (T : Int) (A : Option Addr) (n c : Nat) (l : List UInt8) (k j : Int) (w : World) (h : BSl w A n c l) (hD : D < 18446744073709551616) (hS : S < 18446744073709551616) (hE : ¬ wE D S T v l.length = 0) :
    Calls Try.prog 6 #[.int .u32 a, .int .u32 b, .int .i64 v, .agg #[.int .u64 D, .int .u64 S, .int .i64 T, .slice A n c], .int .u8 k, .int .u8 j] w fun e w' => e = .returned (.bool true) ∧ Below w.heap.size w w' := by
  have Y0 := Lib.hid (Box4.new w (.int .u64 D) (.int .u64 S) (.int .i64 T) (.slice A n c) 37 w.heap.size rfl)
  by_cases hn : 1400 < n
  · exact outer_long a b v D S T A n c k j w hn
  · have HS := Lib.hid h
    have WR := Lib.hid (fun w h => xwrap_no a b v D S T A n c l w h hD hS hE)
    have i1 : (n : Int) ≤ 1400 := by omega
    generalize wE D S T v l.length = E at *
    clear h
    go_enter Try.func6, Try.ntmps6
    go_wp2_with (first
      | (go_at_call 7; (with_reducible refine (works09_any _).mono ?_); rintro e w1 ⟨rfl, hb1⟩; have B1 := Lib.hid hb1; obtain ⟨q0, q1, q2, q3, _⟩ := Y0.out.below hb1; have ql := (Y0.out.below hb1).lt; clear hb1)
      | (go_at_call 12; (with_reducible refine (WR.out _ ((HS.out.alloc _).below B1.out)).mono ?_); rintro e w2 ⟨rfl, hb2⟩))
    go_ret
    exact ⟨by simp <;> omega, one_below (trans_below B1.out hb2)⟩

set_option maxRecDepth 20000 in
set_option maxHeartbeats 4000000 in
theorem outer_in (a b : Int) (v : Int) (D S : Nat) (T : Int) (A : Option Addr) (n c : Nat) (l : List UInt8) (k j : Int) (w : World) (h : BSl w A n c l) (ha : 0 ≤ a ∧ a < 4294967296) (hb : 0 ≤ b ∧ b < 4294967296) (hD : D < 18446744073709551616) (hS : S < 18446744073709551616)
    (hE : wE D S T v l.length = 0) (hn : n ≤ 1400) (k0 : 0 ≤ k) (k1 : k < 256) (j0 : 0 ≤ j) (j1 : j < 256) :
    Calls Try.prog 6 #[.int .u32 a, .int .u32 b, .int .i64 v, .agg #[.int .u64 D, .int .u64 S, .int .i64 T, .slice A n c], .int .u8 k, .int .u8 j] w fun e w' => e = .returned (.bool true) ∧ Below w.heap.size w w' := by
  have hl := h.len
  have Y0 := Lib.hid (Box4.new w (.int .u64 D) (.int .u64 S) (.int .i64 T) (.slice A n c) 37 w.heap.size rfl)
  obtain ⟨hT, hf, v0, v1, _⟩ := wE_zero hE
  have HS := Lib.hid h
  have WR := Lib.hid (fun w h => xwrap_ok a b v D S T A n c l w h ha hb hD hS hT hf v0 v1 (by omega))
  have i1 : (n : Int) ≤ 1400 := by omega
  obtain ⟨K, hK, hK2⟩ : ∃ K : Nat, k % 20 = (K : Int) ∧ K < 20 := ⟨(k % 20).toNat, by omega, by omega⟩
  have i3 : 14 + (K : Int) < 64 + (n : Int) := by omega
  have i4 : (0 : Int) ≤ 14 + (K : Int) := by omega
  have i5 : (14 + (K : Int)).toNat = 14 + K := by omega
  have j8 : (j % 8).toNat < 8 := by omega
  obtain ⟨x, hx⟩ : ∃ x, bat (wB a b D S T v l) (14 + K) = x := ⟨_, rfl⟩
  have x0 : 0 ≤ x := hx ▸ bat_lo _ _
  have x1 : x < 256 := hx ▸ bat_hi _ _
  obtain ⟨y, hy, y0, y1, hy2⟩ := xor_bit x (j % 8).toNat x0 x1 j8
  have hU := turned_no a b D S T v l ha hb (by omega) K hK2 (Go.Proofs.Ytgmeicenjgiihaa.u8 y) (j % 8).toNat j8 (by rw [u8_val y y0 y1, hx]; exact hy2)
  have HX := Lib.hid hx
  have TK := Lib.hid (fun A n c w (h : BSl w A n c (wB a b D S T v l)) => ftake_mid A n c (wB a b D S T v l) w h (by have := h.len; rw [wB_len] at this; omega) (by have := h.len; rw [wB_len] at this; omega))
  have e1 : mbAt (wB a b D S T v l) 0 = vip b := by unfold wB; exact mbAt_fbs0 _ _ _ _ (by unfold vip; omega) (by unfold vip; omega)
  have e2 : mbAt (wB a b D S T v l) 6 = vip a := by unfold wB; exact mbAt_fbs6 _ _ _ _ (by unfold vip; omega) (by unfold vip; omega)
  have e3 : two (wB a b D S T v l) 12 = 2048 := by unfold wB; exact two_fbs _ _ _ _ (by decide) (by decide)
  rw [e1, e2, e3] at TK
  generalize wB a b D S T v l = P at *
  have UN := fun A n c w (h : BSl w A n c (P.set (14 + K) (Go.Proofs.Ytgmeicenjgiihaa.u8 y))) (hm : n ≤ 4000) => (xunwrap_any A n c _ w h hm)
  unfold GotUnwrap at UN
  rw [oi_no hU, oi_no hU, oi_no hU, oi_no hU, oi_no hU, oi_no hU, ol_no hU] at UN
  have UN := Lib.hid UN
  have IA := Lib.hid (fun w => isHost_vip a ha w)
  have IB := Lib.hid (fun w => isHost_vip b hb w)
  generalize vip a = xa at *
  generalize vip b = xb at *
  generalize P.drop 14 = P14 at *
  generalize uE (P.set (14 + K) (Go.Proofs.Ytgmeicenjgiihaa.u8 y)) = E at *
  clear h hx hy2 j8 hT hf v0 v1 hE hl e1 e2 e3
  go_enter Try.func6, Try.ntmps6
  go_wp2_with (first
    | (go_at_call 7; (with_reducible refine (works09_any _).mono ?_); rintro e w1 ⟨rfl, hb1⟩; have B1 := Lib.hid hb1; obtain ⟨q0, q1, q2, q3, _⟩ := Y0.out.below hb1; have ql := (Y0.out.below hb1).lt; clear hb1)
    | (go_at_call 12; (with_reducible refine (WR.out _ ((HS.out.alloc _).below B1.out)).mono ?_); rintro e w2 ⟨v2, rfl, hown2, hb2⟩; obtain ⟨g, cap, rfl, hg0, hg1, hcap, hmax⟩ := own_form hown2 (by omega); have O2 := Lib.hid hown2; have B2 := Lib.hid (trans_below B1.out hb2); clear hown2 hb2)
    | (go_at_call 17; (with_reducible refine (TK.out _ _ _ _ (BSl.of_own O2.out)).mono ?_); rintro e w3 ⟨A3, c3, rfl, hown3, hb3⟩; have O3 := Lib.hid ((own_below O2.out hb3).alloc (.cells #[.int .u64 xb, .int .u64 xa, .int .i64 2048, .slice A3 (64 + n - 14) c3] 37)); have cc := own_cellB O3.out (14 + K) (by omega); rw [HX.out] at cc; have cf := own_free O3.out (14 + K); have B3 := Lib.hid (trans_below B2.out hb3); have gl : g < w3.heap.size := Nat.lt_of_lt_of_le hg1 hb3.size; have Z3 := Lib.hid (Box4.new (w3.setCell ⟨g, 14 + K, none⟩ (.int .u8 y)) (.int .u64 xb) (.int .u64 xa) (.int .i64 2048) (.slice A3 (64 + n - 14) c3) 37 w3.heap.size (by simp)); have W3 := Lib.hid (BSl.of_own ((own_setB (own_below O2.out hb3) (14 + K) y y0 y1).alloc (.cells #[.int .u64 xb, .int .u64 xa, .int .i64 2048, .slice A3 (64 + n - 14) c3] 37))); have B4 := Lib.hid (B3.out.setCell (p := ⟨g, 14 + K, none⟩) (Nat.le_trans B1.out.size hg0) (.int .u8 y)); clear hown3 hb3)
    | (go_at_call 18; (with_reducible refine (IB.out _).mono ?_); rintro e w4 ⟨rfl, rfl⟩)
    | (go_at_call 18; (with_reducible refine (IA.out _).mono ?_); rintro e w4 ⟨rfl, rfl⟩)
    | (go_at_call 14; (with_reducible refine (UN.out _ _ _ _ W3.out (by omega)).mono ?_); rintro e w5 ⟨A5, n5, c5, rfl, s5, hb5⟩; obtain ⟨r0, r1, r2, r3, _⟩ := Z3.out.below hb5; have rl := (Z3.out.below hb5).lt; have B5 := Lib.hid (trans_below B4.out (one_below hb5)); clear s5 hb5))
  go_ret
  exact ⟨by simp <;> omega, one_below (B5.out.alloc B5.out.size _)⟩
theorem outer_walk (a b : Int) (v : Int) (D S : Nat) (T : Int) (A : Option Addr) (n c : Nat) (l : List UInt8) (k j : Int) (w : World) (h : BSl w A n c l) (ha : 0 ≤ a ∧ a < 4294967296) (hb : 0 ≤ b ∧ b < 4294967296) (hD : D < 18446744073709551616) (hS : S < 18446744073709551616)
    (k0 : 0 ≤ k) (k1 : k < 256) (j0 : 0 ≤ j) (j1 : j < 256) :
    Calls Try.prog 6 #[.int .u32 a, .int .u32 b, .int .i64 v, .agg #[.int .u64 D, .int .u64 S, .int .i64 T, .slice A n c], .int .u8 k, .int .u8 j] w fun e w' => e = .returned (.bool true) ∧ Below w.heap.size w w' := by
  have hl := h.len
  by_cases hE : wE D S T v l.length = 0
  · by_cases hn : n ≤ 1400
    · exact outer_in a b v D S T A n c l k j w h ha hb hD hS hE hn k0 k1 j0 j1
    · exact outer_long a b v D S T A n c k j w (by omega)
  · exact outer_bad a b v D S T A n c l k j w h hD hS hE
end Go.Proofs.Ytgmeicenjgiihaa
