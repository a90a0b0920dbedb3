/- The walk of the statement UdpBack. -/
import Derived.Test.YtjdejdkjngilaaaUdWorks
import Derived.Test.YtjdejdkjngilaaaSeq
namespace Go.Proofs.Ytjdejdkjngilaaa
open Go.RowKit
open Go.Lib (byteCells)

/-- what was put is taken, whatever stands behind it -/
theorem utake_put (S D : Int) (l t : List UInt8) (h : uok S D) (hn : l.length ≤ 1472) (A : Option Addr) (n c : Nat) (w : World) (hb : BSl w A n c (uds S D l ++ t)) (hm : n ≤ 1000000) :
    Calls Try.prog 7 #[.slice A n c] w (GotU w S D l 0) := by
  obtain ⟨e0, e1, e2, e3⟩ := uds_take S D l t h hn
  have := utake_ok A n c _ w hb hm e3
  rw [e0, e1, e2] at this
  exact this
/-- two rows' texts, and what was there, as they were -/
def UBelS (W w' : World) : Prop := Below W.heap.size W w'
def UBackS (W : World) (V1 V2 : Value) (p q : ByteArray) (w' : World) : Prop :=
  (convert 22 9 V1).run Try.prog w' = .ok (.string p) w' ∧ (convert 22 9 V2).run Try.prog w' = .ok (.string q) w' ∧ Below W.heap.size W w'

set_option maxRecDepth 20000 in
theorem uback_long (S D : Nat) (A : Option Addr) (n c : Nat) (l : List UInt8) (Y : Option Addr) (a b : Nat) (t : List UInt8) (B : Option Addr) (m d : Nat) (k : List UInt8) (w : World) (_hl : BSl w A n c l) (_ht : BSl w Y a b t) (_hk : BSl w B m d k) (h : 1472 < n ∨ 4000 < a ∨ 4000 < m) :
    Calls Try.prog 5 #[.int .u16 S, .int .u16 D, .slice A n c, .slice Y a b, .slice B m d] w fun e w' => e = .returned (.bool true) ∧ Below w.heap.size w w' := by
  by_cases h1 : 1472 < n
  · clear h
    go_enter Try.func5, Try.ntmps5
    go_wp2_with (go_at_call 6; (with_reducible refine (works08_any _).mono ?_); rintro e w1 ⟨rfl, hb1⟩; have B1 := Lib.hid hb1; clear hb1)
    go_ret
    exact ⟨rfl, B1.out⟩
  · have i1 : (n : Int) ≤ 1472 := by omega
    by_cases h2 : 4000 < a
    · clear h h1
      go_enter Try.func5, Try.ntmps5
      go_wp2_with (go_at_call 6; (with_reducible refine (works08_any _).mono ?_); rintro e w1 ⟨rfl, hb1⟩; have B1 := Lib.hid hb1; clear hb1)
      go_ret
      exact ⟨rfl, B1.out⟩
    · have i2 : (a : Int) ≤ 4000 := by omega
      have h3 : 4000 < m := by omega
      clear h h1 h2
      go_enter Try.func5, Try.ntmps5
      go_wp2_with (go_at_call 6; (with_reducible refine (works08_any _).mono ?_); rintro e w1 ⟨rfl, hb1⟩; have B1 := Lib.hid hb1; clear hb1)
      go_ret
      exact ⟨rfl, B1.out⟩

set_option maxRecDepth 20000 in
set_option maxHeartbeats 4000000 in
theorem uback_none (S D : Nat) (A : Option Addr) (n c : Nat) (l : List UInt8) (Y : Option Addr) (a b : Nat) (t : List UInt8) (B : Option Addr) (m d : Nat) (k : List UInt8) (w : World) (hl : BSl w A n c l) (ht : BSl w Y a b t) (hk : BSl w B m d k) (hS : S < 65536) (hD : D < 65536) (hn : n ≤ 1472) (ha : a ≤ 4000) (hm : m ≤ 4000) (hr : ¬ udE k = 0) :
    Calls Try.prog 5 #[.int .u16 S, .int .u16 D, .slice A n c, .slice Y a b, .slice B m d] w fun e w' => e = .returned (.bool true) ∧ Below w.heap.size w w' := by
  have hp : uok (S : Int) (D : Int) := ⟨⟨by omega, by omega⟩, ⟨by omega, by omega⟩⟩
  have HS := Lib.hid hl
  have HT := Lib.hid ht
  have HB := Lib.hid hk
  have i1 : (n : Int) ≤ 1472 := by omega
  have i2 : (a : Int) ≤ 4000 := by omega
  have i3 : (m : Int) ≤ 4000 := by omega
  obtain ⟨i0, hi, hz0, hz1, hz2⟩ := info_parts Try.info5
  have Hi := Lib.hid hi; have Hz0 := Lib.hid hz0; have Hz1 := Lib.hid hz1; have Hz2 := Lib.hid hz2
  clear hi hz0 hz1 hz2
  have hlen := hl.len
  have PP := Lib.hid (fun w hl => uput_ok S D A n c l w hl hp hn)
  have TB := Lib.hid (fun A n c w h => utake_put S D l t hp (by omega) A n c w h)
  generalize uds S D l = P at *
  have TN := Lib.hid (fun w h => utake_no B m d k w h hr)
  generalize udE k = G at *
  have Y2 : ¬ G = 0 := hr
  clear hr hl ht hk
  have vS : IntKind.i64.wrap (S : Int) = S := IntWalk.i64_in _ (by omega)
  have vD : IntKind.i64.wrap (D : Int) = D := IntWalk.i64_in _ (by omega)
  go_enter Try.func5, Try.ntmps5
  go_wp2_with (first
    | (go_at_call 6; (with_reducible refine (works08_any _).mono ?_); rintro e w1 ⟨rfl, hb1⟩; have B1 := Lib.hid hb1; clear hb1)
    | (go_at_call 11; (with_reducible refine (PP.out _ (HS.out.below B1.out)).mono ?_); rintro e w2 ⟨v2, rfl, hown2, hb2⟩; have O2 := Lib.hid hown2; have H2 := Lib.hid hb2; have B2 := Lib.hid (trans_below B1.out hb2); clear hown2 hb2)
    | (at_builtin; refine wpList_bapp rfl (.tmp 45) (.tmp 46) 22 rfl w1.heap.size 5 i0 (.int .u8 0) 1 Try.underlying22 Hi.out Hz0.out Hz1.out Hz2.out rfl _ _ _ (by rfl) O2.out Y a b t (by rfl) (HT.out.below B2.out) (by unfold maxLen; omega) (by omega) H2.out.size ?_; intro v3 w3 hown3 hgrow3; rw [← bcells_app] at hown3; have B3 := Lib.hid (B1.out.trans ((below_app H2.out O2.out hgrow3).mono B1.out.size)); obtain ⟨A3, c3, rfl⟩ := own_shape hown3; have S3 := Lib.hid (BSl.of_own hown3); clear hown3 hgrow3)
    | (go_at_call 7; (with_reducible refine (TB.out _ _ _ _ S3.out (by omega)).mono ?_); rintro e w4 ⟨A4, n4, c4, rfl, s4, hb4⟩; have B4 := Lib.hid (trans_below B3.out hb4); have t4 := run_string_bsl w4 _ _ _ _ s4; have t5 := run_string_bsl w4 _ _ _ _ (HS.out.below B4.out); clear s4 hb4)
    | (go_at_call 7; (with_reducible refine (TN.out _ (HB.out.below B4.out)).mono ?_); rintro e w6 ⟨A6, n6, c6, rfl, s6, hb6⟩; obtain rfl : n6 = 0 := s6.len.symm; have B6 := Lib.hid (trans_below B4.out hb6); clear s6 hb6))
  go_ret
  exact ⟨by simp, B6.out⟩

set_option maxRecDepth 20000 in
set_option maxHeartbeats 4000000 in
theorem uback_big (S D : Nat) (A : Option Addr) (n c : Nat) (l : List UInt8) (Y : Option Addr) (a b : Nat) (t : List UInt8) (B : Option Addr) (m d : Nat) (k : List UInt8) (w : World) (hl : BSl w A n c l) (ht : BSl w Y a b t) (hk : BSl w B m d k) (hS : S < 65536) (hD : D < 65536) (hn : n ≤ 1472) (ha : a ≤ 4000) (hm : m ≤ 4000) (hr : udE k = 0) (hN : 1472 < (udB k).length) :
    Calls Try.prog 5 #[.int .u16 S, .int .u16 D, .slice A n c, .slice Y a b, .slice B m d] w fun e w' => e = .returned (.bool true) ∧ Below w.heap.size w w' := by
  have hp : uok (S : Int) (D : Int) := ⟨⟨by omega, by omega⟩, ⟨by omega, by omega⟩⟩
  have HS := Lib.hid hl
  have HT := Lib.hid ht
  have HB := Lib.hid hk
  have i1 : (n : Int) ≤ 1472 := by omega
  have i2 : (a : Int) ≤ 4000 := by omega
  have i3 : (m : Int) ≤ 4000 := by omega
  obtain ⟨i0, hi, hz0, hz1, hz2⟩ := info_parts Try.info5
  have Hi := Lib.hid hi; have Hz0 := Lib.hid hz0; have Hz1 := Lib.hid hz1; have Hz2 := Lib.hid hz2
  clear hi hz0 hz1 hz2
  have hlen := hl.len
  have PP := Lib.hid (fun w hl => uput_ok S D A n c l w hl hp hn)
  have TB := Lib.hid (fun A n c w h => utake_put S D l t hp (by omega) A n c w h)
  generalize uds S D l = P at *
  have hm3 := hk.len
  obtain ⟨N, hNe⟩ : ∃ N, (udB k).length = N := ⟨_, rfl⟩
  have TK := Lib.hid (fun w h => utake_ok B m d k w h (by omega) hr)
  obtain ⟨z8, z0, z1, _⟩ := udE_zero hr
  have zl := udB_len hr
  have hlk : 8 + N ≤ m := by omega
  have zx := two_bd k 0
  have zy := two_bd k 2
  have hq : uok (two k 0) (two k 2) := ⟨⟨by omega, by omega⟩, ⟨by omega, by omega⟩⟩
  have PQ := Lib.hid (fun A c w => uput_long (two k 0) (two k 2) A N c w hq (by omega))
  have P1 := Lib.hid (fun w => port_any S D (by omega) (by omega) w)
  have P2 := Lib.hid (fun w => port_any D S (by omega) (by omega) w)
  rw [upF_comm D S] at P2
  obtain ⟨f0, f1⟩ := upF_bd S D
  generalize upF S D = f at *
  have wS : IntKind.u64.wrap (S : Int) = S := by rw [IntKind.wrap_u64]; omega
  have wD : IntKind.u64.wrap (D : Int) = D := by rw [IntKind.wrap_u64]; omega
  generalize two k 0 = r0 at *
  generalize two k 2 = r1 at *
  generalize udB k = bk at *
  have HN := Lib.hid hNe
  rw [hNe] at hN
  clear hl ht hr hq z8 z0 z1 zl zx zy hNe hm3
  clear hk
  have vS : IntKind.i64.wrap (S : Int) = S := IntWalk.i64_in _ (by omega)
  have vD : IntKind.i64.wrap (D : Int) = D := IntWalk.i64_in _ (by omega)
  go_enter Try.func5, Try.ntmps5
  go_wp2_with (first
    | (go_at_call 6; (with_reducible refine (works08_any _).mono ?_); rintro e w1 ⟨rfl, hb1⟩; have B1 := Lib.hid hb1; clear hb1)
    | (go_at_call 11; (with_reducible refine (PP.out _ (HS.out.below B1.out)).mono ?_); rintro e w2 ⟨v2, rfl, hown2, hb2⟩; have O2 := Lib.hid hown2; have H2 := Lib.hid hb2; have B2 := Lib.hid (trans_below B1.out hb2); clear hown2 hb2)
    | (at_builtin; refine wpList_bapp rfl (.tmp 45) (.tmp 46) 22 rfl w1.heap.size 5 i0 (.int .u8 0) 1 Try.underlying22 Hi.out Hz0.out Hz1.out Hz2.out rfl _ _ _ (by rfl) O2.out Y a b t (by rfl) (HT.out.below B2.out) (by unfold maxLen; omega) (by omega) H2.out.size ?_; intro v3 w3 hown3 hgrow3; rw [← bcells_app] at hown3; have B3 := Lib.hid (B1.out.trans ((below_app H2.out O2.out hgrow3).mono B1.out.size)); obtain ⟨A3, c3, rfl⟩ := own_shape hown3; have S3 := Lib.hid (BSl.of_own hown3); clear hown3 hgrow3)
    | (go_at_call 7; (with_reducible refine (TB.out _ _ _ _ S3.out (by omega)).mono ?_); rintro e w4 ⟨A4, n4, c4, rfl, s4, hb4⟩; have B4 := Lib.hid (trans_below B3.out hb4); have t4 := run_string_bsl w4 _ _ _ _ s4; have t5 := run_string_bsl w4 _ _ _ _ (HS.out.below B4.out); clear s4 hb4)
    | (go_at_call 7; (with_reducible refine (TK.out _ (HB.out.below B4.out)).mono ?_); rintro e w6 ⟨A6, n6, c6, rfl, s6, hb6⟩; obtain rfl : N = n6 := by { have e1 := s6.len; have e2 := HN.out; omega }; have S6 := Lib.hid s6; have B6 := Lib.hid (trans_below B4.out hb6); clear s6 hb6)
    | (go_at_call 11; (with_reducible refine (PQ.out A6 c6 _).mono ?_); rintro e w7 ⟨rfl, hb7⟩; have B7 := Lib.hid (trans_below B6.out hb7))
    | (go_at_call 9; (with_reducible refine (P1.out _).mono ?_); rintro e w8 ⟨rfl, rfl⟩))
  have jn : (1472 : Int) < (N : Int) := by omega
  have hX0 := Lib.hid (show UBelS w7 w7.drew from below_drewN (Below.refl _ _) 1)
  refine wp_region_text (UBelS w7) (by kernel_rfl) (by kernel_rfl) hX0.out ?_
  repeat
    first
      | (refine Seq.pass rfl ?_; simp only [Act.put, List.setIfInBounds_toArray, List.set_cons_zero, List.set_cons_succ])
      | (refine Seq.run ?_ rfl (fun wx hx => ?_) ?_
         rotate_left
         · have hx2 := hx
           have q1 := hx2
           go_simp
           first
             | (refine StepRun.val ?_; exact hx)
             | (refine StepRun.call (v := .int .i64 f) ?_; (with_reducible refine Calls.mono (P2.out _) ?_); rintro e w' ⟨rfl, rfl⟩; exact ⟨rfl, hx⟩)
         simp only [Act.put, List.setIfInBounds_toArray, List.set_cons_zero, List.set_cons_succ])
  refine Seq.last (fun wx hx => ?_)
  go_wp2
  go_ret
  exact ⟨by simp, trans_below B7.out hx⟩

set_option maxRecDepth 20000 in
set_option maxHeartbeats 4000000 in
theorem uback_eq (S D : Nat) (A : Option Addr) (n c : Nat) (l : List UInt8) (Y : Option Addr) (a b : Nat) (t : List UInt8) (B : Option Addr) (m d : Nat) (k : List UInt8) (w : World) (hl : BSl w A n c l) (ht : BSl w Y a b t) (hk : BSl w B m d k) (hS : S < 65536) (hD : D < 65536) (hn : n ≤ 1472) (ha : a ≤ 4000) (hm : m ≤ 4000) (hr : udE k = 0) (hN : (udB k).length ≤ 1472) :
    Calls Try.prog 5 #[.int .u16 S, .int .u16 D, .slice A n c, .slice Y a b, .slice B m d] w fun e w' => e = .returned (.bool true) ∧ Below w.heap.size w w' := by
  have hp : uok (S : Int) (D : Int) := ⟨⟨by omega, by omega⟩, ⟨by omega, by omega⟩⟩
  have HS := Lib.hid hl
  have HT := Lib.hid ht
  have HB := Lib.hid hk
  have i1 : (n : Int) ≤ 1472 := by omega
  have i2 : (a : Int) ≤ 4000 := by omega
  have i3 : (m : Int) ≤ 4000 := by omega
  obtain ⟨i0, hi, hz0, hz1, hz2⟩ := info_parts Try.info5
  have Hi := Lib.hid hi; have Hz0 := Lib.hid hz0; have Hz1 := Lib.hid hz1; have Hz2 := Lib.hid hz2
  clear hi hz0 hz1 hz2
  have hlen := hl.len
  have PP := Lib.hid (fun w hl => uput_ok S D A n c l w hl hp hn)
  have TB := Lib.hid (fun A n c w h => utake_put S D l t hp (by omega) A n c w h)
  generalize uds S D l = P at *
  have hm3 := hk.len
  obtain ⟨N, hNe⟩ : ∃ N, (udB k).length = N := ⟨_, rfl⟩
  have TK := Lib.hid (fun w h => utake_ok B m d k w h (by omega) hr)
  obtain ⟨z8, z0, z1, _⟩ := udE_zero hr
  have zl := udB_len hr
  have hlk : 8 + N ≤ m := by omega
  have zx := two_bd k 0
  have zy := two_bd k 2
  have hq : uok (two k 0) (two k 2) := ⟨⟨by omega, by omega⟩, ⟨by omega, by omega⟩⟩
  have PQ := Lib.hid (fun A c w h => uput_ok (two k 0) (two k 2) A N c (udB k) w h hq (by omega))
  have EQ := Lib.hid (uds_back k hr)
  rw [hNe] at EQ
  generalize uds (two k 0) (two k 2) (udB k) = Q at *
  have P1 := Lib.hid (fun w => port_any S D (by omega) (by omega) w)
  have P2 := Lib.hid (fun w => port_any D S (by omega) (by omega) w)
  rw [upF_comm D S] at P2
  obtain ⟨f0, f1⟩ := upF_bd S D
  generalize upF S D = f at *
  have wS : IntKind.u64.wrap (S : Int) = S := by rw [IntKind.wrap_u64]; omega
  have wD : IntKind.u64.wrap (D : Int) = D := by rw [IntKind.wrap_u64]; omega
  generalize two k 0 = r0 at *
  generalize two k 2 = r1 at *
  generalize udB k = bk at *
  have HN := Lib.hid hNe
  rw [hNe] at hN
  clear hl ht hr hq z8 z0 z1 zl zx zy hNe hm3
  obtain ⟨hb, of, rfl, hbl, hcs⟩ := hk.at_ (by omega)
  clear hcs
  clear hk
  have vS : IntKind.i64.wrap (S : Int) = S := IntWalk.i64_in _ (by omega)
  have vD : IntKind.i64.wrap (D : Int) = D := IntWalk.i64_in _ (by omega)
  go_enter Try.func5, Try.ntmps5
  go_wp2_with (first
    | (go_at_call 6; (with_reducible refine (works08_any _).mono ?_); rintro e w1 ⟨rfl, hb1⟩; have B1 := Lib.hid hb1; clear hb1)
    | (go_at_call 11; (with_reducible refine (PP.out _ (HS.out.below B1.out)).mono ?_); rintro e w2 ⟨v2, rfl, hown2, hb2⟩; have O2 := Lib.hid hown2; have H2 := Lib.hid hb2; have B2 := Lib.hid (trans_below B1.out hb2); clear hown2 hb2)
    | (at_builtin; refine wpList_bapp rfl (.tmp 45) (.tmp 46) 22 rfl w1.heap.size 5 i0 (.int .u8 0) 1 Try.underlying22 Hi.out Hz0.out Hz1.out Hz2.out rfl _ _ _ (by rfl) O2.out Y a b t (by rfl) (HT.out.below B2.out) (by unfold maxLen; omega) (by omega) H2.out.size ?_; intro v3 w3 hown3 hgrow3; rw [← bcells_app] at hown3; have B3 := Lib.hid (B1.out.trans ((below_app H2.out O2.out hgrow3).mono B1.out.size)); obtain ⟨A3, c3, rfl⟩ := own_shape hown3; have S3 := Lib.hid (BSl.of_own hown3); clear hown3 hgrow3)
    | (go_at_call 7; (with_reducible refine (TB.out _ _ _ _ S3.out (by omega)).mono ?_); rintro e w4 ⟨A4, n4, c4, rfl, s4, hb4⟩; have B4 := Lib.hid (trans_below B3.out hb4); have t4 := run_string_bsl w4 _ _ _ _ s4; have t5 := run_string_bsl w4 _ _ _ _ (HS.out.below B4.out); clear s4 hb4)
    | (go_at_call 7; (with_reducible refine (TK.out _ (HB.out.below B4.out)).mono ?_); rintro e w6 ⟨A6, n6, c6, rfl, s6, hb6⟩; obtain rfl : N = n6 := by { have e1 := s6.len; have e2 := HN.out; omega }; have S6 := Lib.hid s6; have B6 := Lib.hid (trans_below B4.out hb6); clear s6 hb6)
    | (go_at_call 11; (with_reducible refine (PQ.out A6 c6 _ S6.out).mono ?_); rintro e w7 ⟨v7, rfl, hown7, hb7⟩; have B7 := Lib.hid (trans_below B6.out hb7); obtain ⟨g, gc, rfl, hg0, hg1, hgc, hgm⟩ := own_form hown7 (by omega); have O7 := Lib.hid hown7; clear hown7 hb7)
    | (go_at_call 9; (with_reducible refine (P1.out _).mono ?_); rintro e w8 ⟨rfl, rfl⟩))
  have HB7 := Lib.hid (HB.out.below B7.out)
  have HK := Lib.hid (show ∀ w', Below w7.heap.size w7 w' → UBackS w7 (.slice (some ⟨g, 0, none⟩) (8 + N) gc) (.slice (some ⟨hb, of, none⟩) (8 + N) d) (str Q) (str (k.take (8 + N))) w' from fun w' b =>
    ⟨run_string_bsl w' _ _ _ _ (BSl.of_own (own_below O7.out b)), run_string_bsl w' _ _ _ _ ((HB7.out.below b).head (8 + N) (by omega)), b⟩)
  have j2 : 8 + (N : Int) ≤ (m : Int) := by omega
  have j7 := HB7.out.le
  have j8 : 8 + (N : Int) ≤ (d : Int) := by omega
  have j9 : 8 + N ≤ d := by omega
  have j0 : (0 : Int) ≤ 8 + (N : Int) := by omega
  have jt : (8 + (N : Int)).toNat = 8 + N := by omega
  have jm : 8 + N ≤ m := by omega
  have jd : ¬ d = 0 := by omega
  have jn : ¬ (1472 : Int) < (N : Int) := by omega
  have hX0 := Lib.hid (HK.out w7.drew (below_drewN (Below.refl _ _) 1))
  refine wp_region_text (UBackS w7 (.slice (some ⟨g, 0, none⟩) (8 + N) gc) (.slice (some ⟨hb, of, none⟩) (8 + N) d) (str Q) (str (k.take (8 + N)))) (by kernel_rfl) (by kernel_rfl) hX0.out ?_
  repeat
    first
      | (refine Seq.pass rfl ?_; simp only [Act.put, List.setIfInBounds_toArray, List.set_cons_zero, List.set_cons_succ])
      | (refine Seq.run ?_ rfl (fun wx hx => ?_) ?_
         rotate_left
         · have hx2 := hx
           obtain ⟨q1, q2, hbx⟩ := hx2
           have eq2 : (Q == k.take (8 + N)) = true := by rw [EQ.out]; exact beq_self_eq_true _
           go_simp
           first
             | (refine StepRun.val ?_; exact hx)
             | (refine StepRun.call (v := .int .i64 f) ?_; (with_reducible refine Calls.mono (P2.out _) ?_); rintro e w' ⟨rfl, rfl⟩; exact ⟨rfl, hx⟩)
         simp only [Act.put, List.setIfInBounds_toArray, List.set_cons_zero, List.set_cons_succ])
  refine Seq.last (fun wx hx => ?_)
  go_wp2
  go_ret
  exact ⟨by simp, trans_below B7.out hx.2.2⟩

theorem uback_walk (S D : Nat) (A : Option Addr) (n c : Nat) (l : List UInt8) (Y : Option Addr) (a b : Nat) (t : List UInt8) (B : Option Addr) (m d : Nat) (k : List UInt8) (w : World) (hl : BSl w A n c l) (ht : BSl w Y a b t) (hk : BSl w B m d k) (hS : S < 65536) (hD : D < 65536) :
    Calls Try.prog 5 #[.int .u16 S, .int .u16 D, .slice A n c, .slice Y a b, .slice B m d] w fun e w' => e = .returned (.bool true) ∧ Below w.heap.size w w' := by
  by_cases h : 1472 < n ∨ 4000 < a ∨ 4000 < m
  · exact uback_long S D A n c l Y a b t B m d k w hl ht hk h
  · by_cases hr : udE k = 0
    · by_cases hN : 1472 < (udB k).length
      · exact uback_big S D A n c l Y a b t B m d k w hl ht hk hS hD (by omega) (by omega) (by omega) hr hN
      · exact uback_eq S D A n c l Y a b t B m d k w hl ht hk hS hD (by omega) (by omega) (by omega) hr (by omega)
    · exact uback_none S D A n c l Y a b t B m d k w hl ht hk hS hD (by omega) (by omega) (by omega) hr
end Go.Proofs.Ytjdejdkjngilaaa
