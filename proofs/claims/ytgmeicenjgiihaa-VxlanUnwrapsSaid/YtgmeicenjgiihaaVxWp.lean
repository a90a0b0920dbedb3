/- The contract of vxlan.Wrap. -/
import Derived.Test.YtgmeicenjgiihaaVxRWrap
import Derived.Test.YtgmeicenjgiihaaVxHd
import Derived.Test.YtgmeicenjgiihaaTagIs
import Derived.Test.YtgmeicenjgiihaaUdPut
import Derived.Test.YtgmeicenjgiihaaPkPutF
namespace Go.Proofs.Ytgmeicenjgiihaa
open Go.RowKit
open Go.Lib (byteCells)

set_option maxRecDepth 20000 in
set_option maxHeartbeats 2000000 in
theorem xwrap_no (a b : Int) (v : Int) (D S : Nat) (T : Int) (A : Option Addr) (n c : Nat) (l : List UInt8) (w : World) (h : BSl w A n c l) (_hD : D < 18446744073709551616) (_hS : S < 18446744073709551616) (hE : ¬ wE D S T v l.length = 0) :
    Calls Try.prog 12 #[.int .u32 a, .int .u32 b, .int .i64 v, .agg #[.int .u64 D, .int .u64 S, .int .i64 T, .slice A n c]] w fun e w' => e = .returned (.tuple #[.slice none 0 0, .int .i64 (wE D S T v l.length)]) ∧ Below w.heap.size w w' := by
  have hl := h.len
  by_cases hT : T = 33024
  · have E := Lib.hid (wE_tag (D := D) (S := S) (v := v) (n := l.length) hT)
    generalize wE D S T v l.length = u at *
    subst hT
    clear h hE
    have TI := Lib.hid (fun w => is_as (D : Int) S 33024 A n c w true rfl)
    go_enter Try.func12, Try.ntmps12
    go_wp2_with (go_at_call 21; (with_reducible refine (TI.out _).mono ?_); rintro e w1 ⟨rfl, hb1⟩)
    go_ret2
    exact ⟨by rw [E.out]; rfl, one_below hb1⟩
  · have TI := Lib.hid (fun w => is_as (D : Int) S T A n c w false (by simpa using hT))
    by_cases hP : pE D S T l.length = 0
    · have hpc := pE_cases D S T l.length
      have hf : fok D S T ∧ l.length ≤ 1504 := by
        rcases hpc with ⟨_, g⟩ | ⟨g, _⟩ | ⟨g, _⟩
        · exact g
        · rw [g] at hP; cases hP
        · rw [g] at hP; cases hP
      have PP := Lib.hid (fun w h => fput_ok D S T A n c l w h hf.1 (by omega))
      have H := Lib.hid h
      by_cases hv : vhE v = 0
      · have hlong : 1450 < l.length := by
          by_cases g : 1450 < l.length
          · exact g
          · exact absurd (wE_ok hT hP hv g) hE
        have E := Lib.hid (wE_long hT hP hv hlong)
        obtain ⟨v0, v1⟩ := vhE_zero hv
        have HH := Lib.hid (fun w => xhead_ok v w v0 v1)
        have hn : (1464 : Int) < 14 + (n : Int) := by omega
        generalize wE D S T v l.length = u at *
        generalize fbs D S T l = F at *
        clear hE hP hpc hf h hv v0 v1 hlong hl
        go_enter Try.func12, Try.ntmps12
        go_wp2_with (first
          | (go_at_call 21; (with_reducible refine (TI.out _).mono ?_); rintro e w1 ⟨rfl, hb1⟩; obtain ⟨k0, k1, k2, k3, _⟩ := fput_keep hb1; have BB1 := Lib.hid hb1; have wl : w.heap.size < w1.heap.size := Nat.lt_of_lt_of_le (by simp) hb1.size; have H1 := Lib.hid (H.out.below (one_below hb1)); clear hb1)
          | (go_at_call 22; (with_reducible refine (PP.out _ H1.out).mono ?_); rintro e w2 ⟨v2, rfl, hown2, hb2⟩; have B2 := Lib.hid (trans_below BB1.out hb2); obtain ⟨A2, c2, rfl⟩ := own_shape hown2)
          | (go_at_call 8; (with_reducible refine (HH.out _).mono ?_); rintro e w3 ⟨v3, rfl, hown3, hb3⟩))
        go_ret2
        exact ⟨by rw [E.out]; rfl, trans_below (one_below B2.out) hb3⟩
      · have E := Lib.hid (wE_vni hT hP hv)
        have HH := Lib.hid (fun w => xhead_no v w (fun g => hv (vhE_ok g.1 g.2)))
        generalize wE D S T v l.length = u at *
        generalize fbs D S T l = F at *
        clear hE hP hpc hf h hv hl
        go_enter Try.func12, Try.ntmps12
        go_wp2_with (first
          | (go_at_call 21; (with_reducible refine (TI.out _).mono ?_); rintro e w1 ⟨rfl, hb1⟩; obtain ⟨k0, k1, k2, k3, _⟩ := fput_keep hb1; have BB1 := Lib.hid hb1; have wl : w.heap.size < w1.heap.size := Nat.lt_of_lt_of_le (by simp) hb1.size; have H1 := Lib.hid (H.out.below (one_below hb1)); clear hb1)
          | (go_at_call 22; (with_reducible refine (PP.out _ H1.out).mono ?_); rintro e w2 ⟨v2, rfl, hown2, hb2⟩; have B2 := Lib.hid (trans_below BB1.out hb2); obtain ⟨A2, c2, rfl⟩ := own_shape hown2)
          | (go_at_call 8; (with_reducible refine (HH.out _).mono ?_); rintro e w3 ⟨rfl, rfl⟩))
        go_ret2
        exact ⟨by rw [E.out]; rfl, one_below B2.out⟩
    · have E := Lib.hid (wE_put (v := v) hT hP)
      have PP := Lib.hid (fun w h => fput_any D S T A n c l w h)
      have H := Lib.hid h
      generalize wE D S T v l.length = u at *
      generalize pL D S T l = F at *
      generalize pE D S T l.length = G at *
      have EG := E.out
      subst EG
      clear hE h
      go_enter Try.func12, Try.ntmps12
      go_wp2_with (first
        | (go_at_call 21; (with_reducible refine (TI.out _).mono ?_); rintro e w1 ⟨rfl, hb1⟩; obtain ⟨k0, k1, k2, k3, _⟩ := fput_keep hb1; have BB1 := Lib.hid hb1; have wl : w.heap.size < w1.heap.size := Nat.lt_of_lt_of_le (by simp) hb1.size; have H1 := Lib.hid (H.out.below (one_below hb1)); clear hb1)
        | (go_at_call 22; (with_reducible refine (PP.out _ H1.out).mono ?_); rintro e w2 ⟨A2, n2, c2, rfl, s2, hb2⟩; have B2 := Lib.hid (trans_below BB1.out hb2)))
      go_ret2
      exact ⟨rfl, one_below B2.out⟩

set_option maxRecDepth 20000 in
set_option maxHeartbeats 4000000 in
theorem xwrap_ok (a b : Int) (v : Int) (D S : Nat) (T : Int) (A : Option Addr) (n c : Nat) (l : List UInt8) (w : World) (h : BSl w A n c l) (ha : 0 ≤ a ∧ a < 4294967296) (hb : 0 ≤ b ∧ b < 4294967296) (hD : D < 18446744073709551616) (hS : S < 18446744073709551616)
    (hT : ¬ T = 33024) (hf : fok D S T) (hv0 : 1 ≤ v) (hv1 : v ≤ 16777215) (hn : n ≤ 1450) :
    Calls Try.prog 12 #[.int .u32 a, .int .u32 b, .int .i64 v, .agg #[.int .u64 D, .int .u64 S, .int .i64 T, .slice A n c]] w fun e w' => ∃ x, e = .returned (.tuple #[x, .int .i64 0]) ∧ w'.ownsRow w.heap.size 5 1 x (64 + n) (byteCells (wB a b D S T v l)) ∧ Below w.heap.size w w' := by
  have hl := h.len
  have TI := Lib.hid (fun w => is_as (D : Int) S T A n c w false (by simpa using hT))
  obtain ⟨i0, hi, hz0, hz1, hz2⟩ := info_parts Try.info5
  have Hi := Lib.hid hi; have Hz0 := Lib.hid hz0; have Hz1 := Lib.hid hz1; have Hz2 := Lib.hid hz2
  clear hi hz0 hz1 hz2
  have PP := Lib.hid (fun w h => fput_ok D S T A n c l w h hf (by omega))
  have HH := Lib.hid (fun w => xhead_ok v w hv0 hv1)
  have RP := Lib.hid (fun w => port_any D S hD hS w)
  obtain ⟨f0, f1⟩ := upF_bd D S
  have UP := Lib.hid (fun A c w h => uput_ok (upF D S) 4789 A (8 + (14 + n)) c (vhd v ++ fbs D S T l) w h ⟨⟨by omega, by omega⟩, ⟨by decide, by decide⟩⟩ (by omega))
  have HD := Lib.hid (show wD D S T v l = uds (upF D S) 4789 (vhd v ++ fbs D S T l) by unfold wD; rw [Int.toNat_natCast, Int.toNat_natCast])
  have IP := Lib.hid (fun A c w h => pput_ok 0 0 64 17 a b A (8 + (8 + (14 + n))) c (wD D S T v l) w h (by decide) ha hb (by omega))
  have HP := Lib.hid (show wP a b D S T v l = pbs 0 0 64 17 a b (wD D S T v l) from rfl)
  have FP := Lib.hid (fun A c w h => fput_ok (vip b) (vip a) 2048 A (20 + (8 + (8 + (14 + n)))) c (wP a b D S T v l) w h (by unfold fok vip; omega) (by omega))
  have HB := Lib.hid (show wB a b D S T v l = fbs (vip b) (vip a) 2048 (wP a b D S T v l) from rfl)
  have HA := Lib.hid (fun w => host_any a w ha.1 ha.2)
  have HBb := Lib.hid (fun w => host_any b w hb.1 hb.2)
  have VA := Lib.hid (show 2199023255552 + a = vip a from rfl)
  have VB := Lib.hid (show 2199023255552 + b = vip b from rfl)
  rw [VA.out] at HA
  rw [VB.out] at HBb
  have H := Lib.hid h
  have HK := Lib.hid (fun w' h => fput_keep (w := w) (w' := w') (D := D) (S := S) (T := T) (A := A) (n := n) (c := c) h)
  generalize wB a b D S T v l = LB at *
  generalize wP a b D S T v l = LP at *
  generalize wD D S T v l = LD at *
  generalize fbs D S T l = F at *
  generalize vhd v = V at *
  generalize upF D S = U at *
  generalize vip a = xa at *
  generalize vip b = xb at *
  have hn2 : ¬ (1464 : Int) < 14 + (n : Int) := by omega
  clear h hf hv0 hv1 hl VA VB
  go_enter Try.func12, Try.ntmps12
  go_wp2_with (first
    | (go_at_call 21; (with_reducible refine (TI.out _).mono ?_); rintro e w1 ⟨rfl, hb1⟩; obtain ⟨k0, k1, k2, k3, _⟩ := fput_keep hb1; have BB1 := Lib.hid hb1; have wl : w.heap.size < w1.heap.size := Nat.lt_of_lt_of_le (by simp) hb1.size; have H1 := Lib.hid (H.out.below (one_below hb1)); clear hb1)
    | (go_at_call 22; (with_reducible refine (PP.out _ H1.out).mono ?_); rintro e w2 ⟨v2, rfl, hown2, hb2⟩; obtain ⟨A2, c2, rfl⟩ := own_shape hown2; have B2 := Lib.hid (trans_below BB1.out hb2); have S2 := Lib.hid (BSl.of_own hown2); clear hown2 hb2)
    | (go_at_call 8; (with_reducible refine (HH.out _).mono ?_); rintro e w3 ⟨v3, rfl, hown3, hb3⟩; have B3 := Lib.hid (trans_below B2.out hb3); have H3 := Lib.hid hb3; have O3 := Lib.hid hown3; have S3 := Lib.hid (S2.out.below hb3); clear k0 k1 k2 k3; obtain ⟨k0, k1, k2, k3, _⟩ := HK.out _ B3.out; clear hown3 hb3)
    | (go_at_call 24; (with_reducible refine (RP.out _).mono ?_); rintro e w4 ⟨rfl, rfl⟩)
    | (at_builtin; refine wpList_bapp rfl (.tmp 44) (.tmp 45) 22 rfl w2.heap.size 5 i0 (.int .u8 0) 1 Try.underlying22 Hi.out Hz0.out Hz1.out Hz2.out rfl _ _ _ (by rfl) O3.out A2 (14 + n) c2 F (by rfl) S3.out (by unfold maxLen; omega) (by omega) H3.out.size ?_; intro v5 w5 hown5 hgrow5; rw [← bcells_app] at hown5; have B5 := Lib.hid (trans_below B2.out (below_app H3.out O3.out hgrow5)); obtain ⟨A5, c5, rfl⟩ := own_shape hown5; have S5 := Lib.hid (BSl.of_own hown5); clear hown5 hgrow5)
    | (go_at_call 23; (with_reducible refine (UP.out _ _ _ S5.out).mono ?_); rintro e w6 ⟨v6, rfl, hown6, hb6⟩; rw [← HD.out] at hown6; obtain ⟨A6, c6, rfl⟩ := own_shape hown6; have B6 := Lib.hid (trans_below B5.out hb6); have S6 := Lib.hid (BSl.of_own hown6); clear hown6 hb6)
    | (go_at_call 25; (with_reducible refine (IP.out _ _ _ S6.out).mono ?_); rintro e w7 ⟨v7, rfl, hown7, hb7⟩; rw [← HP.out] at hown7; obtain ⟨A7, c7, rfl⟩ := own_shape hown7; have B7 := Lib.hid (trans_below B6.out hb7); have S7 := Lib.hid (BSl.of_own hown7); clear hown7 hb7)
    | (go_at_call 26; (with_reducible refine (HBb.out _).mono ?_); rintro e w8 ⟨rfl, rfl⟩)
    | (go_at_call 26; (with_reducible refine (HA.out _).mono ?_); rintro e w8 ⟨rfl, rfl⟩)
    | (go_at_call 22; (with_reducible refine (FP.out _ _ _ S7.out).mono ?_); rintro e w9 ⟨v9, rfl, hown9, hb9⟩; rw [← HB.out] at hown9; have B9 := Lib.hid (trans_below B7.out hb9); have O9 := Lib.hid (own_base hown9 B7.out.size); clear hown9 hb9))
  go_ret2
  exact ⟨v9, rfl, by have := own_base O9.out (show w.heap.size ≤ _ by simp); rwa [show 14 + (20 + (8 + (8 + (14 + n)))) = 64 + n by omega] at this, one_below B9.out⟩
end Go.Proofs.Ytgmeicenjgiihaa
