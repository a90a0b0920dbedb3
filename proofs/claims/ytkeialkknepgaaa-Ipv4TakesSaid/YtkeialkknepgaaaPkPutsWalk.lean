/- The walks of the statements Ipv4Takes and Ipv4Puts. -/
import Derived.Test.YtkeialkknepgaaaPkAny
import Derived.Test.YtkeialkknepgaaaSeq
namespace Go.Proofs.Ytkeialkknepgaaa
open Go.RowKit
open Go.Lib (byteCells)

set_option maxHeartbeats 2000000 in
theorem takes_walk (A : Option Addr) (n c : Nat) (l : List UInt8) (w : World) (h : BSl w A n c l) :
    Calls Try.prog 3 #[.slice A n c] w fun e w' => e = .returned (.bool true) ∧ Below w.heap.size w w' := by
  by_cases h4 : 4000 < n
  · go_enter Try.func3, Try.ntmps3
    go_wp2_with (go_at_call 8; (with_reducible refine (works07_any _).mono ?_); rintro e w1 ⟨rfl, hb1⟩)
    go_ret
    exact ⟨rfl, hb1⟩
  · have HS := Lib.hid h
    have h5 : (n : Int) ≤ 4000 := by omega
    have hn : n ≤ 1000000 := by omega
    have HP := Lib.hid (fun w h => ptake_any A n c l w h hn)
    have HR := Lib.hid (fun w h => rtake_any A n c l w h hn)
    unfold GotTake at HP HR
    clear h
    generalize oi (rE l) (bat l 1) = T at *
    generalize oi (rE l) (two l 4) = I at *
    generalize oi (rE l) (bat l 8) = L at *
    generalize oi (rE l) (bat l 9) = R at *
    generalize oi (rE l) (four l 12) = S at *
    generalize oi (rE l) (four l 16) = D at *
    generalize ol (rE l) (bodyF l) = k at *
    generalize rE l = E at *
    go_enter Try.func3, Try.ntmps3
    go_wp2_with (first
      | (go_at_call 9; (with_reducible refine (HP.out _ HS.out).mono ?_); rintro e w1 ⟨A1, n1, c1, rfl, s1, hb1⟩)
      | (go_at_call 10; (with_reducible refine (HR.out _ ((HS.out.below hb1).alloc _)).mono ?_); rintro e w2 ⟨A2, n2, c2, rfl, s2, hb2⟩; obtain ⟨p2, q2⟩ := bcell hb2; have z2 : w1.heap.size < w2.heap.size := by { have := hb2.size; simp at this; omega })
      | (go_at_call 11; (with_reducible refine (rsame_self T I L R S D k A1 n1 c1 A2 n2 c2 _ (((s1.alloc _).below hb2).alloc _) (s2.alloc _)).mono ?_); rintro e w3 ⟨rfl, hb3⟩)
      | (go_at_call 8; (with_reducible refine (works07_any _).mono ?_); rintro e w4 ⟨rfl, hb4⟩))
    go_ret
    exact ⟨by simp, trans_below hb1 (trans_below (one_below hb2) (trans_below (one_below hb3) hb4))⟩

theorem puts_long (T I L R S D : Int) (A : Option Addr) (n c : Nat) (T' I' L' R' S' D' : Int) (B : Option Addr) (m d : Nat) (w : World) (h : 4000 < n ∨ 4000 < m) :
    Calls Try.prog 4 #[.agg #[.int .i64 T, .int .i64 I, .int .i64 L, .int .i64 R, .int .u32 S, .int .u32 D, .slice A n c], .agg #[.int .i64 T', .int .i64 I', .int .i64 L', .int .i64 R', .int .u32 S', .int .u32 D', .slice B m d]] w fun e w' => e = .returned (.bool true) ∧ Below w.heap.size w w' := by
  have hz : w.heap.size < w.heap.size + 1 + 1 := by omega
  by_cases h1 : 4000 < n
  · clear h
    go_enter Try.func4, Try.ntmps4
    go_wp2_with (go_at_call 8; (with_reducible refine (works07_any _).mono ?_); rintro e w1 ⟨rfl, hb1⟩)
    go_ret
    exact ⟨rfl, two_below hb1⟩
  · have h2 : 4000 < m := by omega
    have h3 : (n : Int) ≤ 4000 := by omega
    clear h h1
    go_enter Try.func4, Try.ntmps4
    go_wp2_with (go_at_call 8; (with_reducible refine (works07_any _).mono ?_); rintro e w1 ⟨rfl, hb1⟩)
    go_ret
    exact ⟨rfl, two_below hb1⟩

/-- two packets' boxes, two more of one packet, two rows of bytes that read alike, wherever what was there is as it was -/
def PutsS (W : World) (p q x y : Nat) (v0 v1 v2 v3 v4 v5 v6 u0 u1 u2 u3 u4 u5 u6 t0 t1 t2 t3 t4 t5 t6 s0 s1 s2 s3 s4 s5 s6 : Value) (A1 A2 : Value) (g : ByteArray) (w' : World) : Prop :=
  Box7 w' p v0 v1 v2 v3 v4 v5 v6 ∧ Box7 w' q u0 u1 u2 u3 u4 u5 u6 ∧ Box7 w' x t0 t1 t2 t3 t4 t5 t6 ∧ Box7 w' y s0 s1 s2 s3 s4 s5 s6 ∧
  (convert 22 9 A1).run Try.prog w' = .ok (.string g) w' ∧ (convert 22 9 A2).run Try.prog w' = .ok (.string g) w' ∧ Below W.heap.size W w'
set_option maxHeartbeats 8000000 in
theorem puts_main (T I L R S D : Int) (A : Option Addr) (n c : Nat) (l : List UInt8) (T' I' L' R' S' D' : Int) (B : Option Addr) (m d : Nat) (k : List UInt8) (w : World) (hA : BSl w A n c l) (hB : BSl w B m d k) (hn : n ≤ 4000) (hm : m ≤ 4000) (hS : 0 ≤ S ∧ S < 4294967296) (hD : 0 ≤ D ∧ D < 4294967296) (hL : L ≤ 9223372036854775807) :
    Calls Try.prog 4 #[.agg #[.int .i64 T, .int .i64 I, .int .i64 L, .int .i64 R, .int .u32 S, .int .u32 D, .slice A n c], .agg #[.int .i64 T', .int .i64 I', .int .i64 L', .int .i64 R', .int .u32 S', .int .u32 D', .slice B m d]] w fun e w' => e = .returned (.bool true) ∧ Below w.heap.size w w' := by
  have HA := Lib.hid (show BSl ((w.alloc (.cells #[.int .i64 T, .int .i64 I, .int .i64 L, .int .i64 R, .int .u32 S, .int .u32 D, .slice A n c] 26)).alloc (.cells #[.int .i64 T', .int .i64 I', .int .i64 L', .int .i64 R', .int .u32 S', .int .u32 D', .slice B m d] 26)) A n c l from (hA.alloc _).alloc _)
  have HB := Lib.hid (show BSl ((w.alloc (.cells #[.int .i64 T, .int .i64 I, .int .i64 L, .int .i64 R, .int .u32 S, .int .u32 D, .slice A n c] 26)).alloc (.cells #[.int .i64 T', .int .i64 I', .int .i64 L', .int .i64 R', .int .u32 S', .int .u32 D', .slice B m d] 26)) B m d k from (hB.alloc _).alloc _)
  have P0 := Lib.hid (show Box7 ((w.alloc (.cells #[.int .i64 T, .int .i64 I, .int .i64 L, .int .i64 R, .int .u32 S, .int .u32 D, .slice A n c] 26)).alloc (.cells #[.int .i64 T', .int .i64 I', .int .i64 L', .int .i64 R', .int .u32 S', .int .u32 D', .slice B m d] 26)) w.heap.size (.int .i64 T) (.int .i64 I) (.int .i64 L) (.int .i64 R) (.int .u32 S) (.int .u32 D) (.slice A n c) from (Box7.new w (.int .i64 T) (.int .i64 I) (.int .i64 L) (.int .i64 R) (.int .u32 S) (.int .u32 D) (.slice A n c) 26 w.heap.size rfl).alloc _)
  have Q0 := Lib.hid (show Box7 ((w.alloc (.cells #[.int .i64 T, .int .i64 I, .int .i64 L, .int .i64 R, .int .u32 S, .int .u32 D, .slice A n c] 26)).alloc (.cells #[.int .i64 T', .int .i64 I', .int .i64 L', .int .i64 R', .int .u32 S', .int .u32 D', .slice B m d] 26)) (w.heap.size + 1) (.int .i64 T') (.int .i64 I') (.int .i64 L') (.int .i64 R') (.int .u32 S') (.int .u32 D') (.slice B m d) from Box7.new _ (.int .i64 T') (.int .i64 I') (.int .i64 L') (.int .i64 R') (.int .u32 S') (.int .u32 D') (.slice B m d) 26 (w.heap.size + 1) (by simp))
  have i1 : (n : Int) ≤ 4000 := by omega
  have i2 : (m : Int) ≤ 4000 := by omega
  have hz : w.heap.size < w.heap.size + 1 + 1 := by omega
  have PP := Lib.hid (fun w h => pput_any T I L R S D A n c l w h hS hD)
  have RP := Lib.hid (fun w h => rput_any T I L R S D A n c l w h hS hD)
  have PH := Lib.hid (fun w h => phop_any T I L R S D A n c l w h (by omega) hL)
  have RH := Lib.hid (fun w h => rhop_any T I L R S D A n c l w h hL)
  unfold GotPut at PP RP
  unfold GotHop at PH RH
  obtain ⟨v, hv⟩ : ∃ v, pkB T I L R S D l T' I' L' R' S' D' k = v := ⟨_, rfl⟩
  have PS := Lib.hid (show ∀ w', BSl w' A n c l → BSl w' B m d k → Calls Try.prog 16 #[.agg #[.int .i64 T, .int .i64 I, .int .i64 L, .int .i64 R, .int .u32 S, .int .u32 D, .slice A n c], .agg #[.int .i64 T', .int .i64 I', .int .i64 L', .int .i64 R', .int .u32 S', .int .u32 D', .slice B m d]] w' fun e w'' => e = .returned (.bool v) ∧ Below w'.heap.size w' w'' from fun w' h g => hv ▸ psame_any T I L R S D A n c l T' I' L' R' S' D' B m d k w' h g)
  have RS := Lib.hid (show ∀ w', BSl w' A n c l → BSl w' B m d k → Calls Try.prog 11 #[.agg #[.int .i64 T, .int .i64 I, .int .i64 L, .int .i64 R, .int .u32 S, .int .u32 D, .slice A n c], .agg #[.int .i64 T', .int .i64 I', .int .i64 L', .int .i64 R', .int .u32 S', .int .u32 D', .slice B m d]] w' fun e w'' => e = .returned (.bool v) ∧ Below w'.heap.size w' w'' from fun w' h g => hv ▸ rsame_any T I L R S D A n c l T' I' L' R' S' D' B m d k w' h g)
  clear hA hB hv
  generalize ol (pkE T I L R l.length) (pbs T I L R S D l) = X at *
  generalize pkE T I L R l.length = E at *
  generalize oi (hE L) T = Tx at *
  generalize oi (hE L) I = Ix at *
  generalize oi (hE L) (L - 1) = Lx at *
  generalize oi (hE L) R = Rx at *
  generalize oi (hE L) S = Sx at *
  generalize oi (hE L) D = Dx at *
  generalize ol (hE L) l = l2 at *
  generalize hE L = E2 at *
  go_enter Try.func4, Try.ntmps4
  go_wp2_with (first
    | (go_at_call 12; (with_reducible refine (PP.out _ HA.out).mono ?_); rintro e w1 ⟨A1, n1, c1, rfl, s1, hb1⟩; have S1 := Lib.hid s1; have B1 := Lib.hid hb1; have K1 := Lib.hid (P0.out.below hb1); obtain ⟨a0, a1, a2, a3, a4, a5, a6, af⟩ := K1.out; have az := K1.out.lt; clear s1 hb1)
    | (go_at_call 13; (with_reducible refine (RP.out _ (HA.out.below B1.out)).mono ?_); rintro e w2 ⟨A2, n2, c2, rfl, s2, hb2⟩; have S2 := Lib.hid s2; have S12 := Lib.hid (S1.out.below hb2); have B2 := Lib.hid (trans_below B1.out hb2); have K2 := Lib.hid (P0.out.below B2.out); clear a0 a1 a2 a3 a4 a5 a6 af az; obtain ⟨a0, a1, a2, a3, a4, a5, a6, af⟩ := K2.out; have az := K2.out.lt; clear s2 hb2)
    | (go_at_call 14; (with_reducible refine (PH.out _ (HA.out.below B2.out)).mono ?_); rintro e w3 ⟨A3, n3, c3, rfl, s3, hb3⟩; have S3 := Lib.hid (s3.alloc (.cells #[.int .i64 Tx, .int .i64 Ix, .int .i64 Lx, .int .i64 Rx, .int .u32 Sx, .int .u32 Dx, .slice A3 n3 c3] 26)); have X3 := Lib.hid (Box7.new w3 (.int .i64 Tx) (.int .i64 Ix) (.int .i64 Lx) (.int .i64 Rx) (.int .u32 Sx) (.int .u32 Dx) (.slice A3 n3 c3) 26 w3.heap.size rfl); have C13 := Lib.hid ((S12.out.below hb3).alloc (.cells #[.int .i64 Tx, .int .i64 Ix, .int .i64 Lx, .int .i64 Rx, .int .u32 Sx, .int .u32 Dx, .slice A3 n3 c3] 26)); have C23 := Lib.hid ((S2.out.below hb3).alloc (.cells #[.int .i64 Tx, .int .i64 Ix, .int .i64 Lx, .int .i64 Rx, .int .u32 Sx, .int .u32 Dx, .slice A3 n3 c3] 26)); have B3 := Lib.hid ((trans_below B2.out hb3).alloc (trans_below B2.out hb3).size (.cells #[.int .i64 Tx, .int .i64 Ix, .int .i64 Lx, .int .i64 Rx, .int .u32 Sx, .int .u32 Dx, .slice A3 n3 c3] 26)); have K3 := Lib.hid (P0.out.below (trans_below B2.out hb3)); clear a0 a1 a2 a3 a4 a5 a6 af az; obtain ⟨a0, a1, a2, a3, a4, a5, a6, af⟩ := K3.out; have az := K3.out.lt; clear s3 hb3)
    | (go_at_call 15; (with_reducible refine (RH.out _ (HA.out.below B3.out)).mono ?_); rintro e w4 ⟨A4, n4, c4, rfl, s4, hb4⟩; have S4 := Lib.hid (s4.alloc (.cells #[.int .i64 Tx, .int .i64 Ix, .int .i64 Lx, .int .i64 Rx, .int .u32 Sx, .int .u32 Dx, .slice A4 n4 c4] 26)); have Y4 := Lib.hid (Box7.new w4 (.int .i64 Tx) (.int .i64 Ix) (.int .i64 Lx) (.int .i64 Rx) (.int .u32 Sx) (.int .u32 Dx) (.slice A4 n4 c4) 26 w4.heap.size rfl); have X4 := Lib.hid ((X3.out.below hb4).alloc (.cells #[.int .i64 Tx, .int .i64 Ix, .int .i64 Lx, .int .i64 Rx, .int .u32 Sx, .int .u32 Dx, .slice A4 n4 c4] 26)); have S34 := Lib.hid ((S3.out.below hb4).alloc (.cells #[.int .i64 Tx, .int .i64 Ix, .int .i64 Lx, .int .i64 Rx, .int .u32 Sx, .int .u32 Dx, .slice A4 n4 c4] 26)); have C14 := Lib.hid ((C13.out.below hb4).alloc (.cells #[.int .i64 Tx, .int .i64 Ix, .int .i64 Lx, .int .i64 Rx, .int .u32 Sx, .int .u32 Dx, .slice A4 n4 c4] 26)); have C24 := Lib.hid ((C23.out.below hb4).alloc (.cells #[.int .i64 Tx, .int .i64 Ix, .int .i64 Lx, .int .i64 Rx, .int .u32 Sx, .int .u32 Dx, .slice A4 n4 c4] 26)); have B4 := Lib.hid ((trans_below B3.out hb4).alloc (trans_below B3.out hb4).size (.cells #[.int .i64 Tx, .int .i64 Ix, .int .i64 Lx, .int .i64 Rx, .int .u32 Sx, .int .u32 Dx, .slice A4 n4 c4] 26)); clear a0 a1 a2 a3 a4 a5 a6 af az s4 hb4))
  generalize hW5 : w4.alloc (.cells #[.int .i64 Tx, .int .i64 Ix, .int .i64 Lx, .int .i64 Rx, .int .u32 Sx, .int .u32 Dx, .slice A4 n4 c4] 26) = w5 at *
  have P5 := Lib.hid (P0.out.below B4.out)
  have Q5 := Lib.hid (Q0.out.below B4.out)
  have HK := Lib.hid (show ∀ w', Below w5.heap.size w5 w' → PutsS w5 w.heap.size (w.heap.size + 1) w3.heap.size w4.heap.size (.int .i64 T) (.int .i64 I) (.int .i64 L) (.int .i64 R) (.int .u32 S) (.int .u32 D) (.slice A n c) (.int .i64 T') (.int .i64 I') (.int .i64 L') (.int .i64 R') (.int .u32 S') (.int .u32 D') (.slice B m d) (.int .i64 Tx) (.int .i64 Ix) (.int .i64 Lx) (.int .i64 Rx) (.int .u32 Sx) (.int .u32 Dx) (.slice A3 n3 c3) (.int .i64 Tx) (.int .i64 Ix) (.int .i64 Lx) (.int .i64 Rx) (.int .u32 Sx) (.int .u32 Dx) (.slice A4 n4 c4) (.slice A1 n1 c1) (.slice A2 n2 c2) (str X) w' from fun w' g =>
    ⟨P5.out.below g, Q5.out.below g, X4.out.below g, Y4.out.below g, run_string_bsl w' A1 n1 c1 X (C14.out.below g), run_string_bsl w' A2 n2 c2 X (C24.out.below g), g⟩)
  have HA5 := Lib.hid (HA.out.below B4.out)
  have HB5 := Lib.hid (HB.out.below B4.out)
  have hx0 := HK.out w5.drew (below_drewN (Below.refl _ _) 1)
  have hX0 := Lib.hid hx0
  clear hx0
  refine wp_region_text (PutsS w5 w.heap.size (w.heap.size + 1) w3.heap.size w4.heap.size (.int .i64 T) (.int .i64 I) (.int .i64 L) (.int .i64 R) (.int .u32 S) (.int .u32 D) (.slice A n c) (.int .i64 T') (.int .i64 I') (.int .i64 L') (.int .i64 R') (.int .u32 S') (.int .u32 D') (.slice B m d) (.int .i64 Tx) (.int .i64 Ix) (.int .i64 Lx) (.int .i64 Rx) (.int .u32 Sx) (.int .u32 Dx) (.slice A3 n3 c3) (.int .i64 Tx) (.int .i64 Ix) (.int .i64 Lx) (.int .i64 Rx) (.int .u32 Sx) (.int .u32 Dx) (.slice A4 n4 c4) (.slice A1 n1 c1) (.slice A2 n2 c2) (str X)) (by kernel_rfl) (by kernel_rfl) hX0.out ?_
  repeat
    first
      | (refine Seq.pass rfl ?_; simp only [Act.put, List.setIfInBounds_toArray, List.set_cons_zero, List.set_cons_succ])
      | (refine Seq.run ?_ rfl (fun wx hx => ?_) ?_
         rotate_left
         · have hx2 := hx
           obtain ⟨⟨b0, b1, b2, b3, b4, b5, b6, bf⟩, ⟨d0, d1, d2, d3, d4, d5, d6, df⟩, ⟨f0, f1, f2, f3, f4, f5, f6, ff⟩, ⟨g0, g1, g2, g3, g4, g5, g6, gf⟩, q1, q2, hbx⟩ := hx2
           go_simp
           first
             | (refine StepRun.val ?_; exact hx)
             | (refine StepRun.call (v := .bool true) ?_; (with_reducible refine Calls.mono (rsame_self Tx Ix Lx Rx Sx Dx l2 A3 n3 c3 A4 n4 c4 _ (S34.out.below hbx) (S4.out.below hbx)) ?_); rintro e w' ⟨rfl, hb⟩; exact ⟨rfl, HK.out _ (trans_below hbx hb)⟩)
             | (refine StepRun.call (v := .bool v) ?_; (with_reducible refine Calls.mono (PS.out _ (HA5.out.below hbx) (HB5.out.below hbx)) ?_); rintro e w' ⟨rfl, hb⟩; exact ⟨rfl, HK.out _ (trans_below hbx hb)⟩)
             | (refine StepRun.call (v := .bool v) ?_; (with_reducible refine Calls.mono (RS.out _ (HA5.out.below hbx) (HB5.out.below hbx)) ?_); rintro e w' ⟨rfl, hb⟩; exact ⟨rfl, HK.out _ (trans_below hbx hb)⟩)
             | (refine StepRun.call (v := .bool true) ?_; (with_reducible refine Calls.mono (works07_any _) ?_); rintro e w' ⟨rfl, hb⟩; exact ⟨rfl, HK.out _ (trans_below hbx hb)⟩)
         simp only [Act.put, List.setIfInBounds_toArray, List.set_cons_zero, List.set_cons_succ])
  refine Seq.last (fun wx hx => ?_)
  go_wp2
  go_ret
  exact ⟨by simp, two_below (trans_below B4.out hx.2.2.2.2.2.2)⟩

theorem puts_walk (T I L R S D : Int) (A : Option Addr) (n c : Nat) (l : List UInt8) (T' I' L' R' S' D' : Int) (B : Option Addr) (m d : Nat) (k : List UInt8) (w : World) (hA : BSl w A n c l) (hB : BSl w B m d k) (hS : 0 ≤ S ∧ S < 4294967296) (hD : 0 ≤ D ∧ D < 4294967296) (hL : L ≤ 9223372036854775807) :
    Calls Try.prog 4 #[.agg #[.int .i64 T, .int .i64 I, .int .i64 L, .int .i64 R, .int .u32 S, .int .u32 D, .slice A n c], .agg #[.int .i64 T', .int .i64 I', .int .i64 L', .int .i64 R', .int .u32 S', .int .u32 D', .slice B m d]] w fun e w' => e = .returned (.bool true) ∧ Below w.heap.size w w' := by
  by_cases hn : 4000 < n ∨ 4000 < m
  · exact puts_long T I L R S D A n c T' I' L' R' S' D' B m d w hn
  · exact puts_main T I L R S D A n c l T' I' L' R' S' D' B m d k w hA hB (by omega) (by omega) hS hD hL
end Go.Proofs.Ytkeialkknepgaaa
