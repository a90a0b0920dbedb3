/- The walk of the statement Ipv4Hops. -/
import Derived.Test.YtkeialkknepgaaaPkAny
import Derived.Test.YtkeialkknepgaaaPkBack
import Derived.Test.YtkeialkknepgaaaPkBig
import Derived.Test.YtkeialkknepgaaaSumTurn
import Derived.Test.YtkeialkknepgaaaSeq
namespace Go.Proofs.Ytkeialkknepgaaa
open Go.RowKit
open Go.Lib (byteCells)

set_option maxHeartbeats 2000000 in
theorem hops_bad (T I L R S D : Int) (A : Option Addr) (n c : Nat) (l : List UInt8) (w : World) (hl : BSl w A n c l) (hS : 0 ≤ S ∧ S < 4294967296) (hD : 0 ≤ D ∧ D < 4294967296) (hL : L ≤ 9223372036854775807) (hE : ¬ pkE T I L R l.length = 0) (hn : n ≤ 140737488351232) :
    Calls Try.prog 6 #[.agg #[.int .i64 T, .int .i64 I, .int .i64 L, .int .i64 R, .int .u32 S, .int .u32 D, .slice A n c]] w fun e w' => e = .returned (.bool true) ∧ Below w.heap.size w w' := by
  have X0 := Lib.hid (Box7.new w (.int .i64 T) (.int .i64 I) (.int .i64 L) (.int .i64 R) (.int .u32 S) (.int .u32 D) (.slice A n c) 26 w.heap.size rfl)
  have RA := Lib.hid ((Below.refl w.heap.size w).alloc (Nat.le_refl _) (.cells #[.int .i64 T, .int .i64 I, .int .i64 L, .int .i64 R, .int .u32 S, .int .u32 D, .slice A n c] 26))
  have PP := Lib.hid (fun w h => pput_any T I L R S D A n c l w h hS hD)
  have PH := Lib.hid (fun w h => phop_big T I L R S D A n c l w h hn hL)
  unfold GotPut at PP
  unfold GotHop at PH
  have HS := Lib.hid hl
  generalize ol (pkE T I L R l.length) (pbs T I L R S D l) = X at *
  generalize pkE T I L R l.length = E at *
  have Y1 : (E == 0) = false := by simpa using hE
  have Y2 : (E != 0) = true := by simpa using hE
  clear hl hE
  generalize oi (hE L) T = Tx at *
  generalize oi (hE L) I = Ix at *
  generalize oi (hE L) (L - 1) = Lx at *
  generalize oi (hE L) R = Rx at *
  generalize oi (hE L) S = Sx at *
  generalize oi (hE L) D = Dx at *
  generalize ol (hE L) l = l2 at *
  generalize hE L = E2 at *
  go_enter Try.func6, Try.ntmps6
  go_wp2_with (first
    | (go_at_call 8; (with_reducible refine (works07_any _).mono ?_); rintro e w1 ⟨rfl, hb1⟩; have B1 := Lib.hid (trans_below RA.out hb1); have C1 := Lib.hid (X0.out.below hb1); obtain ⟨a0, a1, a2, a3, a4, a5, a6, af⟩ := C1.out; have az := C1.out.lt; clear hb1)
    | (go_at_call 12; (with_reducible refine (PP.out _ (HS.out.below B1.out)).mono ?_); rintro e w2 ⟨A2, n2, c2, rfl, s2, hb2⟩; have B2 := Lib.hid (trans_below B1.out hb2); have C2 := Lib.hid (C1.out.below hb2); clear a0 a1 a2 a3 a4 a5 a6 af az; obtain ⟨a0, a1, a2, a3, a4, a5, a6, af⟩ := C2.out; have az := C2.out.lt; clear hb2)
    | (go_at_call 14; (with_reducible refine (PH.out _ (HS.out.below B2.out)).mono ?_); rintro e w3 ⟨A3, n3, c3, rfl, s3, hb3⟩))
  go_ret
  exact ⟨by simp <;> omega, (trans_below B2.out hb3).alloc (trans_below B2.out hb3).size _⟩

set_option maxHeartbeats 2000000 in
theorem hops_stay (T I L R S D : Int) (A : Option Addr) (n c : Nat) (l : List UInt8) (w : World) (hl : BSl w A n c l) (hS : 0 ≤ S ∧ S < 4294967296) (hD : 0 ≤ D ∧ D < 4294967296) (h : pok T I L R) (hn : n ≤ 1480) (h1 : L ≤ 1) :
    Calls Try.prog 6 #[.agg #[.int .i64 T, .int .i64 I, .int .i64 L, .int .i64 R, .int .u32 S, .int .u32 D, .slice A n c]] w fun e w' => e = .returned (.bool true) ∧ Below w.heap.size w w' := by
  have X0 := Lib.hid (Box7.new w (.int .i64 T) (.int .i64 I) (.int .i64 L) (.int .i64 R) (.int .u32 S) (.int .u32 D) (.slice A n c) 26 w.heap.size rfl)
  have RA := Lib.hid ((Below.refl w.heap.size w).alloc (Nat.le_refl _) (.cells #[.int .i64 T, .int .i64 I, .int .i64 L, .int .i64 R, .int .u32 S, .int .u32 D, .slice A n c] 26))
  have PP := Lib.hid (fun w hl => pput_ok T I L R S D A n c l w hl h hS hD hn)
  have PH := Lib.hid (fun w => phop_no T I L R S D A n c w h1)
  have HS := Lib.hid hl
  clear hl h
  go_enter Try.func6, Try.ntmps6
  go_wp2_with (first
    | (go_at_call 8; (with_reducible refine (works07_any _).mono ?_); rintro e w1 ⟨rfl, hb1⟩; have B1 := Lib.hid (trans_below RA.out hb1); have C1 := Lib.hid (X0.out.below hb1); obtain ⟨a0, a1, a2, a3, a4, a5, a6, af⟩ := C1.out; have az := C1.out.lt; clear hb1)
    | (go_at_call 12; (with_reducible refine (PP.out _ (HS.out.below B1.out)).mono ?_); rintro e w2 ⟨v2, rfl, hown2, hb2⟩; have B2 := Lib.hid (trans_below B1.out hb2); have C2 := Lib.hid (C1.out.below hb2); clear a0 a1 a2 a3 a4 a5 a6 af az; obtain ⟨a0, a1, a2, a3, a4, a5, a6, af⟩ := C2.out; have az := C2.out.lt; clear hb2 hown2)
    | (go_at_call 14; (with_reducible refine (PH.out _).mono ?_); rintro e w3 ⟨A3, n3, c3, rfl, s3, hb3⟩; have B3 := Lib.hid (trans_below B2.out hb3); have C3 := Lib.hid (C2.out.below hb3); clear a0 a1 a2 a3 a4 a5 a6 af az; obtain ⟨a0, a1, a2, a3, a4, a5, a6, af⟩ := C3.out; have az := C3.out.lt))
  go_ret
  exact ⟨by simp, B3.out.alloc B3.out.size _⟩

/-- four bytes each of two rows, four texts, wherever what was there is as it was -/
def HopS (W : World) (g h : Nat) (x0 x1 x2 x3 y0 y1 y2 y3 : Int) (V1 V2 V3 V4 : Value) (p q : ByteArray) (w' : World) : Prop :=
  w'.cell? ⟨g, 8, none⟩ = some (.int .u8 x0) ∧ w'.cell? ⟨g, 9, none⟩ = some (.int .u8 x1) ∧ w'.cell? ⟨g, 10, none⟩ = some (.int .u8 x2) ∧ w'.cell? ⟨g, 11, none⟩ = some (.int .u8 x3) ∧
  w'.cell? ⟨h, 8, none⟩ = some (.int .u8 y0) ∧ w'.cell? ⟨h, 9, none⟩ = some (.int .u8 y1) ∧ w'.cell? ⟨h, 10, none⟩ = some (.int .u8 y2) ∧ w'.cell? ⟨h, 11, none⟩ = some (.int .u8 y3) ∧
  (convert 22 9 V1).run Try.prog w' = .ok (.string p) w' ∧ (convert 22 9 V2).run Try.prog w' = .ok (.string p) w' ∧
  (convert 22 9 V3).run Try.prog w' = .ok (.string q) w' ∧ (convert 22 9 V4).run Try.prog w' = .ok (.string q) w' ∧ Below W.heap.size W w'
set_option maxHeartbeats 8000000 in
theorem hops_go (T I L R S D : Int) (A : Option Addr) (n c : Nat) (l : List UInt8) (w : World) (hl : BSl w A n c l) (hS : 0 ≤ S ∧ S < 4294967296) (hD : 0 ≤ D ∧ D < 4294967296) (hL : L ≤ 9223372036854775807) (h : pok T I L R) (hn : n ≤ 1480) (h1 : 1 < L) :
    Calls Try.prog 6 #[.agg #[.int .i64 T, .int .i64 I, .int .i64 L, .int .i64 R, .int .u32 S, .int .u32 D, .slice A n c]] w fun e w' => e = .returned (.bool true) ∧ Below w.heap.size w w' := by
  have hlen := hl.len
  have X0 := Lib.hid (Box7.new w (.int .i64 T) (.int .i64 I) (.int .i64 L) (.int .i64 R) (.int .u32 S) (.int .u32 D) (.slice A n c) 26 w.heap.size rfl)
  have RA := Lib.hid ((Below.refl w.heap.size w).alloc (Nat.le_refl _) (.cells #[.int .i64 T, .int .i64 I, .int .i64 L, .int .i64 R, .int .u32 S, .int .u32 D, .slice A n c] 26))
  have h2 : pok T I (L - 1) R := by
    obtain ⟨⟨t0, t1⟩, ⟨l0, l1⟩, ⟨r0, r1⟩, ⟨g0, g1⟩⟩ := h
    exact ⟨⟨t0, t1⟩, ⟨by omega, by omega⟩, ⟨r0, r1⟩, ⟨g0, g1⟩⟩
  obtain ⟨M, hM⟩ : ∃ M, L - 1 = M := ⟨_, rfl⟩
  have PP := Lib.hid (fun w hl => pput_ok T I L R S D A n c l w hl h hS hD hn)
  have PQ := Lib.hid (fun A n c w hl hn => pput_ok T I (L - 1) R S D A n c l w hl h2 hS hD hn)
  have PH := Lib.hid (fun w hl => phop_ok T I L R S D A n c l w hl (by omega) h1 hL)
  rw [hM] at PH PQ h2
  have HS := Lib.hid hl
  have hop := hop_sum T I L R S D l.length h (by omega) hS hD
  rw [hM] at hop
  obtain ⟨p8, p9⟩ := pbs_8 T I L R S D l h
  obtain ⟨q8, q9⟩ := pbs_8 T I M R S D l h2
  have p10 : bat (pbs T I L R S D l) 10 * 256 + bat (pbs T I L R S D l) 11 = _ := pbs_10 T I L R S D l
  have q10 : bat (pbs T I M R S D l) 10 * 256 + bat (pbs T I M R S D l) 11 = _ := pbs_10 T I M R S D l
  have tk := pbs_take T I L R S D M l
  have dr := pbs_drop T I L R S D M l
  have x0 := bat_lo (pbs T I L R S D l) 10; have x1 := bat_hi (pbs T I L R S D l) 10; have y0 := bat_lo (pbs T I L R S D l) 11; have y1 := bat_hi (pbs T I L R S D l) 11
  have u0 := bat_lo (pbs T I M R S D l) 10; have u1 := bat_hi (pbs T I M R S D l) 10; have v0 := bat_lo (pbs T I M R S D l) 11; have v1 := bat_hi (pbs T I M R S D l) 11
  obtain ⟨⟨t0, t1⟩, ⟨l0, l1⟩, ⟨r0, r1⟩, ⟨g0, g1⟩⟩ := h
  have plen := pbs_len T I L R S D l
  have qlen := pbs_len T I M R S D l
  generalize pbs T I L R S D l = P at *
  generalize pbs T I M R S D l = Q at *
  obtain ⟨x, hx⟩ : ∃ x, bat P 10 = x := ⟨_, rfl⟩
  obtain ⟨y, hy⟩ : ∃ y, bat P 11 = y := ⟨_, rfl⟩
  obtain ⟨u, hu⟩ : ∃ u, bat Q 10 = u := ⟨_, rfl⟩
  obtain ⟨v, hv⟩ : ∃ v, bat Q 11 = v := ⟨_, rfl⟩
  rw [hx, hy] at p10
  rw [hu, hv] at q10
  rw [hx] at x0 x1
  rw [hy] at y0 y1
  rw [hu] at u0 u1
  rw [hv] at v0 v1
  rw [← p10, ← q10] at hop
  have HOP := Lib.hid hop
  obtain ⟨p, hp⟩ : ∃ p, P.take 8 = p := ⟨_, rfl⟩
  obtain ⟨q, hq⟩ : ∃ q, P.drop 12 = q := ⟨_, rfl⟩
  have HP := Lib.hid hp
  have HQ := Lib.hid hq
  have TK := Lib.hid (tk.symm.trans hp)
  have DR := Lib.hid (dr.symm.trans hq)
  have G8 := Lib.hid p8; have G9 := Lib.hid p9; have G10 := Lib.hid hx; have G11 := Lib.hid hy
  have H8 := Lib.hid q8; have H9 := Lib.hid q9; have H10 := Lib.hid hu; have H11 := Lib.hid hv
  have m0 : 0 ≤ M := by omega
  have m1 : M < 256 := by omega
  have HM := Lib.hid hM
  have wS : IntKind.i64.wrap (L * 256 + R - (M * 256 + R)) = 256 := by rw [IntKind.wrap_i64]; omega
  have w0 : IntKind.i64.wrap (L) = L := IntWalk.i64_in _ (by omega)
  have w1 : IntKind.i64.wrap (R) = R := IntWalk.i64_in _ (by omega)
  have w2 : IntKind.i64.wrap (M) = M := IntWalk.i64_in _ (by omega)
  have w3 : IntKind.i64.wrap (x) = x := IntWalk.i64_in _ (by omega)
  have w4 : IntKind.i64.wrap (y) = y := IntWalk.i64_in _ (by omega)
  have w5 : IntKind.i64.wrap (u) = u := IntWalk.i64_in _ (by omega)
  have w6 : IntKind.i64.wrap (v) = v := IntWalk.i64_in _ (by omega)
  have w7 : IntKind.i64.wrap (L * 256) = L * 256 := IntWalk.i64_in _ (by omega)
  have w8 : IntKind.i64.wrap (M * 256) = M * 256 := IntWalk.i64_in _ (by omega)
  have w9 : IntKind.i64.wrap (x * 256) = x * 256 := IntWalk.i64_in _ (by omega)
  have w10 : IntKind.i64.wrap (u * 256) = u * 256 := IntWalk.i64_in _ (by omega)
  have i8 : (8 : Int) < 20 + (n : Int) := by omega
  have i9 : (9 : Int) < 20 + (n : Int) := by omega
  have i10 : (10 : Int) < 20 + (n : Int) := by omega
  have i11 : (11 : Int) < 20 + (n : Int) := by omega
  have o1 := or_i64 L R l0 (by omega) r0 (by omega)
  have o2 := or_i64 M R (by omega) (by omega) r0 (by omega)
  have o3 := or_i64 x y x0 x1 y0 y1
  have o4 := or_i64 u v u0 u1 v0 v1
  clear hl h2 hM hop p8 p9 q8 q9 p10 q10 tk dr hx hy hu hv hp hq plen qlen hlen
  go_enter Try.func6, Try.ntmps6
  go_wp2_with (first
    | (go_at_call 8; (with_reducible refine (works07_any _).mono ?_); rintro e w1 ⟨rfl, hb1⟩; have B1 := Lib.hid (trans_below RA.out hb1); have C1 := Lib.hid (X0.out.below hb1); obtain ⟨a0, a1, a2, a3, a4, a5, a6, af⟩ := C1.out; have az := C1.out.lt; clear hb1)
    | (go_at_call 12; (with_reducible refine (PP.out _ (HS.out.below B1.out)).mono ?_); rintro e w2 ⟨v2, rfl, hown2, hb2⟩; obtain ⟨g, gc, rfl, hg0, hg1, hgc, hgm⟩ := own_form hown2 (by omega); have O2 := Lib.hid hown2; have B2 := Lib.hid (trans_below B1.out hb2); have C2 := Lib.hid (C1.out.below hb2); clear a0 a1 a2 a3 a4 a5 a6 af az; obtain ⟨a0, a1, a2, a3, a4, a5, a6, af⟩ := C2.out; have az := C2.out.lt; clear hb2 hown2)
    | (go_at_call 14; (with_reducible refine (PH.out _ (HS.out.below B2.out)).mono ?_); rintro e w3 ⟨A3, n3, c3, rfl, s3, hb3⟩; obtain rfl : n = n3 := by { have e1 := s3.len; have e2 := HS.out.len; omega }; have S3 := Lib.hid (s3.alloc (.cells #[.int .i64 T, .int .i64 I, .int .i64 M, .int .i64 R, .int .u32 S, .int .u32 D, .slice A3 n c3] 26)); have O3 := Lib.hid ((own_below O2.out hb3).alloc (.cells #[.int .i64 T, .int .i64 I, .int .i64 M, .int .i64 R, .int .u32 S, .int .u32 D, .slice A3 n c3] 26)); have B3 := Lib.hid ((trans_below B2.out hb3).alloc (trans_below B2.out hb3).size (.cells #[.int .i64 T, .int .i64 I, .int .i64 M, .int .i64 R, .int .u32 S, .int .u32 D, .slice A3 n c3] 26)); have C3 := Lib.hid ((C2.out.below hb3).alloc (.cells #[.int .i64 T, .int .i64 I, .int .i64 M, .int .i64 R, .int .u32 S, .int .u32 D, .slice A3 n c3] 26)); clear a0 a1 a2 a3 a4 a5 a6 af az hb3 s3)
    | (go_at_call 12; (with_reducible refine (PQ.out A3 _ c3 _ S3.out hn).mono ?_); rintro e w4 ⟨v4, rfl, hown4, hb4⟩; obtain ⟨h, hc, rfl, hh0, hh1, hhc, hhm⟩ := own_form hown4 (by omega); have OG := Lib.hid (own_below O3.out hb4); have OH := Lib.hid hown4; have B4 := Lib.hid (trans_below B3.out hb4); have C4 := Lib.hid (C3.out.below hb4); obtain ⟨a0, a1, a2, a3, a4, a5, a6, af⟩ := C4.out; have az := C4.out.lt; clear hb4 hown4))
  have KG := Lib.hid (show ∀ w', Below w4.heap.size w4 w' → BSl w' (some ⟨g, 0, none⟩) (20 + n) gc P from fun w' b => (BSl.of_own OG.out).below b)
  have KH := Lib.hid (show ∀ w', Below w4.heap.size w4 w' → BSl w' (some ⟨h, 0, none⟩) (20 + n) hc Q from fun w' b => (BSl.of_own OH.out).below b)
  have HK := Lib.hid (show ∀ w', Below w4.heap.size w4 w' → HopS w4 g h L R x y M R u v (.slice (some ⟨g, 0, none⟩) 8 gc) (.slice (some ⟨h, 0, none⟩) 8 hc) (.slice (some ⟨g, 12, none⟩) (20 + n - 12) (gc - 12)) (.slice (some ⟨h, 12, none⟩) (20 + n - 12) (hc - 12)) (str p) (str q) w' from fun w' b => by
    have kg := KG.out w' b
    have kh := KH.out w' b
    have og := own_below OG.out b
    have oh := own_below OH.out b
    have e1 := run_string_bsl w' _ _ _ _ (kg.head 8 (by omega)); rw [HP.out] at e1
    have e2 := run_string_bsl w' _ _ _ _ (kh.head 8 (by omega)); rw [TK.out] at e2
    have e3 := run_string_bsl w' _ _ _ _ (kg.cut (k := 12) (by omega)); rw [HQ.out] at e3
    have e4 := run_string_bsl w' _ _ _ _ (kh.cut (k := 12) (by omega)); rw [DR.out] at e4
    have c8 := own_cellB og 8 (by omega); have c9 := own_cellB og 9 (by omega); have c10 := own_cellB og 10 (by omega); have c11 := own_cellB og 11 (by omega)
    have d8 := own_cellB oh 8 (by omega); have d9 := own_cellB oh 9 (by omega); have d10 := own_cellB oh 10 (by omega); have d11 := own_cellB oh 11 (by omega)
    rw [G8.out] at c8; rw [G9.out] at c9; rw [G10.out] at c10; rw [G11.out] at c11
    rw [H8.out] at d8; rw [H9.out] at d9; rw [H10.out] at d10; rw [H11.out] at d11
    exact ⟨c8, c9, c10, c11, d8, d9, d10, d11, e1, e2, e3, e4, b⟩)
  have ng : (8 : Int) ≤ (gc : Int) := by omega
  have nh : (8 : Int) ≤ (hc : Int) := by omega
  have ng2 : 8 ≤ gc := by omega
  have nh2 : 8 ≤ hc := by omega
  have ng3 : ¬ gc = 12 := by omega
  have nh3 : ¬ hc = 12 := by omega
  have nn : (12 : Int) ≤ 20 + (n : Int) := by omega
  have nn2 : 12 ≤ 20 + n := by omega
  have ng4 : 20 + (n : Int) ≤ (gc : Int) := by omega
  have nh4 : 20 + (n : Int) ≤ (hc : Int) := by omega
  clear a0 a1 a2 a3 a4 a5 a6 af az
  have hX0 := Lib.hid (HK.out w4.drew (below_drewN (Below.refl _ _) 1))
  refine wp_region_text (HopS w4 g h L R x y M R u v (.slice (some ⟨g, 0, none⟩) 8 gc) (.slice (some ⟨h, 0, none⟩) 8 hc) (.slice (some ⟨g, 12, none⟩) (20 + n - 12) (gc - 12)) (.slice (some ⟨h, 12, none⟩) (20 + n - 12) (hc - 12)) (str p) (str q)) (by kernel_rfl) (by kernel_rfl) hX0.out ?_
  repeat
    first
      | (refine Seq.pass rfl ?_; simp only [Act.put, List.setIfInBounds_toArray, List.set_cons_zero, List.set_cons_succ])
      | (refine Seq.run ?_ rfl (fun wx hx => ?_) ?_
         rotate_left
         · have hx2 := hx
           obtain ⟨b0, b1, b2, b3, d0, d1, d2, d3, q1, q2, q3, q4, hbx⟩ := hx2
           go_simp
           first
             | (refine StepRun.val ?_; exact hx)
             | (refine StepRun.call (v := .int .i64 (u * 256 + v)) ?_; (with_reducible refine Calls.mono (turn_any (x * 256 + y) (L * 256 + R) (M * 256 + R) _) ?_); rintro e w' ⟨rfl, hb⟩; exact ⟨by rw [HOP.out], HK.out _ (trans_below hbx hb)⟩)
         simp only [Act.put, List.setIfInBounds_toArray, List.set_cons_zero, List.set_cons_succ])
  refine Seq.last (fun wx hx => ?_)
  have B5 := Lib.hid hx.2.2.2.2.2.2.2.2.2.2.2.2
  have hX1 := Lib.hid (HK.out wx.drew (below_drewN B5.out 1))
  clear hx
  go_wp2
  refine wp_region_text (HopS w4 g h L R x y M R u v (.slice (some ⟨g, 0, none⟩) 8 gc) (.slice (some ⟨h, 0, none⟩) 8 hc) (.slice (some ⟨g, 12, none⟩) (20 + n - 12) (gc - 12)) (.slice (some ⟨h, 12, none⟩) (20 + n - 12) (hc - 12)) (str p) (str q)) (by kernel_rfl) (by kernel_rfl) hX1.out ?_
  repeat
    first
      | (refine Seq.pass rfl ?_; simp only [Act.put, List.setIfInBounds_toArray, List.set_cons_zero, List.set_cons_succ])
      | (refine Seq.run ?_ rfl (fun wx hx => ?_) ?_
         rotate_left
         · have hx2 := hx
           obtain ⟨b0, b1, b2, b3, d0, d1, d2, d3, q1, q2, q3, q4, hbx⟩ := hx2
           go_simp
           first
             | (refine StepRun.val ?_; exact hx)
             | (refine StepRun.call (v := .int .i64 (u * 256 + v)) ?_; (with_reducible refine Calls.mono (turn_any (x * 256 + y) (L * 256 + R) (M * 256 + R) _) ?_); rintro e w' ⟨rfl, hb⟩; exact ⟨by rw [HOP.out], HK.out _ (trans_below hbx hb)⟩)
         simp only [Act.put, List.setIfInBounds_toArray, List.set_cons_zero, List.set_cons_succ])
  refine Seq.last (fun wx hx => ?_)
  go_wp2
  go_ret
  exact ⟨by simp, trans_below B4.out hx.2.2.2.2.2.2.2.2.2.2.2.2⟩

theorem hops_walk (T I L R S D : Int) (A : Option Addr) (n c : Nat) (l : List UInt8) (w : World) (hl : BSl w A n c l) (hS : 0 ≤ S ∧ S < 4294967296) (hD : 0 ≤ D ∧ D < 4294967296) (hL : L ≤ 9223372036854775807) (hbig : n ≤ 140737488351232) :
    Calls Try.prog 6 #[.agg #[.int .i64 T, .int .i64 I, .int .i64 L, .int .i64 R, .int .u32 S, .int .u32 D, .slice A n c]] w fun e w' => e = .returned (.bool true) ∧ Below w.heap.size w w' := by
  have hlen := hl.len
  rcases pkE_cases T I L R l.length with ⟨_, hp, hn⟩ | e | e
  · by_cases h1 : L ≤ 1
    · exact hops_stay T I L R S D A n c l w hl hS hD hp (by omega) h1
    · exact hops_go T I L R S D A n c l w hl hS hD hL hp (by omega) (by omega)
  · exact hops_bad T I L R S D A n c l w hl hS hD hL (by rw [e]; decide) hbig
  · exact hops_bad T I L R S D A n c l w hl hS hD hL (by rw [e]; decide) hbig
end Go.Proofs.Ytkeialkknepgaaa
