/- The contract of palingref07.Take. -/
import Derived.Test.YtgmeicenjgiihaaPkBy
import Derived.Test.YtgmeicenjgiihaaPkBox
import Derived.Test.YtgmeicenjgiihaaRefSum
import Derived.Deep.RegionHeldLaw
namespace Go.Proofs.Ytgmeicenjgiihaa
open Go.RowKit
open Go.Lib (byteCells)

set_option maxHeartbeats 4000000 in
theorem rtake_no (A : Option Addr) (n c : Nat) (l : List UInt8) (w : World) (h : BSl w A n c l) (hE : ¬ rE l = 0) :
    Calls Try.prog 38 #[.slice A n c] w (GotP w 0 0 0 0 0 0 [] (rE l)) := by
  have hl := h.len
  by_cases h20 : n < 20
  · rw [rE_short (l := l) (by omega)]
    clear h hl hE
    go_enter Try.func38, Try.ntmps38
    go_wp2
    exact bodyPost_ret (v := .tuple #[.agg #[.int .i64 0, .int .i64 0, .int .i64 0, .int .i64 0, .int .u32 0, .int .u32 0, .slice none 0 0], .int .i64 10]) (by simp [results, Try.results38, go_sem]) rfl ⟨none, 0, 0, rfl, BSl.nil, (Below.refl _ _).alloc (Nat.le_refl _) _⟩
  · have hle := h.le
    obtain ⟨b, off, rfl, hb, hc⟩ := h.at_ (by omega)
    have c0 : (w.alloc (.cells #[.int .i64 0, .int .i64 0, .int .i64 0, .int .i64 0, .int .u32 0, .int .u32 0, .slice none 0 0] 61)).cell? ⟨b, off, none⟩ = some (.int .u8 (bat l 0)) := (((Below.refl w.heap.size w).alloc (Nat.le_refl _) _).cell (p := ⟨b, off, none⟩) hb).trans (hc 0 (by omega))
    have h20l : ¬ l.length < 20 := by omega
    have N2 := Lib.hid (fun v => rnum2_at (h.alloc (.cells #[.int .i64 0, .int .i64 0, .int .i64 0, .int .i64 0, .int .u32 0, .int .u32 0, .slice none 0 0] 61)) 2 (by omega) v)
    have N6 := Lib.hid (fun v => rnum2_at (h.alloc (.cells #[.int .i64 0, .int .i64 0, .int .i64 0, .int .i64 0, .int .u32 0, .int .u32 0, .slice none 0 0] 61)) 6 (by omega) v)
    have RH0 := Lib.hid (fun v => rright_any _ 20 c (l.take 20) _ ((h.alloc (.cells #[.int .i64 0, .int .i64 0, .int .i64 0, .int .i64 0, .int .u32 0, .int .u32 0, .slice none 0 0] 61)).head 20 (by omega)) (by decide) v)
    have x0 := bat_lo l 0
    have x1 := bat_hi l 0
    obtain ⟨v0, v1⟩ := two_bd l 2
    obtain ⟨z0, z1⟩ := two_bd l 6
    have E1 := Lib.hid (rE_form (l := l) h20l)
    have E2 := Lib.hid (rE_less (l := l) h20l)
    have E3 := Lib.hid (rE_zero (l := l) h20l)
    have E4 := Lib.hid (rE_sum (l := l) h20l)
    have E5 := Lib.hid (rE_ok (l := l) h20l)
    rw [hl] at E2 E3 E4 E5
    generalize rE l = E at *
    generalize hx : bat l 0 = x at *
    obtain ⟨v, hv⟩ : ∃ v, two l 2 = v := ⟨_, rfl⟩
    obtain ⟨z, hz⟩ : ∃ z, two l 6 = z := ⟨_, rfl⟩
    have V := Lib.hid hv
    have Z := Lib.hid hz
    rw [hv] at v0 v1 E1 E2 E3 E4 E5
    rw [hz] at z0 z1 E3 E4 E5
    have h20i : (20 : Int) ≤ (n : Int) := by omega
    have HE := Lib.hid hE
    clear h hl hc hv hz hx h20l hE
    by_cases hx : x = 69
    · subst hx
      by_cases h2 : v < 20
      · obtain rfl := E1.out (.inr h2)
        clear E1 E2 E3 E4 E5
        go_enter Try.func38, Try.ntmps38
        go_wp2_with (go_at_call 55; (with_reducible refine (N2.out v V.out).mono ?_); rintro e w1 ⟨rfl, rfl⟩)
        exact bodyPost_ret (v := .tuple #[.agg #[.int .i64 0, .int .i64 0, .int .i64 0, .int .i64 0, .int .u32 0, .int .u32 0, .slice none 0 0], .int .i64 11]) (by simp [results, Try.results38, go_sem]) rfl ⟨none, 0, 0, rfl, BSl.nil, (Below.refl _ _).alloc (Nat.le_refl _) _⟩
      · by_cases h3 : (n : Int) < v
        · obtain rfl := E2.out (by omega) h3
          clear E1 E2 E3 E4 E5
          go_enter Try.func38, Try.ntmps38
          go_wp2_with (go_at_call 55; (with_reducible refine (N2.out v V.out).mono ?_); rintro e w1 ⟨rfl, rfl⟩)
          exact bodyPost_ret (v := .tuple #[.agg #[.int .i64 0, .int .i64 0, .int .i64 0, .int .i64 0, .int .u32 0, .int .u32 0, .slice none 0 0], .int .i64 10]) (by simp [results, Try.results38, go_sem]) rfl ⟨none, 0, 0, rfl, BSl.nil, (Below.refl _ _).alloc (Nat.le_refl _) _⟩
        · by_cases h4 : z ≠ 0
          · obtain rfl := E3.out (by omega) h3 h4
            clear E1 E2 E3 E4 E5
            have h4b : ¬ z = 0 := h4
            clear h4
            go_enter Try.func38, Try.ntmps38
            go_wp2_with (first
              | (go_at_call 55; (with_reducible refine (N2.out v V.out).mono ?_); rintro e w1 ⟨rfl, rfl⟩)
              | (go_at_call 55; (with_reducible refine (N6.out z Z.out).mono ?_); rintro e w1 ⟨rfl, rfl⟩))
            exact bodyPost_ret (v := .tuple #[.agg #[.int .i64 0, .int .i64 0, .int .i64 0, .int .i64 0, .int .u32 0, .int .u32 0, .slice none 0 0], .int .i64 11]) (by simp [results, Try.results38, go_sem]) rfl ⟨none, 0, 0, rfl, BSl.nil, (Below.refl _ _).alloc (Nat.le_refl _) _⟩
          · have h4b : z = 0 := by omega
            subst h4b
            have F4 := Lib.hid (E4.out (by omega) h3 (by omega))
            have F5 := Lib.hid (E5.out (by omega) h3 (by omega))
            clear E1 E2 E3 E4 E5 h4
            by_cases h5 : sumF 0 (l.take 20) = 65535
            · exact absurd (F5.out h5) HE.out
            · obtain rfl := F4.out h5
              have RH := Lib.hid (RH0.out false (by simpa using h5))
              clear F4 F5 h5 RH0
              go_enter Try.func38, Try.ntmps38
              go_wp2_with (first
                | (go_at_call 55; (with_reducible refine (N2.out v V.out).mono ?_); rintro e w1 ⟨rfl, rfl⟩)
                | (go_at_call 55; (with_reducible refine (N6.out 0 Z.out).mono ?_); rintro e w1 ⟨rfl, rfl⟩)
                | (go_at_call 56; (with_reducible refine (RH.out).mono ?_); rintro e w1 ⟨rfl, rfl⟩))
              exact bodyPost_ret (v := .tuple #[.agg #[.int .i64 0, .int .i64 0, .int .i64 0, .int .i64 0, .int .u32 0, .int .u32 0, .slice none 0 0], .int .i64 12]) (by simp [results, Try.results38, go_sem]) rfl ⟨none, 0, 0, rfl, BSl.nil, (Below.refl _ _).alloc (Nat.le_refl _) _⟩
    · obtain rfl := E1.out (.inl hx)
      clear E1 E2 E3 E4 E5
      go_enter Try.func38, Try.ntmps38
      go_wp2_with (go_at_call 55; (with_reducible refine (N2.out v V.out).mono ?_); rintro e w1 ⟨rfl, rfl⟩)
      exact bodyPost_ret (v := .tuple #[.agg #[.int .i64 0, .int .i64 0, .int .i64 0, .int .i64 0, .int .u32 0, .int .u32 0, .slice none 0 0], .int .i64 11]) (by simp [results, Try.results38, go_sem]) rfl ⟨none, 0, 0, rfl, BSl.nil, (Below.refl _ _).alloc (Nat.le_refl _) _⟩

set_option maxRecDepth 20000 in
set_option maxHeartbeats 8000000 in
theorem rtake_ok (A : Option Addr) (n c : Nat) (l : List UInt8) (w : World) (h : BSl w A n c l) (hn : n ≤ 1000000) (hE : rE l = 0) :
    Calls Try.prog 38 #[.slice A n c] w (GotP w (bat l 1) (two l 4) (bat l 8) (bat l 9) (four l 12) (four l 16) (bodyF l) 0) := by
  have hl := h.len
  obtain ⟨hn20, hb69, hm0, hm1, hz6, hs5⟩ : 20 ≤ n ∧ bat l 0 = 69 ∧ 20 ≤ two l 2 ∧ two l 2 ≤ (n : Int) ∧ two l 6 = 0 ∧ sumF 0 (l.take 20) = 65535 := by
    rcases rE_cases l with ⟨_, g0, g69, g1, g2, g6, g5⟩ | e | e | e
    · rw [hl] at g0 g2; exact ⟨g0, g69, g1, g2, g6, g5⟩
    all_goals rw [e] at hE; cases hE
  have hle := h.le
  have hcap := h.cap
  obtain ⟨i0, hi, iz0, iz1, iz2⟩ := info_parts Try.info5
  have Hi := Lib.hid hi; have Hz0 := Lib.hid iz0; have Hz1 := Lib.hid iz1; have Hz2 := Lib.hid iz2
  obtain ⟨b, off, rfl, hb, hc⟩ := h.at_ (by omega)
  have H := Lib.hid h
  have hw0 := (Below.refl w.heap.size w).alloc (Nat.le_refl _) (.cells #[.int .i64 0, .int .i64 0, .int .i64 0, .int .i64 0, .int .u32 0, .int .u32 0, .slice none 0 0] 61)
  have c0 := (hw0.cell (p := ⟨b, off, none⟩) hb).trans (hc 0 (by omega))
  rw [hb69] at c0
  have N2 := Lib.hid (fun v => rnum2_at (h.alloc (.cells #[.int .i64 0, .int .i64 0, .int .i64 0, .int .i64 0, .int .u32 0, .int .u32 0, .slice none 0 0] 61)) 2 (by omega) v)
  have N6 := Lib.hid (rnum2_at (h.alloc (.cells #[.int .i64 0, .int .i64 0, .int .i64 0, .int .i64 0, .int .u32 0, .int .u32 0, .slice none 0 0] 61)) 6 (by omega) 0 hz6)
  have RH := Lib.hid (rright_any _ 20 c (l.take 20) _ ((h.alloc (.cells #[.int .i64 0, .int .i64 0, .int .i64 0, .int .i64 0, .int .u32 0, .int .u32 0, .slice none 0 0] 61)).head 20 (by omega)) (by decide) true (by rw [hs5]; rfl))
  have c1 := hc 1 (by omega)
  have c8 := hc 8 (by omega)
  have c9 := hc 9 (by omega)
  obtain ⟨m, hm⟩ : ∃ m : Nat, two l 2 = (m : Int) := ⟨(two l 2).toNat, by omega⟩
  have HM := Lib.hid (N2.out m hm)
  rw [hm] at hm0 hm1
  have BF := Lib.hid (show bodyF l = (l.drop 20).take (m - 20) by
    unfold bodyF
    rw [hm, show ((m : Int)).toNat = m from Int.toNat_natCast m, List.drop_take])
  obtain ⟨T, hT⟩ : ∃ x, bat l 1 = x := ⟨_, rfl⟩
  obtain ⟨L, hL⟩ : ∃ x, bat l 8 = x := ⟨_, rfl⟩
  obtain ⟨R, hR⟩ : ∃ x, bat l 9 = x := ⟨_, rfl⟩
  obtain ⟨I, hI⟩ : ∃ x, two l 4 = x := ⟨_, rfl⟩
  obtain ⟨S, hS⟩ : ∃ x, four l 12 = x := ⟨_, rfl⟩
  obtain ⟨D, hD⟩ : ∃ x, four l 16 = x := ⟨_, rfl⟩
  have t0 := bat_lo l 1; have t1 := bat_hi l 1; have l0 := bat_lo l 8; have l1 := bat_hi l 8; have r0 := bat_lo l 9; have r1 := bat_hi l 9
  obtain ⟨S0, S1⟩ := four_bd l 12
  obtain ⟨D0, D1⟩ := four_bd l 16
  rw [hT, hL, hR, hI, hS, hD]
  rw [hT] at c1 t0 t1
  rw [hL] at c8 l0 l1
  rw [hR] at c9 r0 r1
  rw [hS] at S0 S1
  rw [hD] at D0 D1
  have HI := Lib.hid hI
  have HS := Lib.hid hS
  have HD := Lib.hid hD
  have hw : ∀ w', Below w.heap.size w w' → w'.cell? ⟨b, off + 1, none⟩ = some (.int .u8 T) ∧ w'.cell? ⟨b, off + 8, none⟩ = some (.int .u8 L) ∧ w'.cell? ⟨b, off + 9, none⟩ = some (.int .u8 R) ∧ Below w.heap.size w w' := fun w' g =>
    ⟨(g.cell (p := ⟨b, off + 1, none⟩) hb).trans c1, (g.cell (p := ⟨b, off + 8, none⟩) hb).trans c8, (g.cell (p := ⟨b, off + 9, none⟩) hb).trans c9, g⟩
  have HW := Lib.hid hw
  have R1 := Lib.hid (show Below w.heap.size w (w.alloc (.cells #[.int .i64 0, .int .i64 0, .int .i64 0, .int .i64 0, .int .u32 0, .int .u32 0, .slice none 0 0] 61)).drew from below_drewN hw0 1)
  have H1 := Lib.hid (show BSl (w.alloc (.cells #[.int .i64 0, .int .i64 0, .int .i64 0, .int .i64 0, .int .u32 0, .int .u32 0, .slice none 0 0] 61)).drew (some ⟨b, off, none⟩) n c l from (h.alloc _).drewN 1)
  have R2 := Lib.hid (show Below w.heap.size w ((w.alloc (.cells #[.int .i64 0, .int .i64 0, .int .i64 0, .int .i64 0, .int .u32 0, .int .u32 0, .slice none 0 0] 61)).alloc (.cells #[.int .i64 0, .int .i64 0, .int .i64 0, .int .i64 0, .int .u32 0, .int .u32 0, .slice none 0 0] 61)).drew from below_drewN (two_alloc _ _ _) 1)
  have R3 := Lib.hid (show Below w.heap.size w ((w.alloc (.cells #[.int .i64 0, .int .i64 0, .int .i64 0, .int .i64 0, .int .u32 0, .int .u32 0, .slice none 0 0] 61)).alloc (.cells #[.int .i64 T, .int .i64 I, .int .i64 L, .int .i64 R, .int .u32 0, .int .u32 0, .slice none 0 0] 61)).drew from below_drewN (two_alloc _ _ _) 1)
  have H2 := Lib.hid (show BSl ((w.alloc (.cells #[.int .i64 0, .int .i64 0, .int .i64 0, .int .i64 0, .int .u32 0, .int .u32 0, .slice none 0 0] 61)).alloc (.cells #[.int .i64 0, .int .i64 0, .int .i64 0, .int .i64 0, .int .u32 0, .int .u32 0, .slice none 0 0] 61)).drew (some ⟨b, off, none⟩) n c l from ((h.alloc _).alloc _).drewN 1)
  have d1 : IntKind.i64.wrap T = T := IntWalk.i64_in _ (by omega)
  have d3 : IntKind.i64.wrap L = L := IntWalk.i64_in _ (by omega)
  have d4 : IntKind.i64.wrap R = R := IntWalk.i64_in _ (by omega)
  have j0 : (1 : Int) < (n : Int) := by omega
  have j1 : (8 : Int) < (n : Int) := by omega
  have j2 : (9 : Int) < (n : Int) := by omega
  have e4 : ¬ c = 4 := by omega
  have s6 : (6 : Int) ≤ (c : Int) := by omega
  have p6 : 6 ≤ c := by omega
  clear h hc hw hw0 c1 c8 c9 hT hL hR hI hS hD hl hE hm N2 hi iz0 iz1 iz2 hb69 hz6 hs5
  go_enter Try.func38, Try.ntmps38
  go_wp2_with (first
    | (go_at_call 55; (with_reducible refine (HM.out).mono ?_); rintro e w1 ⟨rfl, rfl⟩)
    | (go_at_call 55; (with_reducible refine (N6.out).mono ?_); rintro e w1 ⟨rfl, rfl⟩)
    | (go_at_call 56; (with_reducible refine (RH.out).mono ?_); rintro e w1 ⟨rfl, rfl⟩))
  go_region_held_law (fun w' => w'.cell? ⟨b, off + 1, none⟩ = some (.int .u8 T) ∧ w'.cell? ⟨b, off + 8, none⟩ = some (.int .u8 L) ∧ w'.cell? ⟨b, off + 9, none⟩ = some (.int .u8 R) ∧ Below w.heap.size w w')
    (first | with_reducible exact HW.out _ R1.out | with_reducible exact HW.out _ R2.out | with_reducible exact HW.out _ R3.out | with_reducible exact HW.out _ (((((((R2.out.setCell (Nat.le_succ _) _).setCell (Nat.le_succ _) _).setCell (Nat.le_succ _) _).setCell (Nat.le_succ _) _).setCell (Nat.le_succ _) _).setCell (Nat.le_succ _) _).setCell (Nat.le_succ _) _) | fail)
    (first
      | (go_at_call 55; (with_reducible refine (rnum2_at H1.out 4 (by omega) I HI.out).mono ?_); rintro e w2 ⟨rfl, rfl⟩)
      | (go_at_call 55; (with_reducible refine (rnum2_at H2.out 4 (by omega) I HI.out).mono ?_); rintro e w2 ⟨rfl, rfl⟩))
  all_goals
    have H5 := Lib.hid (show BSl ((w.alloc (.cells #[.int .i64 0, .int .i64 0, .int .i64 0, .int .i64 0, .int .u32 0, .int .u32 0, .slice none 0 0] 61)).alloc (.cells #[.int .i64 T, .int .i64 I, .int .i64 L, .int .i64 R, .int .u32 0, .int .u32 0, .slice none 0 0] 61)).drew (some ⟨b, off, none⟩) n c l from ((H.out.alloc _).alloc _).drewN 1)
    have H6 := Lib.hid (show BSl ((w.alloc (.cells #[.int .i64 0, .int .i64 0, .int .i64 0, .int .i64 0, .int .u32 0, .int .u32 0, .slice none 0 0] 61)).alloc (.cells #[.int .i64 T, .int .i64 I, .int .i64 L, .int .i64 R, .int .u32 S, .int .u32 0, .slice none 0 0] 61)).drew (some ⟨b, off, none⟩) n c l from ((H.out.alloc _).alloc _).drewN 1)
    have H7 := Lib.hid (show BSl ((w.alloc (.cells #[.int .i64 0, .int .i64 0, .int .i64 0, .int .i64 0, .int .u32 0, .int .u32 0, .slice none 0 0] 61)).alloc (.cells #[.int .i64 T, .int .i64 I, .int .i64 L, .int .i64 R, .int .u32 S, .int .u32 D, .slice none 0 0] 61)).drew (some ⟨b, off, none⟩) n c l from ((H.out.alloc _).alloc _).drewN 1)
    have B7 := Lib.hid (show Below w.heap.size w ((w.alloc (.cells #[.int .i64 0, .int .i64 0, .int .i64 0, .int .i64 0, .int .u32 0, .int .u32 0, .slice none 0 0] 61)).alloc (.cells #[.int .i64 T, .int .i64 I, .int .i64 L, .int .i64 R, .int .u32 S, .int .u32 D, .slice none 0 0] 61)).drew from below_drewN (two_alloc _ _ _) 1)
    have P7 := Lib.hid (show Box7 ((w.alloc (.cells #[.int .i64 0, .int .i64 0, .int .i64 0, .int .i64 0, .int .u32 0, .int .u32 0, .slice none 0 0] 61)).alloc (.cells #[.int .i64 T, .int .i64 I, .int .i64 L, .int .i64 R, .int .u32 S, .int .u32 D, .slice none 0 0] 61)).drew (w.heap.size + 1) (.int .i64 T) (.int .i64 I) (.int .i64 L) (.int .i64 R) (.int .u32 S) (.int .u32 D) (.slice none 0 0) from (Box7.new _ _ _ _ _ _ _ _ _ _ (by simp)).drewN 1)
    have Z7 := Lib.hid (show Box7 ((w.alloc (.cells #[.int .i64 0, .int .i64 0, .int .i64 0, .int .i64 0, .int .u32 0, .int .u32 0, .slice none 0 0] 61)).alloc (.cells #[.int .i64 T, .int .i64 I, .int .i64 L, .int .i64 R, .int .u32 S, .int .u32 D, .slice none 0 0] 61)).drew w.heap.size (.int .i64 0) (.int .i64 0) (.int .i64 0) (.int .i64 0) (.int .u32 0) (.int .u32 0) (.slice none 0 0) from ((Box7.new _ _ _ _ _ _ _ _ _ _ rfl).alloc _).drewN 1)
    have O7 := Lib.hid (show (((w.alloc (.cells #[.int .i64 0, .int .i64 0, .int .i64 0, .int .i64 0, .int .u32 0, .int .u32 0, .slice none 0 0] 61)).alloc (.cells #[.int .i64 T, .int .i64 I, .int .i64 L, .int .i64 R, .int .u32 S, .int .u32 D, .slice none 0 0] 61)).drew.alloc (.cells #[] 5)).ownsRow ((w.alloc (.cells #[.int .i64 0, .int .i64 0, .int .i64 0, .int .i64 0, .int .u32 0, .int .u32 0, .slice none 0 0] 61)).alloc (.cells #[.int .i64 T, .int .i64 I, .int .i64 L, .int .i64 R, .int .u32 S, .int .u32 D, .slice none 0 0] 61)).drew.heap.size 5 1 (.slice (some ⟨w.heap.size + 1 + 1, 0, none⟩) 0 0) 0 [] by
      have := own_new ((w.alloc (.cells #[.int .i64 0, .int .i64 0, .int .i64 0, .int .i64 0, .int .u32 0, .int .u32 0, .slice none 0 0] 61)).alloc (.cells #[.int .i64 T, .int .i64 I, .int .i64 L, .int .i64 R, .int .u32 S, .int .u32 D, .slice none 0 0] 61)).drew _ (Nat.le_refl _)
      simpa using this)
    have u1 : IntKind.u32.wrap S = S := by rw [IntKind.wrap_u32]; omega
    have u2 : IntKind.u32.wrap D = D := by rw [IntKind.wrap_u32]; omega
    clear HI N6 RH HM R1 R2 R3 H1 H2
    have hz : w.heap.size < w.heap.size + 1 + 1 := by omega
    have e12 : ¬ c = 12 := by omega
    have e16 : ¬ c = 16 := by omega
    have s16 : (16 : Int) ≤ (c : Int) := by omega
    have s20 : (20 : Int) ≤ (c : Int) := by omega
    have p16 : 16 ≤ c := by omega
    have p20 : 20 ≤ c := by omega
    have sm : (m : Int) ≤ (c : Int) := by omega
    have pm : m ≤ c := by omega
    have pm2 : 20 ≤ m := by omega
    by_cases hend : c ≤ 20
    · obtain rfl : c = 20 := by omega
      obtain rfl : n = 20 := by omega
      obtain rfl : m = 20 := by omega
      have EB := Lib.hid (show BSl ((w.alloc (.cells #[.int .i64 0, .int .i64 0, .int .i64 0, .int .i64 0, .int .u32 0, .int .u32 0, .slice none 0 0] 61)).alloc (.cells #[.int .i64 T, .int .i64 I, .int .i64 L, .int .i64 R, .int .u32 S, .int .u32 D, .slice none 0 0] 61)).drew (some ⟨b, off, none⟩) 0 0 ((l.drop 20).take (20 - 20)) by
        have hl0 : l.length = 20 := H.out.len
        have e : l.drop 20 = [] := List.drop_eq_nil_of_le (by omega)
        have := H7.out.cut_end (b := b) (off := off) (k := 20) (by omega) (by omega)
        rw [e] at this ⊢
        exact this)
      go_wp2_with (first
        | (go_at_call 55; (with_reducible refine (rnum4_at H5.out 12 (by omega) S HS.out).mono ?_); rintro e w3 ⟨rfl, rfl⟩)
        | (go_at_call 55; (with_reducible refine (rnum4_at H6.out 16 (by omega) D HD.out).mono ?_); rintro e w3 ⟨rfl, rfl⟩)
        | (at_builtin; (refine wpList_bapp rfl (.tmp 63) (.tmp 66) 22 rfl ((w.alloc (.cells #[.int .i64 0, .int .i64 0, .int .i64 0, .int .i64 0, .int .u32 0, .int .u32 0, .slice none 0 0] 61)).alloc (.cells #[.int .i64 T, .int .i64 I, .int .i64 L, .int .i64 R, .int .u32 S, .int .u32 D, .slice none 0 0] 61)).drew.heap.size 5 i0 (.int .u8 0) 1 Try.underlying22 Hi.out Hz0.out Hz1.out Hz2.out rfl _ _ _ (by rfl) O7.out (some ⟨b, off, none⟩) 0 0 _ (by rfl) ((EB.out).alloc _) (by unfold maxLen; omega) (by omega) (by simp) ?_); intro v8 w8 hown8 hgrow8; simp only [Nat.zero_add, List.nil_append] at hown8; have B8 := Lib.hid (below_app ((Below.refl ((w.alloc (.cells #[.int .i64 0, .int .i64 0, .int .i64 0, .int .i64 0, .int .u32 0, .int .u32 0, .slice none 0 0] 61)).alloc (.cells #[.int .i64 T, .int .i64 I, .int .i64 L, .int .i64 R, .int .u32 S, .int .u32 D, .slice none 0 0] 61)).drew.heap.size ((w.alloc (.cells #[.int .i64 0, .int .i64 0, .int .i64 0, .int .i64 0, .int .u32 0, .int .u32 0, .slice none 0 0] 61)).alloc (.cells #[.int .i64 T, .int .i64 I, .int .i64 L, .int .i64 R, .int .u32 S, .int .u32 D, .slice none 0 0] 61)).drew).alloc (Nat.le_refl _) _) O7.out hgrow8); obtain ⟨A8, c8, rfl⟩ := own_shape hown8; have O8 := Lib.hid hown8; have P8 := Lib.hid (P7.out.below B8.out); have Z8 := Lib.hid (Z7.out.below B8.out); obtain ⟨k0, k1, k2, k3, k4, k5, k6, kf⟩ := P8.out; obtain ⟨z0, z1, z2, z3, z4, z5, z6, zf⟩ := Z8.out; have y0 := Lib.hid Z8.out.lt; have y1 := Lib.hid P8.out.lt; clear hown8 hgrow8))
      obtain ⟨e0, e1, e2, e3, e4, e5, e6, _⟩ := (Z8.out.far (p := ⟨w.heap.size + 1, 6, none⟩) (by simp) (.slice A8 0 c8)).put (.int .i64 T) (.int .i64 I) (.int .i64 L) (.int .i64 R) (.int .u32 S) (.int .u32 D) (.slice A8 0 c8)
      have F := Lib.hid (BSl.of_own (put7_far (.int .i64 T) (.int .i64 I) (.int .i64 L) (.int .i64 R) (.int .u32 S) (.int .u32 D) (.slice A8 0 c8) (own_far (p := ⟨w.heap.size + 1, 6, none⟩) O8.out P7.out.lt (.slice A8 0 c8)) Z7.out.lt))
      have G := Lib.hid (put7_below (.int .i64 T) (.int .i64 I) (.int .i64 L) (.int .i64 R) (.int .u32 S) (.int .u32 D) (.slice A8 0 c8) ((trans_below B7.out B8.out).setCell (p := ⟨w.heap.size + 1, 6, none⟩) (Nat.le_succ _) (.slice A8 0 c8)) (Nat.le_refl _))
      change bodyPost _ _ _ _ _ (put7 (w8.setCell ⟨w.heap.size + 1, 6, none⟩ (.slice A8 0 c8)) w.heap.size (.int .i64 T) (.int .i64 I) (.int .i64 L) (.int .i64 R) (.int .u32 S) (.int .u32 D) (.slice A8 0 c8))
      generalize put7 (w8.setCell ⟨w.heap.size + 1, 6, none⟩ (.slice A8 0 c8)) w.heap.size (.int .i64 T) (.int .i64 I) (.int .i64 L) (.int .i64 R) (.int .u32 S) (.int .u32 D) (.slice A8 0 c8) = w9 at *
      exact bodyPost_ret (v := .tuple #[.agg #[.int .i64 T, .int .i64 I, .int .i64 L, .int .i64 R, .int .u32 S, .int .u32 D, .slice A8 0 c8], .int .i64 0]) (by simp [results, Try.results38, go_sem, e0, e1, e2, e3, e4, e5, e6]) rfl
        ⟨A8, 0, c8, rfl, by rw [BF.out]; exact F.out, G.out⟩
    · have hne : ¬ c = 20 := by omega
      go_wp2_with (first
        | (go_at_call 55; (with_reducible refine (rnum4_at H5.out 12 (by omega) S HS.out).mono ?_); rintro e w3 ⟨rfl, rfl⟩)
        | (go_at_call 55; (with_reducible refine (rnum4_at H6.out 16 (by omega) D HD.out).mono ?_); rintro e w3 ⟨rfl, rfl⟩)
        | (at_builtin; (refine wpList_bapp rfl (.tmp 63) (.tmp 66) 22 rfl ((w.alloc (.cells #[.int .i64 0, .int .i64 0, .int .i64 0, .int .i64 0, .int .u32 0, .int .u32 0, .slice none 0 0] 61)).alloc (.cells #[.int .i64 T, .int .i64 I, .int .i64 L, .int .i64 R, .int .u32 S, .int .u32 D, .slice none 0 0] 61)).drew.heap.size 5 i0 (.int .u8 0) 1 Try.underlying22 Hi.out Hz0.out Hz1.out Hz2.out rfl _ _ _ (by rfl) O7.out (some ⟨b, off + 20, none⟩) (m - 20) (c - 20) _ (by rfl) ((H7.out.sub 20 (m - 20) (by omega)).alloc _) (by unfold maxLen; omega) (by omega) (by simp) ?_); intro v8 w8 hown8 hgrow8; simp only [Nat.zero_add, List.nil_append] at hown8; have B8 := Lib.hid (below_app ((Below.refl ((w.alloc (.cells #[.int .i64 0, .int .i64 0, .int .i64 0, .int .i64 0, .int .u32 0, .int .u32 0, .slice none 0 0] 61)).alloc (.cells #[.int .i64 T, .int .i64 I, .int .i64 L, .int .i64 R, .int .u32 S, .int .u32 D, .slice none 0 0] 61)).drew.heap.size ((w.alloc (.cells #[.int .i64 0, .int .i64 0, .int .i64 0, .int .i64 0, .int .u32 0, .int .u32 0, .slice none 0 0] 61)).alloc (.cells #[.int .i64 T, .int .i64 I, .int .i64 L, .int .i64 R, .int .u32 S, .int .u32 D, .slice none 0 0] 61)).drew).alloc (Nat.le_refl _) _) O7.out hgrow8); obtain ⟨A8, c8, rfl⟩ := own_shape hown8; have O8 := Lib.hid hown8; have P8 := Lib.hid (P7.out.below B8.out); have Z8 := Lib.hid (Z7.out.below B8.out); obtain ⟨k0, k1, k2, k3, k4, k5, k6, kf⟩ := P8.out; obtain ⟨z0, z1, z2, z3, z4, z5, z6, zf⟩ := Z8.out; have y0 := Lib.hid Z8.out.lt; have y1 := Lib.hid P8.out.lt; clear hown8 hgrow8))
      obtain ⟨e0, e1, e2, e3, e4, e5, e6, _⟩ := (Z8.out.far (p := ⟨w.heap.size + 1, 6, none⟩) (by simp) (.slice A8 (m - 20) c8)).put (.int .i64 T) (.int .i64 I) (.int .i64 L) (.int .i64 R) (.int .u32 S) (.int .u32 D) (.slice A8 (m - 20) c8)
      have F := Lib.hid (BSl.of_own (put7_far (.int .i64 T) (.int .i64 I) (.int .i64 L) (.int .i64 R) (.int .u32 S) (.int .u32 D) (.slice A8 (m - 20) c8) (own_far (p := ⟨w.heap.size + 1, 6, none⟩) O8.out P7.out.lt (.slice A8 (m - 20) c8)) Z7.out.lt))
      have G := Lib.hid (put7_below (.int .i64 T) (.int .i64 I) (.int .i64 L) (.int .i64 R) (.int .u32 S) (.int .u32 D) (.slice A8 (m - 20) c8) ((trans_below B7.out B8.out).setCell (p := ⟨w.heap.size + 1, 6, none⟩) (Nat.le_succ _) (.slice A8 (m - 20) c8)) (Nat.le_refl _))
      change bodyPost _ _ _ _ _ (put7 (w8.setCell ⟨w.heap.size + 1, 6, none⟩ (.slice A8 (m - 20) c8)) w.heap.size (.int .i64 T) (.int .i64 I) (.int .i64 L) (.int .i64 R) (.int .u32 S) (.int .u32 D) (.slice A8 (m - 20) c8))
      generalize put7 (w8.setCell ⟨w.heap.size + 1, 6, none⟩ (.slice A8 (m - 20) c8)) w.heap.size (.int .i64 T) (.int .i64 I) (.int .i64 L) (.int .i64 R) (.int .u32 S) (.int .u32 D) (.slice A8 (m - 20) c8) = w9 at *
      exact bodyPost_ret (v := .tuple #[.agg #[.int .i64 T, .int .i64 I, .int .i64 L, .int .i64 R, .int .u32 S, .int .u32 D, .slice A8 (m - 20) c8], .int .i64 0]) (by simp [results, Try.results38, go_sem, e0, e1, e2, e3, e4, e5, e6]) rfl
        ⟨A8, (m - 20), c8, rfl, by rw [BF.out]; exact F.out, G.out⟩
end Go.Proofs.Ytgmeicenjgiihaa
