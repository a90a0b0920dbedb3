/- The contract of ipv4.Take. -/
import Derived.Test.YtgmeicenjgiihaaPkRef
import Derived.Test.YtgmeicenjgiihaaPkPutF
import Derived.Test.YtgmeicenjgiihaaPkBox
import Derived.Deep.RegionHeldLaw
namespace Go.Proofs.Ytgmeicenjgiihaa
open Go.RowKit
open Go.Lib (byteCells)

theorem ptake_no (A : Option Addr) (n c : Nat) (l : List UInt8) (w : World) (h : BSl w A n c l) (hE : ¬ rE l = 0) :
    Calls Try.prog 52 #[.slice A n c] w (GotP w 0 0 0 0 0 0 [] (rE l)) := by
  have RF := Lib.hid (refused_any A n c l (w.alloc (.cells #[.int .i64 0, .int .i64 0, .int .i64 0, .int .i64 0, .int .u32 0, .int .u32 0, .slice none 0 0] 61)) (h.alloc _))
  generalize rE l = E at *
  clear h
  go_enter Try.func52, Try.ntmps52
  go_wp2_with (go_at_call 61; (with_reducible refine (RF.out).mono ?_); rintro e w1 ⟨rfl, hb1⟩; obtain ⟨p1, q1⟩ := bcell hb1; have hB := Lib.hid (one_below hb1); have zb : w.heap.size < w1.heap.size := by { have := hb1.size; simp at this; omega })
  exact bodyPost_ret (v := .tuple #[.agg #[.int .i64 0, .int .i64 0, .int .i64 0, .int .i64 0, .int .u32 0, .int .u32 0, .slice none 0 0], .int .i64 E]) (by simp [results, Try.results52, go_sem, p1]) rfl
    ⟨none, 0, 0, rfl, BSl.nil, (((((((hB.out.setCell (Nat.le_refl _) _).setCell (Nat.le_refl _) _).setCell (Nat.le_refl _) _).setCell (Nat.le_refl _) _).setCell (Nat.le_refl _) _).setCell (Nat.le_refl _) _).setCell (Nat.le_refl _) _)⟩

theorem bodyF_eq {l : List UInt8} {m : Nat} (h : two l 2 = (m : Int)) : bodyF l = (l.drop 20).take (m - 20) := by
  unfold bodyF
  rw [h, show ((m : Int)).toNat = m from Int.toNat_natCast m, List.drop_take]

set_option maxHeartbeats 4000000 in
theorem ptake_ok (A : Option Addr) (n c : Nat) (l : List UInt8) (w : World) (h : BSl w A n c l) (hn : n ≤ 1000000) (hE : rE l = 0) :
    Calls Try.prog 52 #[.slice A n c] w (GotP w (bat l 1) (two l 4) (bat l 8) (bat l 9) (four l 12) (four l 16) (bodyF l) 0) := by
  have hl := h.len
  obtain ⟨hn20, hm0, hm1⟩ : 20 ≤ n ∧ 20 ≤ two l 2 ∧ two l 2 ≤ (n : Int) := by
    rcases rE_cases l with ⟨_, g0, _, g1, g2, _⟩ | e | e | e
    · rw [hl] at g0 g2; exact ⟨g0, g1, g2⟩
    all_goals rw [e] at hE; cases hE
  have hle := h.le
  have hcap := h.cap
  obtain ⟨b, off, rfl, hb, hc⟩ := h.at_ (by omega)
  have H := Lib.hid h
  have RF := Lib.hid (by have := refused_any (some ⟨b, off, none⟩) n c l (w.alloc (.cells #[.int .i64 0, .int .i64 0, .int .i64 0, .int .i64 0, .int .u32 0, .int .u32 0, .slice none 0 0] 61)) (h.alloc _); rw [hE] at this; exact this)
  have c1 := hc 1 (by omega)
  have c8 := hc 8 (by omega)
  have c9 := hc 9 (by omega)
  obtain ⟨m, hm⟩ : ∃ m : Nat, two l 2 = (m : Int) := ⟨(two l 2).toNat, by omega⟩
  have HM := Lib.hid hm
  rw [hm] at hm0 hm1
  have BF := Lib.hid (bodyF_eq hm)
  obtain ⟨T, hT⟩ : ∃ x, bat l 1 = x := ⟨_, rfl⟩
  obtain ⟨L, hL⟩ : ∃ x, bat l 8 = x := ⟨_, rfl⟩
  obtain ⟨R, hR⟩ : ∃ x, bat l 9 = x := ⟨_, rfl⟩
  obtain ⟨I, hI⟩ : ∃ x, two l 4 = x := ⟨_, rfl⟩
  obtain ⟨S, hS⟩ : ∃ x, four l 12 = x := ⟨_, rfl⟩
  obtain ⟨D, hD⟩ : ∃ x, four l 16 = x := ⟨_, rfl⟩
  have t0 := bat_lo l 1; have t1 := bat_hi l 1; have l0 := bat_lo l 8; have l1 := bat_hi l 8; have r0 := bat_lo l 9; have r1 := bat_hi l 9
  obtain ⟨g0, g1⟩ := two_bd l 4
  rw [hT, hL, hR, hI, hS, hD]
  rw [hT] at c1 t0 t1
  rw [hL] at c8 l0 l1
  rw [hR] at c9 r0 r1
  rw [hI] at g0 g1
  have HI := Lib.hid hI
  have HS := Lib.hid hS
  have HD := Lib.hid hD
  have hw : ∀ w', Below w.heap.size w w' → w'.cell? ⟨b, off + 1, none⟩ = some (.int .u8 T) ∧ w'.cell? ⟨b, off + 8, none⟩ = some (.int .u8 L) ∧ w'.cell? ⟨b, off + 9, none⟩ = some (.int .u8 R) ∧ Below w.heap.size w w' := fun w' g =>
    ⟨(g.cell (p := ⟨b, off + 1, none⟩) hb).trans c1, (g.cell (p := ⟨b, off + 8, none⟩) hb).trans c8, (g.cell (p := ⟨b, off + 9, none⟩) hb).trans c9, g⟩
  have HW := Lib.hid hw
  have d1 : IntKind.i64.wrap T = T := IntWalk.i64_in _ (by omega)
  have d2 : IntKind.i64.wrap I = I := IntWalk.i64_in _ (by omega)
  have d3 : IntKind.i64.wrap L = L := IntWalk.i64_in _ (by omega)
  have d4 : IntKind.i64.wrap R = R := IntWalk.i64_in _ (by omega)
  have j0 : (1 : Int) < (n : Int) := by omega
  have j1 : (8 : Int) < (n : Int) := by omega
  have j2 : (9 : Int) < (n : Int) := by omega
  clear h hc hw c1 c8 c9 hT hL hR hI hS hD hl hE hm
  by_cases hend : c ≤ 20
  · obtain rfl : c = 20 := by omega
    obtain rfl : n = 20 := by omega
    obtain rfl : m = 20 := by omega
    have EB := Lib.hid (show ∀ w', Below w.heap.size w w' → BSl w' (some ⟨b, off, none⟩) 0 0 ((l.drop 20).take (20 - 20)) from fun w' g => by
      have hl0 : l.length = 20 := H.out.len
      have e : l.drop 20 = [] := List.drop_eq_nil_of_le (by omega)
      have := (H.out.cut_end (b := b) (off := off) (k := 20) (by omega) (by omega)).below g
      rw [e] at this ⊢
      exact this)
    go_enter Try.func52, Try.ntmps52
    go_wp2_with (go_at_call 61; (with_reducible refine (RF.out).mono ?_); rintro e w1 ⟨rfl, hb1⟩; have B1 := Lib.hid (one_below hb1); have K1 := Lib.hid hb1; have zb : w.heap.size < w1.heap.size := by { have := hb1.size; simp at this; omega }; clear hb1)
    have hS := HW.out w1.drew (below_drewN B1.out 1)
    have H1 := Lib.hid (show BSl w1.drew (some ⟨b, off, none⟩) 20 20 l from (H.out.below B1.out).drewN 1)
    have R1 := Lib.hid (show Below w.heap.size w w1.drew from below_drewN B1.out 1)
    have Z := Lib.hid (show w.heap.size < w1.drew.heap.size from zb)
    have KD := Lib.hid (show Below (w.alloc (.cells #[.int .i64 0, .int .i64 0, .int .i64 0, .int .i64 0, .int .u32 0, .int .u32 0, .slice none 0 0] 61)).heap.size (w.alloc (.cells #[.int .i64 0, .int .i64 0, .int .i64 0, .int .i64 0, .int .u32 0, .int .u32 0, .slice none 0 0] 61)) w1.drew from below_drewN K1.out 1)
    go_region_held_law (fun w' => w'.cell? ⟨b, off + 1, none⟩ = some (.int .u8 T) ∧ w'.cell? ⟨b, off + 8, none⟩ = some (.int .u8 L) ∧ w'.cell? ⟨b, off + 9, none⟩ = some (.int .u8 R) ∧ Below w.heap.size w w')
      (first | with_reducible exact hS | with_reducible exact HW.out _ B2.out | with_reducible exact HW.out _ (((((((B2.out.setCell (Nat.le_refl _) _).setCell (Nat.le_refl _) _).setCell (Nat.le_refl _) _).setCell (Nat.le_refl _) _).setCell (Nat.le_refl _) _).setCell (Nat.le_refl _) _).setCell (Nat.le_refl _) _) | fail)
      (first
        | (go_at_call 62; (with_reducible refine (num2_at H1.out 4 (by omega) I HI.out).mono ?_); rintro e w2 ⟨rfl, rfl⟩)
        | (go_at_call 62; (with_reducible refine (num4_at H1.out 12 (by omega) S HS.out).mono ?_); rintro e w2 ⟨rfl, rfl⟩)
        | (go_at_call 62; (with_reducible refine (num4_at H1.out 16 (by omega) D HD.out).mono ?_); rintro e w2 ⟨rfl, rfl⟩)
        | (go_at_call 63; (with_reducible refine (size_any _ 20 20 l _ H1.out (by omega) ((20 : Nat) : Int) HM.out).mono ?_); rintro e w2 ⟨rfl, rfl⟩)
        | (go_at_call 20; (with_reducible refine (clone_any _ _ _ _ _ (EB.out _ R1.out) (by omega)).mono ?_); rintro e w2 ⟨v2, rfl, hown2, hb2⟩; obtain ⟨A2, c2, rfl⟩ := own_shape hown2; have z2 : w.heap.size < w2.heap.size := Nat.lt_of_lt_of_le Z.out hb2.size; obtain ⟨k0, k1, k2, k3, k4, k5, k6, _⟩ := pk_keep (trans_below KD.out hb2); have f2 := pk_free (trans_below KD.out hb2); have B2 := Lib.hid (trans_below R1.out hb2); have O2 := Lib.hid hown2; clear hown2 hb2))
    all_goals
      go_wp2
      obtain ⟨e0, e1, e2, e3, e4, e5, e6⟩ := put7_cells (.int .i64 T) (.int .i64 I) (.int .i64 L) (.int .i64 R) (.int .u32 S) (.int .u32 D) (.slice A2 0 c2) (seven k0 k1 k2 k3 k4 k5 k6)
      have F := Lib.hid (BSl.of_own (put7_far (.int .i64 T) (.int .i64 I) (.int .i64 L) (.int .i64 R) (.int .u32 S) (.int .u32 D) (.slice A2 0 c2) O2.out Z.out))
      have G := Lib.hid (put7_below (.int .i64 T) (.int .i64 I) (.int .i64 L) (.int .i64 R) (.int .u32 S) (.int .u32 D) (.slice A2 0 c2) B2.out (Nat.le_refl _))
      change bodyPost _ _ _ _ _ (put7 w2 w.heap.size (.int .i64 T) (.int .i64 I) (.int .i64 L) (.int .i64 R) (.int .u32 S) (.int .u32 D) (.slice A2 0 c2))
      generalize put7 w2 w.heap.size (.int .i64 T) (.int .i64 I) (.int .i64 L) (.int .i64 R) (.int .u32 S) (.int .u32 D) (.slice A2 0 c2) = w3 at *
      exact bodyPost_ret (v := .tuple #[.agg #[.int .i64 T, .int .i64 I, .int .i64 L, .int .i64 R, .int .u32 S, .int .u32 D, .slice A2 0 c2], .int .i64 0]) (by simp [results, Try.results52, go_sem, e0, e1, e2, e3, e4, e5, e6]) rfl
        ⟨A2, 0, c2, rfl, by rw [BF.out]; exact F.out, G.out⟩
  · have hne : ¬ c = 20 := by omega
    have e4 : ¬ c = 4 := by omega
    have e12 : ¬ c = 12 := by omega
    have e16 : ¬ c = 16 := by omega
    have s6 : (6 : Int) ≤ (c : Int) := by omega
    have s16 : (16 : Int) ≤ (c : Int) := by omega
    have s20 : (20 : Int) ≤ (c : Int) := by omega
    have p6 : 6 ≤ c := by omega
    have p16 : 16 ≤ c := by omega
    have p20 : 20 ≤ c := by omega
    have sm : (m : Int) ≤ (c : Int) := by omega
    have pm : m ≤ c := by omega
    have pm2 : 20 ≤ m := by omega
    go_enter Try.func52, Try.ntmps52
    go_wp2_with (go_at_call 61; (with_reducible refine (RF.out).mono ?_); rintro e w1 ⟨rfl, hb1⟩; have B1 := Lib.hid (one_below hb1); have K1 := Lib.hid hb1; have zb : w.heap.size < w1.heap.size := by { have := hb1.size; simp at this; omega }; clear hb1)
    have hS := HW.out w1.drew (below_drewN B1.out 1)
    have H1 := Lib.hid (show BSl w1.drew (some ⟨b, off, none⟩) n c l from (H.out.below B1.out).drewN 1)
    have R1 := Lib.hid (show Below w.heap.size w w1.drew from below_drewN B1.out 1)
    have Z := Lib.hid (show w.heap.size < w1.drew.heap.size from zb)
    have KD := Lib.hid (show Below (w.alloc (.cells #[.int .i64 0, .int .i64 0, .int .i64 0, .int .i64 0, .int .u32 0, .int .u32 0, .slice none 0 0] 61)).heap.size (w.alloc (.cells #[.int .i64 0, .int .i64 0, .int .i64 0, .int .i64 0, .int .u32 0, .int .u32 0, .slice none 0 0] 61)) w1.drew from below_drewN K1.out 1)
    go_region_held_law (fun w' => w'.cell? ⟨b, off + 1, none⟩ = some (.int .u8 T) ∧ w'.cell? ⟨b, off + 8, none⟩ = some (.int .u8 L) ∧ w'.cell? ⟨b, off + 9, none⟩ = some (.int .u8 R) ∧ Below w.heap.size w w')
      (first | with_reducible exact hS | with_reducible exact HW.out _ B2.out | with_reducible exact HW.out _ (((((((B2.out.setCell (Nat.le_refl _) _).setCell (Nat.le_refl _) _).setCell (Nat.le_refl _) _).setCell (Nat.le_refl _) _).setCell (Nat.le_refl _) _).setCell (Nat.le_refl _) _).setCell (Nat.le_refl _) _) | fail)
      (first
        | (go_at_call 62; (with_reducible refine (num2_at H1.out 4 (by omega) I HI.out).mono ?_); rintro e w2 ⟨rfl, rfl⟩)
        | (go_at_call 62; (with_reducible refine (num4_at H1.out 12 (by omega) S HS.out).mono ?_); rintro e w2 ⟨rfl, rfl⟩)
        | (go_at_call 62; (with_reducible refine (num4_at H1.out 16 (by omega) D HD.out).mono ?_); rintro e w2 ⟨rfl, rfl⟩)
        | (go_at_call 63; (with_reducible refine (size_any _ n c l _ H1.out (by omega) m HM.out).mono ?_); rintro e w2 ⟨rfl, rfl⟩)
        | (go_at_call 20; (with_reducible refine (clone_any _ _ _ _ _ (H1.out.sub 20 (m - 20) (by omega)) (by omega)).mono ?_); rintro e w2 ⟨v2, rfl, hown2, hb2⟩; obtain ⟨A2, c2, rfl⟩ := own_shape hown2; have z2 : w.heap.size < w2.heap.size := Nat.lt_of_lt_of_le Z.out hb2.size; obtain ⟨k0, k1, k2, k3, k4, k5, k6, _⟩ := pk_keep (trans_below KD.out hb2); have f2 := pk_free (trans_below KD.out hb2); have B2 := Lib.hid (trans_below R1.out hb2); have O2 := Lib.hid hown2; clear hown2 hb2))
    all_goals
      go_wp2
      obtain ⟨e0, e1, e2, e3, e4, e5, e6⟩ := put7_cells (.int .i64 T) (.int .i64 I) (.int .i64 L) (.int .i64 R) (.int .u32 S) (.int .u32 D) (.slice A2 (m - 20) c2) (seven k0 k1 k2 k3 k4 k5 k6)
      have F := Lib.hid (BSl.of_own (put7_far (.int .i64 T) (.int .i64 I) (.int .i64 L) (.int .i64 R) (.int .u32 S) (.int .u32 D) (.slice A2 (m - 20) c2) O2.out Z.out))
      have G := Lib.hid (put7_below (.int .i64 T) (.int .i64 I) (.int .i64 L) (.int .i64 R) (.int .u32 S) (.int .u32 D) (.slice A2 (m - 20) c2) B2.out (Nat.le_refl _))
      change bodyPost _ _ _ _ _ (put7 w2 w.heap.size (.int .i64 T) (.int .i64 I) (.int .i64 L) (.int .i64 R) (.int .u32 S) (.int .u32 D) (.slice A2 (m - 20) c2))
      generalize put7 w2 w.heap.size (.int .i64 T) (.int .i64 I) (.int .i64 L) (.int .i64 R) (.int .u32 S) (.int .u32 D) (.slice A2 (m - 20) c2) = w3 at *
      exact bodyPost_ret (v := .tuple #[.agg #[.int .i64 T, .int .i64 I, .int .i64 L, .int .i64 R, .int .u32 S, .int .u32 D, .slice A2 (m - 20) c2], .int .i64 0]) (by simp [results, Try.results52, go_sem, e0, e1, e2, e3, e4, e5, e6]) rfl
        ⟨A2, (m - 20), c2, rfl, by rw [BF.out]; exact F.out, G.out⟩
end Go.Proofs.Ytgmeicenjgiihaa
