/- The contract of palinglaw10.works, the chapter's example: it holds; the walk of LineRows. -/
import Derived.Test.YthmncaebkkmkjaaLnWd
namespace Go.Proofs.Ythmncaebkkmkjaa
open Go.RowKit
open Go.Lib (byteCells)

theorem bsl_three (w : World) (a b c : Int) (fr : Nat × Nat) (ha : 0 ≤ a ∧ a < 256) (hb : 0 ≤ b ∧ b < 256) (hc : 0 ≤ c ∧ c < 256) : BSl (w.alloc (.cells #[.int .u8 a, .int .u8 b, .int .u8 c] 5 fr)) (some ⟨w.heap.size, 0, none⟩) 3 3 [u8 a, u8 b, u8 c] := by
  have e : nums [u8 a, u8 b, u8 c] = [a, b, c] := nums_u8 [a, b, c] (by simp; exact ⟨ha, hb, hc⟩)
  refine ⟨?_, fun e => by cases e⟩
  rw [e]
  refine ⟨rfl, Nat.le_refl _, by unfold maxLen; omega, fun _ => ⟨w.heap.size, 0, rfl, by simp, fun j hj => ?_⟩⟩
  match j, hj with
  | 0, _ => rw [World.cell?_alloc_mark]; rfl
  | 1, _ => rw [World.cell?_alloc_mark]; rfl
  | 2, _ => rw [World.cell?_alloc_mark]; rfl
theorem two_at {w : World} {b o c : Nat} {p q : List UInt8} (h : SSl w (some ⟨b, o, none⟩) 2 c [p, q]) : w.cell? ⟨b, o, none⟩ = some (.string (str p)) ∧ w.cell? ⟨b, o + 1, none⟩ = some (.string (str q)) := by
  obtain ⟨b', o', e, _, hc⟩ := h.at_ (by decide)
  cases e
  exact ⟨hc 0 (by decide), hc 1 (by decide)⟩
set_option maxRecDepth 20000 in
set_option maxHeartbeats 1000000 in
theorem works10_any (w : World) : Calls Try.prog 7 #[] w fun e w' => e = .returned (.bool true) ∧ Below w.heap.size w w' := by
  have WD := Lib.hid (show ∀ w, Calls Try.prog 11 #[.string ⟨#[97, 32, 32, 98, 32, 35, 32, 99]⟩] w (GotS w [[97], [98]] 0) from fun w => by
    have := xwords_any [97, 32, 32, 98, 32, 35, 32, 99] w (by decide)
    unfold GotWords at this
    rw [show wdE [97, 32, 32, 98, 32, 35, 32, 99] = 0 by decide +kernel, os_ok, show wsF (ahead [97, 32, 32, 98, 32, 35, 32, 99]) = [[97], [98]] by decide +kernel] at this
    exact this)
  have RW := Lib.hid (show ∀ w A c, BSl w A 3 c [97, 10, 98] → Calls Try.prog 8 #[.slice A 3 c] w (GotS w [[97], [98]] 0) from fun w A c h => by
    have := xrows_any A 3 c [97, 10, 98] w h
    unfold GotRows at this
    rw [show rwE [97, 10, 98] = 0 by decide +kernel, os_ok, show rwF [97, 10, 98] = [[97], [98]] by decide +kernel] at this
    exact this)
  have W1 := Lib.hid (show ∀ w, Calls Try.prog 15 #[.string ⟨#[97]⟩] w fun e w' => e = .returned (.bool true) ∧ Below w.heap.size w w' from fun w => by
    have := xword_any [97] w (by decide)
    rw [show wordF [97] = true by decide +kernel] at this
    exact this)
  have W2 := Lib.hid (show ∀ w, Calls Try.prog 15 #[.string ⟨#[]⟩] w fun e w' => e = .returned (.bool false) ∧ Below w.heap.size w w' from fun w => by
    have := xword_any [] w (by decide)
    rw [show wordF [] = false by decide +kernel] at this
    exact this)
  have hcv := fun w : World => Joins.run_convert_bytes_const_at (P := Try.prog) w 22 5 #[.int .u8 97, .int .u8 10, .int .u8 98] 3 3 w.heap.size rfl Try.underlying22 Try.underlying5
  have L3 := Lib.hid (fun w : World => show BSl (w.alloc (.cells #[.int .u8 97, .int .u8 10, .int .u8 98] 5 (3, 4))) (some ⟨w.heap.size, 0, none⟩) 3 3 [97, 10, 98] from bsl_three w 97 10 98 (3, 4) ⟨by decide, by decide⟩ ⟨by decide, by decide⟩ ⟨by decide, by decide⟩)
  have hq1 : ((str [97]).toList == (⟨#[97]⟩ : ByteArray).toList) = true := by rw [show (⟨#[97]⟩ : ByteArray) = str [97] from rfl]; exact beq_self_eq_true _
  have hq2 : ((str [98]).toList == (⟨#[98]⟩ : ByteArray).toList) = true := by rw [show (⟨#[98]⟩ : ByteArray) = str [98] from rfl]; exact beq_self_eq_true _
  go_enter Try.func7, Try.ntmps7
  go_wp2_with (first
    | (go_at_call 11; (with_reducible refine (WD.out _).mono ?_); rintro e w1 ⟨A1, n1, c1, rfl, s1, hb1⟩; obtain rfl : n1 = 2 := s1.len.symm; obtain ⟨b1, o1, rfl, hl1, hc1⟩ := s1.at_ (by decide); have B1 := Lib.hid hb1; have C1 := Lib.hid s1; clear s1 hb1 hc1)
    | (go_at_call 8; (with_reducible refine (RW.out _ _ _ (L3.out _)).mono ?_); rintro e w2 ⟨A2, n2, c2, rfl, s2, hb2⟩; obtain rfl : n2 = 2 := s2.len.symm; have B2 := Lib.hid (trans_below B1.out (one_below hb2)); obtain ⟨y0, y1⟩ := two_at ((C1.out.below ((Below.refl _ _).alloc (Nat.le_refl _) _)).below hb2); clear s2 hb2)
    | (go_at_call 15; (with_reducible refine (W1.out _).mono ?_); rintro e w3 ⟨rfl, hb3⟩)
    | (go_at_call 15; (with_reducible refine (W2.out _).mono ?_); rintro e w4 ⟨rfl, hb4⟩))
  go_ret
  exact ⟨rfl, trans_below B2.out (trans_below hb3 hb4)⟩

theorem rows_walk (A : Option Addr) (n c : Nat) (l : List UInt8) (w : World) (h : BSl w A n c l) :
    Calls Try.prog 3 #[.slice A n c] w fun e w' => e = .returned (.bool true) ∧ Below w.heap.size w w' := by
  by_cases hn : 60000 < n
  · clear h
    go_enter Try.func3, Try.ntmps3
    go_wp2_with (go_at_call 7; (with_reducible refine (works10_any _).mono ?_); rintro e w1 ⟨rfl, hb1⟩)
    go_ret
    exact ⟨rfl, hb1⟩
  · have H1 := fun (w : World) h => xrows_any A n c l w h
    have H2 := fun (w : World) h => rrows_any A n c l w h
    unfold GotRows at H1 H2
    generalize os (rwE l) (rwF l) = k at H1 H2
    generalize rwE l = E at H1 H2
    have H1 := Lib.hid H1
    have H2 := Lib.hid H2
    have HS := Lib.hid h
    have TT := Lib.hid (show (k == k) = true from beq_self_eq_true _)
    have i1 : ¬ (60000 : Int) < (n : Int) := by omega
    clear h
    go_enter Try.func3, Try.ntmps3
    go_wp2_with (first
      | (go_at_call 8; (with_reducible refine (H1.out _ HS.out).mono ?_); rintro e w1 ⟨A1, n1, c1, rfl, s1, hb1⟩)
      | (go_at_call 9; (with_reducible refine (H2.out _ (HS.out.below hb1)).mono ?_); rintro e w2 ⟨A2, n2, c2, rfl, s2, hb2⟩)
      | (go_at_call 10; (with_reducible refine (rtexts_any A1 n1 c1 k A2 n2 c2 k _ (s1.below hb2) s2 true TT.out).mono ?_); rintro e w3 ⟨rfl, hb3⟩)
      | (go_at_call 7; (with_reducible refine (works10_any _).mono ?_); rintro e w4 ⟨rfl, hb4⟩))
    go_ret
    exact ⟨by simp, trans_below hb1 (trans_below hb2 (trans_below hb3 hb4))⟩
end Go.Proofs.Ythmncaebkkmkjaa
