/- The contract of line.Words. -/
import Derived.Test.YthmncaebkkmkjaaLnOwn
namespace Go.Proofs.Ythmncaebkkmkjaa
open Go.RowKit
open Go.Lib (byteCells)

set_option maxRecDepth 20000 in
set_option maxHeartbeats 4000000 in
theorem xwords_any (l : List UInt8) (w : World) (hs : l.length ≤ 100000) : Calls Try.prog 11 #[.string (str l)] w (GotWords w l) := by
  unfold GotWords
  obtain ⟨a1, a2, a3, a4⟩ := ahead_spec l
  have EO := Lib.hid (wdE_ok (l := l))
  have EN := Lib.hid (wdE_no (l := l))
  have WL := Lib.hid (wsS_len (ahead l))
  have WP := Lib.hid (wsS_part (ahead l))
  have A2 := Lib.hid a2
  have A3 := Lib.hid a3
  have A4 := Lib.hid a4
  generalize hE : wdE l = E at *
  obtain ⟨N, hN⟩ : ∃ N, (ahead l).length = N := ⟨_, rfl⟩
  have HN := Lib.hid hN
  rw [hN] at a1
  obtain ⟨c0, W0, CV, hb0, hlt0, hcells⟩ := conv_row l w
  have B0 := Lib.hid hb0
  have HC := Lib.hid hcells
  obtain ⟨L, hL⟩ : ∃ L, l.length = L := ⟨_, rfl⟩
  have HL := Lib.hid hL
  rw [hL] at a1 hs CV
  have hsz : (str l).size = L := by rw [str_size, hL]
  clear a2 a3 a4 hE hN hL hb0 hcells
  go_enter Try.func11, Try.ntmps11
  go_wp2
  go_step3
  go_wp2
  go_step3
  go_wp2
  go_loopw [4, 5, 6, 16] (fun v vf vt vi wr => ∃ k f : Nat, vi = .int .i64 k ∧ vf = .int .i64 f ∧ vt = .int .i64 L ∧ k ≤ N ∧ f + (wsS (l.take k)).2.length = k ∧ wr.ownsRow W0.heap.size 9 1 v (wsS (l.take k)).1.length (txts (wsS (l.take k)).1) ∧ Below W0.heap.size W0 wr) (fun _ _ _ vi _ => match vi with | .int _ x => (N + 2 - x).toNat | _ => 0)
  case atStart => exact ⟨0, 0, rfl, rfl, rfl, by omega, rfl, World.ownsRow_nil _ _ _ _, Below.refl _ _⟩
  case round =>
    obtain ⟨k, f, rfl, rfl, rfl, hk, hf, ho, hw⟩ := hrel
    have BW := Lib.hid hw
    obtain ⟨A0, k0, hv0⟩ := own_shape ho
    subst hv0
    have O := Lib.hid ho
    have KL := wsS_len (l.take k)
    rw [List.length_take] at KL
    have KL1 : (wsS (l.take k)).1.length ≤ 1000000 := by omega
    have KL2 : (wsS (l.take k)).2.length ≤ 1000000 := by omega
    have XP := extract_mid l f k
    rw [ws_sub l k f (by rw [HL.out]; omega) hf] at XP
    have XA := Lib.hid (fun u hu ho => xadd_any W0.heap.size (wsS (l.take k)).1.length (.slice A0 (wsS (l.take k)).1.length k0) (wsS (l.take k)).1 (wsS (l.take k)).2 u hu ho KL1 KL2)
    clear ho hw KL
    by_cases hlt : k < N
    · have hkL : k < L := by omega
      have c0 := (BW.out.cell (p := ⟨w.heap.size, k, none⟩) hlt0).trans (HC.out k (by rw [HL.out]; omega))
      have n35 : ¬ bat l k = 35 := fun e => A3.out k (by rw [HN.out]; exact hlt) ((bat_byte l k 35).1 e)
      have ST := Lib.hid (wsS_take l k (by rw [HL.out]; omega))
      have b32 := Lib.hid (bat_byte l k 32)
      have b9 := Lib.hid (bat_byte l k 9)
      have i0 : (k : Int) < (L : Int) := by omega
      have f0 : (f : Int) ≤ (k : Int) := by omega
      have f1 : f ≤ k := by omega
      have f2 : k ≤ L := by omega
      have f3 : (k : Int) ≤ (L : Int) := by omega
      generalize bat l k = x at *
      by_cases e : x = 32 ∨ x = 9
      · have ST2 := Lib.hid (show wsS (l.take (k + 1)) = (addF (wsS (l.take k)).1 (wsS (l.take k)).2, []) by
          rw [ST.out, wsStep, if_pos (by rcases e with e | e; exact .inl (b32.out.1 e); exact .inr (b9.out.1 e))]
          rfl)
        generalize (wsS (l.take k)).1 = q at *
        generalize (wsS (l.take k)).2 = p at *
        clear b32 b9 ST
        rcases e with rfl | rfl
        all_goals
          go_wp2_with (go_at_call 17; (with_reducible refine (XA.out _ BW.out.size O.out).mono ?_); rintro e w5 ⟨v5, rfl, O5, B5⟩; have O6 := Lib.hid O5; have B6 := Lib.hid (BW.out.trans B5); clear O5 B5)
          go_roundw
          case rel => exact ⟨k + 1, k + 1, by simp, by simp, rfl, by omega, by rw [ST2.out]; simp, by rw [ST2.out]; exact O6.out, B6.out⟩
          case measure => simp only []; omega
      · have e32 : ¬ x = 32 := fun g => e (.inl g)
        have e9 : ¬ x = 9 := fun g => e (.inr g)
        have ST2 := Lib.hid (show wsS (l.take (k + 1)) = ((wsS (l.take k)).1, (wsS (l.take k)).2 ++ [l.getD k 0]) by
          rw [ST.out, wsStep, if_neg (by rintro (g | g); exact e32 (b32.out.2 g); exact e9 (b9.out.2 g))])
        generalize (wsS (l.take k)).1 = q at *
        generalize (wsS (l.take k)).2 = p at *
        clear b32 b9 ST e XA XP
        go_wp2
        go_roundw
        case rel => exact ⟨k + 1, f, by simp, rfl, rfl, by omega, by rw [ST2.out]; simp; omega, by rw [ST2.out]; exact O.out, BW.out⟩
        case measure => simp only []; omega
    · obtain rfl : k = N := by omega
      have TK : l.take k = ahead l := by rw [A2.out, HN.out]
      have WFq : addF (wsS (l.take k)).1 (wsS (l.take k)).2 = wsF (ahead l) := by rw [← addF_ws, TK]; rfl
      have XB := XA.out
      rw [WFq] at XB
      have XC := Lib.hid XB
      have m0 := WL.out.2.2
      rw [HN.out] at m0
      have WP2 := Lib.hid (fun (p : List UInt8) (hp : p ∈ wsF (ahead l)) => (show p.length ≤ k by have := WP.out p hp; rw [HN.out] at this; exact this))
      generalize wsF (ahead l) = r at *
      obtain ⟨m, hm⟩ : ∃ m, r.length = m := ⟨_, rfl⟩
      have HM := Lib.hid hm
      rw [hm] at m0
      generalize (wsS (l.take k)).1 = q at *
      generalize (wsS (l.take k)).2 = p at *
      have f0 : (f : Int) ≤ (k : Int) := by omega
      have f1 : f ≤ k := by omega
      have f2 : k ≤ L := by omega
      have f3 : (k : Int) ≤ (L : Int) := by omega
      clear WFq XB XA TK
      by_cases hh : k < L
      · have c0 := (BW.out.cell (p := ⟨w.heap.size, k, none⟩) hlt0).trans (HC.out k (by rw [HL.out]; omega))
        have e35 : bat l k = 35 := by
          have := A4.out (by rw [HN.out, HL.out]; exact hh)
          rw [HN.out] at this
          exact (bat_byte l k 35).2 this
        rw [e35] at c0
        have i0 : (k : Int) < (L : Int) := by omega
        clear e35
        go_wp2_with (go_at_call 17; (with_reducible refine (XC.out _ BW.out.size O.out).mono ?_); rintro e w5 ⟨v5, rfl, O5, B5⟩; obtain ⟨A1, c1, rfl, S1⟩ := own_texts O5; have B6 := Lib.hid (B0.out.trans ((BW.out.trans B5).mono B0.out.size)); rw [hm] at S1; have S2c := S1.cap; have S2l := S1.le; have S2 := Lib.hid S1; simp only [hm]; clear S1 O5 B5)
        go_loopw [45] (fun vi wx => ∃ k2 : Nat, vi = .int .i64 k2 ∧ wx = w5 ∧ k2 ≤ m ∧ (r.take k2).all wordF = true) (fun vi _ => match vi with | .int _ x => (m - x).toNat | _ => 0)
        case atStart => exact ⟨0, rfl, rfl, by omega, by simp⟩
        case round =>
          obtain ⟨k2, rfl, hwx, hk2, hf2⟩ := hrel
          subst hwx
          have HF := Lib.hid hf2
          clear hf2
          by_cases hlt : k2 < m
          · obtain ⟨b0, o0, rfl, hb0, hc0⟩ := S2.out.at_ (by omega)
            have c0 := hc0 k2 hlt
            have hq : k2 < r.length := by rw [HM.out]; exact hlt
            have hg : r.getD k2 [] = r[k2] := by simp [List.getD, hq]
            have hpl : (r.getD k2 []).length ≤ 9223372036854775807 := by
              have := WP2.out (r.getD k2 []) (by rw [hg]; exact List.getElem_mem hq)
              omega
            have RW := Lib.hid (fun w => xword_eq (r.getD k2 []) w hpl)
            have T1 := Lib.hid (show (r.take (k2 + 1)).all wordF = wordF (r.getD k2 []) by
              rw [List.take_succ_eq_append_getElem hq, List.all_append, HF.out, hg]
              simp)
            have T2 := Lib.hid (show wordF (r.getD k2 []) = false → r.all wordF = false by
              intro e
              cases hx : r.all wordF with
              | false => rfl
              | true =>
                rw [List.all_eq_true] at hx
                have := hx r[k2] (List.getElem_mem hq)
                rw [← hg, e] at this
                cases this)
            have hlt2 : (k2 : Int) < (m : Int) := by omega
            generalize r.getD k2 [] = p at *
            clear hc0 hg hpl
            cases hv : wordF p with
            | true =>
              have R2 := RW.out
              rw [hv] at R2
              have R3 := Lib.hid R2
              have T3 := Lib.hid (show (r.take (k2 + 1)).all wordF = true by rw [T1.out, hv])
              clear R2
              go_wp2_with (go_at_call 15; (with_reducible refine (R3.out _).mono ?_); rintro e w6 ⟨rfl, rfl⟩)
              go_roundw
              case rel => exact ⟨k2 + 1, by simp, trivial, by omega, T3.out⟩
              case measure => simp only []; omega
            | false =>
              have R2 := RW.out
              rw [hv] at R2
              have R3 := Lib.hid R2
              have E2 := Lib.hid (EN.out (T2.out hv))
              clear R2
              go_wp2_with (go_at_call 15; (with_reducible refine (R3.out _).mono ?_); rintro e w6 ⟨rfl, rfl⟩)
              go_ret2
              exact ⟨none, 0, 0, by rw [E2.out]; rfl, by rw [E2.out, os_no (by decide)]; exact SSl.nil, B6.out⟩
          · have E2 := Lib.hid (EO.out (by rw [← HF.out, List.take_of_length_le (by rw [HM.out]; omega)]))
            go_wp2
            go_ret2
            exact ⟨A1, m, c1, by rw [E2.out]; rfl, by rw [E2.out]; exact S2.out, B6.out⟩
      · obtain rfl : k = L := by omega
        go_wp2_with (go_at_call 17; (with_reducible refine (XC.out _ BW.out.size O.out).mono ?_); rintro e w5 ⟨v5, rfl, O5, B5⟩; obtain ⟨A1, c1, rfl, S1⟩ := own_texts O5; have B6 := Lib.hid (B0.out.trans ((BW.out.trans B5).mono B0.out.size)); rw [hm] at S1; have S2c := S1.cap; have S2l := S1.le; have S2 := Lib.hid S1; simp only [hm]; clear S1 O5 B5)
        go_loopw [45] (fun vi wx => ∃ k2 : Nat, vi = .int .i64 k2 ∧ wx = w5 ∧ k2 ≤ m ∧ (r.take k2).all wordF = true) (fun vi _ => match vi with | .int _ x => (m - x).toNat | _ => 0)
        case atStart => exact ⟨0, rfl, rfl, by omega, by simp⟩
        case round =>
          obtain ⟨k2, rfl, hwx, hk2, hf2⟩ := hrel
          subst hwx
          have HF := Lib.hid hf2
          clear hf2
          by_cases hlt : k2 < m
          · obtain ⟨b0, o0, rfl, hb0, hc0⟩ := S2.out.at_ (by omega)
            have c0 := hc0 k2 hlt
            have hq : k2 < r.length := by rw [HM.out]; exact hlt
            have hg : r.getD k2 [] = r[k2] := by simp [List.getD, hq]
            have hpl : (r.getD k2 []).length ≤ 9223372036854775807 := by
              have := WP2.out (r.getD k2 []) (by rw [hg]; exact List.getElem_mem hq)
              omega
            have RW := Lib.hid (fun w => xword_eq (r.getD k2 []) w hpl)
            have T1 := Lib.hid (show (r.take (k2 + 1)).all wordF = wordF (r.getD k2 []) by
              rw [List.take_succ_eq_append_getElem hq, List.all_append, HF.out, hg]
              simp)
            have T2 := Lib.hid (show wordF (r.getD k2 []) = false → r.all wordF = false by
              intro e
              cases hx : r.all wordF with
              | false => rfl
              | true =>
                rw [List.all_eq_true] at hx
                have := hx r[k2] (List.getElem_mem hq)
                rw [← hg, e] at this
                cases this)
            have hlt2 : (k2 : Int) < (m : Int) := by omega
            generalize r.getD k2 [] = p at *
            clear hc0 hg hpl
            cases hv : wordF p with
            | true =>
              have R2 := RW.out
              rw [hv] at R2
              have R3 := Lib.hid R2
              have T3 := Lib.hid (show (r.take (k2 + 1)).all wordF = true by rw [T1.out, hv])
              clear R2
              go_wp2_with (go_at_call 15; (with_reducible refine (R3.out _).mono ?_); rintro e w6 ⟨rfl, rfl⟩)
              go_roundw
              case rel => exact ⟨k2 + 1, by simp, trivial, by omega, T3.out⟩
              case measure => simp only []; omega
            | false =>
              have R2 := RW.out
              rw [hv] at R2
              have R3 := Lib.hid R2
              have E2 := Lib.hid (EN.out (T2.out hv))
              clear R2
              go_wp2_with (go_at_call 15; (with_reducible refine (R3.out _).mono ?_); rintro e w6 ⟨rfl, rfl⟩)
              go_ret2
              exact ⟨none, 0, 0, by rw [E2.out]; rfl, by rw [E2.out, os_no (by decide)]; exact SSl.nil, B6.out⟩
          · have E2 := Lib.hid (EO.out (by rw [← HF.out, List.take_of_length_le (by rw [HM.out]; omega)]))
            go_wp2
            go_ret2
            exact ⟨A1, m, c1, by rw [E2.out]; rfl, by rw [E2.out]; exact S2.out, B6.out⟩
end Go.Proofs.Ythmncaebkkmkjaa
