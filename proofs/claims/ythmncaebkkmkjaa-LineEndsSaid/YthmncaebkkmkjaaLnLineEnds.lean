/- The walk of LineEnds. -/
import Derived.Test.YthmncaebkkmkjaaLnLineWords
namespace Go.Proofs.Ythmncaebkkmkjaa
open Go.RowKit
open Go.Lib (byteCells)

theorem strCells_str (p : List UInt8) : Lib.strCells (str p) = byteCells p := by simp [Lib.strCells, Lib.byteCells]
theorem endF_take (ps : List (List UInt8)) (k : Nat) (h : k < ps.length) : endF (ps.take (k + 1)) = endF (ps.take k) ++ ps.getD k [] ++ [10] := by
  rw [List.take_succ_eq_append_getElem h, endF_snoc]
  simp [List.getD, h]
/-- rows with a byte 10 behind each, as Rows tells them -/
theorem ends_any (ps : List (List UInt8)) (h : ∀ p ∈ ps, (10 : UInt8) ∉ p) (hn : ps.length ≤ 400) (hm : (endF ps).length ≤ 20000) (A : Option Addr) (n c : Nat) (w : World) (hb : BSl w A n c (endF ps)) :
    Calls Try.prog 8 #[.slice A n c] w (GotS w ps 0) := by
  have := xrows_any A n c (endF ps) w hb
  unfold GotRows at this
  rw [rwE_ok (by omega) (by rw [rows_back ps h]; omega), os_ok, rows_back ps h] at this
  exact this
theorem lack_any (q : List (List UInt8)) (r : List UInt8) (h : ∀ p ∈ q ++ [r], (10 : UInt8) ∉ p) (hr : ¬ r = []) (hn : (q ++ [r]).length ≤ 400) (hm : (endF (q ++ [r])).length ≤ 20000) (A : Option Addr) (n c : Nat) (w : World) (hb : BSl w A n c ((endF (q ++ [r])).take ((endF (q ++ [r])).length - 1))) :
    Calls Try.prog 8 #[.slice A n c] w (GotS w (q ++ [r]) 0) := by
  have := xrows_any A n c _ w hb
  unfold GotRows at this
  have hl : ((endF (q ++ [r])).take ((endF (q ++ [r])).length - 1)).length ≤ 20000 := by rw [List.length_take]; omega
  rw [rwE_ok (by omega) (by rw [rows_lack q r h hr]; omega), os_ok, rows_lack q r h hr] at this
  exact this

set_option maxRecDepth 30000 in
set_option maxHeartbeats 8000000 in
theorem lends_walk (A : Option Addr) (n c : Nat) (ps : List (List UInt8)) (w : World) (h : SSl w A n c ps) (hp : ∀ p ∈ ps, p.length ≤ 140737488351232) :
    Calls Try.prog 6 #[.slice A n c] w fun e w' => e = .returned (.bool true) ∧ Below w.heap.size w w' := by
  have hl := h.len
  have hcap := h.cap
  have hle := h.le
  have H := Lib.hid h
  have HL := Lib.hid hl
  have HP := Lib.hid hp
  obtain ⟨i0, hi, hz0, hz1, hz2⟩ := info_parts Try.info5
  have Hi := Lib.hid hi; have Hz0 := Lib.hid hz0; have Hz1 := Lib.hid hz1; have Hz2 := Lib.hid hz2
  clear h hl hp hi hz0 hz1 hz2
  by_cases b1 : 400 < n
  · have j0 : (400 : Int) < (n : Int) := by omega
    clear b1
    go_enter Try.func6, Try.ntmps6
    go_wp2_with (go_at_call 7; (with_reducible refine (works10_any _).mono ?_); rintro e w1 ⟨rfl, hb1⟩)
    go_ret
    exact ⟨rfl, hb1⟩
  · have j0 : ¬ (400 : Int) < (n : Int) := by omega
    go_enter Try.func6, Try.ntmps6
    go_wp2_with (go_at_call 7; (with_reducible refine (works10_any _).mono ?_); rintro e w1 ⟨rfl, hb1⟩; have B1 := Lib.hid hb1; clear hb1)
    go_loopw [3, 4] (fun vb vi wr => ∃ k m : Nat, vi = .int .i64 k ∧ k ≤ n ∧ (endF (ps.take k)).length = m ∧ wr.ownsRow w.heap.size 5 1 vb m (byteCells (endF (ps.take k))) ∧ Below w.heap.size w wr ∧ (∀ p ∈ ps.take k, (10 : UInt8) ∉ p) ∧ m ≤ 21000) (fun _ vi _ => match vi with | .int _ x => (n - x).toNat | _ => 0)
    case atStart => exact ⟨0, 0, rfl, by omega, by simp [endF], by simpa [endF, Lib.byteCells] using World.ownsRow_nil w1 w.heap.size 5 1, B1.out, by simp, by omega⟩
    case round =>
      obtain ⟨k, m, rfl, hk, hm, ho, hb, hf, hm2⟩ := hrel
      have O := Lib.hid ho
      have B := Lib.hid hb
      have HF := Lib.hid hf
      have HM := Lib.hid hm
      obtain ⟨Ab, cb, rfl⟩ := own_shape ho
      clear ho hb hf hm
      by_cases hlt : k < n
      · obtain ⟨b0, o0, rfl, hb0, hc0⟩ := (H.out.below B.out).at_ (by omega)
        have c0 := hc0 k hlt
        have hq : k < ps.length := by rw [HL.out]; exact hlt
        have hg : ps.getD k [] = ps[k] := by simp [List.getD, hq]
        have hpl : (ps.getD k []).length ≤ 140737488351232 := HP.out _ (by rw [hg]; exact List.getElem_mem hq)
        have ET := Lib.hid (endF_take ps k hq)
        have PT := Lib.hid (show ∀ p ∈ ps.take (k + 1), p ∈ ps.take k ∨ p = ps.getD k [] from fun p hp => by
          rw [List.take_succ_eq_append_getElem hq] at hp
          rcases List.mem_append.1 hp with hp | hp
          · exact .inl hp
          · exact .inr (by rw [hg]; exact List.mem_singleton.1 hp))
        have hlt2 : (k : Int) < (n : Int) := by omega
        generalize ps.getD k [] = p at *
        obtain ⟨z, hz⟩ : ∃ z, p.length = z := ⟨_, rfl⟩
        have HZ := Lib.hid hz
        have hsz : (str p).size = z := by rw [str_size, hz]
        rw [hz] at hpl
        clear hc0 hg hz
        by_cases g0 : 1000 < z
        · have g1 : (1000 : Int) < (z : Int) := by omega
          go_wp2
          go_ret
          exact ⟨rfl, B.out⟩
        · have g1 : ¬ (1000 : Int) < (z : Int) := by omega
          by_cases g2 : 19000 < m
          · have g3 : (19000 : Int) < (m : Int) := by omega
            go_wp2
            go_ret
            exact ⟨rfl, B.out⟩
          · have g3 : ¬ (19000 : Int) < (m : Int) := by omega
            go_wp2
            go_loopw [5] (fun vi wx => ∃ j : Nat, vi = .int .i64 j ∧ wx = wr ∧ j ≤ z ∧ (10 : UInt8) ∉ p.take j) (fun vi _ => match vi with | .int _ x => (z - x).toNat | _ => 0)
            case atStart => exact ⟨0, rfl, rfl, by omega, by simp⟩
            case round =>
              obtain ⟨j, rfl, hwx, hj, hno⟩ := hrel
              subst hwx
              have HN := Lib.hid hno
              clear hno
              by_cases hjz : j < z
              · have R := fun w => run_index_bat p j (by rw [HZ.out]; exact hjz) w
                have NT := Lib.hid (bat_ten p j)
                have TK := Lib.hid (rwS_take p j (by rw [HZ.out]; exact hjz))
                have hj2 : (j : Int) < (z : Int) := by omega
                generalize bat p j = x at *
                by_cases e : x = 10
                · subst e
                  go_wp2
                  go_ret
                  exact ⟨rfl, B.out⟩
                · have N2 := Lib.hid (show (10 : UInt8) ∉ p.take (j + 1) by
                    rw [TK.out]
                    intro hm
                    rcases List.mem_append.1 hm with hm | hm
                    · exact HN.out hm
                    · exact e (NT.out.2 (List.mem_singleton.1 hm).symm))
                  go_wp2
                  go_roundw
                  case rel => exact ⟨j + 1, by simp, trivial, by omega, N2.out⟩
                  case measure => simp only []; omega
              · have N2 := Lib.hid (show (10 : UInt8) ∉ p by
                  have := HN.out
                  rwa [List.take_of_length_le (by rw [HZ.out]; omega)] at this)
                have hj2 : ¬ (j : Int) < (z : Int) := by omega
                go_wp2_with (first
                  | (at_builtin; refine Lib.wpList_append_own_string _ rfl (.tmp 49) (.tmp 53) 22 9 rfl w.heap.size 5 i0 Try.underlying22 Try.underlying9 Hi.out Hz0.out Hz1.out Hz2.out _ _ _ (by rfl) O.out (str p) (by rfl) (by unfold maxLen; rw [hsz]; omega) (by rw [hsz]; omega) B.out.size ?_; intro v5 w5 hown5 hgrow5 _; rw [strCells_str, ← bcells_app, hsz] at hown5; have O5 := Lib.hid hown5; have B5 := Lib.hid (below_app B.out O.out hgrow5); clear hown5 hgrow5)
                  | (at_builtin; refine wpList_bapp rfl (.tmp 54) (.tmp 55) 22 rfl w.heap.size 5 i0 (.int .u8 0) 1 Try.underlying22 Hi.out Hz0.out Hz1.out Hz2.out rfl _ _ _ (by rfl) (O5.out.alloc _) (some ⟨w5.heap.size, 0, none⟩) 1 1 [10] (by rfl) (bsl_one w5 10 (0, 0) ⟨by decide, by decide⟩) (by unfold maxLen; omega) (by omega) (by have := B5.out.size; simp at this ⊢; omega) ?_; intro v6 w6 hown6 hgrow6; rw [← bcells_app, ← ET.out] at hown6; have O6 := Lib.hid hown6; have B6 := Lib.hid (below_app (B5.out.alloc B5.out.size _) (O5.out.alloc _) hgrow6); clear hown6 hgrow6))
                go_roundw
                case rel =>
                  refine ⟨k + 1, m + z + 1, by simp, by omega, ?_, O6.out, B6.out, ?_, by omega⟩
                  · rw [ET.out, List.length_append, List.length_append, HM.out, HZ.out]; rfl
                  · intro x hx
                    rcases PT.out x hx with hx | hx
                    · exact HF.out x hx
                    · rw [hx]; exact N2.out
                case measure => simp only []; omega
      · obtain rfl : k = n := by omega
        have LK : ps.take k = ps := List.take_of_length_le (by rw [HL.out]; omega)
        have F2 := HF.out
        have M2 := HM.out
        have O2 := O.out
        rw [LK] at F2 M2 O2
        have i0' : ¬ (k : Int) < (k : Int) := by omega
        have S0 := Lib.hid (BSl.of_own O2)
        have le0 := S0.out.le
        clear O LK HF HM hlt hk O2
        by_cases g0 : 20000 < m
        · have g1 : (20000 : Int) < (m : Int) := by omega
          go_wp2
          go_ret
          exact ⟨rfl, B.out⟩
        · have g1 : ¬ (20000 : Int) < (m : Int) := by omega
          have XR := Lib.hid (fun A n c w h => ends_any ps F2 (by rw [HL.out]; omega) (by omega) A n c w h)
          have F3 := Lib.hid F2
          have M3 := Lib.hid M2
          clear F2
          go_wp2_with (go_at_call 8; (with_reducible refine (XR.out _ _ _ _ S0.out).mono ?_); rintro e w7 ⟨A7, n7, c7, rfl, s7, hb7⟩; have e7 := s7.len; rw [HL.out] at e7; subst e7; have S7 := Lib.hid s7; have B7 := Lib.hid (trans_below B.out hb7); have T7 := Lib.hid (S0.out.below hb7); clear s7 hb7)
          have cap7 := S7.out.cap
          have le7 := S7.out.le
          go_loopw [76] (fun vi wx => ∃ k2 q : Nat, vi = .int .i64 k2 ∧ wx = w7.drewN q ∧ k2 ≤ k) (fun vi _ => match vi with | .int _ x => (k - x).toNat | _ => 0)
          case atStart => exact ⟨0, 0, rfl, rfl, by omega⟩
          case round =>
            obtain ⟨k2, q, rfl, rfl, hk2⟩ := hrel
            by_cases hlt : k2 < k
            · obtain ⟨b3, o3, rfl, hb3, hc3⟩ := S7.out.at_ (by omega)
              obtain ⟨b4, o4, rfl, hb4, hc4⟩ := (H.out.below B7.out).at_ (by omega)
              have c3 := hc3 k2 hlt
              have c4 := hc4 k2 hlt
              generalize ps.getD k2 [] = p at *
              have s1 : (p == p) = true := beq_self_eq_true _
              have i2 : (k2 : Int) < (k : Int) := by omega
              clear hc3 hc4
              go_wp2
              go_quiet (fail)
              go_wp2
              go_roundw
              case rel => exact ⟨k2 + 1, q + nq, by simp, rfl, by omega⟩
              case measure => simp only []; omega
            · have i2 : ¬ (k2 : Int) < (k : Int) := by omega
              have BQ := Lib.hid (show Below w.heap.size w (w7.drewN q) from below_drewN B7.out q)
              have SQ := Lib.hid (S7.out.drewN q)
              have TQ := Lib.hid (T7.out.drewN q)
              clear S7 T7 B7 XR
              generalize w7.drewN q = w8 at *
              by_cases hz : k = 0
              · subst hz
                go_wp2
                go_ret
                exact ⟨rfl, BQ.out⟩
              · obtain ⟨b3, o3, rfl, hb3, hc3⟩ := SQ.out.at_ (by omega)
                obtain ⟨b4, o4, rfl, hb4, hc4⟩ := (H.out.below BQ.out).at_ (by omega)
                have c3 := hc3 (k - 1) (by omega)
                have c4 := hc4 (k - 1) (by omega)
                have PE := Lib.hid (show ps = ps.dropLast ++ [ps.getD (k - 1) []] by
                  have hne : ps ≠ [] := by intro e; have := HL.out; rw [e] at this; simp at this; omega
                  have := List.dropLast_concat_getLast hne
                  rw [List.getLast_eq_getElem] at this
                  have hq : k - 1 < ps.length := by rw [HL.out]; omega
                  have hg : ps.getD (k - 1) [] = ps[k - 1] := by simp [List.getD, hq]
                  rw [hg]
                  simp only [HL.out] at this
                  exact this.symm)
                have d1 : IntKind.i64.wrap ((k : Int) - 1) = (k : Int) - 1 := IntWalk.i64_in _ (by omega)
                have d2 : (0 : Int) ≤ (k : Int) - 1 := by omega
                have d3 : ((k : Int) - 1).toNat = k - 1 := by omega
                have d4 : (k : Int) - 1 < (k : Int) := by omega
                have d5 : ((k : Int) == 0) = false := by simp; omega
                have d6 : ¬ (k : Int) = 0 := by omega
                generalize hlast : ps.getD (k - 1) [] = r at *
                have HLAST := Lib.hid hlast
                clear hc3 hc4 hlast
                by_cases er : r = []
                · have s1 : (r == []) = true := by simpa using er
                  subst er
                  go_wp2
                  go_ret
                  exact ⟨rfl, BQ.out⟩
                · have s1 : (r == []) = false := by simpa using er
                  have m0 : 1 ≤ m := by
                    have e := M3.out
                    rw [PE.out, endF_snoc, List.length_append] at e
                    simp at e
                    omega
                  have XL := Lib.hid (fun A n c w (hb : BSl w A n c ((endF ps).take (m - 1))) => (show Calls Try.prog 8 #[.slice A n c] w (GotS w ps 0) from by
                    have e1 : ∀ p ∈ ps.dropLast ++ [r], (10 : UInt8) ∉ p := by rw [← PE.out]; exact F3.out
                    have e2 : (ps.dropLast ++ [r]).length ≤ 400 := by rw [← PE.out, HL.out]; omega
                    have e3 : (endF (ps.dropLast ++ [r])).length ≤ 20000 := by rw [← PE.out, M3.out]; omega
                    have := lack_any ps.dropLast r e1 er e2 e3 A n c w (by rw [← PE.out, M3.out]; exact hb)
                    rw [← PE.out] at this
                    exact this))
                  obtain ⟨b5, o5, rfl, hb5, _⟩ := TQ.out.at_ (by omega)
                  have T8 := Lib.hid (TQ.out.head (m - 1) (by omega))
                  have q1 : IntKind.i64.wrap ((m : Int) - 1) = (m : Int) - 1 := IntWalk.i64_in _ (by omega)
                  have q2 : (0 : Int) ≤ (m : Int) - 1 := by omega
                  have q3 : ((m : Int) - 1).toNat = m - 1 := by omega
                  have q4 : (m : Int) - 1 ≤ (cb : Int) := by omega
                  have q5 : m - 1 ≤ cb := by omega
                  have s2 : (r == r) = true := beq_self_eq_true _
                  have HLT := HLAST
                  clear er
                  go_wp2_with (go_at_call 8; (with_reducible refine (XL.out _ _ _ _ T8.out).mono ?_); rintro e w9 ⟨A9, n9, c9, rfl, s9, hb9⟩; have e9 := s9.len; rw [HL.out] at e9; subst e9; obtain ⟨b6, o6, rfl, hb6, hc6⟩ := s9.at_ (by omega); have c6 := hc6 (k - 1) (by omega); rw [HLAST.out] at c6; have c7' := (hb9.cell (p := ⟨b3, o3 + (k - 1), none⟩) hb3).trans c3; have B9 := Lib.hid (trans_below BQ.out hb9); clear hc6 s9 hb9)
                  go_quiet (fail)
                  go_wp2
                  go_ret
                  exact ⟨by simp, below_drewN B9.out _⟩
end Go.Proofs.Ythmncaebkkmkjaa
