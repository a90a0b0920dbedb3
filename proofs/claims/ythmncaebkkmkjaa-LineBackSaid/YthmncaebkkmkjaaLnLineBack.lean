/- The walk of LineBack. -/
import Derived.Test.YthmncaebkkmkjaaLnLineWords
namespace Go.Proofs.Ythmncaebkkmkjaa
open Go.RowKit
open Go.Lib (byteCells)

set_option maxRecDepth 20000 in
set_option maxHeartbeats 4000000 in
theorem lback_walk (A : Option Addr) (n c : Nat) (ps : List (List UInt8)) (r : List UInt8) (hr : r.length ≤ 140737488351232) (w : World) (h : SSl w A n c ps) (hp : ∀ p ∈ ps, p.length ≤ 140737488351232) :
    Calls Try.prog 5 #[.slice A n c, .string (str r)] w fun e w' => e = .returned (.bool true) ∧ Below w.heap.size w w' := by
  have hl := h.len
  have hcap := h.cap
  have hle := h.le
  have H := Lib.hid h
  have HL := Lib.hid hl
  have HP := Lib.hid hp
  obtain ⟨L, hL⟩ : ∃ L, r.length = L := ⟨_, rfl⟩
  have HLL := Lib.hid hL
  have hsz : (str r).size = L := by rw [str_size, hL]
  rw [hL] at hr
  clear h hl hp hL
  by_cases b1 : 100 < n
  · have j0 : (100 : Int) < (n : Int) := by omega
    clear b1
    go_enter Try.func5, Try.ntmps5
    go_wp2_with (go_at_call 7; (with_reducible refine (works10_any _).mono ?_); rintro e w1 ⟨rfl, hb1⟩)
    go_ret
    exact ⟨rfl, hb1⟩
  · have j0 : ¬ (100 : Int) < (n : Int) := by omega
    by_cases b2 : 2000 < L
    · have j1 : (2000 : Int) < (L : Int) := by omega
      clear b2
      go_enter Try.func5, Try.ntmps5
      go_wp2_with (go_at_call 7; (with_reducible refine (works10_any _).mono ?_); rintro e w1 ⟨rfl, hb1⟩)
      go_ret
      exact ⟨rfl, hb1⟩
    · have j1 : ¬ (2000 : Int) < (L : Int) := by omega
      go_enter Try.func5, Try.ntmps5
      go_wp2_with (go_at_call 7; (with_reducible refine (works10_any _).mono ?_); rintro e w1 ⟨rfl, hb1⟩; have B1 := Lib.hid hb1; clear hb1)
      go_loopw [5] (fun vi wr => ∃ k : Nat, vi = .int .i64 k ∧ Below w.heap.size w wr ∧ k ≤ n ∧ (ps.take k).all wordF = true) (fun vi _ => match vi with | .int _ x => (n - x).toNat | _ => 0)
      case atStart => exact ⟨0, rfl, B1.out, by omega, by simp⟩
      case round =>
        obtain ⟨k, rfl, hb, hk, hf⟩ := hrel
        have B := Lib.hid hb
        have HF := Lib.hid hf
        clear hb hf
        by_cases hlt : k < n
        · obtain ⟨b0, o0, rfl, hb0, hc0⟩ := (H.out.below B.out).at_ (by omega)
          have c0 := hc0 k hlt
          have hq : k < ps.length := by rw [HL.out]; exact hlt
          have hg : ps.getD k [] = ps[k] := by simp [List.getD, hq]
          have hpl : (ps.getD k []).length ≤ 9223372036854775807 := by
            have := HP.out (ps.getD k []) (by rw [hg]; exact List.getElem_mem hq)
            omega
          have RW := Lib.hid (fun w => xword_any (ps.getD k []) w hpl)
          have T1 := Lib.hid (show (ps.take (k + 1)).all wordF = wordF (ps.getD k []) by
            rw [List.take_succ_eq_append_getElem hq, List.all_append, HF.out, hg]
            simp)
          have hlt2 : (k : Int) < (n : Int) := by omega
          generalize ps.getD k [] = p at *
          clear hc0 hg hpl
          cases hv : wordF p with
          | true =>
            have R2 := RW.out
            rw [hv] at R2
            have R3 := Lib.hid R2
            have T3 := Lib.hid (show (ps.take (k + 1)).all wordF = true by rw [T1.out, hv])
            clear R2
            go_wp2_with (go_at_call 15; (with_reducible refine (R3.out _).mono ?_); rintro e w5 ⟨rfl, hb5⟩; have B5 := Lib.hid (trans_below B.out hb5); clear hb5)
            go_roundw
            case rel => exact ⟨k + 1, by simp, B5.out, by omega, T3.out⟩
            case measure => simp only []; omega
          | false =>
            have R2 := RW.out
            rw [hv] at R2
            have R3 := Lib.hid R2
            clear R2
            go_wp2_with (go_at_call 15; (with_reducible refine (R3.out _).mono ?_); rintro e w5 ⟨rfl, hb5⟩; have B5 := Lib.hid (trans_below B.out hb5); clear hb5)
            go_ret
            exact ⟨rfl, B5.out⟩
        · obtain rfl : k = n := by omega
          have AL : ps.all wordF = true := by rw [← HF.out, List.take_of_length_le (by rw [HL.out]; omega)]
          have AW : ∀ p ∈ ps, wordF p = true := by rw [List.all_eq_true] at AL; exact AL
          have A40 : ∀ p ∈ ps, p.length ≤ 40 := fun p hp => ((wordF_iff p).1 (AW p hp)).2.1
          have SH : Short 1000000 ps := fun i => by
            have := joinF_len (ps.take i) (fun p hp => A40 p (List.mem_of_mem_take hp))
            rw [List.length_take, HL.out] at this
            omega
          have JL := joinF_len ps A40
          rw [HL.out] at JL
          have XJ := Lib.hid (fun (w : World) h => xjoin_any A k c ps w h SH (by omega))
          have WB := words_back ps r AW
          have hU : ([9] ++ joinF ps ++ [32, 35] ++ r).length ≤ 100000 := by
            simp only [List.length_append, HLL.out, List.length_cons, List.length_nil]
            omega
          have XW := fun (w : World) => xwords_any ([9] ++ joinF ps ++ [32, 35] ++ r) w hU
          unfold GotWords at XW
          have WE : wdE ([9] ++ joinF ps ++ [32, 35] ++ r) = 0 := wdE_ok (by rw [WB]; exact AL)
          rw [WE, os_ok, WB] at XW
          have A40h := Lib.hid A40
          generalize joinF ps = J at *
          have a1 : ∀ W, (Op.stringOp .add ⟨#[9]⟩ (str J)).run Try.prog W = .ok (.string (str ([9] ++ J))) W := fun W => by
            rw [show (⟨#[9]⟩ : ByteArray) = str [9] from rfl, run_string_add_sum W _ _ (by rw [str_size, str_size]; simp; omega), str_append]
          have a2 : ∀ W, (Op.stringOp .add (str ([9] ++ J)) ⟨#[32, 35]⟩).run Try.prog W = .ok (.string (str ([9] ++ J ++ [32, 35]))) W := fun W => by
            rw [show (⟨#[32, 35]⟩ : ByteArray) = str [32, 35] from rfl, run_string_add_sum W _ _ (by rw [str_size, str_size]; simp; omega), str_append]
          have a3 : ∀ W, (Op.stringOp .add (str ([9] ++ J ++ [32, 35])) (str r)).run Try.prog W = .ok (.string (str ([9] ++ J ++ [32, 35] ++ r))) W := fun W => by
            rw [run_string_add_sum W _ _ (by rw [str_size, str_size]; have := HLL.out; simp; omega), str_append]
          generalize [9] ++ J ++ [32, 35] ++ r = U at *
          generalize [9] ++ J ++ [32, 35] = V at *
          generalize [9] ++ J = Y at *
          have XW := Lib.hid XW
          have i0 : ¬ (k : Int) < (k : Int) := by omega
          have HB := Lib.hid (H.out.below B.out)
          clear AL AW A40 SH JL WB WE hlt
          go_wp2_with (first
            | (go_at_call 13; (with_reducible refine (XJ.out _ HB.out).mono ?_); rintro e w6 ⟨rfl, hb6⟩; have B6 := Lib.hid (trans_below B.out hb6); clear hb6)
            | (go_at_call 11; (with_reducible refine (XW.out _).mono ?_); rintro e w7 ⟨A7, n7, c7, rfl, s7, hb7⟩; have e7 := s7.len; rw [HL.out] at e7; subst e7; have S7 := Lib.hid s7; have B7 := Lib.hid (trans_below B6.out hb7); clear s7 hb7))
          have cap7 := S7.out.cap
          have le7 := S7.out.le
          go_loopw [52] (fun vi wr => ∃ k2 q : Nat, vi = .int .i64 k2 ∧ wr = w7.drewN q ∧ k2 ≤ k) (fun vi _ => match vi with | .int _ x => (k - x).toNat | _ => 0)
          case atStart => exact ⟨0, 0, rfl, rfl, by omega⟩
          case round =>
            obtain ⟨k2, q, rfl, rfl, hk2⟩ := hrel
            by_cases hlt : k2 < k
            · obtain ⟨b3, o3, rfl, hb3, hc3⟩ := S7.out.at_ (by omega)
              obtain ⟨b4, o4, rfl, hb4, hc4⟩ := (H.out.below B7.out).at_ (by omega)
              have c3 := hc3 k2 hlt
              have c4 := hc4 k2 hlt
              have hq : k2 < ps.length := by rw [HL.out]; exact hlt
              have hg : ps.getD k2 [] = ps[k2] := by simp [List.getD, hq]
              have h40 : (ps.getD k2 []).length ≤ 40 := A40h.out _ (by rw [hg]; exact List.getElem_mem hq)
              obtain ⟨z, hz⟩ : ∃ z, (ps.getD k2 []).length = z := ⟨_, rfl⟩
              have hz2 : (str (ps.getD k2 [])).size = z := by rw [str_size, hz]
              rw [hz] at h40
              generalize ps.getD k2 [] = p at *
              have s1 : (p == p) = true := beq_self_eq_true _
              have i2 : (k2 : Int) < (k : Int) := by omega
              have i3 : ¬ (40 : Int) < (z : Int) := by omega
              clear hc3 hc4 hg hz h40
              go_wp2
              go_quiet (fail)
              go_wp2
              go_roundw
              case rel => exact ⟨k2 + 1, q + nq, by simp, rfl, by omega⟩
              case measure => simp only []; omega
            · have i2 : ¬ (k2 : Int) < (k : Int) := by omega
              go_wp2
              go_ret
              exact ⟨rfl, below_drewN B7.out _⟩
end Go.Proofs.Ythmncaebkkmkjaa
