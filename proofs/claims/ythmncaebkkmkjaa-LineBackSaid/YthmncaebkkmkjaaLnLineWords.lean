/- The walk of LineWords. -/
import Derived.Test.YthmncaebkkmkjaaLnWalks
namespace Go.Proofs.Ythmncaebkkmkjaa
open Go.RowKit
open Go.Lib (byteCells)

/-- how many bytes texts have -/
def sumL : List (List UInt8) → Nat
  | [] => 0
  | p :: r => p.length + sumL r
theorem sumL_app : ∀ a b : List (List UInt8), sumL (a ++ b) = sumL a + sumL b
  | [], b => by simp [sumL]
  | p :: r, b => by simp [sumL, sumL_app r b]; omega
theorem sumL_take (ps : List (List UInt8)) (k : Nat) (h : k < ps.length) : sumL (ps.take (k + 1)) = sumL (ps.take k) + (ps.getD k []).length := by
  rw [List.take_succ_eq_append_getElem h, sumL_app]
  simp [sumL, List.getD, h]
theorem sumL_le (ps : List (List UInt8)) (k : Nat) : sumL (ps.take k) ≤ sumL ps := by
  have e := sumL_app (ps.take k) (ps.drop k)
  rw [List.take_append_drop] at e
  omega
theorem joinF_sum (ps : List (List UInt8)) : (joinF ps).length ≤ sumL ps + ps.length := by
  induction hn : ps.length generalizing ps with
  | zero => have : ps = [] := List.eq_nil_of_length_eq_zero hn; subst this; simp [joinF]
  | succ n ih =>
    obtain ⟨q, w, rfl⟩ : ∃ q w, ps = q ++ [w] := ⟨ps.dropLast, ps.getLast (by intro e; subst e; simp at hn), (List.dropLast_concat_getLast _).symm⟩
    have iq := ih q (by simpa using hn)
    rw [joinF_snoc, sumL_app]
    simp only [sumL]
    split
    · omega
    · simp; omega
theorem short_of (ps : List (List UInt8)) (M : Nat) (h : sumL ps + ps.length ≤ M) : Short M ps := fun k => by
  have h1 := joinF_sum (ps.take k)
  have h2 := sumL_le ps k
  rw [List.length_take] at h1
  omega

set_option maxRecDepth 20000 in
set_option maxHeartbeats 4000000 in
theorem words_walk (l : List UInt8) (hr : l.length ≤ 140737488351232) (A : Option Addr) (n c : Nat) (ps : List (List UInt8)) (w : World) (h : SSl w A n c ps) (hp : ∀ p ∈ ps, p.length ≤ 140737488351232) :
    Calls Try.prog 4 #[.string (str l), .slice A n c] w fun e w' => e = .returned (.bool true) ∧ Below w.heap.size w w' := by
  have hl := h.len
  have hcap := h.cap
  have hle := h.le
  have H := Lib.hid h
  have HL := Lib.hid hl
  have HP := Lib.hid hp
  obtain ⟨L, hL⟩ : ∃ L, l.length = L := ⟨_, rfl⟩
  have HLL := Lib.hid hL
  have hsz : (str l).size = L := by rw [str_size, hL]
  rw [hL] at hr
  clear h hl hp hL
  go_enter Try.func4, Try.ntmps4
  go_wp2
  go_loopw [5, 6] (fun vn vi wr => ∃ k : Nat, vi = .int .i64 k ∧ vn = .int .i64 (sumL (ps.take k)) ∧ wr = w ∧ k ≤ n ∧ k ≤ 101 ∧ sumL (ps.take k) ≤ 200000000000000) (fun _ vi _ => match vi with | .int _ x => (n - x).toNat | _ => 0)
  case atStart => exact ⟨0, rfl, by simp [sumL], rfl, by omega, by omega, by simp [sumL]⟩
  case round =>
    obtain ⟨k, rfl, rfl, rfl, hk, hk1, hs⟩ := hrel
    obtain ⟨t, ht⟩ : ∃ t, sumL (ps.take k) = t := ⟨_, rfl⟩
    have HT := Lib.hid ht
    rw [ht] at hs ⊢
    clear ht
    by_cases hgo : k < n ∧ k < 101 ∧ t ≤ 2000
    · obtain ⟨g0, g1, g2⟩ := hgo
      obtain ⟨b0, o0, rfl, hb0, hc0⟩ := H.out.at_ (by omega)
      have c0 := hc0 k g0
      have hq : k < ps.length := by rw [HL.out]; exact g0
      have T := Lib.hid (sumL_take ps k hq)
      have hg : ps.getD k [] = ps[k] := by simp [List.getD, hq]
      have hpl : (ps.getD k []).length ≤ 140737488351232 := HP.out _ (by rw [hg]; exact List.getElem_mem hq)
      obtain ⟨z, hz⟩ : ∃ z, (ps.getD k []).length = z := ⟨_, rfl⟩
      have hz2 : (str (ps.getD k [])).size = z := by rw [str_size, hz]
      have HZ := Lib.hid hz
      rw [hz] at hpl
      generalize ps.getD k [] = p at *
      have i0 : (k : Int) < (n : Int) := by omega
      have i1 : (k : Int) < 101 := by omega
      have i2 : (t : Int) ≤ 2000 := by omega
      clear hc0 hg hz
      go_wp2
      go_roundw
      case rel => exact ⟨k + 1, by simp, by rw [T.out, HT.out, HZ.out]; simp, trivial, by omega, by omega, by rw [T.out, HT.out, HZ.out]; omega⟩
      case measure => simp only []; omega
    · have hx : (k = n) ∨ (k < n ∧ k = 101) ∨ (k < n ∧ k < 101 ∧ 2000 < t) := by omega
      by_cases hbig : 2000 < L ∨ 100 < n ∨ 2000 < t
      · have hy : (2000 < L) ∨ (L ≤ 2000 ∧ 100 < n) ∨ (L ≤ 2000 ∧ n ≤ 100 ∧ 2000 < t) := by omega
        clear hbig hgo
        rcases hx with hx | hx | hx
        · rcases hy with hy | hy | hy
          · have i0 : ¬ (k : Int) < (n : Int) := by omega
            have j0 : (2000 : Int) < (L : Int) := by omega
            clear hx hy
            go_wp2_with (go_at_call 7; (with_reducible refine (works10_any _).mono ?_); rintro e w1 ⟨rfl, hb1⟩)
            go_ret
            exact ⟨rfl, hb1⟩
          · have i0 : ¬ (k : Int) < (n : Int) := by omega
            have j0 : ¬ (2000 : Int) < (L : Int) := by omega
            have j1 : (100 : Int) < (n : Int) := by omega
            clear hx hy
            go_wp2_with (go_at_call 7; (with_reducible refine (works10_any _).mono ?_); rintro e w1 ⟨rfl, hb1⟩)
            go_ret
            exact ⟨rfl, hb1⟩
          · have i0 : ¬ (k : Int) < (n : Int) := by omega
            have j0 : ¬ (2000 : Int) < (L : Int) := by omega
            have j1 : ¬ (100 : Int) < (n : Int) := by omega
            have j2 : (2000 : Int) < (t : Int) := by omega
            clear hx hy
            go_wp2_with (go_at_call 7; (with_reducible refine (works10_any _).mono ?_); rintro e w1 ⟨rfl, hb1⟩)
            go_ret
            exact ⟨rfl, hb1⟩
        · rcases hy with hy | hy | hy
          · have i0 : (k : Int) < (n : Int) := by omega
            have i1 : ¬ (k : Int) < 101 := by omega
            have j0 : (2000 : Int) < (L : Int) := by omega
            clear hx hy
            go_wp2_with (go_at_call 7; (with_reducible refine (works10_any _).mono ?_); rintro e w1 ⟨rfl, hb1⟩)
            go_ret
            exact ⟨rfl, hb1⟩
          · have i0 : (k : Int) < (n : Int) := by omega
            have i1 : ¬ (k : Int) < 101 := by omega
            have j0 : ¬ (2000 : Int) < (L : Int) := by omega
            have j1 : (100 : Int) < (n : Int) := by omega
            clear hx hy
            go_wp2_with (go_at_call 7; (with_reducible refine (works10_any _).mono ?_); rintro e w1 ⟨rfl, hb1⟩)
            go_ret
            exact ⟨rfl, hb1⟩
          · exact absurd hy.2.1 (by omega)
        · rcases hy with hy | hy | hy
          · have i0 : (k : Int) < (n : Int) := by omega
            have i1 : (k : Int) < 101 := by omega
            have i2 : ¬ (t : Int) ≤ 2000 := by omega
            have j0 : (2000 : Int) < (L : Int) := by omega
            clear hx hy
            go_wp2_with (go_at_call 7; (with_reducible refine (works10_any _).mono ?_); rintro e w1 ⟨rfl, hb1⟩)
            go_ret
            exact ⟨rfl, hb1⟩
          · have i0 : (k : Int) < (n : Int) := by omega
            have i1 : (k : Int) < 101 := by omega
            have i2 : ¬ (t : Int) ≤ 2000 := by omega
            have j0 : ¬ (2000 : Int) < (L : Int) := by omega
            have j1 : (100 : Int) < (n : Int) := by omega
            clear hx hy
            go_wp2_with (go_at_call 7; (with_reducible refine (works10_any _).mono ?_); rintro e w1 ⟨rfl, hb1⟩)
            go_ret
            exact ⟨rfl, hb1⟩
          · have i0 : (k : Int) < (n : Int) := by omega
            have i1 : (k : Int) < 101 := by omega
            have i2 : ¬ (t : Int) ≤ 2000 := by omega
            have j0 : ¬ (2000 : Int) < (L : Int) := by omega
            have j1 : ¬ (100 : Int) < (n : Int) := by omega
            have j2 : (2000 : Int) < (t : Int) := by omega
            clear hx hy
            go_wp2_with (go_at_call 7; (with_reducible refine (works10_any _).mono ?_); rintro e w1 ⟨rfl, hb1⟩)
            go_ret
            exact ⟨rfl, hb1⟩
      · obtain rfl : k = n := by omega
        have LK : ps.take k = ps := List.take_of_length_le (by rw [HL.out]; omega)
        have SH := Lib.hid (short_of ps 1000000 (by
          have := HT.out
          rw [LK] at this
          rw [this, HL.out]
          omega))
        have HW1 := fun (w : World) => xwords_any l w (by rw [HLL.out]; omega)
        have HW2 := fun (w : World) => rwords_any l w (by rw [HLL.out]; omega)
        have XW := fun (w : World) => xword_any l w (by rw [HLL.out]; omega)
        have RW := Lib.hid (fun (w : World) => rword_any l w (by rw [HLL.out]; omega))
        have XJ := fun (w : World) h => xjoin_any A k c ps w h SH.out (by omega)
        have RJ := Lib.hid (fun (w : World) h => rjoin_any A k c ps w h SH.out)
        unfold GotWords at HW1 HW2
        generalize os (wdE l) (wsF (ahead l)) = q at HW1 HW2
        generalize wdE l = E at HW1 HW2
        generalize wordF l = bw at *
        generalize joinF ps = jo at *
        have HW1 := Lib.hid HW1
        have HW2 := Lib.hid HW2
        have XW := Lib.hid XW
        have XJ := Lib.hid XJ
        have TT := Lib.hid (show (q == q) = true from beq_self_eq_true _)
        have i0 : ¬ (k : Int) < (k : Int) := by omega
        have j0 : ¬ (2000 : Int) < (L : Int) := by omega
        have j1 : ¬ (100 : Int) < (k : Int) := by omega
        have j2 : ¬ (2000 : Int) < (t : Int) := by omega
        have j3 : (jo == jo) = true := beq_self_eq_true _
        clear hx hbig hgo LK
        go_wp2_with (first
          | (go_at_call 11; (with_reducible refine (HW1.out _).mono ?_); rintro e w1 ⟨A1, n1, c1, rfl, s1, hb1⟩)
          | (go_at_call 12; (with_reducible refine (HW2.out _).mono ?_); rintro e w2 ⟨A2, n2, c2, rfl, s2, hb2⟩)
          | (go_at_call 10; (with_reducible refine (rtexts_any A1 n1 c1 q A2 n2 c2 q _ (s1.below hb2) s2 true TT.out).mono ?_); rintro e w3 ⟨rfl, hb3⟩; have B3 := Lib.hid (trans_below hb1 (trans_below hb2 hb3)))
          | (go_at_call 13; (with_reducible refine (XJ.out _ (H.out.below B3.out)).mono ?_); rintro e w4 ⟨rfl, hb4⟩; have B4 := Lib.hid (trans_below B3.out hb4))
          | (go_at_call 14; (with_reducible refine (RJ.out _ (H.out.below B4.out)).mono ?_); rintro e w5 ⟨rfl, rfl⟩)
          | (go_at_call 15; (with_reducible refine (XW.out _).mono ?_); rintro e w6 ⟨rfl, hb6⟩; have B6 := Lib.hid (trans_below B4.out hb6))
          | (go_at_call 16; (with_reducible refine (RW.out _).mono ?_); rintro e w7 ⟨rfl, rfl⟩)
          | (go_at_call 7; (with_reducible refine (works10_any _).mono ?_); rintro e w8 ⟨rfl, hb8⟩))
        go_ret
        exact ⟨by simp, trans_below B6.out hb8⟩
end Go.Proofs.Ythmncaebkkmkjaa
