/- The contracts of palingref10.Word, Texts, Join. -/
import Derived.Test.YthmncaebkkmkjaaLnMath
import Derived.Test.YthmncaebkkmkjaaSsl
import Derived.Test.YthmncaebkkmkjaaBsl
import Derived.WalkMore
import Derived.Deep.QuietTactic
namespace Go.Proofs.Ythmncaebkkmkjaa
open Go.RowKit
open Go.Lib (byteCells)

theorem run_index_bat (l : List UInt8) (j : Nat) (hj : j < l.length) (w : World) : (Instr.index 9 (.string (str l)) (.int .i64 j)).run Try.prog w = .ok (.int .u8 (bat l j)) w := by
  have := run_index_sb (str l) j j rfl (by rw [str_size]; exact hj) w
  rw [show sb (str l) j = bat l j by simp [sb, bat]] at this
  exact this
theorem all_take (f : UInt8 → Bool) (l : List UInt8) (k : Nat) (h : k < l.length) (g : (l.take k).all f = true) : (l.take (k + 1)).all f = f (l.getD k 0) := by
  rw [List.take_succ_eq_append_getElem h, List.all_append, g]
  simp [List.getD, h]
theorem all_not (f : UInt8 → Bool) (l : List UInt8) (k : Nat) (h : k < l.length) (g : f (l.getD k 0) = false) : l.all f = false := by
  cases hx : l.all f with
  | false => rfl
  | true =>
    rw [List.all_eq_true] at hx
    have := hx l[k] (List.getElem_mem h)
    simp [List.getD, h] at g
    rw [this] at g
    cases g
theorem wch_bat (l : List UInt8) (k : Nat) : wch (l.getD k 0) = true ↔ 33 ≤ bat l k ∧ bat l k ≤ 126 ∧ bat l k ≠ 35 := by
  rw [wch_iff]
  unfold bat
  omega
set_option maxRecDepth 20000 in
theorem rword_any (l : List UInt8) (w : World) (hm : l.length ≤ 9223372036854775807) : Calls Try.prog 16 #[.string (str l)] w fun e w' => e = .returned (.bool (wordF l)) ∧ w = w' := by
  by_cases h0 : l.length < 1
  · have E := Lib.hid (wordF_len (l := l) (by omega))
    have i0 : (l.length : Int) < 1 := by omega
    generalize wordF l = v at *
    clear h0
    go_enter Try.func16, Try.ntmps16
    go_wp2
    go_ret
    exact ⟨by rw [E.out]; simp; try omega, rfl⟩
  · by_cases h1 : 40 < l.length
    · have E := Lib.hid (wordF_len (l := l) (by omega))
      have i0 : ¬ (l.length : Int) < 1 := by omega
      have i1 : (40 : Int) < (l.length : Int) := by omega
      generalize wordF l = v at *
      clear h0 h1
      go_enter Try.func16, Try.ntmps16
      go_wp2
      go_ret
      exact ⟨by rw [E.out]; simp; try omega, rfl⟩
    · have E := Lib.hid (wordF_mid (l := l) (by omega) (by omega))
      have i0 : ¬ (l.length : Int) < 1 := by omega
      have i1 : ¬ (40 : Int) < (l.length : Int) := by omega
      generalize wordF l = v at *
      have IX := Lib.hid (run_index_bat l)
      obtain ⟨n, hn⟩ : ∃ n, l.length = n := ⟨_, rfl⟩
      have HN := Lib.hid hn
      have hsz : (str l).size = n := by rw [str_size, hn]
      rw [hn] at i0 i1 hm
      clear h0 h1 hn
      go_enter Try.func16, Try.ntmps16
      go_wp2
      go_loopw [3] (fun i wr => ∃ k : Nat, i = .int .i64 k ∧ wr = w ∧ k ≤ n ∧ (l.take k).all wch = true) (fun i _ => match i with | .int _ x => (n - x).toNat | _ => 0)
      case atStart => exact ⟨0, rfl, rfl, by omega, by simp⟩
      case round =>
        obtain ⟨k, rfl, rfl, hk, hf⟩ := hrel
        have HF := Lib.hid hf
        clear hf
        by_cases hlt : k < n
        · have R := fun w => IX.out k (by rw [HN.out]; exact hlt) w
          have x0 := bat_lo l k
          have W := Lib.hid (wch_bat l k)
          have A1 := Lib.hid (all_take wch l k (by rw [HN.out]; exact hlt) HF.out)
          have A2 := Lib.hid (all_not wch l k (by rw [HN.out]; exact hlt))
          generalize bat l k = x at *
          by_cases c0 : x < 33
          · have G := Lib.hid (show v = false by rw [E.out]; exact A2.out (by rw [Bool.eq_false_iff]; intro e; have := W.out.1 e; omega))
            go_wp2
            go_ret
            exact ⟨by rw [G.out]; simp; try omega, rfl⟩
          · by_cases c1 : 126 < x
            · have G := Lib.hid (show v = false by rw [E.out]; exact A2.out (by rw [Bool.eq_false_iff]; intro e; have := W.out.1 e; omega))
              go_wp2
              go_ret
              exact ⟨by rw [G.out]; simp; try omega, rfl⟩
            · by_cases c2 : x = 35
              · have G := Lib.hid (show v = false by rw [E.out]; exact A2.out (by rw [Bool.eq_false_iff]; intro e; have := W.out.1 e; omega))
                subst c2
                go_wp2
                go_ret
                exact ⟨by rw [G.out]; simp; try omega, rfl⟩
              · have G := Lib.hid (show (l.take (k + 1)).all wch = true by rw [A1.out]; exact W.out.2 ⟨by omega, by omega, c2⟩)
                go_wp2
                go_roundw
                case rel => exact ⟨k + 1, by simp, trivial, by omega, G.out⟩
                case measure => simp only []; omega
        · have G := Lib.hid (show v = true by rw [E.out, ← HF.out, List.take_of_length_le (by rw [HN.out]; omega)])
          go_wp2
          go_ret
          exact ⟨by rw [G.out]; simp; try omega, rfl⟩
end Go.Proofs.Ythmncaebkkmkjaa
