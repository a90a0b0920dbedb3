/- The contract of palingref02.digits: the number that at most three digits are. -/
import Derived.Test.YtjmbgfhjdmoflaaDoorRefNum
namespace Go.Proofs.YtjmbgfhjdmoflaaDoor
open Go.RowKit
open Go.Lib (decDigits)

theorem sb_str (l : List UInt8) (k : Nat) : sb (str l) k = ((l.getD k 0).toNat : Int) := rfl
theorem digF_bad {l : List UInt8} (h : l.length = 0 ∨ 3 < l.length) : digF l = 1000 := by unfold digF; rw [if_pos h]
theorem digF_no {l : List UInt8} {k : Nat} (hk : k < l.length) (h : isD (l.getD k 0) = false) : digF l = 1000 := by
  unfold digF
  split
  · rfl
  · rw [if_neg]
    intro hall
    have := List.all_eq_true.1 hall (l.getD k 0) (by simp [List.getD, List.getElem?_eq_getElem hk])
    rw [h] at this
    cases this
theorem digF_end {l : List UInt8} (h1 : l.length ≠ 0) (h2 : l.length ≤ 3) (hD : ∀ c ∈ l, isD c = true) : digF l = if decDigits (valD l) = l then valD l else 1000 := by
  unfold digF
  rw [if_neg (by omega), if_pos (List.all_eq_true.2 hD)]
theorem valD_lt {l : List UInt8} (hD : ∀ c ∈ l, isD c = true) : valD l < 10 ^ l.length := by
  induction l using snoc_ind with
  | h0 => simp [valD]
  | h1 d c ih =>
    have h1 := ih (fun x hx => hD x (by simp [hx]))
    have h2 := (isD_iff c).1 (hD c (by simp))
    rw [valD_snoc, List.length_append]
    simp only [List.length_cons, List.length_nil]
    have e : 10 ^ (d.length + (0 + 1)) = 10 ^ d.length * 10 := Nat.pow_succ ..
    rw [e]
    omega
set_option maxRecDepth 100000 in
set_option maxHeartbeats 1000000 in
theorem refDigits_any (l : List UInt8) (w : World) (hs : l.length ≤ maxLen) :
    Calls Tryd.prog 51 #[.string (str l)] w fun e w' => e = .returned (.int .i64 (digF l : Nat)) ∧ Below w.heap.size w w' := by
  unfold maxLen at hs
  by_cases h0 : l.length = 0
  · have E := Lib.hid (digF_bad (l := l) (.inl h0))
    have z : ((l.length : Int) == 0) = true := by rw [h0]; rfl
    clear h0
    go_enter Tryd.func51, Tryd.ntmps51
    go_wp2
    go_ret
    exact ⟨by rw [E.out]; rfl, Below.refl _ _⟩
  have z0 : ((l.length : Int) == 0) = false := by simp; intro e; subst e; exact h0 rfl
  by_cases h3 : 3 < l.length
  · have E := Lib.hid (digF_bad (l := l) (.inr h3))
    go_enter Tryd.func51, Tryd.ntmps51
    go_wp2
    go_ret
    exact ⟨by rw [E.out]; rfl, Below.refl _ _⟩
  have H0 := Lib.hid h0
  clear h0
  go_enter Tryd.func51, Tryd.ntmps51
  go_wp2
  go_loop [3, 4] (fun v i => ∃ k n : Nat, k ≤ l.length ∧ i = .int .i64 (k : Int) ∧ v = .int .i64 (n : Int) ∧ n = valD (l.take k) ∧ (∀ c ∈ l.take k, isD c = true)) (fun _ i => l.length - (intOf i).toNat)
  case atStart => exact ⟨0, 0, by omega, rfl, rfl, rfl, fun c h => by simp at h⟩
  case round =>
    obtain ⟨k, n, hk, rfl, rfl, hv, hD⟩ := hrel
    have hn : n < 1000 := by
      have h1 := valD_lt hD
      rw [← hv] at h1
      have h2 : 10 ^ (l.take k).length ≤ 10 ^ 3 := Nat.pow_le_pow_right (by decide) (by rw [List.length_take]; omega)
      omega
    have HV := Lib.hid hv
    have HD := Lib.hid hD
    clear hv hD
    by_cases hlt : k < l.length
    · have x0 := run_index_sb (str l) k k rfl (by rw [str_size]; exact hlt)
      have l0 := sb_lo (str l) k
      have l1 := sb_hi (str l) k
      by_cases c1 : sb (str l) k < 48
      · have E := Lib.hid (digF_no hlt (notD_sb (str l) k (by omega)))
        go_wp2
        go_ret
        exact ⟨by rw [E.out]; rfl, Below.refl _ _⟩
      by_cases c2 : 57 < sb (str l) k
      · have E := Lib.hid (digF_no hlt (notD_sb (str l) k (by omega)))
        go_wp2
        go_ret
        exact ⟨by rw [E.out]; rfl, Below.refl _ _⟩
      have hd := (isD_sb (str l) k).2 ⟨by omega, by omega⟩
      have N := Lib.hid (show ((n * 10 + ((l.getD k 0).toNat - 48) : Nat) : Int) = (n : Int) * 10 + sb (str l) k - 48 by rw [sb_str] at c1 ⊢; omega)
      have V := Lib.hid (show n * 10 + ((l.getD k 0).toNat - 48) = valD (l.take (k + 1)) by rw [take_more hlt, valD_snoc, ← HV.out])
      have D := Lib.hid (take_digits hlt HD.out hd)
      clear hd
      go_wp2
      go_round
      case rel => exact ⟨k + 1, n * 10 + ((l.getD k 0).toNat - 48), hlt, by go_num, by rw [N.out], V.out, D.out⟩
      case measure => simp [intOf]; omega
    · have hkl : k = l.length := by omega
      have EN := Lib.hid (show n = valD l by rw [HV.out, hkl, List.take_length])
      have E := Lib.hid (digF_end (l := l) H0.out (by omega) (fun c hc => HD.out c (by rw [hkl, List.take_length]; exact hc)))
      clear hkl
      by_cases he : decDigits n = l
      · have F := Lib.hid (show digF l = n by rw [E.out, ← EN.out, if_pos he])
        have t1 : (decDigits n == l) = true := by simpa using he
        have t2 : (decDigits n != l) = false := by simpa using he
        clear he
        go_wp2_with (go_at_call 55; refine (refNumber_any n (by omega) _).mono ?_; rintro e w1 ⟨rfl, hb1⟩)
        go_ret
        exact ⟨by rw [F.out]; rfl, hb1⟩
      · have F := Lib.hid (show digF l = 1000 by rw [E.out, ← EN.out, if_neg he])
        have t1 : (decDigits n == l) = false := by simpa using he
        have t2 : (decDigits n != l) = true := by simpa using he
        clear he
        go_wp2_with (go_at_call 55; refine (refNumber_any n (by omega) _).mono ?_; rintro e w1 ⟨rfl, hb1⟩)
        go_ret
        exact ⟨by rw [F.out]; rfl, hb1⟩
end Go.Proofs.YtjmbgfhjdmoflaaDoor
