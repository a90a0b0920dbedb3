/- The contract of palingref03.Read: which number a text is, or that it is none. -/
import Derived.Test.YtjmbgfhjdmoflaaDoorNumRead
namespace Go.Proofs.YtjmbgfhjdmoflaaDoor
open Go.RowKit
open Go.Lib (decDigits itoa atoiAll)

/-- the digits up to j -/
def mid (l : List UInt8) (f j : Nat) : List UInt8 := (l.take j).drop f
theorem mid_more {l : List UInt8} {f j : Nat} (h : f ≤ j) (hj : j < l.length) : mid l f (j + 1) = mid l f j ++ [l.getD j 0] := by
  unfold mid
  rw [take_more hj, List.drop_append_of_le_length (by rw [List.length_take]; omega)]
theorem mid_len {l : List UInt8} {f j : Nat} (hj : j ≤ l.length) : (mid l f j).length = j - f := by
  unfold mid
  rw [List.length_drop, List.length_take]
  omega
theorem mid_first (l : List UInt8) (f : Nat) : mid l f f = [] := by
  unfold mid
  rw [List.drop_eq_nil_of_le (by rw [List.length_take]; omega)]
theorem mid_all (l : List UInt8) (f : Nat) : mid l f l.length = l.drop f := by unfold mid; rw [List.take_length]
theorem mid_mem {l : List UInt8} {f j : Nat} (h : f ≤ j) (hj : j < l.length) : l.getD j 0 ∈ l.drop f := by
  have e : l.getD j 0 = (l.drop f)[j - f]'(by rw [List.length_drop]; omega) := by
    rw [List.getElem_drop]
    simp [List.getD, List.getElem?_eq_getElem hj, show f + (j - f) = j by omega]
  rw [e]
  exact List.getElem_mem _
theorem ten_pow {k : Nat} (h : k ≤ 10) : 10 ^ k ≤ 10000000000 := by
  have : 10 ^ k ≤ 10 ^ 10 := Nat.pow_le_pow_right (by decide) h
  simpa using this

set_option maxRecDepth 100000 in
set_option maxHeartbeats 2000000 in
theorem refNumRead_neg (l : List UInt8) (lo hi : Int) (w : World) (hs : l.length ≤ maxLen) (hd : l.head? = some 45) :
    Calls Tryd.prog 9 #[.string (str l), .int .i64 lo, .int .i64 hi] w fun e w' => e = .returned (.tuple #[.int .i64 (nV l lo hi), .bool (nB l lo hi)]) ∧ Below w.heap.size w w' := by
  unfold maxLen at hs
  have ht : trimM l = l.drop 1 := by unfold trimM; rw [if_pos hd]; cases l <;> rfl
  have hl0 : 0 < l.length := by
    cases l with
    | nil => cases hd
    | cons c r => simp
  have y0 := run_index_sb (str l) 0 0 rfl (by rw [str_size]; exact hl0)
  have y1 : (sb (str l) 0 == 45) = true := by
    cases l with
    | nil => cases hd
    | cons c r =>
      have : c = 45 := by simpa using hd
      subst this; rfl
  have HH := Lib.hid hd
  clear hd
  have HT := Lib.hid ht
  clear ht
  by_cases h1 : l.length < 1 + 1
  · have E := Lib.hid (n_no (nF_none_len (l := l) (lo := lo) (hi := hi) (.inl (by rw [HT.out, List.length_drop]; omega))))
    go_enter Tryd.func9, Tryd.ntmps9
    go_wp2
    go_ret2
    exact ⟨by rw [E.out.1, E.out.2]; rfl, Below.refl _ _⟩
  by_cases h2 : 10 + 1 < l.length
  · have E := Lib.hid (n_no (nF_none_len (l := l) (lo := lo) (hi := hi) (.inr (by rw [HT.out, List.length_drop]; omega))))
    go_enter Tryd.func9, Tryd.ntmps9
    go_wp2
    go_ret2
    exact ⟨by rw [E.out.1, E.out.2]; rfl, Below.refl _ _⟩
  go_enter Tryd.func9, Tryd.ntmps9
  go_wp2
  go_loop [9, 10] (fun v i => ∃ j n : Nat, 1 ≤ j ∧ j ≤ l.length ∧ i = .int .i64 (j : Int) ∧ v = .int .i64 (n : Int) ∧ n = valD (mid l 1 j) ∧ (∀ c ∈ mid l 1 j, isD c = true)) (fun _ i => l.length - (intOf i).toNat)
  case atStart => exact ⟨1, 0, by omega, by omega, rfl, rfl, by rw [mid_first]; rfl, fun c h => by rw [mid_first] at h; cases h⟩
  case round =>
    obtain ⟨j, n, hj0, hj, rfl, rfl, hv, hD⟩ := hrel
    have hlen := mid_len (f := 1) hj
    have hn : n < 10000000000 := by
      have g1 := valD_lt hD
      rw [← hv, hlen] at g1
      have g2 := ten_pow (k := j - 1) (by omega)
      omega
    clear hlen
    have HV := Lib.hid hv
    have HD := Lib.hid hD
    clear hv hD
    by_cases hlt : j < l.length
    · have x0 := run_index_sb (str l) j j rfl (by rw [str_size]; exact hlt)
      have l0 := sb_lo (str l) j
      have l1 := sb_hi (str l) j
      by_cases c1 : sb (str l) j < 48
      · have E := Lib.hid (n_no (nF_none_digit (l := l) (lo := lo) (hi := hi) (by rw [HT.out]; exact mid_mem hj0 hlt) (notD_sb (str l) j (by omega))))
        go_wp2
        go_ret2
        exact ⟨by rw [E.out.1, E.out.2]; rfl, Below.refl _ _⟩
      by_cases c2 : 57 < sb (str l) j
      · have E := Lib.hid (n_no (nF_none_digit (l := l) (lo := lo) (hi := hi) (by rw [HT.out]; exact mid_mem hj0 hlt) (notD_sb (str l) j (by omega))))
        go_wp2
        go_ret2
        exact ⟨by rw [E.out.1, E.out.2]; rfl, Below.refl _ _⟩
      have hdg := (isD_sb (str l) j).2 ⟨by omega, by omega⟩
      have N := Lib.hid (show ((n * 10 + ((l.getD j 0).toNat - 48) : Nat) : Int) = (n : Int) * 10 + sb (str l) j - 48 by rw [sb_str] at c1 ⊢; omega)
      have V := Lib.hid (show n * 10 + ((l.getD j 0).toNat - 48) = valD (mid l 1 (j + 1)) by rw [mid_more hj0 hlt, valD_snoc, ← HV.out])
      have D := Lib.hid (show ∀ c ∈ mid l 1 (j + 1), isD c = true by
        rw [mid_more hj0 hlt]
        intro c hc
        rcases List.mem_append.1 hc with hc | hc
        · exact HD.out c hc
        · rw [List.mem_singleton.1 hc]; exact hdg)
      clear hdg
      go_wp2
      go_round
      case rel => exact ⟨j + 1, n * 10 + ((l.getD j 0).toNat - 48), by omega, hlt, by go_num, by rw [N.out], V.out, D.out⟩
      case measure => simp [intOf]; omega
    · have hjl : j = l.length := by omega
      have EN := Lib.hid (show n = valD (trimM l) by rw [HV.out, hjl, mid_all, HT.out])
      have F := Lib.hid (nF_ref (l := l) (lo := lo) (hi := hi) (by rw [HT.out, List.length_drop]; omega) (by rw [HT.out, List.length_drop]; omega) (fun c hc => HD.out c (by rw [hjl, mid_all, ← HT.out]; exact hc)))
      have R := Lib.hid (show rN l = -(n : Int) by unfold rN; rw [if_pos HH.out, ← EN.out])
      clear hjl
      have hil := itoa_len (-(n : Int)) (by omega) (by omega)
      by_cases c1 : -(n : Int) < lo
      · have E := Lib.hid (n_no (show nF l lo hi = none by rw [F.out, R.out, if_neg (by omega)]))
        go_wp2
        go_ret2
        exact ⟨by rw [E.out.1, E.out.2]; rfl, Below.refl _ _⟩
      by_cases c2 : hi < -(n : Int)
      · have E := Lib.hid (n_no (show nF l lo hi = none by rw [F.out, R.out, if_neg (by omega)]))
        go_wp2
        go_ret2
        exact ⟨by rw [E.out.1, E.out.2]; rfl, Below.refl _ _⟩
      by_cases c3 : itoa (-(n : Int)) = l
      · have E := Lib.hid (n_yes (show nF l lo hi = some (-(n : Int)) by rw [F.out, R.out, if_pos ⟨by omega, by omega, c3⟩]))
        have t1 : (itoa (-(n : Int)) == l) = true := by simpa using c3
        have t2 : (itoa (-(n : Int)) != l) = false := by simpa using c3
        clear c3
        go_wp2_with (go_at_call 11; refine (refNumText_any (-(n : Int)) (by omega) (by omega) _).mono ?_; rintro e w1 ⟨rfl, hb1⟩)
        go_ret2
        exact ⟨by rw [E.out.1, E.out.2]; rfl, hb1⟩
      · have E := Lib.hid (n_no (show nF l lo hi = none by rw [F.out, R.out, if_neg (fun h => c3 h.2.2)]))
        have t1 : (itoa (-(n : Int)) == l) = false := by simpa using c3
        have t2 : (itoa (-(n : Int)) != l) = true := by simpa using c3
        clear c3
        go_wp2_with (go_at_call 11; refine (refNumText_any (-(n : Int)) (by omega) (by omega) _).mono ?_; rintro e w1 ⟨rfl, hb1⟩)
        go_ret2
        exact ⟨by rw [E.out.1, E.out.2]; rfl, hb1⟩

set_option maxRecDepth 100000 in
set_option maxHeartbeats 2000000 in
theorem refNumRead_pos (l : List UInt8) (lo hi : Int) (w : World) (hs : l.length ≤ maxLen) (hd : l.head? ≠ some 45) :
    Calls Tryd.prog 9 #[.string (str l), .int .i64 lo, .int .i64 hi] w fun e w' => e = .returned (.tuple #[.int .i64 (nV l lo hi), .bool (nB l lo hi)]) ∧ Below w.heap.size w w' := by
  unfold maxLen at hs
  have ht : trimM l = l.drop 0 := by unfold trimM; rw [if_neg hd]; rfl
  have HH := Lib.hid hd
  clear hd
  have HT := Lib.hid ht
  clear ht
  by_cases h1 : l.length < 1 + 0
  · have z0 : ¬ 0 < (l.length : Int) := by omega
    have E := Lib.hid (n_no (nF_none_len (l := l) (lo := lo) (hi := hi) (.inl (by rw [HT.out, List.length_drop]; omega))))
    go_enter Tryd.func9, Tryd.ntmps9
    go_wp2
    go_ret2
    exact ⟨by rw [E.out.1, E.out.2]; rfl, Below.refl _ _⟩
  have y0 := run_index_sb (str l) 0 0 rfl (by rw [str_size]; omega)
  have y1 : (sb (str l) 0 == 45) = false := by
    cases l with
    | nil => simp at h1
    | cons c r =>
      rw [beq_eq_false_iff_ne]
      intro e
      apply HH.out
      rw [sb_str] at e
      have e2 : c.toNat = 45 := by simp at e; omega
      rw [show c = 45 from by rw [← ofNat_of c 45 e2]; rfl]
      rfl
  by_cases h2 : 10 + 0 < l.length
  · have E := Lib.hid (n_no (nF_none_len (l := l) (lo := lo) (hi := hi) (.inr (by rw [HT.out, List.length_drop]; omega))))
    go_enter Tryd.func9, Tryd.ntmps9
    go_wp2
    go_ret2
    exact ⟨by rw [E.out.1, E.out.2]; rfl, Below.refl _ _⟩
  go_enter Tryd.func9, Tryd.ntmps9
  go_wp2
  go_loop [9, 10] (fun v i => ∃ j n : Nat, 0 ≤ j ∧ j ≤ l.length ∧ i = .int .i64 (j : Int) ∧ v = .int .i64 (n : Int) ∧ n = valD (mid l 0 j) ∧ (∀ c ∈ mid l 0 j, isD c = true)) (fun _ i => l.length - (intOf i).toNat)
  case atStart => exact ⟨0, 0, by omega, by omega, rfl, rfl, by rw [mid_first]; rfl, fun c h => by rw [mid_first] at h; cases h⟩
  case round =>
    obtain ⟨j, n, hj0, hj, rfl, rfl, hv, hD⟩ := hrel
    have hlen := mid_len (f := 0) hj
    have hn : n < 10000000000 := by
      have g1 := valD_lt hD
      rw [← hv, hlen] at g1
      have g2 := ten_pow (k := j - 0) (by omega)
      omega
    clear hlen
    have HV := Lib.hid hv
    have HD := Lib.hid hD
    clear hv hD
    by_cases hlt : j < l.length
    · have x0 := run_index_sb (str l) j j rfl (by rw [str_size]; exact hlt)
      have l0 := sb_lo (str l) j
      have l1 := sb_hi (str l) j
      by_cases c1 : sb (str l) j < 48
      · have E := Lib.hid (n_no (nF_none_digit (l := l) (lo := lo) (hi := hi) (by rw [HT.out]; exact mid_mem hj0 hlt) (notD_sb (str l) j (by omega))))
        go_wp2
        go_ret2
        exact ⟨by rw [E.out.1, E.out.2]; rfl, Below.refl _ _⟩
      by_cases c2 : 57 < sb (str l) j
      · have E := Lib.hid (n_no (nF_none_digit (l := l) (lo := lo) (hi := hi) (by rw [HT.out]; exact mid_mem hj0 hlt) (notD_sb (str l) j (by omega))))
        go_wp2
        go_ret2
        exact ⟨by rw [E.out.1, E.out.2]; rfl, Below.refl _ _⟩
      have hdg := (isD_sb (str l) j).2 ⟨by omega, by omega⟩
      have N := Lib.hid (show ((n * 10 + ((l.getD j 0).toNat - 48) : Nat) : Int) = (n : Int) * 10 + sb (str l) j - 48 by rw [sb_str] at c1 ⊢; omega)
      have V := Lib.hid (show n * 10 + ((l.getD j 0).toNat - 48) = valD (mid l 0 (j + 1)) by rw [mid_more hj0 hlt, valD_snoc, ← HV.out])
      have D := Lib.hid (show ∀ c ∈ mid l 0 (j + 1), isD c = true by
        rw [mid_more hj0 hlt]
        intro c hc
        rcases List.mem_append.1 hc with hc | hc
        · exact HD.out c hc
        · rw [List.mem_singleton.1 hc]; exact hdg)
      clear hdg
      go_wp2
      go_round
      case rel => exact ⟨j + 1, n * 10 + ((l.getD j 0).toNat - 48), by omega, hlt, by go_num, by rw [N.out], V.out, D.out⟩
      case measure => simp [intOf]; omega
    · have hjl : j = l.length := by omega
      have EN := Lib.hid (show n = valD (trimM l) by rw [HV.out, hjl, mid_all, HT.out])
      have F := Lib.hid (nF_ref (l := l) (lo := lo) (hi := hi) (by rw [HT.out, List.length_drop]; omega) (by rw [HT.out, List.length_drop]; omega) (fun c hc => HD.out c (by rw [hjl, mid_all, ← HT.out]; exact hc)))
      have R := Lib.hid (show rN l = (n : Int) by unfold rN; rw [if_neg HH.out, ← EN.out])
      clear hjl
      have hil := itoa_len ((n : Int)) (by omega) (by omega)
      by_cases c1 : (n : Int) < lo
      · have E := Lib.hid (n_no (show nF l lo hi = none by rw [F.out, R.out, if_neg (by omega)]))
        go_wp2
        go_ret2
        exact ⟨by rw [E.out.1, E.out.2]; rfl, Below.refl _ _⟩
      by_cases c2 : hi < (n : Int)
      · have E := Lib.hid (n_no (show nF l lo hi = none by rw [F.out, R.out, if_neg (by omega)]))
        go_wp2
        go_ret2
        exact ⟨by rw [E.out.1, E.out.2]; rfl, Below.refl _ _⟩
      by_cases c3 : itoa ((n : Int)) = l
      · have E := Lib.hid (n_yes (show nF l lo hi = some ((n : Int)) by rw [F.out, R.out, if_pos ⟨by omega, by omega, c3⟩]))
        have t1 : (itoa ((n : Int)) == l) = true := by simpa using c3
        have t2 : (itoa ((n : Int)) != l) = false := by simpa using c3
        clear c3
        go_wp2_with (go_at_call 11; refine (refNumText_any ((n : Int)) (by omega) (by omega) _).mono ?_; rintro e w1 ⟨rfl, hb1⟩)
        go_ret2
        exact ⟨by rw [E.out.1, E.out.2]; rfl, hb1⟩
      · have E := Lib.hid (n_no (show nF l lo hi = none by rw [F.out, R.out, if_neg (fun h => c3 h.2.2)]))
        have t1 : (itoa ((n : Int)) == l) = false := by simpa using c3
        have t2 : (itoa ((n : Int)) != l) = true := by simpa using c3
        clear c3
        go_wp2_with (go_at_call 11; refine (refNumText_any ((n : Int)) (by omega) (by omega) _).mono ?_; rintro e w1 ⟨rfl, hb1⟩)
        go_ret2
        exact ⟨by rw [E.out.1, E.out.2]; rfl, hb1⟩
theorem refNumRead_any (l : List UInt8) (lo hi : Int) (w : World) (hs : l.length ≤ maxLen) :
    Calls Tryd.prog 9 #[.string (str l), .int .i64 lo, .int .i64 hi] w fun e w' => e = .returned (.tuple #[.int .i64 (nV l lo hi), .bool (nB l lo hi)]) ∧ Below w.heap.size w w' := by
  by_cases h : l.head? = some 45
  · exact refNumRead_neg l lo hi w hs h
  · exact refNumRead_pos l lo hi w hs h
end Go.Proofs.YtjmbgfhjdmoflaaDoor
