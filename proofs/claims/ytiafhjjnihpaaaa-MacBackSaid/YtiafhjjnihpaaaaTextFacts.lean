/- Plain facts on texts of addresses: what is read is what was written. -/
import Derived.Test.YtiafhjjnihpaaaaRefText
import Derived.Test.YtiafhjjnihpaaaaRead
namespace Go.Proofs.Ytiafhjjnihpaaaa

theorem textPre_six (m : Int) : textPre m 6 = [hx (byt m 0 / 16), hx (byt m 0 % 16), 58, hx (byt m 1 / 16), hx (byt m 1 % 16), 58, hx (byt m 2 / 16), hx (byt m 2 % 16), 58,
    hx (byt m 3 / 16), hx (byt m 3 % 16), 58, hx (byt m 4 / 16), hx (byt m 4 % 16), 58, hx (byt m 5 / 16), hx (byt m 5 % 16)] := by simp [textPre]
theorem hx_dg (c : Int) (h : 0 ≤ dg c) : hx (dg c) = c := by
  by_cases a : 48 ≤ c ∧ c ≤ 57
  · have e : dg c = c - 48 := by simp [dg, a]
    rw [e]
    unfold hx
    rw [if_pos (by omega)]
    omega
  · by_cases b : 97 ≤ c ∧ c ≤ 102
    · have e : dg c = c - 87 := by unfold dg; rw [if_neg a, if_pos b]
      rw [e]
      unfold hx
      rw [if_neg (by omega)]
      omega
    · have e : dg c = -1 := by unfold dg; rw [if_neg a, if_neg b]
      omega
theorem dg_hx (d : Int) (h0 : 0 ≤ d) (h1 : d < 16) : dg (hx d) = d := by
  have : d = 0 ∨ d = 1 ∨ d = 2 ∨ d = 3 ∨ d = 4 ∨ d = 5 ∨ d = 6 ∨ d = 7 ∨ d = 8 ∨ d = 9 ∨ d = 10 ∨ d = 11 ∨ d = 12 ∨ d = 13 ∨ d = 14 ∨ d = 15 := by omega
  rcases this with rfl | rfl | rfl | rfl | rfl | rfl | rfl | rfl | rfl | rfl | rfl | rfl | rfl | rfl | rfl | rfl <;> decide
theorem hx_bd (d : Int) (h0 : 0 ≤ d) (h1 : d < 16) : 0 ≤ hx d ∧ hx d < 256 := by unfold hx; split <;> omega
theorem sb_strOf (l : List Int) (j : Nat) (hl : ∀ x ∈ l, 0 ≤ x ∧ x < 256) (hj : j < l.length) : sb (strOf l) j = l.getD j 0 := by
  unfold sb strOf
  have h1 := hl l[j] (List.getElem_mem hj)
  simp [List.getD, hj]
  omega
theorem textPre_bd (m : Int) : ∀ x ∈ textPre m 6, 0 ≤ x ∧ x < 256 := by
  have a := fun k => hx_bd (byt m k / 16) (by have := byt_lo m k; omega) (by have := byt_hi m k; omega)
  have b := fun k => hx_bd (byt m k % 16) (by have := byt_lo m k; omega) (by have := byt_hi m k; omega)
  rw [textPre_six]
  simp only [List.forall_mem_cons]
  exact ⟨a 0, b 0, by decide, a 1, b 1, by decide, a 2, b 2, by decide, a 3, b 3, by decide, a 4, b 4, by decide, a 5, b 5, by simp⟩
theorem textPre_17 (m : Int) : (textPre m 6).length = 17 := by rw [textPre_six]; rfl

/-- what is written is well written -/
theorem rdB_text (m : Int) : rdB (strOf (textPre m 6)) = true := by
  rw [rdB_iff]
  refine ⟨by rw [strOf_size, textPre_17], fun j hj => ?_⟩
  have hd := fun k : Nat => dg_hx (byt m k / 16) (by have := byt_lo m k; omega) (by have := byt_hi m k; omega)
  have hm := fun k : Nat => dg_hx (byt m k % 16) (by have := byt_lo m k; omega) (by have := byt_hi m k; omega)
  have hn0 := fun k : Nat => byt_lo m k
  have get := fun i (hi : i < 17) => sb_strOf (textPre m 6) i (textPre_bd m) (by rw [textPre_17]; exact hi)
  unfold good
  rw [get (3 * j) (by omega), get (3 * j + 1) (by omega), get (3 * j - 1) (by omega), textPre_six]
  have a := hn0 j
  have h1 := hd j
  have h2 := hm j
  match j, hj with
  | 0, _ | 1, _ | 2, _ | 3, _ | 4, _ | 5, _ =>
    simp [h1, h2] at *
    first | omega | (constructor <;> omega)
theorem strOf_sb (s : ByteArray) (n : Nat) (hs : s.size = n) : strOf ((List.range n).map (sb s)) = s := by
  have hl : s.data.toList.length = n := by simpa using hs
  have e : ((List.range n).map (sb s)).map (fun n => UInt8.ofNat n.toNat) = s.data.toList := by
    apply List.ext_getElem
    · simp [hl]
    · intro i h1 h2
      simp [sb, List.getD, List.getElem?_eq_getElem h2]
  unfold strOf
  rw [e]

theorem val_six (s : ByteArray) : val s 6 = (((((dg (sb s 0) * 16 + dg (sb s 1)) * 256 + (dg (sb s 3) * 16 + dg (sb s 4))) * 256 + (dg (sb s 6) * 16 + dg (sb s 7))) * 256 + (dg (sb s 9) * 16 + dg (sb s 10))) * 256 + (dg (sb s 12) * 16 + dg (sb s 13))) * 256 + (dg (sb s 15) * 16 + dg (sb s 16)) := by
  simp [val]

/-- what is well written is the text of its number -/
theorem text_val (s : ByteArray) (h : rdB s = true) : strOf (textPre (val s 6) 6) = s := by
  obtain ⟨hs, hg⟩ := (rdB_iff s).1 h
  obtain ⟨a0, b0, _⟩ := hg 0 (by omega)
  obtain ⟨a1, b1, c1⟩ := hg 1 (by omega)
  obtain ⟨a2, b2, c2⟩ := hg 2 (by omega)
  obtain ⟨a3, b3, c3⟩ := hg 3 (by omega)
  obtain ⟨a4, b4, c4⟩ := hg 4 (by omega)
  obtain ⟨a5, b5, c5⟩ := hg 5 (by omega)
  have c1 := c1 (by omega); have c2 := c2 (by omega); have c3 := c3 (by omega); have c4 := c4 (by omega); have c5 := c5 (by omega)
  simp only [Nat.mul_zero, Nat.zero_add, Nat.reduceMul, Nat.reduceAdd, Nat.reduceSub] at a0 b0 a1 b1 c1 a2 b2 c2 a3 b3 c3 a4 b4 c4 a5 b5 c5
  have L := fun j => dg_lt (sb s j)
  have hv := val_six s
  have l0 := L 0; have l1 := L 1; have l3 := L 3; have l4 := L 4; have l6 := L 6; have l7 := L 7
  have l9 := L 9; have l10 := L 10; have l12 := L 12; have l13 := L 13; have l15 := L 15; have l16 := L 16
  have y0 : byt (val s 6) 0 = dg (sb s 0) * 16 + dg (sb s 1) := by unfold byt; simp only [Nat.reduceSub, Int.reducePow]; omega
  have y1 : byt (val s 6) 1 = dg (sb s 3) * 16 + dg (sb s 4) := by unfold byt; simp only [Nat.reduceSub, Int.reducePow]; omega
  have y2 : byt (val s 6) 2 = dg (sb s 6) * 16 + dg (sb s 7) := by unfold byt; simp only [Nat.reduceSub, Int.reducePow]; omega
  have y3 : byt (val s 6) 3 = dg (sb s 9) * 16 + dg (sb s 10) := by unfold byt; simp only [Nat.reduceSub, Int.reducePow]; omega
  have y4 : byt (val s 6) 4 = dg (sb s 12) * 16 + dg (sb s 13) := by unfold byt; simp only [Nat.reduceSub, Int.reducePow]; omega
  have y5 : byt (val s 6) 5 = dg (sb s 15) * 16 + dg (sb s 16) := by unfold byt; simp only [Nat.reduceSub, Int.reducePow]; omega
  clear hv
  have q : ∀ a b : Int, 0 ≤ a → 0 ≤ b → b < 16 → (a * 16 + b) / 16 = a ∧ (a * 16 + b) % 16 = b := fun a b _ _ _ => by omega
  rw [textPre_six, y0, y1, y2, y3, y4, y5, (q _ _ a0 b0 l1).1, (q _ _ a0 b0 l1).2, (q _ _ a1 b1 l4).1, (q _ _ a1 b1 l4).2, (q _ _ a2 b2 l7).1, (q _ _ a2 b2 l7).2,
    (q _ _ a3 b3 l10).1, (q _ _ a3 b3 l10).2, (q _ _ a4 b4 l13).1, (q _ _ a4 b4 l13).2, (q _ _ a5 b5 l16).1, (q _ _ a5 b5 l16).2,
    hx_dg _ a0, hx_dg _ b0, hx_dg _ a1, hx_dg _ b1, hx_dg _ a2, hx_dg _ b2, hx_dg _ a3, hx_dg _ b3, hx_dg _ a4, hx_dg _ b4, hx_dg _ a5, hx_dg _ b5]
  have e := strOf_sb s 17 hs
  rw [show (List.range 17).map (sb s) = [sb s 0, sb s 1, sb s 2, sb s 3, sb s 4, sb s 5, sb s 6, sb s 7, sb s 8, sb s 9, sb s 10, sb s 11, sb s 12, sb s 13, sb s 14, sb s 15, sb s 16] from rfl, c1, c2, c3, c4, c5] at e
  exact e

/-- the number of a digit, or 0 -/
def dd (c : Int) : Int := if 48 ≤ c ∧ c ≤ 57 then c - 48 else if 97 ≤ c ∧ c ≤ 102 then c - 87 else 0
theorem dd_bd (c : Int) : 0 ≤ dd c ∧ dd c < 16 := by unfold dd; split <;> (try split) <;> omega
theorem dd_dg (c : Int) (h : 0 ≤ dg c) : dd c = dg c := by
  by_cases a : 48 ≤ c ∧ c ≤ 57
  · simp [dd, dg, a]
  · by_cases b : 97 ≤ c ∧ c ≤ 102
    · unfold dd dg; rw [if_neg a, if_neg a, if_pos b, if_pos b]
    · have e : dg c = -1 := by unfold dg; rw [if_neg a, if_neg b]
      omega
/-- the number of the first i bytes' digits -/
def nn (s : ByteArray) : Nat → Int
  | 0 => 0
  | i + 1 => if i % 3 = 2 then nn s i else nn s i * 16 + dd (sb s i)
theorem nn_bd (s : ByteArray) (i : Nat) : 0 ≤ nn s i ∧ nn s i < 16 ^ (i - i / 3) := by
  induction i with
  | zero => simp [nn]
  | succ i ih =>
    obtain ⟨i0, i1⟩ := ih
    obtain ⟨d0, d1⟩ := dd_bd (sb s i)
    simp only [nn]
    by_cases h : i % 3 = 2
    · rw [if_pos h, show i + 1 - (i + 1) / 3 = i - i / 3 by omega]
      exact ⟨i0, i1⟩
    · rw [if_neg h, show i + 1 - (i + 1) / 3 = (i - i / 3) + 1 by omega, Int.pow_succ]
      omega
theorem nn_val (s : ByteArray) (h : rdB s = true) : nn s 17 = val s 6 := by
  obtain ⟨hs, hg⟩ := (rdB_iff s).1 h
  obtain ⟨a0, b0, _⟩ := hg 0 (by omega)
  obtain ⟨a1, b1, _⟩ := hg 1 (by omega)
  obtain ⟨a2, b2, _⟩ := hg 2 (by omega)
  obtain ⟨a3, b3, _⟩ := hg 3 (by omega)
  obtain ⟨a4, b4, _⟩ := hg 4 (by omega)
  obtain ⟨a5, b5, _⟩ := hg 5 (by omega)
  simp only [Nat.mul_zero, Nat.zero_add, Nat.reduceMul, Nat.reduceAdd] at a0 b0 a1 b1 a2 b2 a3 b3 a4 b4 a5 b5
  rw [val_six]
  simp only [nn, Nat.reduceMod, if_true, reduceIte, Nat.reduceEqDiff]
  simp only [dd_dg _ a0, dd_dg _ b0, dd_dg _ a1, dd_dg _ b1, dd_dg _ a2, dd_dg _ b2, dd_dg _ a3, dd_dg _ b3, dd_dg _ a4, dd_dg _ b4, dd_dg _ a5, dd_dg _ b5]
  omega
end Go.Proofs.Ytiafhjjnihpaaaa
