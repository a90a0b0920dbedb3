/- The contract of palingref02.Read: which address a text is, or that it is none. -/
import Derived.Test.YtjmbgfhjdmoflaaDoorRefDigits
namespace Go.Proofs.YtjmbgfhjdmoflaaDoor
open Go.RowKit
open Go.Lib (decDigits)

structure RInv (l : List UInt8) (i a dots : Nat) (part : List UInt8) : Prop where
  hdots : dots ≤ 4
  bd : a < 256 ^ dots
  hpart : part.length ≤ 3
  le : i ≤ l.length
  eq : refF l = refGo (l.drop i) a dots part
structure REnd (l : List UInt8) (a dots : Nat) : Prop where
  hdots : dots ≤ 4
  bd : a < 256 ^ dots
  eq : refF l = if dots = 4 then some a else none
theorem drop_more {l : List UInt8} {i : Nat} (h : i < l.length) : l.drop i = l.getD i 0 :: l.drop (i + 1) := by
  rw [List.drop_eq_getElem_cons h]
  simp [List.getD, List.getElem?_eq_getElem h]
theorem RInv.start (l : List UInt8) : RInv l 0 0 0 [] := ⟨by omega, by decide, by simp, by omega, rfl⟩
theorem RInv.byte {l : List UInt8} {i a dots : Nat} {part : List UInt8} (h : RInv l i a dots part) (hi : i < l.length) (hc : l.getD i 0 ≠ 46) (hp : part.length < 3) : RInv l (i + 1) a dots (part ++ [l.getD i 0]) := by
  refine ⟨h.hdots, h.bd, by simp; omega, hi, ?_⟩
  rw [h.eq, drop_more hi, refGo, if_neg hc, if_neg (by omega)]
theorem RInv.long {l : List UInt8} {i a dots : Nat} {part : List UInt8} (h : RInv l i a dots part) (hi : i < l.length) (hc : l.getD i 0 ≠ 46) (hp : ¬ part.length < 3) : rdF l = none := by
  rw [← refF_eq, h.eq, drop_more hi, refGo, if_neg hc, if_pos (by omega)]
theorem RInv.bad {l : List UInt8} {i a dots : Nat} {part : List UInt8} (h : RInv l i a dots part) (hi : i < l.length → l.getD i 0 = 46) (hb : 255 < digF part ∨ 3 < dots) : rdF l = none := by
  rw [← refF_eq, h.eq]
  by_cases hl : i < l.length
  · rw [drop_more hl, refGo, if_pos (hi hl), if_pos hb]
  · rw [List.drop_eq_nil_of_le (by omega), refGo, if_pos hb]
theorem pow_more {a d dots : Nat} (h : a < 256 ^ dots) (hd : d ≤ 255) : a * 256 + d < 256 ^ (dots + 1) := by
  have e : 256 ^ (dots + 1) = 256 ^ dots * 256 := Nat.pow_succ ..
  rw [e]
  omega
theorem RInv.dot {l : List UInt8} {i a dots : Nat} {part : List UInt8} (h : RInv l i a dots part) (hi : i < l.length) (hc : l.getD i 0 = 46) (h1 : ¬ 255 < digF part) (h2 : ¬ 3 < dots) : RInv l (i + 1) (a * 256 + digF part) (dots + 1) [] := by
  refine ⟨by omega, pow_more h.bd (by omega), by simp, hi, ?_⟩
  rw [h.eq, drop_more hi, refGo, if_pos hc, if_neg (by omega)]
theorem RInv.last {l : List UInt8} {i a dots : Nat} {part : List UInt8} (h : RInv l i a dots part) (hi : i = l.length) (h1 : ¬ 255 < digF part) (h2 : ¬ 3 < dots) : REnd l (a * 256 + digF part) (dots + 1) := by
  refine ⟨by omega, pow_more h.bd (by omega), ?_⟩
  rw [h.eq, hi, List.drop_eq_nil_of_le (Nat.le_refl _), refGo, if_neg (by omega)]
theorem REnd.no {l : List UInt8} {a dots : Nat} (h : REnd l a dots) (hd : dots ≠ 4) : rdF l = none := by rw [← refF_eq, h.eq, if_neg hd]
theorem REnd.yes {l : List UInt8} {a dots : Nat} (h : REnd l a dots) (hd : dots = 4) : rdF l = some a ∧ a < 4294967296 := by
  have hb := h.bd
  rw [hd] at hb
  exact ⟨by rw [← refF_eq, h.eq, if_pos hd], hb⟩
/-- what the loop keeps -/
def RRel (l : List UInt8) (i a dots : Nat) (part : List UInt8) : Prop := RInv l i a dots part ∨ (i = l.length + 1 ∧ part = [] ∧ REnd l a dots)
theorem pow_dots {a dots : Nat} (h : a < 256 ^ dots) (hd : dots ≤ 4) : a < 4294967296 := Nat.lt_of_lt_of_le h (Nat.le_trans (Nat.pow_le_pow_right (by decide) hd) (by decide))
theorem sb46 (l : List UInt8) (k : Nat) : l.getD k 0 = 46 ↔ sb (str l) k = 46 := by
  rw [sb_str]
  constructor
  · intro h; rw [h]; rfl
  · intro h
    have : (l.getD k 0).toNat = 46 := by omega
    rw [← ofNat_of _ _ this]; rfl

set_option maxRecDepth 100000 in
set_option maxHeartbeats 2000000 in
theorem refRead_any (l : List UInt8) (w : World) (hs : l.length < 4294967296) :
    Calls Tryd.prog 37 #[.string (str l)] w fun e w' => e = .returned (.tuple #[.int .u32 (rdV l), .bool (rdB l)]) ∧ Below w.heap.size w w' := by
  go_enter Tryd.func37, Tryd.ntmps37
  go_wp2
  go_loopw [4, 5, 6, 7] (fun v d p i wr => ∃ (k a dots : Nat) (part : List UInt8), i = .int .i64 (k : Int) ∧ v = .int .i64 (a : Int) ∧ d = .int .i64 (dots : Int) ∧ p = .string (str part) ∧ RRel l k a dots part ∧ Below w.heap.size w wr) (fun _ _ _ i _ => l.length + 1 - (intOf i).toNat)
  case atStart => exact ⟨0, 0, 0, [], rfl, rfl, rfl, rfl, .inl (RInv.start l), Below.refl _ _⟩
  case round =>
    obtain ⟨k, a, dots, part, rfl, rfl, rfl, rfl, hrel, hb⟩ := hrel
    rcases hrel with inv | ⟨rfl, rfl, fin⟩
    · have I := Lib.hid inv
      have hk := inv.le
      have hd4 := inv.hdots
      have ha := pow_dots inv.bd inv.hdots
      have hp := inv.hpart
      clear inv
      have hkl : (k : Int) ≤ (l.length : Int) := by omega
      have L0 : (0 : Int) ≤ (l.length : Int) := by omega
      by_cases hlt : k < l.length
      · have x0 := run_index_sb (str l) k k rfl (by rw [str_size]; exact hlt)
        by_cases hc : sb (str l) k = 46
        · have t1 : (sb (str l) k != 46) = false := by simpa using hc
          have HC := Lib.hid ((sb46 l k).2 hc)
          clear hc
          by_cases h1 : 255 < digF part
          · have E := Lib.hid (rd_no (I.out.bad (fun _ => HC.out) (.inl h1)))
            go_wp2_with (go_at_call 51; refine (refDigits_any part _ (by unfold maxLen; omega)).mono ?_; rintro e w1 ⟨rfl, hb1⟩)
            go_ret2
            exact ⟨by rw [E.out.1, E.out.2]; rfl, trans_below hb hb1⟩
          · by_cases h2 : 3 < dots
            · have E := Lib.hid (rd_no (I.out.bad (fun _ => HC.out) (.inr h2)))
              go_wp2_with (go_at_call 51; refine (refDigits_any part _ (by unfold maxLen; omega)).mono ?_; rintro e w1 ⟨rfl, hb1⟩)
              go_ret2
              exact ⟨by rw [E.out.1, E.out.2]; rfl, trans_below hb hb1⟩
            · have I2 := Lib.hid (I.out.dot hlt HC.out h1 h2)
              go_wp2_with (first | (go_at_call 51; (with_reducible refine (refDigits_any part wr (by unfold maxLen; omega)).mono ?_); rintro e w1 ⟨rfl, hb1⟩) | (go_at_call 51; refine (refDigits_any part _ (by unfold maxLen; omega)).mono ?_; rintro e w2 ⟨rfl, hb2⟩))
              go_roundw
              case rel => exact ⟨k + 1, a * 256 + digF part, dots + 1, [], by go_num, by go_num, by go_num, rfl, .inl I2.out, trans_below (trans_below hb hb1) hb2⟩
              case measure => simp [intOf]; omega
        · have t1 : (sb (str l) k != 46) = true := by simpa using hc
          have HC := Lib.hid (show l.getD k 0 ≠ 46 from fun h => hc ((sb46 l k).1 h))
          have EX := Lib.hid (show (str l).extract k (k + 1) = str [l.getD k 0] by
            rw [← str_data ((str l).extract k (k + 1))]
            congr 1
            have h1 : List.take 1 (l.drop k) = [l.getD k 0] := by rw [drop_more hlt]; rfl
            simpa using h1)
          have c1 : (k : Int) + 1 ≤ (l.length : Int) := by omega
          have c2 : (k : Int) ≤ (k : Int) + 1 := by omega
          have c3 : (0 : Int) ≤ (k : Int) + 1 := by omega
          have c4 : ((k : Int) + 1).toNat = k + 1 := by omega
          clear hc
          by_cases hp2 : part.length < 3
          · have I2 := Lib.hid (I.out.byte hlt HC.out hp2)
            go_wp2
            go_roundw
            case rel => exact ⟨k + 1, a, dots, part ++ [l.getD k 0], by go_num, rfl, rfl, by rw [EX.out, str_append], .inl I2.out, hb⟩
            case measure => simp [intOf]; omega
          · have E := Lib.hid (rd_no (I.out.long hlt HC.out hp2))
            go_wp2
            go_ret2
            exact ⟨by rw [E.out.1, E.out.2]; rfl, hb⟩
      · have hkl2 : k = l.length := by omega
        by_cases h1 : 255 < digF part
        · have E := Lib.hid (rd_no (I.out.bad (fun h => absurd h hlt) (.inl h1)))
          clear hkl2
          go_wp2_with (go_at_call 51; refine (refDigits_any part _ (by unfold maxLen; omega)).mono ?_; rintro e w1 ⟨rfl, hb1⟩)
          go_ret2
          exact ⟨by rw [E.out.1, E.out.2]; rfl, trans_below hb hb1⟩
        · by_cases h2 : 3 < dots
          · have E := Lib.hid (rd_no (I.out.bad (fun h => absurd h hlt) (.inr h2)))
            clear hkl2
            go_wp2_with (go_at_call 51; refine (refDigits_any part _ (by unfold maxLen; omega)).mono ?_; rintro e w1 ⟨rfl, hb1⟩)
            go_ret2
            exact ⟨by rw [E.out.1, E.out.2]; rfl, trans_below hb hb1⟩
          · have I2 := Lib.hid (I.out.last hkl2 h1 h2)
            have HK := Lib.hid hkl2
            clear hkl2
            go_wp2_with (first | (go_at_call 51; (with_reducible refine (refDigits_any part wr (by unfold maxLen; omega)).mono ?_); rintro e w1 ⟨rfl, hb1⟩) | (go_at_call 51; refine (refDigits_any part _ (by unfold maxLen; omega)).mono ?_; rintro e w2 ⟨rfl, hb2⟩))
            go_roundw
            case rel => exact ⟨k + 1, a * 256 + digF part, dots + 1, [], by go_num, by go_num, by go_num, rfl, .inr ⟨by rw [HK.out], rfl, I2.out⟩, trans_below (trans_below hb hb1) hb2⟩
            case measure => simp [intOf]; omega
    · have hd4 := fin.hdots
      have hf := Lib.hid fin
      have hn : ¬ (((l.length + 1 : Nat) : Int) ≤ (l.length : Int)) := by omega
      by_cases h4 : dots = 4
      · have E := Lib.hid (hf.out.yes h4)
        have E2 := Lib.hid (rd_yes E.out.1)
        have ha := E.out.2
        have t1 : ((dots : Int) != 4) = false := by rw [h4]; rfl
        clear h4 fin
        go_wp2
        go_ret2
        exact ⟨by rw [E2.out.1, E2.out.2]; rfl, hb⟩
      · have E := Lib.hid (rd_no (hf.out.no h4))
        have t1 : ((dots : Int) != 4) = true := by simp; omega
        clear h4 fin
        go_wp2
        go_ret2
        exact ⟨by rw [E.out.1, E.out.2]; rfl, hb⟩
end Go.Proofs.YtjmbgfhjdmoflaaDoor
