/- The walk of the statement AddrBack. -/
import Derived.Test.YtfohjalgpcgfmaaDoorPfLaw
namespace Go.Proofs.YtfohjalgpcgfmaaDoor
open Go.RowKit
open Go.Lib (decDigits byteCells)

theorem read_txt (a : Nat) (ha : a < 4294967296) (w : World) : Calls Tryd.prog 8 #[.string (str (txt a))] w fun e w' => e = .returned (.tuple #[.int .u32 (a : Int), .bool true]) ∧ Below w.heap.size w w' := by
  refine (read_yes (txt a) a w (by have := txt_len a ha; unfold maxLen; omega) (rdF_txt a ha)).mono ?_
  rintro e w' ⟨rfl, hd⟩
  exact ⟨rfl, hd.below⟩
theorem readPrefix_is (l : List UInt8) (p : Option (Nat × Nat)) (h : pfF l = p) (hs : l.length ≤ maxLen) (w : World) :
    Calls Tryd.prog 10 #[.string (str l)] w fun e w' => e = .returned (.tuple #[.agg #[.int .u32 ((p.getD (0, 0)).1 : Nat), .int .i64 ((p.getD (0, 0)).2 : Nat)], .bool p.isSome]) ∧ Below w.heap.size w w' := by
  have h2 := readPrefix_any (str l) w (by rw [str_size]; exact hs)
  unfold pfV pfB at h2
  rw [show (str l).data.toList = l by simp, h] at h2
  exact h2
theorem readPrefix_txt (a b : Nat) (ha : a < 4294967296) (hb : b ≤ 32) (w : World) :
    Calls Tryd.prog 10 #[.string (str (ptxt a b))] w fun e w' => e = .returned (.tuple #[.agg #[.int .u32 (a : Int), .int .i64 (b : Int)], .bool true]) ∧ Below w.heap.size w w' :=
  readPrefix_is (ptxt a b) (some (a, b)) (pfF_iff.2 ⟨ha, hb, rfl⟩) (by
    have := txt_len a ha
    have := dec3 b (by omega)
    unfold ptxt maxLen
    simp
    omega) w
theorem readPrefix_empty (w : World) : Calls Tryd.prog 10 #[.string ⟨#[]⟩] w fun e w' => e = .returned (.tuple #[.agg #[.int .u32 0, .int .i64 0], .bool false]) ∧ Below w.heap.size w w' :=
  readPrefix_is [] none (by decide +kernel) (by simp) w

set_option maxRecDepth 100000 in
set_option maxHeartbeats 2000000 in
theorem back_walk (A B : Int) (hA0 : 0 ≤ A) (hA1 : A < 4294967296) (w : World) (htab : Lib.TabIs Tryd.prog w pow10 .u64 Lib.pow10Tab) :
    Calls Tryd.prog 5 #[.agg #[.int .u32 A, .int .i64 B]] w fun e w' => e = .returned (.bool true) ∧ Below w.heap.size w w' := by
  have HT := Lib.hid htab
  clear htab
  obtain ⟨a, rfl⟩ := Int.eq_ofNat_of_zero_le hA0
  have ha : a < 4294967296 := by omega
  cases hr : RT B with
  | false =>
    go_enter Tryd.func5, Tryd.ntmps5
    go_wp2_with (first
      | (go_at_call 12; refine (text_any a ha _ (tab_below HT.out ((Below.refl _ _).alloc (Nat.le_refl _) _))).mono ?_; rintro e w1 ⟨rfl, hb1⟩; obtain ⟨hc1, hf1⟩ := bcell hb1; have z1 : w.heap.size < w1.heap.size := (by have := hb1.size; simp at this; omega); have hB1 := one_below hb1)
      | (go_at_call 8; refine (read_txt a ha _).mono ?_; rintro e w2 ⟨rfl, hb2⟩; obtain ⟨hc2, hf2⟩ := bcell hb2; have z2 : w.heap.size < w2.heap.size := (by have := hb2.size; omega); have hB2 := trans_below hB1 hb2)
      | (go_at_call 14; refine (prefixText_no a B hr _).mono ?_; rintro e w3 ⟨rfl, hb3⟩; obtain ⟨hc3, hf3⟩ := bcell hb3; have z3 : w.heap.size < w3.heap.size := (by have := hb3.size; omega); have hB3 := trans_below hB2 hb3)
      | (go_at_call 10; refine (readPrefix_empty _).mono ?_; rintro e w4 ⟨rfl, hb4⟩; obtain ⟨hc4, hf4⟩ := bcell hb4; have z4 : w.heap.size < w4.heap.size := (by have := hb4.size; omega); have hB4 := (trans_below hB3 hb4).alloc (Nat.le_of_lt z4) (.cells #[.int .u32 0, .int .i64 0] 24))
      | (go_at_call 7; refine (works_any _ (tab_below HT.out hB4)).mono ?_; rintro e w5 ⟨rfl, hb5⟩; obtain ⟨hc5, hf5⟩ := bcell hb5; have z5 : w.heap.size < w5.heap.size := (by have := hb5.size; simp at this; omega); have hB5 := trans_below hB4 hb5)
      | (go_at_call 16; refine (right_is a B false hr _).mono ?_; rintro e w6 ⟨rfl, hb6⟩; have hB6 := trans_below hB5 hb6))
    go_ret
    exact ⟨rfl, hB6⟩
  | true =>
    obtain ⟨b, rfl, hb⟩ := RT_nat hr
    go_enter Tryd.func5, Tryd.ntmps5
    go_wp2_with (first
      | (go_at_call 12; refine (text_any a ha _ (tab_below HT.out ((Below.refl _ _).alloc (Nat.le_refl _) _))).mono ?_; rintro e w1 ⟨rfl, hb1⟩; obtain ⟨hc1, hf1⟩ := bcell hb1; have z1 : w.heap.size < w1.heap.size := (by have := hb1.size; simp at this; omega); have hB1 := one_below hb1)
      | (go_at_call 8; refine (read_txt a ha _).mono ?_; rintro e w2 ⟨rfl, hb2⟩; obtain ⟨hc2, hf2⟩ := bcell hb2; have z2 : w.heap.size < w2.heap.size := (by have := hb2.size; omega); have hB2 := trans_below hB1 hb2)
      | (go_at_call 14; refine (prefixText_yes a b ha hb _ (tab_below HT.out hB2)).mono ?_; rintro e w3 ⟨rfl, hb3⟩; obtain ⟨hc3, hf3⟩ := bcell hb3; have z3 : w.heap.size < w3.heap.size := (by have := hb3.size; omega); have hB3 := trans_below hB2 hb3)
      | (go_at_call 10; refine (readPrefix_txt a b ha hb _).mono ?_; rintro e w4 ⟨rfl, hb4⟩; obtain ⟨hc4, hf4⟩ := bcell hb4; have z4 : w.heap.size < w4.heap.size := (by have := hb4.size; omega); have hB4 := (trans_below hB3 hb4).alloc (Nat.le_of_lt z4) (.cells #[.int .u32 (a : Int), .int .i64 (b : Int)] 24))
      | (go_at_call 7; refine (works_any _ (tab_below HT.out hB4)).mono ?_; rintro e w5 ⟨rfl, hb5⟩; obtain ⟨hc5, hf5⟩ := bcell hb5; have z5 : w4.heap.size < w5.heap.size := (by have := hb5.size; simp at this; omega); have z50 : w.heap.size < w5.heap.size := (by omega); have hB5 := trans_below hB4 hb5)
      | (go_at_call 16; refine (right_is a b true hr _).mono ?_; rintro e w6 ⟨rfl, hb6⟩; obtain ⟨hc6, hf6⟩ := bcell hb6; have z6 : w4.heap.size < w6.heap.size := (by have := hb6.size; omega); have z60 : w.heap.size < w6.heap.size := (by omega); have hB6 := trans_below hB5 hb6))
    go_ret
    exact ⟨rfl, hB6⟩
end Go.Proofs.YtfohjalgpcgfmaaDoor
