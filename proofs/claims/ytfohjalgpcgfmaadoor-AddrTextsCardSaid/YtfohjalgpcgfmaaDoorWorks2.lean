/- The contract of works, the chapter's example: it holds. -/
import Derived.Test.YtfohjalgpcgfmaaDoorPfText
namespace Go.Proofs.YtfohjalgpcgfmaaDoor
open Go.RowKit
open Go.Lib (decDigits byteCells)

abbrev exP : ByteArray := ⟨#[49, 48, 46, 48, 46, 48, 46, 55, 47, 50, 52]⟩
abbrev exF : ByteArray := ⟨#[49, 48, 46, 48, 46, 48, 46, 48]⟩
abbrev exL : ByteArray := ⟨#[49, 48, 46, 48, 46, 48, 46, 50, 53, 53]⟩
theorem exP_read : pfF exP.data.toList = some (167772167, 24) := by decide +kernel
theorem exF_read : rdF exF.data.toList = some 167772160 := by decide +kernel
theorem exL_read : rdF exL.data.toList = some 167772415 := by decide +kernel
theorem exF_text : str (txt 167772160) = exF := by rw [← (rdF_some exF_read).2]
theorem exL_text : str (txt 167772415) = exL := by rw [← (rdF_some exL_read).2]
theorem exP_text : str (ptxt 167772167 24) = exP := by rw [← (pfF_iff.1 exP_read).2.2]
theorem ex_first : fsN 167772167 24 = 167772160 := by decide +kernel
theorem ex_last : lsN 167772167 24 = 167772415 := by decide +kernel
theorem readPrefix_ex (w : World) : Calls Tryd.prog 10 #[.string exP] w fun e w' => e = .returned (.tuple #[.agg #[.int .u32 167772167, .int .i64 24], .bool true]) ∧ Below w.heap.size w w' := by
  have h := readPrefix_any exP w (by decide)
  rw [(pf_yes exP_read).1, (pf_yes exP_read).2] at h
  exact h
theorem first_ex (w : World) : Calls Tryd.prog 18 #[.agg #[.int .u32 167772167, .int .i64 24]] w fun e w' => e = .returned (.int .u32 167772160) ∧ Below w.heap.size w w' := by
  have h := first_yes 167772167 24 (by omega) (by omega) w
  rw [ex_first] at h
  exact h
theorem last_ex (w : World) : Calls Tryd.prog 20 #[.agg #[.int .u32 167772167, .int .i64 24]] w fun e w' => e = .returned (.int .u32 167772415) ∧ Below w.heap.size w w' := by
  have h := last_yes 167772167 24 (by omega) (by omega) w
  rw [ex_last] at h
  exact h
theorem textF_ex (w : World) (htab : Lib.TabIs Tryd.prog w pow10 .u64 Lib.pow10Tab) : Calls Tryd.prog 12 #[.int .u32 167772160] w fun e w' => e = .returned (.string exF) ∧ Below w.heap.size w w' := by
  have h := text_any 167772160 (by omega) w htab
  rw [exF_text] at h
  exact h
theorem textL_ex (w : World) (htab : Lib.TabIs Tryd.prog w pow10 .u64 Lib.pow10Tab) : Calls Tryd.prog 12 #[.int .u32 167772415] w fun e w' => e = .returned (.string exL) ∧ Below w.heap.size w w' := by
  have h := text_any 167772415 (by omega) w htab
  rw [exL_text] at h
  exact h
theorem prefixText_ex (w : World) (htab : Lib.TabIs Tryd.prog w pow10 .u64 Lib.pow10Tab) : Calls Tryd.prog 14 #[.agg #[.int .u32 167772167, .int .i64 24]] w fun e w' => e = .returned (.string exP) ∧ Below w.heap.size w w' := by
  have h := prefixText_yes 167772167 24 (by omega) (by omega) w htab
  rw [exP_text] at h
  exact h

set_option maxRecDepth 100000 in
theorem works_any (w : World) (htab : Lib.TabIs Tryd.prog w pow10 .u64 Lib.pow10Tab) : Calls Tryd.prog 7 #[] w fun e w' => e = .returned (.bool true) ∧ Below w.heap.size w w' := by
  have HT := Lib.hid htab
  clear htab
  go_enter Tryd.func7, Tryd.ntmps7
  go_wp2_with (first
    | (go_at_call 10; refine (readPrefix_ex _).mono ?_; rintro e w1 ⟨rfl, hb1⟩)
    | (go_at_call 18; refine (first_ex _).mono ?_; rintro e w2 ⟨rfl, hb2⟩; obtain ⟨hc2, hf2⟩ := bcell hb2; have z2 : w1.heap.size < w2.heap.size := (by have := hb2.size; first | omega | (simp at this; omega)); have hB2 := trans_below (hb1.alloc hb1.size _) hb2)
    | (go_at_call 12; (with_reducible refine (textF_ex _ (tab_below HT.out hB2)).mono ?_); rintro e w3 ⟨rfl, hb3⟩; obtain ⟨hc3, hf3⟩ := bcell hb3; have z3 : w1.heap.size < w3.heap.size := (by have := hb3.size; first | omega | (simp at this; omega)); have hB3 := trans_below hB2 hb3)
    | (go_at_call 20; refine (last_ex _).mono ?_; rintro e w4 ⟨rfl, hb4⟩; obtain ⟨hc4, hf4⟩ := bcell hb4; have z4 : w1.heap.size < w4.heap.size := (by have := hb4.size; first | omega | (simp at this; omega)); have hB4 := trans_below hB3 hb4)
    | (go_at_call 12; (with_reducible refine (textL_ex _ (tab_below HT.out hB4)).mono ?_); rintro e w5 ⟨rfl, hb5⟩; obtain ⟨hc5, hf5⟩ := bcell hb5; have z5 : w1.heap.size < w5.heap.size := (by have := hb5.size; first | omega | (simp at this; omega)); have hB5 := trans_below hB4 hb5)
    | (go_at_call 14; refine (prefixText_ex _ (tab_below HT.out hB5)).mono ?_; rintro e w6 ⟨rfl, hb6⟩; have hB6 := trans_below hB5 hb6))
  go_ret
  exact ⟨rfl, hB6⟩
end Go.Proofs.YtfohjalgpcgfmaaDoor
