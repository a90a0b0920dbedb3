/- The contracts of both PrefixTexts. -/
import Derived.Test.YtfohjalgpcgfmaaDoorAddrText
import Derived.Deep.RegionHeldLaw
namespace Go.Proofs.YtfohjalgpcgfmaaDoor
open Go.RowKit
open Go.Lib (decDigits byteCells)

theorem txt_len (a : Nat) (h : a < 4294967296) : (txt a).length ≤ 15 := by
  have l1 := dec3 (a / 16777216) (by omega)
  have l2 := dec3 (a / 65536 % 256) (by omega)
  have l3 := dec3 (a / 256 % 256) (by omega)
  have l4 := dec3 (a % 256) (by omega)
  rw [txt_parts]
  simp
  omega
def Held (w W : World) (b : Nat) (x y : Value) : Prop := W.cell? ⟨b, 0, none⟩ = some x ∧ W.cell? ⟨b, 1, none⟩ = some y ∧ Below w.heap.size w W ∧ b < W.heap.size
theorem text_held {w W : World} {b : Nat} {x y : Value} (a : Nat) (ha : a < 4294967296) (htab : Lib.TabIs Tryd.prog w pow10 .u64 Lib.pow10Tab) (h : W.cell? ⟨b, 0, none⟩ = some x ∧ W.cell? ⟨b, 1, none⟩ = some y ∧ Below w.heap.size w W ∧ b < W.heap.size) :
    Calls Tryd.prog 12 #[.int .u32 (a : Int)] W fun e w' => e = .returned (.string (str (txt a))) ∧ Below W.heap.size W w' := text_any a ha W (tab_below htab h.2.2.1)
theorem itoa_any (b : Nat) (hb : b ≤ 32) (w : World) : Calls Tryd.prog 32 #[.int .i64 (b : Int)] w fun e w' => e = .returned (.string (str (decDigits b))) ∧ Below w.heap.size w w' := by
  refine (Tryd.strconv_Itoa_small b (by omega) w).mono ?_
  rintro e w' ⟨rfl, rfl⟩
  exact ⟨rfl, Below.refl _ _⟩
theorem prefixText_no (A B : Int) (hr : RT B = false) (w : World) : Calls Tryd.prog 14 #[.agg #[.int .u32 A, .int .i64 B]] w fun e w' => e = .returned (.string ⟨#[]⟩) ∧ Below w.heap.size w w' := by
  go_enter Tryd.func14, Tryd.ntmps14
  go_wp2_with (go_at_call 16; refine (right_is A B false hr _).mono ?_; rintro e w1 ⟨rfl, hb1⟩)
  go_ret
  exact ⟨rfl, one_below hb1⟩
theorem refPrefixText_no (A B : Int) (hr : RT B = false) (w : World) : Calls Tryd.prog 15 #[.agg #[.int .u32 A, .int .i64 B]] w fun e w' => e = .returned (.string ⟨#[]⟩) ∧ Below w.heap.size w w' := by
  go_enter Tryd.func15, Tryd.ntmps15
  go_wp2_with (go_at_call 17; refine (refRight_is A B false hr _).mono ?_; rintro e w1 ⟨rfl, hb1⟩)
  go_ret
  exact ⟨rfl, one_below hb1⟩
theorem ptxt_str (a b : Nat) : str (txt a) ++ ⟨#[47]⟩ ++ str (decDigits b) = str (ptxt a b) := by
  rw [show (⟨#[47]⟩ : ByteArray) = str [47] from rfl, str_append, str_append]
  unfold ptxt
  simp
set_option maxHeartbeats 1000000 in
theorem prefixText_yes (A b : Nat) (hA : A < 4294967296) (hb : b ≤ 32) (w : World) (htab : Lib.TabIs Tryd.prog w pow10 .u64 Lib.pow10Tab) :
    Calls Tryd.prog 14 #[.agg #[.int .u32 (A : Int), .int .i64 (b : Int)]] w fun e w' => e = .returned (.string (str (ptxt A b))) ∧ Below w.heap.size w w' := by
  have hr : RT (b : Int) = true := by rw [RT_iff]; omega
  have HT := Lib.hid htab
  have l1 := txt_len A hA
  have l2 := dec3 b (by omega)
  have E := Lib.hid (ptxt_str A b)
  have z1 : (str (txt A)).size + (⟨#[47]⟩ : ByteArray).size ≤ 140737488355328 := by rw [str_size]; simp [ByteArray.size]; omega
  have z2 : (str (txt A) ++ ⟨#[47]⟩).size + (str (decDigits b)).size ≤ 140737488355328 := by rw [ByteArray.size_append, str_size, str_size]; simp [ByteArray.size]; omega
  clear htab
  go_enter Tryd.func14, Tryd.ntmps14
  go_wp2_with (go_at_call 16; refine (right_is A b true hr _).mono ?_; rintro e w1 ⟨rfl, hb1⟩; obtain ⟨hc0, hc1, hB1, hl1⟩ := boxed_first hb1)
  go_region_held_law (fun w' => w'.cell? ⟨w.heap.size, 0, none⟩ = some (.int .u32 (A : Int)) ∧ w'.cell? ⟨w.heap.size, 1, none⟩ = some (.int .i64 (b : Int)) ∧ Below w.heap.size w w' ∧ w.heap.size < w'.heap.size) (first | assumption | exact boxed_keep (by assumption) (by assumption) | exact boxed_drew hc0 hc1 hB1 hl1)
    (first | (go_at_call 12; refine (text_held A hA HT.out (by assumption)).mono ?_; rintro e w2 ⟨rfl, hb2⟩) | (go_at_call 32; refine (itoa_any b hb _).mono ?_; rintro e w3 ⟨rfl, hb3⟩))
  all_goals
    go_wp2
    go_ret
    exact ⟨by rw [← E.out]; rfl, (boxed_keep (by assumption) (boxed_keep (by assumption) (boxed_drew hc0 hc1 hB1 hl1))).2.2.1⟩
set_option maxHeartbeats 1000000 in
theorem refPrefixText_yes (A b : Nat) (hA : A < 4294967296) (hb : b ≤ 32) (w : World) :
    Calls Tryd.prog 15 #[.agg #[.int .u32 (A : Int), .int .i64 (b : Int)]] w fun e w' => e = .returned (.string (str (ptxt A b))) ∧ Below w.heap.size w w' := by
  have hr : RT (b : Int) = true := by rw [RT_iff]; omega
  have l1 := txt_len A hA
  have l2 := dec3 b (by omega)
  have E := Lib.hid (ptxt_str A b)
  have z1 : (str (txt A)).size + (⟨#[47]⟩ : ByteArray).size ≤ 140737488355328 := by rw [str_size]; simp [ByteArray.size]; omega
  have z2 : (str (txt A) ++ ⟨#[47]⟩).size + (str (decDigits b)).size ≤ 140737488355328 := by rw [ByteArray.size_append, str_size, str_size]; simp [ByteArray.size]; omega
  go_enter Tryd.func15, Tryd.ntmps15
  go_wp2_with (go_at_call 17; refine (refRight_is A b true hr _).mono ?_; rintro e w1 ⟨rfl, hb1⟩; obtain ⟨hc0, hc1, hB1, hl1⟩ := boxed_first hb1)
  go_region_held_law (fun w' => w'.cell? ⟨w.heap.size, 0, none⟩ = some (.int .u32 (A : Int)) ∧ w'.cell? ⟨w.heap.size, 1, none⟩ = some (.int .i64 (b : Int)) ∧ Below w.heap.size w w' ∧ w.heap.size < w'.heap.size) (first | assumption | exact boxed_keep (by assumption) (by assumption) | exact boxed_drew hc0 hc1 hB1 hl1)
    (first | (go_at_call 13; refine (refText_any A hA _).mono ?_; rintro e w2 ⟨rfl, hb2⟩) | (go_at_call 31; refine (refNumber_any b (by omega) _).mono ?_; rintro e w3 ⟨rfl, hb3⟩))
  all_goals
    go_wp2
    go_ret
    exact ⟨by rw [← E.out]; rfl, (boxed_keep (by assumption) (boxed_keep (by assumption) (boxed_drew hc0 hc1 hB1 hl1))).2.2.1⟩
end Go.Proofs.YtfohjalgpcgfmaaDoor
