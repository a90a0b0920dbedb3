/- The contracts of addr.Text and palingref02.Text. -/
import Derived.Test.YtjmbgfhjdmoflaaDoorRefNum
namespace Go.Proofs.YtjmbgfhjdmoflaaDoor
open Go.RowKit
open Go.Lib (decDigits byteCells)

theorem div_cast (a c : Nat) : ((a / c : Nat) : Int) = (a : Int) / (c : Int) := Int.natCast_ediv a c
theorem refNumber_of (x : Int) (n : Nat) (h : x = (n : Int)) (hn : n < 1000000000000000000) (w : World) :
    Calls Tryd.prog 55 #[.int .i64 x] w fun e w' => e = .returned (.string (str (decDigits n))) ∧ Below w.heap.size w w' := by
  subst h
  exact refNumber_any n hn w
theorem txt_parts (a : Nat) : txt a = decDigits (a / 16777216) ++ [46] ++ decDigits (a / 65536 % 256) ++ [46] ++ decDigits (a / 256 % 256) ++ [46] ++ decDigits (a % 256) := by
  unfold txt; simp
theorem dec3 (n : Nat) (h : n < 1000) : (decDigits n).length ≤ 3 := dec_len 3 (by omega) h
set_option maxHeartbeats 1000000 in
theorem refText_any (a : Nat) (ha : a < 4294967296) (w : World) :
    Calls Tryd.prog 42 #[.int .u32 (a : Int)] w fun e w' => e = .returned (.string (str (txt a))) ∧ Below w.heap.size w w' := by
  have T := Lib.hid (txt_parts a)
  have l1 := dec3 (a / 16777216) (by omega)
  have l2 := dec3 (a / 65536 % 256) (by omega)
  have l3 := dec3 (a / 256 % 256) (by omega)
  have l4 := dec3 (a % 256) (by omega)
  go_enter Tryd.func42, Tryd.ntmps42
  go_wp2_with (first
    | (go_at_call 55; (with_reducible refine (refNumber_of ((a : Int) / 16777216) (a / 16777216) (by omega) (by omega) _).mono ?_); rintro e w1 ⟨rfl, hb1⟩)
    | (go_at_call 55; (with_reducible refine (refNumber_of ((a : Int) / 65536 % 256) (a / 65536 % 256) (by omega) (by omega) _).mono ?_); rintro e w2 ⟨rfl, hb2⟩)
    | (go_at_call 55; (with_reducible refine (refNumber_of ((a : Int) / 256 % 256) (a / 256 % 256) (by omega) (by omega) _).mono ?_); rintro e w3 ⟨rfl, hb3⟩)
    | (go_at_call 55; (with_reducible refine (refNumber_of ((a : Int) % 256) (a % 256) (by omega) (by omega) _).mono ?_); rintro e w4 ⟨rfl, hb4⟩))
  go_ret
  exact ⟨by rw [T.out]; simp [str_append], trans_below (trans_below (trans_below hb1 hb2) hb3) hb4⟩

/-- byte k of an address, the highest first -/
def abyte (a k : Nat) : Nat := a / 256 ^ (3 - k) % 256
def txtPre (a : Nat) : Nat → List UInt8
  | 0 => []
  | k + 1 => txtPre a k ++ (if 0 < k then [46] else []) ++ decDigits (abyte a k)
theorem txtPre_four (a : Nat) (h : a < 4294967296) : txtPre a 4 = txt a := by
  have e0 : abyte a 0 = a / 16777216 := by unfold abyte; simp only [Nat.reduceSub, Nat.reducePow]; omega
  have e1 : abyte a 1 = a / 65536 % 256 := by unfold abyte; simp only [Nat.reduceSub, Nat.reducePow]
  have e2 : abyte a 2 = a / 256 % 256 := by unfold abyte; simp only [Nat.reduceSub, Nat.reducePow]
  have e3 : abyte a 3 = a % 256 := by unfold abyte; simp only [Nat.reduceSub, Nat.reducePow]; omega
  rw [txt_parts]
  simp [txtPre, e0, e1, e2, e3]
theorem abyte_lt (a k : Nat) : abyte a k < 256 := Nat.mod_lt _ (by decide)
theorem txtPre_len (a k : Nat) : (txtPre a k).length ≤ 4 * k := by
  induction k with
  | zero => simp [txtPre]
  | succ k ih =>
    have := dec3 (abyte a k) (by have := abyte_lt a k; omega)
    simp only [txtPre, List.length_append]
    split <;> simp <;> omega
abbrev pow10 : String := "internal/strconv.uint64pow10"
theorem appendUint_any (B n u : Nat) (hu : u < 18446744073709551616) (sv : Value) (xs : List Value) (w : World) (hown : w.ownsRow B 5 1 sv n xs) (hBw : B ≤ w.heap.size) (hlim : n + 20 ≤ 140737488355328) (htab : Lib.TabIs Tryd.prog w pow10 .u64 Lib.pow10Tab) :
    Calls Tryd.prog 54 #[sv, .int .u64 (u : Int), .int .i64 10] w fun e w' => ∃ v', e = .returned v' ∧ w'.ownsRow B 5 1 v' (n + (decDigits u).length) (xs ++ byteCells (decDigits u)) ∧ Below B w w' := by
  by_cases h : u < 100
  · go_enter Tryd.func54, Tryd.ntmps54
    go_wp2_with (go_at_call 66; refine (Tryd.internal_strconv_AppendUint_10_small B n u h sv xs w hown hBw hlim).mono ?_; rintro e w1 ⟨v, rfl, h1, h2, _⟩)
    go_ret
    exact ⟨v, rfl, h1, h2⟩
  · go_enter Tryd.func54, Tryd.ntmps54
    go_wp2_with (go_at_call 66; refine (Tryd.internal_strconv_AppendUint_10_big B n u (by omega) hu sv xs w hown hBw hlim htab).mono ?_; rintro e w1 ⟨v, rfl, h1, h2, _⟩)
    go_ret
    exact ⟨v, rfl, h1, h2⟩

theorem appendUint_of (x : Int) (B n u : Nat) (hx : x = (u : Int)) (hu : u < 18446744073709551616) (sv : Value) (xs : List Value) (w : World) (hown : w.ownsRow B 5 1 sv n xs) (hBw : B ≤ w.heap.size) (hlim : n + 20 ≤ 140737488355328) (htab : Lib.TabIs Tryd.prog w pow10 .u64 Lib.pow10Tab) :
    Calls Tryd.prog 54 #[sv, .int .u64 x, .int .i64 10] w fun e w' => ∃ v', e = .returned v' ∧ w'.ownsRow B 5 1 v' (n + (decDigits u).length) (xs ++ byteCells (decDigits u)) ∧ Below B w w' := by
  subst hx
  exact appendUint_any B n u hu sv xs w hown hBw hlim htab
theorem strCells_eq (l : List UInt8) : Lib.strCells (str l) = byteCells l := rfl
theorem byteCells_app (a b : List UInt8) : byteCells (a ++ b) = byteCells a ++ byteCells b := by simp [Lib.byteCells]

set_option maxRecDepth 100000 in
set_option maxHeartbeats 1000000 in
theorem text_any (a : Nat) (ha : a < 4294967296) (w : World) (htab : Lib.TabIs Tryd.prog w pow10 .u64 Lib.pow10Tab) :
    Calls Tryd.prog 41 #[.int .u32 (a : Int)] w fun e w' => e = .returned (.string (str (txt a))) ∧ Below w.heap.size w w' := by
  have HT := Lib.hid htab
  have T4 := Lib.hid (txtPre_four a ha)
  clear htab
  obtain ⟨i0, hi, hz0, hz1, hz2⟩ := info_parts Tryd.info5
  have Hi := Lib.hid hi; have Hz0 := Lib.hid hz0; have Hz1 := Lib.hid hz1; have Hz2 := Lib.hid hz2
  clear hi hz0 hz1 hz2
  go_enter Tryd.func41, Tryd.ntmps41
  go_wp2_with (at_make; refine wpList_make_own _ rfl _ _ 65 rfl w.heap.size 5 i0 (.int .u8 0) 1 Tryd.underlying65 Hi.out Hz0.out Hz1.out .i64 .i64 _ 15 rfl rfl rfl (by rw [Hz2.out]; omega) (by unfold maxLen; omega) (Nat.le_refl _) ?_; intro w0 hown0 hgrow0)
  go_loopw [3, 6] (fun v i wr => ∃ k : Nat, k ≤ 4 ∧ i = .int .i64 k ∧ wr.ownsRow w.heap.size 5 1 v (txtPre a k).length (byteCells (txtPre a k)) ∧ Below w.heap.size w wr) (fun _ i _ => 4 - (intOf i).toNat)
  case atStart => exact ⟨0, by omega, rfl, hown0, (Below.refl _ _).grown hgrow0 (Nat.le_refl _) (fun _ h => by cases h)⟩
  case round =>
    obtain ⟨k, hk, rfl, hown, hb⟩ := hrel
    have hlen := txtPre_len a k
    by_cases hlt : k < 4
    · have hu := abyte_lt a k
      have hsh := Lib.hid (show (a : Int) / 2 ^ (8 * (3 - k)) % 256 = ((abyte a k : Nat) : Int) by
        unfold abyte
        rw [Int.pow_mul]
        simp)
      by_cases h0 : 0 < k
      · have g1 : (txtPre a k).length + (⟨#[46]⟩ : ByteArray).size ≤ maxLen := by unfold maxLen; simp [ByteArray.size]; omega
        have g2 : (txtPre a k).length + (⟨#[46]⟩ : ByteArray).size ≤ 140737488355328 := by simp [ByteArray.size]; omega
        have G1 := Lib.hid g1
        have G2 := Lib.hid g2
        clear g1 g2
        have H0 := Lib.hid h0
        go_wp2_with (first
          | (at_builtin; refine Lib.wpList_append_own_string _ rfl (.tmp 11) (.const (.string ⟨#[46]⟩)) 65 9 rfl w.heap.size 5 i0 Tryd.underlying65 Tryd.underlying9 Hi.out Hz0.out Hz1.out Hz2.out _ _ _ rfl hown ⟨#[46]⟩ rfl G1.out G2.out hb.size ?_; intro v1 w1 hown1 hgrow1 _; have hb1 := below_app hb hown hgrow1)
          | (go_at_call 54; refine (appendUint_of _ _ _ _ hsh.out (by omega) _ _ _ hown1 hb1.size (by have := G2.out; simp [ByteArray.size] at this ⊢; omega) (tab_below HT.out hb1)).mono ?_; rintro e w2 ⟨v2, rfl, hown2, hb2⟩))
        have hend : w2.ownsRow w.heap.size 5 1 v2 (txtPre a (k + 1)).length (byteCells (txtPre a (k + 1))) ∧ Below w.heap.size w w2 := by
          refine ⟨?_, hb1.trans hb2⟩
          have e : txtPre a (k + 1) = txtPre a k ++ [46] ++ decDigits (abyte a k) := by simp [txtPre, H0.out]
          rw [e, byteCells_app, byteCells_app, List.length_append, List.length_append]
          exact hown2
        clear hown hown1 hown2 hgrow1 hb hb1 hb2
        go_roundw
        case rel => exact ⟨k + 1, by omega, by go_num, hend.1, hend.2⟩
        case measure => simp [intOf]; omega
      · have H0 := Lib.hid h0
        go_wp2_with (go_at_call 54; refine (appendUint_of _ _ _ _ hsh.out (by omega) _ _ _ hown hb.size (by omega) (tab_below HT.out hb)).mono ?_; rintro e w2 ⟨v2, rfl, hown2, hb2⟩)
        have hend : w2.ownsRow w.heap.size 5 1 v2 (txtPre a (k + 1)).length (byteCells (txtPre a (k + 1))) ∧ Below w.heap.size w w2 := by
          refine ⟨?_, hb.trans hb2⟩
          have e : txtPre a (k + 1) = txtPre a k ++ decDigits (abyte a k) := by simp [txtPre, H0.out]
          rw [e, byteCells_app, List.length_append]
          exact hown2
        clear hown hown2 hb hb2
        go_roundw
        case rel => exact ⟨k + 1, by omega, by go_num, hend.1, hend.2⟩
        case measure => simp [intOf]; omega
    · obtain rfl : k = 4 := by omega
      have hconv := run_string_bytes wr _ _ _ hown
      have T := T4
      go_wp2
      go_ret
      exact ⟨by rw [← T.out]; rfl, hb⟩
end Go.Proofs.YtjmbgfhjdmoflaaDoor
