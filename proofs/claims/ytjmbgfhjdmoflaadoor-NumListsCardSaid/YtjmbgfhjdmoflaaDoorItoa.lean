/- The contracts of num.Text and of palingref03.Text: a number's text. -/
import Derived.Test.YtjmbgfhjdmoflaaDoorKeep
import Derived.Test.YtjmbgfhjdmoflaaDoorShelf
import Derived.Test.YtjmbgfhjdmoflaaDoorRefNum
import Derived.Test.YtjmbgfhjdmoflaaDoorNumMath
namespace Go.Proofs.YtjmbgfhjdmoflaaDoor
open Go.RowKit
open Go.Lib (decDigits itoa)

abbrev tabName : String := "internal/strconv.uint64pow10"
/-- what the listed variables hold -/
def Lds (w : World) : Prop := Lib.TabIs Tryd.prog w tabName .u64 Lib.pow10Tab ∧ ∃ tp p, w.var? Tryd.prog "strconv.ErrSyntax" = some #[.iface tp p]
theorem var_below {P : Program} {w w' : World} {name : String} {cs : Array Value} (h : w.var? P name = some cs) (hb : Below w.heap.size w w') : w'.var? P name = some cs := by
  unfold World.var? at h ⊢
  cases hg : P.globalNamed name with
  | none => rw [hg] at h; cases h
  | some g =>
    rw [hg] at h
    change (match w.heap[g]? with | some (.cells cs _ _) => some cs | _ => none) = _ at h
    change (match w'.heap[g]? with | some (.cells cs _ _) => some cs | _ => none) = _
    have hlt : g < w.heap.size := by
      rcases Nat.lt_or_ge g w.heap.size with h' | h'
      · exact h'
      · rw [Array.getElem?_eq_none h'] at h; cases h
    rw [hb.block g hlt]
    exact h
theorem Lds.below {w w' : World} (h : Lds w) (hb : Below w.heap.size w w') : Lds w' := by
  obtain ⟨h1, tp, p, h2⟩ := h
  exact ⟨tab_below h1 hb, tp, p, var_below h2 hb⟩

theorem numText_any (n : Int) (h0 : -9223372036854775808 ≤ n) (h1 : n ≤ 9223372036854775807) (w : World) (hl : Lds w) :
    Calls Tryd.prog 10 #[.int .i64 n] w fun e w' => e = .returned (.string (str (itoa n))) ∧ Below w.heap.size w w' := by
  have HL := Lib.hid hl
  clear hl
  go_enter Tryd.func10, Tryd.ntmps10
  go_wp2_with (go_at_call 28; refine (Tryd.strconv_Itoa n h0 h1 _ HL.out.1).mono ?_; rintro e w1 ⟨rfl, k, os, rfl⟩)
  go_ret
  exact ⟨rfl, Lib.below_grow _ _ (Nat.le_refl _) _ _⟩

theorem dec_len20 {u : Nat} (h : u < 18446744073709551616) : (decDigits u).length ≤ 20 := dec_len 20 (by omega) (by omega)
set_option maxRecDepth 100000 in
set_option maxHeartbeats 1000000 in
theorem refDig_any (n : Nat) (hn : n < 18446744073709551616) (w : World) :
    Calls Tryd.prog 29 #[.int .u64 (n : Int)] w fun e w' => e = .returned (.string (str (decDigits n))) ∧ Below w.heap.size w w' := by
  have S1 := run_string_one
  have HN := Lib.hid hn
  clear hn
  go_enter Tryd.func29, Tryd.ntmps29
  go_wp2
  go_loopw [0, 3] (fun v s wr => ∃ (m : Nat) (t : List UInt8), v = .int .u64 (m : Int) ∧ s = .string (str t) ∧ decDigits n = decDigits m ++ t ∧ m ≤ n ∧ Below w.heap.size w wr) (fun v _ _ => (intOf v).toNat)
  case atStart => exact ⟨n, [], rfl, rfl, by simp, Nat.le_refl _, Below.refl _ _⟩
  case round =>
    obtain ⟨m, t, rfl, rfl, hd, hm, hb⟩ := hrel
    have ht : t.length ≤ 20 := by
      have h1 := congrArg List.length hd
      have h2 := dec_len20 HN.out
      simp only [List.length_append] at h1
      omega
    have HD := Lib.hid hd
    clear hd
    have hm18 : m < 18446744073709551616 := Nat.lt_of_le_of_lt hm HN.out
    by_cases h10 : 10 ≤ m
    · have HE := Lib.hid (show decDigits m = decDigits (m / 10) ++ [UInt8.ofNat (48 + m % 10)] from dec_big (by omega))
      go_wp2
      go_roundw
      case rel => exact ⟨m / 10, [48 + UInt8.ofNat (m % 10)] ++ t, by go_num, by rw [str_append], by rw [HD.out, HE.out, plus_ofNat, List.append_assoc], by omega, hb.alloc hb.size _⟩
      case measure => simp [intOf]; omega
    · have HE := Lib.hid (show decDigits n = [48 + UInt8.ofNat m] ++ t by rw [HD.out, dec_small (by omega), plus_ofNat])
      go_wp2
      go_ret
      exact ⟨by rw [HE.out, ← str_append]; rfl, hb.alloc hb.size _⟩
theorem refDig_of (x : Int) (n : Nat) (h : x = (n : Int)) (hn : n < 18446744073709551616) (w : World) :
    Calls Tryd.prog 29 #[.int .u64 x] w fun e w' => e = .returned (.string (str (decDigits n))) ∧ Below w.heap.size w w' := by
  subst h
  exact refDig_any n hn w
set_option maxRecDepth 100000 in
set_option maxHeartbeats 1000000 in
theorem refNumText_any (n : Int) (h0 : -9223372036854775808 ≤ n) (h1 : n ≤ 9223372036854775807) (w : World) :
    Calls Tryd.prog 11 #[.int .i64 n] w fun e w' => e = .returned (.string (str (itoa n))) ∧ Below w.heap.size w w' := by
  by_cases hn : n < 0
  · have HT := Lib.hid (show itoa n = 45 :: decDigits n.natAbs by unfold Lib.itoa; rw [if_pos hn])
    have hl := dec_len20 (u := n.natAbs) (by omega)
    go_enter Tryd.func11, Tryd.ntmps11
    go_wp2_with (go_at_call 29; (with_reducible refine (refDig_of _ n.natAbs (by omega) (by omega) _).mono ?_); rintro e w1 ⟨rfl, hb1⟩)
    go_ret
    exact ⟨by rw [HT.out, show (45 :: decDigits n.natAbs : List UInt8) = [45] ++ decDigits n.natAbs from rfl, ← str_append]; rfl, hb1⟩
  · have HT := Lib.hid (show itoa n = decDigits n.natAbs by unfold Lib.itoa; rw [if_neg hn]; congr 1; omega)
    go_enter Tryd.func11, Tryd.ntmps11
    go_wp2_with (go_at_call 29; (with_reducible refine (refDig_of _ n.natAbs (by omega) (by omega) _).mono ?_); rintro e w1 ⟨rfl, hb1⟩)
    go_ret
    exact ⟨by rw [HT.out]; rfl, hb1⟩
end Go.Proofs.YtjmbgfhjdmoflaaDoor
