/- The contracts of num.Name and of palingref03.Name: which texts are names. -/
import Derived.Test.YtjmbgfhjdmoflaaDoorBase
namespace Go.Proofs.YtjmbgfhjdmoflaaDoor
open Go.RowKit

def Lc (x : Int) : Prop := 97 ≤ x ∧ x ≤ 122
def Dc (x : Int) : Prop := 48 ≤ x ∧ x ≤ 57
/-- 1 to 12 bytes, the first of which is a letter, and all others are such, or digits -/
def NameOk (s : ByteArray) : Prop := 1 ≤ s.size ∧ s.size ≤ 12 ∧ Lc (sb s 0) ∧ ∀ j, j < s.size → Lc (sb s j) ∨ Dc (sb s j)
theorem letter_yes (x : Int) (h1 : 97 ≤ x) (h2 : x ≤ 122) (w : World) : Calls Tryd.prog 30 #[.int .u8 x] w fun e w' => e = .returned (.bool true) ∧ w = w' := by
  go_enter Tryd.func30, Tryd.ntmps30
  go_wp2
  go_ret
  exact ⟨rfl, rfl⟩
theorem letter_no (x : Int) (h : ¬ Lc x) (w : World) : Calls Tryd.prog 30 #[.int .u8 x] w fun e w' => e = .returned (.bool false) ∧ w = w' := by
  unfold Lc at h
  by_cases h1 : 97 ≤ x
  · have h2 : ¬ x ≤ 122 := fun h2 => h ⟨h1, h2⟩
    clear h
    go_enter Tryd.func30, Tryd.ntmps30
    go_wp2
    go_ret
    exact ⟨rfl, rfl⟩
  · clear h
    go_enter Tryd.func30, Tryd.ntmps30
    go_wp2
    go_ret
    exact ⟨rfl, rfl⟩
theorem digit_yes (x : Int) (h1 : 48 ≤ x) (h2 : x ≤ 57) (w : World) : Calls Tryd.prog 31 #[.int .u8 x] w fun e w' => e = .returned (.bool true) ∧ w = w' := by
  go_enter Tryd.func31, Tryd.ntmps31
  go_wp2
  go_ret
  exact ⟨rfl, rfl⟩
theorem digit_no (x : Int) (h : ¬ Dc x) (w : World) : Calls Tryd.prog 31 #[.int .u8 x] w fun e w' => e = .returned (.bool false) ∧ w = w' := by
  unfold Dc at h
  by_cases h1 : 48 ≤ x
  · have h2 : ¬ x ≤ 57 := fun h2 => h ⟨h1, h2⟩
    clear h
    go_enter Tryd.func31, Tryd.ntmps31
    go_wp2
    go_ret
    exact ⟨rfl, rfl⟩
  · clear h
    go_enter Tryd.func31, Tryd.ntmps31
    go_wp2
    go_ret
    exact ⟨rfl, rfl⟩
theorem ret_bool {a b : Bool} (h : a = b) : Ending.returned (.bool a) = .returned (.bool b) := by rw [h]

set_option maxRecDepth 100000 in
set_option maxHeartbeats 1000000 in
theorem name_any (s : ByteArray) (w : World) (hs : s.size ≤ maxLen) (v : Bool) (hv : v = true ↔ NameOk s) :
    Calls Tryd.prog 12 #[.string s] w fun e w' => e = .returned (.bool v) ∧ w = w' := by
  unfold maxLen at hs
  have no : ¬ NameOk s → Hid (v = false) := fun h => Lib.hid (by cases v with | false => rfl | true => exact absurd (hv.1 rfl) h)
  have yes : NameOk s → Hid (v = true) := fun h => Lib.hid (hv.2 h)
  have NO := Lib.hid no
  have YES := Lib.hid yes
  clear no yes hv
  by_cases h1 : s.size < 1
  · have E := NO.out (fun h => by have := h.1; omega)
    go_enter Tryd.func12, Tryd.ntmps12
    go_wp2
    go_ret
    exact ⟨by rw [E.out]; rfl, rfl⟩
  by_cases h2 : 12 < s.size
  · have E := NO.out (fun h => by have := h.2.1; omega)
    go_enter Tryd.func12, Tryd.ntmps12
    go_wp2
    go_ret
    exact ⟨by rw [E.out]; rfl, rfl⟩
  have x0 := run_index_sb s 0 0 rfl (by omega)
  by_cases h3 : Lc (sb s 0)
  · have L0 := Lib.hid h3
    obtain ⟨a1, a2⟩ := h3
    go_enter Tryd.func12, Tryd.ntmps12
    go_wp2_with (go_at_call 30; refine (letter_yes _ a1 a2 _).mono ?_; rintro e w' ⟨rfl, rfl⟩)
    clear x0 a1 a2
    go_loop [20] (fun i => ∃ k : Nat, k ≤ s.size ∧ i = .int .i64 (k : Int) ∧ ∀ j, j < k → Lc (sb s j) ∨ Dc (sb s j)) (fun i => s.size - (intOf i).toNat)
    case atStart => exact ⟨0, by omega, rfl, fun j hj => by omega⟩
    case round =>
      obtain ⟨k, hk, rfl, hall⟩ := hrel
      have A := Lib.hid hall
      clear hall
      by_cases hlt : k < s.size
      · have x1 := run_index_sb s k k rfl hlt
        by_cases hL : Lc (sb s k)
        · have HL := Lib.hid hL
          obtain ⟨b1, b2⟩ := hL
          go_wp2_with (go_at_call 30; refine (letter_yes _ b1 b2 _).mono ?_; rintro e w' ⟨rfl, rfl⟩)
          go_round
          case rel => exact ⟨k + 1, by omega, by go_num, fun j hj => by
            by_cases e : j = k
            · subst e; exact .inl HL.out
            · exact A.out j (by omega)⟩
          case measure => simp [intOf]; omega
        · have HNL := Lib.hid hL
          by_cases hD : Dc (sb s k)
          · have HD := Lib.hid hD
            obtain ⟨b1, b2⟩ := hD
            clear hL
            go_wp2_with (first
              | (go_at_call 30; refine (letter_no _ HNL.out _).mono ?_; rintro e w' ⟨rfl, rfl⟩)
              | (go_at_call 31; refine (digit_yes _ b1 b2 _).mono ?_; rintro e w' ⟨rfl, rfl⟩))
            go_round
            case rel => exact ⟨k + 1, by omega, by go_num, fun j hj => by
              by_cases e : j = k
              · subst e; exact .inr HD.out
              · exact A.out j (by omega)⟩
            case measure => simp [intOf]; omega
          · have HND := Lib.hid hD
            have E := NO.out (fun h => (h.2.2.2 k hlt).elim HNL.out HND.out)
            clear hL hD
            go_wp2_with (first
              | (go_at_call 30; refine (letter_no _ HNL.out _).mono ?_; rintro e w' ⟨rfl, rfl⟩)
              | (go_at_call 31; refine (digit_no _ HND.out _).mono ?_; rintro e w' ⟨rfl, rfl⟩))
            go_ret
            exact ⟨by rw [E.out]; rfl, rfl⟩
      · have E := YES.out ⟨by omega, by omega, L0.out, fun j hj => A.out j (by omega)⟩
        go_wp2
        go_ret
        exact ⟨by rw [E.out]; rfl, rfl⟩
  · have HN := Lib.hid h3
    have E := NO.out (fun h => HN.out h.2.2.1)
    clear h3
    go_enter Tryd.func12, Tryd.ntmps12
    go_wp2_with (go_at_call 30; refine (letter_no _ HN.out _).mono ?_; rintro e w' ⟨rfl, rfl⟩)
    go_ret
    exact ⟨by rw [E.out]; rfl, rfl⟩

set_option maxRecDepth 100000 in
set_option maxHeartbeats 1000000 in
theorem refName_any (s : ByteArray) (w : World) (hs : s.size ≤ maxLen) (v : Bool) (hv : v = true ↔ NameOk s) :
    Calls Tryd.prog 13 #[.string s] w fun e w' => e = .returned (.bool v) ∧ w = w' := by
  unfold maxLen at hs
  have no : ¬ NameOk s → Hid (v = false) := fun h => Lib.hid (by cases v with | false => rfl | true => exact absurd (hv.1 rfl) h)
  have yes : NameOk s → Hid (v = true) := fun h => Lib.hid (hv.2 h)
  have NO := Lib.hid no
  have YES := Lib.hid yes
  clear no yes hv
  by_cases h1 : s.size < 1
  · have E := NO.out (fun h => by have := h.1; omega)
    go_enter Tryd.func13, Tryd.ntmps13
    go_wp2
    go_ret
    exact ⟨by rw [E.out]; rfl, rfl⟩
  by_cases h2 : 12 < s.size
  · have E := NO.out (fun h => by have := h.2.1; omega)
    go_enter Tryd.func13, Tryd.ntmps13
    go_wp2
    go_ret
    exact ⟨by rw [E.out]; rfl, rfl⟩
  have x0 := run_index_sb s 0 0 rfl (by omega)
  have HX0 := Lib.hid x0
  by_cases h3 : sb s 0 < 97
  · have E := NO.out (fun h => by have := h.2.2.1.1; omega)
    go_enter Tryd.func13, Tryd.ntmps13
    go_wp2
    go_ret
    exact ⟨by rw [E.out]; rfl, rfl⟩
  by_cases h4 : 122 < sb s 0
  · have E := NO.out (fun h => by have := h.2.2.1.2; omega)
    go_enter Tryd.func13, Tryd.ntmps13
    go_wp2
    go_ret
    exact ⟨by rw [E.out]; rfl, rfl⟩
  have L0 := Lib.hid (show Lc (sb s 0) from ⟨by omega, by omega⟩)
  go_enter Tryd.func13, Tryd.ntmps13
  go_wp2
  clear x0 h3 h4
  go_loop [3] (fun i => ∃ k : Nat, k ≤ s.size ∧ i = .int .i64 (k : Int) ∧ ∀ j, j < k → Lc (sb s j) ∨ Dc (sb s j)) (fun i => s.size - (intOf i).toNat)
  case atStart => exact ⟨0, by omega, rfl, fun j hj => by omega⟩
  case round =>
    obtain ⟨k, hk, rfl, hall⟩ := hrel
    have A := Lib.hid hall
    clear hall
    by_cases hlt : k < s.size
    · have x1 := run_index_sb s k k rfl hlt
      rcases (show (97 ≤ sb s k ∧ sb s k ≤ 122) ∨ (48 ≤ sb s k ∧ sb s k ≤ 57) ∨ sb s k < 48 ∨ (57 < sb s k ∧ sb s k < 97) ∨ 122 < sb s k by omega) with ⟨b1, b2⟩ | ⟨b1, b2⟩ | b1 | ⟨b1, b2⟩ | b1
      · have HL := Lib.hid (show Lc (sb s k) from ⟨b1, b2⟩)
        go_wp2
        go_round
        case rel => exact ⟨k + 1, by omega, by go_num, fun j hj => by
          by_cases e : j = k
          · subst e; exact .inl HL.out
          · exact A.out j (by omega)⟩
        case measure => simp [intOf]; omega
      · have HD := Lib.hid (show Dc (sb s k) from ⟨b1, b2⟩)
        have b3 : sb s k < 97 := by omega
        go_wp2
        go_round
        case rel => exact ⟨k + 1, by omega, by go_num, fun j hj => by
          by_cases e : j = k
          · subst e; exact .inr HD.out
          · exact A.out j (by omega)⟩
        case measure => simp [intOf]; omega
      all_goals
        have E := NO.out (fun h => by have := h.2.2.2 k hlt; unfold Lc Dc at this; omega)
        go_wp2
        go_ret
        exact ⟨by rw [E.out]; rfl, rfl⟩
    · have E := YES.out ⟨by omega, by omega, L0.out, fun j hj => A.out j (by omega)⟩
      go_wp2
      go_ret
      exact ⟨by rw [E.out]; rfl, rfl⟩
end Go.Proofs.YtjmbgfhjdmoflaaDoor
