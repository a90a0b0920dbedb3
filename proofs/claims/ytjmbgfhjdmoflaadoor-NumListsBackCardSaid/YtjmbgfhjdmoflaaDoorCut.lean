/- The contracts of strings.Cut at a separator of one byte, and of strings.CutPrefix at a dot. -/
import Derived.Test.YtjmbgfhjdmoflaaDoorBase
import Derived.Test.YtjmbgfhjdmoflaaDoorShelf
import Derived.Test.YtjmbgfhjdmoflaaDoorAddrMath
namespace Go.Proofs.YtjmbgfhjdmoflaaDoor
open Go.RowKit

set_option maxRecDepth 100000 in
theorem cut_lite (s : ByteArray) (c : UInt8) (w : World) (hs : s.size ≤ maxLen) :
    Calls Tryd.prog 63 #[.string s, .string ⟨#[c]⟩] w fun e w' => e = .returned (.tuple #[.string (str (headC c s.data.toList)), .string (str (tailC c s.data.toList)), .bool (hasC c s.data.toList)]) ∧ Drew w w' := by
  rcases index_cases s.data.toList c with ⟨h1, h2, h3, h4⟩ | ⟨i, h1, h2, h3, h4, h5⟩
  · have E := Lib.hid (show str (headC c s.data.toList) = s ∧ str (tailC c s.data.toList) = ⟨#[]⟩ ∧ hasC c s.data.toList = false from ⟨by rw [h3, str_data], by rw [h4], by simpa [hasC] using h2⟩)
    have H1 := Lib.hid h1
    clear h1 h2 h3 h4
    go_enter Tryd.func63, Tryd.ntmps63
    go_wp2_with (go_at_call 74; refine (Tryd.stringslite_Index_one s c _).mono ?_; rintro e w' ⟨rfl, rfl⟩; rw [H1.out])
    go_ret3
    exact ⟨by rw [E.out.1, E.out.2.1, E.out.2.2]; rfl, Drew.refl _⟩
  · have E := Lib.hid (show str (headC c s.data.toList) = s.extract 0 i ∧ str (tailC c s.data.toList) = s.extract (i + 1) s.size ∧ hasC c s.data.toList = true from ⟨by rw [h4, extract_take], by rw [h5, extract_str], by simpa [hasC] using h3⟩)
    have H1 := Lib.hid h1
    have hi : i < s.size := by rw [size_len] at h2; exact h2
    clear h1 h2 h3 h4 h5
    have c1 : (0 : Int) ≤ ↑i := by omega
    have c2 : (↑i : Int) ≤ ↑s.size := by omega
    have c3 : (0 : Int) ≤ ↑i + 1 := by omega
    have c4 : (↑i + 1 : Int) ≤ ↑s.size := by omega
    have c5 : IntKind.i64.wrap ((i : Int) + 1) = (i : Int) + 1 := IntWalk.i64_in _ (by unfold maxLen at hs; omega)
    have c6 : ((i : Int) + 1).toNat = i + 1 := by omega
    go_enter Tryd.func63, Tryd.ntmps63
    go_wp2_with (go_at_call 74; refine (Tryd.stringslite_Index_one s c _).mono ?_; rintro e w' ⟨rfl, rfl⟩; rw [H1.out])
    go_quiet (fail)
    go_wp2
    go_ret3
    exact ⟨by rw [E.out.1, E.out.2.1, E.out.2.2]; rfl, ⟨_, rfl⟩⟩
theorem cut_any (s : ByteArray) (c : UInt8) (w : World) (hs : s.size ≤ maxLen) :
    Calls Tryd.prog 47 #[.string s, .string ⟨#[c]⟩] w fun e w' => e = .returned (.tuple #[.string (str (headC c s.data.toList)), .string (str (tailC c s.data.toList)), .bool (hasC c s.data.toList)]) ∧ Drew w w' := by
  go_enter Tryd.func47, Tryd.ntmps47
  go_wp2_with (go_at_call 63; refine (cut_lite s c _ hs).mono ?_; rintro e w' ⟨rfl, hd⟩)
  go_ret3
  exact ⟨rfl, hd⟩

theorem cutDot_yes (r : List UInt8) (w : World) :
    Calls Tryd.prog 49 #[.string (str (46 :: r)), .string ⟨#[46]⟩] w fun e w' => e = .returned (.tuple #[.string (str r), .bool true]) ∧ w = w' := by
  refine (Tryd.strings_CutPrefix (str (46 :: r)) ⟨#[46]⟩ w).mono ?_
  rintro e w' ⟨rfl, rfl⟩
  refine ⟨?_, rfl⟩
  simp [Lib.trimPrefix, Lib.hasPrefix]
theorem cutDot_no (l : List UInt8) (h : ∀ r, l ≠ 46 :: r) (w : World) :
    Calls Tryd.prog 49 #[.string (str l), .string ⟨#[46]⟩] w fun e w' => e = .returned (.tuple #[.string (str l), .bool false]) ∧ w = w' := by
  refine (Tryd.strings_CutPrefix (str l) ⟨#[46]⟩ w).mono ?_
  rintro e w' ⟨rfl, rfl⟩
  refine ⟨?_, rfl⟩
  have hp : Lib.hasPrefix l [46] = false := by
    cases l with
    | nil => rfl
    | cons c r =>
      have : c ≠ 46 := fun e => h r (by rw [e])
      simp [Lib.hasPrefix, List.isPrefixOf]
      exact fun e => this e.symm
  simp [Lib.trimPrefix, hp]
end Go.Proofs.YtjmbgfhjdmoflaaDoor
