/- The contract of works, the chapter's examples: they hold. -/
import Derived.Test.YtjmbgfhjdmoflaaDoorReadList
import Derived.Test.YtjmbgfhjdmoflaaDoorName
namespace Go.Proofs.YtjmbgfhjdmoflaaDoor
open Go.RowKit
open Go.Lib (decDigits itoa)

abbrev exA : ByteArray := ⟨#[49, 48, 44, 50, 48]⟩
abbrev exB : ByteArray := ⟨#[50, 48, 44, 49, 48]⟩
theorem itoa10 : itoa 10 = [49, 48] := by rw [show (10 : Int) = ((10 : Nat) : Int) from rfl, itoa_pos, dec_big (by omega), dec_small (by omega)]; rfl
theorem itoa20 : itoa 20 = [50, 48] := by rw [show (20 : Int) = ((20 : Nat) : Int) from rfl, itoa_pos, dec_big (by omega), dec_small (by omega)]; rfl
theorem itoaM5 : itoa (-5) = [45, 53] := by rw [show (-5 : Int) = -((5 : Nat) : Int) from rfl, itoa_min 5 (by omega), dec_small (by omega)]; rfl
theorem n10 : nF [49, 48] 1 4094 = some 10 := nF_iff.2 ⟨itoa10, by decide, by omega, by omega⟩
theorem n20 : nF [50, 48] 1 4094 = some 20 := nF_iff.2 ⟨itoa20, by decide, by omega, by omega⟩
theorem exA_list : rlF (rdI 1 4094) [49, 48, 44, 50, 48] = some [10, 20] := by
  refine rlF_yes ?_ (by decide)
  rw [show splitC [49, 48, 44, 50, 48] = [[49, 48], [50, 48]] by decide]
  simp [allRd, rdI, n10, n20]
theorem exB_list : rlF (rdI 1 4094) [50, 48, 44, 49, 48] = none := by
  refine rlF_no (xs := [20, 10]) ?_ (by decide)
  rw [show splitC [50, 48, 44, 49, 48] = [[50, 48], [49, 48]] by decide]
  simp [allRd, rdI, n10, n20]
theorem exA_any (w : World) (hl : Lds w) : Calls Tryd.prog 14 #[.string exA, .int .i64 1, .int .i64 4094] w fun e w' => ∃ b off c, e = .returned (.tuple #[.slice (some ⟨b, off, none⟩) 2 c, .bool true]) ∧
    (2 ≤ c ∧ c ≤ 9223372036854775807 ∧ b < w'.heap.size ∧ w'.cell? ⟨b, off, none⟩ = some (.int .i64 10) ∧ w'.cell? ⟨b, off + 1, none⟩ = some (.int .i64 20)) ∧ Below w.heap.size w w' := by
  refine (readList_any [49, 48, 44, 50, 48] 1 4094 w (by decide) hl).mono ?_
  rintro e w' ⟨A, n, c, rfl, hi, hb⟩
  obtain ⟨h1, h2⟩ := ls_yes exA_list
  rw [h1] at hi
  rw [h2]
  have hn : n = 2 := by rw [← hi.len]; rfl
  subst hn
  obtain ⟨b, off, rfl, hl, hc⟩ := hi.2.2.2 (by omega)
  exact ⟨b, off, c, rfl, ⟨hi.le, hi.cap, hl, hc 0 (by omega), hc 1 (by omega)⟩, hb⟩
theorem exB_any (w : World) (hl : Lds w) : Calls Tryd.prog 14 #[.string exB, .int .i64 1, .int .i64 4094] w fun e w' => ∃ A n c, e = .returned (.tuple #[.slice A n c, .bool false]) ∧ Below w.heap.size w w' := by
  refine (readList_any [50, 48, 44, 49, 48] 1 4094 w (by decide) hl).mono ?_
  rintro e w' ⟨A, n, c, rfl, hi, hb⟩
  obtain ⟨h1, h2⟩ := ls_no exB_list
  rw [h2]
  exact ⟨A, n, c, rfl, hb⟩
theorem text5_any (w : World) (hl : Lds w) : Calls Tryd.prog 10 #[.int .i64 (-5)] w fun e w' => e = .returned (.string ⟨#[45, 53]⟩) ∧ Below w.heap.size w w' := by
  have h := numText_any (-5) (by omega) (by omega) w hl
  rw [itoaM5] at h
  exact h
theorem sw1_any (w : World) : Calls Tryd.prog 12 #[.string ⟨#[115, 119, 49]⟩] w fun e w' => e = .returned (.bool true) ∧ w = w' :=
  name_any ⟨#[115, 119, 49]⟩ w (by decide) true ⟨fun _ => ⟨by decide, by decide, ⟨by decide, by decide⟩, fun j hj => by
    have hj2 : j < 3 := hj
    have : j = 0 ∨ j = 1 ∨ j = 2 := by omega
    rcases this with rfl | rfl | rfl
    · exact .inl ⟨by decide, by decide⟩
    · exact .inl ⟨by decide, by decide⟩
    · exact .inr ⟨by decide, by decide⟩⟩, fun _ => rfl⟩
theorem w1s_any (w : World) : Calls Tryd.prog 12 #[.string ⟨#[49, 115, 119]⟩] w fun e w' => e = .returned (.bool false) ∧ w = w' :=
  name_any ⟨#[49, 115, 119]⟩ w (by decide) false ⟨fun h => (by cases h), fun h => by
    have h2 : (97 : Int) ≤ sb ⟨#[49, 115, 119]⟩ 0 := h.2.2.1.1
    revert h2
    decide⟩

set_option maxRecDepth 100000 in
set_option maxHeartbeats 1000000 in
theorem works_any (w : World) (hl : Lds w) : Calls Tryd.prog 7 #[] w fun e w' => e = .returned (.bool true) ∧ Below w.heap.size w w' := by
  have HL := Lib.hid hl
  clear hl
  go_enter Tryd.func7, Tryd.ntmps7
  go_wp2_with (first
    | (go_at_call 14; (with_reducible refine (exA_any _ HL.out).mono ?_); rintro e w1 ⟨b, off, c, rfl, ⟨g1, g2, g3, c0, c1⟩, hb1⟩)
    | (go_at_call 14; (with_reducible refine (exB_any _ (HL.out.below hb1)).mono ?_); rintro e w2 ⟨A2, n2, c2, rfl, hb2⟩; have hB2 := trans_below hb1 hb2; have d0 := (hb2.cell (p := ⟨b, off, none⟩) g3).trans c0; have d1 := (hb2.cell (p := ⟨b, off + 1, none⟩) g3).trans c1)
    | (go_at_call 10; (with_reducible refine (text5_any _ (HL.out.below hB2)).mono ?_); rintro e w3 ⟨rfl, hb3⟩; have hB3 := trans_below hB2 hb3)
    | (go_at_call 12; (with_reducible refine (sw1_any _).mono ?_); rintro e w' ⟨rfl, rfl⟩)
    | (go_at_call 12; (with_reducible refine (w1s_any _).mono ?_); rintro e w' ⟨rfl, rfl⟩))
  go_ret
  exact ⟨rfl, hB3⟩
end Go.Proofs.YtjmbgfhjdmoflaaDoor
