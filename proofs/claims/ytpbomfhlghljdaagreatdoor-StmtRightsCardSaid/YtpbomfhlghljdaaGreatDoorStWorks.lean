/- The contracts of palinglaw11.Great and works (the chapter's examples hold); the walk of StmtReads. -/
import Derived.Test.YtpbomfhlghljdaaGreatDoorStReadAll
import Derived.Test.YtpbomfhlghljdaaGreatDoorStOk
namespace Go.Proofs.YtpbomfhlghljdaaGreatDoor
open Go.RowKit

/-- texts that were just laid out -/
theorem ssl_lit (w : World) (ps : List (List UInt8)) (t : TypeId) (hm : ps.length ≤ 1000) : SSl (w.alloc (.cells (ps.map fun l => Value.string ⟨l.toArray⟩).toArray t)) (some ⟨w.heap.size, 0, none⟩) ps.length ps.length ps := by
  refine ⟨rfl, Nat.le_refl _, by unfold maxLen; omega, fun _ => ⟨w.heap.size, 0, rfl, by simp, fun j hj => ?_⟩⟩
  rw [Nat.zero_add, World.cell?_alloc_mark]
  simp [List.getD, hj]
theorem fields_of (l : List UInt8) (ps : List (List UInt8)) (h : Lib.fields l = ps) (hl : l.length < 1000) (ha : ∀ b ∈ l, b.toNat < 128) (hp : ps.length ≤ 1000) (w : World) (hw : LdS w) :
    Calls Tryz.prog 13 #[.string (str l)] w fun e w' => ∃ A c, e = .returned (.slice A ps.length c) ∧ SSl w' A ps.length c ps ∧ Below w.heap.size w w' := by
  refine (Tryz.strings_Fields (str l) w (by rw [str_size]; omega) (fun j b hb => ha b (List.mem_of_getElem? hb)) hw.space).mono ?_
  rintro e w' ⟨rfl, rfl⟩
  have e1 : (str l).data.toList = l := by simp
  rw [e1, h]
  exact ⟨_, _, rfl, ssl_lit w ps _ hp, (Below.refl _ _).alloc (Nat.le_refl _) _⟩
theorem fields1 (w : World) (hw : LdS w) : Calls Tryz.prog 13 #[.string ⟨#[112, 111, 114, 116, 32, 115, 119, 49, 32, 112, 49, 32, 52, 32, 97, 99, 99, 101, 115, 115, 32, 49, 48]⟩] w fun e w' => ∃ A c, e = .returned (.slice A 6 c) ∧ SSl w' A 6 c exW1 ∧ Below w.heap.size w w' :=
  fields_of [112, 111, 114, 116, 32, 115, 119, 49, 32, 112, 49, 32, 52, 32, 97, 99, 99, 101, 115, 115, 32, 49, 48] exW1 (by decide +kernel) (by decide) (by decide) (by decide) w hw
theorem fields2 (w : World) (hw : LdS w) : Calls Tryz.prog 13 #[.string ⟨#[112, 111, 114, 116, 32, 115, 119, 49, 32, 112, 49, 32, 52, 32, 116, 114, 117, 110, 107, 32, 49, 48, 32, 49, 48, 44, 50, 48]⟩] w fun e w' => ∃ A c, e = .returned (.slice A 7 c) ∧ SSl w' A 7 c exW2 ∧ Below w.heap.size w w' :=
  fields_of [112, 111, 114, 116, 32, 115, 119, 49, 32, 112, 49, 32, 52, 32, 116, 114, 117, 110, 107, 32, 49, 48, 32, 49, 48, 44, 50, 48] exW2 (by decide +kernel) (by decide) (by decide) (by decide) w hw
theorem ex1_right : RdK 7 exL1 := by
  have := rd_cases exW1 7 ex1.1
  rwa [ex1.2] at this
theorem ex1_ok : LvOk exL1 := ⟨by decide, by decide, by decide⟩
theorem xread1 (A : Option Addr) (c : Nat) (w : World) (h : SSl w A 6 c exW1) (hl : LdS w) : Calls Tryz.prog 7 #[.slice A 6 c, .int .i64 7] w (GotLine w exL1 0) := by
  have := xread_any A 6 c exW1 7 w h (by decide) hl
  rwa [ex1.1, ex1.2] at this
theorem xread2 (A : Option Addr) (c : Nat) (w : World) (h : SSl w A 7 c exW2) (hl : LdS w) : Calls Tryz.prog 7 #[.slice A 7 c, .int .i64 7] w (GotLine w LV.zero 21) := by
  have := xread_any A 7 c exW2 7 w h (by decide) hl
  have e : rdL exW2 7 = LV.zero := by unfold rdL; rw [if_neg (by rw [ex2]; decide)]
  rwa [ex2, e] at this
set_option maxRecDepth 20000 in
set_option maxHeartbeats 2000000 in
theorem works11_any (w : World) (hl : LdS w) : Calls Tryz.prog 6 #[] w fun e w' => e = .returned (.bool true) ∧ Below w.heap.size w w' := by
  have HL := Lib.hid hl
  clear hl
  go_enter Tryz.func6, Tryz.ntmps6
  go_wp2_with (first
    | (go_at_call 13; (with_reducible refine (fields1 _ HL.out).mono ?_); rintro e w1 ⟨A1, c1, rfl, S1, b1⟩; have B1 := Lib.hid b1; have H1 := Lib.hid S1; clear S1 b1)
    | (go_at_call 7; (with_reducible refine (xread1 _ _ _ H1.out (HL.out.below B1.out)).mono ?_); rintro e w2 ⟨s1, s2, s3, s4, rfl, R2, _, b2⟩; have B2 := Lib.hid (trans_below B1.out b2); have L2 := Lib.hid R2; clear R2 b2)
    | ((with_reducible refine wpList_newline (w := w2) rfl rfl rfl (.tmp 1) (.tmp 8) rfl ?hx exL1 s1 s2 s3 s4 ?hy ?_); (case hx => rfl); (case hy => rfl); intro w3 x3 y3; have X3 := Lib.hid x3; have B3a := Lib.hid y3; have B3 := Lib.hid (trans_below B2.out B3a.out); have L3 := Lib.hid (L2.out.below B3a.out); clear x3 y3)
    | (go_at_call 13; (with_reducible refine (fields2 _ (HL.out.below B3.out)).mono ?_); rintro e w4 ⟨A4, c4, rfl, S4, b4⟩; have B4 := Lib.hid b4; have H4 := Lib.hid S4; clear S4 b4)
    | (go_at_call 7; (with_reducible refine (xread2 _ _ _ H4.out (HL.out.below (trans_below B3.out B4.out))).mono ?_); rintro e w5 ⟨t1, t2, t3, t4, rfl, R5, _, b5⟩; have B5 := Lib.hid (trans_below B4.out b5); clear R5 b5)
    | ((with_reducible refine wpList_newline (w := w5) rfl rfl rfl (.tmp 3) (.tmp 13) rfl ?hx LV.zero t1 t2 t3 t4 ?hy ?_); (case hx => rfl); (case hy => rfl); intro w6 x6 y6; have B6 := Lib.hid (trans_below B5.out y6); have B7 := Lib.hid (trans_below B3.out B6.out); have X6 := Lib.hid (X3.out.below (by omega) B6.out); have L6 := Lib.hid (L3.out.below B6.out); clear x6 y6; have z12 : w6.cell? ⟨w2.heap.size, 12, none⟩ = some (.int .i64 4) := X6.out.cell 12 (by omega); have z10 : w6.cell? ⟨w2.heap.size, 10, none⟩ = some (.int .i64 10) := X6.out.cell 10 (by omega); have z0 : w6.cell? ⟨w2.heap.size, 0, none⟩ = some (.int .i64 7) := X6.out.cell 0 (by omega); have z1 : w6.cell? ⟨w2.heap.size, 1, none⟩ = some (.int .i64 2) := X6.out.cell 1 (by omega))
    | ((with_reducible refine wpList_lineOf ?hw (.tmp 1) rfl w2.heap.size ?hx exL1 s1 s2 s3 s4 X6.out ?_); (case hw => rfl); (case hx => rfl))
    | (go_at_call 12; (with_reducible refine (xright_any exL1 s1 s2 s3 s4 _ L6.out ex1_ok (HL.out.below B7.out)).mono ?_); rintro e w8 ⟨he8, hb8⟩; rw [rgB_read 7 exL1 ex1_right] at he8; subst he8; have B8 := Lib.hid (trans_below B7.out hb8); clear hb8))
  go_ret
  exact ⟨rfl, B8.out⟩
end Go.Proofs.YtpbomfhlghljdaaGreatDoor
