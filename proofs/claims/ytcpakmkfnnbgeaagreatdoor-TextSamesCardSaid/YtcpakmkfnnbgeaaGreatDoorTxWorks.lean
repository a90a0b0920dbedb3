/- The contract of palinglaw12.works, the chapter's example: it holds; the walk of TextReads. -/
import Derived.Test.YtcpakmkfnnbgeaaGreatDoorTxOwn
import Derived.Test.YtcpakmkfnnbgeaaGreatDoorTxExact
import Derived.Lib.SmallJoins
namespace Go.Proofs.YtcpakmkfnnbgeaaGreatDoor
open Go.RowKit
open Go.Lib (byteCells)

/-- bytes that were just laid out -/
theorem bsl_const (w : World) (l : List UInt8) (fr : Nat × Nat) (h : l.length ≤ 1000) : BSl (w.alloc (.cells (byteCells l).toArray 5 fr)) (some ⟨w.heap.size, 0, none⟩) l.length l.length l := by
  refine ⟨⟨nums_len l, Nat.le_refl _, by unfold maxLen; omega, fun _ => ⟨w.heap.size, 0, rfl, by simp, fun j hj => ?_⟩⟩, fun e => by cases e⟩
  rw [Nat.zero_add, World.cell?_alloc_mark, nums_getD l j hj]
  have := bcells_get l j hj
  simpa using this
theorem got_one {w : World} {A : Option Addr} {c : Nat} {L : LV} (h : RSl lineR w (allB w) A 1 c [L]) : ∃ b off, A = some ⟨b, off, none⟩ ∧ b < w.heap.size ∧ w.cell? ⟨b, off, none⟩ = some (.int .i64 L.row) ∧ w.cell? ⟨b, off + 8, none⟩ = some (.int .u32 L.addr) := by
  obtain ⟨b, off, s1, s2, s3, s4, e, hb, _, hr⟩ := lines_at h 0 (by decide)
  rw [Nat.zero_mul, Nat.add_zero] at hr
  exact ⟨b, off, e, hb, hr 0 _ rfl, hr 8 _ rfl⟩
set_option maxRecDepth 20000 in
set_option maxHeartbeats 2000000 in
theorem works12_any (w : World) (hl : LdT w) : Calls Tryz.prog 7 #[] w fun e w' => e = .returned (.bool true) ∧ Below w.heap.size w w' := by
  have HL := Lib.hid hl
  have T1 := Lib.hid (show ∀ w A c, BSl w A 16 c txB1 → LdT w → Calls Tryz.prog 8 #[.slice A 16 c] w (GotText w (0, 0, [txL1])) from fun w A c h hl => by
    have := xtext_any A 16 c txB1 w h hl
    rwa [txV1] at this)
  have T2 := Lib.hid (show ∀ w A c, BSl w A 7 c txB2 → LdT w → Calls Tryz.prog 8 #[.slice A 7 c] w (GotText w (2, 22, [])) from fun w A c h hl => by
    have := xtext_any A 7 c txB2 w h hl
    rwa [txV2] at this)
  have cv1 := fun w : World => Joins.run_convert_bytes_const_at (P := Tryz.prog) w 22 5 #[.int .u8 10, .int .u8 118, .int .u8 116, .int .u8 101, .int .u8 112, .int .u8 32, .int .u8 97, .int .u8 32, .int .u8 49, .int .u8 48, .int .u8 46, .int .u8 48, .int .u8 46, .int .u8 48, .int .u8 46, .int .u8 49] 16 16 w.heap.size rfl Tryz.underlying22 Tryz.underlying5
  have cv2 := fun w : World => Joins.run_convert_bytes_const_at (P := Tryz.prog) w 22 5 #[.int .u8 10, .int .u8 118, .int .u8 116, .int .u8 101, .int .u8 112, .int .u8 32, .int .u8 97] 7 7 w.heap.size rfl Tryz.underlying22 Tryz.underlying5
  have L1 := Lib.hid (fun w : World => show BSl (w.alloc (.cells #[.int .u8 10, .int .u8 118, .int .u8 116, .int .u8 101, .int .u8 112, .int .u8 32, .int .u8 97, .int .u8 32, .int .u8 49, .int .u8 48, .int .u8 46, .int .u8 48, .int .u8 46, .int .u8 48, .int .u8 46, .int .u8 49] 5 (16, 17))) (some ⟨w.heap.size, 0, none⟩) 16 16 txB1 from bsl_const w txB1 (16, 17) (by decide))
  have L2 := Lib.hid (fun w : World => show BSl (w.alloc (.cells #[.int .u8 10, .int .u8 118, .int .u8 116, .int .u8 101, .int .u8 112, .int .u8 32, .int .u8 97] 5 (7, 8))) (some ⟨w.heap.size, 0, none⟩) 7 7 txB2 from bsl_const w txB2 (7, 8) (by decide))
  clear hl
  go_enter Tryz.func7, Tryz.ntmps7
  go_wp2_with (first
    | (go_at_call 8; (with_reducible refine (T1.out _ _ _ (L1.out _) (HL.out.below ((Below.refl _ _).alloc (Nat.le_refl _) _))).mono ?_); rintro e w1 ⟨A1, n1, c1, rfl, s1, b1⟩; obtain rfl : n1 = 1 := s1.len.symm; obtain ⟨q, off, rfl, hq, z0, z8⟩ := got_one s1; have B1 := Lib.hid (one_below b1); have q1 := s1.le; have q2 := s1.cap; clear s1 b1)
    | (go_at_call 8; (with_reducible refine (T2.out _ _ _ (L2.out _) (HL.out.below (trans_below B1.out ((Below.refl _ _).alloc (Nat.le_refl _) _)))).mono ?_); rintro e w2 ⟨A2, n2, c2, rfl, _, b2⟩; have B2 := Lib.hid (one_below b2); have y0 : w2.cell? ⟨q, off, none⟩ = some (.int .i64 2) := (B2.out.cell (p := ⟨q, off, none⟩) hq).trans z0; have y8 : w2.cell? ⟨q, off + 8, none⟩ = some (.int .u32 167772161) := (B2.out.cell (p := ⟨q, off + 8, none⟩) hq).trans z8; clear b2 z0 z8))
  go_ret
  exact ⟨rfl, trans_below B1.out B2.out⟩
set_option maxRecDepth 20000 in
set_option maxHeartbeats 2000000 in
theorem treads_walk (A : Option Addr) (n c : Nat) (l : List UInt8) (w : World) (h : BSl w A n c l) (hl : LdT w) : Calls Tryz.prog 3 #[.slice A n c] w fun e w' => e = .returned (.bool true) ∧ Below w.heap.size w w' := by
  have HL := Lib.hid hl
  by_cases ho : (6000 < n ∧ n ≤ 20000) ∨ 60000 < n
  · have i0 : (6000 : Int) < (n : Int) := by omega
    clear h hl
    by_cases h2 : n ≤ 20000
    · have i1 : (n : Int) ≤ 20000 := by omega
      clear ho h2
      go_enter Tryz.func3, Tryz.ntmps3
      go_wp2_with (go_at_call 7; (with_reducible refine (works12_any _ HL.out).mono ?_); rintro e w1 ⟨rfl, b1⟩)
      go_ret
      exact ⟨rfl, b1⟩
    · have i1 : ¬ (n : Int) ≤ 20000 := by omega
      have i2 : (60000 : Int) < (n : Int) := by omega
      clear ho h2
      go_enter Tryz.func3, Tryz.ntmps3
      go_wp2_with (go_at_call 7; (with_reducible refine (works12_any _ HL.out).mono ?_); rintro e w1 ⟨rfl, b1⟩)
      go_ret
      exact ⟨rfl, b1⟩
  · have H := Lib.hid h
    have R1 := fun w h hl => xtext_any A n c l w h hl
    have R2 := fun w h => rtext_any A n c l w h
    obtain ⟨⟨row, E, Ls⟩, hT⟩ : ∃ T, txV l = T := ⟨_, rfl⟩
    rw [hT] at R1 R2
    have R1 := Lib.hid R1
    have R2 := Lib.hid R2
    have i3 : ¬ (60000 : Int) < (n : Int) := by omega
    have key : ∀ (hx : (6000 : Int) < (n : Int) ∧ ¬ (n : Int) ≤ 20000 ∨ ¬ (6000 : Int) < (n : Int)), Calls Tryz.prog 3 #[.slice A n c] w fun e w' => e = .returned (.bool true) ∧ Below w.heap.size w w' := by
      clear h hl hT ho
      intro hx
      rcases hx with ⟨i0, i1⟩ | i0
      all_goals
        go_enter Tryz.func3, Tryz.ntmps3
        go_wp2_with (first
          | (go_at_call 8; (with_reducible refine (R1.out _ H.out HL.out).mono ?_); rintro e w1 ⟨A1, n1, c1, rfl, s1, b1⟩; have B1 := Lib.hid b1; have S1 := Lib.hid s1; clear s1 b1)
          | (go_at_call 9; (with_reducible refine (R2.out _ (H.out.below B1.out)).mono ?_); rintro e w2 ⟨A2, n2, c2, rfl, s2, b2⟩; have B2 := Lib.hid (trans_below B1.out b2); have S2 := Lib.hid s2; have S1b := Lib.hid (show RSl lineR w2 (allB w2) A1 n1 c1 Ls from S1.out.keep (fun b hb => b2.block b hb) (fun b hb => Nat.lt_of_lt_of_le hb b2.size)); clear s2 b2)
          | (go_at_call 10; (with_reducible refine (rexact_self A1 n1 c1 A2 n2 c2 Ls _ S1b.out S2.out).mono ?_); rintro e w3 ⟨rfl, b3⟩; have B3 := Lib.hid (trans_below B2.out b3); clear b3)
          | (go_at_call 7; (with_reducible refine (works12_any _ (HL.out.below B3.out)).mono ?_); rintro e w4 ⟨rfl, b4⟩; have B4 := Lib.hid (trans_below B3.out b4); clear b4))
        go_ret
        exact ⟨rfl, B4.out⟩
    exact key (by omega)
end Go.Proofs.YtcpakmkfnnbgeaaGreatDoor
