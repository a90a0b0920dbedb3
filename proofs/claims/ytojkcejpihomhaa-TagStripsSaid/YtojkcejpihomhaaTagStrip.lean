/- The contract of tag.Strip. -/
import Derived.Test.YtojkcejpihomhaaTag
import Derived.RegionTactic
namespace Go.Proofs.Ytojkcejpihomhaa
open Go.RowKit
open Go.Lib (byteCells)

/-- a frame, two numbers and an error, as Strip returns them -/
def GotS (w : World) (D S T : Int) (l : List UInt8) (v p E : Int) (e : Ending) (w' : World) : Prop :=
  ∃ A n c, e = .returned (.tuple #[.agg #[.int .u64 D, .int .u64 S, .int .i64 T, .slice A n c], .int .i64 v, .int .i64 p, .int .i64 E]) ∧ BSl w' A n c l ∧ Below w.heap.size w w'

theorem BSl.drew1 {w : World} {A : Option Addr} {n c : Nat} {l : List UInt8} (h : BSl w A n c l) : BSl w.drew A n c l := h.drewN 1

theorem strip_form (D S T : Int) (A : Option Addr) (n c : Nat) (w : World) (h : T ≠ 33024) :
    Calls Try.prog 8 #[.agg #[.int .u64 D, .int .u64 S, .int .i64 T, .slice A n c]] w (GotS w 0 0 0 [] 0 0 11) := by
  go_enter Try.func8, Try.ntmps8
  go_wp2_with (go_at_call 11; (with_reducible refine (is_as D S T A n c _ false (by simpa using h)).mono ?_); rintro e w1 ⟨rfl, hb1⟩; obtain ⟨p1, q1⟩ := bcell hb1; have z1 : w.heap.size + 1 < w1.heap.size := by { have := hb1.size; simp at this; omega })
  have hB : Below w.heap.size w w1 := two_below hb1
  exact bodyPost_ret (v := .tuple #[.agg #[.int .u64 0, .int .u64 0, .int .i64 0, .slice none 0 0], .int .i64 0, .int .i64 0, .int .i64 11]) (by simp [results, Try.results8, go_sem, p1]) rfl ⟨none, 0, 0, rfl, BSl.nil, ((((hB.setCell (by simp) _).setCell (by simp) _).setCell (by simp) _).setCell (by simp) _)⟩
theorem strip_short (D S : Int) (A : Option Addr) (n c : Nat) (w : World) (hn : n < 4) :
    Calls Try.prog 8 #[.agg #[.int .u64 D, .int .u64 S, .int .i64 33024, .slice A n c]] w (GotS w 0 0 0 [] 0 0 10) := by
  have hz : w.heap.size < w.heap.size + 1 + 1 := by omega
  go_enter Try.func8, Try.ntmps8
  go_wp2_with (go_at_call 11; (with_reducible refine (is_as D S 33024 A n c _ true rfl).mono ?_); rintro e w1 ⟨rfl, hb1⟩; obtain ⟨p1, q1⟩ := bcell hb1; have z1 : w.heap.size + 1 < w1.heap.size := by { have := hb1.size; simp at this; omega })
  have hB : Below w.heap.size w w1 := two_below hb1
  exact bodyPost_ret (v := .tuple #[.agg #[.int .u64 0, .int .u64 0, .int .i64 0, .slice none 0 0], .int .i64 0, .int .i64 0, .int .i64 10]) (by simp [results, Try.results8, go_sem, p1]) rfl ⟨none, 0, 0, rfl, BSl.nil, ((((hB.setCell (by simp) _).setCell (by simp) _).setCell (by simp) _).setCell (by simp) _)⟩

theorem and_4095 (x : Int) (h0 : 0 ≤ x) (h1 : x < 65536) : bits .and .i64 x 4095 = x % 4096 := by
  obtain ⟨X, rfl⟩ := Int.eq_ofNat_of_zero_le h0
  have hx : X &&& 4095 < 2 ^ 63 := Nat.lt_of_le_of_lt Nat.and_le_right (by decide)
  show IntKind.i64.wrap ((BitVec.ofInt 64 (X : Int) &&& BitVec.ofInt 64 (4095 : Int)).toNat : Int) = _
  rw [BitVec.toNat_and, ofInt_u64 X (by omega), show (BitVec.ofInt 64 (4095 : Int)).toNat = 4095 from rfl, IntKind.wrap_i64]
  have := Nat.and_two_pow_sub_one_eq_mod X 12
  rw [show 2 ^ 12 - 1 = 4095 from rfl] at this
  rw [this]
  omega

set_option maxHeartbeats 2000000 in
theorem strip_mid (D S : Int) (A : Option Addr) (n c : Nat) (l : List UInt8) (w : World) (h : BSl w A n c l) (hn : 4 ≤ n) (hmax : n ≤ 1000000) (X Y : Int) (hX : two l 0 = X) (hY : two l 2 = Y) :
    Calls Try.prog 8 #[.agg #[.int .u64 D, .int .u64 S, .int .i64 33024, .slice A n c]] w fun e w' => ((X % 4096 = 4095 ∨ Y = 33024) → GotS w 0 0 0 [] 0 0 15 e w') ∧ (¬ (X % 4096 = 4095 ∨ Y = 33024) → GotS w D S Y (l.drop 4) (X % 4096) (X / 4096) 0 e w') := by
  have HS := Lib.hid h
  obtain ⟨b, off, rfl, hb, hc⟩ := h.at_ (by omega)
  have HC : ∀ j, j < n → ∀ w', Below w.heap.size w w' → w'.cell? ⟨b, off + j, none⟩ = some (.int .u8 (bat l j)) := fun j hj w' hb' => (hb'.cell (p := ⟨b, off + j, none⟩) hb).trans (hc j hj)
  have C0 := Lib.hid (HC 0 (by omega))
  have C1 := Lib.hid (HC 1 (by omega))
  have C2 := Lib.hid (HC 2 (by omega))
  have C3 := Lib.hid (HC 3 (by omega))
  clear HC
  have a0 := bat_lo l 0
  have a1 := bat_hi l 0
  have b0 := bat_lo l 1
  have b1 := bat_hi l 1
  have d0 := bat_lo l 2
  have d1 := bat_hi l 2
  have e0 := bat_lo l 3
  have e1 := bat_hi l 3
  have P0 := Lib.hid (show X = bat l 0 * 256 + bat l 1 from hX.symm)
  have P2 := Lib.hid (show Y = bat l 2 * 256 + bat l 3 from hY.symm)
  have A0 := Lib.hid (and_4095 X (hX ▸ (two_bd l 0).1) (hX ▸ (two_bd l 0).2))
  have A1 := Lib.hid (show 0 ≤ X ∧ X < 65536 from hX ▸ two_bd l 0)
  clear hX hY
  have j0 : (0 : Int) < (n : Int) := by omega
  have j1 : (1 : Int) < (n : Int) := by omega
  have j2 : (2 : Int) < (n : Int) := by omega
  have j3 : (3 : Int) < (n : Int) := by omega
  have hz : w.heap.size < w.heap.size + 1 + 1 := by omega
  generalize bat l 0 = x0 at C0 a0 a1 P0
  generalize bat l 1 = x1 at C1 b0 b1 P0
  generalize bat l 2 = x2 at C2 d0 d1 P2
  generalize bat l 3 = x3 at C3 e0 e1 P2
  clear h hc
  go_enter Try.func8, Try.ntmps8
  go_wp2_with (go_at_call 11; (with_reducible refine (is_as D S 33024 (some ⟨b, off, none⟩) n c _ true rfl).mono ?_); rintro e w1 ⟨rfl, hb1⟩; obtain ⟨p1, q1⟩ := bcell hb1; have z1 : w.heap.size + 1 < w1.heap.size := by { have := hb1.size; simp at this; omega })
  have hB : Below w.heap.size w w1 := two_below hb1
  have c0 := C0.out w1 hB
  have c1 := C1.out w1 hB
  have c2 := C2.out w1 hB
  have c3 := C3.out w1 hB
  have k3 : w1.cell? ⟨w.heap.size, 3, none⟩ = some (.slice (some ⟨b, off, none⟩) n c) := by
    rw [p1 _ _ (by simp; omega)]
    simp
  rw [Nat.add_zero] at c0
  have R0 := Lib.hid (show Below w1.heap.size w1 w1.drew from below_drewN (Below.refl w1.heap.size w1) 1)
  go_region_held_law (fun w' => w'.cell? ⟨w.heap.size, 3, none⟩ = some (.slice (some ⟨b, off, none⟩) n c) ∧ w'.cell? ⟨b, off, none⟩ = some (.int .u8 x0) ∧ w'.cell? ⟨b, off + 1, none⟩ = some (.int .u8 x1) ∧ w'.cell? ⟨b, off + 2, none⟩ = some (.int .u8 x2) ∧ w'.cell? ⟨b, off + 3, none⟩ = some (.int .u8 x3))
    (first | exact ⟨k3, c0, c1, c2, c3⟩ | fail)
    (first
      | (go_at_call 15; (with_reducible refine (pair_any x0 x1 _ a0 a1 b0 b1).mono ?_); rintro e w2 ⟨rfl, rfl⟩)
      | (go_at_call 15; (with_reducible refine (pair_any x2 x3 _ d0 d1 e0 e1).mono ?_); rintro e w2 ⟨rfl, rfl⟩))
  rw [← P0.out, ← P2.out]
  have A2 := A0.out
  obtain ⟨A3, A4⟩ := A1.out
  clear c0 c1 c2 c3 a0 a1 b0 b1 d0 d1 e0 e1 P0 P2
  have hlen : n ≤ 1000000 := hmax
  have hle := HS.out.le
  have hcap := HS.out.cap
  by_cases ht : X % 4096 = 4095
  · go_wp2
    exact bodyPost_ret (v := .tuple #[.agg #[.int .u64 0, .int .u64 0, .int .i64 0, .slice none 0 0], .int .i64 0, .int .i64 0, .int .i64 15]) (by simp [results, Try.results8, go_sem, p1]) rfl ⟨fun _ => ⟨none, 0, 0, rfl, BSl.nil, below_drewN ((((hB.setCell (Nat.le_succ _) _).setCell (Nat.le_succ _) _).setCell (Nat.le_succ _) _).setCell (Nat.le_succ _) _) 1⟩, fun h => absurd (.inl ht) h⟩
  · have ht2 : X % 4096 ≤ 4094 := by omega
    by_cases hk : Y = 33024
    · subst hk
      go_wp2
      exact bodyPost_ret (v := .tuple #[.agg #[.int .u64 0, .int .u64 0, .int .i64 0, .slice none 0 0], .int .i64 0, .int .i64 0, .int .i64 15]) (by simp [results, Try.results8, go_sem, p1]) rfl ⟨none, 0, 0, rfl, BSl.nil, below_drewN ((((hB.setCell (Nat.le_succ _) _).setCell (Nat.le_succ _) _).setCell (Nat.le_succ _) _).setCell (Nat.le_succ _) _) 1⟩
    · go_wp2
      go_region
      go_wp2_with (first
        | (go_at_call 16; (with_reducible refine (copy_any D S Y _ (n - 4) (c - 4) (l.drop 4) _ (by omega) (((HS.out.below ((hB.setCell (Nat.le_refl _) _).setCell (Nat.le_refl _) _)).cut (by omega)).drew1.drew1)).mono ?_); rintro e w2 ⟨A2, c2, rfl, hown2, hb2⟩; obtain ⟨k2, q2⟩ := bcell hb2)
        | (go_at_call 16; (with_reducible refine (copy_any D S Y _ (n - 4) 0 (l.drop 4) _ (by omega) (((HS.out.below ((hB.setCell (Nat.le_refl _) _).setCell (Nat.le_refl _) _)).cut_end (by omega) (by omega)).drew1.drew1)).mono ?_); rintro e w2 ⟨A2, c2, rfl, hown2, hb2⟩; obtain ⟨k2, q2⟩ := bcell hb2))
      all_goals
        have hB2 : Below w.heap.size w w2 := trans_below (below_drewN (below_drewN ((hB.setCell (Nat.le_refl _) _).setCell (Nat.le_refl _) _) 1) 1) hb2
        have e1 := fun o => k2 (w.heap.size + 1) o (by show w.heap.size + 1 < (World.setCell _ _ _).heap.size; simp [World.setCell]; omega)
        exact bodyPost_ret (v := .tuple #[.agg #[.int .u64 D, .int .u64 S, .int .i64 Y, .slice A2 (n - 4) c2], .int .i64 (X % 4096), .int .i64 (X / 4096), .int .i64 0]) (by simp [results, Try.results8, go_sem, e1, p1]) rfl
          ⟨fun h => absurd h (by omega), fun _ => ⟨A2, n - 4, c2, rfl, BSl.of_own (own_far (own_far (own_far (own_far hown2 (by show w.heap.size + 1 < _; simp [World.setCell]; omega) _) (by show w.heap.size + 1 < _; simp [World.setCell]; omega) _) (by show w.heap.size + 1 < _; simp [World.setCell]; omega) _) (by show w.heap.size + 1 < _; simp [World.setCell]; omega) _),
            ((((hB2.setCell (Nat.le_succ _) _).setCell (Nat.le_succ _) _).setCell (Nat.le_succ _) _).setCell (Nat.le_succ _) _)⟩⟩
end Go.Proofs.Ytojkcejpihomhaa
