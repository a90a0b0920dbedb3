/- The contract of palingref05.Strip. -/
import Derived.Test.YtojkcejpihomhaaTagStrip
import Derived.Test.YtojkcejpihomhaaRefTagAdd
namespace Go.Proofs.Ytojkcejpihomhaa
open Go.RowKit
open Go.Lib (byteCells)

theorem own_newg (w : World) (B g : Nat) (hg : w.heap.size = g) (hB : B ≤ w.heap.size) : (w.alloc (.cells #[] 5)).ownsRow B 5 1 (.slice (some ⟨g, 0, none⟩) 0 0) 0 [] := by
  subst hg
  exact own_new w B hB

set_option maxHeartbeats 1000000 in
theorem rstrip_form (D S T : Int) (A : Option Addr) (n c : Nat) (w : World) (h : ¬ T = 33024) :
    Calls Try.prog 9 #[.agg #[.int .u64 D, .int .u64 S, .int .i64 T, .slice A n c]] w (GotS w 0 0 0 [] 0 0 11) := by
  have hz : w.heap.size < w.heap.size + 1 + 1 := by omega
  have HE := Lib.hid (two_alloc w (.cells #[.int .u64 D, .int .u64 S, .int .i64 T, .slice A n c] 25) (.cells #[.int .u64 0, .int .u64 0, .int .i64 0, .slice none 0 0] 25))
  go_enter Try.func9, Try.ntmps9
  go_wp2
  exact bodyPost_ret (v := .tuple #[.agg #[.int .u64 0, .int .u64 0, .int .i64 0, .slice none 0 0], .int .i64 0, .int .i64 0, .int .i64 11]) (by simp [results, Try.results9, go_sem]) rfl ⟨none, 0, 0, rfl, BSl.nil, HE.out⟩
set_option maxHeartbeats 1000000 in
theorem rstrip_short (D S : Int) (A : Option Addr) (n c : Nat) (w : World) (hn : n < 4) :
    Calls Try.prog 9 #[.agg #[.int .u64 D, .int .u64 S, .int .i64 33024, .slice A n c]] w (GotS w 0 0 0 [] 0 0 10) := by
  have hz : w.heap.size < w.heap.size + 1 + 1 := by omega
  have HE := Lib.hid (two_alloc w (.cells #[.int .u64 D, .int .u64 S, .int .i64 33024, .slice A n c] 25) (.cells #[.int .u64 0, .int .u64 0, .int .i64 0, .slice none 0 0] 25))
  go_enter Try.func9, Try.ntmps9
  go_wp2
  exact bodyPost_ret (v := .tuple #[.agg #[.int .u64 0, .int .u64 0, .int .i64 0, .slice none 0 0], .int .i64 0, .int .i64 0, .int .i64 10]) (by simp [results, Try.results9, go_sem]) rfl ⟨none, 0, 0, rfl, BSl.nil, HE.out⟩

/-- a frame's box and four bytes of its body, wherever what was there is as it was -/
theorem strip_keep {w w' : World} {D S T x0 x1 x2 x3 : Int} {A : Option Addr} {b off n c : Nat} (hb : b < w.heap.size)
    (c0 : w.cell? ⟨b, off, none⟩ = some (.int .u8 x0)) (c1 : w.cell? ⟨b, off + 1, none⟩ = some (.int .u8 x1)) (c2 : w.cell? ⟨b, off + 2, none⟩ = some (.int .u8 x2)) (c3 : w.cell? ⟨b, off + 3, none⟩ = some (.int .u8 x3))
    (h : Below (w.alloc (.cells #[.int .u64 D, .int .u64 S, .int .i64 T, .slice A n c] 25)).heap.size (w.alloc (.cells #[.int .u64 D, .int .u64 S, .int .i64 T, .slice A n c] 25)) w') :
    w'.cell? ⟨w.heap.size, 0, none⟩ = some (.int .u64 D) ∧ w'.cell? ⟨w.heap.size, 1, none⟩ = some (.int .u64 S) ∧ w'.cell? ⟨w.heap.size, 3, none⟩ = some (.slice A n c) ∧
      w'.cell? ⟨b, off, none⟩ = some (.int .u8 x0) ∧ w'.cell? ⟨b, off + 1, none⟩ = some (.int .u8 x1) ∧ w'.cell? ⟨b, off + 2, none⟩ = some (.int .u8 x2) ∧ w'.cell? ⟨b, off + 3, none⟩ = some (.int .u8 x3) ∧
      Below (w.alloc (.cells #[.int .u64 D, .int .u64 S, .int .i64 T, .slice A n c] 25)).heap.size (w.alloc (.cells #[.int .u64 D, .int .u64 S, .int .i64 T, .slice A n c] 25)) w' := by
  obtain ⟨k0, k1, _, k3, _⟩ := box_keep h
  have g := one_below h
  exact ⟨k0, k1, k3, (g.cell (p := ⟨b, off, none⟩) hb).trans c0, (g.cell (p := ⟨b, off + 1, none⟩) hb).trans c1, (g.cell (p := ⟨b, off + 2, none⟩) hb).trans c2, (g.cell (p := ⟨b, off + 3, none⟩) hb).trans c3, h⟩

set_option maxHeartbeats 4000000 in
theorem rstrip_mid (D S : Int) (A : Option Addr) (n c : Nat) (l : List UInt8) (w : World) (h : BSl w A n c l) (hn : 4 ≤ n) (hmax : n ≤ 1000000) (X Y : Int) (hX : two l 0 = X) (hY : two l 2 = Y) :
    Calls Try.prog 9 #[.agg #[.int .u64 D, .int .u64 S, .int .i64 33024, .slice A n c]] w fun e w' => ((X % 4096 = 4095 ∨ Y = 33024) → GotS w 0 0 0 [] 0 0 15 e w') ∧ (¬ (X % 4096 = 4095 ∨ Y = 33024) → GotS w D S Y (l.drop 4) (X % 4096) (X / 4096) 0 e w') := by
  obtain ⟨i0, hi, hz0, hz1, hz2⟩ := info_parts Try.info5
  have Hi := Lib.hid hi; have Hz0 := Lib.hid hz0; have Hz1 := Lib.hid hz1; have Hz2 := Lib.hid hz2
  have HS := Lib.hid h
  obtain ⟨b, off, rfl, hb, hc⟩ := h.at_ (by omega)
  have c0 := hc 0 (by omega)
  have c1 := hc 1 (by omega)
  have c2 := hc 2 (by omega)
  have c3 := hc 3 (by omega)
  rw [Nat.add_zero] at c0
  have a0 := bat_lo l 0
  have a1 := bat_hi l 0
  have b0 := bat_lo l 1
  have b1 := bat_hi l 1
  have d0 := bat_lo l 2
  have d1 := bat_hi l 2
  have e0 := bat_lo l 3
  have e1 := bat_hi l 3
  have P0 := Lib.hid (show X = bat l 0 * 256 + bat l 1 from hX.symm)
  have P2 := Lib.hid (show Y = bat l 2 * 256 + bat l 3 from hY.symm)
  have A1 := Lib.hid (show 0 ≤ X ∧ X < 65536 from hX ▸ two_bd l 0)
  have A2 := Lib.hid (show 0 ≤ Y ∧ Y < 65536 from hY ▸ two_bd l 2)
  clear hX hY h hc hi hz0 hz1 hz2
  generalize bat l 0 = x0 at c0 a0 a1 P0
  generalize bat l 1 = x1 at c1 b0 b1 P0
  generalize bat l 2 = x2 at c2 d0 d1 P2
  generalize bat l 3 = x3 at c3 e0 e1 P2
  have K := Lib.hid (fun w' h => strip_keep (w := w) (w' := w') (D := D) (S := S) (T := 33024) (A := some ⟨b, off, none⟩) (n := n) (c := c) hb c0 c1 c2 c3 h)
  clear c0 c1 c2 c3
  have j0 : (0 : Int) < (n : Int) := by omega
  have j1 : (1 : Int) < (n : Int) := by omega
  have j2 : (2 : Int) < (n : Int) := by omega
  have j3 : (3 : Int) < (n : Int) := by omega
  have u0 : IntKind.i64.wrap x0 = x0 := IntWalk.i64_in _ (by omega)
  have u1 : IntKind.i64.wrap x1 = x1 := IntWalk.i64_in _ (by omega)
  have u2 : IntKind.i64.wrap x2 = x2 := IntWalk.i64_in _ (by omega)
  have u3 : IntKind.i64.wrap x3 = x3 := IntWalk.i64_in _ (by omega)
  have u4 : IntKind.i64.wrap (x0 * 256) = x0 * 256 := IntWalk.i64_in _ (by omega)
  have u5 : IntKind.i64.wrap (x2 * 256) = x2 * 256 := IntWalk.i64_in _ (by omega)
  have u6 : IntKind.i64.wrap (x0 * 256 + x1) = x0 * 256 + x1 := IntWalk.i64_in _ (by omega)
  have u7 : IntKind.i64.wrap (x2 * 256 + x3) = x2 * 256 + x3 := IntWalk.i64_in _ (by omega)
  have hz : w.heap.size < w.heap.size + 1 + 1 := by omega
  have B0 := Lib.hid ((Below.refl (w.alloc (.cells #[.int .u64 D, .int .u64 S, .int .i64 33024, .slice (some ⟨b, off, none⟩) n c] 25)).heap.size (w.alloc (.cells #[.int .u64 D, .int .u64 S, .int .i64 33024, .slice (some ⟨b, off, none⟩) n c] 25))).alloc (Nat.le_refl _) (.cells #[.int .u64 0, .int .u64 0, .int .i64 0, .slice none 0 0] 25))
  go_enter Try.func9, Try.ntmps9
  go_wp2
  go_region_held_law (fun w' => w'.cell? ⟨w.heap.size, 0, none⟩ = some (.int .u64 D) ∧ w'.cell? ⟨w.heap.size, 1, none⟩ = some (.int .u64 S) ∧ w'.cell? ⟨w.heap.size, 3, none⟩ = some (.slice (some ⟨b, off, none⟩) n c) ∧
      w'.cell? ⟨b, off, none⟩ = some (.int .u8 x0) ∧ w'.cell? ⟨b, off + 1, none⟩ = some (.int .u8 x1) ∧ w'.cell? ⟨b, off + 2, none⟩ = some (.int .u8 x2) ∧ w'.cell? ⟨b, off + 3, none⟩ = some (.int .u8 x3) ∧
      Below (w.alloc (.cells #[.int .u64 D, .int .u64 S, .int .i64 33024, .slice (some ⟨b, off, none⟩) n c] 25)).heap.size (w.alloc (.cells #[.int .u64 D, .int .u64 S, .int .i64 33024, .slice (some ⟨b, off, none⟩) n c] 25)) w')
    (first | exact K.out _ (below_drewN B0.out 1) | fail) (fail)
  rw [← P0.out]
  go_wp2
  go_region_held_law (fun w' => w'.cell? ⟨w.heap.size, 0, none⟩ = some (.int .u64 D) ∧ w'.cell? ⟨w.heap.size, 1, none⟩ = some (.int .u64 S) ∧ w'.cell? ⟨w.heap.size, 3, none⟩ = some (.slice (some ⟨b, off, none⟩) n c) ∧
      w'.cell? ⟨b, off, none⟩ = some (.int .u8 x0) ∧ w'.cell? ⟨b, off + 1, none⟩ = some (.int .u8 x1) ∧ w'.cell? ⟨b, off + 2, none⟩ = some (.int .u8 x2) ∧ w'.cell? ⟨b, off + 3, none⟩ = some (.int .u8 x3) ∧
      Below (w.alloc (.cells #[.int .u64 D, .int .u64 S, .int .i64 33024, .slice (some ⟨b, off, none⟩) n c] 25)).heap.size (w.alloc (.cells #[.int .u64 D, .int .u64 S, .int .i64 33024, .slice (some ⟨b, off, none⟩) n c] 25)) w')
    (first | exact K.out _ (below_drewN B0.out 2) | exact K.out _ (below_drewN B0.out 1) | fail) (fail)
  rw [← P2.out]
  obtain ⟨A3, A4⟩ := A1.out
  obtain ⟨A5, A6⟩ := A2.out
  clear a0 a1 b0 b1 d0 d1 e0 e1 P0 P2 u0 u1 u2 u3 u4 u5 u6 u7
  have m0 : X.tmod 4096 = X % 4096 := Int.tmod_eq_emod_of_nonneg A3
  have m1 : X.tdiv 4096 = X / 4096 := Int.tdiv_eq_ediv_of_nonneg A3
  have m2 : IntKind.i64.wrap (X / 4096) = X / 4096 := IntWalk.i64_in _ (by omega)
  have m3 : IntKind.i64.wrap (X % 4096) = X % 4096 := IntWalk.i64_in _ (by omega)
  by_cases ht : X % 4096 = 4095
  · go_wp2
    exact bodyPost_ret (v := .tuple #[.agg #[.int .u64 0, .int .u64 0, .int .i64 0, .slice none 0 0], .int .i64 0, .int .i64 0, .int .i64 15]) (by simp [results, Try.results9, go_sem]) rfl ⟨fun _ => ⟨none, 0, 0, rfl, BSl.nil, one_below (below_drewN B0.out 2)⟩, fun h => absurd (.inl ht) h⟩
  · have ht2 : (X % 4096 == 4095) = false := by simpa using ht
    by_cases hk : Y = 33024
    · subst hk
      go_wp2
      exact bodyPost_ret (v := .tuple #[.agg #[.int .u64 0, .int .u64 0, .int .i64 0, .slice none 0 0], .int .i64 0, .int .i64 0, .int .i64 15]) (by simp [results, Try.results9, go_sem]) rfl ⟨none, 0, 0, rfl, BSl.nil, one_below (below_drewN B0.out 2)⟩
    · have R0 := Lib.hid ((Below.refl (((w.alloc (.cells #[.int .u64 D, .int .u64 S, .int .i64 33024, .slice (some ⟨b, off, none⟩) n c] 25)).alloc (.cells #[.int .u64 0, .int .u64 0, .int .i64 0, .slice none 0 0] 25)).drewN 3).heap.size (((w.alloc (.cells #[.int .u64 D, .int .u64 S, .int .i64 33024, .slice (some ⟨b, off, none⟩) n c] 25)).alloc (.cells #[.int .u64 0, .int .u64 0, .int .i64 0, .slice none 0 0] 25)).drewN 3)).alloc (Nat.le_refl _) (.cells #[] 5))
      have O0 := Lib.hid (own_newg (((w.alloc (.cells #[.int .u64 D, .int .u64 S, .int .i64 33024, .slice (some ⟨b, off, none⟩) n c] 25)).alloc (.cells #[.int .u64 0, .int .u64 0, .int .i64 0, .slice none 0 0] 25)).drewN 3) (((w.alloc (.cells #[.int .u64 D, .int .u64 S, .int .i64 33024, .slice (some ⟨b, off, none⟩) n c] 25)).alloc (.cells #[.int .u64 0, .int .u64 0, .int .i64 0, .slice none 0 0] 25)).drewN 3).heap.size (w.heap.size + 1 + 1) (by show ((w.alloc (.cells #[.int .u64 D, .int .u64 S, .int .i64 33024, .slice (some ⟨b, off, none⟩) n c] 25)).alloc (.cells #[.int .u64 0, .int .u64 0, .int .i64 0, .slice none 0 0] 25)).heap.size = _; simp) (Nat.le_refl _))
      have HZ := Lib.hid (show w.heap.size + 1 < (((w.alloc (.cells #[.int .u64 D, .int .u64 S, .int .i64 33024, .slice (some ⟨b, off, none⟩) n c] 25)).alloc (.cells #[.int .u64 0, .int .u64 0, .int .i64 0, .slice none 0 0] 25)).drewN 3).heap.size by show w.heap.size + 1 < ((w.alloc (.cells #[.int .u64 D, .int .u64 S, .int .i64 33024, .slice (some ⟨b, off, none⟩) n c] 25)).alloc (.cells #[.int .u64 0, .int .u64 0, .int .i64 0, .slice none 0 0] 25)).heap.size; simp)
      have HB := Lib.hid (fun (w' : World) (h : Below (w.alloc (.cells #[.int .u64 D, .int .u64 S, .int .i64 33024, .slice (some ⟨b, off, none⟩) n c] 25)).heap.size (w.alloc (.cells #[.int .u64 D, .int .u64 S, .int .i64 33024, .slice (some ⟨b, off, none⟩) n c] 25)) w') => one_below h)
      clear A3 A4 A5 A6
      by_cases hend : c ≤ 4
      · have hle := HS.out.le
        obtain rfl : c = 4 := by omega
        obtain rfl : n = 4 := by omega
        have E0 := Lib.hid (show BSl w (some ⟨b, off, none⟩) 0 0 (l.drop 4) from HS.out.cut_end (k := 4) (by omega) (by omega))
        go_wp2
        go_region_held_law (fun w' => w'.cell? ⟨w.heap.size, 0, none⟩ = some (.int .u64 D) ∧ w'.cell? ⟨w.heap.size, 1, none⟩ = some (.int .u64 S) ∧ w'.cell? ⟨w.heap.size, 3, none⟩ = some (.slice (some ⟨b, off, none⟩) 4 4) ∧
              w'.cell? ⟨b, off, none⟩ = some (.int .u8 x0) ∧ w'.cell? ⟨b, off + 1, none⟩ = some (.int .u8 x1) ∧ w'.cell? ⟨b, off + 2, none⟩ = some (.int .u8 x2) ∧ w'.cell? ⟨b, off + 3, none⟩ = some (.int .u8 x3) ∧
              Below (w.alloc (.cells #[.int .u64 D, .int .u64 S, .int .i64 33024, .slice (some ⟨b, off, none⟩) 4 4] 25)).heap.size (w.alloc (.cells #[.int .u64 D, .int .u64 S, .int .i64 33024, .slice (some ⟨b, off, none⟩) 4 4] 25)) w')
            (first | exact K.out _ ((((hb4.setCell hs _).setCell hs _).setCell hs _).setCell hs _) | exact K.out _ hb4 | exact K.out _ ((below_drewN B0.out 3).alloc (by simp) _) | exact K.out _ (below_drewN B0.out 3) | fail)
            ((refine step_bapp (by rfl) (.tmp 54) (.tmp 57) 23 (by rfl) (((w.alloc (.cells #[.int .u64 D, .int .u64 S, .int .i64 33024, .slice (some ⟨b, off, none⟩) 4 4] 25)).alloc (.cells #[.int .u64 0, .int .u64 0, .int .i64 0, .slice none 0 0] 25)).drewN 3).heap.size 5 i0 (.int .u8 0) 1 Try.underlying23 Hi.out Hz0.out Hz1.out Hz2.out rfl _ _ _ (by rfl) O0.out (some ⟨b, off, none⟩) 0 0 (l.drop 4) (by rfl) (((((E0.out).alloc _).alloc _).drewN 3).alloc _) (by unfold maxLen; omega) (by omega) (by simp) ?_; intro v1 w1 hown1 hgrow1; have hb1 := below_app R0.out O0.out hgrow1; simp only [Nat.zero_add, List.nil_append] at hown1; obtain ⟨A3, c3, rfl⟩ := own_shape hown1; obtain ⟨p3, q3⟩ := bcell hb1; have hb4 := Below.drawn B0.out 3 hb1; have hs : (w.alloc (.cells #[.int .u64 D, .int .u64 S, .int .i64 33024, .slice (some ⟨b, off, none⟩) 4 4] 25)).heap.size ≤ w.heap.size + 1 := by { simp }; have e1 := fun o => p3 (w.heap.size + 1) o HZ.out))
        go_wp2
        exact bodyPost_ret (v := .tuple #[.agg #[.int .u64 D, .int .u64 S, .int .i64 Y, .slice A3 0 c3], .int .i64 (X % 4096), .int .i64 (X / 4096), .int .i64 0]) (by simp [results, Try.results9, go_sem, e1]) rfl
          ⟨fun h => absurd h (by omega), fun _ => ⟨A3, 0, c3, rfl, BSl.of_own (own_far (own_far (own_far (own_far hown1 HZ.out _) HZ.out _) HZ.out _) HZ.out _),
            ((((HB.out _ hb4).setCell (Nat.le_succ _) _).setCell (Nat.le_succ _) _).setCell (Nat.le_succ _) _).setCell (Nat.le_succ _) _⟩⟩
      · have hne : ¬ c = 4 := by omega
        have hle := HS.out.le
        have hcap := HS.out.cap
        go_wp2
        go_region_held_law (fun w' => w'.cell? ⟨w.heap.size, 0, none⟩ = some (.int .u64 D) ∧ w'.cell? ⟨w.heap.size, 1, none⟩ = some (.int .u64 S) ∧ w'.cell? ⟨w.heap.size, 3, none⟩ = some (.slice (some ⟨b, off, none⟩) n c) ∧
              w'.cell? ⟨b, off, none⟩ = some (.int .u8 x0) ∧ w'.cell? ⟨b, off + 1, none⟩ = some (.int .u8 x1) ∧ w'.cell? ⟨b, off + 2, none⟩ = some (.int .u8 x2) ∧ w'.cell? ⟨b, off + 3, none⟩ = some (.int .u8 x3) ∧
              Below (w.alloc (.cells #[.int .u64 D, .int .u64 S, .int .i64 33024, .slice (some ⟨b, off, none⟩) n c] 25)).heap.size (w.alloc (.cells #[.int .u64 D, .int .u64 S, .int .i64 33024, .slice (some ⟨b, off, none⟩) n c] 25)) w')
            (first | exact K.out _ ((((hb4.setCell hs _).setCell hs _).setCell hs _).setCell hs _) | exact K.out _ hb4 | exact K.out _ ((below_drewN B0.out 3).alloc (by simp) _) | exact K.out _ (below_drewN B0.out 3) | fail)
            ((refine step_bapp (by rfl) (.tmp 54) (.tmp 57) 23 (by rfl) (((w.alloc (.cells #[.int .u64 D, .int .u64 S, .int .i64 33024, .slice (some ⟨b, off, none⟩) n c] 25)).alloc (.cells #[.int .u64 0, .int .u64 0, .int .i64 0, .slice none 0 0] 25)).drewN 3).heap.size 5 i0 (.int .u8 0) 1 Try.underlying23 Hi.out Hz0.out Hz1.out Hz2.out rfl _ _ _ (by rfl) O0.out (some ⟨b, off + 4, none⟩) (n - 4) (c - 4) (l.drop 4) (by rfl) (((((HS.out.cut (k := 4) (by omega)).alloc _).alloc _).drewN 3).alloc _) (by unfold maxLen; omega) (by omega) (by simp) ?_; intro v1 w1 hown1 hgrow1; have hb1 := below_app R0.out O0.out hgrow1; simp only [Nat.zero_add, List.nil_append] at hown1; obtain ⟨A3, c3, rfl⟩ := own_shape hown1; obtain ⟨p3, q3⟩ := bcell hb1; have hb4 := Below.drawn B0.out 3 hb1; have hs : (w.alloc (.cells #[.int .u64 D, .int .u64 S, .int .i64 33024, .slice (some ⟨b, off, none⟩) n c] 25)).heap.size ≤ w.heap.size + 1 := by { simp }; have e1 := fun o => p3 (w.heap.size + 1) o HZ.out))
        go_wp2
        exact bodyPost_ret (v := .tuple #[.agg #[.int .u64 D, .int .u64 S, .int .i64 Y, .slice A3 (n - 4) c3], .int .i64 (X % 4096), .int .i64 (X / 4096), .int .i64 0]) (by simp [results, Try.results9, go_sem, e1]) rfl
          ⟨fun h => absurd h (by omega), fun _ => ⟨A3, (n - 4), c3, rfl, BSl.of_own (own_far (own_far (own_far (own_far hown1 HZ.out _) HZ.out _) HZ.out _) HZ.out _),
            ((((HB.out _ hb4).setCell (Nat.le_succ _) _).setCell (Nat.le_succ _) _).setCell (Nat.le_succ _) _).setCell (Nat.le_succ _) _⟩⟩
end Go.Proofs.Ytojkcejpihomhaa
