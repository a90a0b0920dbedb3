/- The contract of palingref04.Take. -/
import Derived.Test.YtgmeicenjgiihaaFtk
namespace Go.Proofs.Ytgmeicenjgiihaa
open Go.RowKit
open Go.Lib (byteCells)

theorem frtake_short (A : Option Addr) (n c : Nat) (w : World) (h : n < 14) :
    Calls Try.prog 37 #[.slice A n c] w fun e w' => e = .returned (.tuple #[.agg #[.int .u64 0, .int .u64 0, .int .i64 0, .slice none 0 0], .int .i64 10]) ∧ Below w.heap.size w w' := by
  go_enter Try.func37, Try.ntmps37
  go_wp2
  exact bodyPost_ret (v := .tuple #[.agg #[.int .u64 0, .int .u64 0, .int .i64 0, .slice none 0 0], .int .i64 10]) (by simp [results, Try.results37, go_sem]) rfl ⟨rfl, (Below.refl _ _).alloc (Nat.le_refl _) _⟩
theorem frtake_long (A : Option Addr) (n c : Nat) (w : World) (h : 1518 < n) :
    Calls Try.prog 37 #[.slice A n c] w fun e w' => e = .returned (.tuple #[.agg #[.int .u64 0, .int .u64 0, .int .i64 0, .slice none 0 0], .int .i64 14]) ∧ Below w.heap.size w w' := by
  go_enter Try.func37, Try.ntmps37
  go_wp2
  exact bodyPost_ret (v := .tuple #[.agg #[.int .u64 0, .int .u64 0, .int .i64 0, .slice none 0 0], .int .i64 14]) (by simp [results, Try.results37, go_sem]) rfl ⟨rfl, (Below.refl _ _).alloc (Nat.le_refl _) _⟩

/-- two cells of a block that was there, and what was there is as it was -/
def Seen (w : World) (b i j : Nat) (u v : Value) (w' : World) : Prop := w'.cell? ⟨b, i, none⟩ = some u ∧ w'.cell? ⟨b, j, none⟩ = some v ∧ Below w.heap.size w w'
theorem Seen.of {w w' : World} {b i j : Nat} {u v : Value} (hb : b < w.heap.size) (h0 : w.cell? ⟨b, i, none⟩ = some u) (h1 : w.cell? ⟨b, j, none⟩ = some v) (h : Below w.heap.size w w') : Seen w b i j u v w' :=
  ⟨(h.cell (p := ⟨b, i, none⟩) hb).trans h0, (h.cell (p := ⟨b, j, none⟩) hb).trans h1, h⟩

set_option maxRecDepth 20000 in
set_option maxHeartbeats 2000000 in
theorem frtake_mid (A : Option Addr) (n c : Nat) (l : List UInt8) (w : World) (h : BSl w A n c l) (h0 : 14 ≤ n) (h1 : n ≤ 1518) :
    Calls Try.prog 37 #[.slice A n c] w fun e w' => ∃ A' c', e = .returned (.tuple #[.agg #[.int .u64 (mbAt l 0), .int .u64 (mbAt l 6), .int .i64 (two l 12), .slice A' (n - 14) c'], .int .i64 0]) ∧
      w'.ownsRow w.heap.size 5 1 (.slice A' (n - 14) c') (n - 14) (byteCells (l.drop 14)) ∧ Below w.heap.size w w' := by
  obtain ⟨i0, hi, hz0, hz1, hz2⟩ := info_parts Try.info5
  have Hi := Lib.hid hi; have Hz0 := Lib.hid hz0; have Hz1 := Lib.hid hz1; have Hz2 := Lib.hid hz2
  clear hi hz0 hz1 hz2
  have hle := h.le
  have hcap := h.cap
  obtain ⟨b, off, rfl, hb, hc⟩ := h.at_ (by omega)
  have H := Lib.hid h
  have c0 := hc 12 (by omega)
  have c1 := hc 13 (by omega)
  have x0 := bat_lo l 12
  have x1 := bat_hi l 12
  have y0 := bat_lo l 13
  have y1 := bat_hi l 13
  have E := Lib.hid (show two l 12 = bat l 12 * 256 + bat l 13 from rfl)
  generalize bat l 12 = x at x0 x1 c0 E
  generalize bat l 13 = y at y0 y1 c1 E
  have hw : ∀ w', Below w.heap.size w w' → Seen w b (off + 12) (off + 13) (.int .u8 x) (.int .u8 y) w' := fun w' hb' => Seen.of hb c0 c1 hb'
  have HW := Lib.hid hw
  have hb0 := ((Below.refl w.heap.size w).alloc (Nat.le_refl _) (.cells #[.int .u64 0, .int .u64 0, .int .i64 0, .slice none 0 0] 37))
  have B0 := Lib.hid (below_drewN hb0 1)
  have R0 := Lib.hid ((Below.refl ((w.alloc (.cells #[.int .u64 0, .int .u64 0, .int .i64 0, .slice none 0 0] 37)).drewN 1).heap.size ((w.alloc (.cells #[.int .u64 0, .int .u64 0, .int .i64 0, .slice none 0 0] 37)).drewN 1)).alloc (Nat.le_refl _) (.cells #[] 5))
  have O0 := Lib.hid (show (((w.alloc (.cells #[.int .u64 0, .int .u64 0, .int .i64 0, .slice none 0 0] 37)).drewN 1).alloc (.cells #[] 5)).ownsRow ((w.alloc (.cells #[.int .u64 0, .int .u64 0, .int .i64 0, .slice none 0 0] 37)).drewN 1).heap.size 5 1 (.slice (some ⟨w.heap.size + 1, 0, none⟩) 0 0) 0 [] by
    have := own_new ((w.alloc (.cells #[.int .u64 0, .int .u64 0, .int .i64 0, .slice none 0 0] 37)).drewN 1) ((w.alloc (.cells #[.int .u64 0, .int .u64 0, .int .i64 0, .slice none 0 0] 37)).drewN 1).heap.size (Nat.le_refl _)
    simpa using this)
  have d3 : IntKind.i64.wrap x = x := IntWalk.i64_in _ (by omega)
  have d4 : IntKind.i64.wrap (x * 256) = x * 256 := IntWalk.i64_in _ (by omega)
  have d1 : IntKind.i64.wrap y = y := IntWalk.i64_in _ (by omega)
  have d2 : IntKind.i64.wrap (x * 256 + y) = x * 256 + y := IntWalk.i64_in _ (by omega)
  have j1 : (12 : Int) < (n : Int) := by omega
  have j2 : (13 : Int) < (n : Int) := by omega
  clear h hc hw c0 c1
  by_cases hend : c ≤ 14
  · obtain rfl : c = 14 := by omega
    obtain rfl : n = 14 := by omega
    have E0 := Lib.hid (show BSl w (some ⟨b, off, none⟩) 0 0 (l.drop 14) from H.out.cut_end (k := 14) (by omega) (by omega))
    go_enter Try.func37, Try.ntmps37
    go_wp2_with (first
      | (go_at_call 54; (with_reducible refine (refMtake_of _ 14 14 0 0 l _ rfl (H.out.alloc _) (by omega)).mono ?_); rintro e w' ⟨rfl, rfl⟩)
      | (go_at_call 54; (with_reducible refine (refMtake_of _ 14 14 6 6 l _ rfl (H.out.alloc _) (by omega)).mono ?_); rintro e w' ⟨rfl, rfl⟩))
    go_region_held_law (fun w' => w'.cell? ⟨b, off + 12, none⟩ = some (.int .u8 x) ∧ w'.cell? ⟨b, off + 13, none⟩ = some (.int .u8 y) ∧ Below w.heap.size w w') (first | exact HW.out _ (Below.drawn hb0 1 hb1) | exact HW.out _ B0.out | exact HW.out _ (B0.out.alloc B0.out.size _) | exact HW.out _ (((((Below.drawn hb0 1 hb1).setCell (Nat.le_refl _) _).setCell (Nat.le_refl _) _).setCell (Nat.le_refl _) _).setCell (Nat.le_refl _) _) | fail)
      ((refine step_bapp (by rfl) (.tmp 38) (.tmp 40) 22 (by rfl) ((w.alloc (.cells #[.int .u64 0, .int .u64 0, .int .i64 0, .slice none 0 0] 37)).drewN 1).heap.size 5 i0 (.int .u8 0) 1 Try.underlying22 Hi.out Hz0.out Hz1.out Hz2.out rfl _ _ _ (by rfl) O0.out (some ⟨b, off, none⟩) 0 0 (l.drop 14) (by rfl) (((E0.out.alloc _).drewN 1).alloc _) (by unfold maxLen; omega) (by omega) (by simp) ?_; intro v1 w1 hown1 hgrow1; have hb1 := below_app R0.out O0.out hgrow1; simp only [Nat.zero_add, List.nil_append] at hown1; obtain ⟨A', c', rfl⟩ := own_shape hown1; obtain ⟨hc3, hf3⟩ := bcell hb1))
    all_goals
      go_wp2
      exact bodyPost_ret (v := .tuple #[.agg #[.int .u64 (mbAt l 0), .int .u64 (mbAt l 6), .int .i64 (x * 256 + y), .slice A' 0 c'], .int .i64 0]) (by simp [results, Try.results37, go_sem, hc3]) rfl
        ⟨A', c', by rw [E.out], own_base (own_far (own_far (own_far (own_far hown1 (by simp) _) (by simp) _) (by simp) _) (by simp) _) (by simp), ((((Below.drawn hb0 1 hb1).setCell (Nat.le_refl _) _).setCell (Nat.le_refl _) _).setCell (Nat.le_refl _) _).setCell (Nat.le_refl _) _⟩
  · have hne : ¬ c = 14 := by omega
    go_enter Try.func37, Try.ntmps37
    go_wp2_with (first
      | (go_at_call 54; (with_reducible refine (refMtake_of _ n c 0 0 l _ rfl (H.out.alloc _) (by omega)).mono ?_); rintro e w' ⟨rfl, rfl⟩)
      | (go_at_call 54; (with_reducible refine (refMtake_of _ n c 6 6 l _ rfl (H.out.alloc _) (by omega)).mono ?_); rintro e w' ⟨rfl, rfl⟩))
    go_region_held_law (fun w' => w'.cell? ⟨b, off + 12, none⟩ = some (.int .u8 x) ∧ w'.cell? ⟨b, off + 13, none⟩ = some (.int .u8 y) ∧ Below w.heap.size w w') (first | exact HW.out _ (Below.drawn hb0 1 hb1) | exact HW.out _ B0.out | exact HW.out _ (B0.out.alloc B0.out.size _) | exact HW.out _ (((((Below.drawn hb0 1 hb1).setCell (Nat.le_refl _) _).setCell (Nat.le_refl _) _).setCell (Nat.le_refl _) _).setCell (Nat.le_refl _) _) | fail)
      ((refine step_bapp (by rfl) (.tmp 38) (.tmp 40) 22 (by rfl) ((w.alloc (.cells #[.int .u64 0, .int .u64 0, .int .i64 0, .slice none 0 0] 37)).drewN 1).heap.size 5 i0 (.int .u8 0) 1 Try.underlying22 Hi.out Hz0.out Hz1.out Hz2.out rfl _ _ _ (by rfl) O0.out (some ⟨b, off + 14, none⟩) (n - 14) (c - 14) (l.drop 14) (by rfl) ((((H.out.cut (by omega)).alloc _).drewN 1).alloc _) (by unfold maxLen; omega) (by omega) (by simp) ?_; intro v1 w1 hown1 hgrow1; have hb1 := below_app R0.out O0.out hgrow1; simp only [Nat.zero_add, List.nil_append] at hown1; obtain ⟨A', c', rfl⟩ := own_shape hown1; obtain ⟨hc3, hf3⟩ := bcell hb1))
    all_goals
      go_wp2
      exact bodyPost_ret (v := .tuple #[.agg #[.int .u64 (mbAt l 0), .int .u64 (mbAt l 6), .int .i64 (x * 256 + y), .slice A' (n - 14) c'], .int .i64 0]) (by simp [results, Try.results37, go_sem, hc3]) rfl
        ⟨A', c', by rw [E.out], own_base (own_far (own_far (own_far (own_far hown1 (by simp) _) (by simp) _) (by simp) _) (by simp) _) (by simp), ((((Below.drawn hb0 1 hb1).setCell (Nat.le_refl _) _).setCell (Nat.le_refl _) _).setCell (Nat.le_refl _) _).setCell (Nat.le_refl _) _⟩
end Go.Proofs.Ytgmeicenjgiihaa
