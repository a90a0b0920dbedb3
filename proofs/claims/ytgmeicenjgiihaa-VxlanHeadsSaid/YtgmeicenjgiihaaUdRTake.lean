/- The contract of palingref08.Take. -/
import Derived.Test.YtgmeicenjgiihaaUdTake
import Derived.Deep.QuietTactic
import Derived.BigRegion
namespace Go.Proofs.Ytgmeicenjgiihaa
open Go.RowKit
open Go.Lib (byteCells)

set_option maxHeartbeats 1000000 in
theorem rutake_no (A : Option Addr) (n c : Nat) (l : List UInt8) (w : World) (h : BSl w A n c l) (hE : ¬ udE l = 0) :
    Calls Try.prog 39 #[.slice A n c] w (GotU w 0 0 [] (udE l)) := by
  have hl := h.len
  by_cases h8 : n < 8
  · have E := Lib.hid (udE_short (l := l) (by omega))
    clear h hE
    generalize udE l = e at *
    go_enter Try.func39, Try.ntmps39
    go_wp2
    exact bodyPost_ret (v := .tuple #[.int .i64 0, .int .i64 0, .slice none 0 0, .int .i64 10]) (by simp [results, Try.results39, go_sem]) rfl ⟨none, 0, 0, by rw [E.out], BSl.nil, Below.refl _ _⟩
  · obtain ⟨b, off, rfl, hb, hc⟩ := h.at_ (by omega)
    have E1 := Lib.hid (udE_form (l := l) (by omega))
    have E2 := Lib.hid (udE_less (l := l) (by omega))
    have E3 := Lib.hid (udE_sum (l := l) (by omega))
    have E4 := Lib.hid (udE_ok (l := l) (by omega))
    have EZ := Lib.hid hE
    rw [hl] at E2 E3 E4
    have c4 := hc 4 (by omega)
    have c5 := hc 5 (by omega)
    have c6 := hc 6 (by omega)
    have c7 := hc 7 (by omega)
    have x0 := bat_lo l 4
    have x1 := bat_hi l 4
    have y0 := bat_lo l 5
    have y1 := bat_hi l 5
    have z0 := bat_lo l 6
    have z1 := bat_hi l 6
    have v0 := bat_lo l 7
    have v1 := bat_hi l 7
    have T4 : two l 4 = bat l 4 * 256 + bat l 5 := rfl
    have T6 : two l 6 = bat l 6 * 256 + bat l 7 := rfl
    rw [T4] at E1 E2 E3 E4
    rw [T6] at E3 E4
    generalize udE l = u at *
    generalize bat l 4 = x at *
    generalize bat l 5 = y at *
    generalize bat l 6 = z at *
    generalize bat l 7 = v at *
    have j1 : (4 : Int) < (n : Int) := by omega
    have j2 : (5 : Int) < (n : Int) := by omega
    have d1 : IntKind.i64.wrap x = x := IntWalk.i64_in _ (by omega)
    have d2 : IntKind.i64.wrap (x * 256) = x * 256 := IntWalk.i64_in _ (by omega)
    have d3 : IntKind.i64.wrap y = y := IntWalk.i64_in _ (by omega)
    have d4 : IntKind.i64.wrap (x * 256 + y) = x * 256 + y := IntWalk.i64_in _ (by omega)
    clear h hc T4 T6 hE hl
    by_cases h1 : x * 256 + y < 8
    · have F := Lib.hid (E1.out h1)
      clear E1 E2 E3 E4 EZ c6 c7
      go_enter Try.func39, Try.ntmps39
      go_wp2
      go_quiet (fail)
      go_wp2
      exact bodyPost_ret (v := .tuple #[.int .i64 0, .int .i64 0, .slice none 0 0, .int .i64 11]) (by simp [results, Try.results39, go_sem]) rfl ⟨none, 0, 0, by rw [F.out], BSl.nil, below_drewN (Below.refl _ _) _⟩
    · by_cases h2 : (n : Int) < x * 256 + y
      · have F := Lib.hid (E2.out h1 h2)
        clear E1 E2 E3 E4 EZ c6 c7
        go_enter Try.func39, Try.ntmps39
        go_wp2
        go_quiet (fail)
        go_wp2
        exact bodyPost_ret (v := .tuple #[.int .i64 0, .int .i64 0, .slice none 0 0, .int .i64 10]) (by simp [results, Try.results39, go_sem]) rfl ⟨none, 0, 0, by rw [F.out], BSl.nil, below_drewN (Below.refl _ _) _⟩
      · have F := Lib.hid (E3.out h1 h2 (fun e => EZ.out (E4.out h1 h2 e)))
        by_cases h3 : z = 0
        · have h4 : ¬ v = 0 := fun e => EZ.out (E4.out h1 h2 (by omega))
          subst h3
          clear E1 E2 E3 E4 EZ
          go_enter Try.func39, Try.ntmps39
          go_wp2
          go_quiet (fail)
          go_wp2
          exact bodyPost_ret (v := .tuple #[.int .i64 0, .int .i64 0, .slice none 0 0, .int .i64 12]) (by simp [results, Try.results39, go_sem]) rfl ⟨none, 0, 0, by rw [F.out], BSl.nil, below_drewN (Below.refl _ _) _⟩
        · clear E1 E2 E3 E4 EZ
          go_enter Try.func39, Try.ntmps39
          go_wp2
          go_quiet (fail)
          go_wp2
          exact bodyPost_ret (v := .tuple #[.int .i64 0, .int .i64 0, .slice none 0 0, .int .i64 12]) (by simp [results, Try.results39, go_sem]) rfl ⟨none, 0, 0, by rw [F.out], BSl.nil, below_drewN (Below.refl _ _) _⟩

/-- four cells of a block that was there, and what was there is as it was -/
def Seen4 (w : World) (b off : Nat) (x0 x1 x2 x3 : Int) (w' : World) : Prop := w'.cell? ⟨b, off, none⟩ = some (.int .u8 x0) ∧ w'.cell? ⟨b, off + 1, none⟩ = some (.int .u8 x1) ∧ w'.cell? ⟨b, off + 2, none⟩ = some (.int .u8 x2) ∧ w'.cell? ⟨b, off + 3, none⟩ = some (.int .u8 x3) ∧ Below w.heap.size w w'
set_option maxRecDepth 20000 in
set_option maxHeartbeats 2000000 in
theorem rutake_ok (A : Option Addr) (n c : Nat) (l : List UInt8) (w : World) (h : BSl w A n c l) (hn : n ≤ 1000000) (hE : udE l = 0) :
    Calls Try.prog 39 #[.slice A n c] w (GotU w (two l 0) (two l 2) (udB l) 0) := by
  obtain ⟨i0, hi, hz0, hz1, hz2⟩ := info_parts Try.info5
  have Hi := Lib.hid hi; have Hz0 := Lib.hid hz0; have Hz1 := Lib.hid hz1; have Hz2 := Lib.hid hz2
  clear hi hz0 hz1 hz2
  have hl := h.len
  have hle := h.le
  obtain ⟨h8, m0, m1, h6⟩ := udE_zero hE
  rw [hl] at h8 m1
  obtain ⟨m, hm⟩ : ∃ m : Nat, two l 4 = (m : Int) := ⟨(two l 4).toNat, by omega⟩
  have BF := Lib.hid (udB_eq hm)
  obtain ⟨M, hM⟩ : ∃ M : Int, (m : Int) = M := ⟨_, rfl⟩
  obtain ⟨b, off, rfl, hb, hc⟩ := h.at_ (by omega)
  have HS := Lib.hid h
  have c0 : w.cell? ⟨b, off, none⟩ = some (.int .u8 (bat l 0)) := hc 0 (by omega)
  have c1 := hc 1 (by omega)
  have c2 := hc 2 (by omega)
  have c3 := hc 3 (by omega)
  have c4 := hc 4 (by omega)
  have c5 := hc 5 (by omega)
  have c6 := hc 6 (by omega)
  have c7 := hc 7 (by omega)
  have a0 := bat_lo l 0; have a1 := bat_hi l 0; have a2 := bat_lo l 1; have a3 := bat_hi l 1
  have a4 := bat_lo l 2; have a5 := bat_hi l 2; have a6 := bat_lo l 3; have a7 := bat_hi l 3
  have x0 := bat_lo l 4; have x1 := bat_hi l 4; have y0 := bat_lo l 5; have y1 := bat_hi l 5
  have z0 := bat_lo l 6; have v0 := bat_lo l 7
  have T4 : bat l 4 * 256 + bat l 5 = M := hm.trans hM
  have T6 : bat l 6 * 256 + bat l 7 = 0 := h6
  have b6 : bat l 6 = 0 := by omega
  have b7 : bat l 7 = 0 := by omega
  rw [b6] at c6
  rw [b7] at c7
  have T0 := Lib.hid (show two l 0 = bat l 0 * 256 + bat l 1 from rfl)
  have T2 := Lib.hid (show two l 2 = bat l 2 * 256 + bat l 3 from rfl)
  rw [hm, hM] at m0 m1
  clear h hc hE hm h6 T6 b6 b7 z0 v0
  generalize two l 0 = r0 at *
  generalize two l 2 = r1 at *
  generalize bat l 0 = p0 at *
  generalize bat l 1 = p1 at *
  generalize bat l 2 = p2 at *
  generalize bat l 3 = p3 at *
  generalize bat l 4 = x at *
  generalize bat l 5 = y at *
  have j1 : (4 : Int) < (n : Int) := by omega
  have j2 : (5 : Int) < (n : Int) := by omega
  have k0 : (0 : Int) < (n : Int) := by omega
  have k1 : (1 : Int) < (n : Int) := by omega
  have k2 : (2 : Int) < (n : Int) := by omega
  have k3 : (3 : Int) < (n : Int) := by omega
  have d1 : IntKind.i64.wrap x = x := IntWalk.i64_in _ (by omega)
  have d2 : IntKind.i64.wrap (x * 256) = x * 256 := IntWalk.i64_in _ (by omega)
  have d3 : IntKind.i64.wrap y = y := IntWalk.i64_in _ (by omega)
  have d4 : IntKind.i64.wrap (x * 256 + y) = x * 256 + y := IntWalk.i64_in _ (by omega)
  have d5 : IntKind.i64.wrap p0 = p0 := IntWalk.i64_in _ (by omega)
  have d6 : IntKind.i64.wrap (p0 * 256) = p0 * 256 := IntWalk.i64_in _ (by omega)
  have d7 : IntKind.i64.wrap p1 = p1 := IntWalk.i64_in _ (by omega)
  have d8 : IntKind.i64.wrap (p0 * 256 + p1) = p0 * 256 + p1 := IntWalk.i64_in _ (by omega)
  have d9 : IntKind.i64.wrap p2 = p2 := IntWalk.i64_in _ (by omega)
  have g1 : IntKind.i64.wrap (p2 * 256) = p2 * 256 := IntWalk.i64_in _ (by omega)
  have g2 : IntKind.i64.wrap p3 = p3 := IntWalk.i64_in _ (by omega)
  have g3 : IntKind.i64.wrap (p2 * 256 + p3) = p2 * 256 + p3 := IntWalk.i64_in _ (by omega)
  have HW := Lib.hid (show ∀ w', Below w.heap.size w w' → w'.cell? ⟨b, off, none⟩ = some (.int .u8 p0) ∧ w'.cell? ⟨b, off + 1, none⟩ = some (.int .u8 p1) ∧ w'.cell? ⟨b, off + 2, none⟩ = some (.int .u8 p2) ∧ w'.cell? ⟨b, off + 3, none⟩ = some (.int .u8 p3) ∧ Below w.heap.size w w' from fun w' g =>
    ⟨(g.cell (p := ⟨b, off, none⟩) hb).trans c0, (g.cell (p := ⟨b, off + 1, none⟩) hb).trans c1, (g.cell (p := ⟨b, off + 2, none⟩) hb).trans c2, (g.cell (p := ⟨b, off + 3, none⟩) hb).trans c3, g⟩)
  by_cases hend : c ≤ 8
  · obtain rfl : c = 8 := by omega
    obtain rfl : n = 8 := by omega
    obtain rfl : m = 8 := by omega
    obtain rfl : M = 8 := by omega
    have EB := Lib.hid (show ∀ w', Below w.heap.size w w' → BSl w' (some ⟨b, off, none⟩) 0 0 ((l.drop 8).take (8 - 8)) from fun w' g => by
      have e : l.drop 8 = [] := List.drop_eq_nil_of_le (by omega)
      have := (HS.out.cut_end (b := b) (off := off) (k := 8) (by omega) (by omega)).below g
      rw [e] at this ⊢
      exact this)
    clear hl
    go_enter Try.func39, Try.ntmps39
    go_wp2
    go_quiet (fail)
    go_wp2
    have BQ := Lib.hid (show Below w.heap.size w (w.drewN nq) from below_drewN (Below.refl _ _) nq)
    generalize w.drewN nq = wq at *
    have B0 := Lib.hid (show Below w.heap.size w wq.drew from below_drewN BQ.out 1)
    have S0 := Lib.hid (EB.out _ B0.out)
    have B1 := Lib.hid (show Below w.heap.size w (wq.alloc (.cells #[] 5)).drew from B0.out.alloc B0.out.size _)
    have O0 := Lib.hid (show (wq.alloc (.cells #[] 5)).drew.ownsRow wq.drew.heap.size 5 1 (.slice (some ⟨wq.heap.size, 0, none⟩) 0 0) 0 [] from own_new wq.drew _ (Nat.le_refl _))
    have R0 := Lib.hid (show Below wq.drew.heap.size wq.drew (wq.alloc (.cells #[] 5)).drew from (Below.refl wq.drew.heap.size wq.drew).alloc (Nat.le_refl _) (.cells #[] 5))
    clear BQ
    go_region_held_law (fun w' => w'.cell? ⟨b, off, none⟩ = some (.int .u8 p0) ∧ w'.cell? ⟨b, off + 1, none⟩ = some (.int .u8 p1) ∧ w'.cell? ⟨b, off + 2, none⟩ = some (.int .u8 p2) ∧ w'.cell? ⟨b, off + 3, none⟩ = some (.int .u8 p3) ∧ Below w.heap.size w w')
      (first | with_reducible exact HW.out _ B0.out | with_reducible exact HW.out _ B1.out | exact HW.out _ (trans_below B0.out hb1) | fail)
      ((refine step_bapp (by rfl) (.tmp 56) (.tmp 59) 22 (by rfl) wq.drew.heap.size 5 i0 (.int .u8 0) 1 Try.underlying22 Hi.out Hz0.out Hz1.out Hz2.out rfl _ _ _ (by rfl) O0.out (some ⟨b, off, none⟩) (0) (0) _ (by rfl) (S0.out.alloc _) (by unfold maxLen; omega) (by omega) (by simp) ?_; intro v1 w1 hown1 hgrow1; have hb1 := below_app R0.out O0.out hgrow1; simp only [Nat.zero_add, List.nil_append] at hown1; obtain ⟨A1, c1, rfl⟩ := own_shape hown1; have O1 := Lib.hid hown1; clear hown1 hgrow1))
    all_goals
      go_wp2
      exact bodyPost_ret (v := .tuple #[.int .i64 (p0 * 256 + p1), .int .i64 (p2 * 256 + p3), .slice A1 (0) c1, .int .i64 0]) (by simp [results, Try.results39, go_sem]) rfl ⟨A1, 0, c1, by rw [T0.out, T2.out], by rw [BF.out]; exact BSl.of_own O1.out, trans_below B0.out hb1⟩
  · subst hM
    have m2 : (m : Int) ≤ (c : Int) := by omega
    have m3 : 8 ≤ m := by omega
    have m4 : m ≤ c := by omega
    have hne : ¬ c = 8 := by omega
    have m5 : (8 : Int) ≤ (c : Int) := by omega
    have m6 : 8 ≤ c := by omega
    go_enter Try.func39, Try.ntmps39
    go_wp2
    go_quiet (fail)
    go_wp2
    have BQ := Lib.hid (show Below w.heap.size w (w.drewN nq) from below_drewN (Below.refl _ _) nq)
    generalize w.drewN nq = wq at *
    have B0 := Lib.hid (show Below w.heap.size w wq.drew from below_drewN BQ.out 1)
    have S0 := Lib.hid ((HS.out.below B0.out).sub 8 (m - 8) (by omega))
    have B1 := Lib.hid (show Below w.heap.size w (wq.alloc (.cells #[] 5)).drew from B0.out.alloc B0.out.size _)
    have O0 := Lib.hid (show (wq.alloc (.cells #[] 5)).drew.ownsRow wq.drew.heap.size 5 1 (.slice (some ⟨wq.heap.size, 0, none⟩) 0 0) 0 [] from own_new wq.drew _ (Nat.le_refl _))
    have R0 := Lib.hid (show Below wq.drew.heap.size wq.drew (wq.alloc (.cells #[] 5)).drew from (Below.refl wq.drew.heap.size wq.drew).alloc (Nat.le_refl _) (.cells #[] 5))
    clear BQ
    go_region_held_law (fun w' => w'.cell? ⟨b, off, none⟩ = some (.int .u8 p0) ∧ w'.cell? ⟨b, off + 1, none⟩ = some (.int .u8 p1) ∧ w'.cell? ⟨b, off + 2, none⟩ = some (.int .u8 p2) ∧ w'.cell? ⟨b, off + 3, none⟩ = some (.int .u8 p3) ∧ Below w.heap.size w w')
      (first | with_reducible exact HW.out _ B0.out | with_reducible exact HW.out _ B1.out | exact HW.out _ (trans_below B0.out hb1) | fail)
      ((refine step_bapp (by rfl) (.tmp 56) (.tmp 59) 22 (by rfl) wq.drew.heap.size 5 i0 (.int .u8 0) 1 Try.underlying22 Hi.out Hz0.out Hz1.out Hz2.out rfl _ _ _ (by rfl) O0.out (some ⟨b, off + 8, none⟩) (m - 8) (c - 8) _ (by rfl) (S0.out.alloc _) (by unfold maxLen; omega) (by omega) (by simp) ?_; intro v1 w1 hown1 hgrow1; have hb1 := below_app R0.out O0.out hgrow1; simp only [Nat.zero_add, List.nil_append] at hown1; obtain ⟨A1, c1, rfl⟩ := own_shape hown1; have O1 := Lib.hid hown1; clear hown1 hgrow1))
    all_goals
      go_wp2
      exact bodyPost_ret (v := .tuple #[.int .i64 (p0 * 256 + p1), .int .i64 (p2 * 256 + p3), .slice A1 (m - 8) c1, .int .i64 0]) (by simp [results, Try.results39, go_sem]) rfl ⟨A1, m - 8, c1, by rw [T0.out, T2.out], by rw [BF.out]; exact BSl.of_own O1.out, trans_below B0.out hb1⟩
theorem rutake_any (A : Option Addr) (n c : Nat) (l : List UInt8) (w : World) (h : BSl w A n c l) (hn : n ≤ 1000000) : Calls Try.prog 39 #[.slice A n c] w (GotUTake w l) := by
  unfold GotUTake
  by_cases hE : udE l = 0
  · rw [hE]
    exact rutake_ok A n c l w h hn hE
  · rw [oi_no hE, oi_no hE, ol_no hE]
    exact rutake_no A n c l w h hE
end Go.Proofs.Ytgmeicenjgiihaa
