/- The contract of udp.Take. -/
import Derived.Test.YtgmeicenjgiihaaUdWrite
import Derived.Test.YtgmeicenjgiihaaBsl
namespace Go.Proofs.Ytgmeicenjgiihaa
open Go.RowKit
open Go.Lib (byteCells)

/-- two ports, a body and a number, as a call returns them -/
def GotU (w : World) (S D : Int) (l : List UInt8) (E : Int) (e : Ending) (w' : World) : Prop := ∃ A n c, e = .returned (.tuple #[.int .i64 S, .int .i64 D, .slice A n c, .int .i64 E]) ∧ BSl w' A n c l ∧ Below w.heap.size w w'
/-- what Take comes to -/
def GotUTake (w : World) (l : List UInt8) : Ending → World → Prop := GotU w (oi (udE l) (two l 0)) (oi (udE l) (two l 2)) (ol (udE l) (udB l)) (udE l)
theorem udR_udE {l : List UInt8} (h : ¬ l.length < 8) : udR (two l 4) (two l 6) l.length = udE l := by
  unfold udR udE
  rw [if_neg h]

theorem utake_no (A : Option Addr) (n c : Nat) (l : List UInt8) (w : World) (h : BSl w A n c l) (hE : ¬ udE l = 0) :
    Calls Try.prog 53 #[.slice A n c] w (GotU w 0 0 [] (udE l)) := by
  have hl := h.len
  by_cases h8 : n < 8
  · have E := Lib.hid (udE_short (l := l) (by omega))
    clear h hE
    generalize udE l = e at *
    go_enter Try.func53, Try.ntmps53
    go_wp2
    exact bodyPost_ret (v := .tuple #[.int .i64 0, .int .i64 0, .slice none 0 0, .int .i64 10]) (by simp [results, Try.results53, go_sem]) rfl ⟨none, 0, 0, by rw [E.out], BSl.nil, Below.refl _ _⟩
  · obtain ⟨r0, h0⟩ : ∃ x, two l 0 = x := ⟨_, rfl⟩
    obtain ⟨r1, h1⟩ : ∃ x, two l 2 = x := ⟨_, rfl⟩
    obtain ⟨r2, h2⟩ : ∃ x, two l 4 = x := ⟨_, rfl⟩
    obtain ⟨r3, h3⟩ : ∃ x, two l 6 = x := ⟨_, rfl⟩
    have RD := Lib.hid (uread_any A n c l w h (by omega) r0 r1 r2 r3 h0 h1 h2 h3)
    have E : udR r2 r3 n = udE l := by rw [← hl, ← h2, ← h3]; exact udR_udE (by omega)
    have RF := Lib.hid (fun w => urefused_any r0 r1 r2 r3 n w)
    rw [E] at RF
    generalize udE l = u at *
    clear h E h0 h1 h2 h3
    go_enter Try.func53, Try.ntmps53
    go_wp2_with (first
      | (go_at_call 64; (with_reducible refine (RD.out).mono ?_); rintro e w1 ⟨rfl, hb1⟩)
      | (go_at_call 65; (with_reducible refine (RF.out _).mono ?_); rintro e w2 ⟨rfl, hb2⟩))
    exact bodyPost_ret (v := .tuple #[.int .i64 0, .int .i64 0, .slice none 0 0, .int .i64 u]) (by simp [results, Try.results53, go_sem]) rfl ⟨none, 0, 0, rfl, BSl.nil, trans_below hb1 (one_below hb2)⟩

set_option maxHeartbeats 2000000 in
theorem utake_ok (A : Option Addr) (n c : Nat) (l : List UInt8) (w : World) (h : BSl w A n c l) (hn : n ≤ 1000000) (hE : udE l = 0) :
    Calls Try.prog 53 #[.slice A n c] w (GotU w (two l 0) (two l 2) (udB l) 0) := by
  have hl := h.len
  have hle := h.le
  obtain ⟨h8, m0, m1, _⟩ := udE_zero hE
  rw [hl] at h8 m1
  obtain ⟨m, hm⟩ : ∃ m : Nat, two l 4 = (m : Int) := ⟨(two l 4).toNat, by omega⟩
  obtain ⟨M, hM⟩ : ∃ M : Int, (m : Int) = M := ⟨_, rfl⟩
  have BF := Lib.hid (udB_eq hm)
  obtain ⟨r0, h0⟩ : ∃ x, two l 0 = x := ⟨_, rfl⟩
  obtain ⟨r1, h1⟩ : ∃ x, two l 2 = x := ⟨_, rfl⟩
  obtain ⟨r3, h3⟩ : ∃ x, two l 6 = x := ⟨_, rfl⟩
  obtain ⟨b, off, rfl, hb, hc⟩ := h.at_ (by omega)
  have RD := Lib.hid (uread_any _ n c l w h (by omega) r0 r1 M r3 h0 h1 (hm.trans hM) h3)
  have E : udR M r3 n = 0 := by rw [← hE, ← hl, ← hM, ← hm, ← h3]; exact udR_udE (by omega)
  have RF := Lib.hid (fun w => urefused_any r0 r1 M r3 n w)
  rw [E] at RF
  rw [hm] at m0 m1
  have HS := Lib.hid h
  rw [h0, h1]
  have i2 : 8 ≤ m := by omega
  have i3 : m ≤ c := by omega
  clear h hc hE hm h0 h1 h3 E
  have KB := Lib.hid (fun (w1 w2 : World) (hb : Below (w1.alloc (.cells #[.int .i64 r0, .int .i64 r1, .int .i64 M, .int .i64 r3] 83)).heap.size (w1.alloc (.cells #[.int .i64 r0, .int .i64 r1, .int .i64 M, .int .i64 r3] 83)) w2) =>
    (show w2.cell? ⟨w1.heap.size, 0, none⟩ = some (.int .i64 r0) ∧ w2.cell? ⟨w1.heap.size, 1, none⟩ = some (.int .i64 r1) ∧ w2.cell? ⟨w1.heap.size, 2, none⟩ = some (.int .i64 M) ∧ Below (w1.alloc (.cells #[.int .i64 r0, .int .i64 r1, .int .i64 M, .int .i64 r3] 83)).heap.size (w1.alloc (.cells #[.int .i64 r0, .int .i64 r1, .int .i64 M, .int .i64 r3] 83)) w2 from by
      have hz : w1.heap.size < (w1.alloc (.cells #[.int .i64 r0, .int .i64 r1, .int .i64 M, .int .i64 r3] 83)).heap.size := by simp
      refine ⟨?_, ?_, ?_, hb⟩
      · rw [hb.cell (p := ⟨w1.heap.size, 0, none⟩) hz]; simp
      · rw [hb.cell (p := ⟨w1.heap.size, 1, none⟩) hz]; simp
      · rw [hb.cell (p := ⟨w1.heap.size, 2, none⟩) hz]; simp))
  by_cases hend : c ≤ 8
  · obtain rfl : c = 8 := by omega
    obtain rfl : n = 8 := by omega
    obtain rfl : m = 8 := by omega
    obtain rfl : M = 8 := by omega
    have EB := Lib.hid (show ∀ w', Below w.heap.size w w' → BSl w' (some ⟨b, off, none⟩) 0 0 ((l.drop 8).take (8 - 8)) from fun w' g => by
      have e : l.drop 8 = [] := List.drop_eq_nil_of_le (by omega)
      have := (HS.out.cut_end (b := b) (off := off) (k := 8) (by omega) (by omega)).below g
      rw [e] at this ⊢
      exact this)
    have RF2 := Lib.hid (show ∀ w, Calls Try.prog 65 #[.agg #[.int .i64 r0, .int .i64 r1, .int .i64 8, .int .i64 r3], .int .i64 8] w fun e w' => e = .returned (.int .i64 0) ∧ Below w.heap.size w w' from RF.out)
    clear hl RF
    go_enter Try.func53, Try.ntmps53
    go_wp2_with (first
      | (go_at_call 64; (with_reducible refine (RD.out).mono ?_); rintro e w1 ⟨rfl, hb1⟩)
      | (go_at_call 65; (with_reducible refine (RF2.out _).mono ?_); rintro e w2 ⟨rfl, hb2⟩))
    have hS := KB.out w1 w2.drew (below_drewN hb2 1)
    have B2 := Lib.hid (show Below w.heap.size w w2.drew from below_drewN (trans_below hb1 (one_below hb2)) 1)
    have K2 := Lib.hid hb2
    clear hb2
    go_region_held_law (fun w' => w'.cell? ⟨w1.heap.size, 0, none⟩ = some (.int .i64 r0) ∧ w'.cell? ⟨w1.heap.size, 1, none⟩ = some (.int .i64 r1) ∧ w'.cell? ⟨w1.heap.size, 2, none⟩ = some (.int .i64 8) ∧ Below (w1.alloc (.cells #[.int .i64 r0, .int .i64 r1, .int .i64 8, .int .i64 r3] 83)).heap.size (w1.alloc (.cells #[.int .i64 r0, .int .i64 r1, .int .i64 8, .int .i64 r3] 83)) w')
      (first | with_reducible exact hS | exact KB.out w1 _ (trans_below (below_drewN K2.out 1) hb3) | fail)
      (first
        | (go_at_call 20; (with_reducible refine (clone_any _ _ _ _ _ (EB.out _ B2.out) (by omega)).mono ?_); rintro e w3 ⟨v3, rfl, hown3, hb3⟩; obtain ⟨A3, c3, rfl⟩ := own_shape hown3; have B3 := Lib.hid (trans_below B2.out hb3); have O3 := Lib.hid hown3; clear hown3))
    go_wp2
    exact bodyPost_ret (v := .tuple #[.int .i64 r0, .int .i64 r1, .slice A3 0 c3, .int .i64 0]) (by simp [results, Try.results53, go_sem]) rfl ⟨A3, 0, c3, rfl, by rw [BF.out]; exact BSl.of_own O3.out, B3.out⟩
  · subst hM
    have i0 : (8 : Int) ≤ (m : Int) := by omega
    have i1 : (m : Int) ≤ (c : Int) := by omega
    have hne : ¬ c = 8 := by omega
    have i5 : (8 : Int) ≤ (c : Int) := by omega
    have i6 : 8 ≤ c := by omega
    go_enter Try.func53, Try.ntmps53
    go_wp2_with (first
      | (go_at_call 64; (with_reducible refine (RD.out).mono ?_); rintro e w1 ⟨rfl, hb1⟩)
      | (go_at_call 65; (with_reducible refine (RF.out _).mono ?_); rintro e w2 ⟨rfl, hb2⟩))
    have hS := KB.out w1 w2.drew (below_drewN hb2 1)
    have B2 := Lib.hid (show Below w.heap.size w w2.drew from below_drewN (trans_below hb1 (one_below hb2)) 1)
    have H2 := Lib.hid ((HS.out.below B2.out).sub 8 (m - 8) (by omega))
    have K2 := Lib.hid hb2
    clear hb2
    go_region_held_law (fun w' => w'.cell? ⟨w1.heap.size, 0, none⟩ = some (.int .i64 r0) ∧ w'.cell? ⟨w1.heap.size, 1, none⟩ = some (.int .i64 r1) ∧ w'.cell? ⟨w1.heap.size, 2, none⟩ = some (.int .i64 m) ∧ Below (w1.alloc (.cells #[.int .i64 r0, .int .i64 r1, .int .i64 m, .int .i64 r3] 83)).heap.size (w1.alloc (.cells #[.int .i64 r0, .int .i64 r1, .int .i64 m, .int .i64 r3] 83)) w')
      (first | with_reducible exact hS | exact KB.out w1 _ (trans_below (below_drewN K2.out 1) hb3) | fail)
      (first
        | (go_at_call 20; (with_reducible refine (clone_any _ _ _ _ _ H2.out (by omega)).mono ?_); rintro e w3 ⟨v3, rfl, hown3, hb3⟩; obtain ⟨A3, c3, rfl⟩ := own_shape hown3; have B3 := Lib.hid (trans_below B2.out hb3); have O3 := Lib.hid hown3; clear hown3))
    go_wp2
    exact bodyPost_ret (v := .tuple #[.int .i64 r0, .int .i64 r1, .slice A3 (m - 8) c3, .int .i64 0]) (by simp [results, Try.results53, go_sem]) rfl ⟨A3, m - 8, c3, rfl, by rw [BF.out]; exact BSl.of_own O3.out, B3.out⟩
theorem utake_any (A : Option Addr) (n c : Nat) (l : List UInt8) (w : World) (h : BSl w A n c l) (hn : n ≤ 1000000) : Calls Try.prog 53 #[.slice A n c] w (GotUTake w l) := by
  unfold GotUTake
  by_cases hE : udE l = 0
  · rw [hE]
    exact utake_ok A n c l w h hn hE
  · rw [oi_no hE, oi_no hE, ol_no hE]
    exact utake_no A n c l w h hE
end Go.Proofs.Ytgmeicenjgiihaa
