/- bytes.Clone and ipv4.Hop of a body as great as the statement lets one be. -/
import Derived.Test.YtkeialkknepgaaaPkHop
namespace Go.Proofs.Ytkeialkknepgaaa
open Go.RowKit
open Go.Lib (byteCells)

set_option maxHeartbeats 1000000 in
theorem clone_big (A : Option Addr) (n c : Nat) (l : List UInt8) (w : World) (h : BSl w A n c l) (hn : n ≤ 140737488351232) :
    Calls Try.prog 21 #[.slice A n c] w fun e w' => ∃ v, e = .returned v ∧ w'.ownsRow w.heap.size 5 1 v n (byteCells l) ∧ Below w.heap.size w w' := by
  obtain ⟨i0, hi, hz0, hz1, hz2⟩ := info_parts Try.info5
  have Hi := Lib.hid hi; have Hz0 := Lib.hid hz0; have Hz1 := Lib.hid hz1; have Hz2 := Lib.hid hz2
  clear hi hz0 hz1 hz2
  rcases A with _ | ad
  · have hc := h.2 rfl
    have hle := h.le
    obtain rfl : n = 0 := by omega
    subst hc
    obtain rfl : l = [] := List.eq_nil_of_length_eq_zero h.len
    clear h hle
    have hq := Lib.run_eql_slice_nil (P := Try.prog) w 22 5 none 0 0 0 0 Try.underlying22
    go_enter Try.func21, Try.ntmps21
    go_wp2
    go_ret
    exact ⟨_, rfl, World.ownsRow_nil _ _ _ _, Below.refl _ _⟩
  · have HS := Lib.hid h
    clear h
    have hq := Lib.run_eql_slice_nil (P := Try.prog) w 22 5 (some ad) n c 0 0 Try.underlying22
    go_enter Try.func21, Try.ntmps21
    go_wp2_with (at_builtin; refine wpList_bapp rfl (.tmp 5) (.tmp 6) 22 rfl w.heap.size 5 i0 (.int .u8 0) 1 Try.underlying22 Hi.out Hz0.out Hz1.out Hz2.out rfl _ _ _ (by rfl) (own_new w w.heap.size (Nat.le_refl _)) (some ad) n c l (by rfl) (HS.out.alloc _) (by unfold maxLen; omega) (by omega) (by simp) ?_; intro v2 w2 hown2 hgrow2; simp only [Nat.zero_add, List.nil_append] at hown2; have B2 := below_app ((Below.refl w.heap.size w).alloc (Nat.le_refl _) _) (own_new w w.heap.size (Nat.le_refl _)) hgrow2)
    go_ret
    exact ⟨_, rfl, hown2, B2⟩
set_option maxHeartbeats 2000000 in
theorem phop_big_ok (T I L R S D : Int) (A : Option Addr) (n c : Nat) (l : List UInt8) (w : World) (hl : BSl w A n c l) (hn : n ≤ 140737488351232) (h : 1 < L) (hL : L ≤ 9223372036854775807) :
    Calls Try.prog 14 #[.agg #[.int .i64 T, .int .i64 I, .int .i64 L, .int .i64 R, .int .u32 S, .int .u32 D, .slice A n c]] w (GotP w T I (L - 1) R S D l 0) := by
  have HS := Lib.hid hl
  have hz : w.heap.size < w.heap.size + 1 + 1 := by omega
  have hz1 : w.heap.size < w.heap.size + 1 := by omega
  have BC := Lib.hid (show Below w.heap.size w ((w.alloc (.cells #[.int .i64 T, .int .i64 I, .int .i64 (L - 1), .int .i64 R, .int .u32 S, .int .u32 D, .slice A n c] 26)).alloc (.cells #[.int .i64 0, .int .i64 0, .int .i64 0, .int .i64 0, .int .u32 0, .int .u32 0, .slice none 0 0] 26)) from two_alloc _ _ _)
  have Q0 := Lib.hid (show w.heap.size < ((w.alloc (.cells #[.int .i64 T, .int .i64 I, .int .i64 (L - 1), .int .i64 R, .int .u32 S, .int .u32 D, .slice A n c] 26)).alloc (.cells #[.int .i64 0, .int .i64 0, .int .i64 0, .int .i64 0, .int .u32 0, .int .u32 0, .slice none 0 0] 26)).heap.size by simp; omega)
  have Q1 := Lib.hid (show w.heap.size + 1 < ((w.alloc (.cells #[.int .i64 T, .int .i64 I, .int .i64 (L - 1), .int .i64 R, .int .u32 S, .int .u32 D, .slice A n c] 26)).alloc (.cells #[.int .i64 0, .int .i64 0, .int .i64 0, .int .i64 0, .int .u32 0, .int .u32 0, .slice none 0 0] 26)).heap.size by simp)
  clear hl
  go_enter Try.func14, Try.ntmps14
  go_wp2_with (go_at_call 21; (with_reducible refine (clone_big A n c l _ (HS.out.below BC.out) hn).mono ?_); rintro e w2 ⟨v2, rfl, hown2, hb2⟩; obtain ⟨A2, c2, rfl⟩ := own_shape hown2; obtain ⟨k0, k1, k2, k3, k4, k5, k6, z0, z1, z2, z3, z4, z5, z6, g0, g1⟩ := hop_keep hb2; have B2 := Lib.hid (trans_below BC.out hb2); have O2 := Lib.hid hown2; have y0 : w.heap.size < w2.heap.size := Nat.lt_of_lt_of_le Q0.out hb2.size; have y1 : w.heap.size + 1 < w2.heap.size := Nat.lt_of_lt_of_le Q1.out hb2.size; clear hown2 hb2)
  have B3 : Below w.heap.size w (w2.setCell ⟨w.heap.size, 6, none⟩ (.slice A2 n c2)) := B2.out.setCell (Nat.le_refl _) _
  have Z7 : ∀ i, i < 7 → ∃ u, (w2.setCell ⟨w.heap.size, 6, none⟩ (.slice A2 n c2)).cell? ⟨w.heap.size + 1, i, none⟩ = some u := fun i hi => by
    rw [World.cell?_setCell_other _ _ _ _ (by intro e; injection e with e1; omega)]
    exact seven z0 z1 z2 z3 z4 z5 z6 i hi
  obtain ⟨e0, e1, e2, e3, e4, e5, e6⟩ := put7_cells (.int .i64 T) (.int .i64 I) (.int .i64 (L - 1)) (.int .i64 R) (.int .u32 S) (.int .u32 D) (.slice A2 n c2) (w := (w2.setCell ⟨w.heap.size, 6, none⟩ (.slice A2 n c2))) (q := w.heap.size + 1) Z7
  have F := Lib.hid (BSl.of_own (put7_far (.int .i64 T) (.int .i64 I) (.int .i64 (L - 1)) (.int .i64 R) (.int .u32 S) (.int .u32 D) (.slice A2 n c2) (own_far (p := ⟨w.heap.size, 6, none⟩) O2.out Q0.out (.slice A2 n c2)) Q1.out))
  have G := Lib.hid (put7_below (.int .i64 T) (.int .i64 I) (.int .i64 (L - 1)) (.int .i64 R) (.int .u32 S) (.int .u32 D) (.slice A2 n c2) B3 (Nat.le_succ _))
  change bodyPost _ _ _ _ _ (put7 (w2.setCell ⟨w.heap.size, 6, none⟩ (.slice A2 n c2)) (w.heap.size + 1) (.int .i64 T) (.int .i64 I) (.int .i64 (L - 1)) (.int .i64 R) (.int .u32 S) (.int .u32 D) (.slice A2 n c2))
  generalize put7 (w2.setCell ⟨w.heap.size, 6, none⟩ (.slice A2 n c2)) (w.heap.size + 1) (.int .i64 T) (.int .i64 I) (.int .i64 (L - 1)) (.int .i64 R) (.int .u32 S) (.int .u32 D) (.slice A2 n c2) = w5 at *
  exact bodyPost_ret (v := .tuple #[.agg #[.int .i64 T, .int .i64 I, .int .i64 (L - 1), .int .i64 R, .int .u32 S, .int .u32 D, .slice A2 n c2], .int .i64 0]) (by simp [results, Try.results14, go_sem, e0, e1, e2, e3, e4, e5, e6]) rfl
    ⟨_, n, _, rfl, F.out, G.out⟩
theorem phop_big (T I L R S D : Int) (A : Option Addr) (n c : Nat) (l : List UInt8) (w : World) (hl : BSl w A n c l) (hn : n ≤ 140737488351232) (hL : L ≤ 9223372036854775807) :
    Calls Try.prog 14 #[.agg #[.int .i64 T, .int .i64 I, .int .i64 L, .int .i64 R, .int .u32 S, .int .u32 D, .slice A n c]] w (GotHop w T I L R S D l) := by
  unfold GotHop
  by_cases h : 1 < L
  · have e : hE L = 0 := by unfold hE; rw [if_pos h]
    rw [e]
    exact phop_big_ok T I L R S D A n c l w hl hn h hL
  · have e : hE L = 13 := by unfold hE; rw [if_neg h]
    rw [e]
    exact phop_no T I L R S D A n c w (by omega)
end Go.Proofs.Ytkeialkknepgaaa
