/- The contract of palingref04.Put. -/
import Derived.Test.YtgmeicenjgiihaaFpt
namespace Go.Proofs.Ytgmeicenjgiihaa
open Go.RowKit
open Go.Lib (byteCells)

set_option maxHeartbeats 1000000 in
theorem frput_form (D S T : Int) (A : Option Addr) (n c : Nat) (w : World) (h : ¬ fok D S T) :
    Calls Try.prog 27 #[.agg #[.int .u64 D, .int .u64 S, .int .i64 T, .slice A n c]] w fun e w' => e = .returned (.tuple #[.slice none 0 0, .int .i64 11]) ∧ Below w.heap.size w w' := by
  unfold fok at h
  by_cases hD : 281474976710656 ≤ D
  · clear h
    go_enter Try.func27, Try.ntmps27
    go_wp2
    go_ret2
    exact ⟨rfl, (Below.refl _ _).alloc (Nat.le_refl _) _⟩
  · by_cases hS : 281474976710656 ≤ S
    · clear h
      go_enter Try.func27, Try.ntmps27
      go_wp2
      go_ret2
      exact ⟨rfl, (Below.refl _ _).alloc (Nat.le_refl _) _⟩
    · by_cases hT : T < 0
      · clear h
        go_enter Try.func27, Try.ntmps27
        go_wp2
        go_ret2
        exact ⟨rfl, (Below.refl _ _).alloc (Nat.le_refl _) _⟩
      · have hT2 : 65536 ≤ T := by omega
        clear h
        go_enter Try.func27, Try.ntmps27
        go_wp2
        go_ret2
        exact ⟨rfl, (Below.refl _ _).alloc (Nat.le_refl _) _⟩
set_option maxHeartbeats 1000000 in
theorem frput_long (D S T : Int) (A : Option Addr) (n c : Nat) (w : World) (h : fok D S T) (hn : 1504 < n) :
    Calls Try.prog 27 #[.agg #[.int .u64 D, .int .u64 S, .int .i64 T, .slice A n c]] w fun e w' => e = .returned (.tuple #[.slice none 0 0, .int .i64 14]) ∧ Below w.heap.size w w' := by
  obtain ⟨h0, h1, h2, h3⟩ := h
  go_enter Try.func27, Try.ntmps27
  go_wp2
  go_ret2
  exact ⟨rfl, (Below.refl _ _).alloc (Nat.le_refl _) _⟩

set_option maxRecDepth 20000 in
set_option maxHeartbeats 2000000 in
theorem frput_ok (D S T : Int) (A : Option Addr) (n c : Nat) (l : List UInt8) (w : World) (hb : BSl w A n c l) (h : fok D S T) (hd0 : 0 ≤ D) (hs0 : 0 ≤ S) (hn : n ≤ 1504) :
    Calls Try.prog 27 #[.agg #[.int .u64 D, .int .u64 S, .int .i64 T, .slice A n c]] w fun e w' => ∃ v, e = .returned (.tuple #[v, .int .i64 0]) ∧
      w'.ownsRow w.heap.size 5 1 v (14 + n) (byteCells (fbs D S T l)) ∧ Below w.heap.size w w' := by
  obtain ⟨h0, h1, h2, h3⟩ := h
  have hd1 : D < 18446744073709551616 := by omega
  have hs1 : S < 18446744073709551616 := by omega
  obtain ⟨i0, hi, hz0, hz1, hz2⟩ := info_parts Try.info5
  have Hi := Lib.hid hi; have Hz0 := Lib.hid hz0; have Hz1 := Lib.hid hz1; have Hz2 := Lib.hid hz2
  have HS := Lib.hid hb
  have HK := Lib.hid (fun w' h => fput_keep (w := w) (w' := w') (D := D) (S := S) (T := T) (A := A) (n := n) (c := c) h)
  have R0 := Lib.hid (Below.refl (w.alloc (.cells #[.int .u64 D, .int .u64 S, .int .i64 T, .slice A n c] 37)).heap.size (w.alloc (.cells #[.int .u64 D, .int .u64 S, .int .i64 T, .slice A n c] 37)))
  clear hi hz0 hz1 hz2 hb
  go_enter Try.func27, Try.ntmps27
  go_wp2
  go_region_held_law (fun w' => w'.cell? ⟨w.heap.size, 0, none⟩ = some (.int .u64 D) ∧ w'.cell? ⟨w.heap.size, 1, none⟩ = some (.int .u64 S) ∧ w'.cell? ⟨w.heap.size, 2, none⟩ = some (.int .i64 T) ∧ w'.cell? ⟨w.heap.size, 3, none⟩ = some (.slice A n c) ∧ Below (w.alloc (.cells #[.int .u64 D, .int .u64 S, .int .i64 T, .slice A n c] 37)).heap.size (w.alloc (.cells #[.int .u64 D, .int .u64 S, .int .i64 T, .slice A n c] 37)) w')
    (first | exact HK.out _ hB3 | exact HK.out _ hB2 | exact HK.out _ hB1 | exact HK.out _ (below_drewN R0.out 1) | fail)
    (first
      | (go_at_call 48; (with_reducible refine (refBytes_mb D _ hd0 hd1).mono ?_); rintro e w1 ⟨v1, rfl, hown1, hb1⟩; obtain ⟨A1, c1, rfl⟩ := own_shape hown1; have hB1 := Below.drawn R0.out 1 hb1)
      | (go_at_call 48; (with_reducible refine (refBytes_mb S _ hs0 hs1).mono ?_); rintro e w2 ⟨v2, rfl, hown2, hb2⟩; obtain ⟨A2, c2, rfl⟩ := own_shape hown2; have hB2 := trans_below hB1 hb2; have hown1' := own_base (own_below hown1 hb2) (by simp : (w.alloc (.cells #[.int .u64 D, .int .u64 S, .int .i64 T, .slice A n c] 37)).heap.size ≤ _))
      | (refine step_bapp (by rfl) (.tmp 29) (.tmp 32) 22 (by rfl) (w.alloc (.cells #[.int .u64 D, .int .u64 S, .int .i64 T, .slice A n c] 37)).heap.size 5 i0 (.int .u8 0) 1 Try.underlying22 Hi.out Hz0.out Hz1.out Hz2.out rfl _ _ _ (by rfl) hown1' A2 6 c2 (mb S) (by rfl) (BSl.of_own hown2) (by unfold maxLen; omega) (by omega) hB2.size ?_; intro v3 w3 hown3 hgrow3; have hB3 := below_app hB2 hown1' hgrow3; obtain ⟨A3, c3, rfl⟩ := own_shape hown3))
  obtain ⟨k0, k1, k2, k3, _⟩ := HK.out _ hB3
  have q1 : T.tdiv 256 = T / 256 := Int.tdiv_eq_ediv_of_nonneg h2
  go_wp2_with (first
    | (at_builtin; refine wpList_bapp rfl (.tmp 34) (.tmp 43) 22 rfl (w.alloc (.cells #[.int .u64 D, .int .u64 S, .int .i64 T, .slice A n c] 37)).heap.size 5 i0 (.int .u8 0) 1 Try.underlying22 Hi.out Hz0.out Hz1.out Hz2.out rfl _ _ _ (by rfl) (hown3.alloc _) (some ⟨w3.heap.size, 0, none⟩) 2 2 [u8 (T / 256), u8 (T % 256)] (by rfl) (bsl_two w3 _ _ ⟨by omega, by omega⟩ ⟨by omega, by omega⟩) (by unfold maxLen; omega) (by omega) (by have := hB3.size; simp at this ⊢; omega) ?_; intro v4 w4 hown4 hgrow4; have hB4 := below_app (hB3.alloc hB3.size _) (hown3.alloc _) hgrow4; obtain ⟨m0, m1, m2, m3, _⟩ := HK.out _ hB4)
    | (at_builtin; refine wpList_bapp rfl (.tmp 45) (.tmp 47) 22 rfl (w.alloc (.cells #[.int .u64 D, .int .u64 S, .int .i64 T, .slice A n c] 37)).heap.size 5 i0 (.int .u8 0) 1 Try.underlying22 Hi.out Hz0.out Hz1.out Hz2.out rfl _ _ _ (by rfl) hown4 A n c l (by rfl) (HS.out.below (one_below hB4)) (by unfold maxLen; omega) (by omega) hB4.size ?_; intro v5 w5 hown5 hgrow5; have hB5 := below_app hB4 hown4 hgrow5))
  go_ret2
  have hE := fbs_cells D S T l
  exact ⟨v5, rfl, by rw [hE, bcells_app]; exact own_base hown5 (by simp), one_below hB5⟩
end Go.Proofs.Ytgmeicenjgiihaa
