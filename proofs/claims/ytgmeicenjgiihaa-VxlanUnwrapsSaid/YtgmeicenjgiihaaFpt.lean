/- The contract of ether.Put. -/
import Derived.Test.YtgmeicenjgiihaaBslMac
import Derived.Test.YtgmeicenjgiihaaFrm
namespace Go.Proofs.Ytgmeicenjgiihaa
open Go.RowKit
open Go.Lib (byteCells)

/-- a frame's bytes -/
def fbs (D S T : Int) (l : List UInt8) : List UInt8 := mb D ++ mb S ++ [u8 (T / 256), u8 (T % 256)] ++ l
/-- may a frame of this head be? -/
def fok (D S T : Int) : Prop := D < 281474976710656 ∧ S < 281474976710656 ∧ 0 ≤ T ∧ T < 65536
instance (D S T : Int) : Decidable (fok D S T) := by unfold fok; infer_instance
theorem fbs_len (D S T : Int) (l : List UInt8) : (fbs D S T l).length = 14 + l.length := by simp [fbs, mb_len]; omega
theorem fbs_cells (D S T : Int) (l : List UInt8) : byteCells (fbs D S T l) = byteCells (mb D ++ mb S) ++ byteCells [u8 (T / 256), u8 (T % 256)] ++ byteCells l := by unfold fbs; rw [bcells_app, bcells_app]

set_option maxHeartbeats 1000000 in
theorem fput_form (D S T : Int) (A : Option Addr) (n c : Nat) (w : World) (h : ¬ fok D S T) :
    Calls Try.prog 22 #[.agg #[.int .u64 D, .int .u64 S, .int .i64 T, .slice A n c]] w fun e w' => e = .returned (.tuple #[.slice none 0 0, .int .i64 11]) ∧ Below w.heap.size w w' := by
  unfold fok at h
  by_cases hD : 281474976710655 < D
  · clear h
    go_enter Try.func22, Try.ntmps22
    go_wp2
    go_ret2
    exact ⟨rfl, (Below.refl _ _).alloc (Nat.le_refl _) _⟩
  · by_cases hS : 281474976710655 < S
    · clear h
      go_enter Try.func22, Try.ntmps22
      go_wp2
      go_ret2
      exact ⟨rfl, (Below.refl _ _).alloc (Nat.le_refl _) _⟩
    · by_cases hT : T < 0
      · clear h
        go_enter Try.func22, Try.ntmps22
        go_wp2
        go_ret2
        exact ⟨rfl, (Below.refl _ _).alloc (Nat.le_refl _) _⟩
      · have hT2 : 65535 < T := by omega
        clear h
        go_enter Try.func22, Try.ntmps22
        go_wp2
        go_ret2
        exact ⟨rfl, (Below.refl _ _).alloc (Nat.le_refl _) _⟩
set_option maxHeartbeats 1000000 in
theorem fput_long (D S T : Int) (A : Option Addr) (n c : Nat) (w : World) (h : fok D S T) (hn : 1504 < n) :
    Calls Try.prog 22 #[.agg #[.int .u64 D, .int .u64 S, .int .i64 T, .slice A n c]] w fun e w' => e = .returned (.tuple #[.slice none 0 0, .int .i64 14]) ∧ Below w.heap.size w w' := by
  obtain ⟨h0, h1, h2, h3⟩ := h
  go_enter Try.func22, Try.ntmps22
  go_wp2
  go_ret2
  exact ⟨rfl, (Below.refl _ _).alloc (Nat.le_refl _) _⟩

/-- two cells of a block that was there, and what was there is as it was -/
theorem fput_keep {w w' : World} {D S T : Int} {A : Option Addr} {n c : Nat} (h : Below (w.alloc (.cells #[.int .u64 D, .int .u64 S, .int .i64 T, .slice A n c] 37)).heap.size (w.alloc (.cells #[.int .u64 D, .int .u64 S, .int .i64 T, .slice A n c] 37)) w') :
    w'.cell? ⟨w.heap.size, 0, none⟩ = some (.int .u64 D) ∧ w'.cell? ⟨w.heap.size, 1, none⟩ = some (.int .u64 S) ∧ w'.cell? ⟨w.heap.size, 2, none⟩ = some (.int .i64 T) ∧ w'.cell? ⟨w.heap.size, 3, none⟩ = some (.slice A n c) ∧
      Below (w.alloc (.cells #[.int .u64 D, .int .u64 S, .int .i64 T, .slice A n c] 37)).heap.size (w.alloc (.cells #[.int .u64 D, .int .u64 S, .int .i64 T, .slice A n c] 37)) w' := by
  have hz : w.heap.size < (w.alloc (.cells #[.int .u64 D, .int .u64 S, .int .i64 T, .slice A n c] 37)).heap.size := by simp
  refine ⟨?_, ?_, ?_, ?_, h⟩
  · rw [h.cell (p := ⟨w.heap.size, 0, none⟩) hz]; simp
  · rw [h.cell (p := ⟨w.heap.size, 1, none⟩) hz]; simp
  · rw [h.cell (p := ⟨w.heap.size, 2, none⟩) hz]; simp
  · rw [h.cell (p := ⟨w.heap.size, 3, none⟩) hz]; simp

set_option maxRecDepth 20000 in
set_option maxHeartbeats 2000000 in
theorem fput_ok (D S T : Int) (A : Option Addr) (n c : Nat) (l : List UInt8) (w : World) (hb : BSl w A n c l) (h : fok D S T) (hn : n ≤ 1504) :
    Calls Try.prog 22 #[.agg #[.int .u64 D, .int .u64 S, .int .i64 T, .slice A n c]] w fun e w' => ∃ v, e = .returned (.tuple #[v, .int .i64 0]) ∧
      w'.ownsRow w.heap.size 5 1 v (14 + n) (byteCells (fbs D S T l)) ∧ Below w.heap.size w w' := by
  obtain ⟨h0, h1, h2, h3⟩ := h
  obtain ⟨i0, hi, hz0, hz1, hz2⟩ := info_parts Try.info5
  have Hi := Lib.hid hi; have Hz0 := Lib.hid hz0; have Hz1 := Lib.hid hz1; have Hz2 := Lib.hid hz2
  have HS := Lib.hid hb
  have HK := Lib.hid (fun w' h => fput_keep (w := w) (w' := w') (D := D) (S := S) (T := T) (A := A) (n := n) (c := c) h)
  have R0 := Lib.hid (Below.refl (w.alloc (.cells #[.int .u64 D, .int .u64 S, .int .i64 T, .slice A n c] 37)).heap.size (w.alloc (.cells #[.int .u64 D, .int .u64 S, .int .i64 T, .slice A n c] 37)))
  clear hi hz0 hz1 hz2 hb
  go_enter Try.func22, Try.ntmps22
  go_wp2
  go_region_held_law (fun w' => w'.cell? ⟨w.heap.size, 0, none⟩ = some (.int .u64 D) ∧ w'.cell? ⟨w.heap.size, 1, none⟩ = some (.int .u64 S) ∧ w'.cell? ⟨w.heap.size, 2, none⟩ = some (.int .i64 T) ∧ w'.cell? ⟨w.heap.size, 3, none⟩ = some (.slice A n c) ∧ Below (w.alloc (.cells #[.int .u64 D, .int .u64 S, .int .i64 T, .slice A n c] 37)).heap.size (w.alloc (.cells #[.int .u64 D, .int .u64 S, .int .i64 T, .slice A n c] 37)) w')
    (first | exact HK.out _ hB2 | exact HK.out _ hB1 | exact HK.out _ (below_drewN R0.out 1) | fail)
    (first
      | (go_at_call 42; (with_reducible refine (mput_any none 0 0 [] D _ (by omega) BSl.nil).mono ?_); rintro e w1 ⟨v1, rfl, hown1, hb1⟩; simp only [Nat.zero_add, List.nil_append] at hown1; obtain ⟨A1, c1, rfl⟩ := own_shape hown1; have hB1 := Below.drawn R0.out 1 hb1)
      | (go_at_call 42; (with_reducible refine (mput_any A1 6 c1 (mb D) S _ (by omega) (BSl.of_own hown1)).mono ?_); rintro e w2 ⟨v2, rfl, hown2, hb2⟩; have hB2 := trans_below hB1 hb2))
  obtain ⟨k0, k1, k2, k3, _⟩ := HK.out _ hB2
  obtain ⟨A2, c2, rfl⟩ := own_shape hown2
  have hown2' := own_base hown2 hB1.size
  go_wp2_with (first
    | (at_builtin; refine wpList_bapp rfl (.tmp 33) (.tmp 41) 22 rfl (w.alloc (.cells #[.int .u64 D, .int .u64 S, .int .i64 T, .slice A n c] 37)).heap.size 5 i0 (.int .u8 0) 1 Try.underlying22 Hi.out Hz0.out Hz1.out Hz2.out rfl _ _ _ (by rfl) (hown2'.alloc _) (some ⟨w2.heap.size, 0, none⟩) 2 2 [u8 (T / 256), u8 (T % 256)] (by rfl) (bsl_two w2 _ _ ⟨by omega, by omega⟩ ⟨by omega, by omega⟩) (by unfold maxLen; omega) (by omega) (by have := hB2.size; simp at this ⊢; omega) ?_; intro v3 w3 hown3 hgrow3; have hB3 := below_app (hB2.alloc hB2.size _) (hown2'.alloc _) hgrow3; obtain ⟨m0, m1, m2, m3, _⟩ := HK.out _ hB3)
    | (at_builtin; refine wpList_bapp rfl (.tmp 43) (.tmp 45) 22 rfl (w.alloc (.cells #[.int .u64 D, .int .u64 S, .int .i64 T, .slice A n c] 37)).heap.size 5 i0 (.int .u8 0) 1 Try.underlying22 Hi.out Hz0.out Hz1.out Hz2.out rfl _ _ _ (by rfl) hown3 A n c l (by rfl) (HS.out.below (one_below hB3)) (by unfold maxLen; omega) (by omega) hB3.size ?_; intro v4 w4 hown4 hgrow4; have hB4 := below_app hB3 hown3 hgrow4))
  go_ret2
  have hE := fbs_cells D S T l
  exact ⟨v4, rfl, by rw [hE]; exact own_base hown4 (by simp), one_below hB4⟩
end Go.Proofs.Ytgmeicenjgiihaa
