/- The contracts of ipv4.Hop and palingref07.Hop. -/
import Derived.Test.YtkeialkknepgaaaPkBy
import Derived.Test.YtkeialkknepgaaaPkBox
namespace Go.Proofs.Ytkeialkknepgaaa
open Go.RowKit
open Go.Lib (byteCells)

/-- a packet's box with one hop less, and the result's, wherever what was there is as it was -/
theorem hop_keep {w w' : World} {T I L R S D : Int} {A : Option Addr} {n c : Nat} (h : Below ((w.alloc (.cells #[.int .i64 T, .int .i64 I, .int .i64 (L - 1), .int .i64 R, .int .u32 S, .int .u32 D, .slice A n c] 26)).alloc (.cells #[.int .i64 0, .int .i64 0, .int .i64 0, .int .i64 0, .int .u32 0, .int .u32 0, .slice none 0 0] 26)).heap.size ((w.alloc (.cells #[.int .i64 T, .int .i64 I, .int .i64 (L - 1), .int .i64 R, .int .u32 S, .int .u32 D, .slice A n c] 26)).alloc (.cells #[.int .i64 0, .int .i64 0, .int .i64 0, .int .i64 0, .int .u32 0, .int .u32 0, .slice none 0 0] 26)) w') :
    w'.cell? ⟨w.heap.size, 0, none⟩ = some (.int .i64 T) ∧ w'.cell? ⟨w.heap.size, 1, none⟩ = some (.int .i64 I) ∧ w'.cell? ⟨w.heap.size, 2, none⟩ = some (.int .i64 (L - 1)) ∧ w'.cell? ⟨w.heap.size, 3, none⟩ = some (.int .i64 R) ∧ w'.cell? ⟨w.heap.size, 4, none⟩ = some (.int .u32 S) ∧ w'.cell? ⟨w.heap.size, 5, none⟩ = some (.int .u32 D) ∧ w'.cell? ⟨w.heap.size, 6, none⟩ = some (.slice A n c) ∧ w'.cell? ⟨w.heap.size + 1, 0, none⟩ = some (.int .i64 0) ∧ w'.cell? ⟨w.heap.size + 1, 1, none⟩ = some (.int .i64 0) ∧ w'.cell? ⟨w.heap.size + 1, 2, none⟩ = some (.int .i64 0) ∧ w'.cell? ⟨w.heap.size + 1, 3, none⟩ = some (.int .i64 0) ∧ w'.cell? ⟨w.heap.size + 1, 4, none⟩ = some (.int .u32 0) ∧ w'.cell? ⟨w.heap.size + 1, 5, none⟩ = some (.int .u32 0) ∧ w'.cell? ⟨w.heap.size + 1, 6, none⟩ = some (.slice none 0 0) ∧ (∀ o, w'.frozen? ⟨w.heap.size, o, none⟩ = false) ∧ (∀ o, w'.frozen? ⟨w.heap.size + 1, o, none⟩ = false) := by
  have z0 : w.heap.size < ((w.alloc (.cells #[.int .i64 T, .int .i64 I, .int .i64 (L - 1), .int .i64 R, .int .u32 S, .int .u32 D, .slice A n c] 26)).alloc (.cells #[.int .i64 0, .int .i64 0, .int .i64 0, .int .i64 0, .int .u32 0, .int .u32 0, .slice none 0 0] 26)).heap.size := by simp; omega
  have z1 : w.heap.size + 1 < ((w.alloc (.cells #[.int .i64 T, .int .i64 I, .int .i64 (L - 1), .int .i64 R, .int .u32 S, .int .u32 D, .slice A n c] 26)).alloc (.cells #[.int .i64 0, .int .i64 0, .int .i64 0, .int .i64 0, .int .u32 0, .int .u32 0, .slice none 0 0] 26)).heap.size := by simp
  have k0 := fun o => h.cell (p := ⟨w.heap.size, o, none⟩) z0
  have k1 := fun o => h.cell (p := ⟨w.heap.size + 1, o, none⟩) z1
  have f0 := fun o => h.frozen (p := ⟨w.heap.size, o, none⟩) z0
  have f1 := fun o => h.frozen (p := ⟨w.heap.size + 1, o, none⟩) z1
  refine ⟨?_, ?_, ?_, ?_, ?_, ?_, ?_, ?_, ?_, ?_, ?_, ?_, ?_, ?_, ?_, ?_⟩
  · rw [k0]; simp
  · rw [k0]; simp
  · rw [k0]; simp
  · rw [k0]; simp
  · rw [k0]; simp
  · rw [k0]; simp
  · rw [k0]; simp
  · rw [k1]; simp
  · rw [k1]; simp
  · rw [k1]; simp
  · rw [k1]; simp
  · rw [k1]; simp
  · rw [k1]; simp
  · rw [k1]; simp
  · intro o; rw [f0]; simp
  · intro o; rw [f1]; simp

set_option maxHeartbeats 1000000 in
theorem phop_no (T I L R S D : Int) (A : Option Addr) (n c : Nat) (w : World) (h : L ≤ 1) :
    Calls Try.prog 14 #[.agg #[.int .i64 T, .int .i64 I, .int .i64 L, .int .i64 R, .int .u32 S, .int .u32 D, .slice A n c]] w (GotP w 0 0 0 0 0 0 [] 13) := by
  have hz : w.heap.size < w.heap.size + 1 + 1 := by omega
  go_enter Try.func14, Try.ntmps14
  go_wp2
  exact bodyPost_ret (v := .tuple #[.agg #[.int .i64 0, .int .i64 0, .int .i64 0, .int .i64 0, .int .u32 0, .int .u32 0, .slice none 0 0], .int .i64 13]) (by simp [results, Try.results14, go_sem]) rfl ⟨none, 0, 0, rfl, BSl.nil, two_alloc _ _ _⟩
set_option maxHeartbeats 1000000 in
theorem rhop_no (T I L R S D : Int) (A : Option Addr) (n c : Nat) (w : World) (h : L ≤ 1) :
    Calls Try.prog 15 #[.agg #[.int .i64 T, .int .i64 I, .int .i64 L, .int .i64 R, .int .u32 S, .int .u32 D, .slice A n c]] w (GotP w 0 0 0 0 0 0 [] 13) := by
  have hz : w.heap.size < w.heap.size + 1 + 1 := by omega
  go_enter Try.func15, Try.ntmps15
  go_wp2
  exact bodyPost_ret (v := .tuple #[.agg #[.int .i64 0, .int .i64 0, .int .i64 0, .int .i64 0, .int .u32 0, .int .u32 0, .slice none 0 0], .int .i64 13]) (by simp [results, Try.results15, go_sem]) rfl ⟨none, 0, 0, rfl, BSl.nil, two_alloc _ _ _⟩
set_option maxHeartbeats 2000000 in
theorem rhop_ok (T I L R S D : Int) (A : Option Addr) (n c : Nat) (l : List UInt8) (w : World) (hl : BSl w A n c l) (h : 1 < L) (hL : L ≤ 9223372036854775807) :
    Calls Try.prog 15 #[.agg #[.int .i64 T, .int .i64 I, .int .i64 L, .int .i64 R, .int .u32 S, .int .u32 D, .slice A n c]] w (GotP w T I (L - 1) R S D l 0) := by
  have HS := Lib.hid hl
  have hz : w.heap.size < w.heap.size + 1 + 1 := by omega
  have hz1 : w.heap.size < w.heap.size + 1 := by omega
  clear hl
  go_enter Try.func15, Try.ntmps15
  go_wp2
  exact bodyPost_ret (v := .tuple #[.agg #[.int .i64 T, .int .i64 I, .int .i64 (L - 1), .int .i64 R, .int .u32 S, .int .u32 D, .slice A n c], .int .i64 0]) (by simp [results, Try.results15, go_sem]) rfl
    ⟨A, n, c, rfl, (HS.out.alloc _).alloc _, two_alloc _ _ _⟩
set_option maxHeartbeats 2000000 in
theorem phop_ok (T I L R S D : Int) (A : Option Addr) (n c : Nat) (l : List UInt8) (w : World) (hl : BSl w A n c l) (hn : n ≤ 1000000) (h : 1 < L) (hL : L ≤ 9223372036854775807) :
    Calls Try.prog 14 #[.agg #[.int .i64 T, .int .i64 I, .int .i64 L, .int .i64 R, .int .u32 S, .int .u32 D, .slice A n c]] w (GotP w T I (L - 1) R S D l 0) := by
  have HS := Lib.hid hl
  have hz : w.heap.size < w.heap.size + 1 + 1 := by omega
  have hz1 : w.heap.size < w.heap.size + 1 := by omega
  have BC := Lib.hid (show Below w.heap.size w ((w.alloc (.cells #[.int .i64 T, .int .i64 I, .int .i64 (L - 1), .int .i64 R, .int .u32 S, .int .u32 D, .slice A n c] 26)).alloc (.cells #[.int .i64 0, .int .i64 0, .int .i64 0, .int .i64 0, .int .u32 0, .int .u32 0, .slice none 0 0] 26)) from two_alloc _ _ _)
  have Q0 := Lib.hid (show w.heap.size < ((w.alloc (.cells #[.int .i64 T, .int .i64 I, .int .i64 (L - 1), .int .i64 R, .int .u32 S, .int .u32 D, .slice A n c] 26)).alloc (.cells #[.int .i64 0, .int .i64 0, .int .i64 0, .int .i64 0, .int .u32 0, .int .u32 0, .slice none 0 0] 26)).heap.size by simp; omega)
  have Q1 := Lib.hid (show w.heap.size + 1 < ((w.alloc (.cells #[.int .i64 T, .int .i64 I, .int .i64 (L - 1), .int .i64 R, .int .u32 S, .int .u32 D, .slice A n c] 26)).alloc (.cells #[.int .i64 0, .int .i64 0, .int .i64 0, .int .i64 0, .int .u32 0, .int .u32 0, .slice none 0 0] 26)).heap.size by simp)
  clear hl
  go_enter Try.func14, Try.ntmps14
  go_wp2_with (go_at_call 21; (with_reducible refine (clone_any A n c l _ (HS.out.below BC.out) hn).mono ?_); rintro e w2 ⟨v2, rfl, hown2, hb2⟩; obtain ⟨A2, c2, rfl⟩ := own_shape hown2; obtain ⟨k0, k1, k2, k3, k4, k5, k6, z0, z1, z2, z3, z4, z5, z6, g0, g1⟩ := hop_keep hb2; have B2 := Lib.hid (trans_below BC.out hb2); have O2 := Lib.hid hown2; have y0 : w.heap.size < w2.heap.size := Nat.lt_of_lt_of_le Q0.out hb2.size; have y1 : w.heap.size + 1 < w2.heap.size := Nat.lt_of_lt_of_le Q1.out hb2.size; clear hown2 hb2)
  have B3 : Below w.heap.size w (w2.setCell ⟨w.heap.size, 6, none⟩ (.slice A2 n c2)) := B2.out.setCell (Nat.le_refl _) _
  have Z7 : ∀ i, i < 7 → ∃ u, (w2.setCell ⟨w.heap.size, 6, none⟩ (.slice A2 n c2)).cell? ⟨w.heap.size + 1, i, none⟩ = some u := fun i hi => by
    rw [World.cell?_setCell_other _ _ _ _ (by intro e; injection e with e1; omega)]
    exact seven z0 z1 z2 z3 z4 z5 z6 i hi
  obtain ⟨e0, e1, e2, e3, e4, e5, e6⟩ := put7_cells (.int .i64 T) (.int .i64 I) (.int .i64 (L - 1)) (.int .i64 R) (.int .u32 S) (.int .u32 D) (.slice A2 n c2) (w := (w2.setCell ⟨w.heap.size, 6, none⟩ (.slice A2 n c2))) (q := w.heap.size + 1) Z7
  have F := Lib.hid (BSl.of_own (put7_far (.int .i64 T) (.int .i64 I) (.int .i64 (L - 1)) (.int .i64 R) (.int .u32 S) (.int .u32 D) (.slice A2 n c2) (own_far (p := ⟨w.heap.size, 6, none⟩) O2.out Q0.out (.slice A2 n c2)) Q1.out))
  have G := Lib.hid (put7_below (.int .i64 T) (.int .i64 I) (.int .i64 (L - 1)) (.int .i64 R) (.int .u32 S) (.int .u32 D) (.slice A2 n c2) B3 (Nat.le_succ _))
  change bodyPost _ _ _ _ _ (put7 (w2.setCell ⟨w.heap.size, 6, none⟩ (.slice A2 n c2)) (w.heap.size + 1) (.int .i64 T) (.int .i64 I) (.int .i64 (L - 1)) (.int .i64 R) (.int .u32 S) (.int .u32 D) (.slice A2 n c2))
  generalize put7 (w2.setCell ⟨w.heap.size, 6, none⟩ (.slice A2 n c2)) (w.heap.size + 1) (.int .i64 T) (.int .i64 I) (.int .i64 (L - 1)) (.int .i64 R) (.int .u32 S) (.int .u32 D) (.slice A2 n c2) = w5 at *
  exact bodyPost_ret (v := .tuple #[.agg #[.int .i64 T, .int .i64 I, .int .i64 (L - 1), .int .i64 R, .int .u32 S, .int .u32 D, .slice A2 n c2], .int .i64 0]) (by simp [results, Try.results14, go_sem, e0, e1, e2, e3, e4, e5, e6]) rfl
    ⟨_, n, _, rfl, F.out, G.out⟩
/-- why a packet goes no hop on -/
def hE (L : Int) : Int := if 1 < L then 0 else 13
/-- x where there is no error, else 0 -/
def oi (E x : Int) : Int := if E = 0 then x else 0
/-- l where there is no error, else nothing -/
def ol (E : Int) (l : List UInt8) : List UInt8 := if E = 0 then l else []
/-- what Hop comes to -/
def GotHop (w : World) (T I L R S D : Int) (l : List UInt8) : Ending → World → Prop :=
  GotP w (oi (hE L) T) (oi (hE L) I) (oi (hE L) (L - 1)) (oi (hE L) R) (oi (hE L) S) (oi (hE L) D) (ol (hE L) l) (hE L)
theorem phop_any (T I L R S D : Int) (A : Option Addr) (n c : Nat) (l : List UInt8) (w : World) (hl : BSl w A n c l) (hn : n ≤ 1000000) (hL : L ≤ 9223372036854775807) :
    Calls Try.prog 14 #[.agg #[.int .i64 T, .int .i64 I, .int .i64 L, .int .i64 R, .int .u32 S, .int .u32 D, .slice A n c]] w (GotHop w T I L R S D l) := by
  unfold GotHop
  by_cases h : 1 < L
  · have e : hE L = 0 := by unfold hE; rw [if_pos h]
    rw [e]
    exact phop_ok T I L R S D A n c l w hl hn h hL
  · have e : hE L = 13 := by unfold hE; rw [if_neg h]
    rw [e]
    exact phop_no T I L R S D A n c w (by omega)
theorem rhop_any (T I L R S D : Int) (A : Option Addr) (n c : Nat) (l : List UInt8) (w : World) (hl : BSl w A n c l) (hL : L ≤ 9223372036854775807) :
    Calls Try.prog 15 #[.agg #[.int .i64 T, .int .i64 I, .int .i64 L, .int .i64 R, .int .u32 S, .int .u32 D, .slice A n c]] w (GotHop w T I L R S D l) := by
  unfold GotHop
  by_cases h : 1 < L
  · have e : hE L = 0 := by unfold hE; rw [if_pos h]
    rw [e]
    exact rhop_ok T I L R S D A n c l w hl h hL
  · have e : hE L = 13 := by unfold hE; rw [if_neg h]
    rw [e]
    exact rhop_no T I L R S D A n c w (by omega)
end Go.Proofs.Ytkeialkknepgaaa
