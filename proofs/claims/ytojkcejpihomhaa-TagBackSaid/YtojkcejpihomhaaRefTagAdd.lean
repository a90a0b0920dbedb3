/- The contract of palingref05.Add. -/
import Derived.Test.YtojkcejpihomhaaTagAdd
namespace Go.Proofs.Ytojkcejpihomhaa
open Go.RowKit
open Go.Lib (byteCells)

/-- a row of four bytes, laid out: '[]byte{a, b, c, d}' -/
theorem own_four (w : World) (B g : Nat) (hg : w.heap.size = g) (hB : B ≤ w.heap.size) (a b c d : Int) (ha : 0 ≤ a ∧ a < 256) (hb : 0 ≤ b ∧ b < 256) (hc : 0 ≤ c ∧ c < 256) (hd : 0 ≤ d ∧ d < 256) :
    (w.alloc (.cells #[.int .u8 a, .int .u8 b, .int .u8 c, .int .u8 d] 5)).ownsRow B 5 1 (.slice (some ⟨g, 0, none⟩) 4 4) 4 (byteCells ([u8 a, u8 b] ++ [u8 c, u8 d])) := by
  subst hg
  have e : nums [u8 a, u8 b, u8 c, u8 d] = [a, b, c, d] := nums_u8 [a, b, c, d] (by simp; exact ⟨ha, hb, hc, hd⟩)
  have := World.ownsRow_lit (e := 5) (size := 1) w #[.int .u8 a, .int .u8 b, .int .u8 c, .int .u8 d] 4 hB (by unfold maxLen; omega) rfl
  have e2 : byteCells ([u8 a, u8 b] ++ [u8 c, u8 d]) = [.int .u8 a, .int .u8 b, .int .u8 c, .int .u8 d] := by
    show byteCells [u8 a, u8 b, u8 c, u8 d] = _
    rw [byteCells_nums, e]
    rfl
  rw [e2]
  exact this

set_option maxHeartbeats 1000000 in
theorem radd_tag (D S T v p : Int) (A : Option Addr) (n c : Nat) (w : World) (h : T = 33024 ∨ v < 0 ∨ 4094 < v ∨ p < 0 ∨ 15 < p) :
    Calls Try.prog 13 #[.agg #[.int .u64 D, .int .u64 S, .int .i64 T, .slice A n c], .int .i64 v, .int .i64 p] w fun e w' => e = .returned (.tuple #[.agg #[.int .u64 0, .int .u64 0, .int .i64 0, .slice none 0 0], .int .i64 15]) ∧ Below w.heap.size w w' := by
  have hz : w.heap.size < w.heap.size + 1 + 1 := by omega
  have hB := two_alloc w (.cells #[.int .u64 D, .int .u64 S, .int .i64 T, .slice A n c] 25) (.cells #[.int .u64 0, .int .u64 0, .int .i64 0, .slice none 0 0] 25)
  have HE := Lib.hid hB
  clear hB
  by_cases hT : T = 33024
  · subst hT
    clear h
    go_enter Try.func13, Try.ntmps13
    go_wp2
    exact bodyPost_ret (v := .tuple #[.agg #[.int .u64 0, .int .u64 0, .int .i64 0, .slice none 0 0], .int .i64 15]) (by simp [results, Try.results13, go_sem]) rfl ⟨rfl, HE.out⟩
  · by_cases hv : v < 0
    · clear h
      go_enter Try.func13, Try.ntmps13
      go_wp2
      exact bodyPost_ret (v := .tuple #[.agg #[.int .u64 0, .int .u64 0, .int .i64 0, .slice none 0 0], .int .i64 15]) (by simp [results, Try.results13, go_sem]) rfl ⟨rfl, HE.out⟩
    · by_cases hv2 : 4095 ≤ v
      · clear h
        go_enter Try.func13, Try.ntmps13
        go_wp2
        exact bodyPost_ret (v := .tuple #[.agg #[.int .u64 0, .int .u64 0, .int .i64 0, .slice none 0 0], .int .i64 15]) (by simp [results, Try.results13, go_sem]) rfl ⟨rfl, HE.out⟩
      · by_cases hp : p < 0
        · clear h
          go_enter Try.func13, Try.ntmps13
          go_wp2
          exact bodyPost_ret (v := .tuple #[.agg #[.int .u64 0, .int .u64 0, .int .i64 0, .slice none 0 0], .int .i64 15]) (by simp [results, Try.results13, go_sem]) rfl ⟨rfl, HE.out⟩
        · have hp2 : 16 ≤ p := by omega
          clear h
          go_enter Try.func13, Try.ntmps13
          go_wp2
          exact bodyPost_ret (v := .tuple #[.agg #[.int .u64 0, .int .u64 0, .int .i64 0, .slice none 0 0], .int .i64 15]) (by simp [results, Try.results13, go_sem]) rfl ⟨rfl, HE.out⟩
set_option maxHeartbeats 1000000 in
theorem radd_form (D S T v p : Int) (A : Option Addr) (n c : Nat) (w : World) (h : ¬ (T = 33024 ∨ v < 0 ∨ 4094 < v ∨ p < 0 ∨ 15 < p)) (g : T < 0 ∨ 65535 < T) :
    Calls Try.prog 13 #[.agg #[.int .u64 D, .int .u64 S, .int .i64 T, .slice A n c], .int .i64 v, .int .i64 p] w fun e w' => e = .returned (.tuple #[.agg #[.int .u64 0, .int .u64 0, .int .i64 0, .slice none 0 0], .int .i64 11]) ∧ Below w.heap.size w w' := by
  have hz : w.heap.size < w.heap.size + 1 + 1 := by omega
  have hB := two_alloc w (.cells #[.int .u64 D, .int .u64 S, .int .i64 T, .slice A n c] 25) (.cells #[.int .u64 0, .int .u64 0, .int .i64 0, .slice none 0 0] 25)
  have HE := Lib.hid hB
  clear hB
  have hT : ¬ T = 33024 := by omega
  have v0 : ¬ v < 0 := by omega
  have v1 : ¬ 4095 ≤ v := by omega
  have p0 : ¬ p < 0 := by omega
  have p1 : ¬ 16 ≤ p := by omega
  by_cases hT0 : T < 0
  · clear h g
    go_enter Try.func13, Try.ntmps13
    go_wp2
    exact bodyPost_ret (v := .tuple #[.agg #[.int .u64 0, .int .u64 0, .int .i64 0, .slice none 0 0], .int .i64 11]) (by simp [results, Try.results13, go_sem]) rfl ⟨rfl, HE.out⟩
  · have hT1 : 65536 ≤ T := by omega
    clear h g
    go_enter Try.func13, Try.ntmps13
    go_wp2
    exact bodyPost_ret (v := .tuple #[.agg #[.int .u64 0, .int .u64 0, .int .i64 0, .slice none 0 0], .int .i64 11]) (by simp [results, Try.results13, go_sem]) rfl ⟨rfl, HE.out⟩
set_option maxHeartbeats 1000000 in
theorem radd_long (D S T v p : Int) (A : Option Addr) (n c : Nat) (w : World) (h : ¬ (T = 33024 ∨ v < 0 ∨ 4094 < v ∨ p < 0 ∨ 15 < p)) (g : ¬ (T < 0 ∨ 65535 < T)) (hn : 1500 < n) :
    Calls Try.prog 13 #[.agg #[.int .u64 D, .int .u64 S, .int .i64 T, .slice A n c], .int .i64 v, .int .i64 p] w fun e w' => e = .returned (.tuple #[.agg #[.int .u64 0, .int .u64 0, .int .i64 0, .slice none 0 0], .int .i64 14]) ∧ Below w.heap.size w w' := by
  have hz : w.heap.size < w.heap.size + 1 + 1 := by omega
  have hB := two_alloc w (.cells #[.int .u64 D, .int .u64 S, .int .i64 T, .slice A n c] 25) (.cells #[.int .u64 0, .int .u64 0, .int .i64 0, .slice none 0 0] 25)
  have HE := Lib.hid hB
  clear hB
  have hT : ¬ T = 33024 := by omega
  have v0 : ¬ v < 0 := by omega
  have v1 : ¬ 4095 ≤ v := by omega
  have p0 : ¬ p < 0 := by omega
  have p1 : ¬ 16 ≤ p := by omega
  have t0 : ¬ T < 0 := by omega
  have t1 : ¬ 65536 ≤ T := by omega
  clear h g
  go_enter Try.func13, Try.ntmps13
  go_wp2
  exact bodyPost_ret (v := .tuple #[.agg #[.int .u64 0, .int .u64 0, .int .i64 0, .slice none 0 0], .int .i64 14]) (by simp [results, Try.results13, go_sem]) rfl ⟨rfl, HE.out⟩

/-- the cells of a frame's box, and what was there is as it was -/
theorem box_keep {w w' : World} {D S T : Int} {A : Option Addr} {n c : Nat} (h : Below (w.alloc (.cells #[.int .u64 D, .int .u64 S, .int .i64 T, .slice A n c] 25)).heap.size (w.alloc (.cells #[.int .u64 D, .int .u64 S, .int .i64 T, .slice A n c] 25)) w') :
    w'.cell? ⟨w.heap.size, 0, none⟩ = some (.int .u64 D) ∧ w'.cell? ⟨w.heap.size, 1, none⟩ = some (.int .u64 S) ∧ w'.cell? ⟨w.heap.size, 2, none⟩ = some (.int .i64 T) ∧ w'.cell? ⟨w.heap.size, 3, none⟩ = some (.slice A n c) ∧
      Below (w.alloc (.cells #[.int .u64 D, .int .u64 S, .int .i64 T, .slice A n c] 25)).heap.size (w.alloc (.cells #[.int .u64 D, .int .u64 S, .int .i64 T, .slice A n c] 25)) w' := by
  have hz : w.heap.size < (w.alloc (.cells #[.int .u64 D, .int .u64 S, .int .i64 T, .slice A n c] 25)).heap.size := by simp
  refine ⟨?_, ?_, ?_, ?_, h⟩
  · rw [h.cell (p := ⟨w.heap.size, 0, none⟩) hz]; simp
  · rw [h.cell (p := ⟨w.heap.size, 1, none⟩) hz]; simp
  · rw [h.cell (p := ⟨w.heap.size, 2, none⟩) hz]; simp
  · rw [h.cell (p := ⟨w.heap.size, 3, none⟩) hz]; simp

set_option maxHeartbeats 2000000 in
theorem radd_ok (D S T v p : Int) (A : Option Addr) (n c : Nat) (l : List UInt8) (w : World) (hS : BSl w A n c l) (hT : ¬ T = 33024) (v0 : 0 ≤ v) (v1 : v ≤ 4094) (p0 : 0 ≤ p) (p1 : p ≤ 15) (T0 : 0 ≤ T) (T1 : T ≤ 65535) (hn : n ≤ 1500) :
    Calls Try.prog 13 #[.agg #[.int .u64 D, .int .u64 S, .int .i64 T, .slice A n c], .int .i64 v, .int .i64 p] w fun e w' => ∃ A' c', e = .returned (.tuple #[.agg #[.int .u64 D, .int .u64 S, .int .i64 33024, .slice A' (4 + n) c'], .int .i64 0]) ∧
      w'.ownsRow w.heap.size 5 1 (.slice A' (4 + n) c') (4 + n) (byteCells (tbs v p T l)) ∧ Below w.heap.size w w' := by
  obtain ⟨i0, hi, hz0, hz1, hz2⟩ := info_parts Try.info5
  have Hi := Lib.hid hi; have Hz0 := Lib.hid hz0; have Hz1 := Lib.hid hz1; have Hz2 := Lib.hid hz2
  have HS := Lib.hid hS
  have hG : p * 4096 + v = tg v p := rfl
  have g0 : 0 ≤ tg v p := by unfold tg; omega
  have g1 : tg v p < 65536 := by unfold tg; omega
  have HC := Lib.hid (tbs_cells v p T l)
  generalize tbs v p T l = L at HC
  generalize tg v p = G at hG g0 g1 HC
  have q1 : G.tdiv 256 = G / 256 := Int.tdiv_eq_ediv_of_nonneg g0
  have q2 : T.tdiv 256 = T / 256 := Int.tdiv_eq_ediv_of_nonneg T0
  have hz : w.heap.size < w.heap.size + 1 + 1 := by omega
  have B0 := Lib.hid ((Below.refl ((w.alloc (.cells #[.int .u64 D, .int .u64 S, .int .i64 T, .slice A n c] 25)).alloc (.cells #[.int .u64 0, .int .u64 0, .int .i64 0, .slice none 0 0] 25)).heap.size ((w.alloc (.cells #[.int .u64 D, .int .u64 S, .int .i64 T, .slice A n c] 25)).alloc (.cells #[.int .u64 0, .int .u64 0, .int .i64 0, .slice none 0 0] 25))).alloc (Nat.le_refl _) (.cells #[.int .u8 (G / 256), .int .u8 (G % 256), .int .u8 (T / 256), .int .u8 (T % 256)] 5))
  have O0 := Lib.hid (own_four ((w.alloc (.cells #[.int .u64 D, .int .u64 S, .int .i64 T, .slice A n c] 25)).alloc (.cells #[.int .u64 0, .int .u64 0, .int .i64 0, .slice none 0 0] 25)) ((w.alloc (.cells #[.int .u64 D, .int .u64 S, .int .i64 T, .slice A n c] 25)).alloc (.cells #[.int .u64 0, .int .u64 0, .int .i64 0, .slice none 0 0] 25)).heap.size (w.heap.size + 1 + 1) (by simp) (Nat.le_refl _) (G / 256) (G % 256) (T / 256) (T % 256) ⟨by omega, by omega⟩ ⟨by omega, by omega⟩ ⟨by omega, by omega⟩ ⟨by omega, by omega⟩)
  have n1 : ¬ v < 0 := by omega
  have n2 : ¬ 4095 ≤ v := by omega
  have n3 : ¬ p < 0 := by omega
  have n4 : ¬ 16 ≤ p := by omega
  have n5 : ¬ T < 0 := by omega
  have n6 : ¬ 65536 ≤ T := by omega
  clear hi hz0 hz1 hz2 hS
  go_enter Try.func13, Try.ntmps13
  go_wp2
  go_region_held_law (fun w' => w'.cell? ⟨w.heap.size, 0, none⟩ = some (.int .u64 D) ∧ w'.cell? ⟨w.heap.size, 1, none⟩ = some (.int .u64 S) ∧ w'.cell? ⟨w.heap.size, 2, none⟩ = some (.int .i64 T) ∧ w'.cell? ⟨w.heap.size, 3, none⟩ = some (.slice A n c) ∧ Below (w.alloc (.cells #[.int .u64 D, .int .u64 S, .int .i64 T, .slice A n c] 25)).heap.size (w.alloc (.cells #[.int .u64 D, .int .u64 S, .int .i64 T, .slice A n c] 25)) w')
    (first | exact box_keep ((((hb4.setCell hs _).setCell hs _).setCell hs _).setCell hs _) | exact box_keep hb4 | exact box_keep (one_below (below_drewN B0.out 1)) | fail)
    ((refine step_bapp (by rfl) (.tmp 67) (.tmp 69) 23 (by rfl) ((w.alloc (.cells #[.int .u64 D, .int .u64 S, .int .i64 T, .slice A n c] 25)).alloc (.cells #[.int .u64 0, .int .u64 0, .int .i64 0, .slice none 0 0] 25)).heap.size 5 i0 (.int .u8 0) 1 Try.underlying23 Hi.out Hz0.out Hz1.out Hz2.out rfl _ _ _ (by rfl) O0.out A n c l (by rfl) (HS.out.below (two_below (below_drewN B0.out 1))) (by unfold maxLen; omega) (by omega) (by simp) ?_; intro v3 w3 hown3 hgrow3; have hb3 := below_app (below_drewN B0.out 1) O0.out hgrow3; obtain ⟨A3, c3, rfl⟩ := own_shape hown3; have hb4 := one_below hb3; have hs : (w.alloc (.cells #[.int .u64 D, .int .u64 S, .int .i64 T, .slice A n c] 25)).heap.size ≤ w.heap.size + 1 := by { simp }; obtain ⟨p3, q3⟩ := bcell hb3))
  go_wp2
  have hB := two_below hb3
  have z3 := hb3.size
  simp at z3
  have e1 := fun o => p3 (w.heap.size + 1) o (by simp)
  exact bodyPost_ret (v := .tuple #[.agg #[.int .u64 D, .int .u64 S, .int .i64 33024, .slice A3 (4 + n) c3], .int .i64 0]) (by simp [results, Try.results13, go_sem, e1]) rfl
    ⟨A3, c3, rfl, own_base (own_far (own_far (own_far (own_far (by rw [HC.out]; exact hown3) (by simp) _) (by simp) _) (by simp) _) (by simp) _) (by simp; omega),
      ((((hB.setCell (Nat.le_succ _) _).setCell (Nat.le_succ _) _).setCell (Nat.le_succ _) _).setCell (Nat.le_succ _) _)⟩
end Go.Proofs.Ytojkcejpihomhaa
