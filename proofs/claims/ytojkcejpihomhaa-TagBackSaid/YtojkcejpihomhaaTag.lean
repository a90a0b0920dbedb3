/- The contracts of tag.Is, tag.pair, tag.putPair and tag.refused. -/
import Derived.Test.YtojkcejpihomhaaTwo
import Derived.Test.YtojkcejpihomhaaFsm
namespace Go.Proofs.Ytojkcejpihomhaa
open Go.RowKit
open Go.Lib (byteCells)

theorem is_any (D S T : Int) (A : Option Addr) (n c : Nat) (w : World) :
    Calls Try.prog 11 #[.agg #[.int .u64 D, .int .u64 S, .int .i64 T, .slice A n c]] w fun e w' => e = .returned (.bool (T == 33024)) ∧ Below w.heap.size w w' := by
  go_enter Try.func11, Try.ntmps11
  go_wp2
  go_ret
  exact ⟨rfl, (Below.refl _ _).alloc (Nat.le_refl _) _⟩
theorem is_as (D S T : Int) (A : Option Addr) (n c : Nat) (w : World) (v : Bool) (h : (T == 33024) = v) :
    Calls Try.prog 11 #[.agg #[.int .u64 D, .int .u64 S, .int .i64 T, .slice A n c]] w fun e w' => e = .returned (.bool v) ∧ Below w.heap.size w w' := by
  rw [← h]
  exact is_any D S T A n c w

theorem pair_any (x y : Int) (w : World) (x0 : 0 ≤ x) (x1 : x < 256) (y0 : 0 ≤ y) (y1 : y < 256) :
    Calls Try.prog 15 #[.int .u8 x, .int .u8 y] w fun e w' => e = .returned (.int .i64 (x * 256 + y)) ∧ w' = w := by
  have o1 := or_i64 x y x0 x1 y0 y1
  go_enter Try.func15, Try.ntmps15
  go_wp2
  go_ret
  exact ⟨rfl, rfl⟩

set_option maxHeartbeats 1000000 in
theorem putPair_any (a : World) (v : Value) (n : Nat) (xs : List Value) (x : Int) (w : World) (hn : n ≤ 1000000) (x0 : 0 ≤ x) (x1 : x < 65536) (hb : Below a.heap.size a w) (hown : w.ownsRow a.heap.size 5 1 v n xs) :
    Calls Try.prog 18 #[v, .int .i64 x] w fun e w' => ∃ v', e = .returned v' ∧ w'.ownsRow a.heap.size 5 1 v' (n + 2) (xs ++ byteCells [u8 (x / 256), u8 (x % 256)]) ∧ Below a.heap.size a w' := by
  obtain ⟨i0, hi, hz0, hz1, hz2⟩ := info_parts Try.info5
  have Hi := Lib.hid hi; have Hz0 := Lib.hid hz0; have Hz1 := Lib.hid hz1; have Hz2 := Lib.hid hz2
  have HB := Lib.hid hb
  have HO := Lib.hid hown
  clear hi hz0 hz1 hz2 hb hown
  go_enter Try.func18, Try.ntmps18
  go_wp2_with (at_builtin; refine wpList_bapp rfl (.tmp 5) (.tmp 11) 23 rfl a.heap.size 5 i0 (.int .u8 0) 1 Try.underlying23 Hi.out Hz0.out Hz1.out Hz2.out rfl _ _ _ (by rfl) (HO.out.alloc _) (some ⟨w.heap.size, 0, none⟩) 2 2 [u8 (x / 256), u8 (x % 256)] (by rfl) (bsl_two w _ _ ⟨by omega, by omega⟩ ⟨by omega, by omega⟩) (by unfold maxLen; omega) (by omega) (by have := HB.out.size; simp at this ⊢; omega) ?_; intro v3 w3 hown3 hgrow3; have hB3 := below_app (HB.out.alloc HB.out.size _) (HO.out.alloc _) hgrow3)
  go_ret
  exact ⟨v3, rfl, hown3, hB3⟩

/-- why a frame cannot be given a tag, 0 of one that can -/
def aE (T v p : Int) (n : Nat) : Int := if T = 33024 ∨ v < 0 ∨ 4094 < v ∨ p < 0 ∨ 15 < p then 15 else if T < 0 ∨ 65535 < T then 11 else if 1500 < n then 14 else 0
theorem aE_tag {T v p : Int} {n : Nat} (h : T = 33024 ∨ v < 0 ∨ 4094 < v ∨ p < 0 ∨ 15 < p) : aE T v p n = 15 := by unfold aE; rw [if_pos h]
theorem aE_form {T v p : Int} {n : Nat} (h : ¬ (T = 33024 ∨ v < 0 ∨ 4094 < v ∨ p < 0 ∨ 15 < p)) (g : T < 0 ∨ 65535 < T) : aE T v p n = 11 := by unfold aE; rw [if_neg h, if_pos g]
theorem aE_long {T v p : Int} {n : Nat} (h : ¬ (T = 33024 ∨ v < 0 ∨ 4094 < v ∨ p < 0 ∨ 15 < p)) (g : ¬ (T < 0 ∨ 65535 < T)) (l : 1500 < n) : aE T v p n = 14 := by unfold aE; rw [if_neg h, if_neg g, if_pos l]
theorem aE_ok {T v p : Int} {n : Nat} (h : ¬ (T = 33024 ∨ v < 0 ∨ 4094 < v ∨ p < 0 ∨ 15 < p)) (g : ¬ (T < 0 ∨ 65535 < T)) (l : ¬ 1500 < n) : aE T v p n = 0 := by unfold aE; rw [if_neg h, if_neg g, if_neg l]
theorem aE_cases (T v p : Int) (n : Nat) : (aE T v p n = 0 ∧ T ≠ 33024 ∧ 0 ≤ v ∧ v ≤ 4094 ∧ 0 ≤ p ∧ p ≤ 15 ∧ 0 ≤ T ∧ T ≤ 65535 ∧ n ≤ 1500) ∨ aE T v p n = 15 ∨ aE T v p n = 11 ∨ aE T v p n = 14 := by
  by_cases h : T = 33024 ∨ v < 0 ∨ 4094 < v ∨ p < 0 ∨ 15 < p
  · exact .inr (.inl (aE_tag h))
  · by_cases g : T < 0 ∨ 65535 < T
    · exact .inr (.inr (.inl (aE_form h g)))
    · by_cases l : 1500 < n
      · exact .inr (.inr (.inr (aE_long h g l)))
      · exact .inl ⟨aE_ok h g l, by omega, by omega, by omega, by omega, by omega, by omega, by omega, by omega⟩

theorem refused_any (D S T v p : Int) (A : Option Addr) (n c : Nat) (w : World) :
    Calls Try.prog 17 #[.agg #[.int .u64 D, .int .u64 S, .int .i64 T, .slice A n c], .int .i64 v, .int .i64 p] w fun e w' => e = .returned (.int .i64 (aE T v p n)) ∧ Below w.heap.size w w' := by
  have hz : w.heap.size < w.heap.size + 1 := by omega
  by_cases hT : T = 33024
  · rw [aE_tag (.inl hT)]
    subst hT
    go_enter Try.func17, Try.ntmps17
    go_wp2_with (go_at_call 11; (with_reducible refine (is_as D S 33024 A n c _ true rfl).mono ?_); rintro e w1 ⟨rfl, hb1⟩; obtain ⟨p1, q1⟩ := bcell hb1)
    go_ret
    exact ⟨rfl, one_below hb1⟩
  · by_cases hv : v < 0
    · rw [aE_tag (.inr (.inl hv))]
      go_enter Try.func17, Try.ntmps17
      go_wp2_with (go_at_call 11; (with_reducible refine (is_as D S T A n c _ false (by simpa using hT)).mono ?_); rintro e w1 ⟨rfl, hb1⟩; obtain ⟨p1, q1⟩ := bcell hb1)
      go_ret
      exact ⟨rfl, one_below hb1⟩
    · by_cases hv2 : 4094 < v
      · rw [aE_tag (.inr (.inr (.inl hv2)))]
        go_enter Try.func17, Try.ntmps17
        go_wp2_with (go_at_call 11; (with_reducible refine (is_as D S T A n c _ false (by simpa using hT)).mono ?_); rintro e w1 ⟨rfl, hb1⟩; obtain ⟨p1, q1⟩ := bcell hb1)
        go_ret
        exact ⟨rfl, one_below hb1⟩
      · by_cases hp : p < 0
        · rw [aE_tag (.inr (.inr (.inr (.inl hp))))]
          go_enter Try.func17, Try.ntmps17
          go_wp2_with (go_at_call 11; (with_reducible refine (is_as D S T A n c _ false (by simpa using hT)).mono ?_); rintro e w1 ⟨rfl, hb1⟩; obtain ⟨p1, q1⟩ := bcell hb1)
          go_ret
          exact ⟨rfl, one_below hb1⟩
        · by_cases hp2 : 15 < p
          · rw [aE_tag (.inr (.inr (.inr (.inr hp2))))]
            go_enter Try.func17, Try.ntmps17
            go_wp2_with (go_at_call 11; (with_reducible refine (is_as D S T A n c _ false (by simpa using hT)).mono ?_); rintro e w1 ⟨rfl, hb1⟩; obtain ⟨p1, q1⟩ := bcell hb1)
            go_ret
            exact ⟨rfl, one_below hb1⟩
          · have h0 : ¬ (T = 33024 ∨ v < 0 ∨ 4094 < v ∨ p < 0 ∨ 15 < p) := by omega
            by_cases hT0 : T < 0
            · rw [aE_form h0 (.inl hT0)]
              clear h0
              go_enter Try.func17, Try.ntmps17
              go_wp2_with (go_at_call 11; (with_reducible refine (is_as D S T A n c _ false (by simpa using hT)).mono ?_); rintro e w1 ⟨rfl, hb1⟩; obtain ⟨p1, q1⟩ := bcell hb1)
              go_ret
              exact ⟨rfl, one_below hb1⟩
            · by_cases hT1 : 65535 < T
              · rw [aE_form h0 (.inr hT1)]
                clear h0
                go_enter Try.func17, Try.ntmps17
                go_wp2_with (go_at_call 11; (with_reducible refine (is_as D S T A n c _ false (by simpa using hT)).mono ?_); rintro e w1 ⟨rfl, hb1⟩; obtain ⟨p1, q1⟩ := bcell hb1)
                go_ret
                exact ⟨rfl, one_below hb1⟩
              · by_cases hn : 1500 < n
                · rw [aE_long h0 (by omega) hn]
                  clear h0
                  go_enter Try.func17, Try.ntmps17
                  go_wp2_with (go_at_call 11; (with_reducible refine (is_as D S T A n c _ false (by simpa using hT)).mono ?_); rintro e w1 ⟨rfl, hb1⟩; obtain ⟨p1, q1⟩ := bcell hb1)
                  go_ret
                  exact ⟨rfl, one_below hb1⟩
                · rw [aE_ok h0 (by omega) hn]
                  clear h0
                  go_enter Try.func17, Try.ntmps17
                  go_wp2_with (go_at_call 11; (with_reducible refine (is_as D S T A n c _ false (by simpa using hT)).mono ?_); rintro e w1 ⟨rfl, hb1⟩; obtain ⟨p1, q1⟩ := bcell hb1)
                  go_ret
                  exact ⟨rfl, one_below hb1⟩
end Go.Proofs.Ytojkcejpihomhaa
