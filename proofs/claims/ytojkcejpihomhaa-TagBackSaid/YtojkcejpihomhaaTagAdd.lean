/- The contract of tag.Add. -/
import Derived.Test.YtojkcejpihomhaaTag
namespace Go.Proofs.Ytojkcejpihomhaa
open Go.RowKit
open Go.Lib (byteCells)

/-- a tag's sixteen bits -/
def tg (v p : Int) : Int := p * 4096 + v
/-- a tagged frame's body -/
def tbs (v p T : Int) (l : List UInt8) : List UInt8 := [u8 (tg v p / 256), u8 (tg v p % 256)] ++ [u8 (T / 256), u8 (T % 256)] ++ l
theorem tbs_len (v p T : Int) (l : List UInt8) : (tbs v p T l).length = 4 + l.length := by simp [tbs]; omega
theorem tbs_cells (v p T : Int) (l : List UInt8) : byteCells (tbs v p T l) = byteCells [u8 (tg v p / 256), u8 (tg v p % 256)] ++ byteCells [u8 (T / 256), u8 (T % 256)] ++ byteCells l := by unfold tbs; rw [bcells_app, bcells_app]
theorem or_tag (v p : Int) (h0 : 0 ≤ p) (h1 : p ≤ 15) (h2 : 0 ≤ v) (h3 : v ≤ 4094) : bits .or .i64 (p * 4096) v = tg v p := by
  obtain ⟨A, rfl⟩ := Int.eq_ofNat_of_zero_le h0
  obtain ⟨B, rfl⟩ := Int.eq_ofNat_of_zero_le h2
  have e := i64_or_nat (A * 4096) B (by omega) (by omega)
  have : A * 4096 ||| B = A * 4096 + B := by
    have := Nat.two_pow_add_eq_or_of_lt (i := 12) (b := B) (by omega) A
    rw [Nat.mul_comm] at this
    exact this.symm
  rw [this] at e
  unfold tg
  rw [show (A : Int) * 4096 = ((A * 4096 : Nat) : Int) by omega, e]
  omega

set_option maxHeartbeats 1000000 in
theorem add_not (D S T v p : Int) (A : Option Addr) (n c : Nat) (w : World) (h : aE T v p n ≠ 0) :
    Calls Try.prog 12 #[.agg #[.int .u64 D, .int .u64 S, .int .i64 T, .slice A n c], .int .i64 v, .int .i64 p] w fun e w' => e = .returned (.tuple #[.agg #[.int .u64 0, .int .u64 0, .int .i64 0, .slice none 0 0], .int .i64 (aE T v p n)]) ∧ Below w.heap.size w w' := by
  have hne : ¬ aE T v p n = 0 := h
  have HR := Lib.hid (fun (w : World) => refused_any D S T v p A n c w)
  clear h
  generalize aE T v p n = E at hne HR
  go_enter Try.func12, Try.ntmps12
  go_wp2_with (go_at_call 17; (with_reducible refine (HR.out _).mono ?_); rintro e w1 ⟨rfl, hb1⟩; obtain ⟨p1, q1⟩ := bcell hb1; have z1 : w.heap.size + 1 < w1.heap.size := by { have := hb1.size; simp at this; omega })
  have hB : Below w.heap.size w w1 := two_below hb1
  exact bodyPost_ret (v := .tuple #[.agg #[.int .u64 0, .int .u64 0, .int .i64 0, .slice none 0 0], .int .i64 E]) (by simp [results, Try.results12, go_sem, p1]) rfl ⟨rfl, ((((hB.setCell (by simp) _).setCell (by simp) _).setCell (by simp) _).setCell (by simp) _)⟩

set_option maxHeartbeats 2000000 in
theorem add_ok (D S T v p : Int) (A : Option Addr) (n c : Nat) (l : List UInt8) (w : World) (hS : BSl w A n c l) (h : aE T v p n = 0) (v0 : 0 ≤ v) (v1 : v ≤ 4094) (p0 : 0 ≤ p) (p1 : p ≤ 15) (T0 : 0 ≤ T) (T1 : T ≤ 65535) (hn : n ≤ 1500) :
    Calls Try.prog 12 #[.agg #[.int .u64 D, .int .u64 S, .int .i64 T, .slice A n c], .int .i64 v, .int .i64 p] w fun e w' => ∃ A' c', e = .returned (.tuple #[.agg #[.int .u64 D, .int .u64 S, .int .i64 33024, .slice A' (4 + n) c'], .int .i64 0]) ∧
      w'.ownsRow w.heap.size 5 1 (.slice A' (4 + n) c') (4 + n) (byteCells (tbs v p T l)) ∧ Below w.heap.size w w' := by
  obtain ⟨i0, hi, hz0, hz1, hz2⟩ := info_parts Try.info5
  have Hi := Lib.hid hi; have Hz0 := Lib.hid hz0; have Hz1 := Lib.hid hz1; have Hz2 := Lib.hid hz2
  have HS := Lib.hid hS
  have HR := Lib.hid (show ∀ w : World, Calls Try.prog 17 #[.agg #[.int .u64 D, .int .u64 S, .int .i64 T, .slice A n c], .int .i64 v, .int .i64 p] w fun e w' => e = .returned (.int .i64 0) ∧ Below w.heap.size w w' by
    intro w
    have := refused_any D S T v p A n c w
    rwa [h] at this)
  have o1 := or_tag v p p0 p1 v0 v1
  have g0 : 0 ≤ tg v p := by unfold tg; omega
  have g1 : tg v p < 65536 := by unfold tg; omega
  have HC := Lib.hid (tbs_cells v p T l)
  generalize tbs v p T l = L at HC
  generalize tg v p = G at o1 g0 g1 HC
  clear hi hz0 hz1 hz2 hS h
  have hz : w.heap.size < w.heap.size + 1 + 1 := by omega
  go_enter Try.func12, Try.ntmps12
  go_wp2_with (first
    | (go_at_call 17; (with_reducible refine (HR.out _).mono ?_); rintro e w1 ⟨rfl, hb1⟩; obtain ⟨k1, q1⟩ := bcell hb1; have z1 : w.heap.size + 1 < w1.heap.size := by { have := hb1.size; simp at this; omega }; have z0 : w.heap.size < w1.heap.size := by omega)
    | (at_make; refine wpList_make_own _ rfl _ _ 23 rfl w1.heap.size 5 i0 (.int .u8 0) 1 Try.underlying23 Hi.out Hz0.out Hz1.out .i64 .i64 _ (4 + n) rfl rfl (by omega) (by rw [Hz2.out]; omega) (by unfold maxLen; omega) (Nat.le_refl _) ?_; intro w2 hown2 hgrow2; have hb2 : Below w1.heap.size w1 w2 := (Below.refl _ _).grown hgrow2 (Nat.le_refl _) (fun _ h => by cases h); obtain ⟨k2, q2⟩ := bcell hb2)
    | (go_at_call 18; (with_reducible refine (putPair_any w1 _ 0 [] G _ (by omega) g0 g1 hb2 hown2).mono ?_); rintro e w3 ⟨v3, rfl, hown3, hb3⟩; simp only [Nat.zero_add, List.nil_append] at hown3; obtain ⟨k3, q3⟩ := bcell hb3)
    | (go_at_call 18; (with_reducible refine (putPair_any w1 _ 2 _ T _ (by omega) T0 (by omega) hb3 hown3).mono ?_); rintro e w4 ⟨v4, rfl, hown4, hb4⟩; obtain ⟨k4, q4⟩ := bcell hb4)
    | (at_builtin; refine wpList_bapp rfl (.tmp 33) (.tmp 35) 23 rfl w1.heap.size 5 i0 (.int .u8 0) 1 Try.underlying23 Hi.out Hz0.out Hz1.out Hz2.out rfl _ _ _ (by rfl) hown4 A n c l (by rfl) (HS.out.below (trans_below (two_below hb1) hb4)) (by unfold maxLen; omega) (by omega) hb4.size ?_; intro v5 w5 hown5 hgrow5; have hb5 := below_app hb4 hown4 hgrow5; obtain ⟨A5, c5, rfl⟩ := own_shape hown5; obtain ⟨k5, q5⟩ := bcell hb5))
  have hB : Below w.heap.size w w5 := trans_below (two_below hb1) hb5
  have z5 := hB.size
  have z6 := hb1.size
  simp at z6
  rw [show 2 + 2 + n = 4 + n from rfl] at hown5 ⊢
  have e1 := fun o => (k5 (w.heap.size + 1) o z1).trans (k1 (w.heap.size + 1) o (by simp))
  exact bodyPost_ret (v := .tuple #[.agg #[.int .u64 D, .int .u64 S, .int .i64 33024, .slice A5 (4 + n) c5], .int .i64 0]) (by simp [results, Try.results12, go_sem, e1]) rfl
    ⟨A5, c5, rfl, own_base (own_far (own_far (own_far (own_far (own_far (own_far (by rw [HC.out]; exact hown5) (by show w.heap.size < _; omega) _) (by show w.heap.size < _; omega) _) (by show w.heap.size + 1 < _; omega) _) (by show w.heap.size + 1 < _; omega) _) (by show w.heap.size + 1 < _; omega) _) (by show w.heap.size + 1 < _; omega) _) (by omega),
      ((((((hB.setCell (Nat.le_refl _) _).setCell (Nat.le_refl _) _).setCell (Nat.le_succ _) _).setCell (Nat.le_succ _) _).setCell (Nat.le_succ _) _).setCell (Nat.le_succ _) _)⟩
end Go.Proofs.Ytojkcejpihomhaa
