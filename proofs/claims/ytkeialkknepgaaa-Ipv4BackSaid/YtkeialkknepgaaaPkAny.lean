/- What ipv4's and palingref07's Take and Put come to, whole; the chapter's example. -/
import Derived.Test.YtkeialkknepgaaaPkTake
import Derived.Test.YtkeialkknepgaaaPkRTake
import Derived.Test.YtkeialkknepgaaaPkRPut
import Derived.Test.YtkeialkknepgaaaPkHop
import Derived.Test.YtkeialkknepgaaaPkSame
import Derived.Test.YtkeialkknepgaaaTwo
namespace Go.Proofs.Ytkeialkknepgaaa
open Go.RowKit
open Go.Lib (byteCells)

theorem oi_ok {x : Int} : oi 0 x = x := rfl
theorem ol_ok {l : List UInt8} : ol 0 l = l := rfl
theorem oi_no {E x : Int} (h : ¬ E = 0) : oi E x = 0 := by unfold oi; rw [if_neg h]
theorem ol_no {E : Int} {l : List UInt8} (h : ¬ E = 0) : ol E l = [] := by unfold ol; rw [if_neg h]
/-- what Take comes to -/
def GotTake (w : World) (l : List UInt8) : Ending → World → Prop :=
  GotP w (oi (rE l) (bat l 1)) (oi (rE l) (two l 4)) (oi (rE l) (bat l 8)) (oi (rE l) (bat l 9)) (oi (rE l) (four l 12)) (oi (rE l) (four l 16)) (ol (rE l) (bodyF l)) (rE l)
theorem ptake_any (A : Option Addr) (n c : Nat) (l : List UInt8) (w : World) (h : BSl w A n c l) (hn : n ≤ 1000000) : Calls Try.prog 9 #[.slice A n c] w (GotTake w l) := by
  unfold GotTake
  by_cases hE : rE l = 0
  · rw [hE]
    exact ptake_ok A n c l w h hn hE
  · rw [oi_no hE, oi_no hE, oi_no hE, oi_no hE, oi_no hE, oi_no hE, ol_no hE]
    exact ptake_no A n c l w h hE
theorem rtake_any (A : Option Addr) (n c : Nat) (l : List UInt8) (w : World) (h : BSl w A n c l) (hn : n ≤ 1000000) : Calls Try.prog 10 #[.slice A n c] w (GotTake w l) := by
  unfold GotTake
  by_cases hE : rE l = 0
  · rw [hE]
    exact rtake_ok A n c l w h hn hE
  · rw [oi_no hE, oi_no hE, oi_no hE, oi_no hE, oi_no hE, oi_no hE, ol_no hE]
    exact rtake_no A n c l w h hE
/-- why a packet can't be put -/
def pkE (T I L R : Int) (n : Nat) : Int := if pok T I L R then (if 1480 < n then 14 else 0) else 11
theorem pkE_form {T I L R : Int} {n : Nat} (h : ¬ pok T I L R) : pkE T I L R n = 11 := by unfold pkE; rw [if_neg h]
theorem pkE_long {T I L R : Int} {n : Nat} (h : pok T I L R) (g : 1480 < n) : pkE T I L R n = 14 := by unfold pkE; rw [if_pos h, if_pos g]
theorem pkE_ok {T I L R : Int} {n : Nat} (h : pok T I L R) (g : ¬ 1480 < n) : pkE T I L R n = 0 := by unfold pkE; rw [if_pos h, if_neg g]
theorem pkE_cases (T I L R : Int) (n : Nat) : (pkE T I L R n = 0 ∧ pok T I L R ∧ n ≤ 1480) ∨ pkE T I L R n = 11 ∨ pkE T I L R n = 14 := by
  by_cases h : pok T I L R
  · by_cases g : 1480 < n
    · exact .inr (.inr (pkE_long h g))
    · exact .inl ⟨pkE_ok h g, h, by omega⟩
  · exact .inr (.inl (pkE_form h))
/-- what Put comes to -/
def GotPut (w : World) (T I L R S D : Int) (l : List UInt8) : Ending → World → Prop := GotB w (ol (pkE T I L R l.length) (pbs T I L R S D l)) (pkE T I L R l.length)
theorem pput_any (T I L R S D : Int) (A : Option Addr) (n c : Nat) (l : List UInt8) (w : World) (h : BSl w A n c l) (hS : 0 ≤ S ∧ S < 4294967296) (hD : 0 ≤ D ∧ D < 4294967296) :
    Calls Try.prog 12 #[.agg #[.int .i64 T, .int .i64 I, .int .i64 L, .int .i64 R, .int .u32 S, .int .u32 D, .slice A n c]] w (GotPut w T I L R S D l) := by
  have hl := h.len
  unfold GotPut
  rw [hl]
  by_cases hp : pok T I L R
  · by_cases hn : 1480 < n
    · rw [pkE_long hp hn]
      exact (pput_long T I L R S D A n c w hp hn).mono fun _ _ ⟨he, hb⟩ => ⟨none, 0, 0, he, BSl.nil, hb⟩
    · rw [pkE_ok hp hn]
      exact (pput_ok T I L R S D A n c l w h hp hS hD (by omega)).mono fun _ _ ⟨v, he, ho, hb⟩ => by
        obtain ⟨A', c', rfl, h2⟩ := own_got ho
        exact ⟨A', 20 + n, c', he, h2, hb⟩
  · rw [pkE_form hp]
    exact (pput_form T I L R S D A n c w hp).mono fun _ _ ⟨he, hb⟩ => ⟨none, 0, 0, he, BSl.nil, hb⟩
theorem rput_any (T I L R S D : Int) (A : Option Addr) (n c : Nat) (l : List UInt8) (w : World) (h : BSl w A n c l) (hS : 0 ≤ S ∧ S < 4294967296) (hD : 0 ≤ D ∧ D < 4294967296) :
    Calls Try.prog 13 #[.agg #[.int .i64 T, .int .i64 I, .int .i64 L, .int .i64 R, .int .u32 S, .int .u32 D, .slice A n c]] w (GotPut w T I L R S D l) := by
  have hl := h.len
  unfold GotPut
  rw [hl]
  by_cases hp : pok T I L R
  · by_cases hn : 1480 < n
    · rw [pkE_long hp hn]
      exact (rput_long T I L R S D A n c w hp hn).mono fun _ _ ⟨he, hb⟩ => ⟨none, 0, 0, he, BSl.nil, hb⟩
    · rw [pkE_ok hp hn]
      exact (rput_ok T I L R S D A n c l w h hp hS hD (by omega)).mono fun _ _ ⟨v, he, ho, hb⟩ => by
        obtain ⟨A', c', rfl, h2⟩ := own_got ho
        exact ⟨A', 20 + n, c', he, h2, hb⟩
  · rw [pkE_form hp]
    exact (rput_form T I L R S D A n c w hp).mono fun _ _ ⟨he, hb⟩ => ⟨none, 0, 0, he, BSl.nil, hb⟩

theorem ex_10 : bat (pbs 0 0 64 17 3232235521 3232235719 (List.replicate 95 0)) 10 = 248 := by decide +kernel
theorem ex_11 : bat (pbs 0 0 64 17 3232235521 3232235719 (List.replicate 95 0)) 11 = 97 := by decide +kernel
set_option maxHeartbeats 1000000 in
theorem works07_any (w : World) : Calls Try.prog 8 #[] w fun e w' => e = .returned (.bool true) ∧ Below w.heap.size w w' := by
  obtain ⟨i0, hi, hz0, hz1, hz2⟩ := info_parts Try.info5
  have Hi := Lib.hid hi; have Hz0 := Lib.hid hz0; have Hz1 := Lib.hid hz1; have Hz2 := Lib.hid hz2
  have X10 := Lib.hid ex_10
  have X11 := Lib.hid ex_11
  clear hi hz0 hz1 hz2
  go_enter Try.func8, Try.ntmps8
  go_wp2_with (first
    | (at_make; refine wpList_make_full _ rfl _ _ 22 rfl w.heap.size 5 i0 (.int .u8 0) 1 Try.underlying22 Hi.out Hz0.out Hz1.out .i64 .i64 _ _ 95 rfl rfl rfl rfl (by rw [Hz2.out]; omega) (by unfold maxLen; omega) (Nat.le_refl _) ?_; intro w0 hown0 hgrow0; rw [zero_cells] at hown0; have B0 := Lib.hid (show Below w.heap.size w w0 from (Below.refl _ _).grown hgrow0 (Nat.le_refl _) (fun _ h => by cases h)); have S0 := Lib.hid (BSl.of_own hown0); clear hown0 hgrow0)
    | (go_at_call 12; (with_reducible refine (pput_ok 0 0 64 17 3232235521 3232235719 _ 95 95 (List.replicate 95 0) _ S0.out (by decide) (by decide) (by decide) (by decide)).mono ?_); rintro e w1 ⟨v1, rfl, hown1, hb1⟩; obtain ⟨g, cap, rfl, hg0, hg1, hcap, hmax⟩ := own_form hown1 (by decide); have O1 := Lib.hid hown1; have B1 := Lib.hid (trans_below B0.out hb1); clear hown1 hb1)
    | (go_at_call 9; (with_reducible refine (ptake_no none 0 0 [] _ BSl.nil (by decide)).mono ?_); rintro e w2 ⟨A2, n2, c2, rfl, s2, hb2⟩; have c10 := own_cellB (own_below O1.out hb2) 10 (by decide); have c11 := own_cellB (own_below O1.out hb2) 11 (by decide); rw [X10.out] at c10; rw [X11.out] at c11; have z2 : g < w2.heap.size := Nat.lt_of_lt_of_le hg1 hb2.size; have B2 := Lib.hid (trans_below B1.out hb2); rw [show rE [] = 10 from rfl]))
  go_ret
  exact ⟨rfl, B2.out.alloc B2.out.size _⟩
end Go.Proofs.Ytkeialkknepgaaa
