/- The walk of the statement SumBack. -/
import Derived.Test.YtcilbnfbmnfknaaSumWorks
import Derived.Test.YtcilbnfbmnfknaaOwnSet
namespace Go.Proofs.Ytcilbnfbmnfknaa
open Go.RowKit
open Go.Lib (byteCells)

theorem back_out (A : Option Addr) (n c : Nat) (k j : Int) (w : World) (h : n % 2 = 1 ∨ 3000 < n) :
    Calls Try.prog 5 #[.slice A n c, .int .u16 k, .int .u8 j] w fun e w' => e = .returned (.bool true) ∧ Below w.heap.size w w' := by
  by_cases ho : n % 2 = 1
  · go_enter Try.func5, Try.ntmps5
    go_wp2_with (go_at_call 11; (with_reducible refine (works06_any _).mono ?_); rintro e w1 ⟨rfl, hb1⟩)
    go_ret
    exact ⟨rfl, hb1⟩
  · have hn : 3000 < n := by omega
    go_enter Try.func5, Try.ntmps5
    go_wp2_with (go_at_call 11; (with_reducible refine (works06_any _).mono ?_); rintro e w1 ⟨rfl, hb1⟩)
    go_ret
    exact ⟨rfl, hb1⟩

/-- a byte with one bit turned -/
theorem xor_bit (x : Int) (j : Nat) (x0 : 0 ≤ x) (x1 : x < 256) (hj : j < 8) :
    ∃ y, bits .xor .u8 x (2 ^ j % 256) = y ∧ 0 ≤ y ∧ y < 256 ∧ (y = x + 2 ^ j ∨ y = x - 2 ^ j) := by
  obtain ⟨n, rfl⟩ := Int.eq_ofNat_of_zero_le x0
  refine ⟨_, rfl, ?_⟩
  have key : ∀ (i : Fin 256) (k : Fin 8), 0 ≤ bits .xor .u8 ((i.val : Nat) : Int) (2 ^ k.val % 256) ∧ bits .xor .u8 ((i.val : Nat) : Int) (2 ^ k.val % 256) < 256 ∧
      (bits .xor .u8 ((i.val : Nat) : Int) (2 ^ k.val % 256) = ((i.val : Nat) : Int) + 2 ^ k.val ∨ bits .xor .u8 ((i.val : Nat) : Int) (2 ^ k.val % 256) = ((i.val : Nat) : Int) - 2 ^ k.val) := by decide +kernel
  exact key ⟨n, by omega⟩ ⟨j, hj⟩

set_option maxHeartbeats 4000000 in
theorem back_in (A : Option Addr) (n c : Nat) (l : List UInt8) (k j : Int) (w : World) (h : BSl w A n c l) (he : n % 2 = 0) (hn : n ≤ 3000) (k0 : 0 ≤ k) (k1 : k < 65536) (j0 : 0 ≤ j) (j1 : j < 256) :
    Calls Try.prog 5 #[.slice A n c, .int .u16 k, .int .u8 j] w fun e w' => e = .returned (.bool true) ∧ Below w.heap.size w w' := by
  have hl := h.len
  obtain ⟨i0, hi, hz0, hz1, hz2⟩ := info_parts Try.info5
  have Hi := Lib.hid hi; have Hz0 := Lib.hid hz0; have Hz1 := Lib.hid hz1; have Hz2 := Lib.hid hz2
  have HS := Lib.hid h
  obtain ⟨s, hs⟩ : ∃ s, 65535 - sumF 0 l = s := ⟨_, rfl⟩
  have hsb : 0 ≤ s ∧ s ≤ 65535 := by have := sumF_bd l; omega
  obtain ⟨s0, s1⟩ := hsb
  have S := Lib.hid hs
  have ha : allF l = l ++ [u8 (s / 256), u8 (s % 256)] := by unfold allF; rw [hs]
  have hr := all_right l (by omega)
  have HT := fun k => all_turned l (by omega) k
  have hall : (allF l).length = n + 2 := by rw [ha]; simp; omega
  generalize allF l = L at *
  have HA := Lib.hid ha
  have HR := Lib.hid (show (sumF 0 L == 65535) = true by rw [hr]; rfl)
  have HT := Lib.hid HT
  have HL := Lib.hid hall
  clear h hi hz0 hz1 hz2 hs ha hr hall hl
  have i1 : (n : Int) ≤ 3000 := by omega
  have i2 : (n : Int) % 2 = 0 := by omega
  obtain ⟨K, hK, hK2⟩ : ∃ K : Nat, k % ((n : Int) + 2) = (K : Int) ∧ K < n + 2 := ⟨(k % ((n : Int) + 2)).toNat, by have := Int.emod_nonneg k (show ((n : Int) + 2) ≠ 0 by omega); omega, by have := Int.emod_nonneg k (show ((n : Int) + 2) ≠ 0 by omega); have := Int.emod_lt_of_pos k (show 0 < ((n : Int) + 2) by omega); omega⟩
  have i3 : (K : Int) < (n : Int) + 2 := by omega
  obtain ⟨x, hx⟩ : ∃ x, bat L K = x := ⟨_, rfl⟩
  have HX := Lib.hid hx
  have x0 : 0 ≤ x := hx ▸ bat_lo L K
  have x1 : x < 256 := hx ▸ bat_hi L K
  clear hx
  have j8 : (j % 8).toNat < 8 := by omega
  obtain ⟨y, hy, y0, y1, hy2⟩ := xor_bit x (j % 8).toNat x0 x1 j8
  have HY := Lib.hid (show (sumF 0 (L.set K (u8 y)) == 65535) = false by
    have := HT.out K (by rw [HL.out]; exact hK2) (u8 y) (j % 8).toNat j8 (by rw [u8_val y y0 y1, HX.out]; exact hy2)
    simpa using this)
  clear hy2 j8 HT
  clear HT
  go_enter Try.func5, Try.ntmps5
  go_wp2_with (first
    | (go_at_call 11; (with_reducible refine (works06_any _).mono ?_); rintro e w0 ⟨rfl, hb0⟩; have S0 := Lib.hid (HS.out.below hb0))
    | (go_at_call 7; (with_reducible refine (of_any A n c l _ S0.out s S.out).mono ?_); rintro e w1 ⟨rfl, hb1⟩; have S1 := Lib.hid (S0.out.below hb1); have B1 := Lib.hid (trans_below hb0 hb1))
    | (at_builtin; refine wpList_bapp rfl (.tmp 23) (.tmp 24) 22 rfl w.heap.size 5 i0 (.int .u8 0) 1 Try.underlying22 Hi.out Hz0.out Hz1.out Hz2.out rfl _ _ _ (by rfl) (own_new w1 w.heap.size B1.out.size) A n c l (by rfl) (S1.out.alloc _) (by unfold maxLen; omega) (by omega) (by have := B1.out.size; simp; omega) ?_; intro v2 w2 hown2 hgrow2; simp only [Nat.zero_add, List.nil_append] at hown2; have B2 := Lib.hid (below_app (B1.out.alloc B1.out.size _) (own_new w1 w.heap.size B1.out.size) hgrow2); have O2 := Lib.hid hown2)
    | (at_builtin; refine wpList_bapp rfl (.tmp 25) (.tmp 31) 22 rfl w.heap.size 5 i0 (.int .u8 0) 1 Try.underlying22 Hi.out Hz0.out Hz1.out Hz2.out rfl _ _ _ (by rfl) (O2.out.alloc _) (some ⟨w2.heap.size, 0, none⟩) 2 2 [u8 (s / 256), u8 (s % 256)] (by rfl) (bsl_two w2 _ _ ⟨by omega, by omega⟩ ⟨by omega, by omega⟩) (by unfold maxLen; omega) (by omega) (by have := B2.out.size; simp; omega) ?_; intro v3 w3 hown3 hgrow3; have B3 := Lib.hid (below_app (B2.out.alloc B2.out.size _) (O2.out.alloc _) hgrow3); rw [← bcells_app, ← HA.out] at hown3; obtain ⟨g, cap, rfl, hg0, hg1, hcap, hmax⟩ := own_form hown3 (by omega); have O3 := Lib.hid hown3)
    | (go_at_call 9; (with_reducible refine (right_any _ _ _ L _ (BSl.of_own O3.out) true HR.out).mono ?_); rintro e w4 ⟨rfl, hb4⟩; have O4 := Lib.hid (own_below O3.out hb4); have B4 := Lib.hid (trans_below B3.out hb4); have c4 := own_cellB O4.out K hK2; rw [HX.out] at c4; have f4 := own_free O4.out K; have O5 := Lib.hid (own_setB O4.out K y y0 y1); have B5 := Lib.hid (B4.out.setCell (p := ⟨g, K, none⟩) hg0 (.int .u8 y)))
    | (go_at_call 9; (with_reducible refine (right_any _ _ _ (L.set K (u8 y)) _ (BSl.of_own O5.out) false HY.out).mono ?_); rintro e w6 ⟨rfl, hb6⟩))
  go_ret
  exact ⟨rfl, trans_below B5.out hb6⟩

theorem sback_walk (A : Option Addr) (n c : Nat) (l : List UInt8) (k j : Int) (w : World) (h : BSl w A n c l) (k0 : 0 ≤ k) (k1 : k < 65536) (j0 : 0 ≤ j) (j1 : j < 256) :
    Calls Try.prog 5 #[.slice A n c, .int .u16 k, .int .u8 j] w fun e w' => e = .returned (.bool true) ∧ Below w.heap.size w w' := by
  by_cases ho : n % 2 = 1 ∨ 3000 < n
  · exact back_out A n c k j w ho
  · exact back_in A n c l k j w h (by omega) (by omega) k0 k1 j0 j1
end Go.Proofs.Ytcilbnfbmnfknaa
