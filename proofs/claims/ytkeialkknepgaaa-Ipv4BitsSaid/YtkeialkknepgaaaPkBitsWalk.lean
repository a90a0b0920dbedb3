/- The walk of the statement Ipv4Bits. -/
import Derived.Test.YtkeialkknepgaaaPkAny
import Derived.Test.YtkeialkknepgaaaPkBack
import Derived.Test.YtkeialkknepgaaaBit
namespace Go.Proofs.Ytkeialkknepgaaa
open Go.RowKit
open Go.Lib (byteCells)

set_option maxHeartbeats 2000000 in
theorem bits_bad (T I L R S D : Int) (A : Option Addr) (n c : Nat) (l : List UInt8) (k j : Int) (w : World) (hl : BSl w A n c l) (hS : 0 ≤ S ∧ S < 4294967296) (hD : 0 ≤ D ∧ D < 4294967296) (hE : ¬ pkE T I L R l.length = 0) :
    Calls Try.prog 7 #[.agg #[.int .i64 T, .int .i64 I, .int .i64 L, .int .i64 R, .int .u32 S, .int .u32 D, .slice A n c], .int .u8 k, .int .u8 j] w fun e w' => e = .returned (.bool true) ∧ Below w.heap.size w w' := by
  have X0 := Lib.hid (Box7.new w (.int .i64 T) (.int .i64 I) (.int .i64 L) (.int .i64 R) (.int .u32 S) (.int .u32 D) (.slice A n c) 26 w.heap.size rfl)
  have PP := Lib.hid (fun w h => pput_any T I L R S D A n c l w h hS hD)
  unfold GotPut at PP
  have HS := Lib.hid hl
  generalize ol (pkE T I L R l.length) (pbs T I L R S D l) = X at *
  generalize pkE T I L R l.length = E at *
  have Y1 : (E == 0) = false := by simpa using hE
  have Y2 : (E != 0) = true := by simpa using hE
  clear hl hE
  go_enter Try.func7, Try.ntmps7
  go_wp2_with (first
    | (go_at_call 8; (with_reducible refine (works07_any _).mono ?_); rintro e w1 ⟨rfl, hb1⟩; have B1 := Lib.hid hb1; have K1 := Lib.hid (X0.out.below hb1); obtain ⟨a0, a1, a2, a3, a4, a5, a6, af⟩ := K1.out; have az := K1.out.lt; clear hb1)
    | (go_at_call 12; (with_reducible refine (PP.out _ ((HS.out.alloc _).below B1.out)).mono ?_); rintro e w2 ⟨A2, n2, c2, rfl, s2, hb2⟩))
  go_ret
  exact ⟨by simp <;> omega, one_below (trans_below B1.out hb2)⟩

set_option maxHeartbeats 4000000 in
theorem bits_in (T I L R S D : Int) (A : Option Addr) (n c : Nat) (l : List UInt8) (k j : Int) (w : World) (hl : BSl w A n c l) (hS : 0 ≤ S ∧ S < 4294967296) (hD : 0 ≤ D ∧ D < 4294967296) (h : pok T I L R) (hn : n ≤ 1480) (k0 : 0 ≤ k) (k1 : k < 256) (j0 : 0 ≤ j) (j1 : j < 256) :
    Calls Try.prog 7 #[.agg #[.int .i64 T, .int .i64 I, .int .i64 L, .int .i64 R, .int .u32 S, .int .u32 D, .slice A n c], .int .u8 k, .int .u8 j] w fun e w' => e = .returned (.bool true) ∧ Below w.heap.size w w' := by
  have hlen := hl.len
  have X0 := Lib.hid (Box7.new w (.int .i64 T) (.int .i64 I) (.int .i64 L) (.int .i64 R) (.int .u32 S) (.int .u32 D) (.slice A n c) 26 w.heap.size rfl)
  have PP := Lib.hid (fun w hl => pput_ok T I L R S D A n c l w hl h hS hD hn)
  have HS := Lib.hid hl
  obtain ⟨K, hK, hK2⟩ : ∃ K : Nat, k % 20 = (K : Int) ∧ K < 20 := ⟨(k % 20).toNat, by omega, by omega⟩
  have i3 : (K : Int) < 20 + (n : Int) := by omega
  have j8 : (j % 8).toNat < 8 := by omega
  obtain ⟨x, hx⟩ : ∃ x, bat (pbs T I L R S D l) K = x := ⟨_, rfl⟩
  have x0 : 0 ≤ x := hx ▸ bat_lo _ K
  have x1 : x < 256 := hx ▸ bat_hi _ K
  obtain ⟨y, hy, y0, y1, hy2⟩ := xor_bit x (j % 8).toNat x0 x1 j8
  have hE := bits_no T I L R S D l h hS hD (by omega) K hK2 (Go.Proofs.Ytkeialkknepgaaa.u8 y) (j % 8).toNat j8 (by rw [u8_val y y0 y1, hx]; exact hy2)
  have HX := Lib.hid hx
  generalize pbs T I L R S D l = P at *
  have TK := Lib.hid (fun A n c w h => ptake_no A n c (P.set K (Go.Proofs.Ytkeialkknepgaaa.u8 y)) w h (by rcases hE with e | e | e <;> rw [e] <;> decide))
  generalize rE (P.set K (Go.Proofs.Ytkeialkknepgaaa.u8 y)) = E at *
  clear hl hx hy2 j8 h
  rcases hE with rfl | rfl | rfl
  all_goals
    go_enter Try.func7, Try.ntmps7
    go_wp2_with (first
      | (go_at_call 8; (with_reducible refine (works07_any _).mono ?_); rintro e w1 ⟨rfl, hb1⟩; have B1 := Lib.hid hb1; have K1 := Lib.hid (X0.out.below hb1); obtain ⟨a0, a1, a2, a3, a4, a5, a6, af⟩ := K1.out; have az := K1.out.lt; clear hb1)
      | (go_at_call 12; (with_reducible refine (PP.out _ ((HS.out.alloc _).below B1.out)).mono ?_); rintro e w2 ⟨v2, rfl, hown2, hb2⟩; obtain ⟨g, cap, rfl, hg0, hg1, hcap, hmax⟩ := own_form hown2 (by omega); have c2 := own_cellB hown2 K (by omega); rw [HX.out] at c2; have f2 := own_free hown2 K; have O3 := Lib.hid (own_setB hown2 K y y0 y1); have B3 := Lib.hid ((trans_below B1.out hb2).setCell (p := ⟨g, K, none⟩) (Nat.le_trans B1.out.size hg0) (.int .u8 y)); clear hown2 hb2)
      | (go_at_call 9; (with_reducible refine (TK.out _ _ _ _ (BSl.of_own O3.out)).mono ?_); rintro e w4 ⟨A4, n4, c4, rfl, s4, hb4⟩))
    go_ret
    exact ⟨by simp, one_below ((trans_below B3.out hb4).alloc (trans_below B3.out hb4).size _)⟩

theorem bits_walk (T I L R S D : Int) (A : Option Addr) (n c : Nat) (l : List UInt8) (k j : Int) (w : World) (hl : BSl w A n c l) (hS : 0 ≤ S ∧ S < 4294967296) (hD : 0 ≤ D ∧ D < 4294967296) (k0 : 0 ≤ k) (k1 : k < 256) (j0 : 0 ≤ j) (j1 : j < 256) :
    Calls Try.prog 7 #[.agg #[.int .i64 T, .int .i64 I, .int .i64 L, .int .i64 R, .int .u32 S, .int .u32 D, .slice A n c], .int .u8 k, .int .u8 j] w fun e w' => e = .returned (.bool true) ∧ Below w.heap.size w w' := by
  have hlen := hl.len
  rcases pkE_cases T I L R l.length with ⟨_, hp, hn⟩ | e | e
  · exact bits_in T I L R S D A n c l k j w hl hS hD hp (by omega) k0 k1 j0 j1
  · exact bits_bad T I L R S D A n c l k j w hl hS hD (by rw [e]; decide)
  · exact bits_bad T I L R S D A n c l k j w hl hS hD (by rw [e]; decide)
end Go.Proofs.Ytkeialkknepgaaa
