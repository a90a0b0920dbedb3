/- The contract of ipv4.header. -/
import Derived.Test.YtgmeicenjgiihaaPkPut
namespace Go.Proofs.Ytgmeicenjgiihaa
open Go.RowKit
open Go.Lib (byteCells)

/-- a packet's box -/
abbrev pkBox (T I L R S D : Int) (A : Option Addr) (n c : Nat) : Obj := .cells #[.int .i64 T, .int .i64 I, .int .i64 L, .int .i64 R, .int .u32 S, .int .u32 D, .slice A n c] 61
theorem hd_of (T I L R S D : Int) (n : Nat) (s : Int) : [] ++ wbs 1 [69, T] ++ wbs 2 [20 + (n : Int), I, 0] ++ wbs 1 [L, R] ++ wbs 2 [s] ++ wbs 4 [S, D] = hd T I L R S D n s := by simp [wbs, hd]

set_option maxHeartbeats 2000000 in
theorem header_any (T I L R S D : Int) (A : Option Addr) (n c : Nat) (s : Int) (w : World) (h : pok T I L R) (hS : 0 ≤ S ∧ S < 4294967296) (hD : 0 ≤ D ∧ D < 4294967296) (hn : n ≤ 1480) (hs : 0 ≤ s ∧ s ≤ 65535) :
    Calls Try.prog 46 #[.agg #[.int .i64 T, .int .i64 I, .int .i64 L, .int .i64 R, .int .u32 S, .int .u32 D, .slice A n c], .int .i64 s] w fun e w' => ∃ A' c', e = .returned (.slice A' 20 c') ∧ w'.ownsRow w.heap.size 5 1 (.slice A' 20 c') 20 (byteCells (hd T I L R S D n s)) ∧ Below w.heap.size w w' := by
  obtain ⟨⟨t0, t1⟩, ⟨l0, l1⟩, ⟨r0, r1⟩, ⟨g0, g1⟩⟩ := h
  obtain ⟨S0, S1⟩ := hS
  obtain ⟨D0, D1⟩ := hD
  obtain ⟨s0, s1⟩ := hs
  have hz : w.heap.size < w.heap.size + 1 := by omega
  have R0 := Lib.hid ((Below.refl (w.alloc (.cells #[.int .i64 T, .int .i64 I, .int .i64 L, .int .i64 R, .int .u32 S, .int .u32 D, .slice A n c] 61)).heap.size (w.alloc (.cells #[.int .i64 T, .int .i64 I, .int .i64 L, .int .i64 R, .int .u32 S, .int .u32 D, .slice A n c] 61))).alloc (Nat.le_refl _) (.cells #[.int .u32 69, .int .u32 T] 34))
  have E := Lib.hid (hd_of T I L R S D n s)
  generalize hd T I L R S D n s = X at E
  go_enter Try.func46, Try.ntmps46
  go_wp2_with (first
    | (go_at_call 58; (with_reducible refine (put_any (w.alloc (.cells #[.int .i64 T, .int .i64 I, .int .i64 L, .int .i64 R, .int .u32 S, .int .u32 D, .slice A n c] 61)) (.slice none 0 0) 0 [] 1 1 rfl (w.heap.size + 1) 2 [69, T] _ (by omega) rfl (by omega) (by omega) R0.out (World.ownsRow_nil _ _ _ _) (Blk.new _ _ (by simp) _ _ rfl) (by simp; omega)).mono ?_); rintro e w1 ⟨v1, rfl, hown1, hb1⟩; obtain ⟨k1, q1⟩ := bcell hb1; have O1 := Lib.hid hown1; have B1 := Lib.hid hb1; have z1 : w.heap.size < w1.heap.size := by { have := hb1.size; simp at this; omega }; clear hown1 hb1)
    | (go_at_call 58; (with_reducible refine (put_any (w.alloc (.cells #[.int .i64 T, .int .i64 I, .int .i64 L, .int .i64 R, .int .u32 S, .int .u32 D, .slice A n c] 61)) v1 _ _ 2 2 rfl w1.heap.size 3 [20 + (n : Int), I, 0] _ (by omega) rfl (by omega) (by omega) (B1.out.alloc B1.out.size _) (O1.out.alloc _) (Blk.new _ _ rfl _ (#[.int .u32 (20 + (n : Int)), .int .u32 I, .int .u32 0]) rfl) (by simp; omega)).mono ?_); rintro e w2 ⟨v2, rfl, hown2, hb2⟩; obtain ⟨k2, q2⟩ := bcell hb2; have O2 := Lib.hid hown2; have B2 := Lib.hid hb2; have z2 : w.heap.size < w2.heap.size := by { have := hb2.size; simp at this; omega }; clear hown2 hb2 k1 q1)
    | (go_at_call 58; (with_reducible refine (put_any (w.alloc (.cells #[.int .i64 T, .int .i64 I, .int .i64 L, .int .i64 R, .int .u32 S, .int .u32 D, .slice A n c] 61)) v2 _ _ 1 1 rfl w2.heap.size 2 [L, R] _ (by omega) rfl (by omega) (by omega) (B2.out.alloc B2.out.size _) (O2.out.alloc _) (Blk.new _ _ rfl _ (#[.int .u32 L, .int .u32 R]) rfl) (by simp; omega)).mono ?_); rintro e w3 ⟨v3, rfl, hown3, hb3⟩; obtain ⟨k3, q3⟩ := bcell hb3; have O3 := Lib.hid hown3; have B3 := Lib.hid hb3; have z3 : w.heap.size < w3.heap.size := by { have := hb3.size; simp at this; omega }; clear hown3 hb3 k2 q2)
    | (go_at_call 58; (with_reducible refine (put_any (w.alloc (.cells #[.int .i64 T, .int .i64 I, .int .i64 L, .int .i64 R, .int .u32 S, .int .u32 D, .slice A n c] 61)) v3 _ _ 2 2 rfl w3.heap.size 1 [s] _ (by omega) rfl (by omega) (by omega) (B3.out.alloc B3.out.size _) (O3.out.alloc _) (Blk.new _ _ rfl _ (#[.int .u32 s]) rfl) (by simp; omega)).mono ?_); rintro e w4 ⟨v4, rfl, hown4, hb4⟩; obtain ⟨k4, q4⟩ := bcell hb4; have O4 := Lib.hid hown4; have B4 := Lib.hid hb4; have z4 : w.heap.size < w4.heap.size := by { have := hb4.size; simp at this; omega }; clear hown4 hb4 k3 q3)
    | (go_at_call 58; (with_reducible refine (put_any (w.alloc (.cells #[.int .i64 T, .int .i64 I, .int .i64 L, .int .i64 R, .int .u32 S, .int .u32 D, .slice A n c] 61)) v4 _ _ 4 4 rfl w4.heap.size 2 [S, D] _ (by omega) rfl (by omega) (by omega) (B4.out.alloc B4.out.size _) (O4.out.alloc _) (Blk.new _ _ rfl _ (#[.int .u32 S, .int .u32 D]) rfl) (by simp; omega)).mono ?_); rintro e w5 ⟨v5, rfl, hown5, hb5⟩; rw [E.out] at hown5; obtain ⟨A5, c5, rfl⟩ := own_shape hown5))
  go_ret
  exact ⟨A5, c5, rfl, own_base hown5 (by simp), one_below hb5⟩
end Go.Proofs.Ytgmeicenjgiihaa
