/- The contracts of package sum's inner functions: the closure that adds, its maker, pair, fits. -/
import Derived.Test.YtgmeicenjgiihaaSumMath
namespace Go.Proofs.Ytgmeicenjgiihaa
open Go.RowKit
open Go.Lib (byteCells)

/-- the closure's own variable holds s -/
def Acc (w : World) (b : Nat) (s : Int) : Prop := w.cell? ⟨b, 0, none⟩ = some (.int .i64 s) ∧ w.frozen? ⟨b, 0, none⟩ = false
theorem Acc.lt {w : World} {b : Nat} {s : Int} (h : Acc w b s) : b < w.heap.size := World.block_lt_of_cell? w _ h.1
theorem Acc.set {w : World} {b : Nat} {s : Int} (h : Acc w b s) (x : Int) : Acc (w.setCell ⟨b, 0, none⟩ (.int .i64 x)) b x :=
  ⟨World.cell?_setCell_same _ _ _ h.1, (World.frozen?_setCell _ _ _ _).trans h.2⟩
theorem Acc.below {w w' : World} {b : Nat} {s : Int} (h : Acc w b s) (hb : Below w.heap.size w w') : Acc w' b s :=
  ⟨(hb.cell (p := ⟨b, 0, none⟩) h.lt).trans h.1, (hb.frozen (p := ⟨b, 0, none⟩) h.lt).trans h.2⟩
theorem and_65535 (x : Int) (h0 : 0 ≤ x) (h1 : x < 9223372036854775808) : bits .and .i64 x 65535 = x % 65536 := by
  obtain ⟨X, rfl⟩ := Int.eq_ofNat_of_zero_le h0
  have hx : X &&& 65535 < 2 ^ 63 := Nat.lt_of_le_of_lt Nat.and_le_right (by decide)
  show IntKind.i64.wrap ((BitVec.ofInt 64 (X : Int) &&& BitVec.ofInt 64 (65535 : Int)).toNat : Int) = _
  rw [BitVec.toNat_and, ofInt_u64 X (by omega), show (BitVec.ofInt 64 (65535 : Int)).toNat = 65535 from rfl, IntKind.wrap_i64]
  have := Nat.and_two_pow_sub_one_eq_mod X 16
  rw [show 2 ^ 16 - 1 = 65535 from rfl] at this
  rw [this]
  omega

theorem pair_any (x y : Int) (w : World) (x0 : 0 ≤ x) (x1 : x < 256) (y0 : 0 ≤ y) (y1 : y < 256) :
    Calls Try.prog 68 #[.int .u8 x, .int .u8 y] w fun e w' => e = .returned (.int .i64 (x * 256 + y)) ∧ w' = w := by
  have o1 := or_i64 x y x0 x1 y0 y1
  go_enter Try.func68, Try.ntmps68
  go_wp2
  go_ret
  exact ⟨rfl, rfl⟩
theorem adder_any (w : World) :
    Calls Try.prog 67 #[] w fun e w' => e = .returned (.func (.func 70) #[] #[.pointer (some ⟨w.heap.size, 0, none⟩)]) ∧ Acc w' w.heap.size 0 ∧ w.heap.size < w'.heap.size ∧ Below w.heap.size w w' := by
  go_enter Try.func67, Try.ntmps67
  go_wp2
  go_ret
  exact ⟨rfl, ⟨by go_simp, by go_simp⟩, by simp, (Below.refl _ _).alloc (Nat.le_refl _) _⟩

theorem add_any (a : World) (b : Nat) (s n : Int) (w : World) (hb : a.heap.size ≤ b) (hB : Below a.heap.size a w) (hA : Acc w b s) (s0 : 0 ≤ s) (s1 : s ≤ 65535) (n0 : 0 ≤ n) (n1 : n ≤ 65535) :
    Calls Try.prog 70 #[.int .i64 n, .pointer (some ⟨b, 0, none⟩)] w fun e w' => e = .returned (.int .i64 (dn s n)) ∧ Acc w' b (dn s n) ∧ Below a.heap.size a w' := by
  have HA := Lib.hid hA
  have HB := Lib.hid hB
  obtain ⟨c0, f0⟩ := hA
  clear hB
  by_cases hm : 65535 < s + n
  · have hd := Lib.hid (dn_more hm)
    have ha : bits .and .i64 (s + n) 65535 = s + n - 65536 := by rw [and_65535 _ (by omega) (by omega)]; omega
    have hq : (s + n) / 65536 = 1 := by omega
    go_enter Try.func70, Try.ntmps70
    go_wp2
    refine wp_loop_rounds 2 ?_
    rw [rounds_succ]
    go_wp2
    rw [rounds_succ]
    go_wp2
    go_ret
    have e : 1 + (s + n - 65536) = dn s n := by rw [hd.out]; omega
    rw [e]
    exact ⟨rfl, (HA.out.set _).set _, (HB.out.setCell hb _).setCell hb _⟩
  · have hd := Lib.hid (dn_less hm)
    go_enter Try.func70, Try.ntmps70
    go_wp2
    refine wp_loop_rounds 1 ?_
    rw [rounds_succ]
    go_wp2
    go_ret
    rw [← hd.out]
    exact ⟨rfl, HA.out.set _, HB.out.setCell hb _⟩
end Go.Proofs.Ytgmeicenjgiihaa
