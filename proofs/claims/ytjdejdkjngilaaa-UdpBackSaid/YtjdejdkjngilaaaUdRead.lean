/- The contract of udp.read: the four numbers ahead of a datagram's body. -/
import Derived.Test.YtjdejdkjngilaaaUdMath
import Derived.Test.YtjdejdkjngilaaaOwnSet
import Derived.RegionTactic
namespace Go.Proofs.Ytjdejdkjngilaaa
open Go.RowKit
open Go.Lib (byteCells)

/-- a block of four numbers, not frozen -/
def Arr (w : World) (q : Nat) (f : Nat → Int) : Prop := (∀ j, j < 4 → w.cell? ⟨q, j, none⟩ = some (.int .i64 (f j))) ∧ ∀ o, w.frozen? ⟨q, o, none⟩ = false
theorem Arr.lt {w : World} {q : Nat} {f : Nat → Int} (h : Arr w q f) : q < w.heap.size := World.block_lt_of_cell? w _ (h.1 0 (by omega))
theorem Arr.below {w w' : World} {q : Nat} {f : Nat → Int} (h : Arr w q f) (g : Below w.heap.size w w') : Arr w' q f :=
  ⟨fun j hj => (g.cell (p := ⟨q, j, none⟩) h.lt).trans (h.1 j hj), fun o => (g.frozen (p := ⟨q, o, none⟩) h.lt).trans (h.2 o)⟩
theorem Arr.drewN {w : World} {q : Nat} {f : Nat → Int} (h : Arr w q f) (m : Nat) : Arr (w.drewN m) q f := h
theorem Arr.drew {w : World} {q : Nat} {f : Nat → Int} (h : Arr w q f) : Arr w.drew q f := h
theorem Arr.far {w : World} {q p k : Nat} {f : Nat → Int} (h : Arr w q f) (hp : p ≠ q) (u : Value) : Arr (w.setCell ⟨p, k, none⟩ u) q f :=
  ⟨fun j hj => (World.cell?_setCell_other _ _ _ _ (by intro e; injection e with e1; exact hp e1)).trans (h.1 j hj), fun o => (World.frozen?_setCell _ _ _ _).trans (h.2 o)⟩
theorem Arr.set {w : World} {q k : Nat} {f g : Nat → Int} (h : Arr w q f) (hk : k < 4) (x : Int) (hx : g k = x) (hg : ∀ j, j < 4 → j ≠ k → g j = f j) : Arr (w.setCell ⟨q, k, none⟩ (.int .i64 x)) q g := by
  refine ⟨fun j hj => ?_, fun o => (World.frozen?_setCell _ _ _ _).trans (h.2 o)⟩
  by_cases e : j = k
  · subst e
    rw [hx]
    exact World.cell?_setCell_same _ _ _ (h.1 j hj)
  · rw [hg j hj e, ← h.1 j hj]
    exact World.cell?_setCell_other _ _ _ _ (by intro e2; injection e2 with _ e3; exact e e3.symm)
theorem Arr.new (w : World) (a b c d : Int) (e : TypeId) (q : Nat) (hq : q = w.heap.size) (f : Nat → Int) (h0 : f 0 = a) (h1 : f 1 = b) (h2 : f 2 = c) (h3 : f 3 = d) : Arr (w.alloc (.cells #[.int .i64 a, .int .i64 b, .int .i64 c, .int .i64 d] e)) q f := by
  subst hq h0 h1 h2 h3
  refine ⟨fun j hj => ?_, fun o => by simp⟩
  match j, hj with
  | 0, _ | 1, _ | 2, _ | 3, _ => simp
/-- the numbers that were read, up to the k-th -/
def rdN (l : List UInt8) (k j : Nat) : Int := if j < k then two l (2 * j) else 0

/-- four cells of a block written, one behind the other -/
def put4 (w : World) (q : Nat) (a b c d : Int) : World := (((w.setCell ⟨q, 0, none⟩ (.int .i64 a)).setCell ⟨q, 1, none⟩ (.int .i64 b)).setCell ⟨q, 2, none⟩ (.int .i64 c)).setCell ⟨q, 3, none⟩ (.int .i64 d)
def four4 (a b c d : Int) : Nat → Int
  | 0 => a
  | 1 => b
  | 2 => c
  | _ => d
theorem put4_arr {w : World} {q : Nat} {f : Nat → Int} (h : Arr w q f) (a b c d : Int) : Arr (put4 w q a b c d) q (four4 a b c d) := by
  have h0 := h.set (k := 0) (g := fun j => if j = 0 then a else f j) (by omega) a rfl (fun j _ e => if_neg e)
  have h1 := h0.set (k := 1) (g := fun j => if j = 0 then a else if j = 1 then b else f j) (by omega) b rfl (fun j _ e => by simp [e])
  have h2 := h1.set (k := 2) (g := fun j => if j = 0 then a else if j = 1 then b else if j = 2 then c else f j) (by omega) c rfl (fun j _ e => by simp [e])
  exact h2.set (k := 3) (g := four4 a b c d) (by omega) d rfl (fun j hj e => by
    match j, hj with
    | 0, _ | 1, _ | 2, _ => rfl
    | 3, _ => exact absurd rfl e)
theorem put4_below {B : Nat} {a w : World} {q : Nat} (r0 r1 r2 r3 : Int) (h : Below B a w) (hq : B ≤ q) : Below B a (put4 w q r0 r1 r2 r3) :=
  (((h.setCell hq _).setCell hq _).setCell hq _).setCell hq _

theorem uread_any (A : Option Addr) (n c : Nat) (l : List UInt8) (w : World) (h : BSl w A n c l) (hn : 8 ≤ n) (r0 r1 r2 r3 : Int) (h0 : two l 0 = r0) (h1 : two l 2 = r1) (h2 : two l 4 = r2) (h3 : two l 6 = r3) :
    Calls Try.prog 13 #[.slice A n c] w fun e w' => e = .returned (.agg #[.int .i64 r0, .int .i64 r1, .int .i64 r2, .int .i64 r3]) ∧ Below w.heap.size w w' := by
  obtain ⟨b, off, rfl, hb, hc⟩ := h.at_ (by omega)
  have HC := Lib.hid hc
  have HR := Lib.hid (show two l 0 = r0 ∧ two l 2 = r1 ∧ two l 4 = r2 ∧ two l 6 = r3 from ⟨h0, h1, h2, h3⟩)
  clear h hc h0 h1 h2 h3
  go_enter Try.func13, Try.ntmps13
  go_wp2
  go_loopw [5] (fun vi wr => ∃ k : Nat, k ≤ 4 ∧ vi = .int .i64 k ∧ Arr wr w.heap.size (fun _ => 0) ∧ Arr wr (w.heap.size + 1) (rdN l k) ∧ Below w.heap.size w wr) (fun vi _ => match vi with | .int _ y => (4 - y).toNat | _ => 0)
  case atStart => exact ⟨0, by omega, rfl, (Arr.new _ _ _ _ _ _ _ rfl _ rfl rfl rfl rfl).below ((Below.refl _ _).alloc (Nat.le_refl _) _), Arr.new _ _ _ _ _ _ _ (by simp) _ rfl rfl rfl rfl, two_alloc _ _ _⟩
  case round =>
    obtain ⟨k, hk, rfl, ho, hr, hb⟩ := hrel
    have O := Lib.hid ho
    have R := Lib.hid hr
    have B := Lib.hid hb
    have F := hr.2
    by_cases hlt : k < 4
    · have c0 := (hb.cell (p := ⟨b, off + 2 * k, none⟩) (by assumption)).trans (HC.out (2 * k) (by omega))
      have c1 := (hb.cell (p := ⟨b, off + (2 * k + 1), none⟩) (by assumption)).trans (HC.out (2 * k + 1) (by omega))
      have c2 := hr.1 k hlt
      have x0 := bat_lo l (2 * k)
      have x1 := bat_hi l (2 * k)
      have y0 := bat_lo l (2 * k + 1)
      have y1 := bat_hi l (2 * k + 1)
      have T := Lib.hid (show two l (2 * k) = bat l (2 * k) * 256 + bat l (2 * k + 1) from rfl)
      generalize bat l (2 * k) = x at *
      generalize bat l (2 * k + 1) = y at *
      generalize rdN l k k = z at c2
      have o := or_i64 x y x0 x1 y0 y1
      have i0 : (2 : Int) * (k : Int) < (n : Int) := by omega
      have i1 : (2 : Int) * (k : Int) + 1 < (n : Int) := by omega
      clear ho hr hb HC
      go_wp2
      go_region
      go_wp2
      go_roundw
      case rel =>
        refine ⟨k + 1, by omega, by simp, (O.out.far (by omega) _).drew, (R.out.set hlt _ ?_ ?_).drew, below_drewN (B.out.setCell (by simp) _) 1⟩
        · unfold rdN; rw [if_pos (by omega), T.out]
        · intro j _ hj; unfold rdN; by_cases h : j < k
          · rw [if_pos h, if_pos (by omega)]
          · rw [if_neg h, if_neg (by omega)]
      case measure => simp only []; omega
    · obtain rfl : k = 4 := by omega
      have z0 := ho.1 0 (by omega)
      have z1 := ho.1 1 (by omega)
      have z2 := ho.1 2 (by omega)
      have z3 := ho.1 3 (by omega)
      have zf := ho.2
      have q0 : wr.cell? ⟨w.heap.size + 1, 0, none⟩ = some (.int .i64 r0) := by rw [← HR.out.1]; exact hr.1 0 (by omega)
      have q1 : wr.cell? ⟨w.heap.size + 1, 1, none⟩ = some (.int .i64 r1) := by rw [← HR.out.2.1]; exact hr.1 1 (by omega)
      have q2 : wr.cell? ⟨w.heap.size + 1, 2, none⟩ = some (.int .i64 r2) := by rw [← HR.out.2.2.1]; exact hr.1 2 (by omega)
      have q3 : wr.cell? ⟨w.heap.size + 1, 3, none⟩ = some (.int .i64 r3) := by rw [← HR.out.2.2.2]; exact hr.1 3 (by omega)
      clear ho hr hb HC F
      go_wp2
      have P := put4_arr O.out r0 r1 r2 r3
      have G := put4_below r0 r1 r2 r3 B.out (Nat.le_refl _)
      change bodyPost _ _ _ _ _ (put4 wr w.heap.size r0 r1 r2 r3)
      generalize put4 wr w.heap.size r0 r1 r2 r3 = w2 at *
      have e0 : w2.cell? ⟨w.heap.size, 0, none⟩ = some (.int .i64 r0) := P.1 0 (by omega)
      have e1 : w2.cell? ⟨w.heap.size, 1, none⟩ = some (.int .i64 r1) := P.1 1 (by omega)
      have e2 : w2.cell? ⟨w.heap.size, 2, none⟩ = some (.int .i64 r2) := P.1 2 (by omega)
      have e3 : w2.cell? ⟨w.heap.size, 3, none⟩ = some (.int .i64 r3) := P.1 3 (by omega)
      exact bodyPost_ret (v := .agg #[.int .i64 r0, .int .i64 r1, .int .i64 r2, .int .i64 r3]) (by simp [results, Try.results13, go_sem, e0, e1, e2, e3]) rfl ⟨rfl, G⟩
end Go.Proofs.Ytjdejdkjngilaaa
