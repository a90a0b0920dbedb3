/- The contracts of udp.Port, palingref08.Port, udp.fits, udp.refused. The contract of udp.read: the four numbers ahead of a datagram's body. The contracts of udp.write and udp.Put. -/
import Derived.Test.YtgmeicenjgiihaaUdMath
import Derived.Test.YtgmeicenjgiihaaBsl
import Derived.RegionTactic
namespace Go.Proofs.Ytgmeicenjgiihaa
open Go.RowKit
open Go.Lib (byteCells)

theorem port_any (a b : Nat) (ha : a < 18446744073709551616) (hb : b < 18446744073709551616) (w : World) :
    Calls Try.prog 24 #[.int .u64 a, .int .u64 b] w fun e w' => e = .returned (.int .i64 (upF a b)) ∧ w = w' := by
  have X := xor_u64 a b ha hb
  have U := Lib.hid (show upF a b = 49152 + (((a ^^^ b : Nat) : Int) % 16384) by unfold upF; omega)
  generalize upF a b = u at *
  generalize a ^^^ b = x at *
  have x0 : (0 : Int) ≤ (x : Int) := by omega
  have q := Int.tmod_eq_emod_of_nonneg (b := 16384) x0
  go_enter Try.func24, Try.ntmps24
  go_wp2
  go_ret
  exact ⟨by rw [U.out]; rfl, rfl⟩

theorem fits_any (x : Int) (w : World) (v : Bool) (hv : (decide (0 ≤ x) && decide (x ≤ 65535)) = v) :
    Calls Try.prog 43 #[.int .i64 x] w fun e w' => e = .returned (.bool v) ∧ w = w' := by
  have V := Lib.hid hv
  clear hv
  by_cases h0 : 0 ≤ x
  · by_cases h1 : x ≤ 65535
    · have E := Lib.hid (show v = true by rw [← V.out]; simp; omega)
      go_enter Try.func43, Try.ntmps43
      go_wp2
      go_ret
      exact ⟨by rw [E.out]; simp; try omega, rfl⟩
    · have E := Lib.hid (show v = false by rw [← V.out]; simp; omega)
      go_enter Try.func43, Try.ntmps43
      go_wp2
      go_ret
      exact ⟨by rw [E.out]; simp; try omega, rfl⟩
  · have E := Lib.hid (show v = false by rw [← V.out]; simp; omega)
    go_enter Try.func43, Try.ntmps43
    go_wp2
    go_ret
    exact ⟨by rw [E.out]; simp; try omega, rfl⟩

/-- why bytes of these numbers are no datagram -/
def udR (v z : Int) (n : Nat) : Int := if v < 8 then 11 else if (n : Int) < v then 10 else if z = 0 then 0 else 12
theorem urefused_any (s d v z : Int) (n : Nat) (w : World) :
    Calls Try.prog 65 #[.agg #[.int .i64 s, .int .i64 d, .int .i64 v, .int .i64 z], .int .i64 n] w fun e w' => e = .returned (.int .i64 (udR v z n)) ∧ Below w.heap.size w w' := by
  by_cases h0 : v < 8
  · have E := Lib.hid (show udR v z n = 11 by unfold udR; rw [if_pos h0])
    generalize udR v z n = u at *
    go_enter Try.func65, Try.ntmps65
    go_wp2
    go_ret
    exact ⟨by rw [E.out]; rfl, (Below.refl _ _).alloc (Nat.le_refl _) _⟩
  · by_cases h1 : (n : Int) < v
    · have E := Lib.hid (show udR v z n = 10 by unfold udR; rw [if_neg h0, if_pos h1])
      generalize udR v z n = u at *
      go_enter Try.func65, Try.ntmps65
      go_wp2
      go_ret
      exact ⟨by rw [E.out]; rfl, (Below.refl _ _).alloc (Nat.le_refl _) _⟩
    · by_cases h2 : z = 0
      · have E := Lib.hid (show udR v z n = 0 by unfold udR; rw [if_neg h0, if_neg h1, if_pos h2])
        generalize udR v z n = u at *
        subst h2
        go_enter Try.func65, Try.ntmps65
        go_wp2
        go_ret
        exact ⟨by rw [E.out]; rfl, (Below.refl _ _).alloc (Nat.le_refl _) _⟩
      · have E := Lib.hid (show udR v z n = 12 by unfold udR; rw [if_neg h0, if_neg h1, if_neg h2])
        generalize udR v z n = u at *
        go_enter Try.func65, Try.ntmps65
        go_wp2
        go_ret
        exact ⟨by rw [E.out]; rfl, (Below.refl _ _).alloc (Nat.le_refl _) _⟩

theorem tdiv_two_pow (a i : Nat) : ((a / 2 ^ i : Nat) : Int).tdiv 2 = ((a / 2 ^ (i + 1) : Nat) : Int) := by
  rw [Nat.pow_succ, ← Nat.div_div_eq_div_mul]
  generalize a / 2 ^ i = x
  rw [Int.tdiv_eq_ediv_of_nonneg (by omega)]
  omega
set_option maxHeartbeats 1000000 in
theorem rport_any (a b : Nat) (ha : a < 18446744073709551616) (hb : b < 18446744073709551616) (w : World) :
    Calls Try.prog 29 #[.int .u64 a, .int .u64 b] w fun e w' => e = .returned (.int .i64 (upF a b)) ∧ w = w' := by
  have U := Lib.hid (show upF a b = 49152 + (((a ^^^ b) % 2 ^ 14 : Nat) : Int) from rfl)
  generalize upF a b = u at *
  have B := Lib.hid (fun i : Nat => xor_bits a b i)
  have DA := Lib.hid (fun i : Nat => tdiv_two_pow a i)
  have DB := Lib.hid (fun i : Nat => tdiv_two_pow b i)
  have MA := Lib.hid (fun i : Nat => Nat.lt_of_le_of_lt (Nat.div_le_self a (2 ^ i)) ha)
  have MB := Lib.hid (fun i : Nat => Nat.lt_of_le_of_lt (Nat.div_le_self b (2 ^ i)) hb)
  have ML := Lib.hid (fun i : Nat => Nat.mod_lt (a ^^^ b) (Nat.two_pow_pos i))
  generalize a ^^^ b = x at *
  go_enter Try.func29, Try.ntmps29
  go_wp2
  go_loopw [0, 1, 5, 6, 7] (fun va vb vn vt vi wr => ∃ i : Nat, i ≤ 14 ∧ va = .int .u64 ((a / 2 ^ i : Nat) : Int) ∧ vb = .int .u64 ((b / 2 ^ i : Nat) : Int) ∧ vn = .int .i64 ((x % 2 ^ i : Nat) : Int) ∧ vt = .int .i64 ((2 ^ i : Nat) : Int) ∧ vi = .int .i64 i ∧ wr = w) (fun _ _ _ _ vi _ => match vi with | .int _ y => (14 - y).toNat | _ => 0)
  case atStart => exact ⟨0, by omega, by simp, by simp, by simp [Nat.mod_one], by simp, rfl, rfl⟩
  case round =>
    obtain ⟨i, hi, rfl, rfl, rfl, rfl, rfl, rfl⟩ := hrel
    by_cases hlt : i < 14
    · have q1 := DA.out i
      have q2 := DB.out i
      have b1 := B.out i
      have m1 := MA.out i
      have m2 := MB.out i
      have m3 := ML.out i
      have n1 := MA.out (i + 1)
      have n2 := MB.out (i + 1)
      have p1 : 2 ^ i ≤ 2 ^ 14 := Nat.pow_le_pow_right (by omega) hi
      have p2 : 2 ^ (i + 1) = 2 * 2 ^ i := by rw [Nat.pow_succ, Nat.mul_comm]
      obtain ⟨a1, ha1⟩ : ∃ y, a / 2 ^ (i + 1) = y := ⟨_, rfl⟩
      obtain ⟨d1, hd1⟩ : ∃ y, b / 2 ^ (i + 1) = y := ⟨_, rfl⟩
      obtain ⟨y1, hy1⟩ : ∃ y, x % 2 ^ (i + 1) = y := ⟨_, rfl⟩
      obtain ⟨t1, ht1⟩ : ∃ y, 2 ^ (i + 1) = y := ⟨_, rfl⟩
      have G := Lib.hid (show a / 2 ^ (i + 1) = a1 ∧ b / 2 ^ (i + 1) = d1 ∧ x % 2 ^ (i + 1) = y1 ∧ 2 ^ (i + 1) = t1 from ⟨ha1, hd1, hy1, ht1⟩)
      rw [ha1] at q1 n1
      rw [hd1] at q2 n2
      rw [hy1] at b1
      rw [ht1] at p2
      clear ha1 hd1 hy1 ht1
      generalize x % 2 ^ i = y at *
      generalize a / 2 ^ i = a0 at *
      generalize b / 2 ^ i = b0 at *
      generalize 2 ^ i = t at *
      have r1 : (a0 : Int).tmod 2 = (a0 : Int) % 2 := Int.tmod_eq_emod_of_nonneg (by omega)
      have r2 : (b0 : Int).tmod 2 = (b0 : Int) % 2 := Int.tmod_eq_emod_of_nonneg (by omega)
      by_cases hq : a0 % 2 = b0 % 2
      · rw [if_pos hq] at b1
        have hq2 : (a0 : Int) % 2 = (b0 : Int) % 2 := by omega
        have R := Lib.hid (show (y1 : Int) = (y : Int) ∧ (t1 : Int) = (t : Int) * 2 by omega)
        clear hq b1 p2 B DA DB MA MB ML
        go_wp2
        go_roundw
        case rel => exact ⟨i + 1, by omega, by rw [G.out.1], by rw [G.out.2.1], by rw [G.out.2.2.1, R.out.1], by rw [G.out.2.2.2, R.out.2], by simp, trivial⟩
        case measure => simp only []; omega
      · rw [if_neg hq] at b1
        have hq2 : ¬ (a0 : Int) % 2 = (b0 : Int) % 2 := by omega
        have R := Lib.hid (show (y1 : Int) = (y : Int) + (t : Int) ∧ (t1 : Int) = (t : Int) * 2 by omega)
        clear hq b1 p2 B DA DB MA MB ML
        go_wp2
        go_roundw
        case rel => exact ⟨i + 1, by omega, by rw [G.out.1], by rw [G.out.2.1], by rw [G.out.2.2.1, R.out.1], by rw [G.out.2.2.2, R.out.2], by simp, trivial⟩
        case measure => simp only []; omega
    · obtain rfl : i = 14 := by omega
      go_wp2
      go_ret
      exact ⟨by rw [U.out]; rfl, rfl⟩
end Go.Proofs.Ytgmeicenjgiihaa

namespace Go.Proofs.Ytgmeicenjgiihaa
open Go.RowKit
open Go.Lib (byteCells)

/-- a block of four numbers, not frozen -/
def Arr (w : World) (q : Nat) (f : Nat → Int) : Prop := (∀ j, j < 4 → w.cell? ⟨q, j, none⟩ = some (.int .i64 (f j))) ∧ ∀ o, w.frozen? ⟨q, o, none⟩ = false
theorem Arr.lt {w : World} {q : Nat} {f : Nat → Int} (h : Arr w q f) : q < w.heap.size := World.block_lt_of_cell? w _ (h.1 0 (by omega))
theorem Arr.below {w w' : World} {q : Nat} {f : Nat → Int} (h : Arr w q f) (g : Below w.heap.size w w') : Arr w' q f :=
  ⟨fun j hj => (g.cell (p := ⟨q, j, none⟩) h.lt).trans (h.1 j hj), fun o => (g.frozen (p := ⟨q, o, none⟩) h.lt).trans (h.2 o)⟩
theorem Arr.drewN {w : World} {q : Nat} {f : Nat → Int} (h : Arr w q f) (m : Nat) : Arr (w.drewN m) q f := h
theorem Arr.drew {w : World} {q : Nat} {f : Nat → Int} (h : Arr w q f) : Arr w.drew q f := h
theorem Arr.far {w : World} {q p k : Nat} {f : Nat → Int} (h : Arr w q f) (hp : p ≠ q) (u : Value) : Arr (w.setCell ⟨p, k, none⟩ u) q f :=
  ⟨fun j hj => (World.cell?_setCell_other _ _ _ _ (by intro e; injection e with e1; exact hp e1)).trans (h.1 j hj), fun o => (World.frozen?_setCell _ _ _ _).trans (h.2 o)⟩
theorem Arr.set {w : World} {q k : Nat} {f g : Nat → Int} (h : Arr w q f) (hk : k < 4) (x : Int) (hx : g k = x) (hg : ∀ j, j < 4 → j ≠ k → g j = f j) : Arr (w.setCell ⟨q, k, none⟩ (.int .i64 x)) q g := by
  refine ⟨fun j hj => ?_, fun o => (World.frozen?_setCell _ _ _ _).trans (h.2 o)⟩
  by_cases e : j = k
  · subst e
    rw [hx]
    exact World.cell?_setCell_same _ _ _ (h.1 j hj)
  · rw [hg j hj e, ← h.1 j hj]
    exact World.cell?_setCell_other _ _ _ _ (by intro e2; injection e2 with _ e3; exact e e3.symm)
theorem Arr.new (w : World) (a b c d : Int) (e : TypeId) (q : Nat) (hq : q = w.heap.size) (f : Nat → Int) (h0 : f 0 = a) (h1 : f 1 = b) (h2 : f 2 = c) (h3 : f 3 = d) : Arr (w.alloc (.cells #[.int .i64 a, .int .i64 b, .int .i64 c, .int .i64 d] e)) q f := by
  subst hq h0 h1 h2 h3
  refine ⟨fun j hj => ?_, fun o => by simp⟩
  match j, hj with
  | 0, _ | 1, _ | 2, _ | 3, _ => simp
/-- the numbers that were read, up to the k-th -/
def rdN (l : List UInt8) (k j : Nat) : Int := if j < k then two l (2 * j) else 0

/-- four cells of a block written, one behind the other -/
def put4 (w : World) (q : Nat) (a b c d : Int) : World := (((w.setCell ⟨q, 0, none⟩ (.int .i64 a)).setCell ⟨q, 1, none⟩ (.int .i64 b)).setCell ⟨q, 2, none⟩ (.int .i64 c)).setCell ⟨q, 3, none⟩ (.int .i64 d)
def four4 (a b c d : Int) : Nat → Int
  | 0 => a
  | 1 => b
  | 2 => c
  | _ => d
theorem put4_arr {w : World} {q : Nat} {f : Nat → Int} (h : Arr w q f) (a b c d : Int) : Arr (put4 w q a b c d) q (four4 a b c d) := by
  have h0 := h.set (k := 0) (g := fun j => if j = 0 then a else f j) (by omega) a rfl (fun j _ e => if_neg e)
  have h1 := h0.set (k := 1) (g := fun j => if j = 0 then a else if j = 1 then b else f j) (by omega) b rfl (fun j _ e => by simp [e])
  have h2 := h1.set (k := 2) (g := fun j => if j = 0 then a else if j = 1 then b else if j = 2 then c else f j) (by omega) c rfl (fun j _ e => by simp [e])
  exact h2.set (k := 3) (g := four4 a b c d) (by omega) d rfl (fun j hj e => by
    match j, hj with
    | 0, _ | 1, _ | 2, _ => rfl
    | 3, _ => exact absurd rfl e)
theorem put4_below {B : Nat} {a w : World} {q : Nat} (r0 r1 r2 r3 : Int) (h : Below B a w) (hq : B ≤ q) : Below B a (put4 w q r0 r1 r2 r3) :=
  (((h.setCell hq _).setCell hq _).setCell hq _).setCell hq _

theorem uread_any (A : Option Addr) (n c : Nat) (l : List UInt8) (w : World) (h : BSl w A n c l) (hn : 8 ≤ n) (r0 r1 r2 r3 : Int) (h0 : two l 0 = r0) (h1 : two l 2 = r1) (h2 : two l 4 = r2) (h3 : two l 6 = r3) :
    Calls Try.prog 64 #[.slice A n c] w fun e w' => e = .returned (.agg #[.int .i64 r0, .int .i64 r1, .int .i64 r2, .int .i64 r3]) ∧ Below w.heap.size w w' := by
  obtain ⟨b, off, rfl, hb, hc⟩ := h.at_ (by omega)
  have HC := Lib.hid hc
  have HR := Lib.hid (show two l 0 = r0 ∧ two l 2 = r1 ∧ two l 4 = r2 ∧ two l 6 = r3 from ⟨h0, h1, h2, h3⟩)
  clear h hc h0 h1 h2 h3
  go_enter Try.func64, Try.ntmps64
  go_wp2
  go_loopw [5] (fun vi wr => ∃ k : Nat, k ≤ 4 ∧ vi = .int .i64 k ∧ Arr wr w.heap.size (fun _ => 0) ∧ Arr wr (w.heap.size + 1) (rdN l k) ∧ Below w.heap.size w wr) (fun vi _ => match vi with | .int _ y => (4 - y).toNat | _ => 0)
  case atStart => exact ⟨0, by omega, rfl, (Arr.new _ _ _ _ _ _ _ rfl _ rfl rfl rfl rfl).below ((Below.refl _ _).alloc (Nat.le_refl _) _), Arr.new _ _ _ _ _ _ _ (by simp) _ rfl rfl rfl rfl, two_alloc _ _ _⟩
  case round =>
    obtain ⟨k, hk, rfl, ho, hr, hb⟩ := hrel
    have O := Lib.hid ho
    have R := Lib.hid hr
    have B := Lib.hid hb
    have F := hr.2
    by_cases hlt : k < 4
    · have c0 := (hb.cell (p := ⟨b, off + 2 * k, none⟩) (by assumption)).trans (HC.out (2 * k) (by omega))
      have c1 := (hb.cell (p := ⟨b, off + (2 * k + 1), none⟩) (by assumption)).trans (HC.out (2 * k + 1) (by omega))
      have c2 := hr.1 k hlt
      have x0 := bat_lo l (2 * k)
      have x1 := bat_hi l (2 * k)
      have y0 := bat_lo l (2 * k + 1)
      have y1 := bat_hi l (2 * k + 1)
      have T := Lib.hid (show two l (2 * k) = bat l (2 * k) * 256 + bat l (2 * k + 1) from rfl)
      generalize bat l (2 * k) = x at *
      generalize bat l (2 * k + 1) = y at *
      generalize rdN l k k = z at c2
      have o := or_i64 x y x0 x1 y0 y1
      have i0 : (2 : Int) * (k : Int) < (n : Int) := by omega
      have i1 : (2 : Int) * (k : Int) + 1 < (n : Int) := by omega
      clear ho hr hb HC
      go_wp2
      go_region
      go_wp2
      go_roundw
      case rel =>
        refine ⟨k + 1, by omega, by simp, (O.out.far (by omega) _).drew, (R.out.set hlt _ ?_ ?_).drew, below_drewN (B.out.setCell (by simp) _) 1⟩
        · unfold rdN; rw [if_pos (by omega), T.out]
        · intro j _ hj; unfold rdN; by_cases h : j < k
          · rw [if_pos h, if_pos (by omega)]
          · rw [if_neg h, if_neg (by omega)]
      case measure => simp only []; omega
    · obtain rfl : k = 4 := by omega
      have z0 := ho.1 0 (by omega)
      have z1 := ho.1 1 (by omega)
      have z2 := ho.1 2 (by omega)
      have z3 := ho.1 3 (by omega)
      have zf := ho.2
      have q0 : wr.cell? ⟨w.heap.size + 1, 0, none⟩ = some (.int .i64 r0) := by rw [← HR.out.1]; exact hr.1 0 (by omega)
      have q1 : wr.cell? ⟨w.heap.size + 1, 1, none⟩ = some (.int .i64 r1) := by rw [← HR.out.2.1]; exact hr.1 1 (by omega)
      have q2 : wr.cell? ⟨w.heap.size + 1, 2, none⟩ = some (.int .i64 r2) := by rw [← HR.out.2.2.1]; exact hr.1 2 (by omega)
      have q3 : wr.cell? ⟨w.heap.size + 1, 3, none⟩ = some (.int .i64 r3) := by rw [← HR.out.2.2.2]; exact hr.1 3 (by omega)
      clear ho hr hb HC F
      go_wp2
      have P := put4_arr O.out r0 r1 r2 r3
      have G := put4_below r0 r1 r2 r3 B.out (Nat.le_refl _)
      change bodyPost _ _ _ _ _ (put4 wr w.heap.size r0 r1 r2 r3)
      generalize put4 wr w.heap.size r0 r1 r2 r3 = w2 at *
      have e0 : w2.cell? ⟨w.heap.size, 0, none⟩ = some (.int .i64 r0) := P.1 0 (by omega)
      have e1 : w2.cell? ⟨w.heap.size, 1, none⟩ = some (.int .i64 r1) := P.1 1 (by omega)
      have e2 : w2.cell? ⟨w.heap.size, 2, none⟩ = some (.int .i64 r2) := P.1 2 (by omega)
      have e3 : w2.cell? ⟨w.heap.size, 3, none⟩ = some (.int .i64 r3) := P.1 3 (by omega)
      exact bodyPost_ret (v := .agg #[.int .i64 r0, .int .i64 r1, .int .i64 r2, .int .i64 r3]) (by simp [results, Try.results64, go_sem, e0, e1, e2, e3]) rfl ⟨rfl, G⟩
end Go.Proofs.Ytgmeicenjgiihaa

namespace Go.Proofs.Ytgmeicenjgiihaa
open Go.RowKit
open Go.Lib (byteCells)

/-- the bytes of the first k of four numbers -/
def udw (a b c d : Int) : Nat → List UInt8
  | 0 => []
  | k + 1 => udw a b c d k ++ [u8 (four4 a b c d k / 256), u8 (four4 a b c d k % 256)]
theorem udw_all (S D : Int) (n : Nat) (h : uok S D) (hn : n ≤ 1472) : udw S D (8 + (n : Int)) 0 4 = udh S D n := by
  obtain ⟨⟨s0, s1⟩, ⟨d0, d1⟩⟩ := h
  show [] ++ [u8 (S / 256), u8 (S % 256)] ++ [u8 (D / 256), u8 (D % 256)] ++ [u8 ((8 + (n : Int)) / 256), u8 ((8 + (n : Int)) % 256)] ++ [u8 0, u8 0] = _
  unfold udh
  rw [Int.emod_eq_of_lt (show 0 ≤ S / 256 by omega) (by omega), Int.emod_eq_of_lt (show 0 ≤ D / 256 by omega) (by omega), Int.emod_eq_of_lt (show 0 ≤ (8 + (n : Int)) / 256 by omega) (by omega)]
  rfl
theorem run_index_four (a b c d : Int) (k : Nat) (hk : k < 4) (x : Int) (hx : four4 a b c d k = x) (w : World) : (Instr.index 83 (.agg #[.int .i64 a, .int .i64 b, .int .i64 c, .int .i64 d]) (.int .i64 k)).run Try.prog w = .ok (.int .i64 x) w := by
  subst hx
  match k, hk with
  | 0, _ | 1, _ | 2, _ | 3, _ => show Sem.run _ _ _ = Result.ok _ _; kernel_rfl
theorem four4_bd {a b c d : Int} (ha : 0 ≤ a ∧ a ≤ 65535) (hb : 0 ≤ b ∧ b ≤ 65535) (hc : 0 ≤ c ∧ c ≤ 65535) (hd : 0 ≤ d ∧ d ≤ 65535) (k : Nat) : 0 ≤ four4 a b c d k ∧ four4 a b c d k ≤ 65535 := by
  unfold four4
  split <;> assumption

set_option maxRecDepth 20000 in
set_option maxHeartbeats 1000000 in
theorem uwrite_any (a b c d : Int) (w : World) (ha : 0 ≤ a ∧ a ≤ 65535) (hb : 0 ≤ b ∧ b ≤ 65535) (hc : 0 ≤ c ∧ c ≤ 65535) (hd : 0 ≤ d ∧ d ≤ 65535) :
    Calls Try.prog 44 #[.agg #[.int .i64 a, .int .i64 b, .int .i64 c, .int .i64 d]] w fun e w' => ∃ v, e = .returned v ∧ w'.ownsRow w.heap.size 5 1 v 8 (byteCells (udw a b c d 4)) ∧ Below w.heap.size w w' := by
  obtain ⟨i0, hi, hz0, hz1, hz2⟩ := info_parts Try.info5
  have Hi := Lib.hid hi; have Hz0 := Lib.hid hz0; have Hz1 := Lib.hid hz1; have Hz2 := Lib.hid hz2
  have HX := Lib.hid (four4_bd ha hb hc hd)
  have RI := Lib.hid (run_index_four a b c d)
  have HW := Lib.hid (fun k => (show udw a b c d (k + 1) = udw a b c d k ++ [u8 (four4 a b c d k / 256), u8 (four4 a b c d k % 256)] from rfl))
  clear hi hz0 hz1 hz2 ha hb hc hd
  go_enter Try.func44, Try.ntmps44
  go_wp2
  go_loopw [3, 7] (fun v i wr => ∃ k : Nat, k ≤ 4 ∧ i = .int .i64 k ∧ wr.ownsRow w.heap.size 5 1 v (2 * k) (byteCells (udw a b c d k)) ∧ Below w.heap.size w wr) (fun _ i _ => match i with | .int _ x => (4 - x).toNat | _ => 0)
  case atStart => exact ⟨0, by omega, rfl, World.ownsRow_nil _ _ _ _, (Below.refl _ _).alloc (Nat.le_refl _) _⟩
  case round =>
    obtain ⟨k, hk, rfl, ho, hb⟩ := hrel
    have O := Lib.hid ho
    have B := Lib.hid hb
    clear ho hb
    by_cases hlt : k < 4
    · obtain ⟨x, hx⟩ : ∃ x, four4 a b c d k = x := ⟨_, rfl⟩
      obtain ⟨x0, x1⟩ := HX.out k
      have R := fun w => RI.out k hlt x hx w
      have E := Lib.hid (HW.out k)
      rw [hx] at x0 x1 E
      clear hx HX RI HW
      go_wp2_with (at_builtin; refine wpList_bapp rfl (.tmp 10) (.tmp 16) 22 rfl w.heap.size 5 i0 (.int .u8 0) 1 Try.underlying22 Hi.out Hz0.out Hz1.out Hz2.out rfl _ _ _ (by rfl) (O.out.alloc _) (some ⟨wr.heap.size, 0, none⟩) 2 2 [Go.Proofs.Ytgmeicenjgiihaa.u8 (x / 256), Go.Proofs.Ytgmeicenjgiihaa.u8 (x % 256)] (by rfl) (bsl_two wr _ _ ⟨by omega, by omega⟩ ⟨by omega, by omega⟩) (by unfold maxLen; omega) (by omega) (by have := B.out.size; simp at this ⊢; omega) ?_; intro v3 w3 hown3 hgrow3; have B3 := Lib.hid (below_app (B.out.alloc B.out.size _) (O.out.alloc _) hgrow3); rw [← bcells_app, ← E.out] at hown3; have O3 := Lib.hid hown3; clear hown3 hgrow3)
      go_roundw
      case rel => exact ⟨k + 1, by omega, by simp, O3.out, B3.out⟩
      case measure => simp only []; omega
    · obtain rfl : k = 4 := by omega
      go_wp2
      go_ret
      exact ⟨_, rfl, O.out, B.out⟩
end Go.Proofs.Ytgmeicenjgiihaa
