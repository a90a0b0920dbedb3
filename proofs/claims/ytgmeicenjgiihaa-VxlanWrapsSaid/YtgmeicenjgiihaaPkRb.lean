/- The contract of palingref07.bytes: so many bytes of a number. -/
import Derived.Test.YtgmeicenjgiihaaPkPut
import Derived.OwnWalk
import Derived.Laws.OwnMore
namespace Go.Proofs.Ytgmeicenjgiihaa
open Go.RowKit
open Go.Lib (byteCells)

theorem zero_cells (n : Nat) : (madeCells (Value.int .u8 0).cells (n * 1)).toList = byteCells (List.replicate n 0) := by
  rw [Nat.mul_one, show (Value.int .u8 0).cells = #[Value.int .u8 0] from rfl, toList_madeCells_one]
  simp [Lib.byteCells]
theorem wb_more : ∀ (k : Nat) (x : Int), wb (k + 1) x = u8 (x / 256 ^ k % 256) :: wb k x
  | 0, x => by simp [wb]
  | k + 1, x => by
    rw [wb, wb_more k (x / 256), wb]
    have e : x / 256 / 256 ^ k = x / 256 ^ (k + 1) := by
      rw [Int.ediv_ediv_of_nonneg (by decide), Int.pow_succ, Int.mul_comm]
    rw [e]
    rfl
theorem zeros_set (d j : Nat) (x : Int) : (List.replicate (d + 1) (0 : UInt8) ++ wb j x).set d (u8 (x / 256 ^ j % 256)) = List.replicate d 0 ++ wb (j + 1) x := by
  rw [wb_more, List.replicate_succ', List.append_assoc, List.set_append_right _ _ (by simp)]
  simp
theorem shr_pos (x : Int) (j : Nat) (h : 0 ≤ x) : 0 ≤ x / 256 ^ j ∧ x / 256 ^ j ≤ x :=
  ⟨Int.ediv_nonneg h (Int.le_of_lt (Int.pow_pos (by decide))), Int.ediv_le_self _ h⟩
theorem shr_next (x : Int) (j : Nat) : x / 256 ^ j / 256 = x / 256 ^ (j + 1) := by
  rw [Int.ediv_ediv_of_nonneg (Int.le_of_lt (Int.pow_pos (by decide))), Int.pow_succ]

set_option maxHeartbeats 2000000 in
theorem rbytes_any (x : Int) (W : Nat) (wi : Int) (hwi : wi = (W : Int)) (w : World) (hW : W ≤ 4) (x0 : 0 ≤ x) (x1 : x < 4294967296) :
    Calls Try.prog 50 #[.int .i64 x, .int .i64 wi] w fun e w' => ∃ v', e = .returned v' ∧ w'.ownsRow w.heap.size 5 1 v' W (byteCells (wb W x)) ∧ Below w.heap.size w w' := by
  subst hwi
  obtain ⟨i0, hi, hz0, hz1, hz2⟩ := info_parts Try.info5
  have Hi := Lib.hid hi; have Hz0 := Lib.hid hz0; have Hz1 := Lib.hid hz1; have Hz2 := Lib.hid hz2
  clear hi hz0 hz1 hz2
  go_enter Try.func50, Try.ntmps50
  go_wp2_with (at_make; refine wpList_make_full _ rfl _ _ 22 rfl w.heap.size 5 i0 (.int .u8 0) 1 Try.underlying22 Hi.out Hz0.out Hz1.out .i64 .i64 _ _ W rfl rfl rfl rfl (by rw [Hz2.out]; omega) (by unfold maxLen; omega) (Nat.le_refl _) ?_; intro w0 hown0 hgrow0; rw [zero_cells] at hown0; have B0 := Lib.hid (show Below w.heap.size w w0 from (Below.refl _ _).grown hgrow0 (Nat.le_refl _) (fun _ h => by cases h)); have O0 := Lib.hid hown0; clear hown0 hgrow0)
  go_loopw [0, 6] (fun y i wr => ∃ j : Nat, i = .int .i64 j ∧ y = .int .i64 (x / 256 ^ j) ∧ j ≤ W ∧ wr.ownsRow w.heap.size 5 1 (.slice (some ⟨w.heap.size, 0, none⟩) W W) W (byteCells (List.replicate (W - j) 0 ++ wb j x)) ∧ Below w.heap.size w wr) (fun _ i _ => match i with | .int _ x => (W - x).toNat | _ => 0)
  case atStart => exact ⟨0, rfl, by simp, by omega, by simpa [wb] using O0.out, B0.out⟩
  case round =>
    obtain ⟨j, rfl, rfl, hj, ho, hb⟩ := hrel
    have O := Lib.hid ho
    have B := Lib.hid hb
    clear ho hb O0 B0
    by_cases hlt : j < W
    · obtain ⟨d, hd0⟩ : ∃ d, W = j + 1 + d := ⟨W - j - 1, by omega⟩
      have hd2 : (W : Int) - 1 - (j : Int) = (d : Int) := by omega
      have hdW : (d : Int) < (W : Int) := by omega
      have hd := Lib.hid hd0
      have c0 := own_cellB O.out d (by omega)
      have f0 := own_free O.out d
      obtain ⟨y0, y1⟩ := shr_pos x j x0
      have E := Lib.hid (shr_next x j)
      have S := Lib.hid (own_setB O.out d (x / 256 ^ j % 256) (Int.emod_nonneg _ (by decide)) (Int.emod_lt_of_pos _ (by decide)))
      have Z := Lib.hid (show (List.replicate (W - j) (0 : UInt8) ++ wb j x).set d (u8 (x / 256 ^ j % 256)) = List.replicate (W - (j + 1)) 0 ++ wb (j + 1) x by
        rw [show W - j = d + 1 by omega, show W - (j + 1) = d by omega]
        exact zeros_set d j x)
      clear hd0
      generalize bat (List.replicate (W - j) 0 ++ wb j x) d = t at c0
      generalize x / 256 ^ j = y at *
      have q1 : y.tdiv 256 = y / 256 := Int.tdiv_eq_ediv_of_nonneg y0
      have q2 : y.tmod 256 = y % 256 := Int.tmod_eq_emod_of_nonneg y0
      go_wp2
      go_roundw
      case rel => exact ⟨j + 1, by simp, by rw [← E.out], by omega, by rw [← Z.out]; exact S.out, B.out.setCell (Nat.le_refl _) _⟩
      case measure => simp only []; omega
    · obtain rfl : j = W := by omega
      have O2 := Lib.hid (show wr.ownsRow w.heap.size 5 1 (.slice (some ⟨w.heap.size, 0, none⟩) j j) j (byteCells (wb j x)) by
        have := O.out
        rw [Nat.sub_self] at this
        exact this)
      go_wp2
      go_ret
      exact ⟨_, rfl, O2.out, B.out⟩
end Go.Proofs.Ytgmeicenjgiihaa
