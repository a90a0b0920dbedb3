/- The contract of mac.Read: which address a text is, or that it is none. -/
import Derived.Test.YtiafhjjnihpaaaaText
import Derived.Lib.Bytealg
import Derived.Deep.DeepFit
namespace Go.Proofs.Ytiafhjjnihpaaaa
open Go.RowKit

/-- the number of a digit, or -1 -/
def dg (c : Int) : Int := if 48 ≤ c ∧ c ≤ 57 then c - 48 else if 97 ≤ c ∧ c ≤ 102 then c - 87 else -1
theorem dg_of (n : Nat) (h : n < 256) : Lib.indexByte digs.data.toList ((n : Int).toNat.toUInt8) = dg n := by
  have key : ∀ i : Fin 256, Lib.indexByte digs.data.toList (((i.val : Nat) : Int).toNat.toUInt8) = dg (i.val : Nat) := by decide +kernel
  exact key ⟨n, h⟩
theorem dg_lt (c : Int) : dg c < 16 := by unfold dg; split <;> (try split) <;> omega
theorem dg_ge (c : Int) : -1 ≤ dg c := by unfold dg; split <;> (try split) <;> omega

theorem indexByte_lite (c : Int) (w : World) (h0 : 0 ≤ c) (h1 : c < 256) :
    Calls Try.prog 27 #[.string digs, .int .u8 c] w fun e w' => e = .returned (.int .i64 (dg c)) ∧ w = w' := by
  obtain ⟨n, rfl⟩ := Int.eq_ofNat_of_zero_le h0
  have hd := Lib.hid (dg_of n (by omega))
  go_enter Try.func27, Try.ntmps27
  go_wp2
  rw [run_callFunc_extern Try.func28 (by kernel_rfl) (by kernel_rfl) (by kernel_rfl) (e := Extern.BytealgIndexByte.indexByte) (by kernel_rfl), Lib.run_indexByteString]
  simp only [Result.andThen]
  rw [Oper.upon_value]
  go_wp2
  go_ret
  exact ⟨by rw [← hd.out]; rfl, rfl⟩

theorem indexByte_any (c : Int) (w : World) (h0 : 0 ≤ c) (h1 : c < 256) :
    Calls Try.prog 23 #[.string digs, .int .u8 c] w fun e w' => e = .returned (.int .i64 (dg c)) ∧ w = w' := by
  go_enter Try.func23, Try.ntmps23
  go_wp2_with (go_at_call 27; refine (indexByte_lite _ _ h0 h1).mono ?_; rintro e w' ⟨rfl, rfl⟩)
  go_ret
  exact ⟨rfl, rfl⟩

/-- the byte at j -/
def sb (s : ByteArray) (j : Nat) : Int := ((s.data.toList.getD j 0).toNat : Int)
theorem sb_lo (s : ByteArray) (j : Nat) : 0 ≤ sb s j := by unfold sb; omega
theorem sb_hi (s : ByteArray) (j : Nat) : sb s j < 256 := by unfold sb; have := (s.data.toList.getD j 0).toNat_lt; omega
/-- is the address's byte j written as it should be? -/
def good (s : ByteArray) (j : Nat) : Prop := 0 ≤ dg (sb s (3 * j)) ∧ 0 ≤ dg (sb s (3 * j + 1)) ∧ (0 < j → sb s (3 * j - 1) = 58)
instance (s : ByteArray) (j : Nat) : Decidable (good s j) := by unfold good; infer_instance
/-- the number of the first k bytes -/
def val (s : ByteArray) : Nat → Int
  | 0 => 0
  | k + 1 => val s k * 256 + (dg (sb s (3 * k)) * 16 + dg (sb s (3 * k + 1)))
def rdB (s : ByteArray) : Bool := decide (s.size = 17) && (List.range 6).all fun j => decide (good s j)
theorem rdB_iff (s : ByteArray) : rdB s = true ↔ s.size = 17 ∧ ∀ j, j < 6 → good s j := by simp [rdB]
def rdV (s : ByteArray) : Int := if rdB s = true then val s 6 else 0
theorem val_bd (s : ByteArray) (k : Nat) (h : ∀ j, j < k → good s j) : 0 ≤ val s k ∧ val s k < 256 ^ k := by
  induction k with
  | zero => simp [val]
  | succ k ih =>
    obtain ⟨i0, i1⟩ := ih (fun j hj => h j (by omega))
    obtain ⟨g0, g1, _⟩ := h k (by omega)
    have := dg_lt (sb s (3 * k)); have := dg_lt (sb s (3 * k + 1))
    have e : (256 : Int) ^ (k + 1) = 256 ^ k * 256 := Int.pow_succ ..
    simp only [val]
    rw [e]
    omega
theorem run_index_sb (s : ByteArray) (j : Nat) (i : Int) (hi : i = (j : Int)) (hj : j < s.size) (w : World) : (Instr.index 9 (.string s) (.int .i64 i)).run Try.prog w = .ok (.int .u8 (sb s j)) w := by
  subst hi
  have h1 : ((j : Int)) < (s.size : Int) := by omega
  go_simp
  simp [sb, List.getD, List.getElem?_eq_getElem (show j < s.data.toList.length by simpa using hj)]
  rfl

theorem or_i64 (a b : Int) (h0 : 0 ≤ a) (h1 : a < 16) (h2 : 0 ≤ b) (h3 : b < 16) : bits .or .i64 (a * 16) b = a * 16 + b := by
  have k : ∀ i j : Fin 16, bits .or .i64 (((i.val : Nat) : Int) * 16) ((j.val : Nat) : Int) = ((i.val : Nat) : Int) * 16 + ((j.val : Nat) : Int) := by decide +kernel
  obtain ⟨A, rfl⟩ := Int.eq_ofNat_of_zero_le h0
  obtain ⟨B, rfl⟩ := Int.eq_ofNat_of_zero_le h2
  exact k ⟨A, by omega⟩ ⟨B, by omega⟩
theorem or_u64 (a b : Int) (h0 : 0 ≤ a) (h1 : a < 1099511627776) (h2 : 0 ≤ b) (h3 : b < 256) : bits .or .u64 (a * 256) b = a * 256 + b := by
  obtain ⟨A, rfl⟩ := Int.eq_ofNat_of_zero_le h0
  obtain ⟨B, rfl⟩ := Int.eq_ofNat_of_zero_le h2
  have e := u64_or_nat (A * 256) B (by omega) (by omega)
  have : A * 256 ||| B = A * 256 + B := by
    have := Nat.two_pow_add_eq_or_of_lt (i := 8) (b := B) (by omega) A
    rw [Nat.mul_comm] at this
    exact this.symm
  rw [this] at e
  rw [show (A : Int) * 256 = ((A * 256 : Nat) : Int) by omega, e]
  omega

set_option maxRecDepth 100000 in
theorem read_short (s : ByteArray) (w : World) (h : s.size ≠ 17) :
    Calls Try.prog 8 #[.string s] w fun e w' => e = .returned (.tuple #[.int .u64 0, .bool false]) ∧ w = w' := by
  have h' : ((s.size : Int) != 17) = true := by simp; omega
  clear h
  go_enter Try.func8, Try.ntmps8
  go_wp2
  go_ret2
  exact ⟨rfl, rfl⟩
theorem not_good {s : ByteArray} {k : Nat} (hk : k < 6) (h : ¬ good s k) : rdB s = false ∧ rdV s = 0 := by
  have hb : rdB s = false := by
    rcases hx : rdB s with _ | _
    · rfl
    · exact absurd (((rdB_iff s).1 hx).2 k hk) h
  exact ⟨hb, by simp [rdV, hb]⟩

set_option maxRecDepth 100000 in
set_option maxHeartbeats 1000000 in
theorem read_17 (s : ByteArray) (w : World) (hs : s.size = 17) :
    Calls Try.prog 8 #[.string s] w fun e w' => e = .returned (.tuple #[.int .u64 (rdV s), .bool (rdB s)]) ∧ w = w' := by
  have h' : ((s.size : Int) != 17) = false := by simp; omega
  have Hs := Lib.hid hs
  clear hs
  go_enter Try.func8, Try.ntmps8
  go_wp2
  go_loop [4, 12] (fun v i => ∃ k : Nat, k ≤ 6 ∧ i = .int .i64 k ∧ v = .int .u64 (val s k) ∧ ∀ j, j < k → good s j) (fun _ i => 6 - (intOf i).toNat)
  case atStart => exact ⟨0, by omega, rfl, rfl, fun j h => by omega⟩
  case round =>
    obtain ⟨k, hk, rfl, rfl, hgood⟩ := hrel
    have hsz := Hs.out
    by_cases hlt : k < 6
    · have x0 := run_index_sb s (3 * k) (k * 3) (by omega) (by omega)
      have x1 := run_index_sb s (3 * k + 1) (k * 3 + 1) (by omega) (by omega)
      have l0 := sb_lo s (3 * k)
      have l1 := sb_hi s (3 * k)
      have m0 := sb_lo s (3 * k + 1)
      have m1 := sb_hi s (3 * k + 1)
      have bd := val_bd s k hgood
      clear hsz
      by_cases g0 : dg (sb s (3 * k)) < 0
      · have HE := Lib.hid (not_good (s := s) hlt (fun hg => by have := hg.1; omega))
        clear bd
        go_wp2_with (go_at_call 23; (first | (with_reducible refine (indexByte_any (sb s (3 * k)) _ l0 l1).mono ?_) | (with_reducible refine (indexByte_any (sb s (3 * k + 1)) _ m0 m1).mono ?_)); rintro e w' ⟨rfl, rfl⟩)
        all_goals
          go_ret2
          exact ⟨by rw [HE.out.1, HE.out.2]; rfl, rfl⟩
      · by_cases g1 : dg (sb s (3 * k + 1)) < 0
        · have HE := Lib.hid (not_good (s := s) hlt (fun hg => by have := hg.2.1; omega))
          clear bd
          go_wp2_with (go_at_call 23; (first | (with_reducible refine (indexByte_any (sb s (3 * k)) _ l0 l1).mono ?_) | (with_reducible refine (indexByte_any (sb s (3 * k + 1)) _ m0 m1).mono ?_)); rintro e w' ⟨rfl, rfl⟩)
          all_goals
            go_ret2
            exact ⟨by rw [HE.out.1, HE.out.2]; rfl, rfl⟩
        · have d0 := dg_lt (sb s (3 * k))
          have d1 := dg_lt (sb s (3 * k + 1))
          have p40 : (256 : Int) ^ k ≤ 1099511627776 := by
            have : ∀ i : Fin 6, (256 : Int) ^ i.val ≤ 1099511627776 := by decide
            exact this ⟨k, hlt⟩
          have o1 := or_i64 (dg (sb s (3 * k))) (dg (sb s (3 * k + 1))) (by omega) d0 (by omega) d1
          have o2 := or_u64 (val s k) (dg (sb s (3 * k)) * 16 + dg (sb s (3 * k + 1))) bd.1 (by omega) (by omega) (by omega)
          obtain ⟨v0, v1⟩ := bd
          have v2 : val s k < 1099511627776 := by omega
          clear v1 p40
          by_cases k0 : 0 < k
          · have x2 := run_index_sb s (3 * k - 1) (k * 3 - 1) (by omega) (by have := Hs.out; omega)
            by_cases g2 : sb s (3 * k - 1) = 58
            · have HG := Lib.hid (show good s k from ⟨by omega, by omega, fun _ => g2⟩)
              have c2 : (sb s (3 * k - 1) != 58) = false := by simp [g2]
              clear g2
              go_wp2_with (go_at_call 23; (first | (with_reducible refine (indexByte_any (sb s (3 * k)) _ l0 l1).mono ?_) | (with_reducible refine (indexByte_any (sb s (3 * k + 1)) _ m0 m1).mono ?_)); rintro e w' ⟨rfl, rfl⟩)
              all_goals
                go_round
                case rel => exact ⟨k + 1, by omega, by go_num, rfl, fun j hj => by
                  rcases Nat.lt_or_ge j k with h | h
                  · exact hgood j h
                  · obtain rfl : j = k := by omega
                    exact HG.out⟩
                case measure => simp [intOf]; omega
            · have HE := Lib.hid (not_good (s := s) hlt (fun hg => g2 (hg.2.2 k0)))
              have c2 : (sb s (3 * k - 1) != 58) = true := by simp [g2]
              clear g2
              go_wp2_with (go_at_call 23; (first | (with_reducible refine (indexByte_any (sb s (3 * k)) _ l0 l1).mono ?_) | (with_reducible refine (indexByte_any (sb s (3 * k + 1)) _ m0 m1).mono ?_)); rintro e w' ⟨rfl, rfl⟩)
              all_goals
                go_ret2
                exact ⟨by rw [HE.out.1, HE.out.2]; rfl, rfl⟩
          · have HG := Lib.hid (show good s k from ⟨by omega, by omega, fun h => absurd h k0⟩)
            go_wp2_with (go_at_call 23; (first | (with_reducible refine (indexByte_any (sb s (3 * k)) _ l0 l1).mono ?_) | (with_reducible refine (indexByte_any (sb s (3 * k + 1)) _ m0 m1).mono ?_)); rintro e w' ⟨rfl, rfl⟩)
            all_goals
              go_round
              case rel => exact ⟨k + 1, by omega, by go_num, rfl, fun j hj => by
                rcases Nat.lt_or_ge j k with h | h
                · exact hgood j h
                · obtain rfl : j = k := by omega
                  exact HG.out⟩
              case measure => simp [intOf]; omega
    · obtain rfl : k = 6 := by omega
      have HB := Lib.hid (show rdB s = true ∧ rdV s = val s 6 from by
        have hb : rdB s = true := (rdB_iff s).2 ⟨hsz, hgood⟩
        exact ⟨hb, by simp [rdV, hb]⟩)
      clear hsz
      go_wp2
      go_ret2
      exact ⟨by rw [HB.out.1, HB.out.2]; rfl, rfl⟩

theorem read_any (s : ByteArray) (w : World) :
    Calls Try.prog 8 #[.string s] w fun e w' => e = .returned (.tuple #[.int .u64 (rdV s), .bool (rdB s)]) ∧ w = w' := by
  by_cases hs : s.size = 17
  · exact read_17 s w hs
  · have hb : rdB s = false := by simp [rdB, hs]
    have hv : rdV s = 0 := by simp [rdV, hb]
    rw [hb, hv]
    exact read_short s w hs
end Go.Proofs.Ytiafhjjnihpaaaa
