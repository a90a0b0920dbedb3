/- The contracts of packages mac's and palingref01's Take and Bytes: an address's six bytes. -/
import Derived.Test.YtgmeicenjgiihaaKeep
namespace Go.Proofs.Ytgmeicenjgiihaa
open Go.RowKit

/-- an address's byte i, the highest first -/
def byt (m : Int) (i : Nat) : Int := m / 256 ^ (5 - i) % 256
theorem byt_lo (m : Int) (i : Nat) : 0 ≤ byt m i := by unfold byt; exact Int.emod_nonneg _ (by decide)
theorem byt_hi (m : Int) (i : Nat) : byt m i < 256 := by unfold byt; exact Int.emod_lt_of_pos _ (by decide)
theorem byteAt_any (m : Int) (k : Nat) (w : World) (hk : k < 6) :
    Calls Try.prog 57 #[.int .u64 m, .int .i64 (k : Int)] w fun e w' => e = .returned (.int .u8 (byt m k)) ∧ w = w' := by
  have key : ∀ (j : Nat), j < 6 → Calls Try.prog 57 #[.int .u64 m, .int .i64 (j : Int)] w fun e w' => e = .returned (.int .u8 (byt m j)) ∧ w = w' := by
    intro j hj
    match j, hj with
    | 0, _ | 1, _ | 2, _ | 3, _ | 4, _ | 5, _ =>
      go_enter Try.func57, Try.ntmps57
      go_wp2
      go_ret
      exact ⟨by simp [byt], rfl⟩
  exact key k hk
/-- an address's first r bytes -/
def bytesPre (m : Int) : Nat → List Int
  | 0 => []
  | r + 1 => bytesPre m r ++ [byt m r]
theorem bytesPre_len (m : Int) (r : Nat) : (bytesPre m r).length = r := by
  induction r with
  | zero => rfl
  | succ r ih => simp [bytesPre, ih]

theorem div_more (m : Int) (k : Nat) : m / 256 ^ k / 256 = m / 256 ^ (k + 1) := by
  rw [Int.pow_succ, Int.ediv_ediv_of_nonneg (by exact Int.le_of_lt (Int.pow_pos (by decide)))]

theorem quo_u64 (x c : Int) (h0 : 0 ≤ x) (h1 : x < 18446744073709551616) (hc : 1 ≤ c) : IntKind.u64.wrap (x.tdiv c) = x / c := by
  rw [Int.tdiv_eq_ediv_of_nonneg h0]
  have h2 : 0 ≤ x / c := Int.ediv_nonneg h0 (by omega)
  have h3 : x / c ≤ x := Int.ediv_le_self c h0
  simp only [IntKind.wrap, IntKind.bits, IntKind.signed]
  have : x / c % 2 ^ 64 = x / c := Int.emod_eq_of_lt h2 (by omega)
  simpa using this

theorem pow_div_le (m : Int) (k : Nat) (h0 : 0 ≤ m) : 0 ≤ m / 256 ^ k ∧ m / 256 ^ k ≤ m :=
  ⟨Int.ediv_nonneg h0 (Int.le_of_lt (Int.pow_pos (by decide))), Int.ediv_le_self _ h0⟩

theorem bytes_more {a wr w1 : World} {m : Int} {r g cap : Nat} {u3 : Value} {o1 : Obj} (hbel : Below a.heap.size a wr)
    (hown : wr.ownsRow a.heap.size 5 1 u3 r ((bytesPre m r).map (Value.int .u8)))
    (hown1 : w1.ownsRow a.heap.size 5 1 (.slice (some ⟨g, 0, none⟩) (r + 1) cap) (r + 1) ((bytesPre m r).map (Value.int .u8) ++ [.int .u8 (byt m r)]))
    (hg1 : (wr.alloc o1).grownBy w1 u3.ownBlock) :
    w1.ownsRow a.heap.size 5 1 (.slice (some ⟨g, 0, none⟩) (r + 1) cap) (r + 1) ((bytesPre m (r + 1)).map (Value.int .u8)) ∧ Below a.heap.size a w1 := by
  have b1 := below_app (hbel.alloc hbel.size o1) (hown.alloc o1) hg1
  exact ⟨by simpa [bytesPre] using hown1, b1⟩

set_option maxRecDepth 20000 in
set_option maxHeartbeats 800000 in
theorem refBytes_any (m : Int) (w : World) (h0 : 0 ≤ m) (h1 : m < 18446744073709551616) :
    Calls Try.prog 48 #[.int .u64 m] w fun e w' => ∃ v, e = .returned v ∧ w'.ownsRow w.heap.size 5 1 v 6 ((bytesPre m 6).map (Value.int .u8)) ∧ Below w.heap.size w w' := by
  obtain ⟨i0, hi, hz0, hz1, hz2⟩ := info_parts Try.info5
  have Hi := Lib.hid hi; have Hz0 := Lib.hid hz0; have Hz1 := Lib.hid hz1; have Hz2 := Lib.hid hz2
  clear hi hz0 hz1 hz2
  go_enter Try.func48, Try.ntmps48
  go_wp2
  go_loopw [3, 4] (fun v i wr => ∃ r : Nat, r ≤ 6 ∧ i = .int .i64 (5 - (r : Int)) ∧ wr.ownsRow w.heap.size 5 1 v r ((bytesPre m r).map (Value.int .u8)) ∧ Below w.heap.size w wr) (fun _ i _ => (intOf i + 1).toNat)
  case atStart => exact ⟨0, by omega, rfl, World.ownsRow_nil _ _ _ _, Below.refl _ _⟩
  case round =>
    obtain ⟨r, hr, rfl, hown, hbel⟩ := hrel
    by_cases hlt : r < 6
    · obtain ⟨wo, rfl⟩ : ∃ wo : World, wo = wr := ⟨_, rfl⟩
      go_wp2
      go_loop [5, 6] (fun x k => ∃ j : Nat, j ≤ 5 - r ∧ k = .int .i64 j ∧ x = .int .u64 (m / 256 ^ j)) (fun _ k => 5 - r - (intOf k).toNat)
      case atStart => exact ⟨0, by omega, rfl, by simp⟩
      case round =>
        obtain ⟨j, hj, rfl, rfl⟩ := hrel
        obtain ⟨hn0, hn1⟩ := pow_div_le m j h0
        by_cases hlt2 : j < 5 - r
        · have hlt3 : (j : Int) < 5 - (r : Int) := by omega
          have hq : IntKind.u64.wrap ((m / 256 ^ j).tdiv 256) = m / 256 ^ (j + 1) := by rw [quo_u64 _ _ hn0 (by omega) (by omega), div_more]
          go_wp2
          go_round
          case rel => exact ⟨j + 1, by omega, by go_num, rfl⟩
          case measure => simp [intOf]; omega
        · obtain rfl : j = 5 - r := by omega
          go_wp2_with (at_builtin; refine wpList_append_lies _ rfl (.tmp 19) (.tmp 23) 22 rfl w.heap.size 5 i0 (.int .u8 0) 1 1 Try.underlying22 Hi.out Hz0.out Hz1.out Hz2.out rfl (by decide) _ _ _ (by rfl) (hown.alloc _) ⟨wo.heap.size, 0, none⟩ 1 1 [.int .u8 (byt m r)] (by rfl) rfl (World.news_of_block (heap_alloc_new wo _)) (by simp [Value.oneCell']) (by omega) (by unfold maxLen; omega) (by omega) (by have := hbel.size; simp; omega) _ rfl ?_; intro g cap w1 hown1 hgrow1 _ _)
          have hend := bytes_more hbel hown hown1 hgrow1
          clear hbel hown hown1 hgrow1
          go_wp2
          go_roundw
          case rel => exact ⟨r + 1, by omega, by go_num, hend.1, hend.2⟩
          case measure => simp [intOf]; omega
    · obtain rfl : r = 6 := by omega
      go_wp2
      go_ret
      exact ⟨_, rfl, hown, hbel⟩
theorem bytesPre_get (m : Int) (r j : Nat) (h : j < r) : (bytesPre m r)[j]? = some (byt m j) := by
  induction r with
  | zero => omega
  | succ r ih =>
    rw [bytesPre, List.getElem?_append, bytesPre_len]
    split
    · exact ih (by assumption)
    · obtain rfl : j = r := by omega
      simp

/-- the number of bytes, the highest first -/
def numOf (f : Nat → Int) : Nat → Int
  | 0 => 0
  | k + 1 => numOf f k * 256 + f k
theorem numOf_bd (f : Nat → Int) (n : Nat) (h : ∀ j, j < n → 0 ≤ f j ∧ f j < 256) : 0 ≤ numOf f n ∧ numOf f n < 256 ^ n := by
  induction n with
  | zero => simp [numOf]
  | succ n ih =>
    obtain ⟨i0, i1⟩ := ih (fun j hj => h j (by omega))
    obtain ⟨g0, g1⟩ := h n (by omega)
    have e : (256 : Int) ^ (n + 1) = 256 ^ n * 256 := Int.pow_succ ..
    simp only [numOf]
    rw [e]
    omega
theorem pow_le_40 (k : Nat) (h : k < 6) : (256 : Int) ^ k ≤ 1099511627776 := by
  have : ∀ i : Fin 6, (256 : Int) ^ i.val ≤ 1099511627776 := by decide
  exact this ⟨k, h⟩

theorem macNumber_any (b off len cap : Nat) (f : Nat → Int) (w : World) (hlen : len ≤ 6) (hcap : len ≤ cap) (hf : ∀ j, j < len → 0 ≤ f j ∧ f j < 256)
    (hc : ∀ j, j < len → w.cell? ⟨b, off + j, none⟩ = some (.int .u8 (f j))) :
    Calls Try.prog 66 #[.slice (some ⟨b, off, none⟩) len cap] w fun e w' => e = .returned (.int .u64 (numOf f len)) ∧ w = w' := by
  have HC := Lib.hid hc
  have HF := Lib.hid hf
  clear hc hf
  go_enter Try.func66, Try.ntmps66
  go_wp2
  go_loop [3, 4] (fun n i => ∃ k : Nat, k ≤ len ∧ i = .int .i64 k ∧ n = .int .u64 (numOf f k)) (fun _ i => len - (intOf i).toNat)
  case atStart => exact ⟨0, by omega, rfl, rfl⟩
  case round =>
    obtain ⟨k, hk, rfl, rfl⟩ := hrel
    by_cases hlt : k < len
    · have hcell := HC.out k hlt
      obtain ⟨f0, f1⟩ := HF.out k hlt
      obtain ⟨n0, n1⟩ := numOf_bd f k (fun j hj => HF.out j (by omega))
      have n2 := pow_le_40 k (by omega)
      have n3 : numOf f k < 1099511627776 := by omega
      clear n1 n2
      go_wp2
      go_round
      case rel => exact ⟨k + 1, by omega, by go_num, rfl⟩
      case measure => simp [intOf]; omega
    · obtain rfl : k = len := by omega
      go_wp2
      go_ret
      exact ⟨rfl, rfl⟩
theorem or_shift (a b : Int) (h0 : 0 ≤ a) (h1 : a < 1099511627776) (h2 : 0 ≤ b) (h3 : b < 256) : bits .or .u64 (a * 256) b = a * 256 + b := by
  obtain ⟨A, rfl⟩ := Int.eq_ofNat_of_zero_le h0
  obtain ⟨B, rfl⟩ := Int.eq_ofNat_of_zero_le h2
  have e := u64_or_nat (A * 256) B (by omega) (by omega)
  have : A * 256 ||| B = A * 256 + B := by
    have := Nat.two_pow_add_eq_or_of_lt (i := 8) (b := B) (by omega) A
    rw [Nat.mul_comm] at this
    exact this.symm
  rw [this] at e
  rw [show (A : Int) * 256 = ((A * 256 : Nat) : Int) by omega, e]
  omega

theorem take_yes (b off len cap at_ : Nat) (f : Nat → Int) (w : World) (hl : len ≤ cap) (hcap : cap ≤ 9223372036854775807) (h : at_ + 6 ≤ len)
    (hf : ∀ j, j < 6 → 0 ≤ f j ∧ f j < 256) (hc : ∀ j, j < 6 → w.cell? ⟨b, off + (at_ + j), none⟩ = some (.int .u8 (f j))) :
    Calls Try.prog 40 #[.slice (some ⟨b, off, none⟩) len cap, .int .i64 (at_ : Int)] w fun e w' => e = .returned (.tuple #[.int .u64 (numOf f 6), .bool true]) ∧ w = w' := by
  have HC := Lib.hid hc
  have HF := Lib.hid hf
  clear hc hf
  have ha : (at_ : Int) ≤ (len : Int) - 6 := by omega
  go_enter Try.func40, Try.ntmps40
  go_wp2
  go_loop [6, 17] (fun n i => ∃ k : Nat, k ≤ 6 ∧ i = .int .i64 k ∧ n = .int .u64 (numOf f k)) (fun _ i => 6 - (intOf i).toNat)
  case atStart => exact ⟨0, by omega, rfl, rfl⟩
  case round =>
    obtain ⟨k, hk, rfl, rfl⟩ := hrel
    by_cases hlt : k < 6
    · have hcell := HC.out k hlt
      obtain ⟨f0, f1⟩ := HF.out k hlt
      obtain ⟨n0, n1⟩ := numOf_bd f k (fun j hj => HF.out j (by omega))
      have n2 := pow_le_40 k (by omega)
      have n3 : numOf f k < 1099511627776 := by omega
      have o1 := or_shift (numOf f k) (f k) n0 n3 f0 f1
      clear n1 n2
      go_wp2
      go_round
      case rel => exact ⟨k + 1, by omega, by go_num, rfl⟩
      case measure => simp [intOf]; omega
    · obtain rfl : k = 6 := by omega
      go_wp2
      go_ret2
      exact ⟨rfl, rfl⟩
theorem refTake_yes (b off len cap at_ : Nat) (f : Nat → Int) (w : World) (hl : len ≤ cap) (hcap : cap ≤ 9223372036854775807) (h : at_ + 6 ≤ len)
    (hf : ∀ j, j < 6 → 0 ≤ f j ∧ f j < 256) (hc : ∀ j, j < 6 → w.cell? ⟨b, off + (at_ + j), none⟩ = some (.int .u8 (f j))) :
    Calls Try.prog 54 #[.slice (some ⟨b, off, none⟩) len cap, .int .i64 (at_ : Int)] w fun e w' => e = .returned (.tuple #[.int .u64 (numOf f 6), .bool true]) ∧ w = w' := by
  have HC := Lib.hid (show ∀ j, j < 6 → w.cell? ⟨b, off + at_ + j, none⟩ = some (.int .u8 (f j)) from fun j hj => by rw [Nat.add_assoc]; exact hc j hj)
  have HF := Lib.hid hf
  clear hc hf
  have h1 : ¬ (len : Int) < (at_ : Int) := by omega
  have h2 : ¬ (len : Int) - (at_ : Int) < 6 := by omega
  have h3 : (at_ : Int) + 6 ≤ (cap : Int) := by omega
  go_enter Try.func54, Try.ntmps54
  go_wp2_with (go_at_call 66; refine (macNumber_any b (off + at_) 6 _ f _ (by omega) (by omega) HF.out HC.out).mono ?_; rintro e w' ⟨rfl, rfl⟩)

  go_ret2
  exact ⟨rfl, rfl⟩
theorem num_byt (m : Int) (h0 : 0 ≤ m) (h1 : m < 281474976710656) : numOf (byt m) 6 = m := by
  simp only [numOf, byt, Nat.reduceSub, Int.reducePow]
  omega
end Go.Proofs.Ytgmeicenjgiihaa
