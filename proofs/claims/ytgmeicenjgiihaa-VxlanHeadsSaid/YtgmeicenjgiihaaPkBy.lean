/- The contracts of package ipv4's inner functions: number, size, fit; of palingref07's number and out. -/
import Derived.Test.YtgmeicenjgiihaaPkMath
import Derived.Test.YtgmeicenjgiihaaBsl
import Derived.Lib.SliceRun
namespace Go.Proofs.Ytgmeicenjgiihaa
open Go.RowKit
open Go.Lib (byteCells)

theorem or_u32 (a b : Int) (h0 : 0 ≤ a) (h1 : a < 16777216) (h2 : 0 ≤ b) (h3 : b < 256) : bits .or .u32 (a * 256) b = a * 256 + b := by
  obtain ⟨A, rfl⟩ := Int.eq_ofNat_of_zero_le h0
  obtain ⟨B, rfl⟩ := Int.eq_ofNat_of_zero_le h2
  have hx : A * 256 ||| B < 2 ^ 32 := Nat.or_lt_two_pow (by omega) (by omega)
  have e : A * 256 ||| B = A * 256 + B := by
    have := Nat.two_pow_add_eq_or_of_lt (i := 8) (b := B) (by omega) A
    rw [Nat.mul_comm] at this
    exact this.symm
  rw [show (A : Int) * 256 = ((A * 256 : Nat) : Int) by omega]
  show IntKind.u32.wrap ((BitVec.ofInt 32 ((A * 256 : Nat) : Int) ||| BitVec.ofInt 32 (B : Int)).toNat : Int) = _
  have f : ∀ n : Nat, n < 4294967296 → (BitVec.ofInt 32 (n : Int)).toNat = n := fun n hn => by
    rw [BitVec.toNat_ofInt]; omega
  rw [BitVec.toNat_or, f _ (by omega), f _ (by omega), e]
  rw [IntKind.wrap_u32]
  omega

theorem pow_bd (k : Nat) (h : k < 4) : (256 : Int) ^ k ≤ 16777216 := by
  match k, h with
  | 0, _ | 1, _ | 2, _ | 3, _ => decide

set_option maxHeartbeats 1000000 in
theorem number_any (A : Option Addr) (n c : Nat) (l : List UInt8) (w : World) (h : BSl w A n c l) (hn : n ≤ 4) (v : Int) (hv : be l = v) :
    Calls Try.prog 62 #[.slice A n c] w fun e w' => e = .returned (.int .u32 v) ∧ w' = w := by
  have HS := Lib.hid h
  have HL := Lib.hid h.len
  have HV := Lib.hid hv
  clear h hv
  go_enter Try.func62, Try.ntmps62
  go_wp2
  go_loopw [3, 8] (fun v i wr => ∃ k : Nat, v = .int .u32 (be (l.take k)) ∧ i = .int .i64 k ∧ wr = w ∧ k ≤ n) (fun _ i _ => match i with | .int _ x => (n - x).toNat | _ => 0)
  case atStart => exact ⟨0, rfl, rfl, rfl, by omega⟩
  case round =>
    obtain ⟨k, rfl, rfl, rfl, hk⟩ := hrel
    by_cases hlt : k < n
    · obtain ⟨b, off, rfl, hbb, hc⟩ := HS.out.at_ (by omega)
      have c0 := hc k hlt
      have x0 := bat_lo l k
      have x1 := bat_hi l k
      obtain ⟨s0, s1⟩ := be_take_bd l k (by rw [HL.out]; omega)
      have s2 := pow_bd k (by omega)
      have E := Lib.hid (be_take l k (by rw [HL.out]; exact hlt))
      generalize be (l.take k) = y at *
      generalize bat l k = x at *
      have y1 : y < 16777216 := by omega
      have o := or_u32 y x s0 y1 x0 x1
      clear hc s1 s2
      go_wp2
      go_roundw
      case rel => exact ⟨k + 1, by rw [E.out], by simp, trivial, by omega⟩
      case measure => simp only []; omega
    · have E := Lib.hid (show be (l.take k) = v by rw [List.take_of_length_le (by rw [HL.out]; omega)]; exact HV.out)
      go_wp2
      go_ret
      exact ⟨by rw [← E.out]; rfl, rfl⟩
theorem num2_at {b off n c : Nat} {l : List UInt8} {w : World} (h : BSl w (some ⟨b, off, none⟩) n c l) (i : Nat) (hi : i + 2 ≤ n) (v : Int) (hv : two l i = v) :
    Calls Try.prog 62 #[.slice (some ⟨b, off + i, none⟩) 2 (c - i)] w fun e w' => e = .returned (.int .u32 v) ∧ w' = w :=
  number_any _ 2 _ _ w (h.sub i 2 hi) (by omega) v (by rw [be_two l i (by rw [h.len]; exact hi)]; exact hv)
theorem num4_at {b off n c : Nat} {l : List UInt8} {w : World} (h : BSl w (some ⟨b, off, none⟩) n c l) (i : Nat) (hi : i + 4 ≤ n) (v : Int) (hv : four l i = v) :
    Calls Try.prog 62 #[.slice (some ⟨b, off + i, none⟩) 4 (c - i)] w fun e w' => e = .returned (.int .u32 v) ∧ w' = w :=
  number_any _ 4 _ _ w (h.sub i 4 hi) (by omega) v (by rw [be_four l i (by rw [h.len]; exact hi)]; exact hv)
theorem size_any (A : Option Addr) (n c : Nat) (l : List UInt8) (w : World) (h : BSl w A n c l) (hn : 20 ≤ n) (v : Int) (hv : two l 2 = v) :
    Calls Try.prog 63 #[.slice A n c] w fun e w' => e = .returned (.int .i64 v) ∧ w' = w := by
  have hle := h.le
  obtain ⟨v0, v1⟩ := two_bd l 2
  rw [hv] at v0 v1
  obtain ⟨b, off, rfl, hb, hc⟩ := h.at_ (by omega)
  have HN := Lib.hid (num2_at h 2 (by omega) v hv)
  clear h hc hv
  go_enter Try.func63, Try.ntmps63
  go_wp2_with (go_at_call 62; (with_reducible refine (HN.out).mono ?_); rintro e w1 ⟨rfl, rfl⟩)
  go_ret
  exact ⟨rfl, rfl⟩
theorem rnumber_any (A : Option Addr) (n c : Nat) (l : List UInt8) (w : World) (h : BSl w A n c l) (hn : n ≤ 4) (v : Int) (hv : be l = v) :
    Calls Try.prog 55 #[.slice A n c] w fun e w' => e = .returned (.int .i64 v) ∧ w' = w := by
  have HS := Lib.hid h
  have HL := Lib.hid h.len
  have HV := Lib.hid hv
  clear h hv
  go_enter Try.func55, Try.ntmps55
  go_wp2
  go_loopw [3, 4] (fun v i wr => ∃ k : Nat, v = .int .i64 (be (l.take k)) ∧ i = .int .i64 k ∧ wr = w ∧ k ≤ n) (fun _ i _ => match i with | .int _ x => (n - x).toNat | _ => 0)
  case atStart => exact ⟨0, rfl, rfl, rfl, by omega⟩
  case round =>
    obtain ⟨k, rfl, rfl, rfl, hk⟩ := hrel
    by_cases hlt : k < n
    · obtain ⟨b, off, rfl, hbb, hc⟩ := HS.out.at_ (by omega)
      have c0 := hc k hlt
      have x0 := bat_lo l k
      have x1 := bat_hi l k
      obtain ⟨s0, s1⟩ := be_take_bd l k (by rw [HL.out]; omega)
      have s2 := pow_bd k (by omega)
      have E := Lib.hid (be_take l k (by rw [HL.out]; exact hlt))
      generalize be (l.take k) = y at *
      generalize bat l k = x at *
      have y1 : y < 16777216 := by omega
      clear hc s1 s2
      go_wp2
      go_roundw
      case rel => exact ⟨k + 1, by rw [E.out], by simp, trivial, by omega⟩
      case measure => simp only []; omega
    · have E := Lib.hid (show be (l.take k) = v by rw [List.take_of_length_le (by rw [HL.out]; omega)]; exact HV.out)
      go_wp2
      go_ret
      exact ⟨by rw [← E.out]; rfl, rfl⟩
theorem rnum2_at {b off n c : Nat} {l : List UInt8} {w : World} (h : BSl w (some ⟨b, off, none⟩) n c l) (i : Nat) (hi : i + 2 ≤ n) (v : Int) (hv : two l i = v) :
    Calls Try.prog 55 #[.slice (some ⟨b, off + i, none⟩) 2 (c - i)] w fun e w' => e = .returned (.int .i64 v) ∧ w' = w :=
  rnumber_any _ 2 _ _ w (h.sub i 2 hi) (by omega) v (by rw [be_two l i (by rw [h.len]; exact hi)]; exact hv)
theorem rnum4_at {b off n c : Nat} {l : List UInt8} {w : World} (h : BSl w (some ⟨b, off, none⟩) n c l) (i : Nat) (hi : i + 4 ≤ n) (v : Int) (hv : four l i = v) :
    Calls Try.prog 55 #[.slice (some ⟨b, off + i, none⟩) 4 (c - i)] w fun e w' => e = .returned (.int .i64 v) ∧ w' = w :=
  rnumber_any _ 4 _ _ w (h.sub i 4 hi) (by omega) v (by rw [be_four l i (by rw [h.len]; exact hi)]; exact hv)

/-- are all numbers from 0 to m? -/
def fitF (m : Int) (xs : List Int) : Bool := xs.all fun x => decide (0 ≤ x) && decide (x ≤ m)
theorem fit_any (A : Option Addr) (n c : Nat) (xs : List Int) (m : Int) (w : World) (h : ISl w .i64 A n c xs) (v : Bool) (hv : fitF m xs = v) :
    Calls Try.prog 45 #[.int .i64 m, .slice A n c] w fun e w' => e = .returned (.bool v) ∧ w' = w := by
  have HS := Lib.hid h
  have HL := Lib.hid h.len
  have HV := Lib.hid hv
  have hcap := h.cap
  have hle := h.le
  clear h hv
  go_enter Try.func45, Try.ntmps45
  go_wp2
  go_loopw [9] (fun i wr => ∃ k : Nat, i = .int .i64 k ∧ wr = w ∧ k ≤ n ∧ fitF m (xs.drop k) = v) (fun i _ => match i with | .int _ x => (n - x).toNat | _ => 0)
  case atStart => exact ⟨0, rfl, rfl, by omega, HV.out⟩
  case round =>
    obtain ⟨k, rfl, rfl, hk, hf⟩ := hrel
    have HF := Lib.hid hf
    clear hf HV
    by_cases hlt : k < n
    · obtain ⟨b, off, rfl, hbb, hc⟩ := HS.out.2.2.2 (by omega)
      have c0 := hc k hlt
      have E := Lib.hid (show fitF m (xs.drop k) = ((decide (0 ≤ xs.getD k 0) && decide (xs.getD k 0 ≤ m)) && fitF m (xs.drop (k + 1))) by
        have hk2 : k < xs.length := by rw [HL.out]; exact hlt
        rw [List.drop_eq_getElem_cons hk2]
        unfold fitF
        rw [List.all_cons]
        simp [List.getD, hk2])
      generalize xs.getD k 0 = x at *
      clear hc
      by_cases h0 : x < 0
      · have E2 := Lib.hid (show v = false by rw [← HF.out, E.out]; simp; omega)
        go_wp2
        go_ret
        exact ⟨by rw [E2.out]; rfl, rfl⟩
      · by_cases h1 : m < x
        · have E2 := Lib.hid (show v = false by rw [← HF.out, E.out]; simp; omega)
          go_wp2
          go_ret
          exact ⟨by rw [E2.out]; rfl, rfl⟩
        · have E2 := Lib.hid (show fitF m (xs.drop (k + 1)) = v by
            rw [← HF.out, E.out]
            have e1 : decide (0 ≤ x) = true := by simp; omega
            have e2 : decide (x ≤ m) = true := by simp; omega
            rw [e1, e2]; rfl)
          go_wp2
          go_roundw
          case rel => exact ⟨k + 1, by simp, trivial, by omega, E2.out⟩
          case measure => simp only []; omega
    · have E := Lib.hid (show v = true by rw [← HF.out, List.drop_eq_nil_of_le (by rw [HL.out]; omega)]; rfl)
      go_wp2
      go_ret
      exact ⟨by rw [E.out]; rfl, rfl⟩
theorem out_any (x m : Int) (w : World) (v : Bool) (hv : (decide (x < 0) || decide (m < x)) = v) :
    Calls Try.prog 49 #[.int .i64 x, .int .i64 m] w fun e w' => e = .returned (.bool v) ∧ w' = w := by
  by_cases h0 : x < 0
  · have E := Lib.hid (show v = true by rw [← hv]; simp [h0])
    clear hv
    go_enter Try.func49, Try.ntmps49
    go_wp2
    go_ret
    exact ⟨by rw [E.out]; rfl, rfl⟩
  · by_cases h1 : m < x
    · have E := Lib.hid (show v = true by rw [← hv]; simp [h1])
      clear hv
      go_enter Try.func49, Try.ntmps49
      go_wp2
      go_ret
      exact ⟨by rw [E.out]; simp; try omega, rfl⟩
    · have E := Lib.hid (show v = false by rw [← hv]; simp; omega)
      clear hv
      go_enter Try.func49, Try.ntmps49
      go_wp2
      go_ret
      exact ⟨by rw [E.out]; simp; try omega, rfl⟩

end Go.Proofs.Ytgmeicenjgiihaa
