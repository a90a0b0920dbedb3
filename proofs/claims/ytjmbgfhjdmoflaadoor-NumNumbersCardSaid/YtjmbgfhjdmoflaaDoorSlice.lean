/- A slice of integers that reads as a list, nil or not; the contracts of rising and Rising. -/
import Derived.Test.YtjmbgfhjdmoflaaDoorBase
import Derived.Test.YtjmbgfhjdmoflaaDoorSeq
import Derived.Test.YtjmbgfhjdmoflaaDoorNumMath
namespace Go.Proofs.YtjmbgfhjdmoflaaDoor
open Go.RowKit

/-- The slice's elements read as the numbers xs. -/
def ISl (w : World) (k : IntKind) (A : Option Addr) (n c : Nat) (xs : List Int) : Prop :=
  xs.length = n ∧ n ≤ c ∧ c ≤ maxLen ∧ (0 < n → ∃ b off, A = some ⟨b, off, none⟩ ∧ b < w.heap.size ∧ ∀ j, j < n → w.cell? ⟨b, off + j, none⟩ = some (.int k (xs.getD j 0)))
section
variable {w w' : World} {k : IntKind} {A : Option Addr} {n c : Nat} {xs : List Int}
theorem ISl.below (h : ISl w k A n c xs) (hb : Below w.heap.size w w') : ISl w' k A n c xs :=
  ⟨h.1, h.2.1, h.2.2.1, fun hn => by
    obtain ⟨b, off, e, hl, hc⟩ := h.2.2.2 hn
    exact ⟨b, off, e, Nat.lt_of_lt_of_le hl hb.size, fun j hj => (hb.cell (p := ⟨b, off + j, none⟩) hl).trans (hc j hj)⟩⟩
theorem ISl.alloc (h : ISl w k A n c xs) (o : Obj) : ISl (w.alloc o) k A n c xs := h.below ((Below.refl _ _).alloc (Nat.le_refl _) o)
theorem ISl.drewN (h : ISl w k A n c xs) (m : Nat) : ISl (w.drewN m) k A n c xs := h
theorem ISl.drew (h : ISl w k A n c xs) (hd : Drew w w') : ISl w' k A n c xs := by obtain ⟨m, rfl⟩ := hd; exact h
theorem ISl.nil : ISl w k none 0 0 [] := ⟨rfl, Nat.le_refl _, Nat.zero_le _, fun h => absurd h (by omega)⟩
theorem ISl.le (h : ISl w k A n c xs) : n ≤ c := h.2.1
theorem ISl.len (h : ISl w k A n c xs) : xs.length = n := h.1
theorem ISl.cap (h : ISl w k A n c xs) : c ≤ 9223372036854775807 := by have := h.2.2.1; unfold maxLen at this; omega
theorem ISl.of_own {B : Nat} {e : TypeId} (h : w.ownsRow B e 1 (.slice A n c) n (xs.map (Value.int k))) : ISl w k A n c xs := by
  have hl := h.1
  rw [List.length_map, Nat.mul_one] at hl
  rcases h.2 with ⟨hv, hn⟩ | ⟨g, cap, cur, hv, hB, hh, hnc, hm, _⟩
  · injection hv with h1 h2 h3
    subst h1 h3 hn
    exact ⟨hl, Nat.le_refl _, Nat.zero_le _, fun h => absurd h (by omega)⟩
  · injection hv with h1 h2 h3
    subst h1 h3
    refine ⟨hl, hnc, hm, fun hn => ⟨g, 0, rfl, ?_, fun j hj => ?_⟩⟩
    · rcases Nat.lt_or_ge g w.heap.size with h' | h'
      · exact h'
      · rw [Array.getElem?_eq_none h'] at hh; cases hh
    · have := h.cells (g := g) rfl j (.int k (xs.getD j 0)) (by simp [List.getD, List.getElem?_eq_getElem (show j < xs.length by omega)])
      rw [← this]
      by_cases h0 : j = 0 <;> simp [Addr.add, h0]
end

set_option maxHeartbeats 1000000 in
theorem rising_any (A : Option Addr) (n c : Nat) (xs : List Int) (w : World) (h : ISl w .i64 A n c xs) :
    Calls Tryd.prog 38 #[.slice A n c] w fun e w' => e = .returned (.bool (risB xs)) ∧ Drew w w' := by
  have hle := h.le
  have hcap := h.cap
  have H := Lib.hid h
  clear h
  by_cases h1 : n < 1
  · have E := Lib.hid (risB_no xs (.inl (by rw [H.out.len]; exact h1)))
    go_enter Tryd.func38, Tryd.ntmps38
    go_wp2
    go_ret
    exact ⟨by rw [E.out]; rfl, Drew.refl _⟩
  by_cases h2 : 16 < n
  · have E := Lib.hid (risB_no xs (.inr (by rw [H.out.len]; exact h2)))
    go_enter Tryd.func38, Tryd.ntmps38
    go_wp2
    go_ret
    exact ⟨by rw [E.out]; rfl, Drew.refl _⟩
  obtain ⟨b, off, rfl, hb, hc⟩ := H.out.2.2.2 (by omega)
  have HC := Lib.hid hc
  clear hc
  go_enter Tryd.func38, Tryd.ntmps38
  go_wp2
  go_loopw [3] (fun i wr => ∃ k : Nat, 1 ≤ k ∧ k ≤ n ∧ i = .int .i64 (k : Int) ∧ Up xs k ∧ Drew w wr) (fun i _ => n - (intOf i).toNat)
  case atStart => exact ⟨1, by omega, by omega, rfl, Up.one _, Drew.refl _⟩
  case round =>
    obtain ⟨k, hk1, hk, rfl, hup, m, rfl⟩ := hrel
    have U := Lib.hid hup
    clear hup
    by_cases hlt : k < n
    · have c0 : w.cell? ⟨b, off + k, none⟩ = some (.int .i64 (xs.getD k 0)) := HC.out k hlt
      have c1 : w.cell? ⟨b, off + (k - 1), none⟩ = some (.int .i64 (xs.getD (k - 1) 0)) := HC.out (k - 1) (by omega)
      generalize hx : xs.getD k 0 = x at c0
      generalize hy : xs.getD (k - 1) 0 = y at c1
      have HX := Lib.hid hx
      have HY := Lib.hid hy
      clear hx hy
      have d1 : IntKind.i64.wrap ((k : Int) - 1) = (k : Int) - 1 := IntWalk.i64_in _ (by omega)
      have d2 : (0 : Int) ≤ (k : Int) - 1 := by omega
      have d3 : ((k : Int) - 1).toNat = k - 1 := by omega
      have d4 : (k : Int) - 1 < (n : Int) := by omega
      by_cases hle2 : x ≤ y
      · have E := Lib.hid (risB_down (xs := xs) (k := k) (by omega) (by rw [H.out.len]; exact hlt) (by rw [HX.out, HY.out]; exact hle2))
        go_wp2
        go_quiet (fail)
        go_wp2
        go_ret
        exact ⟨by rw [E.out]; rfl, ⟨m + nq, by rw [drewN_add]⟩⟩
      · have E := Lib.hid (U.out.next (by rw [HX.out, HY.out]; omega))
        go_wp2
        go_quiet (fail)
        clear d1 d2 d3 d4
        go_wp2
        go_roundw
        case rel => exact ⟨k + 1, by omega, by omega, by go_num, E.out, ⟨m + nq, rfl⟩⟩
        case measure => simp [intOf]; omega
    · obtain rfl : k = n := by omega
      have E := Lib.hid (show risB xs = true from (risB_iff xs).2 ⟨by rw [H.out.len]; omega, by rw [H.out.len]; omega, by rw [H.out.len]; exact U.out⟩)
      go_wp2
      go_ret
      exact ⟨by rw [E.out]; rfl, ⟨m, rfl⟩⟩
set_option maxHeartbeats 1000000 in
theorem rising32_any (A : Option Addr) (n c : Nat) (xs : List Int) (w : World) (h : ISl w .u32 A n c xs) :
    Calls Tryd.prog 48 #[.slice A n c] w fun e w' => e = .returned (.bool (risB xs)) ∧ Drew w w' := by
  have hle := h.le
  have hcap := h.cap
  have H := Lib.hid h
  clear h
  by_cases h1 : n < 1
  · have E := Lib.hid (risB_no xs (.inl (by rw [H.out.len]; exact h1)))
    go_enter Tryd.func48, Tryd.ntmps48
    go_wp2
    go_ret
    exact ⟨by rw [E.out]; rfl, Drew.refl _⟩
  by_cases h2 : 16 < n
  · have E := Lib.hid (risB_no xs (.inr (by rw [H.out.len]; exact h2)))
    go_enter Tryd.func48, Tryd.ntmps48
    go_wp2
    go_ret
    exact ⟨by rw [E.out]; rfl, Drew.refl _⟩
  obtain ⟨b, off, rfl, hb, hc⟩ := H.out.2.2.2 (by omega)
  have HC := Lib.hid hc
  clear hc
  go_enter Tryd.func48, Tryd.ntmps48
  go_wp2
  go_loopw [3] (fun i wr => ∃ k : Nat, 1 ≤ k ∧ k ≤ n ∧ i = .int .i64 (k : Int) ∧ Up xs k ∧ Drew w wr) (fun i _ => n - (intOf i).toNat)
  case atStart => exact ⟨1, by omega, by omega, rfl, Up.one _, Drew.refl _⟩
  case round =>
    obtain ⟨k, hk1, hk, rfl, hup, m, rfl⟩ := hrel
    have U := Lib.hid hup
    clear hup
    by_cases hlt : k < n
    · have c0 : w.cell? ⟨b, off + k, none⟩ = some (.int .u32 (xs.getD k 0)) := HC.out k hlt
      have c1 : w.cell? ⟨b, off + (k - 1), none⟩ = some (.int .u32 (xs.getD (k - 1) 0)) := HC.out (k - 1) (by omega)
      generalize hx : xs.getD k 0 = x at c0
      generalize hy : xs.getD (k - 1) 0 = y at c1
      have HX := Lib.hid hx
      have HY := Lib.hid hy
      clear hx hy
      have d1 : IntKind.i64.wrap ((k : Int) - 1) = (k : Int) - 1 := IntWalk.i64_in _ (by omega)
      have d2 : (0 : Int) ≤ (k : Int) - 1 := by omega
      have d3 : ((k : Int) - 1).toNat = k - 1 := by omega
      have d4 : (k : Int) - 1 < (n : Int) := by omega
      by_cases hle2 : x ≤ y
      · have E := Lib.hid (risB_down (xs := xs) (k := k) (by omega) (by rw [H.out.len]; exact hlt) (by rw [HX.out, HY.out]; exact hle2))
        go_wp2
        go_quiet (fail)
        go_wp2
        go_ret
        exact ⟨by rw [E.out]; rfl, ⟨m + nq, by rw [drewN_add]⟩⟩
      · have E := Lib.hid (U.out.next (by rw [HX.out, HY.out]; omega))
        go_wp2
        go_quiet (fail)
        clear d1 d2 d3 d4
        go_wp2
        go_roundw
        case rel => exact ⟨k + 1, by omega, by omega, by go_num, E.out, ⟨m + nq, rfl⟩⟩
        case measure => simp [intOf]; omega
    · obtain rfl : k = n := by omega
      have E := Lib.hid (show risB xs = true from (risB_iff xs).2 ⟨by rw [H.out.len]; omega, by rw [H.out.len]; omega, by rw [H.out.len]; exact U.out⟩)
      go_wp2
      go_ret
      exact ⟨by rw [E.out]; rfl, ⟨m, rfl⟩⟩

set_option maxHeartbeats 1000000 in
theorem ris_any (A : Option Addr) (n c : Nat) (xs : List Int) (lo hi : Int) (w : World) (h : ISl w .i64 A n c xs) :
    Calls Tryd.prog 20 #[.slice A n c, .int .i64 lo, .int .i64 hi] w fun e w' => e = .returned (.bool (risIn xs lo hi)) ∧ Drew w w' := by
  have hle := h.le
  have hcap := h.cap
  have H := Lib.hid h
  clear h
  cases hr : risB xs with
  | false =>
    have E := Lib.hid (show risIn xs lo hi = false by simp [risIn, hr])
    have HR := Lib.hid hr
    clear hr
    go_enter Tryd.func20, Tryd.ntmps20
    go_wp2_with (go_at_call 38; refine (rising_any _ _ _ _ _ H.out).mono ?_; rintro e w1 ⟨rfl, hd1⟩; rw [HR.out])
    go_ret
    exact ⟨by rw [E.out]; rfl, hd1⟩
  | true =>
    obtain ⟨l1, l2, _⟩ := (risB_iff xs).1 hr
    have hn := H.out.len
    obtain ⟨b, off, rfl, hb, hc⟩ := H.out.2.2.2 (by omega)
    have E := risIn_ends xs lo hi hr
    rw [hn] at E l1
    have c0 : w.cell? ⟨b, off + 0, none⟩ = some (.int .i64 (xs.getD 0 0)) := hc 0 (by omega)
    have c1 : w.cell? ⟨b, off + (n - 1), none⟩ = some (.int .i64 (xs.getD (n - 1) 0)) := hc (n - 1) (by omega)
    generalize xs.getD 0 0 = x at c0 E
    generalize xs.getD (n - 1) 0 = y at c1 E
    rw [Nat.add_zero] at c0
    have HC0 := Lib.hid c0
    have HC1 := Lib.hid c1
    have HR := Lib.hid hr
    have EE := Lib.hid (show risIn xs lo hi = (decide (lo ≤ x) && decide (y ≤ hi)) by rw [← E]; simp [risIn, hr])
    have d3 : ((n : Int) - 1).toNat = n - 1 := by omega
    clear hc c0 c1 hr E hn
    go_enter Tryd.func20, Tryd.ntmps20
    by_cases k1 : lo ≤ x
    · have K1 := Lib.hid k1
      by_cases k2 : y ≤ hi
      · go_wp2_with (go_at_call 38; refine (rising_any _ _ _ _ _ H.out).mono ?_; rintro e w1 ⟨rfl, m, rfl⟩; rw [HR.out]; have c0 := HC0.out; have c1 := HC1.out)
        go_ret
        exact ⟨by rw [EE.out]; simp [k1, k2], ⟨m, rfl⟩⟩
      · go_wp2_with (go_at_call 38; refine (rising_any _ _ _ _ _ H.out).mono ?_; rintro e w1 ⟨rfl, m, rfl⟩; rw [HR.out]; have c0 := HC0.out; have c1 := HC1.out)
        go_ret
        exact ⟨by rw [EE.out]; have := K1.out; simp; omega, ⟨m, rfl⟩⟩
    · go_wp2_with (go_at_call 38; refine (rising_any _ _ _ _ _ H.out).mono ?_; rintro e w1 ⟨rfl, m, rfl⟩; rw [HR.out]; have c0 := HC0.out)
      go_ret
      exact ⟨by rw [EE.out]; simp; omega, ⟨m, rfl⟩⟩
end Go.Proofs.YtjmbgfhjdmoflaaDoor
