/- The contracts of palingref03's lists: Rising, ReadList, ReadAddrs, Ints, Addrs. -/
import Derived.Test.YtjmbgfhjdmoflaaDoorSplit
import Derived.Test.YtjmbgfhjdmoflaaDoorNumRef
import Derived.Test.YtjmbgfhjdmoflaaDoorAddrRefRead
namespace Go.Proofs.YtjmbgfhjdmoflaaDoor
open Go.RowKit

theorem risIn_no {xs : List Int} {lo hi : Int} (h : risB xs = false) : risIn xs lo hi = false := by simp [risIn, h]
theorem risIn_out {xs : List Int} {lo hi : Int} {k : Nat} (hk : k < xs.length) (h : xs.getD k 0 < lo ∨ hi < xs.getD k 0) : risIn xs lo hi = false := by
  have : inB xs lo hi = false := by
    cases hx : inB xs lo hi with
    | false => rfl
    | true => have := (inB_iff xs lo hi).1 hx _ (getD_mem hk); omega
  simp [risIn, this]
theorem risIn_yes {xs : List Int} {lo hi : Int} (h1 : 1 ≤ xs.length) (h2 : xs.length ≤ 16) (hup : Up xs xs.length) (h : ∀ j, j < xs.length → lo ≤ xs.getD j 0 ∧ xs.getD j 0 ≤ hi) : risIn xs lo hi = true := by
  have g1 : risB xs = true := (risB_iff xs).2 ⟨h1, h2, hup⟩
  have g2 : inB xs lo hi = true := (inB_iff xs lo hi).2 fun x hx => by
    obtain ⟨i, hi', rfl⟩ := mem_getD hx
    exact h i hi'
  simp [risIn, g1, g2]
set_option maxRecDepth 100000 in
set_option maxHeartbeats 2000000 in
theorem refRis_any (A : Option Addr) (n c : Nat) (xs : List Int) (lo hi : Int) (w : World) (h : ISl w .i64 A n c xs) :
    Calls Tryd.prog 21 #[.slice A n c, .int .i64 lo, .int .i64 hi] w fun e w' => e = .returned (.bool (risIn xs lo hi)) ∧ Drew w w' := by
  have hle := h.le
  have hcap := h.cap
  have H := Lib.hid h
  clear h
  by_cases h1 : n < 1
  · have E := Lib.hid (risIn_no (lo := lo) (hi := hi) (risB_no xs (.inl (by rw [H.out.len]; exact h1))))
    go_enter Tryd.func21, Tryd.ntmps21
    go_wp2
    go_ret
    exact ⟨by rw [E.out]; rfl, Drew.refl _⟩
  by_cases h2 : 16 < n
  · have E := Lib.hid (risIn_no (lo := lo) (hi := hi) (risB_no xs (.inr (by rw [H.out.len]; exact h2))))
    go_enter Tryd.func21, Tryd.ntmps21
    go_wp2
    go_ret
    exact ⟨by rw [E.out]; rfl, Drew.refl _⟩
  obtain ⟨b, off, rfl, hb, hc⟩ := H.out.2.2.2 (by omega)
  have HC := Lib.hid hc
  clear hc
  go_enter Tryd.func21, Tryd.ntmps21
  go_wp2
  go_loopw [7] (fun i wr => ∃ k : Nat, k ≤ n ∧ i = .int .i64 (k : Int) ∧ Up xs k ∧ (∀ j, j < k → lo ≤ xs.getD j 0 ∧ xs.getD j 0 ≤ hi) ∧ Drew w wr) (fun i _ => n - (intOf i).toNat)
  case atStart => exact ⟨0, by omega, rfl, Up.zero _, fun j hj => by omega, Drew.refl _⟩
  case round =>
    obtain ⟨k, hk, rfl, hup, hin, m, rfl⟩ := hrel
    have U := Lib.hid hup
    have IN := Lib.hid hin
    clear hup hin
    by_cases hlt : k < n
    · have c0 : w.cell? ⟨b, off + k, none⟩ = some (.int .i64 (xs.getD k 0)) := HC.out k hlt
      generalize hx : xs.getD k 0 = x at c0
      have HX := Lib.hid hx
      clear hx
      by_cases d1 : x < lo
      · have E := Lib.hid (risIn_out (xs := xs) (lo := lo) (hi := hi) (k := k) (by rw [H.out.len]; exact hlt) (.inl (by rw [HX.out]; exact d1)))
        have t1 : decide (x < lo) = true := by simpa using d1
        go_wp2
        go_quiet (fail)
        go_wp2
        go_ret
        exact ⟨by rw [E.out]; rfl, ⟨m + nq, by rw [drewN_add]⟩⟩
      have t1 : decide (x < lo) = false := by simpa using d1
      by_cases d2 : hi < x
      · have E := Lib.hid (risIn_out (xs := xs) (lo := lo) (hi := hi) (k := k) (by rw [H.out.len]; exact hlt) (.inr (by rw [HX.out]; exact d2)))
        have t2 : decide (hi < x) = true := by simpa using d2
        go_wp2
        go_quiet (fail)
        go_wp2
        go_ret
        exact ⟨by rw [E.out]; rfl, ⟨m + nq, by rw [drewN_add]⟩⟩
      have t2 : decide (hi < x) = false := by simpa using d2
      by_cases k0 : 0 < k
      · have c1 : w.cell? ⟨b, off + (k - 1), none⟩ = some (.int .i64 (xs.getD (k - 1) 0)) := HC.out (k - 1) (by omega)
        generalize hy : xs.getD (k - 1) 0 = y at c1
        have HY := Lib.hid hy
        clear hy
        have k1 : 1 ≤ k := k0
        have e1 : IntKind.i64.wrap ((k : Int) - 1) = (k : Int) - 1 := IntWalk.i64_in _ (by omega)
        have e2 : (0 : Int) ≤ (k : Int) - 1 := by omega
        have e3 : ((k : Int) - 1).toNat = k - 1 := by omega
        have e4 : (k : Int) - 1 < (n : Int) := by omega
        by_cases d3 : x ≤ y
        · have E := Lib.hid (risIn_no (lo := lo) (hi := hi) (risB_down (xs := xs) (k := k) k0 (by rw [H.out.len]; exact hlt) (by rw [HX.out, HY.out]; exact d3)))
          have t3 : decide (x ≤ y) = true := by simpa using d3
          go_wp2
          go_quiet (fail)
          go_wp2
          go_ret
          exact ⟨by rw [E.out]; rfl, ⟨m + nq, by rw [drewN_add]⟩⟩
        · have E := Lib.hid (U.out.next (by rw [HX.out, HY.out]; omega))
          have E2 := Lib.hid (show ∀ j, j < k + 1 → lo ≤ xs.getD j 0 ∧ xs.getD j 0 ≤ hi from fun j hj => by
            by_cases ej : j = k
            · subst ej; rw [HX.out]; exact ⟨by omega, by omega⟩
            · exact IN.out j (by omega))
          have t3 : decide (x ≤ y) = false := by simpa using d3
          go_wp2
          go_quiet (fail)
          clear e1 e2 e3 e4
          go_wp2
          go_roundw
          case rel => exact ⟨k + 1, by omega, by go_num, E.out, E2.out, ⟨m + nq, rfl⟩⟩
          case measure => simp [intOf]; omega
      · have E := Lib.hid (show Up xs (k + 1) from (Up.one xs).less (by omega))
        have E2 := Lib.hid (show ∀ j, j < k + 1 → lo ≤ xs.getD j 0 ∧ xs.getD j 0 ≤ hi from fun j hj => by
          obtain rfl : j = k := by omega
          rw [HX.out]; exact ⟨by omega, by omega⟩)
        go_wp2
        go_quiet (fail)
        go_wp2
        go_roundw
        case rel => exact ⟨k + 1, by omega, by go_num, E.out, E2.out, ⟨m + nq, rfl⟩⟩
        case measure => simp [intOf]; omega
    · obtain rfl : k = n := by omega
      have E := Lib.hid (show risIn xs lo hi = true from risIn_yes (by rw [H.out.len]; omega) (by rw [H.out.len]; omega) (by rw [H.out.len]; exact U.out) (by rw [H.out.len]; exact IN.out))
      go_wp2
      go_ret
      exact ⟨by rw [E.out]; rfl, ⟨m, rfl⟩⟩

set_option maxRecDepth 100000 in
set_option maxHeartbeats 1000000 in
theorem ints_any (A B : Option Addr) (n c n2 c2 : Nat) (xs : List Int) (w : World) (h : ISl w .i64 A n c xs) (h2 : ISl w .i64 B n2 c2 xs) :
    Calls Tryd.prog 18 #[.slice A n c, .slice B n2 c2] w fun e w' => e = .returned (.bool true) ∧ Drew w w' := by
  obtain rfl : n = n2 := by rw [← h.len, ← h2.len]
  have hle := h.le
  have hcap := h.cap
  have hle2 := h2.le
  have hcap2 := h2.cap
  have H := Lib.hid h
  have H2 := Lib.hid h2
  clear h h2
  by_cases hn : 0 < n
  · obtain ⟨b, off, rfl, hb, hc⟩ := H.out.2.2.2 hn
    obtain ⟨b2, off2, rfl, hb2, hc2⟩ := H2.out.2.2.2 hn
    have HC := Lib.hid hc
    have HC2 := Lib.hid hc2
    clear hc hc2
    go_enter Tryd.func18, Tryd.ntmps18
    go_wp2
    go_loopw [5] (fun i wr => ∃ k : Nat, k ≤ n ∧ i = .int .i64 (k : Int) ∧ Drew w wr) (fun i _ => n - (intOf i).toNat)
    case atStart => exact ⟨0, by omega, rfl, Drew.refl _⟩
    case round =>
      obtain ⟨k, hk, rfl, m, rfl⟩ := hrel
      by_cases hlt : k < n
      · have c0 : w.cell? ⟨b, off + k, none⟩ = some (.int .i64 (xs.getD k 0)) := HC.out k hlt
        have c1 : w.cell? ⟨b2, off2 + k, none⟩ = some (.int .i64 (xs.getD k 0)) := HC2.out k hlt
        generalize xs.getD k 0 = x at c0 c1
        go_wp2
        go_quiet (fail)
        go_wp2
        go_roundw
        case rel => exact ⟨k + 1, by omega, by go_num, ⟨m + nq, rfl⟩⟩
        case measure => simp [intOf]; omega
      · obtain rfl : k = n := by omega
        go_wp2
        go_ret
        exact ⟨rfl, ⟨m, rfl⟩⟩
  · obtain rfl : n = 0 := by omega
    go_enter Tryd.func18, Tryd.ntmps18
    go_wp2
    go_loop [5] (fun i => i = .int .i64 0) (fun i => 0)
    case atStart => rfl
    case round =>
      subst hrel
      go_wp2
      go_ret
      exact ⟨rfl, Drew.refl _⟩

set_option maxRecDepth 100000 in
set_option maxHeartbeats 1000000 in
theorem addrs_any (A B : Option Addr) (n c n2 c2 : Nat) (xs : List Int) (w : World) (h : ISl w .u32 A n c xs) (h2 : ISl w .u32 B n2 c2 xs) :
    Calls Tryd.prog 19 #[.slice A n c, .slice B n2 c2] w fun e w' => e = .returned (.bool true) ∧ Drew w w' := by
  obtain rfl : n = n2 := by rw [← h.len, ← h2.len]
  have hle := h.le
  have hcap := h.cap
  have hle2 := h2.le
  have hcap2 := h2.cap
  have H := Lib.hid h
  have H2 := Lib.hid h2
  clear h h2
  by_cases hn : 0 < n
  · obtain ⟨b, off, rfl, hb, hc⟩ := H.out.2.2.2 hn
    obtain ⟨b2, off2, rfl, hb2, hc2⟩ := H2.out.2.2.2 hn
    have HC := Lib.hid hc
    have HC2 := Lib.hid hc2
    clear hc hc2
    go_enter Tryd.func19, Tryd.ntmps19
    go_wp2
    go_loopw [5] (fun i wr => ∃ k : Nat, k ≤ n ∧ i = .int .i64 (k : Int) ∧ Drew w wr) (fun i _ => n - (intOf i).toNat)
    case atStart => exact ⟨0, by omega, rfl, Drew.refl _⟩
    case round =>
      obtain ⟨k, hk, rfl, m, rfl⟩ := hrel
      by_cases hlt : k < n
      · have c0 : w.cell? ⟨b, off + k, none⟩ = some (.int .u32 (xs.getD k 0)) := HC.out k hlt
        have c1 : w.cell? ⟨b2, off2 + k, none⟩ = some (.int .u32 (xs.getD k 0)) := HC2.out k hlt
        generalize xs.getD k 0 = x at c0 c1
        go_wp2
        go_quiet (fail)
        go_wp2
        go_roundw
        case rel => exact ⟨k + 1, by omega, by go_num, ⟨m + nq, rfl⟩⟩
        case measure => simp [intOf]; omega
      · obtain rfl : k = n := by omega
        go_wp2
        go_ret
        exact ⟨rfl, ⟨m, rfl⟩⟩
  · obtain rfl : n = 0 := by omega
    go_enter Tryd.func19, Tryd.ntmps19
    go_wp2
    go_loop [5] (fun i => i = .int .i64 0) (fun i => 0)
    case atStart => rfl
    case round =>
      subst hrel
      go_wp2
      go_ret
      exact ⟨rfl, Drew.refl _⟩
end Go.Proofs.YtjmbgfhjdmoflaaDoor
