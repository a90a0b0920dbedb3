/- The contracts of palingref06: Sum, Of, Right. -/
import Derived.Test.YtgmeicenjgiihaaSumMath
namespace Go.Proofs.Ytgmeicenjgiihaa
open Go.RowKit
open Go.Lib (byteCells)

theorem sumF_drop2 (l : List UInt8) (i : Nat) (s : Int) (h : i + 1 < l.length) : sumF s (l.drop i) = sumF (dn s (bat l i * 256 + bat l (i + 1))) (l.drop (i + 2)) := by
  rw [sumF_two _ _ (by rw [List.length_drop]; omega), List.drop_drop]
  have e : two (l.drop i) 0 = bat l i * 256 + bat l (i + 1) := by simp [two, bat, List.getD]
  rw [e]
theorem sumF_drop1 (l : List UInt8) (i : Nat) (s : Int) (h : i + 1 = l.length) : sumF s (l.drop i) = sumF (dn s (bat l i * 256)) (l.drop (i + 2)) := by
  rw [sumF_one _ _ (by rw [List.length_drop]; omega), List.drop_eq_nil_of_le (by omega : l.length ≤ i + 2)]
  have e : bat (l.drop i) 0 = bat l i := by simp [bat, List.getD]
  rw [e]
  rfl

set_option maxHeartbeats 1000000 in
theorem rsum_any (A : Option Addr) (n c : Nat) (l : List UInt8) (w : World) (h : BSl w A n c l) (hn : n ≤ 1000000) :
    Calls Try.prog 60 #[.slice A n c] w fun e w' => e = .returned (.int .i64 (sumF 0 l)) ∧ w' = w := by
  have HS := Lib.hid h
  have hlen := Lib.hid h.len
  clear h
  go_enter Try.func60, Try.ntmps60
  go_wp2
  go_loopw [3, 4] (fun v i wr => ∃ (k : Nat) (s : Int), v = .int .i64 s ∧ i = .int .i64 k ∧ wr = w ∧ k ≤ n + 1 ∧ 0 ≤ s ∧ s ≤ 65535 ∧ sumF s (l.drop k) = sumF 0 l) (fun _ i _ => match i with | .int _ x => (n + 2 - x).toNat | _ => 0)
  case atStart => exact ⟨0, 0, rfl, rfl, rfl, by omega, by omega, by omega, rfl⟩
  case round =>
    obtain ⟨k, s, rfl, rfl, rfl, hk, s0, s1, hf⟩ := hrel
    have HF := Lib.hid hf
    clear hf
    by_cases hlt : k < n
    · obtain ⟨b, off, rfl, hbb, hc⟩ := HS.out.at_ (by omega)
      have x0 := bat_lo l k
      have x1 := bat_hi l k
      by_cases hl2 : k + 1 < n
      · have y0 := bat_lo l (k + 1)
        have y1 := bat_hi l (k + 1)
        have E := Lib.hid (sumF_drop2 l k s (by rw [hlen.out]; exact hl2))
        have c0 := hc k hlt
        have c1 := hc (k + 1) hl2
        generalize bat l k = x at *
        generalize bat l (k + 1) = y at *
        clear hc
        by_cases hm : 65535 < s + (x * 256 + y)
        · have D := Lib.hid (dn_more hm)
          have B := Lib.hid (dn_bd s0 s1 (n := x * 256 + y) (by omega) (by omega))
          go_wp2
          go_roundw
          case rel => exact ⟨k + 2, _, rfl, by simp, trivial, by omega, by omega, by omega, by rw [← HF.out, E.out, D.out]⟩
          case measure => simp only []; omega
        · have D := Lib.hid (dn_less hm)
          go_wp2
          go_roundw
          case rel => exact ⟨k + 2, _, rfl, by simp, trivial, by omega, by omega, by omega, by rw [← HF.out, E.out, D.out]⟩
          case measure => simp only []; omega
      · have E := Lib.hid (sumF_drop1 l k s (by rw [hlen.out]; omega))
        have c0 := hc k hlt
        generalize bat l k = x at *
        clear hc
        by_cases hm : 65535 < s + x * 256
        · have D := Lib.hid (dn_more hm)
          go_wp2
          go_roundw
          case rel => exact ⟨k + 2, _, rfl, by simp, trivial, by omega, by omega, by omega, by rw [← HF.out, E.out, D.out]⟩
          case measure => simp only []; omega
        · have D := Lib.hid (dn_less hm)
          go_wp2
          go_roundw
          case rel => exact ⟨k + 2, _, rfl, by simp, trivial, by omega, by omega, by omega, by rw [← HF.out, E.out, D.out]⟩
          case measure => simp only []; omega
    · have E := Lib.hid (show s = sumF 0 l by rw [← HF.out, List.drop_eq_nil_of_le (by rw [hlen.out]; omega)]; rfl)
      go_wp2
      go_ret
      exact ⟨by rw [← E.out]; rfl, rfl⟩

theorem rof_any (A : Option Addr) (n c : Nat) (l : List UInt8) (w : World) (h : BSl w A n c l) (hn : n ≤ 1000000) (s : Int) (hs : 65535 - sumF 0 l = s) :
    Calls Try.prog 51 #[.slice A n c] w fun e w' => e = .returned (.int .i64 s) ∧ w' = w := by
  have HS := Lib.hid (rsum_any A n c l w h hn)
  have hb := sumF_bd l
  subst hs
  generalize sumF 0 l = s at *
  clear h
  go_enter Try.func51, Try.ntmps51
  go_wp2_with (go_at_call 60; (with_reducible refine (HS.out).mono ?_); rintro e w1 ⟨rfl, rfl⟩)
  go_ret
  exact ⟨rfl, rfl⟩
theorem rright_any (A : Option Addr) (n c : Nat) (l : List UInt8) (w : World) (h : BSl w A n c l) (hn : n ≤ 1000000) (v : Bool) (hv : (sumF 0 l == 65535) = v) :
    Calls Try.prog 56 #[.slice A n c] w fun e w' => e = .returned (.bool v) ∧ w' = w := by
  have HS := Lib.hid (rsum_any A n c l w h hn)
  subst hv
  generalize sumF 0 l = s at *
  clear h
  go_enter Try.func56, Try.ntmps56
  go_wp2_with (go_at_call 60; (with_reducible refine (HS.out).mono ?_); rintro e w1 ⟨rfl, rfl⟩)
  go_ret
  exact ⟨rfl, rfl⟩
end Go.Proofs.Ytgmeicenjgiihaa
