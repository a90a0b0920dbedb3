/- The contract of ipv4.refused: why bytes are no packet. -/
import Derived.Test.YtgmeicenjgiihaaPkBy
import Derived.Test.YtgmeicenjgiihaaSumOf
namespace Go.Proofs.Ytgmeicenjgiihaa
open Go.RowKit
open Go.Lib (byteCells)

set_option maxHeartbeats 2000000 in
theorem refused_any (A : Option Addr) (n c : Nat) (l : List UInt8) (w : World) (h : BSl w A n c l) :
    Calls Try.prog 61 #[.slice A n c] w fun e w' => e = .returned (.int .i64 (rE l)) ∧ Below w.heap.size w w' := by
  have hl := h.len
  by_cases h20 : n < 20
  · have E := Lib.hid (rE_short (l := l) (by omega))
    clear h hl
    go_enter Try.func61, Try.ntmps61
    go_wp2
    go_ret
    exact ⟨by rw [E.out]; rfl, Below.refl _ _⟩
  · have hle := h.le
    obtain ⟨b, off, rfl, hb, hc⟩ := h.at_ (by omega)
    have c0 : w.cell? ⟨b, off, none⟩ = some (.int .u8 (bat l 0)) := hc 0 (by omega)
    have h20l : ¬ l.length < 20 := by omega
    have HS := Lib.hid h
    have N6 := Lib.hid (fun v => num2_at h 6 (by omega) v)
    have SZ := Lib.hid (fun v => size_any _ n c l w h (by omega) v)
    have RH := Lib.hid (fun v => right_any _ 20 c (l.take 20) w (h.head 20 (by omega)) v)
    have x0 := bat_lo l 0
    have x1 := bat_hi l 0
    obtain ⟨v0, v1⟩ := two_bd l 2
    obtain ⟨z0, z1⟩ := two_bd l 6
    have E1 := Lib.hid (rE_form (l := l) h20l)
    have E2 := Lib.hid (rE_less (l := l) h20l)
    have E3 := Lib.hid (rE_zero (l := l) h20l)
    have E4 := Lib.hid (rE_sum (l := l) h20l)
    have E5 := Lib.hid (rE_ok (l := l) h20l)
    rw [hl] at E2 E3 E4 E5
    generalize rE l = E at *
    generalize hx : bat l 0 = x at *
    obtain ⟨v, hv⟩ : ∃ v, two l 2 = v := ⟨_, rfl⟩
    obtain ⟨z, hz⟩ : ∃ z, two l 6 = z := ⟨_, rfl⟩
    have V := Lib.hid hv
    have Z := Lib.hid hz
    rw [hv] at v0 v1 E1 E2 E3 E4 E5
    rw [hz] at z0 z1 E3 E4 E5
    have h20i : (20 : Int) ≤ (n : Int) := by omega
    clear h hl hc hv hz hx h20l
    by_cases hx : x = 69
    · subst hx
      by_cases h2 : v < 20
      · have E := Lib.hid (E1.out (.inr h2))
        clear E1 E2 E3 E4 E5
        go_enter Try.func61, Try.ntmps61
        go_wp2_with (go_at_call 63; (with_reducible refine (SZ.out v V.out).mono ?_); rintro e w1 ⟨rfl, rfl⟩)
        go_ret
        exact ⟨by rw [E.out]; rfl, Below.refl _ _⟩
      · by_cases h3 : (n : Int) < v
        · have E := Lib.hid (E2.out (by omega) h3)
          clear E1 E2 E3 E4 E5
          go_enter Try.func61, Try.ntmps61
          go_wp2_with (go_at_call 63; (with_reducible refine (SZ.out v V.out).mono ?_); rintro e w1 ⟨rfl, rfl⟩)
          go_ret
          exact ⟨by rw [E.out]; rfl, Below.refl _ _⟩
        · by_cases h4 : z ≠ 0
          · have E := Lib.hid (E3.out (by omega) h3 h4)
            clear E1 E2 E3 E4 E5
            have h4b : ¬ z = 0 := h4
            clear h4
            go_enter Try.func61, Try.ntmps61
            go_wp2_with (first
              | (go_at_call 63; (with_reducible refine (SZ.out v V.out).mono ?_); rintro e w1 ⟨rfl, rfl⟩)
              | (go_at_call 62; (with_reducible refine (N6.out z Z.out).mono ?_); rintro e w1 ⟨rfl, rfl⟩))
            go_ret
            exact ⟨by rw [E.out]; rfl, Below.refl _ _⟩
          · have h4b : z = 0 := by omega
            subst h4b
            have F4 := Lib.hid (E4.out (by omega) h3 (by omega))
            have F5 := Lib.hid (E5.out (by omega) h3 (by omega))
            clear E1 E2 E3 E4 E5 h4
            by_cases h5 : sumF 0 (l.take 20) = 65535
            · have E := Lib.hid (F5.out h5)
              have R := Lib.hid (RH.out true (by rw [h5]; rfl))
              clear F4 F5 h5 RH
              go_enter Try.func61, Try.ntmps61
              go_wp2_with (first
                | (go_at_call 63; (with_reducible refine (SZ.out v V.out).mono ?_); rintro e w1 ⟨rfl, rfl⟩)
                | (go_at_call 62; (with_reducible refine (N6.out 0 Z.out).mono ?_); rintro e w1 ⟨rfl, rfl⟩)
                | (go_at_call 69; (with_reducible refine (R.out).mono ?_); rintro e w1 ⟨rfl, hb1⟩))
              go_ret
              exact ⟨by rw [E.out]; rfl, hb1⟩
            · have E := Lib.hid (F4.out h5)
              have R := Lib.hid (RH.out false (by simpa using h5))
              clear F4 F5 h5 RH
              go_enter Try.func61, Try.ntmps61
              go_wp2_with (first
                | (go_at_call 63; (with_reducible refine (SZ.out v V.out).mono ?_); rintro e w1 ⟨rfl, rfl⟩)
                | (go_at_call 62; (with_reducible refine (N6.out 0 Z.out).mono ?_); rintro e w1 ⟨rfl, rfl⟩)
                | (go_at_call 69; (with_reducible refine (R.out).mono ?_); rintro e w1 ⟨rfl, hb1⟩))
              go_ret
              exact ⟨by rw [E.out]; rfl, hb1⟩
    · have E := Lib.hid (E1.out (.inl hx))
      clear E1 E2 E3 E4 E5
      go_enter Try.func61, Try.ntmps61
      go_wp2
      go_ret
      exact ⟨by rw [E.out]; rfl, Below.refl _ _⟩
end Go.Proofs.Ytgmeicenjgiihaa
