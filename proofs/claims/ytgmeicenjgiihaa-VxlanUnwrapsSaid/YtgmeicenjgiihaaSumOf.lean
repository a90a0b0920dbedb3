/- The contracts of sum.sum, Of and Right. -/
import Derived.Test.YtgmeicenjgiihaaSumBy
namespace Go.Proofs.Ytgmeicenjgiihaa
open Go.RowKit
open Go.Lib (byteCells)

def mSl : Value → Nat
  | .slice _ n _ => n
  | _ => 0

set_option maxHeartbeats 1000000 in
theorem sum_any (A : Option Addr) (n c : Nat) (l : List UInt8) (w : World) (h : BSl w A n c l) :
    Calls Try.prog 59 #[.slice A n c] w fun e w' => e = .returned (.int .i64 (sumF 0 l)) ∧ Below w.heap.size w w' := by
  have HS := Lib.hid h
  clear h
  go_enter Try.func59, Try.ntmps59
  go_wp2_with (go_at_call 67; (with_reducible refine (adder_any _).mono ?_); rintro e w1 ⟨rfl, hA1, hz1, hb1⟩)
  have S1 := Lib.hid (HS.out.below hb1)
  have B1 := Lib.hid hb1
  have A1 := Lib.hid hA1
  clear hb1 hA1
  go_loopw [0] (fun v wr => ∃ (A : Option Addr) (n c : Nat) (r : List UInt8) (s : Int), v = .slice A n c ∧ BSl w A n c r ∧ Acc wr w.heap.size s ∧ 0 ≤ s ∧ s ≤ 65535 ∧ Below w.heap.size w wr ∧ sumF s r = sumF 0 l) (fun v _ => mSl v)
  case atStart => exact ⟨A, n, c, l, 0, rfl, HS.out, A1.out, by omega, by omega, B1.out, rfl⟩
  case round =>
    obtain ⟨A, n, c, r, s, rfl, hs, hA, s0, s1, hb, hf⟩ := hrel
    have hlen := hs.len
    have hle := hs.le
    have hcap := hs.cap
    have HR := Lib.hid hs
    have HA := Lib.hid hA
    have HB := Lib.hid hb
    have HF := Lib.hid hf
    clear S1 A1 B1 HS
    by_cases h2 : 2 ≤ n
    · obtain ⟨b, off, rfl, hbb, hc⟩ := hs.at_ (by omega)
      have K := Lib.hid (show ∀ w', Below w.heap.size w w' → w'.cell? ⟨b, off, none⟩ = some (.int .u8 (bat r 0)) ∧ w'.cell? ⟨b, off + 1, none⟩ = some (.int .u8 (bat r 1)) from
        fun w' h => ⟨(h.cell (p := ⟨b, off, none⟩) hbb).trans (hc 0 (by omega)), (h.cell (p := ⟨b, off + 1, none⟩) hbb).trans (hc 1 (by omega))⟩)
      have E := Lib.hid (show sumF (dn s (bat r 0 * 256 + bat r 1)) (r.drop 2) = sumF 0 l by rw [← hf, sumF_two s r (by omega)]; rfl)
      have x0 := bat_lo r 0
      have x1 := bat_hi r 0
      have y0 := bat_lo r 1
      have y1 := bat_hi r 1
      generalize bat r 0 = x at K E x0 x1
      generalize bat r 1 = y at K E y0 y1
      have i0 : (0 : Int) < (n : Int) := by omega
      have i1 : (1 : Int) < (n : Int) := by omega
      obtain ⟨c0, c1⟩ := K.out _ hb
      have D := Lib.hid (dn_bd s0 s1 (n := x * 256 + y) (by omega) (by omega))
      have R1 := Lib.hid (show Below w.heap.size w wr.drew from below_drewN hb 1)
      have A1 := Lib.hid (show Acc wr.drew w.heap.size s from hA)
      clear hs hc hA hb hf
      go_wp2
      go_region_held_law (fun w' => w'.cell? ⟨b, off, none⟩ = some (.int .u8 x) ∧ w'.cell? ⟨b, off + 1, none⟩ = some (.int .u8 y))
        (first | exact ⟨c0, c1⟩ | exact K.out _ hb2 | fail)
        (first
          | (go_at_call 68; (with_reducible refine (pair_any x y _ x0 x1 y0 y1).mono ?_); rintro e w2 ⟨rfl, rfl⟩)
          | (go_at_call 70; (with_reducible refine (add_any w w.heap.size s (x * 256 + y) _ (Nat.le_refl _) R1.out A1.out s0 s1 (by omega) (by omega)).mono ?_); rintro e w2 ⟨rfl, hA2, hb2⟩))
      have B2 := Lib.hid hb2
      have A2 := Lib.hid hA2
      clear hb2 hA2 c0 c1
      by_cases hk : c ≤ 2
      · go_wp2
        go_roundw
        case rel => exact ⟨_, n - 2, 0, r.drop 2, _, rfl, HR.out.cut_end (by omega) hk, A2.out, D.out.1, D.out.2, B2.out, E.out⟩
        case measure => simp only [mSl]; omega
      · go_wp2
        go_roundw
        case rel => exact ⟨_, n - 2, c - 2, r.drop 2, _, rfl, HR.out.cut (by omega), A2.out, D.out.1, D.out.2, B2.out, E.out⟩
        case measure => simp only [mSl]; omega
    · by_cases h1 : n = 1
      · subst h1
        obtain ⟨b, off, rfl, hbb, hc⟩ := hs.at_ (by omega)
        have K := Lib.hid (show ∀ w', Below w.heap.size w w' → w'.cell? ⟨b, off, none⟩ = some (.int .u8 (bat r 0)) from
          fun w' h => (h.cell (p := ⟨b, off, none⟩) hbb).trans (hc 0 (by omega)))
        have E := Lib.hid (show dn s (bat r 0 * 256) = sumF 0 l by rw [← hf, sumF_one s r (by omega)])
        have x0 := bat_lo r 0
        have x1 := bat_hi r 0
        generalize bat r 0 = x at K E x0 x1
        have c0 := K.out _ hb
        clear hs hc hA hb hf
        go_wp2_with (first
          | (go_at_call 68; (with_reducible refine (pair_any x 0 _ x0 x1 (by omega) (by omega)).mono ?_); rintro e w2 ⟨rfl, rfl⟩)
          | (go_at_call 70; (with_reducible refine (add_any w w.heap.size s (x * 256) _ (Nat.le_refl _) HB.out HA.out s0 s1 (by omega) (by omega)).mono ?_); rintro e w2 ⟨rfl, hA2, hb2⟩))
        go_ret
        exact ⟨by rw [← E.out]; rfl, hb2⟩
      · have h0 : n = 0 := by omega
        have E := Lib.hid (show dn s 0 = sumF 0 l by rw [← hf, sumF_none s r (by omega), dn_zero s1])
        subst h0
        clear hs hA hb hf
        go_wp2_with (first
          | (go_at_call 70; (with_reducible refine (add_any w w.heap.size s 0 _ (Nat.le_refl _) HB.out HA.out s0 s1 (by omega) (by omega)).mono ?_); rintro e w2 ⟨rfl, hA2, hb2⟩))
        go_ret
        exact ⟨by rw [← E.out]; rfl, hb2⟩

theorem of_any (A : Option Addr) (n c : Nat) (l : List UInt8) (w : World) (h : BSl w A n c l) (s : Int) (hs : 65535 - sumF 0 l = s) :
    Calls Try.prog 47 #[.slice A n c] w fun e w' => e = .returned (.int .i64 s) ∧ Below w.heap.size w w' := by
  have HS := Lib.hid (sum_any A n c l w h)
  have hb := sumF_bd l
  subst hs
  generalize sumF 0 l = s at *
  clear h
  go_enter Try.func47, Try.ntmps47
  go_wp2_with (go_at_call 59; (with_reducible refine (HS.out).mono ?_); rintro e w1 ⟨rfl, hb1⟩)
  go_ret
  exact ⟨rfl, hb1⟩
theorem right_any (A : Option Addr) (n c : Nat) (l : List UInt8) (w : World) (h : BSl w A n c l) (v : Bool) (hv : (sumF 0 l == 65535) = v) :
    Calls Try.prog 69 #[.slice A n c] w fun e w' => e = .returned (.bool v) ∧ Below w.heap.size w w' := by
  have HS := Lib.hid (sum_any A n c l w h)
  subst hv
  generalize sumF 0 l = s at *
  clear h
  go_enter Try.func69, Try.ntmps69
  go_wp2_with (go_at_call 59; (with_reducible refine (HS.out).mono ?_); rintro e w1 ⟨rfl, hb1⟩)
  go_ret
  exact ⟨rfl, hb1⟩
end Go.Proofs.Ytgmeicenjgiihaa
