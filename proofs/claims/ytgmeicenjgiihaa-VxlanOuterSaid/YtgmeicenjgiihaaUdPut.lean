/- The contracts of udp.Put and palingref08.Put. -/
import Derived.Test.YtgmeicenjgiihaaUdWrite
namespace Go.Proofs.Ytgmeicenjgiihaa
open Go.RowKit
open Go.Lib (byteCells)

/-- what Put comes to -/
def GotUPut (w : World) (S D : Int) (l : List UInt8) : Ending → World → Prop := GotB w (ol (upE S D l.length) (uds S D l)) (upE S D l.length)

theorem uput_form (S D : Int) (A : Option Addr) (n c : Nat) (w : World) (h : ¬ uok S D) :
    Calls Try.prog 23 #[.int .i64 S, .int .i64 D, .slice A n c] w fun e w' => e = .returned (.tuple #[.slice none 0 0, .int .i64 11]) ∧ Below w.heap.size w w' := by
  cases hS : (decide (0 ≤ S) && decide (S ≤ 65535)) with
  | false =>
    have FS := Lib.hid hS
    clear hS h
    go_enter Try.func23, Try.ntmps23
    go_wp2_with (go_at_call 43; (with_reducible refine (fits_any S _ false FS.out).mono ?_); rintro e w1 ⟨rfl, rfl⟩)
    go_ret2
    exact ⟨rfl, Below.refl _ _⟩
  | true =>
    have hD : (decide (0 ≤ D) && decide (D ≤ 65535)) = false := by
      cases hD : (decide (0 ≤ D) && decide (D ≤ 65535)) with
      | false => rfl
      | true =>
        simp at hS hD
        exact absurd ⟨hS, hD⟩ h
    have FS := Lib.hid hS
    have FD := Lib.hid hD
    clear hS hD h
    go_enter Try.func23, Try.ntmps23
    go_wp2_with (first
      | (go_at_call 43; (with_reducible refine (fits_any S _ true FS.out).mono ?_); rintro e w1 ⟨rfl, rfl⟩)
      | (go_at_call 43; (with_reducible refine (fits_any D _ false FD.out).mono ?_); rintro e w1 ⟨rfl, rfl⟩))
    go_ret2
    exact ⟨rfl, Below.refl _ _⟩
theorem uok_fits {S D : Int} (h : uok S D) : (decide (0 ≤ S) && decide (S ≤ 65535)) = true ∧ (decide (0 ≤ D) && decide (D ≤ 65535)) = true := by
  obtain ⟨⟨s0, s1⟩, ⟨d0, d1⟩⟩ := h
  simp [s0, s1, d0, d1]
theorem uput_long (S D : Int) (A : Option Addr) (n c : Nat) (w : World) (h : uok S D) (hn : 1472 < n) :
    Calls Try.prog 23 #[.int .i64 S, .int .i64 D, .slice A n c] w fun e w' => e = .returned (.tuple #[.slice none 0 0, .int .i64 14]) ∧ Below w.heap.size w w' := by
  obtain ⟨hS, hD⟩ := uok_fits h
  have FS := Lib.hid hS
  have FD := Lib.hid hD
  clear hS hD h
  go_enter Try.func23, Try.ntmps23
  go_wp2_with (first
    | (go_at_call 43; (with_reducible refine (fits_any S _ true FS.out).mono ?_); rintro e w1 ⟨rfl, rfl⟩)
    | (go_at_call 43; (with_reducible refine (fits_any D _ true FD.out).mono ?_); rintro e w1 ⟨rfl, rfl⟩))
  go_ret2
  exact ⟨rfl, Below.refl _ _⟩
set_option maxRecDepth 20000 in
set_option maxHeartbeats 1000000 in
theorem uput_ok (S D : Int) (A : Option Addr) (n c : Nat) (l : List UInt8) (w : World) (hl : BSl w A n c l) (h : uok S D) (hn : n ≤ 1472) :
    Calls Try.prog 23 #[.int .i64 S, .int .i64 D, .slice A n c] w fun e w' => ∃ v, e = .returned (.tuple #[v, .int .i64 0]) ∧ w'.ownsRow w.heap.size 5 1 v (8 + n) (byteCells (uds S D l)) ∧ Below w.heap.size w w' := by
  obtain ⟨hS, hD⟩ := uok_fits h
  have FS := Lib.hid hS
  have FD := Lib.hid hD
  obtain ⟨i0, hi, hz0, hz1, hz2⟩ := info_parts Try.info5
  have Hi := Lib.hid hi; have Hz0 := Lib.hid hz0; have Hz1 := Lib.hid hz1; have Hz2 := Lib.hid hz2
  have HS := Lib.hid hl
  have HC := Lib.hid (show byteCells (uds S D l) = byteCells (udh S D n) ++ byteCells l by rw [← hl.len]; exact uds_cells S D l)
  have WR := Lib.hid (fun w => by
    have := uwrite_any S D (8 + (n : Int)) 0 w h.1 h.2 ⟨by omega, by omega⟩ ⟨by omega, by omega⟩
    rw [udw_all S D n h hn] at this
    exact this)
  have hni : (n : Int) ≤ 1472 := by omega
  clear hi hz0 hz1 hz2 hS hD h hl
  go_enter Try.func23, Try.ntmps23
  go_wp2_with (first
    | (go_at_call 43; (with_reducible refine (fits_any S _ true FS.out).mono ?_); rintro e w1 ⟨rfl, rfl⟩)
    | (go_at_call 43; (with_reducible refine (fits_any D _ true FD.out).mono ?_); rintro e w1 ⟨rfl, rfl⟩)
    | (go_at_call 44; (with_reducible refine (WR.out _).mono ?_); rintro e w2 ⟨v2, rfl, hown2, hb2⟩; have O2 := Lib.hid hown2; have B2 := Lib.hid hb2; clear hown2 hb2)
    | (at_builtin; refine wpList_bapp rfl (.tmp 27) (.tmp 28) 22 rfl w.heap.size 5 i0 (.int .u8 0) 1 Try.underlying22 Hi.out Hz0.out Hz1.out Hz2.out rfl _ _ _ (by rfl) O2.out A n c l (by rfl) (HS.out.below B2.out) (by unfold maxLen; omega) (by omega) B2.out.size ?_; intro v3 w3 hown3 hgrow3; have B3 := Lib.hid (below_app B2.out O2.out hgrow3)))
  go_ret2
  exact ⟨v3, rfl, by rw [HC.out]; exact hown3, B3.out⟩
theorem uput_any (S D : Int) (A : Option Addr) (n c : Nat) (l : List UInt8) (w : World) (h : BSl w A n c l) :
    Calls Try.prog 23 #[.int .i64 S, .int .i64 D, .slice A n c] w (GotUPut w S D l) := by
  have hl := h.len
  unfold GotUPut
  rw [hl]
  by_cases hp : uok S D
  · by_cases hn : 1472 < n
    · rw [upE_long hp hn]
      exact (uput_long S D A n c w hp hn).mono fun _ _ ⟨he, hb⟩ => ⟨none, 0, 0, he, BSl.nil, hb⟩
    · rw [upE_ok hp hn]
      exact (uput_ok S D A n c l w h hp (by omega)).mono fun _ _ ⟨v, he, ho, hb⟩ => by
        obtain ⟨A', c', rfl, h2⟩ := own_got ho
        exact ⟨A', 8 + n, c', he, h2, hb⟩
  · rw [upE_form hp]
    exact (uput_form S D A n c w hp).mono fun _ _ ⟨he, hb⟩ => ⟨none, 0, 0, he, BSl.nil, hb⟩
end Go.Proofs.Ytgmeicenjgiihaa
