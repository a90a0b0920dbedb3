/- The contract of palingref08.Put. -/
import Derived.Test.YtgmeicenjgiihaaUdPut
namespace Go.Proofs.Ytgmeicenjgiihaa
open Go.RowKit
open Go.Lib (byteCells)

theorem ruput_form (S D : Int) (A : Option Addr) (n c : Nat) (w : World) (h : ¬ uok S D) :
    Calls Try.prog 28 #[.int .i64 S, .int .i64 D, .slice A n c] w fun e w' => e = .returned (.tuple #[.slice none 0 0, .int .i64 11]) ∧ Below w.heap.size w w' := by
  by_cases s0 : S < 0
  · clear h
    go_enter Try.func28, Try.ntmps28
    go_wp2
    go_ret2
    exact ⟨rfl, Below.refl _ _⟩
  · by_cases d0 : D < 0
    · clear h
      go_enter Try.func28, Try.ntmps28
      go_wp2
      go_ret2
      exact ⟨rfl, Below.refl _ _⟩
    · by_cases s1 : 65536 ≤ S
      · clear h
        go_enter Try.func28, Try.ntmps28
        go_wp2
        go_ret2
        exact ⟨rfl, Below.refl _ _⟩
      · have d1 : 65536 ≤ D := by
          unfold uok at h
          omega
        clear h
        go_enter Try.func28, Try.ntmps28
        go_wp2
        go_ret2
        exact ⟨rfl, Below.refl _ _⟩
theorem ruput_long (S D : Int) (A : Option Addr) (n c : Nat) (w : World) (h : uok S D) (hn : 1472 < n) :
    Calls Try.prog 28 #[.int .i64 S, .int .i64 D, .slice A n c] w fun e w' => e = .returned (.tuple #[.slice none 0 0, .int .i64 14]) ∧ Below w.heap.size w w' := by
  obtain ⟨⟨s0, s1⟩, ⟨d0, d1⟩⟩ := h
  have s2 : ¬ 65536 ≤ S := by omega
  have d2 : ¬ 65536 ≤ D := by omega
  go_enter Try.func28, Try.ntmps28
  go_wp2
  go_ret2
  exact ⟨rfl, Below.refl _ _⟩
theorem lit_byte (x : Int) (h0 : 0 ≤ x) (h1 : x < 256) : Value.int .u8 ((u8 x).toNat : Int) = .int .u8 x := by rw [u8_val x h0 h1]
set_option maxRecDepth 20000 in
set_option maxHeartbeats 1000000 in
theorem ruput_ok (S D : Int) (A : Option Addr) (n c : Nat) (l : List UInt8) (w : World) (hl : BSl w A n c l) (h : uok S D) (hn : n ≤ 1472) :
    Calls Try.prog 28 #[.int .i64 S, .int .i64 D, .slice A n c] w fun e w' => ∃ v, e = .returned (.tuple #[v, .int .i64 0]) ∧ w'.ownsRow w.heap.size 5 1 v (8 + n) (byteCells (uds S D l)) ∧ Below w.heap.size w w' := by
  obtain ⟨⟨s0, s1⟩, ⟨d0, d1⟩⟩ := h
  obtain ⟨i0, hi, hz0, hz1, hz2⟩ := info_parts Try.info5
  have Hi := Lib.hid hi; have Hz0 := Lib.hid hz0; have Hz1 := Lib.hid hz1; have Hz2 := Lib.hid hz2
  have HS := Lib.hid hl
  have HC := Lib.hid (show byteCells (uds S D l) = byteCells (udh S D n) ++ byteCells l by rw [← hl.len]; exact uds_cells S D l)
  obtain ⟨N, hN⟩ : ∃ N : Int, 8 + (n : Int) = N := ⟨_, rfl⟩
  have N0 : 0 ≤ N := by omega
  have N1 : N ≤ 65535 := by omega
  have hni : (n : Int) ≤ 1472 := by omega
  have HN := Lib.hid hN
  have O0 := Lib.hid (own_lit w w.heap.size (Nat.le_refl _) #[.int .u8 (S / 256), .int .u8 (S % 256), .int .u8 (D / 256), .int .u8 (D % 256), .int .u8 (N / 256), .int .u8 (N % 256), .int .u8 0, .int .u8 0] (udh S D n) (by
    show _ = [Value.int .u8 ((u8 (S / 256 % 256)).toNat : Int), .int .u8 ((u8 (S % 256)).toNat : Int), .int .u8 ((u8 (D / 256 % 256)).toNat : Int), .int .u8 ((u8 (D % 256)).toNat : Int), .int .u8 ((u8 ((8 + (n : Int)) / 256 % 256)).toNat : Int), .int .u8 ((u8 ((8 + (n : Int)) % 256)).toNat : Int), .int .u8 ((u8 0).toNat : Int), .int .u8 ((u8 0).toNat : Int)]
    rw [hN, lit_byte _ (by omega) (by omega), lit_byte _ (by omega) (by omega), lit_byte _ (by omega) (by omega), lit_byte _ (by omega) (by omega), lit_byte _ (by omega) (by omega), lit_byte _ (by omega) (by omega), lit_byte _ (by omega) (by omega),
      Int.emod_eq_of_lt (show 0 ≤ S / 256 by omega) (by omega), Int.emod_eq_of_lt (show 0 ≤ D / 256 by omega) (by omega), Int.emod_eq_of_lt (show 0 ≤ N / 256 by omega) (by omega)]) 8 w.heap.size rfl rfl (by decide))
  have s2 : ¬ 65536 ≤ S := by omega
  have d2 : ¬ 65536 ≤ D := by omega
  have q1 : S.tdiv 256 = S / 256 := Int.tdiv_eq_ediv_of_nonneg s0
  have q2 : S.tmod 256 = S % 256 := Int.tmod_eq_emod_of_nonneg s0
  have q3 : D.tdiv 256 = D / 256 := Int.tdiv_eq_ediv_of_nonneg d0
  have q4 : D.tmod 256 = D % 256 := Int.tmod_eq_emod_of_nonneg d0
  have q5 : N.tdiv 256 = N / 256 := Int.tdiv_eq_ediv_of_nonneg N0
  have q6 : N.tmod 256 = N % 256 := Int.tmod_eq_emod_of_nonneg N0
  have BN := Lib.hid (show Below w.heap.size w (w.alloc (.cells #[.int .u8 (S / 256), .int .u8 (S % 256), .int .u8 (D / 256), .int .u8 (D % 256), .int .u8 (N / 256), .int .u8 (N % 256), .int .u8 0, .int .u8 0] 5)) from (Below.refl _ _).alloc (Nat.le_refl _) _)
  clear hi hz0 hz1 hz2 hl
  go_enter Try.func28, Try.ntmps28
  go_wp2_with (at_builtin; refine wpList_bapp rfl (.tmp 49) (.tmp 50) 22 rfl w.heap.size 5 i0 (.int .u8 0) 1 Try.underlying22 Hi.out Hz0.out Hz1.out Hz2.out rfl _ _ _ (by rfl) O0.out A n c l (by rfl) (HS.out.below BN.out) (by unfold maxLen; omega) (by omega) BN.out.size ?_; intro v3 w3 hown3 hgrow3; have B3 := Lib.hid (below_app BN.out O0.out hgrow3))
  go_ret2
  exact ⟨v3, rfl, by rw [HC.out]; exact hown3, B3.out⟩
theorem ruput_any (S D : Int) (A : Option Addr) (n c : Nat) (l : List UInt8) (w : World) (h : BSl w A n c l) :
    Calls Try.prog 28 #[.int .i64 S, .int .i64 D, .slice A n c] w (GotUPut w S D l) := by
  have hl := h.len
  unfold GotUPut
  rw [hl]
  by_cases hp : uok S D
  · by_cases hn : 1472 < n
    · rw [upE_long hp hn]
      exact (ruput_long S D A n c w hp hn).mono fun _ _ ⟨he, hb⟩ => ⟨none, 0, 0, he, BSl.nil, hb⟩
    · rw [upE_ok hp hn]
      exact (ruput_ok S D A n c l w h hp (by omega)).mono fun _ _ ⟨v, he, ho, hb⟩ => by
        obtain ⟨A', c', rfl, h2⟩ := own_got ho
        exact ⟨A', 8 + n, c', he, h2, hb⟩
  · rw [upE_form hp]
    exact (ruput_form S D A n c w hp).mono fun _ _ ⟨he, hb⟩ => ⟨none, 0, 0, he, BSl.nil, hb⟩
end Go.Proofs.Ytgmeicenjgiihaa
