/- The contracts of udp.write and udp.Put. -/
import Derived.Test.YtjdejdkjngilaaaUdPort
import Derived.Test.YtjdejdkjngilaaaUdRead
namespace Go.Proofs.Ytjdejdkjngilaaa
open Go.RowKit
open Go.Lib (byteCells)

/-- the bytes of the first k of four numbers -/
def udw (a b c d : Int) : Nat → List UInt8
  | 0 => []
  | k + 1 => udw a b c d k ++ [u8 (four4 a b c d k / 256), u8 (four4 a b c d k % 256)]
theorem udw_all (S D : Int) (n : Nat) (h : uok S D) (hn : n ≤ 1472) : udw S D (8 + (n : Int)) 0 4 = udh S D n := by
  obtain ⟨⟨s0, s1⟩, ⟨d0, d1⟩⟩ := h
  show [] ++ [u8 (S / 256), u8 (S % 256)] ++ [u8 (D / 256), u8 (D % 256)] ++ [u8 ((8 + (n : Int)) / 256), u8 ((8 + (n : Int)) % 256)] ++ [u8 0, u8 0] = _
  unfold udh
  rw [Int.emod_eq_of_lt (show 0 ≤ S / 256 by omega) (by omega), Int.emod_eq_of_lt (show 0 ≤ D / 256 by omega) (by omega), Int.emod_eq_of_lt (show 0 ≤ (8 + (n : Int)) / 256 by omega) (by omega)]
  rfl
theorem run_index_four (a b c d : Int) (k : Nat) (hk : k < 4) (x : Int) (hx : four4 a b c d k = x) (w : World) : (Instr.index 40 (.agg #[.int .i64 a, .int .i64 b, .int .i64 c, .int .i64 d]) (.int .i64 k)).run Try.prog w = .ok (.int .i64 x) w := by
  subst hx
  match k, hk with
  | 0, _ | 1, _ | 2, _ | 3, _ => show Sem.run _ _ _ = Result.ok _ _; kernel_rfl
theorem four4_bd {a b c d : Int} (ha : 0 ≤ a ∧ a ≤ 65535) (hb : 0 ≤ b ∧ b ≤ 65535) (hc : 0 ≤ c ∧ c ≤ 65535) (hd : 0 ≤ d ∧ d ≤ 65535) (k : Nat) : 0 ≤ four4 a b c d k ∧ four4 a b c d k ≤ 65535 := by
  unfold four4
  split <;> assumption

set_option maxHeartbeats 1000000 in
theorem uwrite_any (a b c d : Int) (w : World) (ha : 0 ≤ a ∧ a ≤ 65535) (hb : 0 ≤ b ∧ b ≤ 65535) (hc : 0 ≤ c ∧ c ≤ 65535) (hd : 0 ≤ d ∧ d ≤ 65535) :
    Calls Try.prog 17 #[.agg #[.int .i64 a, .int .i64 b, .int .i64 c, .int .i64 d]] w fun e w' => ∃ v, e = .returned v ∧ w'.ownsRow w.heap.size 5 1 v 8 (byteCells (udw a b c d 4)) ∧ Below w.heap.size w w' := by
  obtain ⟨i0, hi, hz0, hz1, hz2⟩ := info_parts Try.info5
  have Hi := Lib.hid hi; have Hz0 := Lib.hid hz0; have Hz1 := Lib.hid hz1; have Hz2 := Lib.hid hz2
  have HX := Lib.hid (four4_bd ha hb hc hd)
  have RI := Lib.hid (run_index_four a b c d)
  have HW := Lib.hid (fun k => (show udw a b c d (k + 1) = udw a b c d k ++ [u8 (four4 a b c d k / 256), u8 (four4 a b c d k % 256)] from rfl))
  clear hi hz0 hz1 hz2 ha hb hc hd
  go_enter Try.func17, Try.ntmps17
  go_wp2
  go_loopw [3, 7] (fun v i wr => ∃ k : Nat, k ≤ 4 ∧ i = .int .i64 k ∧ wr.ownsRow w.heap.size 5 1 v (2 * k) (byteCells (udw a b c d k)) ∧ Below w.heap.size w wr) (fun _ i _ => match i with | .int _ x => (4 - x).toNat | _ => 0)
  case atStart => exact ⟨0, by omega, rfl, World.ownsRow_nil _ _ _ _, (Below.refl _ _).alloc (Nat.le_refl _) _⟩
  case round =>
    obtain ⟨k, hk, rfl, ho, hb⟩ := hrel
    have O := Lib.hid ho
    have B := Lib.hid hb
    clear ho hb
    by_cases hlt : k < 4
    · obtain ⟨x, hx⟩ : ∃ x, four4 a b c d k = x := ⟨_, rfl⟩
      obtain ⟨x0, x1⟩ := HX.out k
      have R := fun w => RI.out k hlt x hx w
      have E := Lib.hid (HW.out k)
      rw [hx] at x0 x1 E
      clear hx HX RI HW
      go_wp2_with (at_builtin; refine wpList_bapp rfl (.tmp 10) (.tmp 16) 22 rfl w.heap.size 5 i0 (.int .u8 0) 1 Try.underlying22 Hi.out Hz0.out Hz1.out Hz2.out rfl _ _ _ (by rfl) (O.out.alloc _) (some ⟨wr.heap.size, 0, none⟩) 2 2 [Go.Proofs.Ytjdejdkjngilaaa.u8 (x / 256), Go.Proofs.Ytjdejdkjngilaaa.u8 (x % 256)] (by rfl) (bsl_two wr _ _ ⟨by omega, by omega⟩ ⟨by omega, by omega⟩) (by unfold maxLen; omega) (by omega) (by have := B.out.size; simp at this ⊢; omega) ?_; intro v3 w3 hown3 hgrow3; have B3 := Lib.hid (below_app (B.out.alloc B.out.size _) (O.out.alloc _) hgrow3); rw [← bcells_app, ← E.out] at hown3; have O3 := Lib.hid hown3; clear hown3 hgrow3)
      go_roundw
      case rel => exact ⟨k + 1, by omega, by simp, O3.out, B3.out⟩
      case measure => simp only []; omega
    · obtain rfl : k = 4 := by omega
      go_wp2
      go_ret
      exact ⟨_, rfl, O.out, B.out⟩
end Go.Proofs.Ytjdejdkjngilaaa
