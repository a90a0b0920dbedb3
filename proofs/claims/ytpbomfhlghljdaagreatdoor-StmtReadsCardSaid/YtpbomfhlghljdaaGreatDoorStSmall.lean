/- Package stmt's small functions: what a word is to be, its limits, a line's kind; is an address no group's and no host's, an interface's; rise addresses; may a port's VLANs be. -/
import Derived.Test.YtpbomfhlghljdaaGreatDoorStLib
import Derived.Test.YtpbomfhlghljdaaGreatDoorStRg
import Derived.Test.YtpbomfhlghljdaaGreatDoorSeq
import Derived.Test.YtpbomfhlghljdaaGreatDoorSsl
namespace Go.Proofs.YtpbomfhlghljdaaGreatDoor
open Go.RowKit

set_option maxHeartbeats 1000000 in
theorem opt_any (k : Nat) (hk : k < 13) (w : World) : Calls Tryz.prog 50 #[.int .i64 (k : Int)] w fun e w' => e = .returned (.bool (optB k)) ∧ w = w' := by
  match k, hk with
  | 0, _ | 1, _ | 2, _ | 3, _ | 4, _ | 5, _ | 6, _ | 7, _ | 8, _ | 9, _ | 10, _ | 11, _ | 12, _ =>
    go_enter Tryz.func50, Tryz.ntmps50
    go_wp2
    go_ret
    exact ⟨rfl, rfl⟩
  | k + 13, h => exact absurd h (by omega)
set_option maxHeartbeats 1000000 in
theorem lim_any (k : Nat) (hk : k < 13) (w : World) : Calls Tryz.prog 51 #[.int .i64 (k : Int)] w fun e w' => e = .returned (.tuple #[.int .i64 (loW k), .int .i64 (hiW k)]) ∧ w = w' := by
  match k, hk with
  | 0, _ | 1, _ | 2, _ | 3, _ | 4, _ | 5, _ | 6, _ | 7, _ | 8, _ | 9, _ | 10, _ | 11, _ | 12, _ =>
    go_enter Tryz.func51, Tryz.ntmps51
    go_wp2
    go_ret2
    exact ⟨rfl, rfl⟩
  | k + 13, h => exact absurd h (by omega)
set_option maxHeartbeats 1000000 in
theorem ref_any (k : Nat) (hk : k < 13) (w : World) : Calls Tryz.prog 18 #[.int .i64 (k : Int)] w fun e w' => e = .returned (.int .i64 (refE k)) ∧ w = w' := by
  match k, hk with
  | 0, _ | 1, _ | 2, _ | 3, _ | 4, _ | 5, _ | 6, _ | 7, _ | 8, _ | 9, _ | 10, _ | 11, _ | 12, _ =>
    go_enter Tryz.func18, Tryz.ntmps18
    go_wp2
    go_ret
    exact ⟨rfl, rfl⟩
  | k + 13, h => exact absurd h (by omega)
theorem lone_any (m : Int) (w : World) (h0 : 0 ≤ m) (h1 : m < 281474976710656) : Calls Tryz.prog 71 #[.int .u64 m] w fun e w' => e = .returned (.bool (loneB m)) ∧ w = w' := by
  have E := Lib.hid (show loneB m = (!Mac.grp m && !Mac.isHostB m) by unfold loneB; rw [decide_eq_true (by omega), Bool.true_and])
  have d : decide (m ≤ 281474976710655) = true := decide_eq_true (by omega)
  have C1 := Lib.hid (fun w => Mac.isHost_any m w h0 (by omega))
  have C2 := Lib.hid (fun w => Mac.group_any m w h0 (by omega))
  generalize (if Mac.isHostB m = true then m % 4294967296 else 0) = ip at *
  generalize Mac.isHostB m = b1 at *
  generalize Mac.grp m = b2 at *
  cases b1 <;> cases b2
  all_goals
    go_enter Tryz.func71, Tryz.ntmps71
    go_wp2_with (first
      | (go_at_call 98; refine (C1.out _).mono ?_; rintro e w1 ⟨rfl, rfl⟩)
      | (go_at_call 99; refine (C2.out _).mono ?_; rintro e w1 ⟨rfl, rfl⟩))
    go_ret
    exact ⟨by rw [E.out]; rfl, rfl⟩
theorem tk_any (A : Option Addr) (n c : Nat) (ws : List (List UInt8)) (w : World) (h : SSl w A n c ws) : Calls Tryz.prog 16 #[.slice A n c] w fun e w' => e = .returned (.bool (tkB ws)) ∧ w = w' := by
  have hl := h.len
  have hle := h.le
  by_cases h4 : n ≤ 4
  · have E := Lib.hid (show tkB ws = false by unfold tkB; rw [if_pos (by omega)])
    clear h
    go_enter Tryz.func16, Tryz.ntmps16
    go_wp2
    go_ret
    exact ⟨by rw [E.out]; rfl, rfl⟩
  · obtain ⟨b, off, rfl, hb, hc⟩ := h.at_ (by omega)
    have c4 : w.cell? ⟨b, off + 4, none⟩ = some (.string (str (wat ws 4))) := hc 4 (by omega)
    clear h hc
    by_cases e1 : wat ws 4 = sAccess
    · have E := Lib.hid (show tkB ws = false by unfold tkB; rw [if_neg (by omega), if_pos e1])
      rw [e1] at c4
      clear e1
      unfold str sAccess at c4
      go_enter Tryz.func16, Tryz.ntmps16
      go_wp2
      go_ret
      exact ⟨by rw [E.out]; rfl, rfl⟩
    · by_cases e2 : wat ws 4 = sTrunk
      · have E := Lib.hid (show tkB ws = true by unfold tkB; rw [if_neg (by omega), if_neg e1, if_pos e2])
        rw [e2] at c4
        clear e1 e2
        unfold str sTrunk at c4
        go_enter Tryz.func16, Tryz.ntmps16
        go_wp2
        go_ret
        exact ⟨by rw [E.out]; rfl, rfl⟩
      · have E := Lib.hid (show tkB ws = decide ((n : Int) = 7) by
          unfold tkB
          rw [if_neg (by omega), if_neg e1, if_neg e2, hl]
          by_cases g : n = 7
          · rw [decide_eq_true g, decide_eq_true (by omega)]
          · rw [decide_eq_false g, decide_eq_false (by omega)])
        have d1 : (wat ws 4 == ([97, 99, 99, 101, 115, 115] : List UInt8)) = false := by rw [beq_eq_false_iff_ne]; exact e1
        have d2 : (wat ws 4 == ([116, 114, 117, 110, 107] : List UInt8)) = false := by rw [beq_eq_false_iff_ne]; exact e2
        clear e1 e2
        generalize wat ws 4 = s at *
        go_enter Tryz.func16, Tryz.ntmps16
        go_wp2
        go_ret
        exact ⟨by rw [E.out]; rfl, rfl⟩
end Go.Proofs.YtpbomfhlghljdaaGreatDoor
