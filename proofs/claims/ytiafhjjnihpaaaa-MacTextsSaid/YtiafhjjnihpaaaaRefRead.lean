/- The contract of palingref01.Read: it answers what mac.Read answers. -/
import Derived.Test.YtiafhjjnihpaaaaTextFacts
namespace Go.Proofs.Ytiafhjjnihpaaaa
open Go.RowKit

set_option maxRecDepth 100000 in
theorem refRead_short (s : ByteArray) (w : World) (h : s.size ≠ 17) :
    Calls Try.prog 9 #[.string s] w fun e w' => e = .returned (.tuple #[.int .u64 0, .bool false]) ∧ w = w' := by
  have h' : ((s.size : Int) != 17) = true := by simp; omega
  clear h
  go_enter Try.func9, Try.ntmps9
  go_wp2
  go_ret2
  exact ⟨rfl, rfl⟩

theorem bytes_ne (a b : ByteArray) (h : a ≠ b) : (a.toList == b.toList) = false := by
  rcases hx : (a.toList == b.toList) with _ | _
  · rfl
  · exfalso
    have e : a.toList = b.toList := by simpa using hx
    rw [ByteArray.toList_eq, ByteArray.toList_eq] at e
    apply h
    cases a
    cases b
    exact congrArg ByteArray.mk (Array.ext' e)

theorem nn_some (s : ByteArray) (i : Nat) (h : i % 3 ≠ 2) (d : Int) (hd : dd (sb s i) = d) : nn s (i + 1) = nn s i * 16 + d := by
  simp [nn, h, hd]
theorem nn_none (s : ByteArray) (i : Nat) (h : i % 3 = 2) : nn s (i + 1) = nn s i := by
  simp [nn, h]

set_option maxRecDepth 100000 in
set_option maxHeartbeats 2000000 in
theorem refRead_17 (s : ByteArray) (w : World) (hs : s.size = 17) :
    Calls Try.prog 9 #[.string s] w fun e w' => e = .returned (.tuple #[.int .u64 (rdV s), .bool (rdB s)]) ∧ Below w.heap.size w w' := by
  have h' : ((s.size : Int) != 17) = false := by simp; omega
  have Hs := Lib.hid hs
  clear hs
  go_enter Try.func9, Try.ntmps9
  go_wp2
  go_loop [4, 5] (fun v i => ∃ k : Nat, k ≤ 17 ∧ i = .int .i64 k ∧ v = .int .u64 (nn s k)) (fun _ i => 17 - (intOf i).toNat)
  case atStart => exact ⟨0, by omega, rfl, rfl⟩
  case round =>
    obtain ⟨k, hk, rfl, rfl⟩ := hrel
    by_cases hlt : k < 17
    · have x0 := run_index_sb s k k rfl (by have := Hs.out; omega)
      have l0 := sb_lo s k
      have l1 := sb_hi s k
      obtain ⟨n0, n1⟩ := nn_bd s k
      have n2 : nn s k < 17592186044416 := by
        have : ∀ i : Fin 17, (16 : Int) ^ (i.val - i.val / 3) ≤ 17592186044416 := by decide
        have := this ⟨k, hlt⟩
        simp only at this
        omega
      clear n1
      by_cases hm : k % 3 = 2
      · have HN := Lib.hid (nn_none s k hm)
        have e1 : ((k : Int) % 3 != 2) = false := by simp; omega
        clear hm
        by_cases c1 : sb s k < 48
        · go_wp2
          go_round
          case rel => exact ⟨k + 1, by omega, by go_num, by rw [HN.out]⟩
          case measure => simp [intOf]; omega
        by_cases c2 : sb s k ≤ 57
        · go_wp2
          go_round
          case rel => exact ⟨k + 1, by omega, by go_num, by rw [HN.out]⟩
          case measure => simp [intOf]; omega
        by_cases c3 : sb s k < 97
        · go_wp2
          go_round
          case rel => exact ⟨k + 1, by omega, by go_num, by rw [HN.out]⟩
          case measure => simp [intOf]; omega
        by_cases c4 : sb s k ≤ 102
        · go_wp2
          go_round
          case rel => exact ⟨k + 1, by omega, by go_num, by rw [HN.out]⟩
          case measure => simp [intOf]; omega
        · go_wp2
          go_round
          case rel => exact ⟨k + 1, by omega, by go_num, by rw [HN.out]⟩
          case measure => simp [intOf]; omega
      · have e1 : ((k : Int) % 3 != 2) = true := by simp; omega
        have HM := Lib.hid hm
        clear hm
        by_cases c1 : sb s k < 48
        · have HN := Lib.hid (nn_some s k HM.out 0 (by unfold dd; rw [if_neg (by omega), if_neg (by omega)]))
          go_wp2
          go_round
          case rel => exact ⟨k + 1, by omega, by go_num, by rw [HN.out]; first | rfl | simp⟩
          case measure => simp [intOf]; omega
        by_cases c2 : sb s k ≤ 57
        · have HN := Lib.hid (nn_some s k HM.out (sb s k - 48) (by unfold dd; rw [if_pos (by omega)]))
          go_wp2
          go_round
          case rel => exact ⟨k + 1, by omega, by go_num, by rw [HN.out]⟩
          case measure => simp [intOf]; omega
        by_cases c3 : sb s k < 97
        · have HN := Lib.hid (nn_some s k HM.out 0 (by unfold dd; rw [if_neg (by omega), if_neg (by omega)]))
          go_wp2
          go_round
          case rel => exact ⟨k + 1, by omega, by go_num, by rw [HN.out]; first | rfl | simp⟩
          case measure => simp [intOf]; omega
        by_cases c4 : sb s k ≤ 102
        · have HN := Lib.hid (nn_some s k HM.out (sb s k - 87) (by unfold dd; rw [if_neg (by omega), if_pos (by omega)]))
          go_wp2
          go_round
          case rel => exact ⟨k + 1, by omega, by go_num, by rw [HN.out]⟩
          case measure => simp [intOf]; omega
        · have HN := Lib.hid (nn_some s k HM.out 0 (by unfold dd; rw [if_neg (by omega), if_neg (by omega)]))
          go_wp2
          go_round
          case rel => exact ⟨k + 1, by omega, by go_num, by rw [HN.out]; first | rfl | simp⟩
          case measure => simp [intOf]; omega
    · obtain rfl : k = 17 := by omega
      obtain ⟨n0, n1⟩ := nn_bd s 17
      have n2 : nn s 17 < 18446744073709551616 := by simp at n1; omega
      clear n1
      rcases hB : rdB s with _ | _
      · have HE := Lib.hid (show rdV s = 0 by simp [rdV, hB])
        have hne : ((strOf (textPre (nn s 17) 6)).toList == s.toList) = false := by
          refine bytes_ne _ _ fun he => ?_
          rw [← he, rdB_text] at hB
          cases hB
        have HB := Lib.hid hB
        clear hB
        go_wp2_with (go_at_call 11; refine (refText_any _ _ n0 n2).mono ?_; rintro e w1 ⟨rfl, hb⟩)
        go_ret2
        exact ⟨by rw [HE.out, HB.out]; rfl, hb⟩
      · have hv : nn s 17 = rdV s := by rw [nn_val s hB]; simp [rdV, hB]
        have ht := refText_any (nn s 17)
        have hs1 : strOf (textPre (nn s 17) 6) = s := by rw [nn_val s hB, text_val s hB]
        rw [hs1] at ht
        have HT := Lib.hid ht
        have HB := Lib.hid hB
        have HV := Lib.hid hv
        clear ht hB hv hs1
        go_wp2_with (go_at_call 11; refine (HT.out _ n0 n2).mono ?_; rintro e w1 ⟨rfl, hb⟩)
        go_ret2
        exact ⟨by rw [← HV.out, HB.out]; rfl, hb⟩

theorem refRead_any (s : ByteArray) (w : World) :
    Calls Try.prog 9 #[.string s] w fun e w' => e = .returned (.tuple #[.int .u64 (rdV s), .bool (rdB s)]) ∧ Below w.heap.size w w' := by
  by_cases hs : s.size = 17
  · exact refRead_17 s w hs
  · have hb : rdB s = false := by simp [rdB, hs]
    have hv : rdV s = 0 := by simp [rdV, hb]
    rw [hb, hv]
    exact (refRead_short s w hs).mono fun _ _ ⟨h1, h2⟩ => ⟨h1, h2 ▸ Below.refl _ _⟩
end Go.Proofs.Ytiafhjjnihpaaaa
