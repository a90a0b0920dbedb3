/- The contract of addr.number: which number a text begins with, and what stands behind it. -/
import Derived.Test.YtjmbgfhjdmoflaaDoorBase
import Derived.Test.YtjmbgfhjdmoflaaDoorAddrMath
import Derived.WalkMore
namespace Go.Proofs.YtjmbgfhjdmoflaaDoor
open Go.RowKit

/-- what addr.number answers -/
def numV : Option (Nat × List UInt8) → Value
  | some (n, r) => .tuple #[.int .u32 (n : Int), .string (str r), .bool true]
  | none => .tuple #[.int .u32 0, .string ⟨#[]⟩, .bool false]
theorem isD_sb (s : ByteArray) (k : Nat) : isD (s.data.toList.getD k 0) = true ↔ 48 ≤ sb s k ∧ sb s k ≤ 57 := by
  rw [isD_iff]; unfold sb; omega
theorem notD_sb (s : ByteArray) (k : Nat) (h : ¬ (48 ≤ sb s k ∧ sb s k ≤ 57)) : isD (s.data.toList.getD k 0) = false := by
  cases hx : isD (s.data.toList.getD k 0) with
  | false => rfl
  | true => exact absurd ((isD_sb s k).1 hx) h
set_option maxRecDepth 100000 in
set_option maxHeartbeats 1000000 in
theorem number_any (s : ByteArray) (most : Nat) (w : World) (hm : most ≤ 1000) (hs : s.size ≤ maxLen) :
    Calls Tryd.prog 50 #[.string s, .int .u32 most] w fun e w' => e = .returned (numV (numF most s.data.toList)) ∧ Drew w w' := by
  unfold maxLen at hs
  have HM := Lib.hid hm
  go_enter Tryd.func50, Tryd.ntmps50
  go_wp2
  go_step3
  go_wp2
  go_step3
  go_wp2
  go_loop [7, 8, 9] (fun v i c => ∃ k n : Nat, i = .int .i64 k ∧ v = .int .u32 n ∧ NumInv most s.data.toList k n) (fun _ i _ => s.size - (intOf i).toNat)
  case atStart => exact ⟨0, 0, rfl, rfl, NumInv.start _ _⟩
  case round =>
    obtain ⟨k, n, rfl, rfl, inv⟩ := hrel
    have hk := inv.le
    rw [size_len] at hk
    have hn := inv.most
    have hn1 : n ≤ 1000 := by omega
    clear hn
    have I := Lib.hid inv
    clear inv
    have fin : ∀ (b : Bool), ((k : Int) == 0) = b → numF most s.data.toList = (if k = 0 then none else some (n, s.data.toList.drop k)) → Hid (numF most s.data.toList = if b = true then none else some (n, s.data.toList.drop k)) := by
      intro b hb hN
      refine Lib.hid ?_
      rw [hN]
      cases b with
      | true => rw [if_pos (by simpa using hb), if_pos rfl]
      | false => rw [if_neg (by simpa using hb), if_neg (by decide)]
    have F := Lib.hid fin
    clear fin
    have xs := Lib.hid (extract_str s k)
    by_cases hlt : k < s.size
    · have x0 := run_index_sb s k k rfl hlt
      have l0 := sb_lo s k
      have l1 := sb_hi s k
      by_cases cd : 48 ≤ sb s k ∧ sb s k ≤ 57
      · obtain ⟨c1, c2⟩ := cd
        have hD := Lib.hid ((isD_sb s k).2 ⟨c1, c2⟩)
        have hv := Lib.hid (show sb s k = ((s.data.toList.getD k 0).toNat : Int) from rfl)
        by_cases cz : 0 < k ∧ n = 0
        · obtain ⟨cz1, rfl⟩ := cz
          have e := Lib.hid (I.out.nought (by rw [size_len]; exact hlt) hD.out cz1 rfl)
          go_wp2
          go_ret3
          exact ⟨by rw [e.out]; rfl, Drew.refl _⟩
        · have hz := Lib.hid (show 0 < k → n ≠ 0 from fun h1 h2 => cz ⟨h1, h2⟩)
          have zz : (0 < k ∧ ((n : Int) == 0) = false) ∨ ¬ 0 < k := by
            by_cases h0 : 0 < k
            · left; exact ⟨h0, by have := hz.out h0; simp; omega⟩
            · right; exact h0
          clear cz
          by_cases co : most < n * 10 + ((s.data.toList.getD k 0).toNat - 48)
          · have e := Lib.hid (I.out.over (by rw [size_len]; exact hlt) hD.out co)
            have co2 : (most : Int) < (n : Int) * 10 + (sb s k - 48) := by rw [hv.out] at c1 ⊢; omega
            clear co
            rcases zz with ⟨z1, z2⟩ | z1
            · go_wp2
              go_ret3
              exact ⟨by rw [e.out]; rfl, Drew.refl _⟩
            · go_wp2
              go_ret3
              exact ⟨by rw [e.out]; rfl, Drew.refl _⟩
          · have I2 := Lib.hid (I.out.step (by rw [size_len]; exact hlt) hD.out hz.out (by omega))
            have hv2 := Lib.hid (show (((n * 10 + ((s.data.toList.getD k 0).toNat - 48) : Nat)) : Int) = (n : Int) * 10 + (sb s k - 48) by rw [hv.out] at c1 ⊢; omega)
            have co2 : ¬ (most : Int) < (n : Int) * 10 + (sb s k - 48) := by rw [hv.out] at c1 ⊢; omega
            clear co
            rcases zz with ⟨z1, z2⟩ | z1
            · go_wp2
              go_round
              case rel => exact ⟨k + 1, n * 10 + ((s.data.toList.getD k 0).toNat - 48), by go_num, by rw [hv2.out], I2.out⟩
              case measure => simp [intOf]; omega
            · go_wp2
              go_round
              case rel => exact ⟨k + 1, n * 10 + ((s.data.toList.getD k 0).toNat - 48), by go_num, by rw [hv2.out], I2.out⟩
              case measure => simp [intOf]; omega
      · have e := Lib.hid (I.out.stop (fun _ => notD_sb s k cd))
        rcases (show sb s k < 48 ∨ 57 < sb s k ∧ ¬ sb s k < 48 by omega) with c1 | ⟨c2, c1⟩
        all_goals
          clear cd
          by_cases k0 : k = 0
          · have E := (F.out true (by simp [k0]) e.out)
            have z : ((k : Int) == 0) = true := by simp [k0]
            clear k0
            go_wp2
            go_ret3
            exact ⟨by rw [E.out]; rfl, Drew.refl _⟩
          · have E := (F.out false (by simp [k0]) e.out)
            have z : ((k : Int) == 0) = false := by simp [k0]
            clear k0
            go_wp2
            go_quiet (fail)
            go_wp2
            rw [Exit.noGoto_ret]
            go_ret3
            exact ⟨by rw [E.out, if_neg (by decide), xs.out]; rfl, ⟨_, rfl⟩⟩
    · have e := Lib.hid (I.out.stop (fun h => by rw [size_len] at h; omega))
      by_cases k0 : k = 0
      · have E := (F.out true (by simp [k0]) e.out)
        have z : ((k : Int) == 0) = true := by simp [k0]
        clear k0
        go_wp2
        go_ret3
        exact ⟨by rw [E.out]; rfl, Drew.refl _⟩
      · have E := (F.out false (by simp [k0]) e.out)
        have z : ((k : Int) == 0) = false := by simp [k0]
        clear k0
        go_wp2
        go_quiet (fail)
        go_wp2
        rw [Exit.noGoto_ret]
        go_ret3
        exact ⟨by rw [E.out, if_neg (by decide), xs.out]; rfl, ⟨_, rfl⟩⟩
end Go.Proofs.YtjmbgfhjdmoflaaDoor
