/- The contract of addr.Read: which address a text is, or that it is none. -/
import Derived.Test.YtjmbgfhjdmoflaaDoorNumber
import Derived.Test.YtjmbgfhjdmoflaaDoorCut
namespace Go.Proofs.YtjmbgfhjdmoflaaDoor
open Go.RowKit

def rdV (l : List UInt8) : Int := ((rdF l).getD 0 : Nat)
def rdB (l : List UInt8) : Bool := (rdF l).isSome
theorem or_u32 (a b : Nat) (h1 : a < 16777216) (h3 : b < 256) : bits .or .u32 ((a : Int) * 256) (b : Int) = ((a * 256 + b : Nat) : Int) := by
  rw [u32_or _ _ (by omega) (by omega) (by omega) (by omega)]
  have : ((a : Int) * 256).toNat ||| ((b : Int)).toNat = a * 256 + b := by
    have e := Nat.two_pow_add_eq_or_of_lt (i := 8) (b := b) (by omega) a
    rw [Nat.mul_comm] at e
    rw [show ((a : Int) * 256).toNat = a * 2 ^ 8 by omega, show ((b : Int)).toNat = b by omega]
    exact e.symm
  rw [this]
theorem rdSt_bd {l : List UInt8} {k a : Nat} {r : List UInt8} (h : rdSt l k = some (a, r)) : a < 256 ^ k ∧ r.length ≤ l.length := by
  induction k generalizing a r with
  | zero =>
    simp only [rdSt, Option.some.injEq, Prod.mk.injEq] at h
    obtain ⟨rfl, rfl⟩ := h
    exact ⟨by simp, Nat.le_refl _⟩
  | succ k ih =>
    simp only [rdSt, Option.bind_eq_some_iff] at h
    obtain ⟨⟨a0, r0⟩, h0, h1⟩ := h
    obtain ⟨i1, i2⟩ := ih h0
    have e : 256 ^ (k + 1) = 256 ^ k * 256 := Nat.pow_succ ..
    by_cases hk : 0 < k
    · obtain ⟨n, g1, g2, _, g4⟩ := (rdStep_next hk).1 h1
      simp only at g2 g4
      refine ⟨by rw [g4, e]; omega, ?_⟩
      have := congrArg List.length g2
      simp at this
      omega
    · obtain rfl : k = 0 := by omega
      obtain ⟨n, g1, g2, _, g4⟩ := rdStep_first.1 h1
      simp only at g2 g4
      refine ⟨by rw [g4, e]; omega, ?_⟩
      have := congrArg List.length g2
      simp at this
      omega
theorem numF_len {m n : Nat} {l r : List UInt8} (h : numF m l = some (n, r)) : n ≤ m := (numF_some h).1
theorem rd_no {l : List UInt8} (h : rdF l = none) : rdV l = 0 ∧ rdB l = false := by unfold rdV rdB; rw [h]; exact ⟨rfl, rfl⟩
theorem rd_yes {l : List UInt8} {a : Nat} (h : rdF l = some a) : rdV l = (a : Int) ∧ rdB l = true := by unfold rdV rdB; rw [h]; exact ⟨rfl, rfl⟩
theorem st_no {l : List UInt8} {k : Nat} {p : Nat × List UInt8} (hk : k < 4) (h : rdSt l k = some p) (hs : rdStep k p = none) : rdV l = 0 ∧ rdB l = false :=
  rd_no (rdF_none (i := k + 1) (by omega) (by simp only [rdSt]; rw [h]; exact hs))
theorem st_yes {l : List UInt8} {k : Nat} {p q : Nat × List UInt8} (h : rdSt l k = some p) (hs : rdStep k p = some q) : rdSt l (k + 1) = some q := by
  simp only [rdSt]; rw [h]; exact hs
theorem number_no (l : List UInt8) (most : Nat) (w : World) (hm : most ≤ 1000) (hs : l.length ≤ maxLen) (h : numF most l = none) :
    Calls Tryd.prog 50 #[.string (str l), .int .u32 most] w fun e w' => e = .returned (.tuple #[.int .u32 0, .string ⟨#[]⟩, .bool false]) ∧ Drew w w' := by
  have h2 := number_any (str l) most w hm (by rw [str_size]; exact hs)
  rw [show (str l).data.toList = l by simp, h] at h2
  exact h2
theorem number_yes (l : List UInt8) (most n : Nat) (r : List UInt8) (w : World) (hm : most ≤ 1000) (hs : l.length ≤ maxLen) (h : numF most l = some (n, r)) :
    Calls Tryd.prog 50 #[.string (str l), .int .u32 most] w fun e w' => e = .returned (.tuple #[.int .u32 (n : Int), .string (str r), .bool true]) ∧ Drew w w' := by
  have h2 := number_any (str l) most w hm (by rw [str_size]; exact hs)
  rw [show (str l).data.toList = l by simp, h] at h2
  exact h2
theorem rdStep_first_eq (p : Nat × List UInt8) : rdStep 0 p = (numF 255 p.2).map fun q => (p.1 * 256 + q.1, q.2) := by
  unfold rdStep; rw [if_neg (by omega)]
theorem rdStep_dot (k : Nat) (hk : 0 < k) (a : Nat) (r : List UInt8) : rdStep k (a, 46 :: r) = (numF 255 r).map fun q => (a * 256 + q.1, q.2) := by
  unfold rdStep; rw [if_pos hk]; rfl
theorem rdStep_nodot (k : Nat) (hk : 0 < k) (a : Nat) (r : List UInt8) (h : ∀ b, r ≠ 46 :: b) : rdStep k (a, r) = none := by
  unfold rdStep
  rw [if_pos hk]
  split
  · rename_i b hb
    exact absurd hb (h b)
  · rfl
theorem pow24 (k : Nat) (h : k < 4) : 256 ^ k ≤ 16777216 := by
  have : ∀ i : Fin 4, 256 ^ i.val ≤ 16777216 := by decide
  exact this ⟨k, h⟩

set_option maxRecDepth 100000 in
set_option maxHeartbeats 1000000 in
theorem read_any (s : ByteArray) (w : World) (hs : s.size ≤ maxLen) :
    Calls Tryd.prog 36 #[.string s] w fun e w' => e = .returned (.tuple #[.int .u32 (rdV s.data.toList), .bool (rdB s.data.toList)]) ∧ Drew w w' := by
  have HS := Lib.hid hs
  clear hs
  go_enter Tryd.func36, Tryd.ntmps36
  go_wp2
  go_loopw [4, 5, 13] (fun v t i wr => ∃ (k a : Nat) (r : List UInt8), k ≤ 4 ∧ i = .int .i64 k ∧ v = .int .u32 a ∧ t = .string (str r) ∧ rdSt s.data.toList k = some (a, r) ∧ Drew w wr) (fun _ _ i _ => 4 - (intOf i).toNat)
  case atStart => exact ⟨0, 0, s.data.toList, by omega, rfl, rfl, by rw [str_data], rfl, Drew.refl _⟩
  case round =>
    obtain ⟨k, a, r, hk, rfl, rfl, rfl, hst, hd⟩ := hrel
    obtain ⟨ha, hr⟩ := rdSt_bd hst
    have ST := Lib.hid hst
    have HR := Lib.hid (show r.length ≤ maxLen by rw [size_len] at hr; exact Nat.le_trans hr HS.out)
    clear hst hr
    by_cases hlt : k < 4
    · have ha2 : a < 16777216 := Nat.lt_of_lt_of_le ha (pow24 k hlt)
      clear ha
      by_cases k0 : 0 < k
      · by_cases hdot : ∃ b, r = 46 :: b
        · obtain ⟨b, rfl⟩ := hdot
          have HB := Lib.hid (show b.length ≤ maxLen by have := HR.out; simp at this; omega)
          cases hn : numF 255 b with
          | none =>
            have E := Lib.hid (st_no hlt ST.out (by rw [rdStep_dot k k0, hn]; rfl))
            have HN := Lib.hid hn
            clear hn
            go_wp2_with (first
              | (go_at_call 49; refine (cutDot_yes b _).mono ?_; rintro e w' ⟨rfl, rfl⟩)
              | (go_at_call 50; refine (number_no b 255 _ (by omega) HB.out HN.out).mono ?_; rintro e w' ⟨rfl, hd2⟩))
            go_ret2
            exact ⟨by rw [E.out.1, E.out.2]; rfl, hd.trans hd2⟩
          | some q =>
            obtain ⟨n, r2⟩ := q
            have hn1 := numF_len hn
            have O := or_u32 a n ha2 (by omega)
            have E := Lib.hid (st_yes ST.out (q := (a * 256 + n, r2)) (by rw [rdStep_dot k k0, hn]; rfl))
            have HN := Lib.hid hn
            clear hn
            go_wp2_with (first
              | (go_at_call 49; refine (cutDot_yes b _).mono ?_; rintro e w' ⟨rfl, rfl⟩)
              | (go_at_call 50; refine (number_yes b 255 n r2 _ (by omega) HB.out HN.out).mono ?_; rintro e w' ⟨rfl, hd2⟩))
            go_roundw
            case rel => exact ⟨k + 1, a * 256 + n, r2, by omega, by go_num, rfl, rfl, E.out, hd.trans hd2⟩
            case measure => simp [intOf]; omega
        · have E := Lib.hid (st_no hlt ST.out (rdStep_nodot k k0 a r (fun b hb => hdot ⟨b, hb⟩)))
          have ND := Lib.hid (show ∀ b, r ≠ 46 :: b from fun b hb => hdot ⟨b, hb⟩)
          clear hdot
          go_wp2_with (go_at_call 49; refine (cutDot_no r ND.out _).mono ?_; rintro e w' ⟨rfl, rfl⟩)
          go_ret2
          exact ⟨by rw [E.out.1, E.out.2]; rfl, hd⟩
      · have hk0 : k = 0 := by omega
        cases hn : numF 255 r with
        | none =>
          have E := Lib.hid (st_no hlt ST.out (by rw [hk0, rdStep_first_eq, hn]; rfl))
          have HN := Lib.hid hn
          clear hn hk0
          go_wp2_with (go_at_call 50; refine (number_no r 255 _ (by omega) HR.out HN.out).mono ?_; rintro e w' ⟨rfl, hd2⟩)
          go_ret2
          exact ⟨by rw [E.out.1, E.out.2]; rfl, hd.trans hd2⟩
        | some q =>
          obtain ⟨n, r2⟩ := q
          have hn1 := numF_len hn
          have O := or_u32 a n ha2 (by omega)
          have E := Lib.hid (st_yes ST.out (q := (a * 256 + n, r2)) (by rw [hk0, rdStep_first_eq, hn]; rfl))
          have HN := Lib.hid hn
          clear hn hk0
          go_wp2_with (go_at_call 50; refine (number_yes r 255 n r2 _ (by omega) HR.out HN.out).mono ?_; rintro e w' ⟨rfl, hd2⟩)
          go_roundw
          case rel => exact ⟨k + 1, a * 256 + n, r2, by omega, by go_num, rfl, rfl, E.out, hd.trans hd2⟩
          case measure => simp [intOf]; omega
    · have hk4 : k = 4 := by omega
      by_cases hr : r = []
      · subst hr
        have E := Lib.hid (rd_yes (show rdF s.data.toList = some a by unfold rdF; rw [← hk4, ST.out]))
        clear hk4
        go_wp2
        go_ret2
        exact ⟨by rw [E.out.1, E.out.2]; rfl, hd⟩
      · have E := Lib.hid (rd_no (show rdF s.data.toList = none by
          unfold rdF
          rw [← hk4, ST.out]
          split
          · rename_i h
            cases h
            exact absurd rfl hr
          · rfl))
        have hne : r.isEmpty = false := by simpa using hr
        clear hk4 hr
        go_wp2
        go_ret2
        exact ⟨by rw [E.out.1, E.out.2]; rfl, hd⟩
end Go.Proofs.YtjmbgfhjdmoflaaDoor
