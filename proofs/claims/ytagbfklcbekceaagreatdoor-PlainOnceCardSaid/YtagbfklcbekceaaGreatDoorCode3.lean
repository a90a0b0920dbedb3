/- The contract of addr.number: which number a text begins with, and what stands behind it. The contracts of strings.Cut at a separator of one byte, and of strings.CutPrefix at a dot. The contract of addr.Read: which address a text is, or that it is none. The contract of palingref02.number: a number's digits. The contract of palingref02.digits: the number that at most three digits are. The contracts of num.Text and of palingref03.Text: a number's text. The contracts of num.Read and of palingref03.Read: which number a text is, or that it is none. The contracts of rising and Rising. The contracts of num.ReadList and num.ReadAddrs: which numbers, and which addresses, a text is, or that it is none. The contracts of num.Name and of palingref03.Name: which texts are names. The contract of addr.ReadPrefix: which prefix a text is, or that it is none. The contracts of addr's functions on prefixes. The contract of addr.Within, and those of palingref02's functions on prefixes. -/
import Derived.Test.YtagbfklcbekceaaGreatDoorBase
import Derived.Test.YtagbfklcbekceaaGreatDoorNumMath
import Derived.Test.YtagbfklcbekceaaGreatDoorShelf
import Derived.Test.YtagbfklcbekceaaGreatDoorKeep
import Derived.Test.YtagbfklcbekceaaGreatDoorSeq
import Derived.WalkMore
import Derived.Lib.AppendIntMem
namespace Go.Proofs.YtagbfklcbekceaaGreatDoor
open Go.RowKit

/-- what addr.number answers -/
def numV : Option (Nat × List UInt8) → Value
  | some (n, r) => .tuple #[.int .u32 (n : Int), .string (str r), .bool true]
  | none => .tuple #[.int .u32 0, .string ⟨#[]⟩, .bool false]
theorem isD_sb (s : ByteArray) (k : Nat) : isD (s.data.toList.getD k 0) = true ↔ 48 ≤ sb s k ∧ sb s k ≤ 57 := by
  rw [isD_iff]; unfold sb; omega
theorem notD_sb (s : ByteArray) (k : Nat) (h : ¬ (48 ≤ sb s k ∧ sb s k ≤ 57)) : isD (s.data.toList.getD k 0) = false := by
  cases hx : isD (s.data.toList.getD k 0) with
  | false => rfl
  | true => exact absurd ((isD_sb s k).1 hx) h
set_option maxRecDepth 100000 in
set_option maxHeartbeats 1000000 in
theorem number_any (s : ByteArray) (most : Nat) (w : World) (hm : most ≤ 1000) (hs : s.size ≤ maxLen) :
    Calls Tryz.prog 94 #[.string s, .int .u32 most] w fun e w' => e = .returned (numV (numF most s.data.toList)) ∧ Drew w w' := by
  unfold maxLen at hs
  have HM := Lib.hid hm
  go_enter Tryz.func94, Tryz.ntmps94
  go_wp2
  go_step3
  go_wp2
  go_step3
  go_wp2
  go_loop [7, 8, 9] (fun v i c => ∃ k n : Nat, i = .int .i64 k ∧ v = .int .u32 n ∧ NumInv most s.data.toList k n) (fun _ i _ => s.size - (intOf i).toNat)
  case atStart => exact ⟨0, 0, rfl, rfl, NumInv.start _ _⟩
  case round =>
    obtain ⟨k, n, rfl, rfl, inv⟩ := hrel
    have hk := inv.le
    rw [size_len] at hk
    have hn := inv.most
    have hn1 : n ≤ 1000 := by omega
    clear hn
    have I := Lib.hid inv
    clear inv
    have fin : ∀ (b : Bool), ((k : Int) == 0) = b → numF most s.data.toList = (if k = 0 then none else some (n, s.data.toList.drop k)) → Hid (numF most s.data.toList = if b = true then none else some (n, s.data.toList.drop k)) := by
      intro b hb hN
      refine Lib.hid ?_
      rw [hN]
      cases b with
      | true => rw [if_pos (by simpa using hb), if_pos rfl]
      | false => rw [if_neg (by simpa using hb), if_neg (by decide)]
    have F := Lib.hid fin
    clear fin
    have xs := Lib.hid (extract_str s k)
    by_cases hlt : k < s.size
    · have x0 := run_index_sb s k k rfl hlt
      have l0 := sb_lo s k
      have l1 := sb_hi s k
      by_cases cd : 48 ≤ sb s k ∧ sb s k ≤ 57
      · obtain ⟨c1, c2⟩ := cd
        have hD := Lib.hid ((isD_sb s k).2 ⟨c1, c2⟩)
        have hv := Lib.hid (show sb s k = ((s.data.toList.getD k 0).toNat : Int) from rfl)
        by_cases cz : 0 < k ∧ n = 0
        · obtain ⟨cz1, rfl⟩ := cz
          have e := Lib.hid (I.out.nought (by rw [size_len]; exact hlt) hD.out cz1 rfl)
          go_wp2
          go_ret3
          exact ⟨by rw [e.out]; rfl, Drew.refl _⟩
        · have hz := Lib.hid (show 0 < k → n ≠ 0 from fun h1 h2 => cz ⟨h1, h2⟩)
          have zz : (0 < k ∧ ((n : Int) == 0) = false) ∨ ¬ 0 < k := by
            by_cases h0 : 0 < k
            · left; exact ⟨h0, by have := hz.out h0; simp; omega⟩
            · right; exact h0
          clear cz
          by_cases co : most < n * 10 + ((s.data.toList.getD k 0).toNat - 48)
          · have e := Lib.hid (I.out.over (by rw [size_len]; exact hlt) hD.out co)
            have co2 : (most : Int) < (n : Int) * 10 + (sb s k - 48) := by rw [hv.out] at c1 ⊢; omega
            clear co
            rcases zz with ⟨z1, z2⟩ | z1
            · go_wp2
              go_ret3
              exact ⟨by rw [e.out]; rfl, Drew.refl _⟩
            · go_wp2
              go_ret3
              exact ⟨by rw [e.out]; rfl, Drew.refl _⟩
          · have I2 := Lib.hid (I.out.step (by rw [size_len]; exact hlt) hD.out hz.out (by omega))
            have hv2 := Lib.hid (show (((n * 10 + ((s.data.toList.getD k 0).toNat - 48) : Nat)) : Int) = (n : Int) * 10 + (sb s k - 48) by rw [hv.out] at c1 ⊢; omega)
            have co2 : ¬ (most : Int) < (n : Int) * 10 + (sb s k - 48) := by rw [hv.out] at c1 ⊢; omega
            clear co
            rcases zz with ⟨z1, z2⟩ | z1
            · go_wp2
              go_round
              case rel => exact ⟨k + 1, n * 10 + ((s.data.toList.getD k 0).toNat - 48), by go_num, by rw [hv2.out], I2.out⟩
              case measure => simp [intOf]; omega
            · go_wp2
              go_round
              case rel => exact ⟨k + 1, n * 10 + ((s.data.toList.getD k 0).toNat - 48), by go_num, by rw [hv2.out], I2.out⟩
              case measure => simp [intOf]; omega
      · have e := Lib.hid (I.out.stop (fun _ => notD_sb s k cd))
        rcases (show sb s k < 48 ∨ 57 < sb s k ∧ ¬ sb s k < 48 by omega) with c1 | ⟨c2, c1⟩
        all_goals
          clear cd
          by_cases k0 : k = 0
          · have E := (F.out true (by simp [k0]) e.out)
            have z : ((k : Int) == 0) = true := by simp [k0]
            clear k0
            go_wp2
            go_ret3
            exact ⟨by rw [E.out]; rfl, Drew.refl _⟩
          · have E := (F.out false (by simp [k0]) e.out)
            have z : ((k : Int) == 0) = false := by simp [k0]
            clear k0
            go_wp2
            go_quiet (fail)
            go_wp2
            rw [Exit.noGoto_ret]
            go_ret3
            exact ⟨by rw [E.out, if_neg (by decide), xs.out]; rfl, ⟨_, rfl⟩⟩
    · have e := Lib.hid (I.out.stop (fun h => by rw [size_len] at h; omega))
      by_cases k0 : k = 0
      · have E := (F.out true (by simp [k0]) e.out)
        have z : ((k : Int) == 0) = true := by simp [k0]
        clear k0
        go_wp2
        go_ret3
        exact ⟨by rw [E.out]; rfl, Drew.refl _⟩
      · have E := (F.out false (by simp [k0]) e.out)
        have z : ((k : Int) == 0) = false := by simp [k0]
        clear k0
        go_wp2
        go_quiet (fail)
        go_wp2
        rw [Exit.noGoto_ret]
        go_ret3
        exact ⟨by rw [E.out, if_neg (by decide), xs.out]; rfl, ⟨_, rfl⟩⟩
end Go.Proofs.YtagbfklcbekceaaGreatDoor

namespace Go.Proofs.YtagbfklcbekceaaGreatDoor
open Go.RowKit

set_option maxRecDepth 100000 in
theorem cut_lite (s : ByteArray) (c : UInt8) (w : World) (hs : s.size ≤ maxLen) :
    Calls Tryz.prog 119 #[.string s, .string ⟨#[c]⟩] w fun e w' => e = .returned (.tuple #[.string (str (headC c s.data.toList)), .string (str (tailC c s.data.toList)), .bool (hasC c s.data.toList)]) ∧ Drew w w' := by
  rcases index_cases s.data.toList c with ⟨h1, h2, h3, h4⟩ | ⟨i, h1, h2, h3, h4, h5⟩
  · have E := Lib.hid (show str (headC c s.data.toList) = s ∧ str (tailC c s.data.toList) = ⟨#[]⟩ ∧ hasC c s.data.toList = false from ⟨by rw [h3, str_data], by rw [h4], by simpa [hasC] using h2⟩)
    have H1 := Lib.hid h1
    clear h1 h2 h3 h4
    go_enter Tryz.func119, Tryz.ntmps119
    go_wp2_with (go_at_call 135; refine (Tryz.stringslite_Index_one s c _).mono ?_; rintro e w' ⟨rfl, rfl⟩; rw [H1.out])
    go_ret3
    exact ⟨by rw [E.out.1, E.out.2.1, E.out.2.2]; rfl, Drew.refl _⟩
  · have E := Lib.hid (show str (headC c s.data.toList) = s.extract 0 i ∧ str (tailC c s.data.toList) = s.extract (i + 1) s.size ∧ hasC c s.data.toList = true from ⟨by rw [h4, extract_take], by rw [h5, extract_str], by simpa [hasC] using h3⟩)
    have H1 := Lib.hid h1
    have hi : i < s.size := by rw [size_len] at h2; exact h2
    clear h1 h2 h3 h4 h5
    have c1 : (0 : Int) ≤ ↑i := by omega
    have c2 : (↑i : Int) ≤ ↑s.size := by omega
    have c3 : (0 : Int) ≤ ↑i + 1 := by omega
    have c4 : (↑i + 1 : Int) ≤ ↑s.size := by omega
    have c5 : IntKind.i64.wrap ((i : Int) + 1) = (i : Int) + 1 := IntWalk.i64_in _ (by unfold maxLen at hs; omega)
    have c6 : ((i : Int) + 1).toNat = i + 1 := by omega
    go_enter Tryz.func119, Tryz.ntmps119
    go_wp2_with (go_at_call 135; refine (Tryz.stringslite_Index_one s c _).mono ?_; rintro e w' ⟨rfl, rfl⟩; rw [H1.out])
    go_quiet (fail)
    go_wp2
    go_ret3
    exact ⟨by rw [E.out.1, E.out.2.1, E.out.2.2]; rfl, ⟨_, rfl⟩⟩
theorem cut_any (s : ByteArray) (c : UInt8) (w : World) (hs : s.size ≤ maxLen) :
    Calls Tryz.prog 95 #[.string s, .string ⟨#[c]⟩] w fun e w' => e = .returned (.tuple #[.string (str (headC c s.data.toList)), .string (str (tailC c s.data.toList)), .bool (hasC c s.data.toList)]) ∧ Drew w w' := by
  go_enter Tryz.func95, Tryz.ntmps95
  go_wp2_with (go_at_call 119; refine (cut_lite s c _ hs).mono ?_; rintro e w' ⟨rfl, hd⟩)
  go_ret3
  exact ⟨rfl, hd⟩

theorem cutDot_yes (r : List UInt8) (w : World) :
    Calls Tryz.prog 93 #[.string (str (46 :: r)), .string ⟨#[46]⟩] w fun e w' => e = .returned (.tuple #[.string (str r), .bool true]) ∧ w = w' := by
  refine (Tryz.strings_CutPrefix (str (46 :: r)) ⟨#[46]⟩ w).mono ?_
  rintro e w' ⟨rfl, rfl⟩
  refine ⟨?_, rfl⟩
  simp [Lib.trimPrefix, Lib.hasPrefix]
theorem cutDot_no (l : List UInt8) (h : ∀ r, l ≠ 46 :: r) (w : World) :
    Calls Tryz.prog 93 #[.string (str l), .string ⟨#[46]⟩] w fun e w' => e = .returned (.tuple #[.string (str l), .bool false]) ∧ w = w' := by
  refine (Tryz.strings_CutPrefix (str l) ⟨#[46]⟩ w).mono ?_
  rintro e w' ⟨rfl, rfl⟩
  refine ⟨?_, rfl⟩
  have hp : Lib.hasPrefix l [46] = false := by
    cases l with
    | nil => rfl
    | cons c r =>
      have : c ≠ 46 := fun e => h r (by rw [e])
      simp [Lib.hasPrefix, List.isPrefixOf]
      exact fun e => this e.symm
  simp [Lib.trimPrefix, hp]
end Go.Proofs.YtagbfklcbekceaaGreatDoor

namespace Go.Proofs.YtagbfklcbekceaaGreatDoor
open Go.RowKit

def rdV (l : List UInt8) : Int := ((rdF l).getD 0 : Nat)
def rdB (l : List UInt8) : Bool := (rdF l).isSome
theorem or_u32 (a b : Nat) (h1 : a < 16777216) (h3 : b < 256) : bits .or .u32 ((a : Int) * 256) (b : Int) = ((a * 256 + b : Nat) : Int) := by
  rw [u32_or _ _ (by omega) (by omega) (by omega) (by omega)]
  have : ((a : Int) * 256).toNat ||| ((b : Int)).toNat = a * 256 + b := by
    have e := Nat.two_pow_add_eq_or_of_lt (i := 8) (b := b) (by omega) a
    rw [Nat.mul_comm] at e
    rw [show ((a : Int) * 256).toNat = a * 2 ^ 8 by omega, show ((b : Int)).toNat = b by omega]
    exact e.symm
  rw [this]
theorem rdSt_bd {l : List UInt8} {k a : Nat} {r : List UInt8} (h : rdSt l k = some (a, r)) : a < 256 ^ k ∧ r.length ≤ l.length := by
  induction k generalizing a r with
  | zero =>
    simp only [rdSt, Option.some.injEq, Prod.mk.injEq] at h
    obtain ⟨rfl, rfl⟩ := h
    exact ⟨by simp, Nat.le_refl _⟩
  | succ k ih =>
    simp only [rdSt, Option.bind_eq_some_iff] at h
    obtain ⟨⟨a0, r0⟩, h0, h1⟩ := h
    obtain ⟨i1, i2⟩ := ih h0
    have e : 256 ^ (k + 1) = 256 ^ k * 256 := Nat.pow_succ ..
    by_cases hk : 0 < k
    · obtain ⟨n, g1, g2, _, g4⟩ := (rdStep_next hk).1 h1
      simp only at g2 g4
      refine ⟨by rw [g4, e]; omega, ?_⟩
      have := congrArg List.length g2
      simp at this
      omega
    · obtain rfl : k = 0 := by omega
      obtain ⟨n, g1, g2, _, g4⟩ := rdStep_first.1 h1
      simp only at g2 g4
      refine ⟨by rw [g4, e]; omega, ?_⟩
      have := congrArg List.length g2
      simp at this
      omega
theorem numF_len {m n : Nat} {l r : List UInt8} (h : numF m l = some (n, r)) : n ≤ m := (numF_some h).1
theorem rd_no {l : List UInt8} (h : rdF l = none) : rdV l = 0 ∧ rdB l = false := by unfold rdV rdB; rw [h]; exact ⟨rfl, rfl⟩
theorem rd_yes {l : List UInt8} {a : Nat} (h : rdF l = some a) : rdV l = (a : Int) ∧ rdB l = true := by unfold rdV rdB; rw [h]; exact ⟨rfl, rfl⟩
theorem st_no {l : List UInt8} {k : Nat} {p : Nat × List UInt8} (hk : k < 4) (h : rdSt l k = some p) (hs : rdStep k p = none) : rdV l = 0 ∧ rdB l = false :=
  rd_no (rdF_none (i := k + 1) (by omega) (by simp only [rdSt]; rw [h]; exact hs))
theorem st_yes {l : List UInt8} {k : Nat} {p q : Nat × List UInt8} (h : rdSt l k = some p) (hs : rdStep k p = some q) : rdSt l (k + 1) = some q := by
  simp only [rdSt]; rw [h]; exact hs
theorem number_no (l : List UInt8) (most : Nat) (w : World) (hm : most ≤ 1000) (hs : l.length ≤ maxLen) (h : numF most l = none) :
    Calls Tryz.prog 94 #[.string (str l), .int .u32 most] w fun e w' => e = .returned (.tuple #[.int .u32 0, .string ⟨#[]⟩, .bool false]) ∧ Drew w w' := by
  have h2 := number_any (str l) most w hm (by rw [str_size]; exact hs)
  rw [show (str l).data.toList = l by simp, h] at h2
  exact h2
theorem number_yes (l : List UInt8) (most n : Nat) (r : List UInt8) (w : World) (hm : most ≤ 1000) (hs : l.length ≤ maxLen) (h : numF most l = some (n, r)) :
    Calls Tryz.prog 94 #[.string (str l), .int .u32 most] w fun e w' => e = .returned (.tuple #[.int .u32 (n : Int), .string (str r), .bool true]) ∧ Drew w w' := by
  have h2 := number_any (str l) most w hm (by rw [str_size]; exact hs)
  rw [show (str l).data.toList = l by simp, h] at h2
  exact h2
theorem rdStep_first_eq (p : Nat × List UInt8) : rdStep 0 p = (numF 255 p.2).map fun q => (p.1 * 256 + q.1, q.2) := by
  unfold rdStep; rw [if_neg (by omega)]
theorem rdStep_dot (k : Nat) (hk : 0 < k) (a : Nat) (r : List UInt8) : rdStep k (a, 46 :: r) = (numF 255 r).map fun q => (a * 256 + q.1, q.2) := by
  unfold rdStep; rw [if_pos hk]; rfl
theorem rdStep_nodot (k : Nat) (hk : 0 < k) (a : Nat) (r : List UInt8) (h : ∀ b, r ≠ 46 :: b) : rdStep k (a, r) = none := by
  unfold rdStep
  rw [if_pos hk]
  split
  · rename_i b hb
    exact absurd hb (h b)
  · rfl
theorem pow24 (k : Nat) (h : k < 4) : 256 ^ k ≤ 16777216 := by
  have : ∀ i : Fin 4, 256 ^ i.val ≤ 16777216 := by decide
  exact this ⟨k, h⟩

set_option maxRecDepth 100000 in
set_option maxHeartbeats 1000000 in
theorem read_any (s : ByteArray) (w : World) (hs : s.size ≤ maxLen) :
    Calls Tryz.prog 73 #[.string s] w fun e w' => e = .returned (.tuple #[.int .u32 (rdV s.data.toList), .bool (rdB s.data.toList)]) ∧ Drew w w' := by
  have HS := Lib.hid hs
  clear hs
  go_enter Tryz.func73, Tryz.ntmps73
  go_wp2
  go_loopw [4, 5, 13] (fun v t i wr => ∃ (k a : Nat) (r : List UInt8), k ≤ 4 ∧ i = .int .i64 k ∧ v = .int .u32 a ∧ t = .string (str r) ∧ rdSt s.data.toList k = some (a, r) ∧ Drew w wr) (fun _ _ i _ => 4 - (intOf i).toNat)
  case atStart => exact ⟨0, 0, s.data.toList, by omega, rfl, rfl, by rw [str_data], rfl, Drew.refl _⟩
  case round =>
    obtain ⟨k, a, r, hk, rfl, rfl, rfl, hst, hd⟩ := hrel
    obtain ⟨ha, hr⟩ := rdSt_bd hst
    have ST := Lib.hid hst
    have HR := Lib.hid (show r.length ≤ maxLen by rw [size_len] at hr; exact Nat.le_trans hr HS.out)
    clear hst hr
    by_cases hlt : k < 4
    · have ha2 : a < 16777216 := Nat.lt_of_lt_of_le ha (pow24 k hlt)
      clear ha
      by_cases k0 : 0 < k
      · by_cases hdot : ∃ b, r = 46 :: b
        · obtain ⟨b, rfl⟩ := hdot
          have HB := Lib.hid (show b.length ≤ maxLen by have := HR.out; simp at this; omega)
          cases hn : numF 255 b with
          | none =>
            have E := Lib.hid (st_no hlt ST.out (by rw [rdStep_dot k k0, hn]; rfl))
            have HN := Lib.hid hn
            clear hn
            go_wp2_with (first
              | (go_at_call 93; refine (cutDot_yes b _).mono ?_; rintro e w' ⟨rfl, rfl⟩)
              | (go_at_call 94; refine (number_no b 255 _ (by omega) HB.out HN.out).mono ?_; rintro e w' ⟨rfl, hd2⟩))
            go_ret2
            exact ⟨by rw [E.out.1, E.out.2]; rfl, hd.trans hd2⟩
          | some q =>
            obtain ⟨n, r2⟩ := q
            have hn1 := numF_len hn
            have O := or_u32 a n ha2 (by omega)
            have E := Lib.hid (st_yes ST.out (q := (a * 256 + n, r2)) (by rw [rdStep_dot k k0, hn]; rfl))
            have HN := Lib.hid hn
            clear hn
            go_wp2_with (first
              | (go_at_call 93; refine (cutDot_yes b _).mono ?_; rintro e w' ⟨rfl, rfl⟩)
              | (go_at_call 94; refine (number_yes b 255 n r2 _ (by omega) HB.out HN.out).mono ?_; rintro e w' ⟨rfl, hd2⟩))
            go_roundw
            case rel => exact ⟨k + 1, a * 256 + n, r2, by omega, by go_num, rfl, rfl, E.out, hd.trans hd2⟩
            case measure => simp [intOf]; omega
        · have E := Lib.hid (st_no hlt ST.out (rdStep_nodot k k0 a r (fun b hb => hdot ⟨b, hb⟩)))
          have ND := Lib.hid (show ∀ b, r ≠ 46 :: b from fun b hb => hdot ⟨b, hb⟩)
          clear hdot
          go_wp2_with (go_at_call 93; refine (cutDot_no r ND.out _).mono ?_; rintro e w' ⟨rfl, rfl⟩)
          go_ret2
          exact ⟨by rw [E.out.1, E.out.2]; rfl, hd⟩
      · have hk0 : k = 0 := by omega
        cases hn : numF 255 r with
        | none =>
          have E := Lib.hid (st_no hlt ST.out (by rw [hk0, rdStep_first_eq, hn]; rfl))
          have HN := Lib.hid hn
          clear hn hk0
          go_wp2_with (go_at_call 94; refine (number_no r 255 _ (by omega) HR.out HN.out).mono ?_; rintro e w' ⟨rfl, hd2⟩)
          go_ret2
          exact ⟨by rw [E.out.1, E.out.2]; rfl, hd.trans hd2⟩
        | some q =>
          obtain ⟨n, r2⟩ := q
          have hn1 := numF_len hn
          have O := or_u32 a n ha2 (by omega)
          have E := Lib.hid (st_yes ST.out (q := (a * 256 + n, r2)) (by rw [hk0, rdStep_first_eq, hn]; rfl))
          have HN := Lib.hid hn
          clear hn hk0
          go_wp2_with (go_at_call 94; refine (number_yes r 255 n r2 _ (by omega) HR.out HN.out).mono ?_; rintro e w' ⟨rfl, hd2⟩)
          go_roundw
          case rel => exact ⟨k + 1, a * 256 + n, r2, by omega, by go_num, rfl, rfl, E.out, hd.trans hd2⟩
          case measure => simp [intOf]; omega
    · have hk4 : k = 4 := by omega
      by_cases hr : r = []
      · subst hr
        have E := Lib.hid (rd_yes (show rdF s.data.toList = some a by unfold rdF; rw [← hk4, ST.out]))
        clear hk4
        go_wp2
        go_ret2
        exact ⟨by rw [E.out.1, E.out.2]; rfl, hd⟩
      · have E := Lib.hid (rd_no (show rdF s.data.toList = none by
          unfold rdF
          rw [← hk4, ST.out]
          split
          · rename_i h
            cases h
            exact absurd rfl hr
          · rfl))
        have hne : r.isEmpty = false := by simpa using hr
        clear hk4 hr
        go_wp2
        go_ret2
        exact ⟨by rw [E.out.1, E.out.2]; rfl, hd⟩
end Go.Proofs.YtagbfklcbekceaaGreatDoor

namespace Go.Proofs.YtagbfklcbekceaaGreatDoor
open Go.RowKit
open Go.Lib (decDigits)

/-- a text of one byte, out of a slice that was just built -/
theorem run_string_one (w : World) (c : Int) (E : TypeId) :
    (convert 22 9 (.slice (some ⟨w.heap.size, 0, none⟩) 1 1)).run Tryz.prog (w.alloc (.cells #[.int .u8 c] E)) = .ok (.string (str [UInt8.ofNat c.toNat])) (w.alloc (.cells #[.int .u8 c] E)) := by
  rw [run_convert_bytes_string _ _ _ _ _ _ _ Tryz.underlying22 Tryz.underlying5 Tryz.underlying9]
  have hl : (loadCells ⟨w.heap.size, 0, none⟩ 1).run Tryz.prog (w.alloc (.cells #[.int .u8 c] E)) = .ok ([c].map (Value.int .u8)).toArray (w.alloc (.cells #[.int .u8 c] E)) :=
    run_loadCells_list (P := Tryz.prog) (w := w.alloc (.cells #[.int .u8 c] E)) ⟨w.heap.size, 0, none⟩ [Value.int .u8 c] (fun j v hj => by
      match j, hj with
      | 0, hj =>
        have : Value.int .u8 c = v := by simpa using hj
        subst this
        simp [Addr.add]
      | j + 1, hj => simp at hj)
  rw [run_bytesToString _ _ _ _ [c] hl]
  rfl
theorem dec_len18 {u : Nat} (h : u < 1000000000000000000) : (decDigits u).length ≤ 18 := dec_len 18 (by omega) h

theorem plus_ofNat (x : Nat) : (48 : UInt8) + UInt8.ofNat x = UInt8.ofNat (48 + x) := by simp
end Go.Proofs.YtagbfklcbekceaaGreatDoor

namespace Go.Proofs.YtagbfklcbekceaaGreatDoor
open Go.RowKit
open Go.Lib (decDigits)

theorem sb_str (l : List UInt8) (k : Nat) : sb (str l) k = ((l.getD k 0).toNat : Int) := rfl
theorem digF_bad {l : List UInt8} (h : l.length = 0 ∨ 3 < l.length) : digF l = 1000 := by unfold digF; rw [if_pos h]
theorem digF_no {l : List UInt8} {k : Nat} (hk : k < l.length) (h : isD (l.getD k 0) = false) : digF l = 1000 := by
  unfold digF
  split
  · rfl
  · rw [if_neg]
    intro hall
    have := List.all_eq_true.1 hall (l.getD k 0) (by simp [List.getD, List.getElem?_eq_getElem hk])
    rw [h] at this
    cases this
theorem digF_end {l : List UInt8} (h1 : l.length ≠ 0) (h2 : l.length ≤ 3) (hD : ∀ c ∈ l, isD c = true) : digF l = if decDigits (valD l) = l then valD l else 1000 := by
  unfold digF
  rw [if_neg (by omega), if_pos (List.all_eq_true.2 hD)]
theorem valD_lt {l : List UInt8} (hD : ∀ c ∈ l, isD c = true) : valD l < 10 ^ l.length := by
  induction l using snoc_ind with
  | h0 => simp [valD]
  | h1 d c ih =>
    have h1 := ih (fun x hx => hD x (by simp [hx]))
    have h2 := (isD_iff c).1 (hD c (by simp))
    rw [valD_snoc, List.length_append]
    simp only [List.length_cons, List.length_nil]
    have e : 10 ^ (d.length + (0 + 1)) = 10 ^ d.length * 10 := Nat.pow_succ ..
    rw [e]
    omega
end Go.Proofs.YtagbfklcbekceaaGreatDoor

namespace Go.Proofs.YtagbfklcbekceaaGreatDoor
open Go.RowKit
open Go.Lib (decDigits itoa)

abbrev tabName : String := "internal/strconv.uint64pow10"
/-- what the listed variables hold -/
def Lds (w : World) : Prop := Lib.TabIs Tryz.prog w tabName .u64 Lib.pow10Tab ∧ ∃ tp p, w.var? Tryz.prog "strconv.ErrSyntax" = some #[.iface tp p]
theorem var_below {P : Program} {w w' : World} {name : String} {cs : Array Value} (h : w.var? P name = some cs) (hb : Below w.heap.size w w') : w'.var? P name = some cs := by
  unfold World.var? at h ⊢
  cases hg : P.globalNamed name with
  | none => rw [hg] at h; cases h
  | some g =>
    rw [hg] at h
    change (match w.heap[g]? with | some (.cells cs _ _) => some cs | _ => none) = _ at h
    change (match w'.heap[g]? with | some (.cells cs _ _) => some cs | _ => none) = _
    have hlt : g < w.heap.size := by
      rcases Nat.lt_or_ge g w.heap.size with h' | h'
      · exact h'
      · rw [Array.getElem?_eq_none h'] at h; cases h
    rw [hb.block g hlt]
    exact h
theorem Lds.below {w w' : World} (h : Lds w) (hb : Below w.heap.size w w') : Lds w' := by
  obtain ⟨h1, tp, p, h2⟩ := h
  exact ⟨tab_below h1 hb, tp, p, var_below h2 hb⟩

theorem numText_any (n : Int) (h0 : -9223372036854775808 ≤ n) (h1 : n ≤ 9223372036854775807) (w : World) (hl : Lds w) :
    Calls Tryz.prog 21 #[.int .i64 n] w fun e w' => e = .returned (.string (str (itoa n))) ∧ Below w.heap.size w w' := by
  have HL := Lib.hid hl
  clear hl
  go_enter Tryz.func21, Tryz.ntmps21
  go_wp2_with (go_at_call 42; refine (Tryz.strconv_Itoa n h0 h1 _ HL.out.1).mono ?_; rintro e w1 ⟨rfl, k, os, rfl⟩)
  go_ret
  exact ⟨rfl, Lib.below_grow _ _ (Nat.le_refl _) _ _⟩

theorem dec_len20 {u : Nat} (h : u < 18446744073709551616) : (decDigits u).length ≤ 20 := dec_len 20 (by omega) (by omega)
end Go.Proofs.YtagbfklcbekceaaGreatDoor

namespace Go.Proofs.YtagbfklcbekceaaGreatDoor
open Go.RowKit
open Go.Lib (decDigits itoa atoiAll)

def nV (l : List UInt8) (lo hi : Int) : Int := (nF l lo hi).getD 0
def nB (l : List UInt8) (lo hi : Int) : Bool := (nF l lo hi).isSome
theorem n_no {l : List UInt8} {lo hi : Int} (h : nF l lo hi = none) : nV l lo hi = 0 ∧ nB l lo hi = false := by unfold nV nB; rw [h]; exact ⟨rfl, rfl⟩
theorem n_yes {l : List UInt8} {lo hi n : Int} (h : nF l lo hi = some n) : nV l lo hi = n ∧ nB l lo hi = true := by unfold nV nB; rw [h]; exact ⟨rfl, rfl⟩
theorem nF_long {l : List UInt8} {lo hi : Int} (h : 10 < (trimM l).length) : nF l lo hi = none := nF_none_len (.inr h)
theorem nF_bad {l : List UInt8} {lo hi : Int} (h : ∀ n, atoiAll l ≠ .ok n) : nF l lo hi = none := by
  unfold nF
  split
  · rfl
  · cases hx : atoiAll l with
    | ok n => exact absurd hx (h n)
    | _ =>
               rfl
theorem nF_ok {l : List UInt8} {lo hi n : Int} (h : ¬ 10 < (trimM l).length) (ha : atoiAll l = .ok n) : nF l lo hi = if lo ≤ n ∧ n ≤ hi ∧ itoa n = l then some n else none := by
  unfold nF
  rw [if_neg h, ha]
theorem atoi_short_cases (l : List UInt8) (h : l.length ≤ 18) : (∃ n, atoiAll l = .ok n) ∨ atoiAll l = .syntax := by
  rw [Lib.atoiAll_short l h]
  cases hx : Lib.atoi l with
  | some n => exact .inl ⟨n, rfl⟩
  | none => exact .inr rfl
theorem lib_trim (l : List UInt8) : Lib.trimPrefix l [45] = trimM l := by
  unfold Lib.trimPrefix Lib.hasPrefix trimM
  cases l with
  | nil => rfl
  | cons c r =>
    by_cases h : c = 45
    · subst h; simp [List.isPrefixOf]
    · have h2 : ¬ (45 : UInt8) = c := fun e => h e.symm
      simp [List.isPrefixOf, h, h2]
theorem trim_any (l : List UInt8) (w : World) : Calls Tryz.prog 90 #[.string (str l), .string ⟨#[45]⟩] w fun e w' => e = .returned (.string (str (trimM l))) ∧ w = w' := by
  refine (Tryz.strings_TrimPrefix (str l) ⟨#[45]⟩ w).mono ?_
  rintro e w' ⟨rfl, rfl⟩
  refine ⟨?_, rfl⟩
  rw [show (str l).data.toList = l by simp, show (⟨#[45]⟩ : ByteArray).data.toList = [45] from rfl, lib_trim]
theorem atoi_ok (l : List UInt8) (hs : l.length ≤ 18) (n : Int) (h : atoiAll l = .ok n) (w : World) : Calls Tryz.prog 91 #[.string (str l)] w fun e w' => e = .returned (.tuple #[.int .i64 n, .nilIface]) ∧ Below w.heap.size w w' := by
  refine (Tryz.strconv_Atoi_ok (str l) (by rw [str_size]; omega) n (by rw [show (str l).data.toList = l by simp]; exact h) w).mono ?_
  rintro e w' ⟨rfl, hw⟩
  refine ⟨rfl, ?_⟩
  rcases hw with rfl | ⟨t, rfl⟩
  · exact Below.refl _ _
  · exact Lib.bytesWorld_below _ _ _
theorem atoi_no (l : List UInt8) (hs : l.length ≤ 18) (h : atoiAll l = .syntax) (w : World) (hl : Lds w) : Calls Tryz.prog 91 #[.string (str l)] w fun e w' => ∃ N, e = .returned (.tuple #[.int .i64 0, .iface 166 (.pointer (some ⟨N, 0, none⟩))]) ∧ Below w.heap.size w w' := by
  obtain ⟨_, tp, p, hv⟩ := hl
  refine (Tryz.strconv_Atoi_syntax_var (str l) (by rw [str_size]; omega) (by rw [show (str l).data.toList = l by simp]; exact h) tp p w hv).mono ?_
  rintro e w' ⟨N, rfl, _, _, hb⟩
  exact ⟨N, rfl, hb⟩

set_option maxRecDepth 100000 in
set_option maxHeartbeats 1000000 in
theorem numRead_any (l : List UInt8) (lo hi : Int) (w : World) (hs : l.length ≤ maxLen) (hl : Lds w) :
    Calls Tryz.prog 71 #[.string (str l), .int .i64 lo, .int .i64 hi] w fun e w' => e = .returned (.tuple #[.int .i64 (nV l lo hi), .bool (nB l lo hi)]) ∧ Below w.heap.size w w' := by
  unfold maxLen at hs
  have HL := Lib.hid hl
  clear hl
  have htl := trim_len l
  have htle := trim_le l
  by_cases h10 : 10 < (trimM l).length
  · have E := Lib.hid (n_no (nF_long (lo := lo) (hi := hi) h10))
    go_enter Tryz.func71, Tryz.ntmps71
    go_wp2_with (go_at_call 90; refine (trim_any l _).mono ?_; rintro e w' ⟨rfl, rfl⟩)
    go_ret2
    exact ⟨by rw [E.out.1, E.out.2]; rfl, Below.refl _ _⟩
  · have hl18 : l.length ≤ 18 := by omega
    rcases atoi_short_cases l hl18 with ⟨n, ha⟩ | ha
    · obtain ⟨b0, b1⟩ := Lib.atoiAll_bounds ha
      have F := Lib.hid (nF_ok (lo := lo) (hi := hi) h10 ha)
      have HA := Lib.hid ha
      clear ha
      have hil := itoa_len n b0 b1
      by_cases c1 : n < lo
      · have E := Lib.hid (n_no (show nF l lo hi = none by rw [F.out, if_neg (by omega)]))
        go_enter Tryz.func71, Tryz.ntmps71
        go_wp2_with (first
          | (go_at_call 90; refine (trim_any l _).mono ?_; rintro e w' ⟨rfl, rfl⟩)
          | (go_at_call 91; refine (atoi_ok l hl18 n HA.out _).mono ?_; rintro e w1 ⟨rfl, hb1⟩))
        go_ret2
        exact ⟨by rw [E.out.1, E.out.2]; rfl, hb1⟩
      by_cases c2 : hi < n
      · have E := Lib.hid (n_no (show nF l lo hi = none by rw [F.out, if_neg (by omega)]))
        go_enter Tryz.func71, Tryz.ntmps71
        go_wp2_with (first
          | (go_at_call 90; refine (trim_any l _).mono ?_; rintro e w' ⟨rfl, rfl⟩)
          | (go_at_call 91; refine (atoi_ok l hl18 n HA.out _).mono ?_; rintro e w1 ⟨rfl, hb1⟩))
        go_ret2
        exact ⟨by rw [E.out.1, E.out.2]; rfl, hb1⟩
      by_cases c3 : itoa n = l
      · have E := Lib.hid (n_yes (show nF l lo hi = some n by rw [F.out, if_pos ⟨by omega, by omega, c3⟩]))
        have t1 : (itoa n == l) = true := by simpa using c3
        have t2 : (itoa n != l) = false := by simpa using c3
        clear c3
        go_enter Tryz.func71, Tryz.ntmps71
        go_wp2_with (first
          | (go_at_call 90; refine (trim_any l _).mono ?_; rintro e w' ⟨rfl, rfl⟩)
          | (go_at_call 91; refine (atoi_ok l hl18 n HA.out _).mono ?_; rintro e w1 ⟨rfl, hb1⟩)
          | (go_at_call 21; refine (numText_any n b0 b1 _ (HL.out.below hb1)).mono ?_; rintro e w2 ⟨rfl, hb2⟩))
        go_ret2
        exact ⟨by rw [E.out.1, E.out.2]; rfl, trans_below hb1 hb2⟩
      · have E := Lib.hid (n_no (show nF l lo hi = none by rw [F.out, if_neg (fun h => c3 h.2.2)]))
        have t1 : (itoa n == l) = false := by simpa using c3
        have t2 : (itoa n != l) = true := by simpa using c3
        clear c3
        go_enter Tryz.func71, Tryz.ntmps71
        go_wp2_with (first
          | (go_at_call 90; refine (trim_any l _).mono ?_; rintro e w' ⟨rfl, rfl⟩)
          | (go_at_call 91; refine (atoi_ok l hl18 n HA.out _).mono ?_; rintro e w1 ⟨rfl, hb1⟩)
          | (go_at_call 21; refine (numText_any n b0 b1 _ (HL.out.below hb1)).mono ?_; rintro e w2 ⟨rfl, hb2⟩))
        go_ret2
        exact ⟨by rw [E.out.1, E.out.2]; rfl, trans_below hb1 hb2⟩
    · have E := Lib.hid (n_no (nF_bad (l := l) (lo := lo) (hi := hi) (fun n h => by rw [ha] at h; cases h)))
      have HA := Lib.hid ha
      clear ha
      go_enter Tryz.func71, Tryz.ntmps71
      go_wp2_with (first
        | (go_at_call 90; refine (trim_any l _).mono ?_; rintro e w' ⟨rfl, rfl⟩)
        | (go_at_call 91; refine (atoi_no l hl18 HA.out _ HL.out).mono ?_; rintro e w1 ⟨N, rfl, hb1⟩))
      go_ret2
      exact ⟨by rw [E.out.1, E.out.2]; rfl, hb1⟩
end Go.Proofs.YtagbfklcbekceaaGreatDoor

namespace Go.Proofs.YtagbfklcbekceaaGreatDoor
open Go.RowKit

set_option maxHeartbeats 1000000 in
theorem rising_any (A : Option Addr) (n c : Nat) (xs : List Int) (w : World) (h : ISl w .i64 A n c xs) :
    Calls Tryz.prog 106 #[.slice A n c] w fun e w' => e = .returned (.bool (risB xs)) ∧ Drew w w' := by
  have hle := h.le
  have hcap := h.cap
  have H := Lib.hid h
  clear h
  by_cases h1 : n < 1
  · have E := Lib.hid (risB_no xs (.inl (by rw [H.out.len]; exact h1)))
    go_enter Tryz.func106, Tryz.ntmps106
    go_wp2
    go_ret
    exact ⟨by rw [E.out]; rfl, Drew.refl _⟩
  by_cases h2 : 16 < n
  · have E := Lib.hid (risB_no xs (.inr (by rw [H.out.len]; exact h2)))
    go_enter Tryz.func106, Tryz.ntmps106
    go_wp2
    go_ret
    exact ⟨by rw [E.out]; rfl, Drew.refl _⟩
  obtain ⟨b, off, rfl, hb, hc⟩ := H.out.2.2.2 (by omega)
  have HC := Lib.hid hc
  clear hc
  go_enter Tryz.func106, Tryz.ntmps106
  go_wp2
  go_loopw [3] (fun i wr => ∃ k : Nat, 1 ≤ k ∧ k ≤ n ∧ i = .int .i64 (k : Int) ∧ Up xs k ∧ Drew w wr) (fun i _ => n - (intOf i).toNat)
  case atStart => exact ⟨1, by omega, by omega, rfl, Up.one _, Drew.refl _⟩
  case round =>
    obtain ⟨k, hk1, hk, rfl, hup, m, rfl⟩ := hrel
    have U := Lib.hid hup
    clear hup
    by_cases hlt : k < n
    · have c0 : w.cell? ⟨b, off + k, none⟩ = some (.int .i64 (xs.getD k 0)) := HC.out k hlt
      have c1 : w.cell? ⟨b, off + (k - 1), none⟩ = some (.int .i64 (xs.getD (k - 1) 0)) := HC.out (k - 1) (by omega)
      generalize hx : xs.getD k 0 = x at c0
      generalize hy : xs.getD (k - 1) 0 = y at c1
      have HX := Lib.hid hx
      have HY := Lib.hid hy
      clear hx hy
      have d1 : IntKind.i64.wrap ((k : Int) - 1) = (k : Int) - 1 := IntWalk.i64_in _ (by omega)
      have d2 : (0 : Int) ≤ (k : Int) - 1 := by omega
      have d3 : ((k : Int) - 1).toNat = k - 1 := by omega
      have d4 : (k : Int) - 1 < (n : Int) := by omega
      by_cases hle2 : x ≤ y
      · have E := Lib.hid (risB_down (xs := xs) (k := k) (by omega) (by rw [H.out.len]; exact hlt) (by rw [HX.out, HY.out]; exact hle2))
        go_wp2
        go_quiet (fail)
        go_wp2
        go_ret
        exact ⟨by rw [E.out]; rfl, ⟨m + nq, by rw [drewN_add]⟩⟩
      · have E := Lib.hid (U.out.next (by rw [HX.out, HY.out]; omega))
        go_wp2
        go_quiet (fail)
        clear d1 d2 d3 d4
        go_wp2
        go_roundw
        case rel => exact ⟨k + 1, by omega, by omega, by go_num, E.out, ⟨m + nq, rfl⟩⟩
        case measure => simp [intOf]; omega
    · obtain rfl : k = n := by omega
      have E := Lib.hid (show risB xs = true from (risB_iff xs).2 ⟨by rw [H.out.len]; omega, by rw [H.out.len]; omega, by rw [H.out.len]; exact U.out⟩)
      go_wp2
      go_ret
      exact ⟨by rw [E.out]; rfl, ⟨m, rfl⟩⟩
set_option maxHeartbeats 1000000 in
theorem rising32_any (A : Option Addr) (n c : Nat) (xs : List Int) (w : World) (h : ISl w .u32 A n c xs) :
    Calls Tryz.prog 120 #[.slice A n c] w fun e w' => e = .returned (.bool (risB xs)) ∧ Drew w w' := by
  have hle := h.le
  have hcap := h.cap
  have H := Lib.hid h
  clear h
  by_cases h1 : n < 1
  · have E := Lib.hid (risB_no xs (.inl (by rw [H.out.len]; exact h1)))
    go_enter Tryz.func120, Tryz.ntmps120
    go_wp2
    go_ret
    exact ⟨by rw [E.out]; rfl, Drew.refl _⟩
  by_cases h2 : 16 < n
  · have E := Lib.hid (risB_no xs (.inr (by rw [H.out.len]; exact h2)))
    go_enter Tryz.func120, Tryz.ntmps120
    go_wp2
    go_ret
    exact ⟨by rw [E.out]; rfl, Drew.refl _⟩
  obtain ⟨b, off, rfl, hb, hc⟩ := H.out.2.2.2 (by omega)
  have HC := Lib.hid hc
  clear hc
  go_enter Tryz.func120, Tryz.ntmps120
  go_wp2
  go_loopw [3] (fun i wr => ∃ k : Nat, 1 ≤ k ∧ k ≤ n ∧ i = .int .i64 (k : Int) ∧ Up xs k ∧ Drew w wr) (fun i _ => n - (intOf i).toNat)
  case atStart => exact ⟨1, by omega, by omega, rfl, Up.one _, Drew.refl _⟩
  case round =>
    obtain ⟨k, hk1, hk, rfl, hup, m, rfl⟩ := hrel
    have U := Lib.hid hup
    clear hup
    by_cases hlt : k < n
    · have c0 : w.cell? ⟨b, off + k, none⟩ = some (.int .u32 (xs.getD k 0)) := HC.out k hlt
      have c1 : w.cell? ⟨b, off + (k - 1), none⟩ = some (.int .u32 (xs.getD (k - 1) 0)) := HC.out (k - 1) (by omega)
      generalize hx : xs.getD k 0 = x at c0
      generalize hy : xs.getD (k - 1) 0 = y at c1
      have HX := Lib.hid hx
      have HY := Lib.hid hy
      clear hx hy
      have d1 : IntKind.i64.wrap ((k : Int) - 1) = (k : Int) - 1 := IntWalk.i64_in _ (by omega)
      have d2 : (0 : Int) ≤ (k : Int) - 1 := by omega
      have d3 : ((k : Int) - 1).toNat = k - 1 := by omega
      have d4 : (k : Int) - 1 < (n : Int) := by omega
      by_cases hle2 : x ≤ y
      · have E := Lib.hid (risB_down (xs := xs) (k := k) (by omega) (by rw [H.out.len]; exact hlt) (by rw [HX.out, HY.out]; exact hle2))
        go_wp2
        go_quiet (fail)
        go_wp2
        go_ret
        exact ⟨by rw [E.out]; rfl, ⟨m + nq, by rw [drewN_add]⟩⟩
      · have E := Lib.hid (U.out.next (by rw [HX.out, HY.out]; omega))
        go_wp2
        go_quiet (fail)
        clear d1 d2 d3 d4
        go_wp2
        go_roundw
        case rel => exact ⟨k + 1, by omega, by omega, by go_num, E.out, ⟨m + nq, rfl⟩⟩
        case measure => simp [intOf]; omega
    · obtain rfl : k = n := by omega
      have E := Lib.hid (show risB xs = true from (risB_iff xs).2 ⟨by rw [H.out.len]; omega, by rw [H.out.len]; omega, by rw [H.out.len]; exact U.out⟩)
      go_wp2
      go_ret
      exact ⟨by rw [E.out]; rfl, ⟨m, rfl⟩⟩

set_option maxHeartbeats 1000000 in
theorem ris_any (A : Option Addr) (n c : Nat) (xs : List Int) (lo hi : Int) (w : World) (h : ISl w .i64 A n c xs) :
    Calls Tryz.prog 83 #[.slice A n c, .int .i64 lo, .int .i64 hi] w fun e w' => e = .returned (.bool (risIn xs lo hi)) ∧ Drew w w' := by
  have hle := h.le
  have hcap := h.cap
  have H := Lib.hid h
  clear h
  cases hr : risB xs with
  | false =>
    have E := Lib.hid (show risIn xs lo hi = false by simp [risIn, hr])
    have HR := Lib.hid hr
    clear hr
    go_enter Tryz.func83, Tryz.ntmps83
    go_wp2_with (go_at_call 106; refine (rising_any _ _ _ _ _ H.out).mono ?_; rintro e w1 ⟨rfl, hd1⟩; rw [HR.out])
    go_ret
    exact ⟨by rw [E.out]; rfl, hd1⟩
  | true =>
    obtain ⟨l1, l2, _⟩ := (risB_iff xs).1 hr
    have hn := H.out.len
    obtain ⟨b, off, rfl, hb, hc⟩ := H.out.2.2.2 (by omega)
    have E := risIn_ends xs lo hi hr
    rw [hn] at E l1
    have c0 : w.cell? ⟨b, off + 0, none⟩ = some (.int .i64 (xs.getD 0 0)) := hc 0 (by omega)
    have c1 : w.cell? ⟨b, off + (n - 1), none⟩ = some (.int .i64 (xs.getD (n - 1) 0)) := hc (n - 1) (by omega)
    generalize xs.getD 0 0 = x at c0 E
    generalize xs.getD (n - 1) 0 = y at c1 E
    rw [Nat.add_zero] at c0
    have HC0 := Lib.hid c0
    have HC1 := Lib.hid c1
    have HR := Lib.hid hr
    have EE := Lib.hid (show risIn xs lo hi = (decide (lo ≤ x) && decide (y ≤ hi)) by rw [← E]; simp [risIn, hr])
    have d3 : ((n : Int) - 1).toNat = n - 1 := by omega
    clear hc c0 c1 hr E hn
    go_enter Tryz.func83, Tryz.ntmps83
    by_cases k1 : lo ≤ x
    · have K1 := Lib.hid k1
      by_cases k2 : y ≤ hi
      · go_wp2_with (go_at_call 106; refine (rising_any _ _ _ _ _ H.out).mono ?_; rintro e w1 ⟨rfl, m, rfl⟩; rw [HR.out]; have c0 := HC0.out; have c1 := HC1.out)
        go_ret
        exact ⟨by rw [EE.out]; simp [k1, k2], ⟨m, rfl⟩⟩
      · go_wp2_with (go_at_call 106; refine (rising_any _ _ _ _ _ H.out).mono ?_; rintro e w1 ⟨rfl, m, rfl⟩; rw [HR.out]; have c0 := HC0.out; have c1 := HC1.out)
        go_ret
        exact ⟨by rw [EE.out]; have := K1.out; simp; omega, ⟨m, rfl⟩⟩
    · go_wp2_with (go_at_call 106; refine (rising_any _ _ _ _ _ H.out).mono ?_; rintro e w1 ⟨rfl, m, rfl⟩; rw [HR.out]; have c0 := HC0.out)
      go_ret
      exact ⟨by rw [EE.out]; simp; omega, ⟨m, rfl⟩⟩
end Go.Proofs.YtagbfklcbekceaaGreatDoor

namespace Go.Proofs.YtagbfklcbekceaaGreatDoor
open Go.RowKit
open Go.Lib (decDigits itoa atoiAll)

theorem own_slice {w : World} {B n : Nat} {e : TypeId} {v : Value} {xs : List Value} (h : w.ownsRow B e 1 v n xs) : ∃ A c, v = .slice A n c ∧ n ≤ c ∧ c ≤ maxLen := by
  rcases h.2 with ⟨rfl, rfl⟩ | ⟨g, cap, cur, rfl, _, _, h1, h2, _⟩
  · exact ⟨_, _, rfl, Nat.le_refl _, Nat.zero_le _⟩
  · exact ⟨_, _, rfl, h1, h2⟩
theorem own_keep {w w' : World} {B n : Nat} {e : TypeId} {v : Value} {xs : List Value} (h : w.ownsRow B e 1 v n xs) (hb : Below w.heap.size w w') : w'.ownsRow B e 1 v n xs :=
  h.kept (row := none) ⟨hb.os, hb.tape, hb.output, hb.size, fun k hk _ => hb.block k hk⟩ (by cases hx : v.ownBlock <;> simp)
theorem cut_l (r : List UInt8) (b : Bool) (h : hasC 44 r = b) (hs : r.length ≤ maxLen) (w : World) :
    Calls Tryz.prog 95 #[.string (str r), .string ⟨#[44]⟩] w fun e w' => e = .returned (.tuple #[.string (str (headC 44 r)), .string (str (tailC 44 r)), .bool b]) ∧ Below w.heap.size w w' := by
  have h2 := cut_any (str r) 44 w (by rw [str_size]; exact hs)
  rw [show (str r).data.toList = r by simp, h] at h2
  exact h2.mono fun e w' ⟨he, hd⟩ => ⟨he, hd.below⟩
theorem splitC_cut (r : List UInt8) : splitC r = if hasC 44 r = true then headC 44 r :: splitC (tailC 44 r) else [r] := by
  induction r with
  | nil => rfl
  | cons c r ih =>
    by_cases hc : c = 44
    · subst hc
      rw [splitC_comma, (headC_same 44 r).1, (headC_same 44 r).2, if_pos (by simp [hasC])]
    · have e1 := (headC_cons 44 c r hc).1
      have e2 := (headC_cons 44 c r hc).2
      have e3 : hasC 44 (c :: r) = hasC 44 r := by simp [hasC, Ne.symm hc]
      rw [e1, e2, e3]
      by_cases hh : hasC 44 r = true
      · rw [if_pos hh] at ih ⊢
        exact splitC_other c r _ _ hc ih
      · rw [if_neg hh] at ih ⊢
        exact splitC_other c r _ _ hc ih
theorem headC_none {r : List UInt8} (h : hasC 44 r = false) : headC 44 r = r ∧ splitC r = [r] := by
  have h2 : (44 : UInt8) ∉ r := by simpa [hasC] using h
  refine ⟨?_, splitC_one r h2⟩
  rcases index_cases r 44 with ⟨_, _, e, _⟩ | ⟨i, _, _, e, _, _⟩
  · exact e
  · exact absurd e h2
theorem tailC_less {r : List UInt8} (h : hasC 44 r = true) : (tailC 44 r).length < r.length := by
  have h2 : (44 : UInt8) ∈ r := by simpa [hasC] using h
  rcases index_cases r 44 with ⟨_, e, _, _⟩ | ⟨i, _, hi, _, _, e⟩
  · exact absurd h2 e
  · rw [e, List.length_drop]; omega
theorem headC_le (r : List UInt8) : (headC 44 r).length ≤ r.length := by
  rcases index_cases r 44 with ⟨_, _, e, _⟩ | ⟨i, _, _, _, e, _⟩
  · rw [e]; exact Nat.le_refl _
  · rw [e, List.length_take]; omega
theorem tailC_le (r : List UInt8) : (tailC 44 r).length ≤ r.length := by
  rcases index_cases r 44 with ⟨_, _, _, e⟩ | ⟨i, _, _, _, _, e⟩
  · rw [e]; simp
  · rw [e, List.length_drop]; omega
/-- how far a list has been read -/
structure RL (rd : List UInt8 → Option Int) (l r : List UInt8) (more : Bool) (xs : List Int) : Prop where
  bd : xs.length ≤ 17
  le : r.length ≤ l.length
  ps : ∃ ps, allRd rd ps = some xs ∧ splitC l = ps ++ (if more = true then splitC r else [])
theorem RL.start (rd : List UInt8 → Option Int) (l : List UInt8) : RL rd l l true [] := ⟨by simp, Nat.le_refl _, [], rfl, by simp⟩
theorem RL.next {rd : List UInt8 → Option Int} {l r : List UInt8} {xs : List Int} {x : Int} (h : RL rd l r true xs) (h16 : xs.length ≤ 16) (hx : rd (headC 44 r) = some x) : RL rd l (tailC 44 r) (hasC 44 r) (xs ++ [x]) := by
  obtain ⟨ps, h1, h2⟩ := h.ps
  rw [if_pos rfl] at h2
  refine ⟨by rw [List.length_append, List.length_singleton]; omega, Nat.le_trans (tailC_le r) h.le, ps ++ [headC 44 r], allRd_snoc h1 hx, ?_⟩
  cases hc : hasC 44 r with
  | true => rw [h2, splitC_cut, if_pos hc, if_pos rfl]; simp
  | false => rw [h2, (headC_none hc).2, (headC_none hc).1, if_neg (by simp)]; simp
theorem RL.bad {rd : List UInt8 → Option Int} {l r : List UInt8} {xs : List Int} (h : RL rd l r true xs) (hx : rd (headC 44 r) = none) : rlF rd l = none := by
  obtain ⟨ps, h1, h2⟩ := h.ps
  rw [if_pos rfl] at h2
  refine rlF_none ?_
  rw [h2]
  cases hc : hasC 44 r with
  | true => rw [splitC_cut, if_pos hc]; exact allRd_no hx
  | false => rw [(headC_none hc).2, ← (headC_none hc).1]; exact allRd_no hx
theorem RL.many {rd : List UInt8 → Option Int} {l r : List UInt8} {m : Bool} {xs : List Int} (h : RL rd l r m xs) (h17 : 16 < xs.length) : rlF rd l = none ∧ risB xs = false := by
  obtain ⟨ps, h1, h2⟩ := h.ps
  refine ⟨rlF_many ?_, risB_no _ (.inr h17)⟩
  rw [h2, List.length_append, ← allRd_len h1]
  omega
theorem RL.done {rd : List UInt8 → Option Int} {l r : List UInt8} {xs : List Int} (h : RL rd l r false xs) : rlF rd l = if risB xs = true then some xs else none := by
  obtain ⟨ps, h1, h2⟩ := h.ps
  rw [if_neg (by simp), List.append_nil] at h2
  unfold rlF
  rw [h2, h1]
def mMore : Value → Value → Nat
  | .string s, .bool true => s.size + 1
  | _, _ => 0
theorem mMore_true (r : List UInt8) : mMore (.string (str r)) (.bool true) = r.length + 1 := by simp [mMore, ByteArray.size]
theorem mMore_false (v : Value) : mMore v (.bool false) = 0 := by cases v <;> rfl

def lsV (rd : List UInt8 → Option Int) (l : List UInt8) : List Int := (rlF rd l).getD []
def lsB (rd : List UInt8 → Option Int) (l : List UInt8) : Bool := (rlF rd l).isSome
theorem ls_no {rd : List UInt8 → Option Int} {l : List UInt8} (h : rlF rd l = none) : lsV rd l = [] ∧ lsB rd l = false := by unfold lsV lsB; rw [h]; exact ⟨rfl, rfl⟩
theorem ls_yes {rd : List UInt8 → Option Int} {l : List UInt8} {xs : List Int} (h : rlF rd l = some xs) : lsV rd l = xs ∧ lsB rd l = true := by unfold lsV lsB; rw [h]; exact ⟨rfl, rfl⟩
theorem own_at {w : World} {B : Nat} {e : TypeId} {A : Option Addr} {n m c : Nat} {xs : List Value} (h : w.ownsRow B e 1 (.slice A m c) n xs) (ad : Addr) (hA : A = some ad) : B ≤ ad.block := by
  rcases h.2 with ⟨hv, _⟩ | ⟨g, cap, cur, hv, hB, _⟩
  · injection hv with h1; rw [hA] at h1; cases h1
  · injection hv with h1; rw [hA] at h1; cases h1; exact hB
/-- a list of the call's own, or nil, and whether there is one, as a call returns them -/
def GotLF (k : IntKind) (xs : List Int) (b : Bool) (w : World) (e : Ending) (w' : World) : Prop :=
  ∃ A n c, e = .returned (.tuple #[.slice A n c, .bool b]) ∧ ISl w' k A n c xs ∧ Below w.heap.size w w' ∧ ∀ ad, A = some ad → w.heap.size ≤ ad.block
theorem GotLF.none_ {k : IntKind} {rd : List UInt8 → Option Int} {l : List UInt8} {w w' : World} {e : Ending} (h : rlF rd l = none) (hb : Below w.heap.size w w') (he : e = .returned (.tuple #[.slice none 0 0, .bool false])) : GotLF k (lsV rd l) (lsB rd l) w e w' := by
  obtain ⟨h1, h2⟩ := ls_no h
  exact ⟨none, 0, 0, by rw [he, h2], by rw [h1]; exact ISl.nil, hb, fun _ h => by cases h⟩
theorem GotLF.some_ {k : IntKind} {rd : List UInt8 → Option Int} {l : List UInt8} {w w' : World} {e : Ending} {xs : List Int} {A : Option Addr} {n c : Nat} (h : rlF rd l = some xs) (hb : Below w.heap.size w w') (hi : ISl w' k A n c xs) (hf : ∀ ad, A = some ad → w.heap.size ≤ ad.block) (he : e = .returned (.tuple #[.slice A n c, .bool true])) : GotLF k (lsV rd l) (lsB rd l) w e w' := by
  obtain ⟨h1, h2⟩ := ls_yes h
  exact ⟨A, n, c, by rw [he, h2], by rw [h1]; exact hi, hb, hf⟩

/-! An item. -/
abbrev rdI (lo hi : Int) (l : List UInt8) : Option Int := nF l lo hi
def rdA (l : List UInt8) : Option Int := (rdF l).map fun n => (n : Int)
theorem rdA_no {l : List UInt8} (h : rdA l = none) : rdV l = 0 ∧ rdB l = false := by
  refine rd_no ?_
  cases hx : rdF l with
  | none => rfl
  | some n => unfold rdA at h; rw [hx] at h; cases h
theorem rdA_yes {l : List UInt8} {x : Int} (h : rdA l = some x) : rdV l = x ∧ rdB l = true := by
  cases hx : rdF l with
  | none => unfold rdA at h; rw [hx] at h; cases h
  | some n =>
    unfold rdA at h
    rw [hx] at h
    have : (n : Int) = x := by simpa using h
    rw [← this]
    exact rd_yes hx
theorem itemI_no (l : List UInt8) (lo hi : Int) (b1 b2 : Nat) (w : World) (hs : l.length ≤ maxLen) (hl : Lds w) (c1 : w.cell? ⟨b1, 0, none⟩ = some (.int .i64 lo)) (c2 : w.cell? ⟨b2, 0, none⟩ = some (.int .i64 hi)) (h : nF l lo hi = none) :
    Calls Tryz.prog 97 #[.string (str l), .pointer (some ⟨b1, 0, none⟩), .pointer (some ⟨b2, 0, none⟩)] w fun e w' => e = .returned (.tuple #[.int .i64 0, .bool false]) ∧ Below w.heap.size w w' := by
  have h2 := numRead_any l lo hi
  rw [(n_no h).1, (n_no h).2] at h2
  have H2 := Lib.hid h2
  have HL := Lib.hid hl
  clear h h2 hl
  go_enter Tryz.func97, Tryz.ntmps97
  go_wp2_with (go_at_call 71; (with_reducible refine (H2.out _ hs HL.out).mono ?_); rintro e w1 ⟨rfl, hb1⟩)
  go_ret2
  exact ⟨rfl, hb1⟩
theorem itemI_yes (l : List UInt8) (lo hi : Int) (b1 b2 : Nat) (w : World) (hs : l.length ≤ maxLen) (hl : Lds w) (c1 : w.cell? ⟨b1, 0, none⟩ = some (.int .i64 lo)) (c2 : w.cell? ⟨b2, 0, none⟩ = some (.int .i64 hi)) (x : Int) (h : nF l lo hi = some x) :
    Calls Tryz.prog 97 #[.string (str l), .pointer (some ⟨b1, 0, none⟩), .pointer (some ⟨b2, 0, none⟩)] w fun e w' => e = .returned (.tuple #[.int .i64 x, .bool true]) ∧ Below w.heap.size w w' := by
  have h2 := numRead_any l lo hi
  rw [(n_yes h).1, (n_yes h).2] at h2
  have H2 := Lib.hid h2
  have HL := Lib.hid hl
  clear h h2 hl
  go_enter Tryz.func97, Tryz.ntmps97
  go_wp2_with (go_at_call 71; (with_reducible refine (H2.out _ hs HL.out).mono ?_); rintro e w1 ⟨rfl, hb1⟩)
  go_ret2
  exact ⟨rfl, hb1⟩
theorem itemA_no (l : List UInt8) (w : World) (hs : l.length ≤ maxLen) (h : rdA l = none) :
    Calls Tryz.prog 73 #[.string (str l)] w fun e w' => e = .returned (.tuple #[.int .u32 0, .bool false]) ∧ Below w.heap.size w w' := by
  have h2 := read_any (str l) w (by rw [str_size]; exact hs)
  rw [show (str l).data.toList = l by simp, (rdA_no h).1, (rdA_no h).2] at h2
  exact h2.mono fun e w' ⟨he, hd⟩ => ⟨he, hd.below⟩
theorem itemA_yes (l : List UInt8) (w : World) (hs : l.length ≤ maxLen) (x : Int) (h : rdA l = some x) :
    Calls Tryz.prog 73 #[.string (str l)] w fun e w' => e = .returned (.tuple #[.int .u32 x, .bool true]) ∧ Below w.heap.size w w' := by
  have h2 := read_any (str l) w (by rw [str_size]; exact hs)
  rw [show (str l).data.toList = l by simp, (rdA_yes h).1, (rdA_yes h).2] at h2
  exact h2.mono fun e w' ⟨he, hd⟩ => ⟨he, hd.below⟩
theorem Tryz.info3 : (Tryz.prog.info? 3).map (fun i => (i.zero, i.size, i.bytes)) = some (some (.int .i64 0), 1, 8) := by kernel_rfl
theorem Tryz.info34 : (Tryz.prog.info? 34).map (fun i => (i.zero, i.size, i.bytes)) = some (some (.int .u32 0), 1, 4) := by kernel_rfl
theorem list_more {k : IntKind} {e : TypeId} {a w2 w3 : World} {xs : List Int} {x : Int} {u v : Value} {o1 : Obj} (hbb : Below a.heap.size a w2)
    (hown2 : w2.ownsRow a.heap.size e 1 u xs.length (xs.map (Value.int k)))
    (hown3 : w3.ownsRow a.heap.size e 1 v (xs.length + 1) (xs.map (Value.int k) ++ [.int k x]))
    (hg : (w2.alloc o1).grownBy w3 u.ownBlock) :
    w3.ownsRow a.heap.size e 1 v (xs ++ [x]).length ((xs ++ [x]).map (Value.int k)) ∧ Below a.heap.size a w3 :=
  ⟨by simpa using hown3, below_app (hbb.alloc hbb.size o1) (hown2.alloc o1) hg⟩

set_option maxRecDepth 100000 in
set_option maxHeartbeats 2000000 in
theorem readI_any (l : List UInt8) (lo hi : Int) (b1 b2 : Nat) (w : World) (hs : l.length ≤ 1000000) (hl : Lds w) (h1 : b1 < w.heap.size) (h2 : b2 < w.heap.size) (c1 : w.cell? ⟨b1, 0, none⟩ = some (.int .i64 lo)) (c2 : w.cell? ⟨b2, 0, none⟩ = some (.int .i64 hi)) :
    Calls Tryz.prog 96 #[.string (str l), .func (.func 97) #[] #[.pointer (some ⟨b1, 0, none⟩), .pointer (some ⟨b2, 0, none⟩)]] w (GotLF .i64 (lsV (rdI lo hi) l) (lsB (rdI lo hi) l) w) := by
  obtain ⟨i0, hi, hz0, hz1, hz2⟩ := info_parts Tryz.info3
  have Hi := Lib.hid hi; have Hz0 := Lib.hid hz0; have Hz1 := Lib.hid hz1; have Hz2 := Lib.hid hz2
  have HL := Lib.hid hl; have C1 := Lib.hid c1; have C2 := Lib.hid c2
  clear hl c1 c2
  clear hi hz0 hz1 hz2
  go_enter Tryz.func96, Tryz.ntmps96
  go_wp2
  go_loopw [0, 6, 7] (fun s v m wr => ∃ (r : List UInt8) (xs : List Int) (more : Bool), s = .string (str r) ∧ m = .bool more ∧ wr.ownsRow w.heap.size 3 1 v xs.length (xs.map (Value.int .i64)) ∧ Below w.heap.size w wr ∧ RL (rdI lo hi) l r more xs) (fun s _ m _ => mMore s m)
  case atStart => exact ⟨l, [], true, rfl, rfl, World.ownsRow_nil _ _ _ _, Below.refl _ _, RL.start _ _⟩
  case round =>
    obtain ⟨r, xs, more, rfl, rfl, hown, hb, hrl⟩ := hrel
    obtain ⟨A, c, rfl, hnc, hcm⟩ := own_slice hown
    have h17 := hrl.bd
    have hrlen := hrl.le
    have R := Lib.hid hrl
    clear hrl
    by_cases hgo : more = true ∧ xs.length ≤ 16
    · obtain ⟨rfl, h16⟩ := hgo
      have hrs : r.length ≤ maxLen := by unfold maxLen; omega
      have hhs : (headC 44 r).length ≤ maxLen := Nat.le_trans (headC_le r) hrs
      have HRS := Lib.hid hrs
      have HHS := Lib.hid hhs
      clear hrs hhs
      cases hx : (rdI lo hi) (headC 44 r) with
      | none =>
        have E := Lib.hid (R.out.bad hx)
        have HX := Lib.hid hx
        clear hx
        go_wp2_with (first
          | (go_at_call 95; (with_reducible refine (cut_l r _ rfl HRS.out _).mono ?_); rintro e w1 ⟨rfl, hb1⟩)
          | (go_at_call 97; (with_reducible refine (itemI_no _ lo hi b1 b2 _ HHS.out (HL.out.below (hb.trans (hb1.mono hb.size))) (((hb.trans (hb1.mono hb.size)).cell (p := ⟨b1, 0, none⟩) h1).trans C1.out) (((hb.trans (hb1.mono hb.size)).cell (p := ⟨b2, 0, none⟩) h2).trans C2.out) HX.out).mono ?_); rintro e w2 ⟨rfl, hb2⟩))
        exact bodyPost_ret (v := .tuple #[.slice none 0 0, .bool false]) (by simp [results, Tryz.results96, go_sem]) rfl (GotLF.none_ E.out (hb.trans ((trans_below hb1 hb2).mono hb.size)) rfl)
      | some x =>
        have HX := Lib.hid hx
        clear hx
        cases hc : hasC 44 r with
        | false =>
          have N := Lib.hid (R.out.next h16 HX.out)
          have HC := Lib.hid hc
          clear hc
          go_wp2_with (first
            | (go_at_call 95; (with_reducible refine (cut_l r false HC.out HRS.out _).mono ?_); rintro e w1 ⟨rfl, hb1⟩)
            | (go_at_call 97; (with_reducible refine (itemI_yes _ lo hi b1 b2 _ HHS.out (HL.out.below (hb.trans (hb1.mono hb.size))) (((hb.trans (hb1.mono hb.size)).cell (p := ⟨b1, 0, none⟩) h1).trans C1.out) (((hb.trans (hb1.mono hb.size)).cell (p := ⟨b2, 0, none⟩) h2).trans C2.out) x HX.out).mono ?_); rintro e w2 ⟨rfl, hb2⟩; have hown2 := own_keep (own_keep hown hb1) hb2; have hbb := hb.trans ((trans_below hb1 hb2).mono hb.size))
            | (at_builtin; refine wpList_append_lies _ rfl (.tmp 31) (.tmp 33) 36 rfl w.heap.size 3 i0 (.int .i64 0) 1 8 Tryz.underlying36 Hi.out Hz0.out Hz1.out Hz2.out rfl (by decide) _ _ _ (by rfl) (hown2.alloc _) ⟨w2.heap.size, 0, none⟩ 1 1 [.int .i64 x] (by rfl) rfl (World.news_of_block (heap_alloc_new w2 _)) (by simp [Value.oneCell']) (by omega) (by unfold maxLen; omega) (by omega) (by have := hbb.size; simp; omega) _ rfl ?_; intro g cap w3 hown3 hgrow3 _ _))
          have hend := list_more hbb hown2 hown3 hgrow3
          have N2 := Lib.hid (show RL (rdI lo hi) l (tailC 44 r) false (xs ++ [x]) by rw [← HC.out]; exact N.out)
          clear hown hown2 hown3 hgrow3 hb hb1 hb2 hbb
          go_roundw
          case rel => exact ⟨tailC 44 r, xs ++ [x], false, rfl, rfl, hend.1, hend.2, N2.out⟩
          case measure => rw [mMore_false, mMore_true]; omega
        | true =>
          have N := Lib.hid (R.out.next h16 HX.out)
          have HC := Lib.hid hc
          clear hc
          go_wp2_with (first
            | (go_at_call 95; (with_reducible refine (cut_l r true HC.out HRS.out _).mono ?_); rintro e w1 ⟨rfl, hb1⟩)
            | (go_at_call 97; (with_reducible refine (itemI_yes _ lo hi b1 b2 _ HHS.out (HL.out.below (hb.trans (hb1.mono hb.size))) (((hb.trans (hb1.mono hb.size)).cell (p := ⟨b1, 0, none⟩) h1).trans C1.out) (((hb.trans (hb1.mono hb.size)).cell (p := ⟨b2, 0, none⟩) h2).trans C2.out) x HX.out).mono ?_); rintro e w2 ⟨rfl, hb2⟩; have hown2 := own_keep (own_keep hown hb1) hb2; have hbb := hb.trans ((trans_below hb1 hb2).mono hb.size))
            | (at_builtin; refine wpList_append_lies _ rfl (.tmp 31) (.tmp 33) 36 rfl w.heap.size 3 i0 (.int .i64 0) 1 8 Tryz.underlying36 Hi.out Hz0.out Hz1.out Hz2.out rfl (by decide) _ _ _ (by rfl) (hown2.alloc _) ⟨w2.heap.size, 0, none⟩ 1 1 [.int .i64 x] (by rfl) rfl (World.news_of_block (heap_alloc_new w2 _)) (by simp [Value.oneCell']) (by omega) (by unfold maxLen; omega) (by omega) (by have := hbb.size; simp; omega) _ rfl ?_; intro g cap w3 hown3 hgrow3 _ _))
          have hend := list_more hbb hown2 hown3 hgrow3
          have N2 := Lib.hid (show RL (rdI lo hi) l (tailC 44 r) true (xs ++ [x]) by rw [← HC.out]; exact N.out)
          clear hown hown2 hown3 hgrow3 hb hb1 hb2 hbb
          go_roundw
          case rel => exact ⟨tailC 44 r, xs ++ [x], true, rfl, rfl, hend.1, hend.2, N2.out⟩
          case measure => rw [mMore_true, mMore_true]; have := tailC_less HC.out; omega
    · have hsl := Lib.hid (ISl.of_own hown)
      by_cases hm : more = true
      · subst hm
        have h16 : 16 < xs.length := by
          rcases Nat.lt_or_ge 16 xs.length with h | h
          · exact h
          · exact absurd ⟨rfl, h⟩ hgo
        clear hgo
        have E := Lib.hid (R.out.many h16)
        go_wp2_with (go_at_call 106; (with_reducible refine (rising_any A xs.length c xs _ hsl.out).mono ?_); rintro e w1 ⟨rfl, hd1⟩; rw [E.out.2])
        exact bodyPost_ret (v := .tuple #[.slice none 0 0, .bool false]) (by simp [results, Tryz.results96, go_sem]) rfl (GotLF.none_ E.out.1 (hb.trans (hd1.below.mono hb.size)) rfl)
      · obtain rfl : more = false := by simpa using hm
        clear hgo hm
        have D := Lib.hid R.out.done
        cases hr : risB xs with
        | false =>
          have E := Lib.hid (show rlF (rdI lo hi) l = none by rw [D.out, if_neg (by rw [hr]; simp)])
          have HR := Lib.hid hr
          clear hr
          go_wp2_with (go_at_call 106; (with_reducible refine (rising_any A xs.length c xs _ hsl.out).mono ?_); rintro e w1 ⟨rfl, hd1⟩; rw [HR.out])
          exact bodyPost_ret (v := .tuple #[.slice none 0 0, .bool false]) (by simp [results, Tryz.results96, go_sem]) rfl (GotLF.none_ E.out (hb.trans (hd1.below.mono hb.size)) rfl)
        | true =>
          have E := Lib.hid (show rlF (rdI lo hi) l = some xs by rw [D.out, if_pos hr])
          have HR := Lib.hid hr
          clear hr
          go_wp2_with (go_at_call 106; (with_reducible refine (rising_any A xs.length c xs _ hsl.out).mono ?_); rintro e w1 ⟨rfl, hd1⟩; rw [HR.out])
          exact bodyPost_ret (v := .tuple #[.slice A xs.length c, .bool true]) (by simp [results, Tryz.results96, go_sem]) rfl (GotLF.some_ E.out (hb.trans (hd1.below.mono hb.size)) (hsl.out.drew hd1) (own_at hown) rfl)

set_option maxRecDepth 100000 in
set_option maxHeartbeats 2000000 in
theorem readA_any (l : List UInt8) (w : World) (hs : l.length ≤ 1000000) :
    Calls Tryz.prog 98 #[.string (str l), .func (.func 73) #[] #[]] w (GotLF .u32 (lsV rdA l) (lsB rdA l) w) := by
  obtain ⟨i0, hi, hz0, hz1, hz2⟩ := info_parts Tryz.info34
  have Hi := Lib.hid hi; have Hz0 := Lib.hid hz0; have Hz1 := Lib.hid hz1; have Hz2 := Lib.hid hz2
  clear hi hz0 hz1 hz2
  go_enter Tryz.func98, Tryz.ntmps98
  go_wp2
  go_loopw [0, 6, 7] (fun s v m wr => ∃ (r : List UInt8) (xs : List Int) (more : Bool), s = .string (str r) ∧ m = .bool more ∧ wr.ownsRow w.heap.size 34 1 v xs.length (xs.map (Value.int .u32)) ∧ Below w.heap.size w wr ∧ RL rdA l r more xs) (fun s _ m _ => mMore s m)
  case atStart => exact ⟨l, [], true, rfl, rfl, World.ownsRow_nil _ _ _ _, Below.refl _ _, RL.start _ _⟩
  case round =>
    obtain ⟨r, xs, more, rfl, rfl, hown, hb, hrl⟩ := hrel
    obtain ⟨A, c, rfl, hnc, hcm⟩ := own_slice hown
    have h17 := hrl.bd
    have hrlen := hrl.le
    have R := Lib.hid hrl
    clear hrl
    by_cases hgo : more = true ∧ xs.length ≤ 16
    · obtain ⟨rfl, h16⟩ := hgo
      have hrs : r.length ≤ maxLen := by unfold maxLen; omega
      have hhs : (headC 44 r).length ≤ maxLen := Nat.le_trans (headC_le r) hrs
      have HRS := Lib.hid hrs
      have HHS := Lib.hid hhs
      clear hrs hhs
      cases hx : rdA (headC 44 r) with
      | none =>
        have E := Lib.hid (R.out.bad hx)
        have HX := Lib.hid hx
        clear hx
        go_wp2_with (first
          | (go_at_call 95; (with_reducible refine (cut_l r _ rfl HRS.out _).mono ?_); rintro e w1 ⟨rfl, hb1⟩)
          | (go_at_call 73; (with_reducible refine (itemA_no _ _ HHS.out HX.out).mono ?_); rintro e w2 ⟨rfl, hb2⟩))
        exact bodyPost_ret (v := .tuple #[.slice none 0 0, .bool false]) (by simp [results, Tryz.results98, go_sem]) rfl (GotLF.none_ E.out (hb.trans ((trans_below hb1 hb2).mono hb.size)) rfl)
      | some x =>
        have HX := Lib.hid hx
        clear hx
        cases hc : hasC 44 r with
        | false =>
          have N := Lib.hid (R.out.next h16 HX.out)
          have HC := Lib.hid hc
          clear hc
          go_wp2_with (first
            | (go_at_call 95; (with_reducible refine (cut_l r false HC.out HRS.out _).mono ?_); rintro e w1 ⟨rfl, hb1⟩)
            | (go_at_call 73; (with_reducible refine (itemA_yes _ _ HHS.out x HX.out).mono ?_); rintro e w2 ⟨rfl, hb2⟩; have hown2 := own_keep (own_keep hown hb1) hb2; have hbb := hb.trans ((trans_below hb1 hb2).mono hb.size))
            | (at_builtin; refine wpList_append_lies _ rfl (.tmp 31) (.tmp 33) 37 rfl w.heap.size 34 i0 (.int .u32 0) 1 4 Tryz.underlying37 Hi.out Hz0.out Hz1.out Hz2.out rfl (by decide) _ _ _ (by rfl) (hown2.alloc _) ⟨w2.heap.size, 0, none⟩ 1 1 [.int .u32 x] (by rfl) rfl (World.news_of_block (heap_alloc_new w2 _)) (by simp [Value.oneCell']) (by omega) (by unfold maxLen; omega) (by omega) (by have := hbb.size; simp; omega) _ rfl ?_; intro g cap w3 hown3 hgrow3 _ _))
          have hend := list_more hbb hown2 hown3 hgrow3
          have N2 := Lib.hid (show RL rdA l (tailC 44 r) false (xs ++ [x]) by rw [← HC.out]; exact N.out)
          clear hown hown2 hown3 hgrow3 hb hb1 hb2 hbb
          go_roundw
          case rel => exact ⟨tailC 44 r, xs ++ [x], false, rfl, rfl, hend.1, hend.2, N2.out⟩
          case measure => rw [mMore_false, mMore_true]; omega
        | true =>
          have N := Lib.hid (R.out.next h16 HX.out)
          have HC := Lib.hid hc
          clear hc
          go_wp2_with (first
            | (go_at_call 95; (with_reducible refine (cut_l r true HC.out HRS.out _).mono ?_); rintro e w1 ⟨rfl, hb1⟩)
            | (go_at_call 73; (with_reducible refine (itemA_yes _ _ HHS.out x HX.out).mono ?_); rintro e w2 ⟨rfl, hb2⟩; have hown2 := own_keep (own_keep hown hb1) hb2; have hbb := hb.trans ((trans_below hb1 hb2).mono hb.size))
            | (at_builtin; refine wpList_append_lies _ rfl (.tmp 31) (.tmp 33) 37 rfl w.heap.size 34 i0 (.int .u32 0) 1 4 Tryz.underlying37 Hi.out Hz0.out Hz1.out Hz2.out rfl (by decide) _ _ _ (by rfl) (hown2.alloc _) ⟨w2.heap.size, 0, none⟩ 1 1 [.int .u32 x] (by rfl) rfl (World.news_of_block (heap_alloc_new w2 _)) (by simp [Value.oneCell']) (by omega) (by unfold maxLen; omega) (by omega) (by have := hbb.size; simp; omega) _ rfl ?_; intro g cap w3 hown3 hgrow3 _ _))
          have hend := list_more hbb hown2 hown3 hgrow3
          have N2 := Lib.hid (show RL rdA l (tailC 44 r) true (xs ++ [x]) by rw [← HC.out]; exact N.out)
          clear hown hown2 hown3 hgrow3 hb hb1 hb2 hbb
          go_roundw
          case rel => exact ⟨tailC 44 r, xs ++ [x], true, rfl, rfl, hend.1, hend.2, N2.out⟩
          case measure => rw [mMore_true, mMore_true]; have := tailC_less HC.out; omega
    · have hsl := Lib.hid (ISl.of_own hown)
      by_cases hm : more = true
      · subst hm
        have h16 : 16 < xs.length := by
          rcases Nat.lt_or_ge 16 xs.length with h | h
          · exact h
          · exact absurd ⟨rfl, h⟩ hgo
        clear hgo
        have E := Lib.hid (R.out.many h16)
        go_wp2_with (go_at_call 120; (with_reducible refine (rising32_any A xs.length c xs _ hsl.out).mono ?_); rintro e w1 ⟨rfl, hd1⟩; rw [E.out.2])
        exact bodyPost_ret (v := .tuple #[.slice none 0 0, .bool false]) (by simp [results, Tryz.results98, go_sem]) rfl (GotLF.none_ E.out.1 (hb.trans (hd1.below.mono hb.size)) rfl)
      · obtain rfl : more = false := by simpa using hm
        clear hgo hm
        have D := Lib.hid R.out.done
        cases hr : risB xs with
        | false =>
          have E := Lib.hid (show rlF rdA l = none by rw [D.out, if_neg (by rw [hr]; simp)])
          have HR := Lib.hid hr
          clear hr
          go_wp2_with (go_at_call 120; (with_reducible refine (rising32_any A xs.length c xs _ hsl.out).mono ?_); rintro e w1 ⟨rfl, hd1⟩; rw [HR.out])
          exact bodyPost_ret (v := .tuple #[.slice none 0 0, .bool false]) (by simp [results, Tryz.results98, go_sem]) rfl (GotLF.none_ E.out (hb.trans (hd1.below.mono hb.size)) rfl)
        | true =>
          have E := Lib.hid (show rlF rdA l = some xs by rw [D.out, if_pos hr])
          have HR := Lib.hid hr
          clear hr
          go_wp2_with (go_at_call 120; (with_reducible refine (rising32_any A xs.length c xs _ hsl.out).mono ?_); rintro e w1 ⟨rfl, hd1⟩; rw [HR.out])
          exact bodyPost_ret (v := .tuple #[.slice A xs.length c, .bool true]) (by simp [results, Tryz.results98, go_sem]) rfl (GotLF.some_ E.out (hb.trans (hd1.below.mono hb.size)) (hsl.out.drew hd1) (own_at hown) rfl)

theorem readListF_any (l : List UInt8) (lo hi : Int) (w : World) (hs : l.length ≤ 1000000) (hl : Lds w) :
    Calls Tryz.prog 75 #[.string (str l), .int .i64 lo, .int .i64 hi] w (GotLF .i64 (lsV (rdI lo hi) l) (lsB (rdI lo hi) l) w) := by
  have HL := Lib.hid hl
  clear hl
  go_enter Tryz.func75, Tryz.ntmps75
  go_wp2_with (go_at_call 96; refine (readI_any l lo hi w.heap.size (w.heap.size + 1) _ hs (HL.out.below (((Below.refl _ _).alloc (Nat.le_refl _) _).alloc (by simp) _)) (by simp; omega) (by simp) (by go_simp) (by go_simp)).mono ?_; rintro e w1 ⟨A, n, c, rfl, hi1, hb1, hf1⟩)
  go_ret2
  exact ⟨A, n, c, rfl, hi1, two_below hb1, fun ad h => Nat.le_trans (by simp; omega) (hf1 ad h)⟩
theorem readAddrsF_any (l : List UInt8) (w : World) (hs : l.length ≤ 1000000) :
    Calls Tryz.prog 76 #[.string (str l)] w (GotLF .u32 (lsV rdA l) (lsB rdA l) w) := by
  go_enter Tryz.func76, Tryz.ntmps76
  go_wp2_with (go_at_call 98; refine (readA_any l _ hs).mono ?_; rintro e w1 ⟨A, n, c, rfl, hi1, hb1, hf1⟩)
  go_ret2
  exact ⟨A, n, c, rfl, hi1, hb1, hf1⟩
/-- a list and whether there is one, as a call returns them -/
def GotL (k : IntKind) (xs : List Int) (b : Bool) (w : World) (e : Ending) (w' : World) : Prop :=
  ∃ A n c, e = .returned (.tuple #[.slice A n c, .bool b]) ∧ ISl w' k A n c xs ∧ Below w.heap.size w w'
theorem GotLF.got {k : IntKind} {xs : List Int} {b : Bool} {w w' : World} {e : Ending} (h : GotLF k xs b w e w') : GotL k xs b w e w' := by
  obtain ⟨A, n, c, h0, h1, h2, _⟩ := h
  exact ⟨A, n, c, h0, h1, h2⟩
theorem readList_any (l : List UInt8) (lo hi : Int) (w : World) (hs : l.length ≤ 1000000) (hl : Lds w) :
    Calls Tryz.prog 75 #[.string (str l), .int .i64 lo, .int .i64 hi] w (GotL .i64 (lsV (rdI lo hi) l) (lsB (rdI lo hi) l) w) := (readListF_any l lo hi w hs hl).mono fun _ _ h => h.got
theorem readAddrs_any (l : List UInt8) (w : World) (hs : l.length ≤ 1000000) :
    Calls Tryz.prog 76 #[.string (str l)] w (GotL .u32 (lsV rdA l) (lsB rdA l) w) := (readAddrsF_any l w hs).mono fun _ _ h => h.got
end Go.Proofs.YtagbfklcbekceaaGreatDoor

namespace Go.Proofs.YtagbfklcbekceaaGreatDoor
open Go.RowKit

def Lc (x : Int) : Prop := 97 ≤ x ∧ x ≤ 122
def Dc (x : Int) : Prop := 48 ≤ x ∧ x ≤ 57
/-- 1 to 12 bytes, the first of which is a letter, and all others are such, or digits -/
def NameOk (s : ByteArray) : Prop := 1 ≤ s.size ∧ s.size ≤ 12 ∧ Lc (sb s 0) ∧ ∀ j, j < s.size → Lc (sb s j) ∨ Dc (sb s j)
theorem letter_yes (x : Int) (h1 : 97 ≤ x) (h2 : x ≤ 122) (w : World) : Calls Tryz.prog 100 #[.int .u8 x] w fun e w' => e = .returned (.bool true) ∧ w = w' := by
  go_enter Tryz.func100, Tryz.ntmps100
  go_wp2
  go_ret
  exact ⟨rfl, rfl⟩
theorem letter_no (x : Int) (h : ¬ Lc x) (w : World) : Calls Tryz.prog 100 #[.int .u8 x] w fun e w' => e = .returned (.bool false) ∧ w = w' := by
  unfold Lc at h
  by_cases h1 : 97 ≤ x
  · have h2 : ¬ x ≤ 122 := fun h2 => h ⟨h1, h2⟩
    clear h
    go_enter Tryz.func100, Tryz.ntmps100
    go_wp2
    go_ret
    exact ⟨rfl, rfl⟩
  · clear h
    go_enter Tryz.func100, Tryz.ntmps100
    go_wp2
    go_ret
    exact ⟨rfl, rfl⟩
theorem digit_yes (x : Int) (h1 : 48 ≤ x) (h2 : x ≤ 57) (w : World) : Calls Tryz.prog 101 #[.int .u8 x] w fun e w' => e = .returned (.bool true) ∧ w = w' := by
  go_enter Tryz.func101, Tryz.ntmps101
  go_wp2
  go_ret
  exact ⟨rfl, rfl⟩
theorem digit_no (x : Int) (h : ¬ Dc x) (w : World) : Calls Tryz.prog 101 #[.int .u8 x] w fun e w' => e = .returned (.bool false) ∧ w = w' := by
  unfold Dc at h
  by_cases h1 : 48 ≤ x
  · have h2 : ¬ x ≤ 57 := fun h2 => h ⟨h1, h2⟩
    clear h
    go_enter Tryz.func101, Tryz.ntmps101
    go_wp2
    go_ret
    exact ⟨rfl, rfl⟩
  · clear h
    go_enter Tryz.func101, Tryz.ntmps101
    go_wp2
    go_ret
    exact ⟨rfl, rfl⟩
theorem ret_bool {a b : Bool} (h : a = b) : Ending.returned (.bool a) = .returned (.bool b) := by rw [h]

set_option maxRecDepth 100000 in
set_option maxHeartbeats 1000000 in
theorem name_any (s : ByteArray) (w : World) (hs : s.size ≤ maxLen) (v : Bool) (hv : v = true ↔ NameOk s) :
    Calls Tryz.prog 80 #[.string s] w fun e w' => e = .returned (.bool v) ∧ w = w' := by
  unfold maxLen at hs
  have no : ¬ NameOk s → Hid (v = false) := fun h => Lib.hid (by cases v with | false => rfl | true => exact absurd (hv.1 rfl) h)
  have yes : NameOk s → Hid (v = true) := fun h => Lib.hid (hv.2 h)
  have NO := Lib.hid no
  have YES := Lib.hid yes
  clear no yes hv
  by_cases h1 : s.size < 1
  · have E := NO.out (fun h => by have := h.1; omega)
    go_enter Tryz.func80, Tryz.ntmps80
    go_wp2
    go_ret
    exact ⟨by rw [E.out]; rfl, rfl⟩
  by_cases h2 : 12 < s.size
  · have E := NO.out (fun h => by have := h.2.1; omega)
    go_enter Tryz.func80, Tryz.ntmps80
    go_wp2
    go_ret
    exact ⟨by rw [E.out]; rfl, rfl⟩
  have x0 := run_index_sb s 0 0 rfl (by omega)
  by_cases h3 : Lc (sb s 0)
  · have L0 := Lib.hid h3
    obtain ⟨a1, a2⟩ := h3
    go_enter Tryz.func80, Tryz.ntmps80
    go_wp2_with (go_at_call 100; refine (letter_yes _ a1 a2 _).mono ?_; rintro e w' ⟨rfl, rfl⟩)
    clear x0 a1 a2
    go_loop [20] (fun i => ∃ k : Nat, k ≤ s.size ∧ i = .int .i64 (k : Int) ∧ ∀ j, j < k → Lc (sb s j) ∨ Dc (sb s j)) (fun i => s.size - (intOf i).toNat)
    case atStart => exact ⟨0, by omega, rfl, fun j hj => by omega⟩
    case round =>
      obtain ⟨k, hk, rfl, hall⟩ := hrel
      have A := Lib.hid hall
      clear hall
      by_cases hlt : k < s.size
      · have x1 := run_index_sb s k k rfl hlt
        by_cases hL : Lc (sb s k)
        · have HL := Lib.hid hL
          obtain ⟨b1, b2⟩ := hL
          go_wp2_with (go_at_call 100; refine (letter_yes _ b1 b2 _).mono ?_; rintro e w' ⟨rfl, rfl⟩)
          go_round
          case rel => exact ⟨k + 1, by omega, by go_num, fun j hj => by
            by_cases e : j = k
            · subst e; exact .inl HL.out
            · exact A.out j (by omega)⟩
          case measure => simp [intOf]; omega
        · have HNL := Lib.hid hL
          by_cases hD : Dc (sb s k)
          · have HD := Lib.hid hD
            obtain ⟨b1, b2⟩ := hD
            clear hL
            go_wp2_with (first
              | (go_at_call 100; refine (letter_no _ HNL.out _).mono ?_; rintro e w' ⟨rfl, rfl⟩)
              | (go_at_call 101; refine (digit_yes _ b1 b2 _).mono ?_; rintro e w' ⟨rfl, rfl⟩))
            go_round
            case rel => exact ⟨k + 1, by omega, by go_num, fun j hj => by
              by_cases e : j = k
              · subst e; exact .inr HD.out
              · exact A.out j (by omega)⟩
            case measure => simp [intOf]; omega
          · have HND := Lib.hid hD
            have E := NO.out (fun h => (h.2.2.2 k hlt).elim HNL.out HND.out)
            clear hL hD
            go_wp2_with (first
              | (go_at_call 100; refine (letter_no _ HNL.out _).mono ?_; rintro e w' ⟨rfl, rfl⟩)
              | (go_at_call 101; refine (digit_no _ HND.out _).mono ?_; rintro e w' ⟨rfl, rfl⟩))
            go_ret
            exact ⟨by rw [E.out]; rfl, rfl⟩
      · have E := YES.out ⟨by omega, by omega, L0.out, fun j hj => A.out j (by omega)⟩
        go_wp2
        go_ret
        exact ⟨by rw [E.out]; rfl, rfl⟩
  · have HN := Lib.hid h3
    have E := NO.out (fun h => HN.out h.2.2.1)
    clear h3
    go_enter Tryz.func80, Tryz.ntmps80
    go_wp2_with (go_at_call 100; refine (letter_no _ HN.out _).mono ?_; rintro e w' ⟨rfl, rfl⟩)
    go_ret
    exact ⟨by rw [E.out]; rfl, rfl⟩

end Go.Proofs.YtagbfklcbekceaaGreatDoor

namespace Go.Proofs.YtagbfklcbekceaaGreatDoor
open Go.RowKit

def pfV (l : List UInt8) : Value := .agg #[.int .u32 (((pfF l).getD (0, 0)).1 : Nat), .int .i64 (((pfF l).getD (0, 0)).2 : Nat)]
def pfB (l : List UInt8) : Bool := (pfF l).isSome
theorem pf_no {l : List UInt8} (h : pfF l = none) : pfV l = .agg #[.int .u32 0, .int .i64 0] ∧ pfB l = false := by unfold pfV pfB; rw [h]; exact ⟨rfl, rfl⟩
theorem pf_yes {l : List UInt8} {a b : Nat} (h : pfF l = some (a, b)) : pfV l = .agg #[.int .u32 (a : Int), .int .i64 (b : Int)] ∧ pfB l = true := by unfold pfV pfB; rw [h]; exact ⟨rfl, rfl⟩
theorem read_no (l : List UInt8) (w : World) (hs : l.length ≤ maxLen) (h : rdF l = none) :
    Calls Tryz.prog 73 #[.string (str l)] w fun e w' => e = .returned (.tuple #[.int .u32 0, .bool false]) ∧ Drew w w' := by
  have h2 := read_any (str l) w (by rw [str_size]; exact hs)
  rw [show (str l).data.toList = l by simp, (rd_no h).1, (rd_no h).2] at h2
  exact h2
theorem read_yes (l : List UInt8) (a : Nat) (w : World) (hs : l.length ≤ maxLen) (h : rdF l = some a) :
    Calls Tryz.prog 73 #[.string (str l)] w fun e w' => e = .returned (.tuple #[.int .u32 (a : Int), .bool true]) ∧ Drew w w' := by
  have h2 := read_any (str l) w (by rw [str_size]; exact hs)
  rw [show (str l).data.toList = l by simp, (rd_yes h).1, (rd_yes h).2] at h2
  exact h2
theorem headC_len (c : UInt8) (l : List UInt8) : (headC c l).length ≤ l.length ∧ (tailC c l).length ≤ l.length := by
  rcases index_cases l c with ⟨_, _, h3, h4⟩ | ⟨i, _, _, _, h4, h5⟩
  · rw [h3, h4]; simp
  · rw [h4, h5]; simp; omega
theorem below_alloc_draw (w : World) (o : Obj) (n : Nat) : Below w.heap.size w ((w.alloc o).drewN n) := below_drewN ((Below.refl _ _).alloc (Nat.le_refl _) _) n

set_option maxRecDepth 100000 in
set_option maxHeartbeats 1000000 in
theorem readPrefix_any (s : ByteArray) (w : World) (hs : s.size ≤ maxLen) :
    Calls Tryz.prog 74 #[.string s] w fun e w' => e = .returned (.tuple #[pfV s.data.toList, .bool (pfB s.data.toList)]) ∧ Below w.heap.size w w' := by
  have HS := Lib.hid hs
  have HL := Lib.hid (headC_len 47 s.data.toList)
  have H1 := Lib.hid (show (headC 47 s.data.toList).length ≤ maxLen by have := HL.out.1; rw [size_len] at this; exact Nat.le_trans this hs)
  have H2 := Lib.hid (show (tailC 47 s.data.toList).length ≤ maxLen by have := HL.out.2; rw [size_len] at this; exact Nat.le_trans this hs)
  clear hs
  cases hr : rdF (headC 47 s.data.toList) with
  | none =>
    have E := Lib.hid (pf_no (show pfF s.data.toList = none by unfold pfF; rw [show headS s.data.toList = headC 47 s.data.toList from rfl, hr]))
    have HR := Lib.hid hr
    clear hr
    rw [E.out.1, E.out.2]
    go_enter Tryz.func74, Tryz.ntmps74
    go_wp2_with (first
      | (go_at_call 95; refine (cut_any s 47 _ HS.out).mono ?_; rintro e w' ⟨rfl, n1, rfl⟩)
      | (go_at_call 73; refine (read_no _ _ H1.out HR.out).mono ?_; rintro e w' ⟨rfl, n2, rfl⟩))
    exact bodyPost_ret (v := .tuple #[.agg #[.int .u32 0, .int .i64 0], .bool false]) (by simp [results, Tryz.results74, go_sem]) rfl ⟨rfl, ((below_drewN ((Below.refl _ _).alloc (Nat.le_refl _) _) _).setCell (Nat.le_refl _) _).setCell (Nat.le_refl _) _⟩
  | some a =>
    have HR := Lib.hid hr
    cases hn : numF 32 (tailC 47 s.data.toList) with
    | none =>
      have E := Lib.hid (pf_no (show pfF s.data.toList = none by unfold pfF; rw [show headS s.data.toList = headC 47 s.data.toList from rfl, show tailS s.data.toList = tailC 47 s.data.toList from rfl, hr, hn]))
      have HN := Lib.hid hn
      clear hr hn
      rw [E.out.1, E.out.2]
      go_enter Tryz.func74, Tryz.ntmps74
      go_wp2_with (first
        | (go_at_call 95; refine (cut_any s 47 _ HS.out).mono ?_; rintro e w' ⟨rfl, n1, rfl⟩)
        | (go_at_call 73; refine (read_yes _ a _ H1.out HR.out).mono ?_; rintro e w' ⟨rfl, n2, rfl⟩)
        | (go_at_call 94; refine (number_no _ 32 _ (by omega) H2.out HN.out).mono ?_; rintro e w' ⟨rfl, n3, rfl⟩))
      exact bodyPost_ret (v := .tuple #[.agg #[.int .u32 0, .int .i64 0], .bool false]) (by simp [results, Tryz.results74, go_sem]) rfl ⟨rfl, ((below_drewN ((Below.refl _ _).alloc (Nat.le_refl _) _) _).setCell (Nat.le_refl _) _).setCell (Nat.le_refl _) _⟩
    | some q =>
      obtain ⟨b, r⟩ := q
      have hb := numF_len hn
      by_cases hr0 : r = []
      · subst hr0
        have E := Lib.hid (pf_yes (show pfF s.data.toList = some (a, b) by unfold pfF; rw [show headS s.data.toList = headC 47 s.data.toList from rfl, show tailS s.data.toList = tailC 47 s.data.toList from rfl, hr, hn]))
        have HN := Lib.hid hn
        clear hr hn
        rw [E.out.1, E.out.2]
        go_enter Tryz.func74, Tryz.ntmps74
        go_wp2_with (first
          | (go_at_call 95; refine (cut_any s 47 _ HS.out).mono ?_; rintro e w' ⟨rfl, n1, rfl⟩)
          | (go_at_call 73; refine (read_yes _ a _ H1.out HR.out).mono ?_; rintro e w' ⟨rfl, n2, rfl⟩)
          | (go_at_call 94; refine (number_yes _ 32 b [] _ (by omega) H2.out HN.out).mono ?_; rintro e w' ⟨rfl, n3, rfl⟩))
        exact bodyPost_ret (v := .tuple #[.agg #[.int .u32 a, .int .i64 b], .bool true]) (by simp [results, Tryz.results74, go_sem]) rfl ⟨rfl, ((below_drewN ((Below.refl _ _).alloc (Nat.le_refl _) _) _).setCell (Nat.le_refl _) _).setCell (Nat.le_refl _) _⟩
      · have E := Lib.hid (pf_no (show pfF s.data.toList = none by
          unfold pfF; rw [show headS s.data.toList = headC 47 s.data.toList from rfl, show tailS s.data.toList = tailC 47 s.data.toList from rfl, hr, hn]
          cases r with
          | nil => exact absurd rfl hr0
          | cons c r => rfl))
        have HN := Lib.hid hn
        have hne : r.isEmpty = false := by simpa using hr0
        clear hr hn hr0
        rw [E.out.1, E.out.2]
        go_enter Tryz.func74, Tryz.ntmps74
        go_wp2_with (first
          | (go_at_call 95; refine (cut_any s 47 _ HS.out).mono ?_; rintro e w' ⟨rfl, n1, rfl⟩)
          | (go_at_call 73; refine (read_yes _ a _ H1.out HR.out).mono ?_; rintro e w' ⟨rfl, n2, rfl⟩)
          | (go_at_call 94; refine (number_yes _ 32 b r _ (by omega) H2.out HN.out).mono ?_; rintro e w' ⟨rfl, n3, rfl⟩))
        exact bodyPost_ret (v := .tuple #[.agg #[.int .u32 0, .int .i64 0], .bool false]) (by simp [results, Tryz.results74, go_sem]) rfl ⟨rfl, ((below_drewN ((Below.refl _ _).alloc (Nat.le_refl _) _) _).setCell (Nat.le_refl _) _).setCell (Nat.le_refl _) _⟩
end Go.Proofs.YtagbfklcbekceaaGreatDoor

namespace Go.Proofs.YtagbfklcbekceaaGreatDoor
open Go.RowKit

/-- the two cells of a prefix in a block of the call's own, and what was there is as it was -/
theorem boxed_keep {w W w' : World} {b : Nat} {x y : Value} (hb : Below W.heap.size W w') (h : W.cell? ⟨b, 0, none⟩ = some x ∧ W.cell? ⟨b, 1, none⟩ = some y ∧ Below w.heap.size w W ∧ b < W.heap.size) :
    w'.cell? ⟨b, 0, none⟩ = some x ∧ w'.cell? ⟨b, 1, none⟩ = some y ∧ Below w.heap.size w w' ∧ b < w'.heap.size :=
  ⟨(hb.cell (p := ⟨b, 0, none⟩) h.2.2.2).trans h.1, (hb.cell (p := ⟨b, 1, none⟩) h.2.2.2).trans h.2.1, h.2.2.1.trans (hb.mono h.2.2.1.size), Nat.lt_of_lt_of_le h.2.2.2 hb.size⟩
theorem boxed_drew {w W : World} {b : Nat} {x y : Value} (h0 : W.cell? ⟨b, 0, none⟩ = some x) (h1 : W.cell? ⟨b, 1, none⟩ = some y) (hB : Below w.heap.size w W) (hl : b < W.heap.size) :
    W.drew.cell? ⟨b, 0, none⟩ = some x ∧ W.drew.cell? ⟨b, 1, none⟩ = some y ∧ Below w.heap.size w W.drew ∧ b < W.drew.heap.size :=
  ⟨h0, h1, ⟨hB.os, hB.tape, hB.output, hB.size, hB.block⟩, hl⟩
/-- behind a first call: the box of a prefix is as it was -/
theorem boxed_first {w w1 : World} {x y : Value} {T : TypeId} (hb1 : Below (w.alloc (.cells #[x, y] T)).heap.size (w.alloc (.cells #[x, y] T)) w1) :
    w1.cell? ⟨w.heap.size, 0, none⟩ = some x ∧ w1.cell? ⟨w.heap.size, 1, none⟩ = some y ∧ Below w.heap.size w w1 ∧ w.heap.size < w1.heap.size := by
  have hz : w.heap.size < (w.alloc (.cells #[x, y] T)).heap.size := by simp
  have h0 := hb1.cell (p := ⟨w.heap.size, 0, none⟩) hz
  have h1 := hb1.cell (p := ⟨w.heap.size, 1, none⟩) hz
  refine ⟨by rw [h0]; simp, by rw [h1]; simp, ((Below.refl w.heap.size w).alloc (Nat.le_refl _) _).trans (hb1.mono (by simp)), Nat.lt_of_lt_of_le hz hb1.size⟩

theorem right_any (A B : Int) (w : World) : Calls Tryz.prog 48 #[.agg #[.int .u32 A, .int .i64 B]] w fun e w' => e = .returned (.bool (RT B)) ∧ Below w.heap.size w w' := by
  by_cases h0 : 0 ≤ B
  · by_cases h1 : B ≤ 32
    · have e := Lib.hid (show RT B = true by simp [RT]; omega)
      go_enter Tryz.func48, Tryz.ntmps48
      go_wp2
      go_ret
      exact ⟨by rw [e.out]; rfl, (Below.refl _ _).alloc (Nat.le_refl _) _⟩
    · have e := Lib.hid (show RT B = false by simp [RT]; omega)
      go_enter Tryz.func48, Tryz.ntmps48
      go_wp2
      go_ret
      exact ⟨by rw [e.out]; rfl, (Below.refl _ _).alloc (Nat.le_refl _) _⟩
  · have e := Lib.hid (show RT B = false by simp [RT]; omega)
    go_enter Tryz.func48, Tryz.ntmps48
    go_wp2
    go_ret
    exact ⟨by rw [e.out]; rfl, (Below.refl _ _).alloc (Nat.le_refl _) _⟩
theorem right_is (A B : Int) (v : Bool) (h : RT B = v) (w : World) : Calls Tryz.prog 48 #[.agg #[.int .u32 A, .int .i64 B]] w fun e w' => e = .returned (.bool v) ∧ Below w.heap.size w w' := by
  have := right_any A B w
  rw [h] at this
  exact this
theorem free_any (A : Int) (b : Nat) (hb : b ≤ 32) (w : World) : Calls Tryz.prog 122 #[.agg #[.int .u32 A, .int .i64 (b : Int)]] w fun e w' => e = .returned (.int .u32 ((sz b - 1 : Nat) : Int)) ∧ Below w.heap.size w w' := by
  have e := Lib.hid (free_eq b hb)
  go_enter Tryz.func122, Tryz.ntmps122
  go_wp2
  go_ret
  exact ⟨by rw [← e.out]; simp, (Below.refl _ _).alloc (Nat.le_refl _) _⟩
theorem first_no (A B : Int) (hr : RT B = false) (w : World) : Calls Tryz.prog 104 #[.agg #[.int .u32 A, .int .i64 B]] w fun e w' => e = .returned (.int .u32 0) ∧ Below w.heap.size w w' := by
  go_enter Tryz.func104, Tryz.ntmps104
  go_wp2_with (go_at_call 48; refine (right_is A B false hr _).mono ?_; rintro e w1 ⟨rfl, hb1⟩)
  go_ret
  exact ⟨rfl, ((Below.refl _ _).alloc (Nat.le_refl _) _).trans (hb1.mono (by simp))⟩
set_option maxHeartbeats 1000000 in
theorem first_yes (A b : Nat) (hA : A < 4294967296) (hb : b ≤ 32) (w : World) : Calls Tryz.prog 104 #[.agg #[.int .u32 (A : Int), .int .i64 (b : Int)]] w fun e w' => e = .returned (.int .u32 (fsN A b : Nat)) ∧ Below w.heap.size w w' := by
  have hr : RT (b : Int) = true := by rw [RT_iff]; omega
  have hsz := sz_le b
  have hsp := sz_pos b
  have e1 := u32_andNot (A : Int) ((sz b - 1 : Nat) : Int) (by omega) (by omega) (by omega) (by omega)
  have e2 := Lib.hid (show (((A : Int).toNat &&& (4294967295 - ((sz b - 1 : Nat) : Int).toNat) : Nat) : Int) = ((fsN A b : Nat) : Int) by
    have := and_high A (32 - b) hA (by omega)
    rw [show (A : Int).toNat = A by omega, show ((sz b - 1 : Nat) : Int).toNat = sz b - 1 by omega]
    unfold fsN sz
    rw [this])
  rw [e2.out] at e1
  go_enter Tryz.func104, Tryz.ntmps104
  go_wp2_with (go_at_call 48; refine (right_is A b true hr _).mono ?_; rintro e w1 ⟨rfl, hb1⟩; obtain ⟨hc0, hc1, hB1, hl1⟩ := boxed_first hb1)
  go_region_held3 (fun w' => w'.cell? ⟨w.heap.size, 0, none⟩ = some (.int .u32 (A : Int)) ∧ w'.cell? ⟨w.heap.size, 1, none⟩ = some (.int .i64 (b : Int)) ∧ Below w.heap.size w w' ∧ w.heap.size < w'.heap.size) (first | exact boxed_keep (by assumption) (by assumption) | exact boxed_drew hc0 hc1 hB1 hl1)
    (first | (go_at_call 122; refine (free_any A b hb _).mono ?_; rintro e w2 ⟨rfl, hb2⟩))
  all_goals
    go_wp2
    go_ret
    exact ⟨rfl, (boxed_keep (by assumption) (boxed_drew hc0 hc1 hB1 hl1)).2.2.1⟩
theorem last_no (A B : Int) (hr : RT B = false) (w : World) : Calls Tryz.prog 105 #[.agg #[.int .u32 A, .int .i64 B]] w fun e w' => e = .returned (.int .u32 0) ∧ Below w.heap.size w w' := by
  go_enter Tryz.func105, Tryz.ntmps105
  go_wp2_with (go_at_call 48; refine (right_is A B false hr _).mono ?_; rintro e w1 ⟨rfl, hb1⟩)
  go_ret
  exact ⟨rfl, ((Below.refl _ _).alloc (Nat.le_refl _) _).trans (hb1.mono (by simp))⟩
set_option maxHeartbeats 1000000 in
theorem last_yes (A b : Nat) (hA : A < 4294967296) (hb : b ≤ 32) (w : World) : Calls Tryz.prog 105 #[.agg #[.int .u32 (A : Int), .int .i64 (b : Int)]] w fun e w' => e = .returned (.int .u32 (lsN A b : Nat)) ∧ Below w.heap.size w w' := by
  have hr : RT (b : Int) = true := by rw [RT_iff]; omega
  have hsz := sz_le b
  have hsp := sz_pos b
  have e1 := u32_or (A : Int) ((sz b - 1 : Nat) : Int) (by omega) (by omega) (by omega) (by omega)
  have e2 := Lib.hid (show (((A : Int).toNat ||| ((sz b - 1 : Nat) : Int).toNat : Nat) : Int) = ((lsN A b : Nat) : Int) by
    have := or_low A (32 - b)
    rw [show (A : Int).toNat = A by omega, show ((sz b - 1 : Nat) : Int).toNat = sz b - 1 by omega]
    unfold lsN sz
    rw [this])
  rw [e2.out] at e1
  go_enter Tryz.func105, Tryz.ntmps105
  go_wp2_with (go_at_call 48; refine (right_is A b true hr _).mono ?_; rintro e w1 ⟨rfl, hb1⟩; obtain ⟨hc0, hc1, hB1, hl1⟩ := boxed_first hb1)
  go_region_held3 (fun w' => w'.cell? ⟨w.heap.size, 0, none⟩ = some (.int .u32 (A : Int)) ∧ w'.cell? ⟨w.heap.size, 1, none⟩ = some (.int .i64 (b : Int)) ∧ Below w.heap.size w w' ∧ w.heap.size < w'.heap.size) (first | exact boxed_keep (by assumption) (by assumption) | exact boxed_drew hc0 hc1 hB1 hl1)
    (first | (go_at_call 122; refine (free_any A b hb _).mono ?_; rintro e w2 ⟨rfl, hb2⟩))
  all_goals
    go_wp2
    go_ret
    exact ⟨rfl, (boxed_keep (by assumption) (boxed_drew hc0 hc1 hB1 hl1)).2.2.1⟩
theorem boxed_new (w : World) (x y : Value) (T : TypeId) : (w.alloc (.cells #[x, y] T)).drew.cell? ⟨w.heap.size, 0, none⟩ = some x ∧ (w.alloc (.cells #[x, y] T)).drew.cell? ⟨w.heap.size, 1, none⟩ = some y ∧
    Below w.heap.size w (w.alloc (.cells #[x, y] T)).drew ∧ w.heap.size < (w.alloc (.cells #[x, y] T)).drew.heap.size := by
  refine ⟨by simp, by simp, ?_, by simp⟩
  have h := (Below.refl w.heap.size w).alloc (Nat.le_refl _) (.cells #[x, y] T)
  exact ⟨h.os, h.tape, h.output, h.size, h.block⟩
theorem HS_no (A B x : Int) (hr : RT B = false) : HS A B x = false := by simp [HS, hr]
theorem has_bits (A b x : Nat) (hA : A < 4294967296) (hx : x < 4294967296) (hb : b ≤ 32) :
    ∃ y z : Nat, y < 4294967296 ∧ bits .xor .u32 (x : Int) (A : Int) = (y : Int) ∧ bits .andNot .u32 (y : Int) ((sz b - 1 : Nat) : Int) = (z : Int) ∧ ((z : Int) == 0) = HS (A : Int) (b : Int) (x : Int) := by
  have hsz := sz_le b
  have hsp := sz_pos b
  have hy : x ^^^ A < 4294967296 := Nat.xor_lt_two_pow (n := 32) hx hA
  refine ⟨x ^^^ A, (x ^^^ A) &&& (4294967295 - (sz b - 1)), hy, ?_, ?_, ?_⟩
  · have := u32_xor (x : Int) (A : Int) (by omega) (by omega) (by omega) (by omega)
    simpa using this
  · have := u32_andNot ((x ^^^ A : Nat) : Int) ((sz b - 1 : Nat) : Int) (by omega) (by omega) (by omega) (by omega)
    rw [this]
    congr 1
  · have h := xor_high x A (32 - b) hx hA (by omega)
    have hr : RT (b : Int) = true := by rw [RT_iff]; omega
    unfold HS
    rw [hr, Bool.true_and, Bool.eq_iff_iff]
    simp only [beq_iff_eq, decide_eq_true_eq, Int.toNat_natCast]
    unfold sz at h ⊢
    rw [← h]
    omega
end Go.Proofs.YtagbfklcbekceaaGreatDoor

namespace Go.Proofs.YtagbfklcbekceaaGreatDoor
open Go.RowKit

/-! palingref02 -/
end Go.Proofs.YtagbfklcbekceaaGreatDoor
