/- The contract of addr.number: which number a text begins with, and what stands behind it. The contracts of strings.Cut at a separator of one byte, and of strings.CutPrefix at a dot. The contract of addr.Read: which address a text is, or that it is none. The contract of palingref02.number: a number's digits. The contract of palingref02.digits: the number that at most three digits are. The contracts of num.Text and of palingref03.Text: a number's text. The contracts of num.Read and of palingref03.Read: which number a text is, or that it is none. The contracts of rising and Rising. The contracts of num.ReadList and num.ReadAddrs: which numbers, and which addresses, a text is, or that it is none. The contracts of num.Name and of palingref03.Name: which texts are names. The contract of addr.ReadPrefix: which prefix a text is, or that it is none. The contracts of addr's functions on prefixes. The contract of addr.Within, and those of palingref02's functions on prefixes. -/
import Derived.Test.YtnpembgchmmbjaaBase
import Derived.Test.YtnpembgchmmbjaaNumMath
import Derived.Test.YtnpembgchmmbjaaShelf
import Derived.Test.YtnpembgchmmbjaaKeep
import Derived.Test.YtnpembgchmmbjaaSeq
import Derived.WalkMore
import Derived.Lib.AppendIntMem
namespace Go.Proofs.Ytnpembgchmmbjaa
open Go.RowKit

/-- what addr.number answers -/
def numV : Option (Nat × List UInt8) → Value
  | some (n, r) => .tuple #[.int .u32 (n : Int), .string (str r), .bool true]
  | none => .tuple #[.int .u32 0, .string ⟨#[]⟩, .bool false]
theorem isD_sb (s : ByteArray) (k : Nat) : isD (s.data.toList.getD k 0) = true ↔ 48 ≤ sb s k ∧ sb s k ≤ 57 := by
  rw [isD_iff]; unfold sb; omega
theorem notD_sb (s : ByteArray) (k : Nat) (h : ¬ (48 ≤ sb s k ∧ sb s k ≤ 57)) : isD (s.data.toList.getD k 0) = false := by
  cases hx : isD (s.data.toList.getD k 0) with
  | false => rfl
  | true => exact absurd ((isD_sb s k).1 hx) h
end Go.Proofs.Ytnpembgchmmbjaa

namespace Go.Proofs.Ytnpembgchmmbjaa
open Go.RowKit

end Go.Proofs.Ytnpembgchmmbjaa

namespace Go.Proofs.Ytnpembgchmmbjaa
open Go.RowKit

def rdV (l : List UInt8) : Int := ((rdF l).getD 0 : Nat)
def rdB (l : List UInt8) : Bool := (rdF l).isSome
theorem or_u32 (a b : Nat) (h1 : a < 16777216) (h3 : b < 256) : bits .or .u32 ((a : Int) * 256) (b : Int) = ((a * 256 + b : Nat) : Int) := by
  rw [u32_or _ _ (by omega) (by omega) (by omega) (by omega)]
  have : ((a : Int) * 256).toNat ||| ((b : Int)).toNat = a * 256 + b := by
    have e := Nat.two_pow_add_eq_or_of_lt (i := 8) (b := b) (by omega) a
    rw [Nat.mul_comm] at e
    rw [show ((a : Int) * 256).toNat = a * 2 ^ 8 by omega, show ((b : Int)).toNat = b by omega]
    exact e.symm
  rw [this]
theorem rdSt_bd {l : List UInt8} {k a : Nat} {r : List UInt8} (h : rdSt l k = some (a, r)) : a < 256 ^ k ∧ r.length ≤ l.length := by
  induction k generalizing a r with
  | zero =>
    simp only [rdSt, Option.some.injEq, Prod.mk.injEq] at h
    obtain ⟨rfl, rfl⟩ := h
    exact ⟨by simp, Nat.le_refl _⟩
  | succ k ih =>
    simp only [rdSt, Option.bind_eq_some_iff] at h
    obtain ⟨⟨a0, r0⟩, h0, h1⟩ := h
    obtain ⟨i1, i2⟩ := ih h0
    have e : 256 ^ (k + 1) = 256 ^ k * 256 := Nat.pow_succ ..
    by_cases hk : 0 < k
    · obtain ⟨n, g1, g2, _, g4⟩ := (rdStep_next hk).1 h1
      simp only at g2 g4
      refine ⟨by rw [g4, e]; omega, ?_⟩
      have := congrArg List.length g2
      simp at this
      omega
    · obtain rfl : k = 0 := by omega
      obtain ⟨n, g1, g2, _, g4⟩ := rdStep_first.1 h1
      simp only at g2 g4
      refine ⟨by rw [g4, e]; omega, ?_⟩
      have := congrArg List.length g2
      simp at this
      omega
theorem numF_len {m n : Nat} {l r : List UInt8} (h : numF m l = some (n, r)) : n ≤ m := (numF_some h).1
theorem rd_no {l : List UInt8} (h : rdF l = none) : rdV l = 0 ∧ rdB l = false := by unfold rdV rdB; rw [h]; exact ⟨rfl, rfl⟩
theorem rd_yes {l : List UInt8} {a : Nat} (h : rdF l = some a) : rdV l = (a : Int) ∧ rdB l = true := by unfold rdV rdB; rw [h]; exact ⟨rfl, rfl⟩
theorem st_no {l : List UInt8} {k : Nat} {p : Nat × List UInt8} (hk : k < 4) (h : rdSt l k = some p) (hs : rdStep k p = none) : rdV l = 0 ∧ rdB l = false :=
  rd_no (rdF_none (i := k + 1) (by omega) (by simp only [rdSt]; rw [h]; exact hs))
theorem st_yes {l : List UInt8} {k : Nat} {p q : Nat × List UInt8} (h : rdSt l k = some p) (hs : rdStep k p = some q) : rdSt l (k + 1) = some q := by
  simp only [rdSt]; rw [h]; exact hs
theorem rdStep_first_eq (p : Nat × List UInt8) : rdStep 0 p = (numF 255 p.2).map fun q => (p.1 * 256 + q.1, q.2) := by
  unfold rdStep; rw [if_neg (by omega)]
theorem rdStep_dot (k : Nat) (hk : 0 < k) (a : Nat) (r : List UInt8) : rdStep k (a, 46 :: r) = (numF 255 r).map fun q => (a * 256 + q.1, q.2) := by
  unfold rdStep; rw [if_pos hk]; rfl
theorem rdStep_nodot (k : Nat) (hk : 0 < k) (a : Nat) (r : List UInt8) (h : ∀ b, r ≠ 46 :: b) : rdStep k (a, r) = none := by
  unfold rdStep
  rw [if_pos hk]
  split
  · rename_i b hb
    exact absurd hb (h b)
  · rfl
theorem pow24 (k : Nat) (h : k < 4) : 256 ^ k ≤ 16777216 := by
  have : ∀ i : Fin 4, 256 ^ i.val ≤ 16777216 := by decide
  exact this ⟨k, h⟩

end Go.Proofs.Ytnpembgchmmbjaa

namespace Go.Proofs.Ytnpembgchmmbjaa
open Go.RowKit
open Go.Lib (decDigits)

theorem dec_len18 {u : Nat} (h : u < 1000000000000000000) : (decDigits u).length ≤ 18 := dec_len 18 (by omega) h

theorem plus_ofNat (x : Nat) : (48 : UInt8) + UInt8.ofNat x = UInt8.ofNat (48 + x) := by simp
end Go.Proofs.Ytnpembgchmmbjaa

namespace Go.Proofs.Ytnpembgchmmbjaa
open Go.RowKit
open Go.Lib (decDigits)

theorem sb_str (l : List UInt8) (k : Nat) : sb (str l) k = ((l.getD k 0).toNat : Int) := rfl
theorem digF_bad {l : List UInt8} (h : l.length = 0 ∨ 3 < l.length) : digF l = 1000 := by unfold digF; rw [if_pos h]
theorem digF_no {l : List UInt8} {k : Nat} (hk : k < l.length) (h : isD (l.getD k 0) = false) : digF l = 1000 := by
  unfold digF
  split
  · rfl
  · rw [if_neg]
    intro hall
    have := List.all_eq_true.1 hall (l.getD k 0) (by simp [List.getD, List.getElem?_eq_getElem hk])
    rw [h] at this
    cases this
theorem digF_end {l : List UInt8} (h1 : l.length ≠ 0) (h2 : l.length ≤ 3) (hD : ∀ c ∈ l, isD c = true) : digF l = if decDigits (valD l) = l then valD l else 1000 := by
  unfold digF
  rw [if_neg (by omega), if_pos (List.all_eq_true.2 hD)]
theorem valD_lt {l : List UInt8} (hD : ∀ c ∈ l, isD c = true) : valD l < 10 ^ l.length := by
  induction l using snoc_ind with
  | h0 => simp [valD]
  | h1 d c ih =>
    have h1 := ih (fun x hx => hD x (by simp [hx]))
    have h2 := (isD_iff c).1 (hD c (by simp))
    rw [valD_snoc, List.length_append]
    simp only [List.length_cons, List.length_nil]
    have e : 10 ^ (d.length + (0 + 1)) = 10 ^ d.length * 10 := Nat.pow_succ ..
    rw [e]
    omega
end Go.Proofs.Ytnpembgchmmbjaa

namespace Go.Proofs.Ytnpembgchmmbjaa
open Go.RowKit
open Go.Lib (decDigits itoa)

abbrev tabName : String := "internal/strconv.uint64pow10"
/-- what the listed variables hold -/
def Lds (w : World) : Prop := Lib.TabIs Try.prog w tabName .u64 Lib.pow10Tab ∧ ∃ tp p, w.var? Try.prog "strconv.ErrSyntax" = some #[.iface tp p]
theorem var_below {P : Program} {w w' : World} {name : String} {cs : Array Value} (h : w.var? P name = some cs) (hb : Below w.heap.size w w') : w'.var? P name = some cs := by
  unfold World.var? at h ⊢
  cases hg : P.globalNamed name with
  | none => rw [hg] at h; cases h
  | some g =>
    rw [hg] at h
    change (match w.heap[g]? with | some (.cells cs _ _) => some cs | _ => none) = _ at h
    change (match w'.heap[g]? with | some (.cells cs _ _) => some cs | _ => none) = _
    have hlt : g < w.heap.size := by
      rcases Nat.lt_or_ge g w.heap.size with h' | h'
      · exact h'
      · rw [Array.getElem?_eq_none h'] at h; cases h
    rw [hb.block g hlt]
    exact h
theorem Lds.below {w w' : World} (h : Lds w) (hb : Below w.heap.size w w') : Lds w' := by
  obtain ⟨h1, tp, p, h2⟩ := h
  exact ⟨tab_below h1 hb, tp, p, var_below h2 hb⟩

theorem dec_len20 {u : Nat} (h : u < 18446744073709551616) : (decDigits u).length ≤ 20 := dec_len 20 (by omega) (by omega)
end Go.Proofs.Ytnpembgchmmbjaa

namespace Go.Proofs.Ytnpembgchmmbjaa
open Go.RowKit
open Go.Lib (decDigits itoa atoiAll)

def nV (l : List UInt8) (lo hi : Int) : Int := (nF l lo hi).getD 0
def nB (l : List UInt8) (lo hi : Int) : Bool := (nF l lo hi).isSome
theorem n_no {l : List UInt8} {lo hi : Int} (h : nF l lo hi = none) : nV l lo hi = 0 ∧ nB l lo hi = false := by unfold nV nB; rw [h]; exact ⟨rfl, rfl⟩
theorem n_yes {l : List UInt8} {lo hi n : Int} (h : nF l lo hi = some n) : nV l lo hi = n ∧ nB l lo hi = true := by unfold nV nB; rw [h]; exact ⟨rfl, rfl⟩
theorem nF_long {l : List UInt8} {lo hi : Int} (h : 10 < (trimM l).length) : nF l lo hi = none := nF_none_len (.inr h)
theorem nF_bad {l : List UInt8} {lo hi : Int} (h : ∀ n, atoiAll l ≠ .ok n) : nF l lo hi = none := by
  unfold nF
  split
  · rfl
  · cases hx : atoiAll l with
    | ok n => exact absurd hx (h n)
    | _ =>
               rfl
theorem nF_ok {l : List UInt8} {lo hi n : Int} (h : ¬ 10 < (trimM l).length) (ha : atoiAll l = .ok n) : nF l lo hi = if lo ≤ n ∧ n ≤ hi ∧ itoa n = l then some n else none := by
  unfold nF
  rw [if_neg h, ha]
theorem atoi_short_cases (l : List UInt8) (h : l.length ≤ 18) : (∃ n, atoiAll l = .ok n) ∨ atoiAll l = .syntax := by
  rw [Lib.atoiAll_short l h]
  cases hx : Lib.atoi l with
  | some n => exact .inl ⟨n, rfl⟩
  | none => exact .inr rfl
theorem lib_trim (l : List UInt8) : Lib.trimPrefix l [45] = trimM l := by
  unfold Lib.trimPrefix Lib.hasPrefix trimM
  cases l with
  | nil => rfl
  | cons c r =>
    by_cases h : c = 45
    · subst h; simp [List.isPrefixOf]
    · have h2 : ¬ (45 : UInt8) = c := fun e => h e.symm
      simp [List.isPrefixOf, h, h2]
end Go.Proofs.Ytnpembgchmmbjaa

namespace Go.Proofs.Ytnpembgchmmbjaa
open Go.RowKit

set_option maxHeartbeats 1000000 in
theorem rising_any (A : Option Addr) (n c : Nat) (xs : List Int) (w : World) (h : ISl w .i64 A n c xs) :
    Calls Try.prog 73 #[.slice A n c] w fun e w' => e = .returned (.bool (risB xs)) ∧ Drew w w' := by
  have hle := h.le
  have hcap := h.cap
  have H := Lib.hid h
  clear h
  by_cases h1 : n < 1
  · have E := Lib.hid (risB_no xs (.inl (by rw [H.out.len]; exact h1)))
    go_enter Try.func73, Try.ntmps73
    go_wp2
    go_ret
    exact ⟨by rw [E.out]; rfl, Drew.refl _⟩
  by_cases h2 : 16 < n
  · have E := Lib.hid (risB_no xs (.inr (by rw [H.out.len]; exact h2)))
    go_enter Try.func73, Try.ntmps73
    go_wp2
    go_ret
    exact ⟨by rw [E.out]; rfl, Drew.refl _⟩
  obtain ⟨b, off, rfl, hb, hc⟩ := H.out.2.2.2 (by omega)
  have HC := Lib.hid hc
  clear hc
  go_enter Try.func73, Try.ntmps73
  go_wp2
  go_loopw [3] (fun i wr => ∃ k : Nat, 1 ≤ k ∧ k ≤ n ∧ i = .int .i64 (k : Int) ∧ Up xs k ∧ Drew w wr) (fun i _ => n - (intOf i).toNat)
  case atStart => exact ⟨1, by omega, by omega, rfl, Up.one _, Drew.refl _⟩
  case round =>
    obtain ⟨k, hk1, hk, rfl, hup, m, rfl⟩ := hrel
    have U := Lib.hid hup
    clear hup
    by_cases hlt : k < n
    · have c0 : w.cell? ⟨b, off + k, none⟩ = some (.int .i64 (xs.getD k 0)) := HC.out k hlt
      have c1 : w.cell? ⟨b, off + (k - 1), none⟩ = some (.int .i64 (xs.getD (k - 1) 0)) := HC.out (k - 1) (by omega)
      generalize hx : xs.getD k 0 = x at c0
      generalize hy : xs.getD (k - 1) 0 = y at c1
      have HX := Lib.hid hx
      have HY := Lib.hid hy
      clear hx hy
      have d1 : IntKind.i64.wrap ((k : Int) - 1) = (k : Int) - 1 := IntWalk.i64_in _ (by omega)
      have d2 : (0 : Int) ≤ (k : Int) - 1 := by omega
      have d3 : ((k : Int) - 1).toNat = k - 1 := by omega
      have d4 : (k : Int) - 1 < (n : Int) := by omega
      by_cases hle2 : x ≤ y
      · have E := Lib.hid (risB_down (xs := xs) (k := k) (by omega) (by rw [H.out.len]; exact hlt) (by rw [HX.out, HY.out]; exact hle2))
        go_wp2
        go_quiet (fail)
        go_wp2
        go_ret
        exact ⟨by rw [E.out]; rfl, ⟨m + nq, by rw [drewN_add]⟩⟩
      · have E := Lib.hid (U.out.next (by rw [HX.out, HY.out]; omega))
        go_wp2
        go_quiet (fail)
        clear d1 d2 d3 d4
        go_wp2
        go_roundw
        case rel => exact ⟨k + 1, by omega, by omega, by go_num, E.out, ⟨m + nq, rfl⟩⟩
        case measure => simp [intOf]; omega
    · obtain rfl : k = n := by omega
      have E := Lib.hid (show risB xs = true from (risB_iff xs).2 ⟨by rw [H.out.len]; omega, by rw [H.out.len]; omega, by rw [H.out.len]; exact U.out⟩)
      go_wp2
      go_ret
      exact ⟨by rw [E.out]; rfl, ⟨m, rfl⟩⟩
set_option maxHeartbeats 1000000 in
theorem ris_any (A : Option Addr) (n c : Nat) (xs : List Int) (lo hi : Int) (w : World) (h : ISl w .i64 A n c xs) :
    Calls Try.prog 68 #[.slice A n c, .int .i64 lo, .int .i64 hi] w fun e w' => e = .returned (.bool (risIn xs lo hi)) ∧ Drew w w' := by
  have hle := h.le
  have hcap := h.cap
  have H := Lib.hid h
  clear h
  cases hr : risB xs with
  | false =>
    have E := Lib.hid (show risIn xs lo hi = false by simp [risIn, hr])
    have HR := Lib.hid hr
    clear hr
    go_enter Try.func68, Try.ntmps68
    go_wp2_with (go_at_call 73; refine (rising_any _ _ _ _ _ H.out).mono ?_; rintro e w1 ⟨rfl, hd1⟩; rw [HR.out])
    go_ret
    exact ⟨by rw [E.out]; rfl, hd1⟩
  | true =>
    obtain ⟨l1, l2, _⟩ := (risB_iff xs).1 hr
    have hn := H.out.len
    obtain ⟨b, off, rfl, hb, hc⟩ := H.out.2.2.2 (by omega)
    have E := risIn_ends xs lo hi hr
    rw [hn] at E l1
    have c0 : w.cell? ⟨b, off + 0, none⟩ = some (.int .i64 (xs.getD 0 0)) := hc 0 (by omega)
    have c1 : w.cell? ⟨b, off + (n - 1), none⟩ = some (.int .i64 (xs.getD (n - 1) 0)) := hc (n - 1) (by omega)
    generalize xs.getD 0 0 = x at c0 E
    generalize xs.getD (n - 1) 0 = y at c1 E
    rw [Nat.add_zero] at c0
    have HC0 := Lib.hid c0
    have HC1 := Lib.hid c1
    have HR := Lib.hid hr
    have EE := Lib.hid (show risIn xs lo hi = (decide (lo ≤ x) && decide (y ≤ hi)) by rw [← E]; simp [risIn, hr])
    have d3 : ((n : Int) - 1).toNat = n - 1 := by omega
    clear hc c0 c1 hr E hn
    go_enter Try.func68, Try.ntmps68
    by_cases k1 : lo ≤ x
    · have K1 := Lib.hid k1
      by_cases k2 : y ≤ hi
      · go_wp2_with (go_at_call 73; refine (rising_any _ _ _ _ _ H.out).mono ?_; rintro e w1 ⟨rfl, m, rfl⟩; rw [HR.out]; have c0 := HC0.out; have c1 := HC1.out)
        go_ret
        exact ⟨by rw [EE.out]; simp [k1, k2], ⟨m, rfl⟩⟩
      · go_wp2_with (go_at_call 73; refine (rising_any _ _ _ _ _ H.out).mono ?_; rintro e w1 ⟨rfl, m, rfl⟩; rw [HR.out]; have c0 := HC0.out; have c1 := HC1.out)
        go_ret
        exact ⟨by rw [EE.out]; have := K1.out; simp; omega, ⟨m, rfl⟩⟩
    · go_wp2_with (go_at_call 73; refine (rising_any _ _ _ _ _ H.out).mono ?_; rintro e w1 ⟨rfl, m, rfl⟩; rw [HR.out]; have c0 := HC0.out)
      go_ret
      exact ⟨by rw [EE.out]; simp; omega, ⟨m, rfl⟩⟩
end Go.Proofs.Ytnpembgchmmbjaa

namespace Go.Proofs.Ytnpembgchmmbjaa
open Go.RowKit
open Go.Lib (decDigits itoa atoiAll)

theorem own_slice {w : World} {B n : Nat} {e : TypeId} {v : Value} {xs : List Value} (h : w.ownsRow B e 1 v n xs) : ∃ A c, v = .slice A n c ∧ n ≤ c ∧ c ≤ maxLen := by
  rcases h.2 with ⟨rfl, rfl⟩ | ⟨g, cap, cur, rfl, _, _, h1, h2, _⟩
  · exact ⟨_, _, rfl, Nat.le_refl _, Nat.zero_le _⟩
  · exact ⟨_, _, rfl, h1, h2⟩
theorem own_keep {w w' : World} {B n : Nat} {e : TypeId} {v : Value} {xs : List Value} (h : w.ownsRow B e 1 v n xs) (hb : Below w.heap.size w w') : w'.ownsRow B e 1 v n xs :=
  h.kept (row := none) ⟨hb.os, hb.tape, hb.output, hb.size, fun k hk _ => hb.block k hk⟩ (by cases hx : v.ownBlock <;> simp)
theorem splitC_cut (r : List UInt8) : splitC r = if hasC 44 r = true then headC 44 r :: splitC (tailC 44 r) else [r] := by
  induction r with
  | nil => rfl
  | cons c r ih =>
    by_cases hc : c = 44
    · subst hc
      rw [splitC_comma, (headC_same 44 r).1, (headC_same 44 r).2, if_pos (by simp [hasC])]
    · have e1 := (headC_cons 44 c r hc).1
      have e2 := (headC_cons 44 c r hc).2
      have e3 : hasC 44 (c :: r) = hasC 44 r := by simp [hasC, Ne.symm hc]
      rw [e1, e2, e3]
      by_cases hh : hasC 44 r = true
      · rw [if_pos hh] at ih ⊢
        exact splitC_other c r _ _ hc ih
      · rw [if_neg hh] at ih ⊢
        exact splitC_other c r _ _ hc ih
theorem headC_none {r : List UInt8} (h : hasC 44 r = false) : headC 44 r = r ∧ splitC r = [r] := by
  have h2 : (44 : UInt8) ∉ r := by simpa [hasC] using h
  refine ⟨?_, splitC_one r h2⟩
  rcases index_cases r 44 with ⟨_, _, e, _⟩ | ⟨i, _, _, e, _, _⟩
  · exact e
  · exact absurd e h2
theorem tailC_less {r : List UInt8} (h : hasC 44 r = true) : (tailC 44 r).length < r.length := by
  have h2 : (44 : UInt8) ∈ r := by simpa [hasC] using h
  rcases index_cases r 44 with ⟨_, e, _, _⟩ | ⟨i, _, hi, _, _, e⟩
  · exact absurd h2 e
  · rw [e, List.length_drop]; omega
theorem headC_le (r : List UInt8) : (headC 44 r).length ≤ r.length := by
  rcases index_cases r 44 with ⟨_, _, e, _⟩ | ⟨i, _, _, _, e, _⟩
  · rw [e]; exact Nat.le_refl _
  · rw [e, List.length_take]; omega
theorem tailC_le (r : List UInt8) : (tailC 44 r).length ≤ r.length := by
  rcases index_cases r 44 with ⟨_, _, _, e⟩ | ⟨i, _, _, _, _, e⟩
  · rw [e]; simp
  · rw [e, List.length_drop]; omega
/-- how far a list has been read -/
structure RL (rd : List UInt8 → Option Int) (l r : List UInt8) (more : Bool) (xs : List Int) : Prop where
  bd : xs.length ≤ 17
  le : r.length ≤ l.length
  ps : ∃ ps, allRd rd ps = some xs ∧ splitC l = ps ++ (if more = true then splitC r else [])
theorem RL.start (rd : List UInt8 → Option Int) (l : List UInt8) : RL rd l l true [] := ⟨by simp, Nat.le_refl _, [], rfl, by simp⟩
theorem RL.next {rd : List UInt8 → Option Int} {l r : List UInt8} {xs : List Int} {x : Int} (h : RL rd l r true xs) (h16 : xs.length ≤ 16) (hx : rd (headC 44 r) = some x) : RL rd l (tailC 44 r) (hasC 44 r) (xs ++ [x]) := by
  obtain ⟨ps, h1, h2⟩ := h.ps
  rw [if_pos rfl] at h2
  refine ⟨by rw [List.length_append, List.length_singleton]; omega, Nat.le_trans (tailC_le r) h.le, ps ++ [headC 44 r], allRd_snoc h1 hx, ?_⟩
  cases hc : hasC 44 r with
  | true => rw [h2, splitC_cut, if_pos hc, if_pos rfl]; simp
  | false => rw [h2, (headC_none hc).2, (headC_none hc).1, if_neg (by simp)]; simp
theorem RL.bad {rd : List UInt8 → Option Int} {l r : List UInt8} {xs : List Int} (h : RL rd l r true xs) (hx : rd (headC 44 r) = none) : rlF rd l = none := by
  obtain ⟨ps, h1, h2⟩ := h.ps
  rw [if_pos rfl] at h2
  refine rlF_none ?_
  rw [h2]
  cases hc : hasC 44 r with
  | true => rw [splitC_cut, if_pos hc]; exact allRd_no hx
  | false => rw [(headC_none hc).2, ← (headC_none hc).1]; exact allRd_no hx
theorem RL.many {rd : List UInt8 → Option Int} {l r : List UInt8} {m : Bool} {xs : List Int} (h : RL rd l r m xs) (h17 : 16 < xs.length) : rlF rd l = none ∧ risB xs = false := by
  obtain ⟨ps, h1, h2⟩ := h.ps
  refine ⟨rlF_many ?_, risB_no _ (.inr h17)⟩
  rw [h2, List.length_append, ← allRd_len h1]
  omega
theorem RL.done {rd : List UInt8 → Option Int} {l r : List UInt8} {xs : List Int} (h : RL rd l r false xs) : rlF rd l = if risB xs = true then some xs else none := by
  obtain ⟨ps, h1, h2⟩ := h.ps
  rw [if_neg (by simp), List.append_nil] at h2
  unfold rlF
  rw [h2, h1]
def mMore : Value → Value → Nat
  | .string s, .bool true => s.size + 1
  | _, _ => 0
theorem mMore_true (r : List UInt8) : mMore (.string (str r)) (.bool true) = r.length + 1 := by simp [mMore, ByteArray.size]
theorem mMore_false (v : Value) : mMore v (.bool false) = 0 := by cases v <;> rfl

def lsV (rd : List UInt8 → Option Int) (l : List UInt8) : List Int := (rlF rd l).getD []
def lsB (rd : List UInt8 → Option Int) (l : List UInt8) : Bool := (rlF rd l).isSome
theorem ls_no {rd : List UInt8 → Option Int} {l : List UInt8} (h : rlF rd l = none) : lsV rd l = [] ∧ lsB rd l = false := by unfold lsV lsB; rw [h]; exact ⟨rfl, rfl⟩
theorem ls_yes {rd : List UInt8 → Option Int} {l : List UInt8} {xs : List Int} (h : rlF rd l = some xs) : lsV rd l = xs ∧ lsB rd l = true := by unfold lsV lsB; rw [h]; exact ⟨rfl, rfl⟩
theorem own_at {w : World} {B : Nat} {e : TypeId} {A : Option Addr} {n m c : Nat} {xs : List Value} (h : w.ownsRow B e 1 (.slice A m c) n xs) (ad : Addr) (hA : A = some ad) : B ≤ ad.block := by
  rcases h.2 with ⟨hv, _⟩ | ⟨g, cap, cur, hv, hB, _⟩
  · injection hv with h1; rw [hA] at h1; cases h1
  · injection hv with h1; rw [hA] at h1; cases h1; exact hB
/-- a list of the call's own, or nil, and whether there is one, as a call returns them -/
def GotLF (k : IntKind) (xs : List Int) (b : Bool) (w : World) (e : Ending) (w' : World) : Prop :=
  ∃ A n c, e = .returned (.tuple #[.slice A n c, .bool b]) ∧ ISl w' k A n c xs ∧ Below w.heap.size w w' ∧ ∀ ad, A = some ad → w.heap.size ≤ ad.block
theorem GotLF.none_ {k : IntKind} {rd : List UInt8 → Option Int} {l : List UInt8} {w w' : World} {e : Ending} (h : rlF rd l = none) (hb : Below w.heap.size w w') (he : e = .returned (.tuple #[.slice none 0 0, .bool false])) : GotLF k (lsV rd l) (lsB rd l) w e w' := by
  obtain ⟨h1, h2⟩ := ls_no h
  exact ⟨none, 0, 0, by rw [he, h2], by rw [h1]; exact ISl.nil, hb, fun _ h => by cases h⟩
theorem GotLF.some_ {k : IntKind} {rd : List UInt8 → Option Int} {l : List UInt8} {w w' : World} {e : Ending} {xs : List Int} {A : Option Addr} {n c : Nat} (h : rlF rd l = some xs) (hb : Below w.heap.size w w') (hi : ISl w' k A n c xs) (hf : ∀ ad, A = some ad → w.heap.size ≤ ad.block) (he : e = .returned (.tuple #[.slice A n c, .bool true])) : GotLF k (lsV rd l) (lsB rd l) w e w' := by
  obtain ⟨h1, h2⟩ := ls_yes h
  exact ⟨A, n, c, by rw [he, h2], by rw [h1]; exact hi, hb, hf⟩

/-! An item. -/
abbrev rdI (lo hi : Int) (l : List UInt8) : Option Int := nF l lo hi
def rdA (l : List UInt8) : Option Int := (rdF l).map fun n => (n : Int)
theorem rdA_no {l : List UInt8} (h : rdA l = none) : rdV l = 0 ∧ rdB l = false := by
  refine rd_no ?_
  cases hx : rdF l with
  | none => rfl
  | some n => unfold rdA at h; rw [hx] at h; cases h
theorem rdA_yes {l : List UInt8} {x : Int} (h : rdA l = some x) : rdV l = x ∧ rdB l = true := by
  cases hx : rdF l with
  | none => unfold rdA at h; rw [hx] at h; cases h
  | some n =>
    unfold rdA at h
    rw [hx] at h
    have : (n : Int) = x := by simpa using h
    rw [← this]
    exact rd_yes hx
theorem Try.info3 : (Try.prog.info? 3).map (fun i => (i.zero, i.size, i.bytes)) = some (some (.int .i64 0), 1, 8) := by kernel_rfl
theorem Try.info53 : (Try.prog.info? 53).map (fun i => (i.zero, i.size, i.bytes)) = some (some (.int .u32 0), 1, 4) := by kernel_rfl
theorem list_more {k : IntKind} {e : TypeId} {a w2 w3 : World} {xs : List Int} {x : Int} {u v : Value} {o1 : Obj} (hbb : Below a.heap.size a w2)
    (hown2 : w2.ownsRow a.heap.size e 1 u xs.length (xs.map (Value.int k)))
    (hown3 : w3.ownsRow a.heap.size e 1 v (xs.length + 1) (xs.map (Value.int k) ++ [.int k x]))
    (hg : (w2.alloc o1).grownBy w3 u.ownBlock) :
    w3.ownsRow a.heap.size e 1 v (xs ++ [x]).length ((xs ++ [x]).map (Value.int k)) ∧ Below a.heap.size a w3 :=
  ⟨by simpa using hown3, below_app (hbb.alloc hbb.size o1) (hown2.alloc o1) hg⟩

/-- a list and whether there is one, as a call returns them -/
def GotL (k : IntKind) (xs : List Int) (b : Bool) (w : World) (e : Ending) (w' : World) : Prop :=
  ∃ A n c, e = .returned (.tuple #[.slice A n c, .bool b]) ∧ ISl w' k A n c xs ∧ Below w.heap.size w w'
theorem GotLF.got {k : IntKind} {xs : List Int} {b : Bool} {w w' : World} {e : Ending} (h : GotLF k xs b w e w') : GotL k xs b w e w' := by
  obtain ⟨A, n, c, h0, h1, h2, _⟩ := h
  exact ⟨A, n, c, h0, h1, h2⟩
end Go.Proofs.Ytnpembgchmmbjaa

namespace Go.Proofs.Ytnpembgchmmbjaa
open Go.RowKit

def Lc (x : Int) : Prop := 97 ≤ x ∧ x ≤ 122
def Dc (x : Int) : Prop := 48 ≤ x ∧ x ≤ 57
/-- 1 to 12 bytes, the first of which is a letter, and all others are such, or digits -/
def NameOk (s : ByteArray) : Prop := 1 ≤ s.size ∧ s.size ≤ 12 ∧ Lc (sb s 0) ∧ ∀ j, j < s.size → Lc (sb s j) ∨ Dc (sb s j)
theorem ret_bool {a b : Bool} (h : a = b) : Ending.returned (.bool a) = .returned (.bool b) := by rw [h]

end Go.Proofs.Ytnpembgchmmbjaa

namespace Go.Proofs.Ytnpembgchmmbjaa
open Go.RowKit

def pfV (l : List UInt8) : Value := .agg #[.int .u32 (((pfF l).getD (0, 0)).1 : Nat), .int .i64 (((pfF l).getD (0, 0)).2 : Nat)]
def pfB (l : List UInt8) : Bool := (pfF l).isSome
theorem pf_no {l : List UInt8} (h : pfF l = none) : pfV l = .agg #[.int .u32 0, .int .i64 0] ∧ pfB l = false := by unfold pfV pfB; rw [h]; exact ⟨rfl, rfl⟩
theorem pf_yes {l : List UInt8} {a b : Nat} (h : pfF l = some (a, b)) : pfV l = .agg #[.int .u32 (a : Int), .int .i64 (b : Int)] ∧ pfB l = true := by unfold pfV pfB; rw [h]; exact ⟨rfl, rfl⟩
theorem headC_len (c : UInt8) (l : List UInt8) : (headC c l).length ≤ l.length ∧ (tailC c l).length ≤ l.length := by
  rcases index_cases l c with ⟨_, _, h3, h4⟩ | ⟨i, _, _, _, h4, h5⟩
  · rw [h3, h4]; simp
  · rw [h4, h5]; simp; omega
theorem below_alloc_draw (w : World) (o : Obj) (n : Nat) : Below w.heap.size w ((w.alloc o).drewN n) := below_drewN ((Below.refl _ _).alloc (Nat.le_refl _) _) n

end Go.Proofs.Ytnpembgchmmbjaa

namespace Go.Proofs.Ytnpembgchmmbjaa
open Go.RowKit

/-- the two cells of a prefix in a block of the call's own, and what was there is as it was -/
theorem boxed_keep {w W w' : World} {b : Nat} {x y : Value} (hb : Below W.heap.size W w') (h : W.cell? ⟨b, 0, none⟩ = some x ∧ W.cell? ⟨b, 1, none⟩ = some y ∧ Below w.heap.size w W ∧ b < W.heap.size) :
    w'.cell? ⟨b, 0, none⟩ = some x ∧ w'.cell? ⟨b, 1, none⟩ = some y ∧ Below w.heap.size w w' ∧ b < w'.heap.size :=
  ⟨(hb.cell (p := ⟨b, 0, none⟩) h.2.2.2).trans h.1, (hb.cell (p := ⟨b, 1, none⟩) h.2.2.2).trans h.2.1, h.2.2.1.trans (hb.mono h.2.2.1.size), Nat.lt_of_lt_of_le h.2.2.2 hb.size⟩
theorem boxed_drew {w W : World} {b : Nat} {x y : Value} (h0 : W.cell? ⟨b, 0, none⟩ = some x) (h1 : W.cell? ⟨b, 1, none⟩ = some y) (hB : Below w.heap.size w W) (hl : b < W.heap.size) :
    W.drew.cell? ⟨b, 0, none⟩ = some x ∧ W.drew.cell? ⟨b, 1, none⟩ = some y ∧ Below w.heap.size w W.drew ∧ b < W.drew.heap.size :=
  ⟨h0, h1, ⟨hB.os, hB.tape, hB.output, hB.size, hB.block⟩, hl⟩
/-- behind a first call: the box of a prefix is as it was -/
theorem boxed_first {w w1 : World} {x y : Value} {T : TypeId} (hb1 : Below (w.alloc (.cells #[x, y] T)).heap.size (w.alloc (.cells #[x, y] T)) w1) :
    w1.cell? ⟨w.heap.size, 0, none⟩ = some x ∧ w1.cell? ⟨w.heap.size, 1, none⟩ = some y ∧ Below w.heap.size w w1 ∧ w.heap.size < w1.heap.size := by
  have hz : w.heap.size < (w.alloc (.cells #[x, y] T)).heap.size := by simp
  have h0 := hb1.cell (p := ⟨w.heap.size, 0, none⟩) hz
  have h1 := hb1.cell (p := ⟨w.heap.size, 1, none⟩) hz
  refine ⟨by rw [h0]; simp, by rw [h1]; simp, ((Below.refl w.heap.size w).alloc (Nat.le_refl _) _).trans (hb1.mono (by simp)), Nat.lt_of_lt_of_le hz hb1.size⟩

theorem boxed_new (w : World) (x y : Value) (T : TypeId) : (w.alloc (.cells #[x, y] T)).drew.cell? ⟨w.heap.size, 0, none⟩ = some x ∧ (w.alloc (.cells #[x, y] T)).drew.cell? ⟨w.heap.size, 1, none⟩ = some y ∧
    Below w.heap.size w (w.alloc (.cells #[x, y] T)).drew ∧ w.heap.size < (w.alloc (.cells #[x, y] T)).drew.heap.size := by
  refine ⟨by simp, by simp, ?_, by simp⟩
  have h := (Below.refl w.heap.size w).alloc (Nat.le_refl _) (.cells #[x, y] T)
  exact ⟨h.os, h.tape, h.output, h.size, h.block⟩
theorem HS_no (A B x : Int) (hr : RT B = false) : HS A B x = false := by simp [HS, hr]
theorem has_bits (A b x : Nat) (hA : A < 4294967296) (hx : x < 4294967296) (hb : b ≤ 32) :
    ∃ y z : Nat, y < 4294967296 ∧ bits .xor .u32 (x : Int) (A : Int) = (y : Int) ∧ bits .andNot .u32 (y : Int) ((sz b - 1 : Nat) : Int) = (z : Int) ∧ ((z : Int) == 0) = HS (A : Int) (b : Int) (x : Int) := by
  have hsz := sz_le b
  have hsp := sz_pos b
  have hy : x ^^^ A < 4294967296 := Nat.xor_lt_two_pow (n := 32) hx hA
  refine ⟨x ^^^ A, (x ^^^ A) &&& (4294967295 - (sz b - 1)), hy, ?_, ?_, ?_⟩
  · have := u32_xor (x : Int) (A : Int) (by omega) (by omega) (by omega) (by omega)
    simpa using this
  · have := u32_andNot ((x ^^^ A : Nat) : Int) ((sz b - 1 : Nat) : Int) (by omega) (by omega) (by omega) (by omega)
    rw [this]
    congr 1
  · have h := xor_high x A (32 - b) hx hA (by omega)
    have hr : RT (b : Int) = true := by rw [RT_iff]; omega
    unfold HS
    rw [hr, Bool.true_and, Bool.eq_iff_iff]
    simp only [beq_iff_eq, decide_eq_true_eq, Int.toNat_natCast]
    unfold sz at h ⊢
    rw [← h]
    omega
end Go.Proofs.Ytnpembgchmmbjaa

namespace Go.Proofs.Ytnpembgchmmbjaa
open Go.RowKit

/-! palingref02 -/
end Go.Proofs.Ytnpembgchmmbjaa
