/- Rows and words: a text's rows, a row's words, words joined; each taken back. The contracts of palingref10.Word, Texts, Join. The contracts of palingref10.Texts and Join. The contract of palingref10.Rows. The contract of palingref10.Words. -/
import Derived.Test.YtagbfklcbekceaaGreatDoorBase
import Derived.Test.YtagbfklcbekceaaGreatDoorSsl
import Derived.Test.YtagbfklcbekceaaGreatDoorBsl
import Derived.WalkMore
import Derived.Deep.QuietTactic
namespace Go.Proofs.YtagbfklcbekceaaGreatDoor
open Go.RowKit

/-! Words. -/
/-- may a byte stand in a word? -/
def wch (c : UInt8) : Bool := decide (33 ≤ c.toNat) && (decide (c.toNat ≤ 126) && decide (c.toNat ≠ 35))
theorem wch_iff (c : UInt8) : wch c = true ↔ 33 ≤ c.toNat ∧ c.toNat ≤ 126 ∧ c.toNat ≠ 35 := by unfold wch; simp
/-- is a text a word? -/
def wordF (l : List UInt8) : Bool := decide (1 ≤ l.length) && (decide (l.length ≤ 40) && l.all wch)
theorem wordF_iff (l : List UInt8) : wordF l = true ↔ 1 ≤ l.length ∧ l.length ≤ 40 ∧ ∀ c ∈ l, wch c = true := by unfold wordF; simp
theorem wordF_len {l : List UInt8} (h : ¬ (1 ≤ l.length ∧ l.length ≤ 40)) : wordF l = false := by
  cases hx : wordF l with
  | false => rfl
  | true => exact absurd ⟨((wordF_iff l).1 hx).1, ((wordF_iff l).1 hx).2.1⟩ h
theorem wordF_mid {l : List UInt8} (h0 : 1 ≤ l.length) (h1 : l.length ≤ 40) : wordF l = l.all wch := by unfold wordF; simp [h0, h1]
/-- what stands between blanks: the words that are whole, and the one under way -/
def wsStep (s : List (List UInt8) × List UInt8) (c : UInt8) : List (List UInt8) × List UInt8 := if c = 32 ∨ c = 9 then (if s.2 = [] then s.1 else s.1 ++ [s.2], []) else (s.1, s.2 ++ [c])
def wsS (l : List UInt8) : List (List UInt8) × List UInt8 := l.foldl wsStep ([], [])
def wsEnd (s : List (List UInt8) × List UInt8) : List (List UInt8) := if s.2 = [] then s.1 else s.1 ++ [s.2]
/-- a row's stretches without a blank -/
def wsF (l : List UInt8) : List (List UInt8) := wsEnd (wsS l)
theorem wsS_snoc (l : List UInt8) (c : UInt8) : wsS (l ++ [c]) = wsStep (wsS l) c := by simp [wsS]
theorem wsS_blank (l : List UInt8) (c : UInt8) (h : c = 32 ∨ c = 9) : wsS (l ++ [c]) = (wsF l, []) := by rw [wsS_snoc, wsStep, if_pos h]; rfl
theorem wsS_other (l : List UInt8) (c : UInt8) (h : ¬ (c = 32 ∨ c = 9)) : wsS (l ++ [c]) = ((wsS l).1, (wsS l).2 ++ [c]) := by rw [wsS_snoc, wsStep, if_neg h]
theorem wsF_none {l : List UInt8} (h : (wsS l).2 = []) : wsF l = (wsS l).1 := by unfold wsF wsEnd; rw [if_pos h]
theorem wsF_some {l : List UInt8} (h : ¬ (wsS l).2 = []) : wsF l = (wsS l).1 ++ [(wsS l).2] := by unfold wsF wsEnd; rw [if_neg h]
theorem wsS_app (l m : List UInt8) : wsS (l ++ m) = m.foldl wsStep (wsS l) := by simp [wsS]
theorem ws_fold (w : List UInt8) (h : ∀ c ∈ w, wch c = true) : ∀ s, w.foldl wsStep s = (s.1, s.2 ++ w) := by
  induction w with
  | nil => intro s; simp
  | cons c r ih =>
    intro s
    have hc := (wch_iff c).1 (h c (by simp))
    have hn : ¬ (c = 32 ∨ c = 9) := by
      rintro (e | e) <;> subst e <;> simp at hc
    rw [List.foldl_cons, wsStep, if_neg hn, ih (fun d hd => h d (by simp [hd]))]
    simp
/-- no more words than bytes, and no longer ones -/
theorem wsS_len (l : List UInt8) : (wsS l).1.length ≤ l.length ∧ (wsS l).2.length ≤ l.length ∧ (wsF l).length ≤ l.length := by
  have key : ∀ k : List UInt8, (wsS k).1.length + (if (wsS k).2 = [] then 0 else 1) ≤ k.length ∧ (wsS k).2.length ≤ k.length := by
    intro k
    induction h : k.length generalizing k with
    | zero => have : k = [] := List.eq_nil_of_length_eq_zero h; subst this; simp [wsS]
    | succ n ih =>
      obtain ⟨q, c, rfl⟩ : ∃ q c, k = q ++ [c] := ⟨k.dropLast, k.getLast (by intro e; subst e; simp at h), (List.dropLast_concat_getLast _).symm⟩
      have hq : q.length = n := by simp at h; exact h
      obtain ⟨i1, i2⟩ := ih q hq
      by_cases hc : c = 32 ∨ c = 9
      · rw [wsS_blank q c hc]
        unfold wsF wsEnd
        by_cases e : (wsS q).2 = []
        · rw [if_pos e] at i1 ⊢; simp; omega
        · rw [if_neg e] at i1 ⊢; simp; omega
      · rw [wsS_other q c hc]
        refine ⟨?_, by simp; omega⟩
        simp
        by_cases e : (wsS q).2 = []
        · rw [if_pos e] at i1; omega
        · rw [if_neg e] at i1; omega
  obtain ⟨h1, h2⟩ := key l
  refine ⟨by omega, h2, ?_⟩
  unfold wsF wsEnd
  by_cases e : (wsS l).2 = []
  · rw [if_pos e] at h1 ⊢; omega
  · rw [if_neg e] at h1 ⊢; simp; omega
theorem wsS_part (l : List UInt8) : (∀ p ∈ wsF l, p.length ≤ l.length) := by
  have key : ∀ k : List UInt8, (∀ p ∈ (wsS k).1, p.length ≤ k.length) := by
    intro k
    induction h : k.length generalizing k with
    | zero => have : k = [] := List.eq_nil_of_length_eq_zero h; subst this; simp [wsS]
    | succ n ih =>
      obtain ⟨q, c, rfl⟩ : ∃ q c, k = q ++ [c] := ⟨k.dropLast, k.getLast (by intro e; subst e; simp at h), (List.dropLast_concat_getLast _).symm⟩
      have hq : q.length = n := by simp at h; exact h
      have i1 := ih q hq
      have i2 := (wsS_len q).2.1
      by_cases hc : c = 32 ∨ c = 9
      · rw [wsS_blank q c hc]
        intro p hp
        unfold wsF wsEnd at hp
        by_cases e : (wsS q).2 = []
        · rw [if_pos e] at hp
          have := i1 p hp
          omega
        · rw [if_neg e] at hp
          rcases List.mem_append.1 hp with hp | hp
          · have := i1 p hp; omega
          · rw [List.mem_singleton.1 hp]; omega
      · rw [wsS_other q c hc]
        intro p hp
        have := i1 p hp
        omega
  intro p hp
  have h2 := (wsS_len l).2.1
  unfold wsF wsEnd at hp
  by_cases e : (wsS l).2 = []
  · rw [if_pos e] at hp; exact key l p hp
  · rw [if_neg e] at hp
    rcases List.mem_append.1 hp with hp | hp
    · exact key l p hp
    · rw [List.mem_singleton.1 hp]; exact h2
/-- what stands ahead of a remark -/
def ahead (l : List UInt8) : List UInt8 := headC 35 l
/-- why a row's words are not told -/
def wlE (l : List UInt8) : Int := if (wsF (ahead l)).all wordF = true then 0 else 20
theorem wlE_ok {l : List UInt8} (h : (wsF (ahead l)).all wordF = true) : wlE l = 0 := by unfold wlE; rw [if_pos h]
theorem wlE_no {l : List UInt8} (h : (wsF (ahead l)).all wordF = false) : wlE l = 20 := by unfold wlE; rw [h]; rfl

/-! Words joined. -/
def joinF : List (List UInt8) → List UInt8
  | [] => []
  | [w] => w
  | w :: x :: r => w ++ [32] ++ joinF (x :: r)
theorem joinF_snoc : ∀ (ws : List (List UInt8)) (w : List UInt8), joinF (ws ++ [w]) = if ws = [] then w else joinF ws ++ [32] ++ w
  | [], w => rfl
  | [a], w => by simp [joinF]
  | a :: b :: r, w => by
    have ih := joinF_snoc (b :: r) w
    rw [if_neg (by simp)] at ih
    have e : a :: b :: r ++ [w] = a :: b :: (r ++ [w]) := rfl
    have e2 : b :: (r ++ [w]) = b :: r ++ [w] := rfl
    rw [e, joinF, e2, ih, if_neg (by simp), joinF]
    simp
theorem join_words (ws : List (List UInt8)) (h : ∀ w ∈ ws, wordF w = true) : ∀ p, wsS p = ([], []) → wsS (p ++ joinF ws ++ [32]) = (ws, []) := by
  intro p hp
  induction hn : ws.length generalizing ws with
  | zero =>
    have : ws = [] := List.eq_nil_of_length_eq_zero hn
    subst this
    rw [joinF, List.append_nil, wsS_blank _ _ (.inl rfl)]
    unfold wsF
    rw [hp]
    rfl
  | succ n ih =>
    obtain ⟨q, w, rfl⟩ : ∃ q w, ws = q ++ [w] := ⟨ws.dropLast, ws.getLast (by intro e; subst e; simp at hn), (List.dropLast_concat_getLast _).symm⟩
    have hw := (wordF_iff w).1 (h w (by simp))
    have hne : ¬ w = [] := by intro e; subst e; simp at hw
    have iq := ih q (fun x hx => h x (by simp [hx])) (by simpa using hn)
    have key : wsS (p ++ joinF (q ++ [w])) = (q, w) := by
      rw [joinF_snoc]
      by_cases hq : q = []
      · subst hq
        rw [if_pos rfl, wsS_app, hp, ws_fold w hw.2.2]
        simp
      · rw [if_neg hq, ← List.append_assoc, ← List.append_assoc, wsS_app, iq, ws_fold w hw.2.2]
        simp
    rw [wsS_blank _ _ (.inl rfl)]
    unfold wsF wsEnd
    rw [key, if_neg hne]
theorem joinF_len (ws : List (List UInt8)) (h : ∀ w ∈ ws, w.length ≤ 40) : (joinF ws).length ≤ 41 * ws.length := by
  induction hn : ws.length generalizing ws with
  | zero => have : ws = [] := List.eq_nil_of_length_eq_zero hn; subst this; simp [joinF]
  | succ n ih =>
    obtain ⟨q, w, rfl⟩ : ∃ q w, ws = q ++ [w] := ⟨ws.dropLast, ws.getLast (by intro e; subst e; simp at hn), (List.dropLast_concat_getLast _).symm⟩
    have hw := h w (by simp)
    have iq := ih q (fun x hx => h x (by simp [hx])) (by simpa using hn)
    rw [joinF_snoc]
    split
    · omega
    · simp; omega
theorem joinF_mem (ws : List (List UInt8)) (c : UInt8) (hc : c ≠ 32) (h : ∀ w ∈ ws, c ∉ w) : c ∉ joinF ws := by
  induction hn : ws.length generalizing ws with
  | zero => have : ws = [] := List.eq_nil_of_length_eq_zero hn; subst this; simp [joinF]
  | succ n ih =>
    obtain ⟨q, w, rfl⟩ : ∃ q w, ws = q ++ [w] := ⟨ws.dropLast, ws.getLast (by intro e; subst e; simp at hn), (List.dropLast_concat_getLast _).symm⟩
    have hw := h w (by simp)
    have iq := ih q (fun x hx => h x (by simp [hx])) (by simpa using hn)
    rw [joinF_snoc]
    split
    · exact hw
    · simp [iq, hw, hc]
theorem headC_app (c : UInt8) (l m : List UInt8) (h : c ∉ l) : headC c (l ++ c :: m) = l := by
  induction l with
  | nil => exact (headC_same c m).1
  | cons a r ih =>
    rw [List.cons_append, (headC_cons c a _ (fun e => h (by simp [e]))).1, ih (fun e => h (by simp [e]))]
/-- words that are joined, with a remark behind, are told as they were -/
theorem words_back (ws : List (List UInt8)) (k : List UInt8) (h : ∀ w ∈ ws, wordF w = true) : wsF (ahead ([9] ++ joinF ws ++ [32, 35] ++ k)) = ws := by
  have e : [9] ++ joinF ws ++ [32, 35] ++ k = ([9] ++ joinF ws ++ [32]) ++ 35 :: k := by simp
  have hno : (35 : UInt8) ∉ [9] ++ joinF ws ++ [32] := by
    have := joinF_mem ws 35 (by decide) (fun w hw hc => by
      have := (wch_iff 35).1 (((wordF_iff w).1 (h w hw)).2.2 35 hc)
      exact this.2.2 rfl)
    simp [this]
  unfold ahead
  rw [e, headC_app 35 _ _ hno]
  have := join_words ws h [9] rfl
  unfold wsF wsEnd
  rw [this, if_pos rfl]

/-! Rows. -/
def rwStep (s : List (List UInt8) × List UInt8) (c : UInt8) : List (List UInt8) × List UInt8 := if c = 10 then (s.1 ++ [s.2], []) else (s.1, s.2 ++ [c])
def rwS (l : List UInt8) : List (List UInt8) × List UInt8 := l.foldl rwStep ([], [])
/-- a text's rows -/
def rwF (l : List UInt8) : List (List UInt8) := if (rwS l).2 = [] then (rwS l).1 else (rwS l).1 ++ [(rwS l).2]
theorem rwS_snoc (l : List UInt8) (c : UInt8) : rwS (l ++ [c]) = rwStep (rwS l) c := by simp [rwS]
theorem rwS_end (l : List UInt8) : rwS (l ++ [10]) = ((rwS l).1 ++ [(rwS l).2], []) := by rw [rwS_snoc, rwStep, if_pos rfl]
theorem rwS_other (l : List UInt8) (c : UInt8) (h : ¬ c = 10) : rwS (l ++ [c]) = ((rwS l).1, (rwS l).2 ++ [c]) := by rw [rwS_snoc, rwStep, if_neg h]
theorem rwS_rest (l : List UInt8) : ∃ p, l = p ++ (rwS l).2 := by
  induction hn : l.length generalizing l with
  | zero => have : l = [] := List.eq_nil_of_length_eq_zero hn; subst this; exact ⟨[], rfl⟩
  | succ n ih =>
    obtain ⟨q, c, rfl⟩ : ∃ q c, l = q ++ [c] := ⟨l.dropLast, l.getLast (by intro e; subst e; simp at hn), (List.dropLast_concat_getLast _).symm⟩
    obtain ⟨p, hp⟩ := ih q (by simpa using hn)
    by_cases hc : c = 10
    · subst hc
      rw [rwS_end]
      exact ⟨q ++ [10], by simp⟩
    · rw [rwS_other q c hc]
      exact ⟨p, by rw [← List.append_assoc, ← hp]⟩
theorem rwS_drop (l : List UInt8) : l.drop (l.length - (rwS l).2.length) = (rwS l).2 := by
  obtain ⟨p, hp⟩ := rwS_rest l
  have hl : l.length = p.length + (rwS l).2.length := by
    have := congrArg List.length hp
    rwa [List.length_append] at this
  generalize (rwS l).2 = r at *
  rw [hl, Nat.add_sub_cancel, hp, List.drop_left]
theorem rwS_len (l : List UInt8) : (rwS l).1.length + (rwS l).2.length ≤ l.length := by
  induction hn : l.length generalizing l with
  | zero => have : l = [] := List.eq_nil_of_length_eq_zero hn; subst this; simp [rwS]
  | succ n ih =>
    obtain ⟨q, c, rfl⟩ : ∃ q c, l = q ++ [c] := ⟨l.dropLast, l.getLast (by intro e; subst e; simp at hn), (List.dropLast_concat_getLast _).symm⟩
    have i1 := ih q (by simpa using hn)
    by_cases hc : c = 10
    · subst hc
      rw [rwS_end]
      simp
      omega
    · rw [rwS_other q c hc]
      simp
      omega
/-- why a text's rows are not told -/
def rwE (l : List UInt8) : Int := if 20000 < l.length then 3 else if 400 < (rwF l).length then 3 else 0
theorem rwE_big {l : List UInt8} (h : 20000 < l.length) : rwE l = 3 := by unfold rwE; rw [if_pos h]
theorem rwE_many {l : List UInt8} (h : ¬ 20000 < l.length) (g : 400 < (rwF l).length) : rwE l = 3 := by unfold rwE; rw [if_neg h, if_pos g]
theorem rwE_ok {l : List UInt8} (h : ¬ 20000 < l.length) (g : ¬ 400 < (rwF l).length) : rwE l = 0 := by unfold rwE; rw [if_neg h, if_neg g]
/-- rows with a byte 10 behind each -/
def endF : List (List UInt8) → List UInt8
  | [] => []
  | r :: s => r ++ [10] ++ endF s
theorem endF_snoc : ∀ (s : List (List UInt8)) (r : List UInt8), endF (s ++ [r]) = endF s ++ r ++ [10]
  | [], r => by simp [endF]
  | a :: s, r => by simp [endF, endF_snoc s r]
theorem rw_fold (r : List UInt8) (h : (10 : UInt8) ∉ r) : ∀ s, r.foldl rwStep s = (s.1, s.2 ++ r) := by
  induction r with
  | nil => intro s; simp
  | cons c t ih =>
    intro s
    rw [List.foldl_cons, rwStep, if_neg (fun e => h (by simp [e])), ih (fun e => h (by simp [e]))]
    simp
theorem rwS_app (l m : List UInt8) : rwS (l ++ m) = m.foldl rwStep (rwS l) := by simp [rwS]
theorem rwS_back (s : List (List UInt8)) (h : ∀ r ∈ s, (10 : UInt8) ∉ r) : rwS (endF s) = (s, []) := by
  induction hn : s.length generalizing s with
  | zero => have : s = [] := List.eq_nil_of_length_eq_zero hn; subst this; rfl
  | succ n ih =>
    obtain ⟨q, r, rfl⟩ : ∃ q r, s = q ++ [r] := ⟨s.dropLast, s.getLast (by intro e; subst e; simp at hn), (List.dropLast_concat_getLast _).symm⟩
    have iq := ih q (fun x hx => h x (by simp [hx])) (by simpa using hn)
    rw [endF_snoc, rwS_end, rwS_app, iq, rw_fold r (h r (by simp))]
    simp
/-- rows are told as they were -/
theorem rows_back (s : List (List UInt8)) (h : ∀ r ∈ s, (10 : UInt8) ∉ r) : rwF (endF s) = s := by
  unfold rwF
  rw [rwS_back s h, if_pos rfl]
/-- and the last one may lack its byte 10, if it has bytes -/
theorem rows_lack (q : List (List UInt8)) (r : List UInt8) (h : ∀ x ∈ q ++ [r], (10 : UInt8) ∉ x) (hr : ¬ r = []) : rwF ((endF (q ++ [r])).take ((endF (q ++ [r])).length - 1)) = q ++ [r] := by
  have e : (endF (q ++ [r])).take ((endF (q ++ [r])).length - 1) = endF q ++ r := by
    have key : ∀ (x : List UInt8) (c : UInt8), (x ++ [c]).take ((x ++ [c]).length - 1) = x := fun x c => by simp
    rw [endF_snoc]
    exact key _ _
  rw [e]
  have k : rwS (endF q ++ r) = (q, r) := by
    rw [rwS_app, rwS_back q (fun x hx => h x (by simp [hx])), rw_fold r (h r (by simp))]
    simp
  unfold rwF
  rw [k, if_neg hr]
end Go.Proofs.YtagbfklcbekceaaGreatDoor

namespace Go.Proofs.YtagbfklcbekceaaGreatDoor
open Go.RowKit
open Go.Lib (byteCells)

theorem run_index_bat (l : List UInt8) (j : Nat) (hj : j < l.length) (w : World) : (Instr.index 9 (.string (str l)) (.int .i64 j)).run Tryz.prog w = .ok (.int .u8 (bat l j)) w := by
  have := run_index_sb (str l) j j rfl (by rw [str_size]; exact hj) w
  rw [show sb (str l) j = bat l j by simp [sb, bat]] at this
  exact this
theorem all_take (f : UInt8 → Bool) (l : List UInt8) (k : Nat) (h : k < l.length) (g : (l.take k).all f = true) : (l.take (k + 1)).all f = f (l.getD k 0) := by
  rw [List.take_succ_eq_append_getElem h, List.all_append, g]
  simp [List.getD, h]
theorem all_not (f : UInt8 → Bool) (l : List UInt8) (k : Nat) (h : k < l.length) (g : f (l.getD k 0) = false) : l.all f = false := by
  cases hx : l.all f with
  | false => rfl
  | true =>
    rw [List.all_eq_true] at hx
    have := hx l[k] (List.getElem_mem h)
    simp [List.getD, h] at g
    rw [this] at g
    cases g
theorem wch_bat (l : List UInt8) (k : Nat) : wch (l.getD k 0) = true ↔ 33 ≤ bat l k ∧ bat l k ≤ 126 ∧ bat l k ≠ 35 := by
  rw [wch_iff]
  unfold bat
  omega
end Go.Proofs.YtagbfklcbekceaaGreatDoor

namespace Go.Proofs.YtagbfklcbekceaaGreatDoor
open Go.RowKit
open Go.Lib (byteCells)

theorem str_beq (l m : List UInt8) : ((str l).toList == (str m).toList) = (l == m) := by rw [str_toList, str_toList]
theorem texts_take (ps qs : List (List UInt8)) (k : Nat) (h0 : k < ps.length) (h1 : k < qs.length) (g : ps.take k = qs.take k) : (ps.take (k + 1) = qs.take (k + 1)) ↔ ps.getD k [] = qs.getD k [] := by
  have e0 : ps.getD k [] = ps[k] := by simp [List.getD, h0]
  have e1 : qs.getD k [] = qs[k] := by simp [List.getD, h1]
  rw [List.take_succ_eq_append_getElem h0, List.take_succ_eq_append_getElem h1, g, e0, e1]
  exact ⟨fun e => by injection List.append_cancel_left e, fun e => by rw [e]⟩
theorem joinF_take (ps : List (List UInt8)) (k : Nat) (h : k < ps.length) : joinF (ps.take (k + 1)) = if k = 0 then ps.getD k [] else joinF (ps.take k) ++ [32] ++ ps.getD k [] := by
  rw [List.take_succ_eq_append_getElem h, joinF_snoc]
  have e : ps.getD k [] = ps[k] := by simp [List.getD, h]
  rw [e]
  by_cases hk : k = 0
  · subst hk; simp
  · rw [if_neg hk, if_neg (by intro e2; have := congrArg List.length e2; rw [List.length_take, List.length_nil] at this; omega)]
/-- texts joined are no longer than M -/
def Short (M : Nat) (ps : List (List UInt8)) : Prop := ∀ k, (joinF (ps.take k)).length ≤ M
end Go.Proofs.YtagbfklcbekceaaGreatDoor

namespace Go.Proofs.YtagbfklcbekceaaGreatDoor
open Go.RowKit
open Go.Lib (byteCells)

/-- texts and a number, as a call returns them -/
def GotS (w : World) (ps : List (List UInt8)) (E : Int) (e : Ending) (w' : World) : Prop := ∃ A n c, e = .returned (.tuple #[.slice A n c, .int .i64 E]) ∧ SSl w' A n c ps ∧ Below w.heap.size w w'
/-- texts beside no error, else none -/
def os (E : Int) (ps : List (List UInt8)) : List (List UInt8) := if E = 0 then ps else []
theorem os_ok {ps : List (List UInt8)} : os 0 ps = ps := rfl
theorem os_no {E : Int} {ps : List (List UInt8)} (h : ¬ E = 0) : os E ps = [] := by unfold os; rw [if_neg h]
/-- what Rows comes to -/
def GotRows (w : World) (l : List UInt8) : Ending → World → Prop := GotS w (os (rwE l) (rwF l)) (rwE l)
theorem own_texts {w : World} {B n : Nat} {e : TypeId} {v : Value} {ps : List (List UInt8)} (h : w.ownsRow B e 1 v n (txts ps)) : ∃ A c, v = .slice A n c ∧ SSl w A n c ps := by
  obtain ⟨A, c, rfl⟩ := own_shape h
  exact ⟨A, c, rfl, SSl.of_own h⟩
theorem rwS_take (l : List UInt8) (k : Nat) (h : k < l.length) : l.take (k + 1) = l.take k ++ [l.getD k 0] := by
  rw [List.take_succ_eq_append_getElem h]
  simp [List.getD, h]
theorem rest_sub (l : List UInt8) (k f : Nat) (h : k ≤ l.length) (hf : f + (rwS (l.take k)).2.length = k) : (l.drop f).take (k - f) = (rwS (l.take k)).2 := by
  have := rwS_drop (l.take k)
  rw [List.length_take, Nat.min_eq_left h, show k - (rwS (l.take k)).2.length = f by omega] at this
  rw [← this, List.drop_take]
theorem bat_ten (l : List UInt8) (k : Nat) : (bat l k = 10) ↔ l.getD k 0 = 10 := by
  unfold bat
  constructor
  · intro h
    exact UInt8.toNat_inj.1 (by show (l.getD k 0).toNat = 10; omega)
  · intro h
    rw [h]
    rfl

end Go.Proofs.YtagbfklcbekceaaGreatDoor

namespace Go.Proofs.YtagbfklcbekceaaGreatDoor
open Go.RowKit
open Go.Lib (byteCells)

theorem ahead_spec (l : List UInt8) : (ahead l).length ≤ l.length ∧ ahead l = l.take (ahead l).length ∧ (∀ j, j < (ahead l).length → l.getD j 0 ≠ 35) ∧ ((ahead l).length < l.length → l.getD (ahead l).length 0 = 35) := by
  unfold ahead
  induction l with
  | nil => exact ⟨by simp [headC], by simp [headC], fun j hj => by simp [headC] at hj, fun h => by simp [headC] at h⟩
  | cons a r ih =>
    by_cases ha : a = 35
    · subst ha
      rw [(headC_same 35 r).1]
      exact ⟨by simp, by simp, fun j hj => by simp at hj, fun _ => rfl⟩
    · rw [(headC_cons 35 a r ha).1]
      obtain ⟨h1, h2, h3, h4⟩ := ih
      refine ⟨by simp; omega, by rw [List.length_cons, List.take_succ_cons, ← h2], fun j hj => ?_, fun hj => ?_⟩
      · match j with
        | 0 => exact ha
        | j + 1 => exact h3 j (by simp at hj; omega)
      · exact h4 (by simp at hj; omega)
/-- a byte is a number just if the bytes are alike -/
theorem bat_byte (l : List UInt8) (k : Nat) (c : UInt8) : (bat l k = (c.toNat : Int)) ↔ l.getD k 0 = c := by
  unfold bat
  constructor
  · intro h
    exact UInt8.toNat_inj.1 (by omega)
  · intro h
    rw [h]
theorem wsS_take (l : List UInt8) (k : Nat) (h : k < l.length) : wsS (l.take (k + 1)) = wsStep (wsS (l.take k)) (l.getD k 0) := by rw [rwS_take l k h, wsS_snoc]
/-- what Words comes to -/
def GotWords (w : World) (l : List UInt8) : Ending → World → Prop := GotS w (os (wlE l) (wsF (ahead l))) (wlE l)
/-- what the loop over a row keeps -/
def WdInv (w : World) (l : List UInt8) (vr vo vw vi : Value) (wr : World) : Prop :=
  ∃ k : Nat, vi = .int .i64 k ∧ Below w.heap.size w wr ∧
    ((k ≤ (ahead l).length ∧ vr = .string (str l) ∧ vw = .string (str (wsS (l.take k)).2) ∧ wr.ownsRow w.heap.size 9 1 vo (wsS (l.take k)).1.length (txts (wsS (l.take k)).1)) ∨
     (k = (ahead l).length + 1 ∧ vr = .string (str (ahead l)) ∧ vw = .string ⟨#[]⟩ ∧ wr.ownsRow w.heap.size 9 1 vo (wsF (ahead l)).length (txts (wsF (ahead l)))))

theorem rwS_part (l : List UInt8) : (∀ p ∈ rwF l, p.length ≤ l.length) := by
  have key : ∀ k : List UInt8, (∀ p ∈ (rwS k).1, p.length ≤ k.length) := by
    intro k
    induction h : k.length generalizing k with
    | zero => have : k = [] := List.eq_nil_of_length_eq_zero h; subst this; simp [rwS]
    | succ n ih =>
      obtain ⟨q, c, rfl⟩ : ∃ q c, k = q ++ [c] := ⟨k.dropLast, k.getLast (by intro e; subst e; simp at h), (List.dropLast_concat_getLast _).symm⟩
      have hq : q.length = n := by simp at h; exact h
      have i1 := ih q hq
      have i2 := rwS_len q
      by_cases hc : c = 10
      · subst hc
        rw [rwS_end]
        intro p hp
        rcases List.mem_append.1 hp with hp | hp
        · have := i1 p hp; omega
        · rw [List.mem_singleton.1 hp]; omega
      · rw [rwS_other q c hc]
        intro p hp
        have := i1 p hp
        omega
  intro p hp
  have h2 := rwS_len l
  unfold rwF at hp
  by_cases e : (rwS l).2 = []
  · rw [if_pos e] at hp; exact key l p hp
  · rw [if_neg e] at hp
    rcases List.mem_append.1 hp with hp | hp
    · exact key l p hp
    · rw [List.mem_singleton.1 hp]; omega
theorem rwE_zero {l : List UInt8} (h : rwE l = 0) : l.length ≤ 20000 ∧ (rwF l).length ≤ 400 := by
  unfold rwE at h
  by_cases g : 20000 < l.length
  · rw [if_pos g] at h; cases h
  · rw [if_neg g] at h
    by_cases g2 : 400 < (rwF l).length
    · rw [if_pos g2] at h; cases h
    · exact ⟨by omega, by omega⟩
end Go.Proofs.YtagbfklcbekceaaGreatDoor
