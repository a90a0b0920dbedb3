/- Rows and words: a text's rows, a row's words, words joined; each taken back. The contracts of palingref10.Word, Texts, Join. The contracts of palingref10.Texts and Join. The contract of palingref10.Rows. The contract of palingref10.Words. -/
import Derived.Test.YtkfhjmoocnhekaaBase
import Derived.Test.YtkfhjmoocnhekaaSsl
import Derived.Test.YtkfhjmoocnhekaaBsl
import Derived.WalkMore
import Derived.Deep.QuietTactic
namespace Go.Proofs.Ytkfhjmoocnhekaa
open Go.RowKit

/-! Words. -/
/-- may a byte stand in a word? -/
def wch (c : UInt8) : Bool := decide (33 ≤ c.toNat) && (decide (c.toNat ≤ 126) && decide (c.toNat ≠ 35))
theorem wch_iff (c : UInt8) : wch c = true ↔ 33 ≤ c.toNat ∧ c.toNat ≤ 126 ∧ c.toNat ≠ 35 := by unfold wch; simp
/-- is a text a word? -/
def wordF (l : List UInt8) : Bool := decide (1 ≤ l.length) && (decide (l.length ≤ 40) && l.all wch)
theorem wordF_iff (l : List UInt8) : wordF l = true ↔ 1 ≤ l.length ∧ l.length ≤ 40 ∧ ∀ c ∈ l, wch c = true := by unfold wordF; simp
theorem wordF_len {l : List UInt8} (h : ¬ (1 ≤ l.length ∧ l.length ≤ 40)) : wordF l = false := by
  cases hx : wordF l with
  | false => rfl
  | true => exact absurd ⟨((wordF_iff l).1 hx).1, ((wordF_iff l).1 hx).2.1⟩ h
theorem wordF_mid {l : List UInt8} (h0 : 1 ≤ l.length) (h1 : l.length ≤ 40) : wordF l = l.all wch := by unfold wordF; simp [h0, h1]
/-- what stands between blanks: the words that are whole, and the one under way -/
def wsStep (s : List (List UInt8) × List UInt8) (c : UInt8) : List (List UInt8) × List UInt8 := if c = 32 ∨ c = 9 then (if s.2 = [] then s.1 else s.1 ++ [s.2], []) else (s.1, s.2 ++ [c])
def wsS (l : List UInt8) : List (List UInt8) × List UInt8 := l.foldl wsStep ([], [])
def wsEnd (s : List (List UInt8) × List UInt8) : List (List UInt8) := if s.2 = [] then s.1 else s.1 ++ [s.2]
/-- a row's stretches without a blank -/
def wsF (l : List UInt8) : List (List UInt8) := wsEnd (wsS l)
theorem wsS_snoc (l : List UInt8) (c : UInt8) : wsS (l ++ [c]) = wsStep (wsS l) c := by simp [wsS]
theorem wsS_blank (l : List UInt8) (c : UInt8) (h : c = 32 ∨ c = 9) : wsS (l ++ [c]) = (wsF l, []) := by rw [wsS_snoc, wsStep, if_pos h]; rfl
theorem wsS_other (l : List UInt8) (c : UInt8) (h : ¬ (c = 32 ∨ c = 9)) : wsS (l ++ [c]) = ((wsS l).1, (wsS l).2 ++ [c]) := by rw [wsS_snoc, wsStep, if_neg h]
theorem wsF_none {l : List UInt8} (h : (wsS l).2 = []) : wsF l = (wsS l).1 := by unfold wsF wsEnd; rw [if_pos h]
theorem wsF_some {l : List UInt8} (h : ¬ (wsS l).2 = []) : wsF l = (wsS l).1 ++ [(wsS l).2] := by unfold wsF wsEnd; rw [if_neg h]
theorem wsS_app (l m : List UInt8) : wsS (l ++ m) = m.foldl wsStep (wsS l) := by simp [wsS]
theorem ws_fold (w : List UInt8) (h : ∀ c ∈ w, wch c = true) : ∀ s, w.foldl wsStep s = (s.1, s.2 ++ w) := by
  induction w with
  | nil => intro s; simp
  | cons c r ih =>
    intro s
    have hc := (wch_iff c).1 (h c (by simp))
    have hn : ¬ (c = 32 ∨ c = 9) := by
      rintro (e | e) <;> subst e <;> simp at hc
    rw [List.foldl_cons, wsStep, if_neg hn, ih (fun d hd => h d (by simp [hd]))]
    simp
/-- no more words than bytes, and no longer ones -/
theorem wsS_len (l : List UInt8) : (wsS l).1.length ≤ l.length ∧ (wsS l).2.length ≤ l.length ∧ (wsF l).length ≤ l.length := by
  have key : ∀ k : List UInt8, (wsS k).1.length + (if (wsS k).2 = [] then 0 else 1) ≤ k.length ∧ (wsS k).2.length ≤ k.length := by
    intro k
    induction h : k.length generalizing k with
    | zero => have : k = [] := List.eq_nil_of_length_eq_zero h; subst this; simp [wsS]
    | succ n ih =>
      obtain ⟨q, c, rfl⟩ : ∃ q c, k = q ++ [c] := ⟨k.dropLast, k.getLast (by intro e; subst e; simp at h), (List.dropLast_concat_getLast _).symm⟩
      have hq : q.length = n := by simp at h; exact h
      obtain ⟨i1, i2⟩ := ih q hq
      by_cases hc : c = 32 ∨ c = 9
      · rw [wsS_blank q c hc]
        unfold wsF wsEnd
        by_cases e : (wsS q).2 = []
        · rw [if_pos e] at i1 ⊢; simp; omega
        · rw [if_neg e] at i1 ⊢; simp; omega
      · rw [wsS_other q c hc]
        refine ⟨?_, by simp; omega⟩
        simp
        by_cases e : (wsS q).2 = []
        · rw [if_pos e] at i1; omega
        · rw [if_neg e] at i1; omega
  obtain ⟨h1, h2⟩ := key l
  refine ⟨by omega, h2, ?_⟩
  unfold wsF wsEnd
  by_cases e : (wsS l).2 = []
  · rw [if_pos e] at h1 ⊢; omega
  · rw [if_neg e] at h1 ⊢; simp; omega
theorem wsS_part (l : List UInt8) : (∀ p ∈ wsF l, p.length ≤ l.length) := by
  have key : ∀ k : List UInt8, (∀ p ∈ (wsS k).1, p.length ≤ k.length) := by
    intro k
    induction h : k.length generalizing k with
    | zero => have : k = [] := List.eq_nil_of_length_eq_zero h; subst this; simp [wsS]
    | succ n ih =>
      obtain ⟨q, c, rfl⟩ : ∃ q c, k = q ++ [c] := ⟨k.dropLast, k.getLast (by intro e; subst e; simp at h), (List.dropLast_concat_getLast _).symm⟩
      have hq : q.length = n := by simp at h; exact h
      have i1 := ih q hq
      have i2 := (wsS_len q).2.1
      by_cases hc : c = 32 ∨ c = 9
      · rw [wsS_blank q c hc]
        intro p hp
        unfold wsF wsEnd at hp
        by_cases e : (wsS q).2 = []
        · rw [if_pos e] at hp
          have := i1 p hp
          omega
        · rw [if_neg e] at hp
          rcases List.mem_append.1 hp with hp | hp
          · have := i1 p hp; omega
          · rw [List.mem_singleton.1 hp]; omega
      · rw [wsS_other q c hc]
        intro p hp
        have := i1 p hp
        omega
  intro p hp
  have h2 := (wsS_len l).2.1
  unfold wsF wsEnd at hp
  by_cases e : (wsS l).2 = []
  · rw [if_pos e] at hp; exact key l p hp
  · rw [if_neg e] at hp
    rcases List.mem_append.1 hp with hp | hp
    · exact key l p hp
    · rw [List.mem_singleton.1 hp]; exact h2
/-- what stands ahead of a remark -/
def ahead (l : List UInt8) : List UInt8 := headC 35 l
/-- why a row's words are not told -/
def wlE (l : List UInt8) : Int := if (wsF (ahead l)).all wordF = true then 0 else 20
theorem wlE_ok {l : List UInt8} (h : (wsF (ahead l)).all wordF = true) : wlE l = 0 := by unfold wlE; rw [if_pos h]
theorem wlE_no {l : List UInt8} (h : (wsF (ahead l)).all wordF = false) : wlE l = 20 := by unfold wlE; rw [h]; rfl

/-! Words joined. -/
def joinF : List (List UInt8) → List UInt8
  | [] => []
  | [w] => w
  | w :: x :: r => w ++ [32] ++ joinF (x :: r)
theorem joinF_snoc : ∀ (ws : List (List UInt8)) (w : List UInt8), joinF (ws ++ [w]) = if ws = [] then w else joinF ws ++ [32] ++ w
  | [], w => rfl
  | [a], w => by simp [joinF]
  | a :: b :: r, w => by
    have ih := joinF_snoc (b :: r) w
    rw [if_neg (by simp)] at ih
    have e : a :: b :: r ++ [w] = a :: b :: (r ++ [w]) := rfl
    have e2 : b :: (r ++ [w]) = b :: r ++ [w] := rfl
    rw [e, joinF, e2, ih, if_neg (by simp), joinF]
    simp
theorem join_words (ws : List (List UInt8)) (h : ∀ w ∈ ws, wordF w = true) : ∀ p, wsS p = ([], []) → wsS (p ++ joinF ws ++ [32]) = (ws, []) := by
  intro p hp
  induction hn : ws.length generalizing ws with
  | zero =>
    have : ws = [] := List.eq_nil_of_length_eq_zero hn
    subst this
    rw [joinF, List.append_nil, wsS_blank _ _ (.inl rfl)]
    unfold wsF
    rw [hp]
    rfl
  | succ n ih =>
    obtain ⟨q, w, rfl⟩ : ∃ q w, ws = q ++ [w] := ⟨ws.dropLast, ws.getLast (by intro e; subst e; simp at hn), (List.dropLast_concat_getLast _).symm⟩
    have hw := (wordF_iff w).1 (h w (by simp))
    have hne : ¬ w = [] := by intro e; subst e; simp at hw
    have iq := ih q (fun x hx => h x (by simp [hx])) (by simpa using hn)
    have key : wsS (p ++ joinF (q ++ [w])) = (q, w) := by
      rw [joinF_snoc]
      by_cases hq : q = []
      · subst hq
        rw [if_pos rfl, wsS_app, hp, ws_fold w hw.2.2]
        simp
      · rw [if_neg hq, ← List.append_assoc, ← List.append_assoc, wsS_app, iq, ws_fold w hw.2.2]
        simp
    rw [wsS_blank _ _ (.inl rfl)]
    unfold wsF wsEnd
    rw [key, if_neg hne]
theorem joinF_len (ws : List (List UInt8)) (h : ∀ w ∈ ws, w.length ≤ 40) : (joinF ws).length ≤ 41 * ws.length := by
  induction hn : ws.length generalizing ws with
  | zero => have : ws = [] := List.eq_nil_of_length_eq_zero hn; subst this; simp [joinF]
  | succ n ih =>
    obtain ⟨q, w, rfl⟩ : ∃ q w, ws = q ++ [w] := ⟨ws.dropLast, ws.getLast (by intro e; subst e; simp at hn), (List.dropLast_concat_getLast _).symm⟩
    have hw := h w (by simp)
    have iq := ih q (fun x hx => h x (by simp [hx])) (by simpa using hn)
    rw [joinF_snoc]
    split
    · omega
    · simp; omega
theorem joinF_mem (ws : List (List UInt8)) (c : UInt8) (hc : c ≠ 32) (h : ∀ w ∈ ws, c ∉ w) : c ∉ joinF ws := by
  induction hn : ws.length generalizing ws with
  | zero => have : ws = [] := List.eq_nil_of_length_eq_zero hn; subst this; simp [joinF]
  | succ n ih =>
    obtain ⟨q, w, rfl⟩ : ∃ q w, ws = q ++ [w] := ⟨ws.dropLast, ws.getLast (by intro e; subst e; simp at hn), (List.dropLast_concat_getLast _).symm⟩
    have hw := h w (by simp)
    have iq := ih q (fun x hx => h x (by simp [hx])) (by simpa using hn)
    rw [joinF_snoc]
    split
    · exact hw
    · simp [iq, hw, hc]
theorem headC_app (c : UInt8) (l m : List UInt8) (h : c ∉ l) : headC c (l ++ c :: m) = l := by
  induction l with
  | nil => exact (headC_same c m).1
  | cons a r ih =>
    rw [List.cons_append, (headC_cons c a _ (fun e => h (by simp [e]))).1, ih (fun e => h (by simp [e]))]
/-- words that are joined, with a remark behind, are told as they were -/
theorem words_back (ws : List (List UInt8)) (k : List UInt8) (h : ∀ w ∈ ws, wordF w = true) : wsF (ahead ([9] ++ joinF ws ++ [32, 35] ++ k)) = ws := by
  have e : [9] ++ joinF ws ++ [32, 35] ++ k = ([9] ++ joinF ws ++ [32]) ++ 35 :: k := by simp
  have hno : (35 : UInt8) ∉ [9] ++ joinF ws ++ [32] := by
    have := joinF_mem ws 35 (by decide) (fun w hw hc => by
      have := (wch_iff 35).1 (((wordF_iff w).1 (h w hw)).2.2 35 hc)
      exact this.2.2 rfl)
    simp [this]
  unfold ahead
  rw [e, headC_app 35 _ _ hno]
  have := join_words ws h [9] rfl
  unfold wsF wsEnd
  rw [this, if_pos rfl]

/-! Rows. -/
def rwStep (s : List (List UInt8) × List UInt8) (c : UInt8) : List (List UInt8) × List UInt8 := if c = 10 then (s.1 ++ [s.2], []) else (s.1, s.2 ++ [c])
def rwS (l : List UInt8) : List (List UInt8) × List UInt8 := l.foldl rwStep ([], [])
/-- a text's rows -/
def rwF (l : List UInt8) : List (List UInt8) := if (rwS l).2 = [] then (rwS l).1 else (rwS l).1 ++ [(rwS l).2]
theorem rwS_snoc (l : List UInt8) (c : UInt8) : rwS (l ++ [c]) = rwStep (rwS l) c := by simp [rwS]
theorem rwS_end (l : List UInt8) : rwS (l ++ [10]) = ((rwS l).1 ++ [(rwS l).2], []) := by rw [rwS_snoc, rwStep, if_pos rfl]
theorem rwS_other (l : List UInt8) (c : UInt8) (h : ¬ c = 10) : rwS (l ++ [c]) = ((rwS l).1, (rwS l).2 ++ [c]) := by rw [rwS_snoc, rwStep, if_neg h]
theorem rwS_rest (l : List UInt8) : ∃ p, l = p ++ (rwS l).2 := by
  induction hn : l.length generalizing l with
  | zero => have : l = [] := List.eq_nil_of_length_eq_zero hn; subst this; exact ⟨[], rfl⟩
  | succ n ih =>
    obtain ⟨q, c, rfl⟩ : ∃ q c, l = q ++ [c] := ⟨l.dropLast, l.getLast (by intro e; subst e; simp at hn), (List.dropLast_concat_getLast _).symm⟩
    obtain ⟨p, hp⟩ := ih q (by simpa using hn)
    by_cases hc : c = 10
    · subst hc
      rw [rwS_end]
      exact ⟨q ++ [10], by simp⟩
    · rw [rwS_other q c hc]
      exact ⟨p, by rw [← List.append_assoc, ← hp]⟩
theorem rwS_drop (l : List UInt8) : l.drop (l.length - (rwS l).2.length) = (rwS l).2 := by
  obtain ⟨p, hp⟩ := rwS_rest l
  have hl : l.length = p.length + (rwS l).2.length := by
    have := congrArg List.length hp
    rwa [List.length_append] at this
  generalize (rwS l).2 = r at *
  rw [hl, Nat.add_sub_cancel, hp, List.drop_left]
theorem rwS_len (l : List UInt8) : (rwS l).1.length + (rwS l).2.length ≤ l.length := by
  induction hn : l.length generalizing l with
  | zero => have : l = [] := List.eq_nil_of_length_eq_zero hn; subst this; simp [rwS]
  | succ n ih =>
    obtain ⟨q, c, rfl⟩ : ∃ q c, l = q ++ [c] := ⟨l.dropLast, l.getLast (by intro e; subst e; simp at hn), (List.dropLast_concat_getLast _).symm⟩
    have i1 := ih q (by simpa using hn)
    by_cases hc : c = 10
    · subst hc
      rw [rwS_end]
      simp
      omega
    · rw [rwS_other q c hc]
      simp
      omega
/-- why a text's rows are not told -/
def rwE (l : List UInt8) : Int := if 20000 < l.length then 3 else if 400 < (rwF l).length then 3 else 0
theorem rwE_big {l : List UInt8} (h : 20000 < l.length) : rwE l = 3 := by unfold rwE; rw [if_pos h]
theorem rwE_many {l : List UInt8} (h : ¬ 20000 < l.length) (g : 400 < (rwF l).length) : rwE l = 3 := by unfold rwE; rw [if_neg h, if_pos g]
theorem rwE_ok {l : List UInt8} (h : ¬ 20000 < l.length) (g : ¬ 400 < (rwF l).length) : rwE l = 0 := by unfold rwE; rw [if_neg h, if_neg g]
/-- rows with a byte 10 behind each -/
def endF : List (List UInt8) → List UInt8
  | [] => []
  | r :: s => r ++ [10] ++ endF s
theorem endF_snoc : ∀ (s : List (List UInt8)) (r : List UInt8), endF (s ++ [r]) = endF s ++ r ++ [10]
  | [], r => by simp [endF]
  | a :: s, r => by simp [endF, endF_snoc s r]
theorem rw_fold (r : List UInt8) (h : (10 : UInt8) ∉ r) : ∀ s, r.foldl rwStep s = (s.1, s.2 ++ r) := by
  induction r with
  | nil => intro s; simp
  | cons c t ih =>
    intro s
    rw [List.foldl_cons, rwStep, if_neg (fun e => h (by simp [e])), ih (fun e => h (by simp [e]))]
    simp
theorem rwS_app (l m : List UInt8) : rwS (l ++ m) = m.foldl rwStep (rwS l) := by simp [rwS]
theorem rwS_back (s : List (List UInt8)) (h : ∀ r ∈ s, (10 : UInt8) ∉ r) : rwS (endF s) = (s, []) := by
  induction hn : s.length generalizing s with
  | zero => have : s = [] := List.eq_nil_of_length_eq_zero hn; subst this; rfl
  | succ n ih =>
    obtain ⟨q, r, rfl⟩ : ∃ q r, s = q ++ [r] := ⟨s.dropLast, s.getLast (by intro e; subst e; simp at hn), (List.dropLast_concat_getLast _).symm⟩
    have iq := ih q (fun x hx => h x (by simp [hx])) (by simpa using hn)
    rw [endF_snoc, rwS_end, rwS_app, iq, rw_fold r (h r (by simp))]
    simp
/-- rows are told as they were -/
theorem rows_back (s : List (List UInt8)) (h : ∀ r ∈ s, (10 : UInt8) ∉ r) : rwF (endF s) = s := by
  unfold rwF
  rw [rwS_back s h, if_pos rfl]
/-- and the last one may lack its byte 10, if it has bytes -/
theorem rows_lack (q : List (List UInt8)) (r : List UInt8) (h : ∀ x ∈ q ++ [r], (10 : UInt8) ∉ x) (hr : ¬ r = []) : rwF ((endF (q ++ [r])).take ((endF (q ++ [r])).length - 1)) = q ++ [r] := by
  have e : (endF (q ++ [r])).take ((endF (q ++ [r])).length - 1) = endF q ++ r := by
    have key : ∀ (x : List UInt8) (c : UInt8), (x ++ [c]).take ((x ++ [c]).length - 1) = x := fun x c => by simp
    rw [endF_snoc]
    exact key _ _
  rw [e]
  have k : rwS (endF q ++ r) = (q, r) := by
    rw [rwS_app, rwS_back q (fun x hx => h x (by simp [hx])), rw_fold r (h r (by simp))]
    simp
  unfold rwF
  rw [k, if_neg hr]
end Go.Proofs.Ytkfhjmoocnhekaa

namespace Go.Proofs.Ytkfhjmoocnhekaa
open Go.RowKit
open Go.Lib (byteCells)

theorem run_index_bat (l : List UInt8) (j : Nat) (hj : j < l.length) (w : World) : (Instr.index 9 (.string (str l)) (.int .i64 j)).run Try.prog w = .ok (.int .u8 (bat l j)) w := by
  have := run_index_sb (str l) j j rfl (by rw [str_size]; exact hj) w
  rw [show sb (str l) j = bat l j by simp [sb, bat]] at this
  exact this
theorem all_take (f : UInt8 → Bool) (l : List UInt8) (k : Nat) (h : k < l.length) (g : (l.take k).all f = true) : (l.take (k + 1)).all f = f (l.getD k 0) := by
  rw [List.take_succ_eq_append_getElem h, List.all_append, g]
  simp [List.getD, h]
theorem all_not (f : UInt8 → Bool) (l : List UInt8) (k : Nat) (h : k < l.length) (g : f (l.getD k 0) = false) : l.all f = false := by
  cases hx : l.all f with
  | false => rfl
  | true =>
    rw [List.all_eq_true] at hx
    have := hx l[k] (List.getElem_mem h)
    simp [List.getD, h] at g
    rw [this] at g
    cases g
theorem wch_bat (l : List UInt8) (k : Nat) : wch (l.getD k 0) = true ↔ 33 ≤ bat l k ∧ bat l k ≤ 126 ∧ bat l k ≠ 35 := by
  rw [wch_iff]
  unfold bat
  omega
set_option maxRecDepth 20000 in
theorem rlword_any (l : List UInt8) (w : World) (hm : l.length ≤ 9223372036854775807) : Calls Try.prog 33 #[.string (str l)] w fun e w' => e = .returned (.bool (wordF l)) ∧ w = w' := by
  by_cases h0 : l.length < 1
  · have E := Lib.hid (wordF_len (l := l) (by omega))
    have i0 : (l.length : Int) < 1 := by omega
    generalize wordF l = v at *
    clear h0
    go_enter Try.func33, Try.ntmps33
    go_wp2
    go_ret
    exact ⟨by rw [E.out]; simp; try omega, rfl⟩
  · by_cases h1 : 40 < l.length
    · have E := Lib.hid (wordF_len (l := l) (by omega))
      have i0 : ¬ (l.length : Int) < 1 := by omega
      have i1 : (40 : Int) < (l.length : Int) := by omega
      generalize wordF l = v at *
      clear h0 h1
      go_enter Try.func33, Try.ntmps33
      go_wp2
      go_ret
      exact ⟨by rw [E.out]; simp; try omega, rfl⟩
    · have E := Lib.hid (wordF_mid (l := l) (by omega) (by omega))
      have i0 : ¬ (l.length : Int) < 1 := by omega
      have i1 : ¬ (40 : Int) < (l.length : Int) := by omega
      generalize wordF l = v at *
      have IX := Lib.hid (run_index_bat l)
      obtain ⟨n, hn⟩ : ∃ n, l.length = n := ⟨_, rfl⟩
      have HN := Lib.hid hn
      have hsz : (str l).size = n := by rw [str_size, hn]
      rw [hn] at i0 i1 hm
      clear h0 h1 hn
      go_enter Try.func33, Try.ntmps33
      go_wp2
      go_loopw [3] (fun i wr => ∃ k : Nat, i = .int .i64 k ∧ wr = w ∧ k ≤ n ∧ (l.take k).all wch = true) (fun i _ => match i with | .int _ x => (n - x).toNat | _ => 0)
      case atStart => exact ⟨0, rfl, rfl, by omega, by simp⟩
      case round =>
        obtain ⟨k, rfl, rfl, hk, hf⟩ := hrel
        have HF := Lib.hid hf
        clear hf
        by_cases hlt : k < n
        · have R := fun w => IX.out k (by rw [HN.out]; exact hlt) w
          have x0 := bat_lo l k
          have W := Lib.hid (wch_bat l k)
          have A1 := Lib.hid (all_take wch l k (by rw [HN.out]; exact hlt) HF.out)
          have A2 := Lib.hid (all_not wch l k (by rw [HN.out]; exact hlt))
          generalize bat l k = x at *
          by_cases c0 : x < 33
          · have G := Lib.hid (show v = false by rw [E.out]; exact A2.out (by rw [Bool.eq_false_iff]; intro e; have := W.out.1 e; omega))
            go_wp2
            go_ret
            exact ⟨by rw [G.out]; simp; try omega, rfl⟩
          · by_cases c1 : 126 < x
            · have G := Lib.hid (show v = false by rw [E.out]; exact A2.out (by rw [Bool.eq_false_iff]; intro e; have := W.out.1 e; omega))
              go_wp2
              go_ret
              exact ⟨by rw [G.out]; simp; try omega, rfl⟩
            · by_cases c2 : x = 35
              · have G := Lib.hid (show v = false by rw [E.out]; exact A2.out (by rw [Bool.eq_false_iff]; intro e; have := W.out.1 e; omega))
                subst c2
                go_wp2
                go_ret
                exact ⟨by rw [G.out]; simp; try omega, rfl⟩
              · have G := Lib.hid (show (l.take (k + 1)).all wch = true by rw [A1.out]; exact W.out.2 ⟨by omega, by omega, c2⟩)
                go_wp2
                go_roundw
                case rel => exact ⟨k + 1, by simp, trivial, by omega, G.out⟩
                case measure => simp only []; omega
        · have G := Lib.hid (show v = true by rw [E.out, ← HF.out, List.take_of_length_le (by rw [HN.out]; omega)])
          go_wp2
          go_ret
          exact ⟨by rw [G.out]; simp; try omega, rfl⟩
end Go.Proofs.Ytkfhjmoocnhekaa

namespace Go.Proofs.Ytkfhjmoocnhekaa
open Go.RowKit
open Go.Lib (byteCells)

theorem str_beq (l m : List UInt8) : ((str l).toList == (str m).toList) = (l == m) := by rw [str_toList, str_toList]
theorem texts_take (ps qs : List (List UInt8)) (k : Nat) (h0 : k < ps.length) (h1 : k < qs.length) (g : ps.take k = qs.take k) : (ps.take (k + 1) = qs.take (k + 1)) ↔ ps.getD k [] = qs.getD k [] := by
  have e0 : ps.getD k [] = ps[k] := by simp [List.getD, h0]
  have e1 : qs.getD k [] = qs[k] := by simp [List.getD, h1]
  rw [List.take_succ_eq_append_getElem h0, List.take_succ_eq_append_getElem h1, g, e0, e1]
  exact ⟨fun e => by injection List.append_cancel_left e, fun e => by rw [e]⟩
set_option maxRecDepth 20000 in
theorem rtexts_any (A : Option Addr) (n c : Nat) (ps : List (List UInt8)) (B : Option Addr) (m d : Nat) (qs : List (List UInt8)) (w : World) (h : SSl w A n c ps) (g : SSl w B m d qs) (v : Bool) (hv : (ps == qs) = v) :
    Calls Try.prog 30 #[.slice A n c, .slice B m d] w fun e w' => e = .returned (.bool v) ∧ Below w.heap.size w w' := by
  have hl := h.len
  have gl := g.len
  have hcap := h.cap
  have hle := h.le
  have gcap := g.cap
  have gle := g.le
  have V := Lib.hid hv
  by_cases hnm : n = m
  · subst hnm
    have H := Lib.hid h
    have G := Lib.hid g
    have HL := Lib.hid hl
    have GL := Lib.hid gl
    clear h g hv hl gl
    go_enter Try.func30, Try.ntmps30
    go_wp2
    go_loopw [5] (fun i wr => ∃ k q : Nat, i = .int .i64 k ∧ wr = w.drewN q ∧ k ≤ n ∧ ps.take k = qs.take k) (fun i _ => match i with | .int _ x => (n - x).toNat | _ => 0)
    case atStart => exact ⟨0, 0, rfl, rfl, by omega, by simp⟩
    case round =>
      obtain ⟨k, q, rfl, rfl, hk, hf⟩ := hrel
      have HF := Lib.hid hf
      clear hf
      by_cases hlt : k < n
      · obtain ⟨b0, o0, rfl, hb0, hc0⟩ := H.out.at_ (by omega)
        obtain ⟨b1, o1, rfl, hb1, hc1⟩ := G.out.at_ (by omega)
        have c0 := hc0 k hlt
        have c1 := hc1 k hlt
        have T := Lib.hid (texts_take ps qs k (by rw [HL.out]; exact hlt) (by rw [GL.out]; exact hlt) HF.out)
        have i0 : (k : Int) < (n : Int) := by omega
        generalize hx : ps.getD k [] = x at *
        generalize hy : qs.getD k [] = y at *
        have HX := Lib.hid hx
        have HY := Lib.hid hy
        clear hc0 hc1 hx hy
        by_cases e : x = y
        · have s1 : (x == y) = true := by simpa using e
          have R := Lib.hid (T.out.2 e)
          clear e
          go_wp2
          go_quiet (fail)
          go_wp2
          go_roundw
          case rel => exact ⟨k + 1, q + nq, by simp, rfl, by omega, R.out⟩
          case measure => simp only []; omega
        · have s1 : (x == y) = false := by simpa using e
          have R := Lib.hid (show v = false by
            rw [← V.out, beq_eq_false_iff_ne]
            intro e2
            exact e (by rw [← HX.out, ← HY.out, e2]))
          clear e
          go_wp2
          go_quiet (fail)
          go_wp2
          go_ret
          exact ⟨by rw [R.out]; rfl, below_drewN (below_drewN (Below.refl _ _) _) _⟩
      · have R := Lib.hid (show v = true by
          rw [← V.out]
          have e1 : ps.take k = ps := List.take_of_length_le (by rw [HL.out]; omega)
          have e2 : qs.take k = qs := List.take_of_length_le (by rw [GL.out]; omega)
          have := HF.out
          rw [e1, e2] at this
          rw [this]
          exact beq_self_eq_true _)
        go_wp2
        go_ret
        exact ⟨by rw [R.out]; rfl, below_drewN (Below.refl _ _) _⟩
  · have R := Lib.hid (show v = false by
      rw [← V.out, beq_eq_false_iff_ne]
      intro e
      exact hnm (by rw [← hl, ← gl, e]))
    have i0 : ¬ (n : Int) = (m : Int) := by omega
    clear h g hv hl gl
    go_enter Try.func30, Try.ntmps30
    go_wp2
    go_ret
    exact ⟨by rw [R.out]; rfl, Below.refl _ _⟩

theorem joinF_take (ps : List (List UInt8)) (k : Nat) (h : k < ps.length) : joinF (ps.take (k + 1)) = if k = 0 then ps.getD k [] else joinF (ps.take k) ++ [32] ++ ps.getD k [] := by
  rw [List.take_succ_eq_append_getElem h, joinF_snoc]
  have e : ps.getD k [] = ps[k] := by simp [List.getD, h]
  rw [e]
  by_cases hk : k = 0
  · subst hk; simp
  · rw [if_neg hk, if_neg (by intro e2; have := congrArg List.length e2; rw [List.length_take, List.length_nil] at this; omega)]
/-- texts joined are no longer than M -/
def Short (M : Nat) (ps : List (List UInt8)) : Prop := ∀ k, (joinF (ps.take k)).length ≤ M
set_option maxRecDepth 20000 in
theorem rjoin_any (A : Option Addr) (n c : Nat) (ps : List (List UInt8)) (w : World) (h : SSl w A n c ps) (hs : Short 1000000 ps) :
    Calls Try.prog 24 #[.slice A n c] w fun e w' => e = .returned (.string (str (joinF ps))) ∧ w = w' := by
  have hcap := h.cap
  have hle := h.le
  have H := Lib.hid h
  have HL := Lib.hid h.len
  have HS := Lib.hid hs
  clear h hs
  go_enter Try.func24, Try.ntmps24
  go_wp2
  go_loopw [3, 4] (fun s i wr => ∃ k : Nat, i = .int .i64 k ∧ wr = w ∧ k ≤ n ∧ s = .string (str (joinF (ps.take k)))) (fun _ i _ => match i with | .int _ x => (n - x).toNat | _ => 0)
  case atStart => exact ⟨0, rfl, rfl, by omega, rfl⟩
  case round =>
    obtain ⟨k, rfl, rfl, hk, rfl⟩ := hrel
    by_cases hlt : k < n
    · obtain ⟨b0, o0, rfl, hb0, hc0⟩ := H.out.at_ (by omega)
      have c0 := hc0 k hlt
      have J := Lib.hid (joinF_take ps k (by rw [HL.out]; exact hlt))
      have l0 := HS.out k
      have l1 := HS.out (k + 1)
      rw [J.out] at l1
      have i0 : (k : Int) < (n : Int) := by omega
      have Y0 : k = 0 → joinF (ps.take k) = [] := by rintro rfl; rfl
      generalize ps.getD k [] = x at *
      generalize joinF (ps.take k) = y at *
      clear hc0
      by_cases e : k = 0
      · have J2 := Lib.hid (show joinF (ps.take (k + 1)) = x by rw [J.out, if_pos e])
        rw [if_pos e] at l1
        obtain rfl : y = [] := Y0 e
        have e2 : ¬ 0 < k := by omega
        have a2 : ∀ W, (Op.stringOp .add (str []) (str x)).run Try.prog W = .ok (.string (str x)) W := fun W => by
          rw [run_string_add_sum W _ _ (by rw [str_size, str_size]; simp; omega), str_append, List.nil_append]
        clear e l0 l1 Y0
        go_wp2
        go_roundw
        case rel => exact ⟨k + 1, by simp, trivial, by omega, by rw [J2.out]⟩
        case measure => simp only []; omega
      · have J2 := Lib.hid (show joinF (ps.take (k + 1)) = y ++ [32] ++ x by rw [J.out, if_neg e])
        rw [if_neg e] at l1
        have e2 : 0 < k := by omega
        have a1 : ∀ W, (Op.stringOp .add (str y) ⟨#[32]⟩).run Try.prog W = .ok (.string (str (y ++ [32]))) W := fun W => by
          rw [show (⟨#[32]⟩ : ByteArray) = str [32] from rfl, run_string_add_sum W _ _ (by rw [str_size, str_size]; simp at l1 ⊢; omega), str_append]
        have a2 : ∀ W, (Op.stringOp .add (str (y ++ [32])) (str x)).run Try.prog W = .ok (.string (str (y ++ [32] ++ x))) W := fun W => by
          rw [run_string_add_sum W _ _ (by rw [str_size, str_size]; simp at l1 ⊢; omega), str_append]
        clear e l0 l1
        go_wp2
        go_roundw
        case rel => exact ⟨k + 1, by simp, trivial, by omega, by rw [J2.out]; simp⟩
        case measure => simp only []; omega
    · have e1 := Lib.hid (show ps.take k = ps from List.take_of_length_le (by rw [HL.out]; omega))
      go_wp2
      go_ret
      exact ⟨by rw [e1.out]; rfl, rfl⟩
end Go.Proofs.Ytkfhjmoocnhekaa

namespace Go.Proofs.Ytkfhjmoocnhekaa
open Go.RowKit
open Go.Lib (byteCells)

/-- texts and a number, as a call returns them -/
def GotS (w : World) (ps : List (List UInt8)) (E : Int) (e : Ending) (w' : World) : Prop := ∃ A n c, e = .returned (.tuple #[.slice A n c, .int .i64 E]) ∧ SSl w' A n c ps ∧ Below w.heap.size w w'
/-- texts beside no error, else none -/
def os (E : Int) (ps : List (List UInt8)) : List (List UInt8) := if E = 0 then ps else []
theorem os_ok {ps : List (List UInt8)} : os 0 ps = ps := rfl
theorem os_no {E : Int} {ps : List (List UInt8)} (h : ¬ E = 0) : os E ps = [] := by unfold os; rw [if_neg h]
/-- what Rows comes to -/
def GotRows (w : World) (l : List UInt8) : Ending → World → Prop := GotS w (os (rwE l) (rwF l)) (rwE l)
theorem own_texts {w : World} {B n : Nat} {e : TypeId} {v : Value} {ps : List (List UInt8)} (h : w.ownsRow B e 1 v n (txts ps)) : ∃ A c, v = .slice A n c ∧ SSl w A n c ps := by
  obtain ⟨A, c, rfl⟩ := own_shape h
  exact ⟨A, c, rfl, SSl.of_own h⟩
theorem rwS_take (l : List UInt8) (k : Nat) (h : k < l.length) : l.take (k + 1) = l.take k ++ [l.getD k 0] := by
  rw [List.take_succ_eq_append_getElem h]
  simp [List.getD, h]
theorem rest_sub (l : List UInt8) (k f : Nat) (h : k ≤ l.length) (hf : f + (rwS (l.take k)).2.length = k) : (l.drop f).take (k - f) = (rwS (l.take k)).2 := by
  have := rwS_drop (l.take k)
  rw [List.length_take, Nat.min_eq_left h, show k - (rwS (l.take k)).2.length = f by omega] at this
  rw [← this, List.drop_take]
theorem bat_ten (l : List UInt8) (k : Nat) : (bat l k = 10) ↔ l.getD k 0 = 10 := by
  unfold bat
  constructor
  · intro h
    exact UInt8.toNat_inj.1 (by show (l.getD k 0).toNat = 10; omega)
  · intro h
    rw [h]
    rfl

theorem rrows_big (A : Option Addr) (n c : Nat) (w : World) (h : 20000 < n) : Calls Try.prog 19 #[.slice A n c] w fun e w' => e = .returned (.tuple #[.slice none 0 0, .int .i64 3]) ∧ w = w' := by
  go_enter Try.func19, Try.ntmps19
  go_wp2
  go_ret2
  exact ⟨rfl, rfl⟩
set_option maxRecDepth 20000 in
set_option maxHeartbeats 2000000 in
theorem rrows_any (A : Option Addr) (n c : Nat) (l : List UInt8) (w : World) (h : BSl w A n c l) : Calls Try.prog 19 #[.slice A n c] w (GotRows w l) := by
  have hl := h.len
  unfold GotRows
  by_cases hn : 20000 < n
  · rw [rwE_big (by omega), os_no (by decide)]
    exact (rrows_big A n c w hn).mono fun _ _ ⟨he, hb⟩ => ⟨none, 0, 0, he, SSl.nil, by subst hb; exact Below.refl _ _⟩
  · obtain ⟨i0, hi, hz0, hz1, hz2⟩ := info_parts Try.info9
    have Hi := Lib.hid hi; have Hz0 := Lib.hid hz0; have Hz1 := Lib.hid hz1; have Hz2 := Lib.hid hz2
    clear hi hz0 hz1 hz2
    have EM := Lib.hid (rwE_many (l := l) (by omega))
    have EO := Lib.hid (rwE_ok (l := l) (by omega))
    have H := Lib.hid h
    have HL := Lib.hid hl
    have hle := h.le
    have hcap := h.cap
    have in0 : ¬ (20000 : Int) < (n : Int) := by omega
    generalize hE : rwE l = E at *
    clear h hl hE
    go_enter Try.func19, Try.ntmps19
    go_wp2
    go_loopw [4, 5, 6] (fun v vf vi wr => ∃ k f : Nat, vi = .int .i64 k ∧ vf = .int .i64 f ∧ k ≤ n ∧ f + (rwS (l.take k)).2.length = k ∧ wr.ownsRow w.heap.size 9 1 v (rwS (l.take k)).1.length (txts (rwS (l.take k)).1) ∧ Below w.heap.size w wr) (fun _ _ vi _ => match vi with | .int _ x => (n - x).toNat | _ => 0)
    case atStart => exact ⟨0, 0, rfl, rfl, by omega, rfl, World.ownsRow_nil _ _ _ _, Below.refl _ _⟩
    case round =>
      obtain ⟨k, f, rfl, rfl, hk, hf, ho, hb⟩ := hrel
      have O := Lib.hid ho
      have B := Lib.hid hb
      clear ho hb
      have KL := rwS_len (l.take k)
      rw [List.length_take] at KL
      have KL2 : (rwS (l.take k)).1.length ≤ 20000 := by omega
      clear KL
      by_cases hlt : k < n
      · obtain ⟨b0, o0, rfl, hb0, hc0⟩ := H.out.at_ (by omega)
        have c0 := (B.out.cell (p := ⟨b0, o0 + k, none⟩) hb0).trans (hc0 k hlt)
        have NX := Lib.hid (rwS_take l k (by rw [HL.out]; exact hlt))
        have T := Lib.hid (bat_ten l k)
        have RS := Lib.hid (rest_sub l k f (by rw [HL.out]; exact hk) hf)
        clear hc0
        by_cases e : bat l k = 10
        · have S := Lib.hid (show rwS (l.take (k + 1)) = ((rwS (l.take k)).1 ++ [(rwS (l.take k)).2], []) by rw [NX.out, T.out.1 e, rwS_end])
          have CV := run_string_bsl wr (some ⟨b0, o0 + f, none⟩) (k - f) (c - f) (rwS (l.take k)).2 (by have := (H.out.below B.out).sub f (k - f) (by omega); rw [RS.out] at this; exact this)
          generalize (rwS (l.take k)).2 = r at *
          generalize (rwS (l.take k)).1 = q at *
          generalize bat l k = x at *
          subst e
          have f0 : (f : Int) ≤ (k : Int) := by omega
          have f1 : (k : Int) ≤ (c : Int) := by omega
          have f2 : f ≤ k := by omega
          have f3 : k ≤ c := by omega
          have f4 : ¬ c = f := by omega
          have hlt2 : (k : Int) < (n : Int) := by omega
          clear T RS NX hf
          go_wp2_with (at_builtin; refine wpList_tapp rfl (.tmp 21) (.tmp 27) 38 rfl w.heap.size 9 i0 (.string ⟨#[]⟩) 16 Try.underlying38 Hi.out Hz0.out Hz1.out Hz2.out rfl _ _ q (by rfl) O.out r wr.heap.size rfl (by rfl) (by unfold maxLen; omega) (by omega) B.out.size ?_; intro v3 w3 hown3 hgrow3; have B3 := Lib.hid (below_app (B.out.alloc B.out.size _) (O.out.alloc _) hgrow3); have O3 := Lib.hid hown3; clear hown3 hgrow3)
          go_roundw
          case rel => exact ⟨k + 1, k + 1, by simp, by simp, by omega, by rw [S.out]; simp, by rw [S.out]; simpa using O3.out, B3.out⟩
          case measure => simp only []; omega
        · have e2 : ¬ l.getD k 0 = 10 := fun g => e (T.out.2 g)
          have S := Lib.hid (show rwS (l.take (k + 1)) = ((rwS (l.take k)).1, (rwS (l.take k)).2 ++ [l.getD k 0]) by rw [NX.out, rwS_other _ _ e2])
          have hlt2 : (k : Int) < (n : Int) := by omega
          generalize bat l k = x at *
          clear T RS NX e2
          go_wp2
          go_roundw
          case rel => exact ⟨k + 1, f, by simp, rfl, by omega, by rw [S.out]; simp; omega, by rw [S.out]; exact O.out, B.out⟩
          case measure => simp only []; omega
      · obtain rfl : k = n := by omega
        have LT : l.take k = l := List.take_of_length_le (by rw [HL.out]; omega)
        have O1 := O.out
        have RS := Lib.hid (rest_sub l k f (by rw [HL.out]; omega) hf)
        rw [LT] at hf KL2 O1 RS
        clear O
        by_cases e : (rwS l).2 = []
        · have RF := Lib.hid (show rwF l = (rwS l).1 by unfold rwF; rw [if_pos e])
          rw [e] at hf
          simp at hf
          subst hf
          obtain ⟨A1, c1, rfl, S1⟩ := own_texts O1
          have EM2 := EM.out
          have EO2 := EO.out
          rw [RF.out] at EM2 EO2
          generalize (rwS l).1 = q at *
          obtain ⟨m, hm⟩ : ∃ m, q.length = m := ⟨_, rfl⟩
          have HM := Lib.hid hm
          rw [hm] at EM2 EO2 KL2
          have S2 := Lib.hid (show SSl wr A1 m c1 q by rw [← HM.out]; exact S1)
          have hmi : ((q.length : Nat) : Int) = (m : Int) := by omega
          clear S1 O1 e LT EM EO RS hm
          by_cases g : 400 < m
          · have hg : (400 : Int) < (m : Int) := by omega
            have E2 := EM2 g
            subst E2
            go_wp2
            go_ret2
            exact ⟨none, 0, 0, rfl, by rw [os_no (by decide)]; exact SSl.nil, B.out⟩
          · have hg : ¬ (400 : Int) < (m : Int) := by omega
            have E2 := EO2 g
            subst E2
            go_wp2
            go_ret2
            exact ⟨A1, m, c1, by rw [HM.out]; rfl, by rw [RF.out]; exact S2.out, B.out⟩
        · have RF := Lib.hid (show rwF l = (rwS l).1 ++ [(rwS l).2] by unfold rwF; rw [if_neg e])
          have hfl : f < k := by
            have : 0 < (rwS l).2.length := List.length_pos_iff.2 e
            omega
          obtain ⟨b0, o0, rfl, hb0, _⟩ := H.out.at_ (by omega)
          have CV := run_string_bsl wr (some ⟨b0, o0 + f, none⟩) (k - f) (c - f) (rwS l).2 (by have := (H.out.below B.out).sub f (k - f) (by omega); rw [RS.out] at this; exact this)
          have EM2 := EM.out
          have EO2 := EO.out
          rw [RF.out] at EM2 EO2
          generalize (rwS l).2 = r at *
          generalize (rwS l).1 = q at *
          obtain ⟨m, hm⟩ : ∃ m, q.length = m := ⟨_, rfl⟩
          have HM := Lib.hid (show (q ++ [r]).length = m + 1 by simp [hm])
          have O2 := Lib.hid (show wr.ownsRow w.heap.size 9 1 u4 m (txts q) by rw [← hm]; exact O1)
          rw [HM.out] at EM2 EO2
          rw [hm] at KL2
          have f0 : (f : Int) < (k : Int) := by omega
          have f1 : (f : Int) ≤ (k : Int) := by omega
          have f2 : f ≤ k := by omega
          have f3 : k ≤ c := by omega
          have f4 : ¬ c = f := by omega
          have f5 : (f : Int) ≤ (c : Int) := by omega
          clear O1 e LT EM EO RS hm hf
          by_cases g : 400 < m + 1
          · have hg : (400 : Int) < (m : Int) + 1 := by omega
            have E2 := EM2 g
            subst E2
            go_wp2_with (at_builtin; refine wpList_tapp rfl (.tmp 35) (.tmp 40) 38 rfl w.heap.size 9 i0 (.string ⟨#[]⟩) 16 Try.underlying38 Hi.out Hz0.out Hz1.out Hz2.out rfl _ _ q (by rfl) O2.out r wr.heap.size rfl (by rfl) (by unfold maxLen; omega) (by omega) B.out.size ?_; intro v3 w3 hown3 hgrow3; have B3 := Lib.hid (below_app (B.out.alloc B.out.size _) (O2.out.alloc _) hgrow3); obtain ⟨A3, c3, rfl, S3⟩ := own_texts hown3; have S4 := Lib.hid S3; clear hown3 hgrow3 S3)
            go_ret2
            exact ⟨none, 0, 0, rfl, by rw [os_no (by decide)]; exact SSl.nil, B3.out⟩
          · have hg : ¬ (400 : Int) < (m : Int) + 1 := by omega
            have E2 := EO2 g
            subst E2
            go_wp2_with (at_builtin; refine wpList_tapp rfl (.tmp 35) (.tmp 40) 38 rfl w.heap.size 9 i0 (.string ⟨#[]⟩) 16 Try.underlying38 Hi.out Hz0.out Hz1.out Hz2.out rfl _ _ q (by rfl) O2.out r wr.heap.size rfl (by rfl) (by unfold maxLen; omega) (by omega) B.out.size ?_; intro v3 w3 hown3 hgrow3; have B3 := Lib.hid (below_app (B.out.alloc B.out.size _) (O2.out.alloc _) hgrow3); obtain ⟨A3, c3, rfl, S3⟩ := own_texts hown3; have S4 := Lib.hid S3; clear hown3 hgrow3 S3)
            go_ret2
            exact ⟨A3, m + 1, c3, rfl, by rw [RF.out]; exact S4.out, B3.out⟩
end Go.Proofs.Ytkfhjmoocnhekaa

namespace Go.Proofs.Ytkfhjmoocnhekaa
open Go.RowKit
open Go.Lib (byteCells)

theorem ahead_spec (l : List UInt8) : (ahead l).length ≤ l.length ∧ ahead l = l.take (ahead l).length ∧ (∀ j, j < (ahead l).length → l.getD j 0 ≠ 35) ∧ ((ahead l).length < l.length → l.getD (ahead l).length 0 = 35) := by
  unfold ahead
  induction l with
  | nil => exact ⟨by simp [headC], by simp [headC], fun j hj => by simp [headC] at hj, fun h => by simp [headC] at h⟩
  | cons a r ih =>
    by_cases ha : a = 35
    · subst ha
      rw [(headC_same 35 r).1]
      exact ⟨by simp, by simp, fun j hj => by simp at hj, fun _ => rfl⟩
    · rw [(headC_cons 35 a r ha).1]
      obtain ⟨h1, h2, h3, h4⟩ := ih
      refine ⟨by simp; omega, by rw [List.length_cons, List.take_succ_cons, ← h2], fun j hj => ?_, fun hj => ?_⟩
      · match j with
        | 0 => exact ha
        | j + 1 => exact h3 j (by simp at hj; omega)
      · exact h4 (by simp at hj; omega)
/-- a byte is a number just if the bytes are alike -/
theorem bat_byte (l : List UInt8) (k : Nat) (c : UInt8) : (bat l k = (c.toNat : Int)) ↔ l.getD k 0 = c := by
  unfold bat
  constructor
  · intro h
    exact UInt8.toNat_inj.1 (by omega)
  · intro h
    rw [h]
theorem wsS_take (l : List UInt8) (k : Nat) (h : k < l.length) : wsS (l.take (k + 1)) = wsStep (wsS (l.take k)) (l.getD k 0) := by rw [rwS_take l k h, wsS_snoc]
/-- what Words comes to -/
def GotWords (w : World) (l : List UInt8) : Ending → World → Prop := GotS w (os (wlE l) (wsF (ahead l))) (wlE l)
/-- what the loop over a row keeps -/
def WdInv (w : World) (l : List UInt8) (vr vo vw vi : Value) (wr : World) : Prop :=
  ∃ k : Nat, vi = .int .i64 k ∧ Below w.heap.size w wr ∧
    ((k ≤ (ahead l).length ∧ vr = .string (str l) ∧ vw = .string (str (wsS (l.take k)).2) ∧ wr.ownsRow w.heap.size 9 1 vo (wsS (l.take k)).1.length (txts (wsS (l.take k)).1)) ∨
     (k = (ahead l).length + 1 ∧ vr = .string (str (ahead l)) ∧ vw = .string ⟨#[]⟩ ∧ wr.ownsRow w.heap.size 9 1 vo (wsF (ahead l)).length (txts (wsF (ahead l)))))

set_option maxRecDepth 20000 in
set_option maxHeartbeats 4000000 in
theorem rwords_any (l : List UInt8) (w : World) (hs : l.length ≤ 100000) : Calls Try.prog 20 #[.string (str l)] w (GotWords w l) := by
  unfold GotWords
  obtain ⟨i0, hi, hz0, hz1, hz2⟩ := info_parts Try.info9
  have Hi := Lib.hid hi; have Hz0 := Lib.hid hz0; have Hz1 := Lib.hid hz1; have Hz2 := Lib.hid hz2
  clear hi hz0 hz1 hz2
  obtain ⟨a1, a2, a3, a4⟩ := ahead_spec l
  have EO := Lib.hid (wlE_ok (l := l))
  have EN := Lib.hid (wlE_no (l := l))
  have WL := Lib.hid (wsS_len (ahead l))
  have WP := Lib.hid (wsS_part (ahead l))
  have A2 := Lib.hid a2
  have A3 := Lib.hid a3
  have A4 := Lib.hid a4
  generalize hE : wlE l = E at *
  obtain ⟨N, hN⟩ : ∃ N, (ahead l).length = N := ⟨_, rfl⟩
  have HN := Lib.hid hN
  rw [hN] at a1
  obtain ⟨L, hL⟩ : ∃ L, l.length = L := ⟨_, rfl⟩
  have HL := Lib.hid hL
  rw [hL] at a1 hs
  have hsz : (str l).size = L := by rw [str_size, hL]
  have hsr : (str (ahead l)).size = N := by rw [str_size, hN]
  clear a2 a3 a4 hE hN hL
  go_enter Try.func20, Try.ntmps20
  go_wp2
  go_loopw [0, 4, 5, 6] (fun vr vo vw vi wr => WdInv w l vr vo vw vi wr) (fun _ _ _ vi _ => match vi with | .int _ x => (N + 2 - x).toNat | _ => 0)
  case atStart => exact ⟨0, rfl, Below.refl _ _, .inl ⟨Nat.zero_le _, rfl, rfl, World.ownsRow_nil _ _ _ _⟩⟩
  case round =>
    obtain ⟨k, rfl, hb, hcase⟩ := hrel
    have B := Lib.hid hb
    clear hb
    rcases hcase with ⟨hk, rfl, rfl, ho⟩ | ⟨hk, rfl, rfl, ho⟩
    · rw [HN.out] at hk
      have O := Lib.hid ho
      clear ho
      have KL := wsS_len (l.take k)
      rw [List.length_take] at KL
      obtain ⟨KL1, KL2, _⟩ := KL
      have KL1b : (wsS (l.take k)).1.length ≤ 100000 := by omega
      have KL2b : (wsS (l.take k)).2.length ≤ 100000 := by omega
      clear KL1 KL2
      by_cases hlt : k < N
      · have hlt2 : (k : Int) < (L : Int) := by omega
        have R := fun w => run_index_bat l k (by rw [HL.out]; omega) w
        have n35 : ¬ bat l k = 35 := fun e => A3.out k (by rw [HN.out]; exact hlt) ((bat_byte l k 35).1 e)
        have ST := Lib.hid (wsS_take l k (by rw [HL.out]; omega))
        have b32 := Lib.hid (bat_byte l k 32)
        have b9 := Lib.hid (bat_byte l k 9)
        have X1 := extract_one l k (by rw [HL.out]; omega)
        generalize bat l k = x at *
        by_cases e : x = 32 ∨ x = 9
        · have ST2 := Lib.hid (show wsS (l.take (k + 1)) = (wsEnd (wsS (l.take k)), []) by
            rw [ST.out, wsStep, if_pos (by rcases e with e | e; exact .inl (b32.out.1 e); exact .inr (b9.out.1 e))]
            rfl)
          by_cases e2 : (wsS (l.take k)).2 = []
          · have W := Lib.hid (show wsEnd (wsS (l.take k)) = (wsS (l.take k)).1 by unfold wsEnd; rw [if_pos e2])
            rw [e2]
            generalize (wsS (l.take k)).1 = q at *
            clear b32 b9 ST e2 X1
            rcases e with rfl | rfl
            all_goals
              go_wp2
              go_roundw
              case rel => exact ⟨k + 1, by simp, B.out, .inl ⟨by rw [HN.out]; omega, rfl, by rw [ST2.out], by rw [ST2.out, W.out]; exact O.out⟩⟩
              case measure => simp only []; omega
          · have W := Lib.hid (show wsEnd (wsS (l.take k)) = (wsS (l.take k)).1 ++ [(wsS (l.take k)).2] by unfold wsEnd; rw [if_neg e2])
            generalize (wsS (l.take k)).1 = q at *
            generalize (wsS (l.take k)).2 = p at *
            have ne : (p == []) = false := by simpa using e2
            clear b32 b9 ST e2 X1
            rcases e with rfl | rfl
            all_goals
              go_wp2_with (at_builtin; refine wpList_tapp rfl (.tmp 52) (.tmp 54) 38 rfl w.heap.size 9 i0 (.string ⟨#[]⟩) 16 Try.underlying38 Hi.out Hz0.out Hz1.out Hz2.out rfl _ _ q (by rfl) O.out p wr.heap.size rfl (by rfl) (by unfold maxLen; omega) (by omega) B.out.size ?_; intro v3 w3 hown3 hgrow3; have B3 := Lib.hid (below_app (B.out.alloc B.out.size _) (O.out.alloc _) hgrow3); have O3 := Lib.hid hown3; clear hown3 hgrow3)
              go_roundw
              case rel => exact ⟨k + 1, by simp, B3.out, .inl ⟨by rw [HN.out]; omega, rfl, by rw [ST2.out], by rw [ST2.out, W.out]; simpa using O3.out⟩⟩
              case measure => simp only []; omega
        · have e32 : ¬ x = 32 := fun g => e (.inl g)
          have e9 : ¬ x = 9 := fun g => e (.inr g)
          have ST2 := Lib.hid (show wsS (l.take (k + 1)) = ((wsS (l.take k)).1, (wsS (l.take k)).2 ++ [l.getD k 0]) by
            rw [ST.out, wsStep, if_neg (by rintro (g | g); exact e32 (b32.out.2 g); exact e9 (b9.out.2 g))])
          generalize (wsS (l.take k)).1 = q at *
          generalize (wsS (l.take k)).2 = p at *
          generalize l.getD k 0 = y at *
          have ad : ∀ W, (Op.stringOp .add (str p) (str [y])).run Try.prog W = .ok (.string (str (p ++ [y]))) W := fun W => by
            rw [run_string_add_sum W _ _ (by rw [str_size, str_size]; simp; omega), str_append]
          have g0 : (k : Int) + 1 ≤ (L : Int) := by omega
          have g1 : (x != 32) = true := by simpa using e32
          have g2 : (x != 9) = true := by simpa using e9
          have g3 : ((k : Int) + 1).toNat = k + 1 := by omega
          have g4 : (k : Int) ≤ (k : Int) + 1 := by omega
          have g5 : (0 : Int) ≤ (k : Int) + 1 := by omega
          have g6 : k + 1 ≤ L := by omega
          clear b32 b9 ST e
          go_wp2
          go_roundw
          case rel => exact ⟨k + 1, by simp, B.out, .inl ⟨by rw [HN.out]; omega, rfl, by rw [ST2.out], by rw [ST2.out]; exact O.out⟩⟩
          case measure => simp only []; omega
      · obtain rfl : k = N := by omega
        have TK : l.take k = ahead l := by rw [A2.out, HN.out]
        have WF := Lib.hid (show wsF (ahead l) = wsEnd (wsS (l.take k)) by rw [TK]; rfl)
        have ex : (str l).extract 0 k = str (ahead l) := by rw [extract_take, ← TK]
        by_cases hh : k < L
        · have R := fun w => run_index_bat l k (by rw [HL.out]; omega) w
          have e35 : bat l k = 35 := by
            have := A4.out (by rw [HN.out, HL.out]; exact hh)
            rw [HN.out] at this
            exact (bat_byte l k 35).2 this
          rw [e35] at R
          have h1 : (k : Int) < (L : Int) := by omega
          have h2 : (k : Int) ≤ (L : Int) := by omega
          have h3 : k ≤ L := by omega
          clear e35 TK
          by_cases e2 : (wsS (l.take k)).2 = []
          · have W := Lib.hid (show wsF (ahead l) = (wsS (l.take k)).1 by rw [WF.out]; unfold wsEnd; rw [if_pos e2])
            rw [e2]
            generalize (wsS (l.take k)).1 = q at *
            clear e2 WF
            go_wp2
            go_roundw
            case rel => exact ⟨k + 1, by simp, B.out, .inr ⟨by rw [HN.out], rfl, rfl, by rw [W.out]; exact O.out⟩⟩
            case measure => simp only []; omega
          · have W := Lib.hid (show wsF (ahead l) = (wsS (l.take k)).1 ++ [(wsS (l.take k)).2] by rw [WF.out]; unfold wsEnd; rw [if_neg e2])
            generalize (wsS (l.take k)).1 = q at *
            generalize (wsS (l.take k)).2 = p at *
            have ne : (p == []) = false := by simpa using e2
            clear e2 WF
            go_wp2_with (at_builtin; refine wpList_tapp rfl (.tmp 52) (.tmp 54) 38 rfl w.heap.size 9 i0 (.string ⟨#[]⟩) 16 Try.underlying38 Hi.out Hz0.out Hz1.out Hz2.out rfl _ _ q (by rfl) O.out p wr.heap.size rfl (by rfl) (by unfold maxLen; omega) (by omega) B.out.size ?_; intro v3 w3 hown3 hgrow3; have B3 := Lib.hid (below_app (B.out.alloc B.out.size _) (O.out.alloc _) hgrow3); have O3 := Lib.hid hown3; clear hown3 hgrow3)
            go_roundw
            case rel => exact ⟨k + 1, by simp, B3.out, .inr ⟨by rw [HN.out], rfl, rfl, by rw [W.out]; simpa using O3.out⟩⟩
            case measure => simp only []; omega
        · obtain rfl : k = L := by omega
          have AL : ahead l = l := by rw [← TK]; exact List.take_of_length_le (by rw [HL.out]; omega)
          clear TK ex
          by_cases e2 : (wsS (l.take k)).2 = []
          · have W := Lib.hid (show wsF (ahead l) = (wsS (l.take k)).1 by rw [WF.out]; unfold wsEnd; rw [if_pos e2])
            rw [e2]
            generalize (wsS (l.take k)).1 = q at *
            have AL2 := Lib.hid AL
            clear e2 WF AL
            go_wp2
            go_roundw
            case rel => exact ⟨k + 1, by simp, B.out, .inr ⟨by rw [HN.out], by rw [AL2.out], rfl, by rw [W.out]; exact O.out⟩⟩
            case measure => simp only []; omega
          · have W := Lib.hid (show wsF (ahead l) = (wsS (l.take k)).1 ++ [(wsS (l.take k)).2] by rw [WF.out]; unfold wsEnd; rw [if_neg e2])
            generalize (wsS (l.take k)).1 = q at *
            generalize (wsS (l.take k)).2 = p at *
            have ne : (p == []) = false := by simpa using e2
            have AL2 := Lib.hid AL
            clear e2 WF AL
            go_wp2_with (at_builtin; refine wpList_tapp rfl (.tmp 52) (.tmp 54) 38 rfl w.heap.size 9 i0 (.string ⟨#[]⟩) 16 Try.underlying38 Hi.out Hz0.out Hz1.out Hz2.out rfl _ _ q (by rfl) O.out p wr.heap.size rfl (by rfl) (by unfold maxLen; omega) (by omega) B.out.size ?_; intro v3 w3 hown3 hgrow3; have B3 := Lib.hid (below_app (B.out.alloc B.out.size _) (O.out.alloc _) hgrow3); have O3 := Lib.hid hown3; clear hown3 hgrow3)
            go_roundw
            case rel => exact ⟨k + 1, by simp, B3.out, .inr ⟨by rw [HN.out], by rw [AL2.out], rfl, by rw [W.out]; simpa using O3.out⟩⟩
            case measure => simp only []; omega
    · rw [HN.out] at hk
      subst hk
      obtain ⟨A1, c1, rfl, S1⟩ := own_texts ho
      have S := Lib.hid S1
      have m0 := WL.out.2.2
      rw [HN.out] at m0
      have WP2 := Lib.hid (fun (p : List UInt8) (hp : p ∈ wsF (ahead l)) => (show p.length ≤ N by have := WP.out p hp; rw [HN.out] at this; exact this))
      generalize wsF (ahead l) = q at *
      obtain ⟨m, hm⟩ : ∃ m, q.length = m := ⟨_, rfl⟩
      have HM := Lib.hid hm
      have S2 := Lib.hid (show SSl wr A1 m c1 q by rw [← hm]; exact S1)
      rw [hm] at m0
      have S2c := S2.out.cap
      have S2l := S2.out.le
      rw [hm]
      obtain ⟨K1, hK1⟩ : ∃ K1 : Int, ((N + 1 : Nat) : Int) = K1 := ⟨_, rfl⟩
      have hK2 : ¬ K1 ≤ (N : Int) := by omega
      rw [hK1]
      clear ho S1 S hm hK1
      go_wp2
      go_loopw [7] (fun vi wx => ∃ k2 : Nat, vi = .int .i64 k2 ∧ wx = wr ∧ k2 ≤ m ∧ (q.take k2).all wordF = true) (fun vi _ => match vi with | .int _ x => (m - x).toNat | _ => 0)
      case atStart => exact ⟨0, rfl, rfl, by omega, by simp⟩
      case round =>
        obtain ⟨k2, rfl, hwx, hk2, hf⟩ := hrel
        subst hwx
        have HF := Lib.hid hf
        clear hf
        by_cases hlt : k2 < m
        · obtain ⟨b0, o0, rfl, hb0, hc0⟩ := S2.out.at_ (by omega)
          have c0 := hc0 k2 hlt
          have hq : k2 < q.length := by rw [HM.out]; exact hlt
          have hg : q.getD k2 [] = q[k2] := by simp [List.getD, hq]
          have hpl : (q.getD k2 []).length ≤ 9223372036854775807 := by
            have := WP2.out (q.getD k2 []) (by rw [hg]; exact List.getElem_mem hq)
            omega
          have RW := Lib.hid (fun w => rlword_any (q.getD k2 []) w hpl)
          have T1 := Lib.hid (show (q.take (k2 + 1)).all wordF = wordF (q.getD k2 []) by
            rw [List.take_succ_eq_append_getElem hq, List.all_append, HF.out, hg]
            simp)
          have T2 := Lib.hid (show wordF (q.getD k2 []) = false → q.all wordF = false by
            intro e
            cases hx : q.all wordF with
            | false => rfl
            | true =>
              rw [List.all_eq_true] at hx
              have := hx q[k2] (List.getElem_mem hq)
              rw [← hg, e] at this
              cases this)
          have hlt2 : (k2 : Int) < (m : Int) := by omega
          generalize q.getD k2 [] = p at *
          clear hc0 hg hpl
          cases hv : wordF p with
          | true =>
            have R2 := RW.out
            rw [hv] at R2
            have R3 := Lib.hid R2
            have T3 := Lib.hid (show (q.take (k2 + 1)).all wordF = true by rw [T1.out, hv])
            clear R2
            go_wp2_with (go_at_call 33; (with_reducible refine (R3.out _).mono ?_); rintro e w5 ⟨rfl, rfl⟩)
            go_roundw
            case rel => exact ⟨k2 + 1, by simp, trivial, by omega, T3.out⟩
            case measure => simp only []; omega
          | false =>
            have R2 := RW.out
            rw [hv] at R2
            have R3 := Lib.hid R2
            have E2 := Lib.hid (EN.out (T2.out hv))
            clear R2
            go_wp2_with (go_at_call 33; (with_reducible refine (R3.out _).mono ?_); rintro e w5 ⟨rfl, rfl⟩)
            go_ret2
            exact ⟨none, 0, 0, by rw [E2.out]; rfl, by rw [E2.out, os_no (by decide)]; exact SSl.nil, B.out⟩
        · have E2 := Lib.hid (EO.out (by rw [← HF.out, List.take_of_length_le (by rw [HM.out]; omega)]))
          go_wp2
          go_ret2
          exact ⟨A1, m, c1, by rw [E2.out]; rfl, by rw [E2.out]; exact S2.out, B.out⟩
theorem rwS_part (l : List UInt8) : (∀ p ∈ rwF l, p.length ≤ l.length) := by
  have key : ∀ k : List UInt8, (∀ p ∈ (rwS k).1, p.length ≤ k.length) := by
    intro k
    induction h : k.length generalizing k with
    | zero => have : k = [] := List.eq_nil_of_length_eq_zero h; subst this; simp [rwS]
    | succ n ih =>
      obtain ⟨q, c, rfl⟩ : ∃ q c, k = q ++ [c] := ⟨k.dropLast, k.getLast (by intro e; subst e; simp at h), (List.dropLast_concat_getLast _).symm⟩
      have hq : q.length = n := by simp at h; exact h
      have i1 := ih q hq
      have i2 := rwS_len q
      by_cases hc : c = 10
      · subst hc
        rw [rwS_end]
        intro p hp
        rcases List.mem_append.1 hp with hp | hp
        · have := i1 p hp; omega
        · rw [List.mem_singleton.1 hp]; omega
      · rw [rwS_other q c hc]
        intro p hp
        have := i1 p hp
        omega
  intro p hp
  have h2 := rwS_len l
  unfold rwF at hp
  by_cases e : (rwS l).2 = []
  · rw [if_pos e] at hp; exact key l p hp
  · rw [if_neg e] at hp
    rcases List.mem_append.1 hp with hp | hp
    · exact key l p hp
    · rw [List.mem_singleton.1 hp]; omega
theorem rwE_zero {l : List UInt8} (h : rwE l = 0) : l.length ≤ 20000 ∧ (rwF l).length ≤ 400 := by
  unfold rwE at h
  by_cases g : 20000 < l.length
  · rw [if_pos g] at h; cases h
  · rw [if_neg g] at h
    by_cases g2 : 400 < (rwF l).length
    · rw [if_pos g2] at h; cases h
    · exact ⟨by omega, by omega⟩
end Go.Proofs.Ytkfhjmoocnhekaa
