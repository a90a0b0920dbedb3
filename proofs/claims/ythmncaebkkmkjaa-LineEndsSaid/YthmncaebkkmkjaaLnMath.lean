/- Rows and words: a text's rows, a row's words, words joined; each taken back. -/
import Derived.Test.YthmncaebkkmkjaaBase
namespace Go.Proofs.Ythmncaebkkmkjaa
open Go.RowKit

/-! Words. -/
/-- may a byte stand in a word? -/
def wch (c : UInt8) : Bool := decide (33 ≤ c.toNat) && (decide (c.toNat ≤ 126) && decide (c.toNat ≠ 35))
theorem wch_iff (c : UInt8) : wch c = true ↔ 33 ≤ c.toNat ∧ c.toNat ≤ 126 ∧ c.toNat ≠ 35 := by unfold wch; simp
/-- is a text a word? -/
def wordF (l : List UInt8) : Bool := decide (1 ≤ l.length) && (decide (l.length ≤ 40) && l.all wch)
theorem wordF_iff (l : List UInt8) : wordF l = true ↔ 1 ≤ l.length ∧ l.length ≤ 40 ∧ ∀ c ∈ l, wch c = true := by unfold wordF; simp
theorem wordF_len {l : List UInt8} (h : ¬ (1 ≤ l.length ∧ l.length ≤ 40)) : wordF l = false := by
  cases hx : wordF l with
  | false => rfl
  | true => exact absurd ⟨((wordF_iff l).1 hx).1, ((wordF_iff l).1 hx).2.1⟩ h
theorem wordF_mid {l : List UInt8} (h0 : 1 ≤ l.length) (h1 : l.length ≤ 40) : wordF l = l.all wch := by unfold wordF; simp [h0, h1]
/-- what stands between blanks: the words that are whole, and the one under way -/
def wsStep (s : List (List UInt8) × List UInt8) (c : UInt8) : List (List UInt8) × List UInt8 := if c = 32 ∨ c = 9 then (if s.2 = [] then s.1 else s.1 ++ [s.2], []) else (s.1, s.2 ++ [c])
def wsS (l : List UInt8) : List (List UInt8) × List UInt8 := l.foldl wsStep ([], [])
def wsEnd (s : List (List UInt8) × List UInt8) : List (List UInt8) := if s.2 = [] then s.1 else s.1 ++ [s.2]
/-- a row's stretches without a blank -/
def wsF (l : List UInt8) : List (List UInt8) := wsEnd (wsS l)
theorem wsS_snoc (l : List UInt8) (c : UInt8) : wsS (l ++ [c]) = wsStep (wsS l) c := by simp [wsS]
theorem wsS_blank (l : List UInt8) (c : UInt8) (h : c = 32 ∨ c = 9) : wsS (l ++ [c]) = (wsF l, []) := by rw [wsS_snoc, wsStep, if_pos h]; rfl
theorem wsS_other (l : List UInt8) (c : UInt8) (h : ¬ (c = 32 ∨ c = 9)) : wsS (l ++ [c]) = ((wsS l).1, (wsS l).2 ++ [c]) := by rw [wsS_snoc, wsStep, if_neg h]
theorem wsF_none {l : List UInt8} (h : (wsS l).2 = []) : wsF l = (wsS l).1 := by unfold wsF wsEnd; rw [if_pos h]
theorem wsF_some {l : List UInt8} (h : ¬ (wsS l).2 = []) : wsF l = (wsS l).1 ++ [(wsS l).2] := by unfold wsF wsEnd; rw [if_neg h]
theorem wsS_app (l m : List UInt8) : wsS (l ++ m) = m.foldl wsStep (wsS l) := by simp [wsS]
theorem ws_fold (w : List UInt8) (h : ∀ c ∈ w, wch c = true) : ∀ s, w.foldl wsStep s = (s.1, s.2 ++ w) := by
  induction w with
  | nil => intro s; simp
  | cons c r ih =>
    intro s
    have hc := (wch_iff c).1 (h c (by simp))
    have hn : ¬ (c = 32 ∨ c = 9) := by
      rintro (e | e) <;> subst e <;> simp at hc
    rw [List.foldl_cons, wsStep, if_neg hn, ih (fun d hd => h d (by simp [hd]))]
    simp
/-- no more words than bytes, and no longer ones -/
theorem wsS_len (l : List UInt8) : (wsS l).1.length ≤ l.length ∧ (wsS l).2.length ≤ l.length ∧ (wsF l).length ≤ l.length := by
  have key : ∀ k : List UInt8, (wsS k).1.length + (if (wsS k).2 = [] then 0 else 1) ≤ k.length ∧ (wsS k).2.length ≤ k.length := by
    intro k
    induction h : k.length generalizing k with
    | zero => have : k = [] := List.eq_nil_of_length_eq_zero h; subst this; simp [wsS]
    | succ n ih =>
      obtain ⟨q, c, rfl⟩ : ∃ q c, k = q ++ [c] := ⟨k.dropLast, k.getLast (by intro e; subst e; simp at h), (List.dropLast_concat_getLast _).symm⟩
      have hq : q.length = n := by simp at h; exact h
      obtain ⟨i1, i2⟩ := ih q hq
      by_cases hc : c = 32 ∨ c = 9
      · rw [wsS_blank q c hc]
        unfold wsF wsEnd
        by_cases e : (wsS q).2 = []
        · rw [if_pos e] at i1 ⊢; simp; omega
        · rw [if_neg e] at i1 ⊢; simp; omega
      · rw [wsS_other q c hc]
        refine ⟨?_, by simp; omega⟩
        simp
        by_cases e : (wsS q).2 = []
        · rw [if_pos e] at i1; omega
        · rw [if_neg e] at i1; omega
  obtain ⟨h1, h2⟩ := key l
  refine ⟨by omega, h2, ?_⟩
  unfold wsF wsEnd
  by_cases e : (wsS l).2 = []
  · rw [if_pos e] at h1 ⊢; omega
  · rw [if_neg e] at h1 ⊢; simp; omega
theorem wsS_part (l : List UInt8) : (∀ p ∈ wsF l, p.length ≤ l.length) := by
  have key : ∀ k : List UInt8, (∀ p ∈ (wsS k).1, p.length ≤ k.length) := by
    intro k
    induction h : k.length generalizing k with
    | zero => have : k = [] := List.eq_nil_of_length_eq_zero h; subst this; simp [wsS]
    | succ n ih =>
      obtain ⟨q, c, rfl⟩ : ∃ q c, k = q ++ [c] := ⟨k.dropLast, k.getLast (by intro e; subst e; simp at h), (List.dropLast_concat_getLast _).symm⟩
      have hq : q.length = n := by simp at h; exact h
      have i1 := ih q hq
      have i2 := (wsS_len q).2.1
      by_cases hc : c = 32 ∨ c = 9
      · rw [wsS_blank q c hc]
        intro p hp
        unfold wsF wsEnd at hp
        by_cases e : (wsS q).2 = []
        · rw [if_pos e] at hp
          have := i1 p hp
          omega
        · rw [if_neg e] at hp
          rcases List.mem_append.1 hp with hp | hp
          · have := i1 p hp; omega
          · rw [List.mem_singleton.1 hp]; omega
      · rw [wsS_other q c hc]
        intro p hp
        have := i1 p hp
        omega
  intro p hp
  have h2 := (wsS_len l).2.1
  unfold wsF wsEnd at hp
  by_cases e : (wsS l).2 = []
  · rw [if_pos e] at hp; exact key l p hp
  · rw [if_neg e] at hp
    rcases List.mem_append.1 hp with hp | hp
    · exact key l p hp
    · rw [List.mem_singleton.1 hp]; exact h2
/-- what stands ahead of a remark -/
def ahead (l : List UInt8) : List UInt8 := headC 35 l
/-- why a row's words are not told -/
def wdE (l : List UInt8) : Int := if (wsF (ahead l)).all wordF = true then 0 else 20
theorem wdE_ok {l : List UInt8} (h : (wsF (ahead l)).all wordF = true) : wdE l = 0 := by unfold wdE; rw [if_pos h]
theorem wdE_no {l : List UInt8} (h : (wsF (ahead l)).all wordF = false) : wdE l = 20 := by unfold wdE; rw [h]; rfl

/-! Words joined. -/
def joinF : List (List UInt8) → List UInt8
  | [] => []
  | [w] => w
  | w :: x :: r => w ++ [32] ++ joinF (x :: r)
theorem joinF_snoc : ∀ (ws : List (List UInt8)) (w : List UInt8), joinF (ws ++ [w]) = if ws = [] then w else joinF ws ++ [32] ++ w
  | [], w => rfl
  | [a], w => by simp [joinF]
  | a :: b :: r, w => by
    have ih := joinF_snoc (b :: r) w
    rw [if_neg (by simp)] at ih
    have e : a :: b :: r ++ [w] = a :: b :: (r ++ [w]) := rfl
    have e2 : b :: (r ++ [w]) = b :: r ++ [w] := rfl
    rw [e, joinF, e2, ih, if_neg (by simp), joinF]
    simp
theorem join_words (ws : List (List UInt8)) (h : ∀ w ∈ ws, wordF w = true) : ∀ p, wsS p = ([], []) → wsS (p ++ joinF ws ++ [32]) = (ws, []) := by
  intro p hp
  induction hn : ws.length generalizing ws with
  | zero =>
    have : ws = [] := List.eq_nil_of_length_eq_zero hn
    subst this
    rw [joinF, List.append_nil, wsS_blank _ _ (.inl rfl)]
    unfold wsF
    rw [hp]
    rfl
  | succ n ih =>
    obtain ⟨q, w, rfl⟩ : ∃ q w, ws = q ++ [w] := ⟨ws.dropLast, ws.getLast (by intro e; subst e; simp at hn), (List.dropLast_concat_getLast _).symm⟩
    have hw := (wordF_iff w).1 (h w (by simp))
    have hne : ¬ w = [] := by intro e; subst e; simp at hw
    have iq := ih q (fun x hx => h x (by simp [hx])) (by simpa using hn)
    have key : wsS (p ++ joinF (q ++ [w])) = (q, w) := by
      rw [joinF_snoc]
      by_cases hq : q = []
      · subst hq
        rw [if_pos rfl, wsS_app, hp, ws_fold w hw.2.2]
        simp
      · rw [if_neg hq, ← List.append_assoc, ← List.append_assoc, wsS_app, iq, ws_fold w hw.2.2]
        simp
    rw [wsS_blank _ _ (.inl rfl)]
    unfold wsF wsEnd
    rw [key, if_neg hne]
theorem joinF_len (ws : List (List UInt8)) (h : ∀ w ∈ ws, w.length ≤ 40) : (joinF ws).length ≤ 41 * ws.length := by
  induction hn : ws.length generalizing ws with
  | zero => have : ws = [] := List.eq_nil_of_length_eq_zero hn; subst this; simp [joinF]
  | succ n ih =>
    obtain ⟨q, w, rfl⟩ : ∃ q w, ws = q ++ [w] := ⟨ws.dropLast, ws.getLast (by intro e; subst e; simp at hn), (List.dropLast_concat_getLast _).symm⟩
    have hw := h w (by simp)
    have iq := ih q (fun x hx => h x (by simp [hx])) (by simpa using hn)
    rw [joinF_snoc]
    split
    · omega
    · simp; omega
theorem joinF_mem (ws : List (List UInt8)) (c : UInt8) (hc : c ≠ 32) (h : ∀ w ∈ ws, c ∉ w) : c ∉ joinF ws := by
  induction hn : ws.length generalizing ws with
  | zero => have : ws = [] := List.eq_nil_of_length_eq_zero hn; subst this; simp [joinF]
  | succ n ih =>
    obtain ⟨q, w, rfl⟩ : ∃ q w, ws = q ++ [w] := ⟨ws.dropLast, ws.getLast (by intro e; subst e; simp at hn), (List.dropLast_concat_getLast _).symm⟩
    have hw := h w (by simp)
    have iq := ih q (fun x hx => h x (by simp [hx])) (by simpa using hn)
    rw [joinF_snoc]
    split
    · exact hw
    · simp [iq, hw, hc]
theorem headC_app (c : UInt8) (l m : List UInt8) (h : c ∉ l) : headC c (l ++ c :: m) = l := by
  induction l with
  | nil => exact (headC_same c m).1
  | cons a r ih =>
    rw [List.cons_append, (headC_cons c a _ (fun e => h (by simp [e]))).1, ih (fun e => h (by simp [e]))]
/-- words that are joined, with a remark behind, are told as they were -/
theorem words_back (ws : List (List UInt8)) (k : List UInt8) (h : ∀ w ∈ ws, wordF w = true) : wsF (ahead ([9] ++ joinF ws ++ [32, 35] ++ k)) = ws := by
  have e : [9] ++ joinF ws ++ [32, 35] ++ k = ([9] ++ joinF ws ++ [32]) ++ 35 :: k := by simp
  have hno : (35 : UInt8) ∉ [9] ++ joinF ws ++ [32] := by
    have := joinF_mem ws 35 (by decide) (fun w hw hc => by
      have := (wch_iff 35).1 (((wordF_iff w).1 (h w hw)).2.2 35 hc)
      exact this.2.2 rfl)
    simp [this]
  unfold ahead
  rw [e, headC_app 35 _ _ hno]
  have := join_words ws h [9] rfl
  unfold wsF wsEnd
  rw [this, if_pos rfl]

/-! Rows. -/
def rwStep (s : List (List UInt8) × List UInt8) (c : UInt8) : List (List UInt8) × List UInt8 := if c = 10 then (s.1 ++ [s.2], []) else (s.1, s.2 ++ [c])
def rwS (l : List UInt8) : List (List UInt8) × List UInt8 := l.foldl rwStep ([], [])
/-- a text's rows -/
def rwF (l : List UInt8) : List (List UInt8) := if (rwS l).2 = [] then (rwS l).1 else (rwS l).1 ++ [(rwS l).2]
theorem rwS_snoc (l : List UInt8) (c : UInt8) : rwS (l ++ [c]) = rwStep (rwS l) c := by simp [rwS]
theorem rwS_end (l : List UInt8) : rwS (l ++ [10]) = ((rwS l).1 ++ [(rwS l).2], []) := by rw [rwS_snoc, rwStep, if_pos rfl]
theorem rwS_other (l : List UInt8) (c : UInt8) (h : ¬ c = 10) : rwS (l ++ [c]) = ((rwS l).1, (rwS l).2 ++ [c]) := by rw [rwS_snoc, rwStep, if_neg h]
theorem rwS_rest (l : List UInt8) : ∃ p, l = p ++ (rwS l).2 := by
  induction hn : l.length generalizing l with
  | zero => have : l = [] := List.eq_nil_of_length_eq_zero hn; subst this; exact ⟨[], rfl⟩
  | succ n ih =>
    obtain ⟨q, c, rfl⟩ : ∃ q c, l = q ++ [c] := ⟨l.dropLast, l.getLast (by intro e; subst e; simp at hn), (List.dropLast_concat_getLast _).symm⟩
    obtain ⟨p, hp⟩ := ih q (by simpa using hn)
    by_cases hc : c = 10
    · subst hc
      rw [rwS_end]
      exact ⟨q ++ [10], by simp⟩
    · rw [rwS_other q c hc]
      exact ⟨p, by rw [← List.append_assoc, ← hp]⟩
theorem rwS_drop (l : List UInt8) : l.drop (l.length - (rwS l).2.length) = (rwS l).2 := by
  obtain ⟨p, hp⟩ := rwS_rest l
  have hl : l.length = p.length + (rwS l).2.length := by
    have := congrArg List.length hp
    rwa [List.length_append] at this
  generalize (rwS l).2 = r at *
  rw [hl, Nat.add_sub_cancel, hp, List.drop_left]
theorem rwS_len (l : List UInt8) : (rwS l).1.length + (rwS l).2.length ≤ l.length := by
  induction hn : l.length generalizing l with
  | zero => have : l = [] := List.eq_nil_of_length_eq_zero hn; subst this; simp [rwS]
  | succ n ih =>
    obtain ⟨q, c, rfl⟩ : ∃ q c, l = q ++ [c] := ⟨l.dropLast, l.getLast (by intro e; subst e; simp at hn), (List.dropLast_concat_getLast _).symm⟩
    have i1 := ih q (by simpa using hn)
    by_cases hc : c = 10
    · subst hc
      rw [rwS_end]
      simp
      omega
    · rw [rwS_other q c hc]
      simp
      omega
/-- why a text's rows are not told -/
def rwE (l : List UInt8) : Int := if 20000 < l.length then 3 else if 400 < (rwF l).length then 3 else 0
theorem rwE_big {l : List UInt8} (h : 20000 < l.length) : rwE l = 3 := by unfold rwE; rw [if_pos h]
theorem rwE_many {l : List UInt8} (h : ¬ 20000 < l.length) (g : 400 < (rwF l).length) : rwE l = 3 := by unfold rwE; rw [if_neg h, if_pos g]
theorem rwE_ok {l : List UInt8} (h : ¬ 20000 < l.length) (g : ¬ 400 < (rwF l).length) : rwE l = 0 := by unfold rwE; rw [if_neg h, if_neg g]
/-- rows with a byte 10 behind each -/
def endF : List (List UInt8) → List UInt8
  | [] => []
  | r :: s => r ++ [10] ++ endF s
theorem endF_snoc : ∀ (s : List (List UInt8)) (r : List UInt8), endF (s ++ [r]) = endF s ++ r ++ [10]
  | [], r => by simp [endF]
  | a :: s, r => by simp [endF, endF_snoc s r]
theorem rw_fold (r : List UInt8) (h : (10 : UInt8) ∉ r) : ∀ s, r.foldl rwStep s = (s.1, s.2 ++ r) := by
  induction r with
  | nil => intro s; simp
  | cons c t ih =>
    intro s
    rw [List.foldl_cons, rwStep, if_neg (fun e => h (by simp [e])), ih (fun e => h (by simp [e]))]
    simp
theorem rwS_app (l m : List UInt8) : rwS (l ++ m) = m.foldl rwStep (rwS l) := by simp [rwS]
theorem rwS_back (s : List (List UInt8)) (h : ∀ r ∈ s, (10 : UInt8) ∉ r) : rwS (endF s) = (s, []) := by
  induction hn : s.length generalizing s with
  | zero => have : s = [] := List.eq_nil_of_length_eq_zero hn; subst this; rfl
  | succ n ih =>
    obtain ⟨q, r, rfl⟩ : ∃ q r, s = q ++ [r] := ⟨s.dropLast, s.getLast (by intro e; subst e; simp at hn), (List.dropLast_concat_getLast _).symm⟩
    have iq := ih q (fun x hx => h x (by simp [hx])) (by simpa using hn)
    rw [endF_snoc, rwS_end, rwS_app, iq, rw_fold r (h r (by simp))]
    simp
/-- rows are told as they were -/
theorem rows_back (s : List (List UInt8)) (h : ∀ r ∈ s, (10 : UInt8) ∉ r) : rwF (endF s) = s := by
  unfold rwF
  rw [rwS_back s h, if_pos rfl]
/-- and the last one may lack its byte 10, if it has bytes -/
theorem rows_lack (q : List (List UInt8)) (r : List UInt8) (h : ∀ x ∈ q ++ [r], (10 : UInt8) ∉ x) (hr : ¬ r = []) : rwF ((endF (q ++ [r])).take ((endF (q ++ [r])).length - 1)) = q ++ [r] := by
  have e : (endF (q ++ [r])).take ((endF (q ++ [r])).length - 1) = endF q ++ r := by
    have key : ∀ (x : List UInt8) (c : UInt8), (x ++ [c]).take ((x ++ [c]).length - 1) = x := fun x c => by simp
    rw [endF_snoc]
    exact key _ _
  rw [e]
  have k : rwS (endF q ++ r) = (q, r) := by
    rw [rwS_app, rwS_back q (fun x hx => h x (by simp [hx])), rw_fold r (h r (by simp))]
    simp
  unfold rwF
  rw [k, if_neg hr]
end Go.Proofs.Ythmncaebkkmkjaa
