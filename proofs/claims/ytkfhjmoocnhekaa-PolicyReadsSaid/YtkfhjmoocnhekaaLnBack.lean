/- A row's words, joined, read again, and no longer than the row; a text's rows, ended anew, no longer than the text but for one byte. -/
import Derived.Test.YtkfhjmoocnhekaaLnRef
namespace Go.Proofs.Ytkfhjmoocnhekaa
open Go.RowKit

theorem bk_none35 (l : List UInt8) (h : (35 : UInt8) ∉ l) : headC 35 l = l := by
  induction l with
  | nil => rfl
  | cons a r ih =>
    rw [(headC_cons 35 a r (fun e => h (by simp [e]))).1, ih (fun e => h (by simp [e]))]
/-- a remark behind a row -/
theorem bk_join (l : List UInt8) : (joinF (wsS l).1).length + (if (wsS l).1 = [] then 0 else 1) + (wsS l).2.length ≤ l.length ∧ (joinF (wsF l)).length ≤ l.length := by
  have step : ∀ q w : List UInt8, ∀ ps : List (List UInt8), (joinF (ps ++ [w])).length = (joinF ps).length + (if ps = [] then 0 else 1) + w.length := fun _ w ps => by
    rw [joinF_snoc]
    by_cases e : ps = []
    · subst e; simp [joinF]
    · rw [if_neg e, if_neg e]; simp; omega
  have fin : ∀ l, (joinF (wsS l).1).length + (if (wsS l).1 = [] then 0 else 1) + (wsS l).2.length ≤ l.length → (joinF (wsF l)).length ≤ l.length := fun l h => by
    by_cases e : (wsS l).2 = []
    · rw [wsF_none e]; omega
    · rw [wsF_some e, step [] _ _]; omega
  induction hn : l.length generalizing l with
  | zero => have : l = [] := List.eq_nil_of_length_eq_zero hn; subst this; simp [wsS, wsF, wsEnd, joinF]
  | succ n ih =>
    obtain ⟨q, c, rfl⟩ : ∃ q c, l = q ++ [c] := ⟨l.dropLast, l.getLast (by intro e; subst e; simp at hn), (List.dropLast_concat_getLast _).symm⟩
    have hq : q.length = n := by simpa using hn
    obtain ⟨i1, i2⟩ := ih q hq
    have a : (joinF (wsS (q ++ [c])).1).length + (if (wsS (q ++ [c])).1 = [] then 0 else 1) + (wsS (q ++ [c])).2.length ≤ (q ++ [c]).length := by
      by_cases hc : c = 32 ∨ c = 9
      · rw [wsS_blank q c hc]
        simp only [List.length_nil, List.length_append, List.length_cons]
        split <;> omega
      · rw [wsS_other q c hc]
        simp only [List.length_append, List.length_cons, List.length_nil]
        omega
    rw [← hn]
    exact ⟨a, fin _ a⟩
theorem bk_rows (l : List UInt8) : l = endF (rwS l).1 ++ (rwS l).2 := by
  induction hn : l.length generalizing l with
  | zero => have : l = [] := List.eq_nil_of_length_eq_zero hn; subst this; rfl
  | succ n ih =>
    obtain ⟨q, c, rfl⟩ : ∃ q c, l = q ++ [c] := ⟨l.dropLast, l.getLast (by intro e; subst e; simp at hn), (List.dropLast_concat_getLast _).symm⟩
    have iq := ih q (by simpa using hn)
    by_cases hc : c = 10
    · subst hc
      rw [rwS_end, endF_snoc, ← iq]
      simp
    · rw [rwS_other q c hc, ← List.append_assoc, ← iq]
theorem bk_len (l : List UInt8) : (endF (rwF l)).length ≤ l.length + 1 := by
  have e := congrArg List.length (bk_rows l)
  rw [List.length_append] at e
  unfold rwF
  by_cases h : (rwS l).2 = []
  · rw [if_pos h]; omega
  · rw [if_neg h, endF_snoc, List.length_append, List.length_append]
    simp only [List.length_cons, List.length_nil]
    omega
theorem bk_words {ws : List (List UInt8)} (h : ∀ w ∈ ws, wordF w = true) : wsF (ahead (joinF ws)) = ws ∧ wlE (joinF ws) = 0 := by
  have hno : (35 : UInt8) ∉ joinF ws := joinF_mem ws 35 (by decide) (fun w hw hc => by
    have := (wch_iff 35).1 (((wordF_iff w).1 (h w hw)).2.2 35 hc)
    exact this.2.2 rfl)
  have e : wsF (ahead (joinF ws)) = ws := by
    unfold ahead
    rw [bk_none35 _ hno]
    have := join_words ws h [] rfl
    rw [List.nil_append, wsS_blank _ _ (.inl rfl)] at this
    exact (Prod.mk.inj this).1
  exact ⟨e, wlE_ok (by rw [e]; exact List.all_eq_true.2 h)⟩
theorem bk_short (M : Nat) : ∀ ps : List (List UInt8), (∀ p ∈ ps, p.length ≤ M) → (joinF ps).length ≤ ps.length * (M + 1)
  | [], _ => by simp [joinF]
  | [p], h => by have := h p (by simp); simp [joinF]; omega
  | p :: q :: r, h => by
    have h1 := h p (by simp)
    have h2 := bk_short M (q :: r) (fun x hx => h x (by simp only [List.mem_cons] at hx ⊢; exact .inr hx))
    rw [joinF, List.length_append, List.length_append, List.length_cons (a := p), Nat.add_mul]
    simp only [List.length_cons, List.length_nil] at h2 ⊢
    omega
theorem bk_no10 {ws : List (List UInt8)} (h : ∀ w ∈ ws, wordF w = true) : (10 : UInt8) ∉ joinF ws := joinF_mem ws 10 (by decide) (fun w hw hc => by
  have := (wch_iff 10).1 (((wordF_iff w).1 (h w hw)).2.2 10 hc)
  exact absurd this.1 (by decide))
end Go.Proofs.Ytkfhjmoocnhekaa
