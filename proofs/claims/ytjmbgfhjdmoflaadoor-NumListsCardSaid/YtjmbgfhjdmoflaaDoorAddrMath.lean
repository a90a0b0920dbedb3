/- Plain facts on addresses and prefixes as texts: the two readers read alike, and read what is written. -/
import Derived.Test.YtjmbgfhjdmoflaaDoorDec
namespace Go.Proofs.YtjmbgfhjdmoflaaDoor
open Go.Lib (decDigits nDigits)

/-- an address's text -/
def txt (a : Nat) : List UInt8 := decDigits (a / 16777216) ++ 46 :: (decDigits (a / 65536 % 256) ++ 46 :: (decDigits (a / 256 % 256) ++ 46 :: decDigits (a % 256)))

/-- one number more, behind a dot where i is not 0 -/
def rdStep (i : Nat) (p : Nat × List UInt8) : Option (Nat × List UInt8) :=
  if 0 < i then
    match p.2 with
    | 46 :: r => (numF 255 r).map fun q => (p.1 * 256 + q.1, q.2)
    | _ => none
  else (numF 255 p.2).map fun q => (p.1 * 256 + q.1, q.2)
/-- the first i numbers, and what stands behind them -/
def rdSt (l : List UInt8) : Nat → Option (Nat × List UInt8)
  | 0 => some (0, l)
  | i + 1 => (rdSt l i).bind (rdStep i)
/-- the address that a text is -/
def rdF (l : List UInt8) : Option Nat :=
  match rdSt l 4 with
  | some (a, []) => some a
  | _ => none
theorem rdSt_none {l : List UInt8} {i : Nat} (h : rdSt l i = none) (j : Nat) : rdSt l (i + j) = none := by
  induction j with
  | zero => exact h
  | succ j ih => rw [← Nat.add_assoc]; simp only [rdSt]; rw [ih]; rfl
theorem rdF_none {l : List UInt8} {i : Nat} (hi : i ≤ 4) (h : rdSt l i = none) : rdF l = none := by
  have := rdSt_none h (4 - i)
  rw [Nat.add_sub_cancel' hi] at this
  simp [rdF, this]
theorem rdStep_first {p q : Nat × List UInt8} : rdStep 0 p = some q ↔ ∃ n, n ≤ 255 ∧ p.2 = decDigits n ++ q.2 ∧ noD q.2 ∧ q.1 = p.1 * 256 + n := by
  unfold rdStep
  rw [if_neg (by omega), Option.map_eq_some_iff]
  constructor
  · rintro ⟨⟨n, r⟩, h, rfl⟩
    obtain ⟨h1, h2, h3⟩ := numF_some h
    exact ⟨n, h1, h2, h3, rfl⟩
  · rintro ⟨n, h1, h2, h3, h4⟩
    refine ⟨(n, q.2), numF_iff.2 ⟨h1, h2, h3⟩, ?_⟩
    rw [← h4]
theorem rdStep_next {i : Nat} (hi : 0 < i) {p q : Nat × List UInt8} : rdStep i p = some q ↔ ∃ n, n ≤ 255 ∧ p.2 = 46 :: (decDigits n ++ q.2) ∧ noD q.2 ∧ q.1 = p.1 * 256 + n := by
  unfold rdStep
  rw [if_pos hi]
  constructor
  · intro h
    split at h
    · rename_i r hr
      obtain ⟨⟨n, b⟩, h1, rfl⟩ := Option.map_eq_some_iff.1 h
      obtain ⟨h1, h2, h3⟩ := numF_some h1
      exact ⟨n, h1, by rw [hr, h2], h3, rfl⟩
    · cases h
  · rintro ⟨n, h1, h2, h3, h4⟩
    rw [h2]
    simp only [Option.map_eq_some_iff]
    refine ⟨(n, q.2), numF_iff.2 ⟨h1, rfl, h3⟩, ?_⟩
    rw [← h4]
theorem noD_nil : noD [] := fun c h => by simp at h
theorem noD_dot (r : List UInt8) : noD (46 :: r) := fun c h => by
  have : (46 : UInt8) = c := by simpa using h
  subst this
  rfl
/-- what is read is an address's text -/
theorem rdF_some {l : List UInt8} {a : Nat} (h : rdF l = some a) : a < 4294967296 ∧ l = txt a := by
  unfold rdF at h
  split at h
  · rename_i a0 hs
    have ea : a0 = a := Option.some.inj h
    subst ea
    simp only [rdSt, Option.bind_some, Option.bind_eq_some_iff] at hs
    obtain ⟨p3, ⟨p2, ⟨p1, h1, h2⟩, h3⟩, h4⟩ := hs
    obtain ⟨n1, b1, e1, _, v1⟩ := rdStep_first.1 h1
    obtain ⟨n2, b2, e2, _, v2⟩ := (rdStep_next (by omega)).1 h2
    obtain ⟨n3, b3, e3, _, v3⟩ := (rdStep_next (by omega)).1 h3
    obtain ⟨n4, b4, e4, _, v4⟩ := (rdStep_next (by omega)).1 h4
    simp only at e1 v1 e4 v4
    rw [List.append_nil] at e4
    refine ⟨by omega, ?_⟩
    rw [e1, e2, e3, e4]
    unfold txt
    rw [show a0 / 16777216 = n1 by omega, show a0 / 65536 % 256 = n2 by omega, show a0 / 256 % 256 = n3 by omega, show a0 % 256 = n4 by omega]
  · cases h
theorem rdF_txt (a : Nat) (h : a < 4294967296) : rdF (txt a) = some a := by
  have h1 : rdSt (txt a) 4 = some (a, []) := by
    simp only [rdSt, Option.bind_some]
    rw [(rdStep_first (q := (_, _))).2 ⟨a / 16777216, by omega, rfl, noD_dot _, rfl⟩, Option.bind_some, (rdStep_next (q := (_, _)) (by omega)).2 ⟨a / 65536 % 256, by omega, rfl, noD_dot _, rfl⟩, Option.bind_some,
      (rdStep_next (q := (_, _)) (by omega)).2 ⟨a / 256 % 256, by omega, rfl, noD_dot _, rfl⟩, Option.bind_some, (rdStep_next (q := (_, [])) (by omega)).2 ⟨a % 256, by omega, by simp, noD_nil, rfl⟩]
    simp
    omega
  simp [rdF, h1]
theorem rdF_iff {l : List UInt8} {a : Nat} : rdF l = some a ↔ a < 4294967296 ∧ l = txt a :=
  ⟨rdF_some, fun ⟨h1, h2⟩ => by rw [h2]; exact rdF_txt a h1⟩

/-- the number that at most three digits are; 1000: not so -/
def digF (p : List UInt8) : Nat := if p.length = 0 ∨ 3 < p.length then 1000 else if p.all isD = true then (if decDigits (valD p) = p then valD p else 1000) else 1000
theorem digF_le (p : List UInt8) (h : digF p ≠ 1000) : p = decDigits (digF p) := by
  unfold digF at h ⊢
  split at h
  · exact absurd rfl h
  · split at h
    · split at h
      · rename_i h1 h2 h3
        rw [if_neg h1, if_pos h2, if_pos h3, h3]
      · exact absurd rfl h
    · exact absurd rfl h
theorem digF_dec (n : Nat) (h : n < 1000) : digF (decDigits n) = n := by
  have h1 : ¬ ((decDigits n).length = 0 ∨ 3 < (decDigits n).length) := by
    have := dec_len 3 (by omega) h
    have := dec_ne n
    intro hh
    rcases hh with hh | hh
    · exact this (List.eq_nil_of_length_eq_zero hh)
    · omega
  have h2 : (decDigits n).all isD = true := List.all_eq_true.2 (dec_digits n)
  unfold digF
  rw [if_neg h1, if_pos h2, dec_val, if_pos rfl]
/-- byte by byte: a, how many dots were read, and what stands behind the last one -/
def refGo : List UInt8 → Nat → Nat → List UInt8 → Option Nat
  | [], a, dots, part => if 255 < digF part ∨ 3 < dots then none else if dots + 1 = 4 then some (a * 256 + digF part) else none
  | c :: r, a, dots, part =>
    if c = 46 then (if 255 < digF part ∨ 3 < dots then none else refGo r (a * 256 + digF part) (dots + 1) [])
    else if 3 < part.length + 1 then none else refGo r a dots (part ++ [c])
def refF (l : List UInt8) : Option Nat := refGo l 0 0 []
theorem refGo_part (q r : List UInt8) (a dots : Nat) (part : List UInt8) (hq : ∀ c ∈ q, isD c = true) (hl : part.length + q.length ≤ 3) : refGo (q ++ r) a dots part = refGo r a dots (part ++ q) := by
  induction q generalizing part with
  | nil => simp
  | cons c q ih =>
    have hc : c ≠ 46 := by
      intro e
      subst e
      have := hq 46 (by simp)
      exact absurd this (by decide)
    simp only [List.length_cons] at hl
    rw [List.cons_append, refGo, if_neg hc, if_neg (by omega), ih (part ++ [c]) (fun x hx => hq x (by simp [hx])) (by simp; omega)]
    simp
theorem refGo_dec (n : Nat) (hn : n ≤ 255) (r : List UInt8) (a dots : Nat) : refGo (decDigits n ++ r) a dots [] = refGo r a dots (decDigits n) := by
  rw [refGo_part _ _ _ _ _ (dec_digits n) (by have := dec_len (u := n) 3 (by omega) (by omega); simpa using this)]
  rfl
theorem refGo_end (n a : Nat) (hn : n ≤ 255) : refGo (decDigits n) a 3 [] = some (a * 256 + n) := by
  have h := refGo_dec n hn [] a 3
  rw [List.append_nil] at h
  rw [h, refGo, digF_dec n (by omega), if_neg (by omega), if_pos (by omega)]
theorem refGo_num (n a dots : Nat) (r : List UInt8) (hn : n ≤ 255) (hd : dots ≤ 3) : refGo (decDigits n ++ 46 :: r) a dots [] = refGo r (a * 256 + n) (dots + 1) [] := by
  rw [refGo_dec n hn, refGo, if_pos rfl, digF_dec n (by omega), if_neg (by omega)]
theorem refF_txt (a : Nat) (h : a < 4294967296) : refF (txt a) = some a := by
  unfold refF txt
  rw [refGo_num _ _ _ _ (by omega) (by omega), refGo_num _ _ _ _ (by omega) (by omega), refGo_num _ _ _ _ (by omega) (by omega), refGo_end _ _ (by omega)]
  congr 1
  omega
/-- numbers with dots between them -/
def join : List Nat → List UInt8
  | [] => []
  | [n] => decDigits n
  | n :: m :: r => decDigits n ++ 46 :: join (m :: r)
theorem refGo_some {l : List UInt8} {a dots : Nat} {part : List UInt8} {x : Nat} (h : refGo l a dots part = some x) :
    ∃ n r, n ≤ 255 ∧ (∀ m ∈ r, m ≤ 255) ∧ part ++ l = join (n :: r) ∧ dots + (r.length + 1) = 4 ∧ x = (n :: r).foldl (fun a n => a * 256 + n) a := by
  induction l generalizing a dots part with
  | nil =>
    rw [refGo] at h
    split at h
    · cases h
    · rename_i h1
      split at h
      · rename_i h2
        refine ⟨digF part, [], by omega, fun m hm => by simp at hm, ?_, by simp; omega, (Option.some.inj h).symm⟩
        rw [List.append_nil]
        exact digF_le part (by omega)
      · cases h
  | cons c l ih =>
    rw [refGo] at h
    split at h
    · rename_i hc
      subst hc
      split at h
      · cases h
      · rename_i h1
        obtain ⟨n, r, h2, h3, h4, h5, h6⟩ := ih h
        refine ⟨digF part, n :: r, by omega, fun m hm => ?_, ?_, by simp only [List.length_cons]; omega, by rw [h6]; simp only [List.foldl_cons]⟩
        · rcases List.mem_cons.1 hm with rfl | hm
          · exact h2
          · exact h3 m hm
        · rw [join, ← h4, ← digF_le part (by omega)]
          rfl
    · split at h
      · cases h
      · obtain ⟨n, r, h2, h3, h4, h5, h6⟩ := ih h
        exact ⟨n, r, h2, h3, by rw [← h4]; simp, h5, h6⟩
theorem three (r : List Nat) (h : r.length = 3) : ∃ a b c, r = [a, b, c] := by
  cases r with
  | nil => simp at h
  | cons a r =>
    cases r with
    | nil => simp at h
    | cons b r =>
      cases r with
      | nil => simp at h
      | cons c r =>
        cases r with
        | nil => exact ⟨a, b, c, rfl⟩
        | cons d r => simp at h
theorem refF_some {l : List UInt8} {a : Nat} (h : refF l = some a) : a < 4294967296 ∧ l = txt a := by
  obtain ⟨n, r, h2, h3, h4, h5, h6⟩ := refGo_some h
  obtain ⟨n2, n3, n4, rfl⟩ := three r (by omega)
  have b2 := h3 n2 (by simp)
  have b3 := h3 n3 (by simp)
  have b4 := h3 n4 (by simp)
  simp only [List.foldl_cons, List.foldl_nil] at h6
  refine ⟨by omega, ?_⟩
  rw [List.nil_append] at h4
  rw [h4]
  simp only [join]
  unfold txt
  rw [show a / 16777216 = n by omega, show a / 65536 % 256 = n2 by omega, show a / 256 % 256 = n3 by omega, show a % 256 = n4 by omega]
theorem refF_eq (l : List UInt8) : refF l = rdF l := by
  cases h : rdF l with
  | some a =>
    obtain ⟨h1, rfl⟩ := rdF_some h
    exact refF_txt a h1
  | none =>
    cases h2 : refF l with
    | none => rfl
    | some b =>
      obtain ⟨h1, rfl⟩ := refF_some h2
      rw [rdF_txt b h1] at h
      cases h

/-- a prefix's text, cut at its first slash -/
def headS (l : List UInt8) : List UInt8 := l.takeWhile (fun c => c != 47)
def tailS (l : List UInt8) : List UInt8 := (l.dropWhile (fun c => c != 47)).drop 1
/-- the prefix that a text is -/
def pfF (l : List UInt8) : Option (Nat × Nat) :=
  match rdF (headS l), numF 32 (tailS l) with
  | some a, some (b, []) => some (a, b)
  | _, _ => none
/-- a prefix's text -/
def ptxt (a b : Nat) : List UInt8 := txt a ++ 47 :: decDigits b
theorem noSlash_txt (a : Nat) : ∀ c ∈ txt a, (c != 47) = true := by
  have hd : ∀ u, ∀ c ∈ decDigits u, (c != 47) = true := fun u c hc => by
    have := (isD_iff c).1 (dec_digits u c hc)
    have h : c ≠ 47 := by
      intro e
      subst e
      exact absurd this.1 (by decide)
    simpa using h
  intro c hc
  unfold txt at hc
  simp only [List.mem_append, List.mem_cons] at hc
  rcases hc with hc | rfl | hc | rfl | hc | rfl | hc
  · exact hd _ c hc
  · rfl
  · exact hd _ c hc
  · rfl
  · exact hd _ c hc
  · rfl
  · exact hd _ c hc
theorem cut_app (d r : List UInt8) (hd : ∀ c ∈ d, (c != 47) = true) : headS (d ++ 47 :: r) = d ∧ tailS (d ++ 47 :: r) = r := by
  unfold headS tailS
  induction d with
  | nil => simp
  | cons x d ih =>
    have hx := hd x (by simp)
    obtain ⟨i1, i2⟩ := ih (fun c hc => hd c (by simp [hc]))
    simp only [List.cons_append, List.takeWhile_cons, List.dropWhile_cons, hx, if_true, i1, i2, and_self]
theorem numF_nil (m : Nat) : numF m [] = none := by simp [numF]
theorem cut_all (l : List UInt8) : (47 ∈ l ∧ l = headS l ++ 47 :: tailS l) ∨ (47 ∉ l ∧ headS l = l ∧ tailS l = []) := by
  unfold headS tailS
  induction l with
  | nil => right; simp
  | cons x l ih =>
    by_cases hx : x = 47
    · left; subst hx; simp
    · have h1 : (x != 47) = true := by simpa using hx
      rcases ih with ⟨h2, h3⟩ | ⟨h2, h3, h4⟩
      · left
        refine ⟨by simp [h2], ?_⟩
        simp only [List.takeWhile_cons, List.dropWhile_cons, h1, if_true, List.cons_append]
        rw [← h3]
      · right
        refine ⟨by simp [h2, Ne.symm hx], ?_, ?_⟩
        · simp only [List.takeWhile_cons, h1, if_true, h3]
        · simp only [List.dropWhile_cons, h1, if_true, h4]
theorem pfF_iff {l : List UInt8} {a b : Nat} : pfF l = some (a, b) ↔ a < 4294967296 ∧ b ≤ 32 ∧ l = ptxt a b := by
  constructor
  · intro h
    unfold pfF at h
    split at h
    · rename_i a0 b0 h1 h2
      have he : (a0, b0) = (a, b) := Option.some.inj h
      simp only [Prod.mk.injEq] at he
      obtain ⟨rfl, rfl⟩ := he
      obtain ⟨h3, h4⟩ := rdF_some h1
      obtain ⟨h5, h6, _⟩ := numF_some h2
      rcases cut_all l with ⟨_, hl⟩ | ⟨_, _, hl⟩
      · refine ⟨h3, h5, ?_⟩
        rw [hl, h4, h6, List.append_nil]
        rfl
      · rw [hl, numF_nil] at h2
        cases h2
    · cases h
  · rintro ⟨h1, h2, rfl⟩
    obtain ⟨e1, e2⟩ := cut_app (txt a) (decDigits b) (noSlash_txt a)
    unfold pfF ptxt
    rw [e1, e2, rdF_txt a h1]
    have := numF_dec (r := []) h2 noD_nil
    rw [List.append_nil] at this
    rw [this]
/-- the prefix that a text is, by the second reader -/
def pfR (l : List UInt8) : Option (Nat × Nat) :=
  if 47 ∈ l then
    match rdF (headS l) with
    | some a => if 32 < digF (tailS l) then none else some (a, digF (tailS l))
    | none => none
  else none
theorem pfR_eq (l : List UInt8) : pfR l = pfF l := by
  unfold pfR
  split
  · rename_i hm
    split
    · rename_i a ha
      split
      · rename_i hd
        cases h : pfF l with
        | none => rfl
        | some p =>
          obtain ⟨a2, b2⟩ := p
          obtain ⟨h1, h2, h3⟩ := pfF_iff.1 h
          obtain ⟨_, e2⟩ := cut_app (txt a2) (decDigits b2) (noSlash_txt a2)
          rw [h3] at hd
          unfold ptxt at hd
          rw [e2, digF_dec _ (by omega)] at hd
          omega
      · rename_i hd
        symm
        rw [pfF_iff]
        obtain ⟨h1, h2⟩ := rdF_some ha
        refine ⟨h1, by omega, ?_⟩
        rcases cut_all l with ⟨_, hl⟩ | ⟨h, _, _⟩
        · have := digF_le (tailS l) (by omega)
          unfold ptxt
          rw [← this, ← h2, ← hl]
        · exact absurd hm h
    · rename_i ha
      unfold pfF
      rw [ha]
  · rename_i hm
    rcases cut_all l with ⟨h, _⟩ | ⟨_, _, h⟩
    · exact absurd h hm
    · unfold pfF
      rw [h, numF_nil]
      split
      · rename_i h; cases h
      · rfl
end Go.Proofs.YtjmbgfhjdmoflaaDoor
