/- Plain facts on decimal numerals: which rows of digits are a number's, and whose. -/
import Derived.Lib.ItoaNum
namespace Go.Proofs.YtjmbgfhjdmoflaaDoor
open Go.Lib (decDigits nDigits)

def isD (c : UInt8) : Bool := 48 ≤ c && c ≤ 57
theorem isD_iff (c : UInt8) : isD c = true ↔ 48 ≤ c.toNat ∧ c.toNat ≤ 57 := by
  unfold isD; simp [UInt8.le_iff_toNat_le]
/-- the number that a row of digits is -/
def valD (l : List UInt8) : Nat := l.foldl (fun n c => n * 10 + (c.toNat - 48)) 0
theorem valD_snoc (l : List UInt8) (c : UInt8) : valD (l ++ [c]) = valD l * 10 + (c.toNat - 48) := by simp [valD]
theorem valD_nil : valD [] = 0 := rfl

theorem ofNat_toNat {n : Nat} (h : n < 256) : (UInt8.ofNat n).toNat = n := by simp; omega
theorem ofNat_of (c : UInt8) (n : Nat) (h : c.toNat = n) : UInt8.ofNat n = c := by subst h; simp

theorem dec_small {u : Nat} (h : u < 10) : decDigits u = [UInt8.ofNat (48 + u)] := by rw [decDigits, dif_pos h]
theorem dec_big {u : Nat} (h : ¬ u < 10) : decDigits u = decDigits (u / 10) ++ [UInt8.ofNat (48 + u % 10)] := by rw [decDigits, dif_neg h]

theorem dec_ne (u : Nat) : decDigits u ≠ [] := by
  by_cases h : u < 10
  · rw [dec_small h]; simp
  · rw [dec_big h]; simp
theorem dec_digits (u : Nat) : ∀ c ∈ decDigits u, isD c = true := by
  induction u using Nat.strongRecOn with
  | _ u ih =>
    by_cases h : u < 10
    · rw [dec_small h]
      intro c hc
      rw [List.mem_singleton.1 hc, isD_iff, ofNat_toNat (by omega)]
      omega
    · rw [dec_big h]
      intro c hc
      rcases List.mem_append.1 hc with hc | hc
      · exact ih (u / 10) (by omega) c hc
      · rw [List.mem_singleton.1 hc, isD_iff, ofNat_toNat (by omega)]
        omega
theorem dec_val (u : Nat) : valD (decDigits u) = u := by
  induction u using Nat.strongRecOn with
  | _ u ih =>
    by_cases h : u < 10
    · rw [dec_small h, show [UInt8.ofNat (48 + u)] = [] ++ [UInt8.ofNat (48 + u)] from rfl, valD_snoc, ofNat_toNat (by omega), valD_nil]
      omega
    · rw [dec_big h, valD_snoc, ih (u / 10) (by omega), ofNat_toNat (by omega)]
      omega
theorem dec_inj {a b : Nat} (h : decDigits a = decDigits b) : a = b := by rw [← dec_val a, h, dec_val]
theorem dec_head (u : Nat) (h : 0 < u) : (decDigits u).head? ≠ some 48 := by
  induction u using Nat.strongRecOn with
  | _ u ih =>
    by_cases h1 : u < 10
    · rw [dec_small h1]
      intro e
      have e2 : UInt8.ofNat (48 + u) = 48 := by simpa using e
      have e3 := congrArg UInt8.toNat e2
      rw [ofNat_toNat (by omega)] at e3
      have : (48 : UInt8).toNat = 48 := rfl
      omega
    · rw [dec_big h1]
      have ih := ih (u / 10) (by omega) (by omega)
      cases hd : decDigits (u / 10) with
      | nil => exact absurd hd (dec_ne _)
      | cons x r => rw [hd] at ih; simpa using ih
theorem dec_zero : decDigits 0 = [48] := by rw [dec_small (by omega)]; rfl
theorem dec_len {u : Nat} (k : Nat) (hk : 0 < k) (h : u < 10 ^ k) : (decDigits u).length ≤ k := by
  induction k generalizing u with
  | zero => omega
  | succ k ih =>
    by_cases h1 : u < 10
    · rw [dec_small h1]; simp
    · rw [dec_big h1, List.length_append]
      have h2 : u / 10 < 10 ^ k := by rw [Nat.pow_succ] at h; omega
      have hk0 : 0 < k := by
        rcases Nat.eq_zero_or_pos k with rfl | hp
        · simp at h2; omega
        · exact hp
      have := ih hk0 h2
      simp; omega

/-- a row of digits that may be a numeral: one at least, and no nought ahead of others -/
def okD (d : List UInt8) : Prop := d ≠ [] ∧ (d.head? = some 48 → d.length = 1)
theorem ok_dec (u : Nat) : okD (decDigits u) := by
  refine ⟨dec_ne u, fun h => ?_⟩
  rcases Nat.eq_zero_or_pos u with rfl | hp
  · rw [dec_zero]; rfl
  · exact absurd h (dec_head u hp)
theorem ok_front {d : List UInt8} {c : UInt8} (h : okD (d ++ [c])) (hd : d ≠ []) : okD d ∧ d.head? ≠ some 48 := by
  cases d with
  | nil => exact absurd rfl hd
  | cons x r =>
    have h2 := h.2
    have hx : x ≠ 48 := by
      intro e
      subst e
      have := h2 rfl
      simp at this
    exact ⟨⟨by simp, fun e => absurd (by simpa using e) hx⟩, by simpa using hx⟩
theorem snoc_ind {P : List UInt8 → Prop} (h0 : P []) (h1 : ∀ d c, P d → P (d ++ [c])) (d : List UInt8) : P d := by
  have key : ∀ r : List UInt8, P r.reverse := by
    intro r
    induction r with
    | nil => exact h0
    | cons c r ih => rw [List.reverse_cons]; exact h1 _ _ ih
  have := key d.reverse
  rwa [List.reverse_reverse] at this
theorem val_pos {d : List UInt8} (hd : d ≠ []) (hD : ∀ c ∈ d, isD c = true) (hz : d.head? ≠ some 48) : 0 < valD d := by
  induction d using snoc_ind with
  | h0 => exact absurd rfl hd
  | h1 d c ih =>
    rw [valD_snoc]
    have hc := (isD_iff c).1 (hD c (by simp))
    cases d with
    | nil =>
      have : c ≠ 48 := by simpa using hz
      have h48 : c.toNat ≠ 48 := fun e => this (by rw [← ofNat_of c 48 e]; rfl)
      simp [valD]
      omega
    | cons x r =>
      have := ih (by simp) (fun c hc => hD c (List.mem_append_left _ hc)) (by simpa using hz)
      omega
/-- a row of digits that may be a numeral is that of its number -/
theorem dec_of {d : List UInt8} (h : okD d) (hD : ∀ c ∈ d, isD c = true) : decDigits (valD d) = d := by
  induction d using snoc_ind with
  | h0 => exact absurd rfl h.1
  | h1 d c ih =>
    have hc := (isD_iff c).1 (hD c (by simp))
    rw [valD_snoc]
    by_cases hd : d = []
    · subst hd
      rw [valD_nil, dec_small (by omega), ofNat_of c _ (by omega)]
      rfl
    · obtain ⟨h1, h2⟩ := ok_front h hd
      have hDd : ∀ c ∈ d, isD c = true := fun x hx => hD x (by simp [hx])
      have hp := val_pos hd hDd h2
      rw [dec_big (by omega), show (valD d * 10 + (c.toNat - 48)) / 10 = valD d by omega, ih h1 hDd, ofNat_of c _ (by omega)]

/-- the number that a text begins with, at most 'most', and what stands behind it -/
def numF (most : Nat) (l : List UInt8) : Option (Nat × List UInt8) :=
  if l.takeWhile isD = [] then none
  else if (l.takeWhile isD).head? = some 48 ∧ 1 < (l.takeWhile isD).length then none
  else if most < valD (l.takeWhile isD) then none
  else some (valD (l.takeWhile isD), l.dropWhile isD)
/-- a text that begins with no digit -/
def noD (l : List UInt8) : Prop := ∀ c, l.head? = some c → isD c = false
theorem takeD_app (d r : List UInt8) (hD : ∀ c ∈ d, isD c = true) (hr : noD r) : (d ++ r).takeWhile isD = d ∧ (d ++ r).dropWhile isD = r := by
  induction d with
  | nil =>
    cases r with
    | nil => simp
    | cons c r => have := hr c rfl; simp [this]
  | cons x d ih =>
    have hx := hD x (by simp)
    obtain ⟨i1, i2⟩ := ih (fun c hc => hD c (by simp [hc]))
    simp [hx, i1, i2]
theorem dropD_no (l : List UInt8) : noD (l.dropWhile isD) := by
  induction l with
  | nil => intro c hc; simp at hc
  | cons x l ih =>
    intro c hc
    by_cases hx : isD x = true
    · rw [List.dropWhile_cons, if_pos hx] at hc; exact ih c hc
    · rw [List.dropWhile_cons, if_neg hx] at hc
      have : x = c := by simpa using hc
      subst this
      simpa using hx
theorem takeD_all (l : List UInt8) : ∀ c ∈ l.takeWhile isD, isD c = true := by
  induction l with
  | nil => intro c hc; simp at hc
  | cons x l ih =>
    intro c hc
    by_cases hx : isD x = true
    · rw [List.takeWhile_cons, if_pos hx] at hc
      rcases List.mem_cons.1 hc with rfl | hc
      · exact hx
      · exact ih c hc
    · rw [List.takeWhile_cons, if_neg hx] at hc; simp at hc
/-- what is read is written -/
theorem numF_some {most : Nat} {l r : List UInt8} {n : Nat} (h : numF most l = some (n, r)) : n ≤ most ∧ l = decDigits n ++ r ∧ noD r := by
  unfold numF at h
  split at h
  · cases h
  · rename_i h1
    split at h
    · cases h
    · rename_i h2
      split at h
      · cases h
      · rename_i h3
        simp only [Option.some.injEq, Prod.mk.injEq] at h
        obtain ⟨rfl, rfl⟩ := h
        have hok : okD (l.takeWhile isD) := ⟨h1, fun e => by
          have h0 : (l.takeWhile isD).length ≠ 0 := fun e => h1 (List.eq_nil_of_length_eq_zero e)
          have : ¬ 1 < (l.takeWhile isD).length := fun e2 => h2 ⟨e, e2⟩
          omega⟩
        rw [dec_of hok (takeD_all l), List.takeWhile_append_dropWhile]
        exact ⟨by omega, rfl, dropD_no l⟩
/-- what is written is read -/
theorem numF_dec {most n : Nat} {r : List UInt8} (h : n ≤ most) (hr : noD r) : numF most (decDigits n ++ r) = some (n, r) := by
  obtain ⟨e1, e2⟩ := takeD_app (decDigits n) r (dec_digits n) hr
  unfold numF
  rw [e1, e2, dec_val, if_neg (dec_ne n), if_neg (fun hh => by have := (ok_dec n).2 hh.1; omega), if_neg (by omega)]
theorem numF_iff {most n : Nat} {l r : List UInt8} : numF most l = some (n, r) ↔ n ≤ most ∧ l = decDigits n ++ r ∧ noD r :=
  ⟨numF_some, fun ⟨h1, h2, h3⟩ => by rw [h2]; exact numF_dec h1 h3⟩

/-! What a walk over a text's digits keeps. -/
theorem takeD_at {l : List UInt8} {k : Nat} (hD : ∀ c ∈ l.take k, isD c = true) (hr : noD (l.drop k)) : l.takeWhile isD = l.take k ∧ l.dropWhile isD = l.drop k := by
  have h := takeD_app (l.take k) (l.drop k) hD hr
  rwa [List.take_append_drop] at h
theorem take_more {l : List UInt8} {k : Nat} (hk : k < l.length) : l.take (k + 1) = l.take k ++ [l.getD k 0] := by
  rw [List.take_succ_eq_append_getElem hk]
  simp [List.getD, List.getElem?_eq_getElem hk]
theorem take_digits {l : List UInt8} {k : Nat} (hk : k < l.length) (hD : ∀ c ∈ l.take k, isD c = true) (hc : isD (l.getD k 0) = true) : ∀ c ∈ l.take (k + 1), isD c = true := by
  rw [take_more hk]
  intro c hc2
  rcases List.mem_append.1 hc2 with h | h
  · exact hD c h
  · rw [List.mem_singleton.1 h]; exact hc
theorem takeD_more {l : List UInt8} {k : Nat} (hD : ∀ c ∈ l.take k, isD c = true) : ∃ d, l.takeWhile isD = l.take k ++ d ∧ ∀ c ∈ d, isD c = true := by
  refine ⟨(l.drop k).takeWhile isD, ?_, takeD_all _⟩
  conv => lhs; rw [← List.take_append_drop k l]
  have key : ∀ d r : List UInt8, (∀ c ∈ d, isD c = true) → (d ++ r).takeWhile isD = d ++ r.takeWhile isD := by
    intro d r h
    induction d with
    | nil => rfl
    | cons x d ih => rw [List.cons_append, List.takeWhile_cons, if_pos (h x (by simp)), ih (fun c hc => h c (by simp [hc]))]; rfl
  exact key _ _ hD
theorem valD_app_le (d e : List UInt8) : valD d ≤ valD (d ++ e) := by
  induction e using snoc_ind with
  | h0 => simp
  | h1 e c ih => rw [← List.append_assoc, valD_snoc]; omega
structure NumInv (most : Nat) (l : List UInt8) (k n : Nat) : Prop where
  le : k ≤ l.length
  dig : ∀ c ∈ l.take k, isD c = true
  val : n = valD (l.take k)
  most : n ≤ most
  ok : k = 0 ∨ okD (l.take k)
theorem NumInv.start (most : Nat) (l : List UInt8) : NumInv most l 0 0 := ⟨by omega, fun c h => by simp at h, rfl, by omega, .inl rfl⟩
theorem NumInv.step {most : Nat} {l : List UInt8} {k n : Nat} (h : NumInv most l k n) (hk : k < l.length) (hc : isD (l.getD k 0) = true) (hz : 0 < k → n ≠ 0) (hle : n * 10 + ((l.getD k 0).toNat - 48) ≤ most) :
    NumInv most l (k + 1) (n * 10 + ((l.getD k 0).toNat - 48)) := by
  refine ⟨hk, take_digits hk h.dig hc, by rw [take_more hk, valD_snoc, ← h.val], hle, .inr ?_⟩
  rw [take_more hk]
  rcases Nat.eq_zero_or_pos k with rfl | hp
  · exact ⟨by simp, fun _ => by simp⟩
  · rcases h.ok with h0 | ⟨h1, h2⟩
    · omega
    · refine ⟨by simp, fun e => ?_⟩
      exfalso
      apply hz hp
      have hhead : (l.take k).head? = some 48 := by
        cases hl : l.take k with
        | nil => exact absurd hl h1
        | cons x r => rw [hl] at e; simpa using e
      have hone := h2 hhead
      rw [h.val]
      cases hl : l.take k with
      | nil => exact absurd hl h1
      | cons x r =>
        rw [hl] at hone hhead
        have hr : r = [] := List.eq_nil_of_length_eq_zero (by simpa using hone)
        have hx : x = 48 := by simpa using hhead
        subst hr; subst hx
        rfl
theorem noD_at {l : List UInt8} {k : Nat} (h : k < l.length → isD (l.getD k 0) = false) : noD (l.drop k) := by
  intro c hc
  by_cases hk : k < l.length
  · have h2 := h hk
    rw [List.head?_drop, List.getElem?_eq_getElem hk] at hc
    have : l[k] = c := by simpa using hc
    rw [← this]
    simpa [List.getD, List.getElem?_eq_getElem hk] using h2
  · rw [List.drop_eq_nil_of_le (by omega)] at hc
    simp at hc
theorem NumInv.stop {most : Nat} {l : List UInt8} {k n : Nat} (h : NumInv most l k n) (hk : k < l.length → isD (l.getD k 0) = false) : numF most l = if k = 0 then none else some (n, l.drop k) := by
  obtain ⟨e1, e2⟩ := takeD_at h.dig (noD_at hk)
  unfold numF
  rw [e1, e2]
  by_cases h0 : k = 0
  · subst h0
    simp
  · rw [if_neg h0]
    rcases h.ok with h1 | ⟨h1, h2⟩
    · exact absurd h1 h0
    · rw [if_neg h1, if_neg (fun hh => by have := h2 hh.1; omega), ← h.val, if_neg (by have := h.most; omega)]
theorem NumInv.nought {most : Nat} {l : List UInt8} {k n : Nat} (h : NumInv most l k n) (hk : k < l.length) (hc : isD (l.getD k 0) = true) (h0 : 0 < k) (hn : n = 0) : numF most l = none := by
  obtain ⟨d, hd, _⟩ := takeD_more (take_digits hk h.dig hc)
  have hz : (l.take k).head? = some 48 := by
    rcases h.ok with h1 | h1
    · omega
    · cases hx : (l.take k).head? with
      | none => exact absurd (List.head?_eq_none_iff.1 hx) h1.1
      | some x =>
        by_cases hx2 : x = 48
        · rw [hx2]
        · exfalso
          have := val_pos h1.1 h.dig (by rw [hx]; simpa using hx2)
          rw [← h.val] at this
          omega
  unfold numF
  rw [hd]
  split
  · rfl
  · rw [if_pos]
    rw [take_more hk] at hd ⊢
    have hl : (l.take k).length = k := by rw [List.length_take]; omega
    refine ⟨?_, by simp [hl]; omega⟩
    cases ht : l.take k with
    | nil => rw [ht] at hz; simp at hz
    | cons x r => rw [ht] at hz; simpa using hz
theorem NumInv.over {most : Nat} {l : List UInt8} {k n : Nat} (h : NumInv most l k n) (hk : k < l.length) (hc : isD (l.getD k 0) = true) (hgt : most < n * 10 + ((l.getD k 0).toNat - 48)) : numF most l = none := by
  obtain ⟨d, hd, _⟩ := takeD_more (take_digits hk h.dig hc)
  have hv : most < valD (l.takeWhile isD) := by
    rw [hd]
    have h1 := valD_app_le (l.take (k + 1)) d
    have h2 : valD (l.take (k + 1)) = n * 10 + ((l.getD k 0).toNat - 48) := by rw [take_more hk, valD_snoc, ← h.val]
    omega
  unfold numF
  split
  · rfl
  · split
    · rfl
    · rfl
end Go.Proofs.YtjmbgfhjdmoflaaDoor
