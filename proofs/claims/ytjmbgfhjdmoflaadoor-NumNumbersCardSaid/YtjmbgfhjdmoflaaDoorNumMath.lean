/- Plain facts on numbers as texts, on lists of texts with a comma between, and on numbers that rise. -/
import Derived.Test.YtjmbgfhjdmoflaaDoorDec
import Derived.Lib.AtoiAll
import Derived.Lib.AtoiAllCases
import Derived.Lib.AtoiTie
import Derived.Lib.ItoaNum
namespace Go.Proofs.YtjmbgfhjdmoflaaDoor
open Go.Lib (decDigits nDigits itoa atoiAll atoi decNat decFrom)

/-- what stands behind a sign -/
def trimM (l : List UInt8) : List UInt8 := if l.head? = some 45 then l.tail else l
theorem trimM_minus (r : List UInt8) : trimM (45 :: r) = r := by simp [trimM]
theorem trimM_other (l : List UInt8) (h : l.head? ≠ some 45) : trimM l = l := by unfold trimM; rw [if_neg h]
theorem itoa_pos (u : Nat) : itoa (u : Int) = decDigits u := by unfold itoa; rw [if_neg (by omega)]; simp
theorem itoa_min (u : Nat) (h : 1 ≤ u) : itoa (-(u : Int)) = 45 :: decDigits u := by unfold itoa; rw [if_pos (by omega)]; simp
theorem isD_45 : isD 45 = false := by decide
theorem dec_head45 (u : Nat) : (decDigits u).head? ≠ some 45 := by
  intro h
  cases hd : decDigits u with
  | nil => exact dec_ne u hd
  | cons x r =>
    rw [hd] at h
    have hx : x = 45 := by simpa using h
    have := dec_digits u x (by rw [hd]; simp)
    rw [hx, isD_45] at this
    cases this
theorem int_cases (n : Int) : (∃ u : Nat, n = (u : Int)) ∨ ∃ u : Nat, 1 ≤ u ∧ n = -(u : Int) := by
  by_cases h : n < 0
  · exact .inr ⟨n.natAbs, by omega, by omega⟩
  · exact .inl ⟨n.toNat, by omega⟩
theorem trim_itoa (n : Int) : trimM (itoa n) = decDigits n.natAbs := by
  rcases int_cases n with ⟨u, rfl⟩ | ⟨u, h, rfl⟩
  · rw [itoa_pos, trimM_other _ (dec_head45 u)]; simp
  · rw [itoa_min u h, trimM_minus]; simp
theorem itoa_head (n : Int) : (itoa n).head? = some 45 ↔ n < 0 := by
  rcases int_cases n with ⟨u, rfl⟩ | ⟨u, h, rfl⟩
  · rw [itoa_pos]; exact ⟨fun h => absurd h (dec_head45 u), fun h => by omega⟩
  · rw [itoa_min u h]; exact ⟨fun _ => by omega, fun _ => rfl⟩
theorem itoa_ne (n : Int) : itoa n ≠ [] := by
  rcases int_cases n with ⟨u, rfl⟩ | ⟨u, h, rfl⟩
  · rw [itoa_pos]; exact dec_ne u
  · rw [itoa_min u h]; simp
theorem itoa_inj {a b : Int} (h : itoa a = itoa b) : a = b := by
  have h1 := (itoa_head a)
  have h2 := (itoa_head b)
  have h3 := trim_itoa a
  rw [h, trim_itoa b] at h3
  have h4 := dec_inj h3
  rw [h] at h1
  have h5 : a < 0 ↔ b < 0 := h1.symm.trans h2
  omega
theorem decFrom_all (l : List UInt8) : ∀ (acc : Nat), (∀ c ∈ l, isD c = true) → decFrom acc l = some (l.foldl (fun n c => n * 10 + (c.toNat - 48)) acc) := by
  induction l with
  | nil => intro acc _; rfl
  | cons c r ih =>
    intro acc h
    have hc := (isD_iff c).1 (h c (by simp))
    have hd : Go.Lib.digitVal c = some (c.toNat - 48) := by unfold Go.Lib.digitVal; rw [if_pos hc]
    simp only [decFrom, hd, List.foldl_cons]
    exact ih _ (fun x hx => h x (by simp [hx]))
theorem decNat_all (l : List UInt8) (h0 : l ≠ []) (h : ∀ c ∈ l, isD c = true) : decNat l = some (valD l) := by
  unfold decNat
  have : l.isEmpty = false := by simpa using h0
  rw [this]
  simp only [Bool.false_eq_true, if_false]
  exact decFrom_all l 0 h
theorem atoi_itoa (n : Int) : atoi (itoa n) = some n := by
  rcases int_cases n with ⟨u, rfl⟩ | ⟨u, h, rfl⟩
  · rw [itoa_pos]
    have hn := decNat_all _ (dec_ne u) (dec_digits u)
    rw [dec_val] at hn
    cases hd : decDigits u with
    | nil => exact absurd hd (dec_ne u)
    | cons x r =>
      have hx := (isD_iff x).1 (dec_digits u x (by rw [hd]; simp))
      have h1 : (x == 45) = false := by
        rw [beq_eq_false_iff_ne]; intro e; subst e; revert hx; decide
      have h2 : (x == 43) = false := by
        rw [beq_eq_false_iff_ne]; intro e; subst e; revert hx; decide
      rw [hd] at hn
      simp only [atoi, h1, h2, Bool.false_eq_true, if_false, hn]
      rfl
  · rw [itoa_min u h]
    have hn := decNat_all _ (dec_ne u) (dec_digits u)
    rw [dec_val] at hn
    simp [atoi, hn]
theorem trim_len (l : List UInt8) : l.length ≤ (trimM l).length + 1 := by
  unfold trimM
  split
  · simp; omega
  · omega
theorem trim_le (l : List UInt8) : (trimM l).length ≤ l.length := by
  unfold trimM
  split
  · simp
  · omega
theorem atoiAll_itoa (n : Int) (h : (trimM (itoa n)).length ≤ 10) : atoiAll (itoa n) = .ok n := by
  rw [Go.Lib.atoiAll_short _ (by have := trim_len (itoa n); omega), atoi_itoa]
  rfl

/-- the number from lo to hi whose text, of at most ten digits, l is -/
def nF (l : List UInt8) (lo hi : Int) : Option Int :=
  if 10 < (trimM l).length then none
  else match atoiAll l with
    | .ok n => if lo ≤ n ∧ n ≤ hi ∧ itoa n = l then some n else none
    | _ => none
theorem nF_iff {l : List UInt8} {lo hi n : Int} : nF l lo hi = some n ↔ itoa n = l ∧ (trimM l).length ≤ 10 ∧ lo ≤ n ∧ n ≤ hi := by
  unfold nF
  by_cases h : 10 < (trimM l).length
  · rw [if_pos h]
    exact ⟨(fun e => by cases e), fun e => by omega⟩
  · rw [if_neg h]
    constructor
    · intro e
      split at e
      · rename_i m hm
        split at e
        · rename_i hc
          obtain rfl : m = n := by simpa using e
          exact ⟨hc.2.2, by omega, hc.1, hc.2.1⟩
        · cases e
      · cases e
    · rintro ⟨rfl, h1, h2, h3⟩
      rw [atoiAll_itoa n h1]
      simp only
      rw [if_pos ⟨h2, h3, trivial⟩]
theorem opt_eq {α : Type} {a b : Option α} (h : ∀ x, a = some x ↔ b = some x) : a = b := by
  cases a with
  | none =>
    cases b with
    | none => rfl
    | some y => exact absurd ((h y).2 rfl) (by simp)
  | some x => exact ((h x).1 rfl).symm
/-- the same, as the document's reader finds it -/
def rN (l : List UInt8) : Int := if l.head? = some 45 then -(valD (trimM l) : Int) else (valD (trimM l) : Int)
theorem nF_ref {l : List UInt8} {lo hi : Int} (h1 : 1 ≤ (trimM l).length) (h2 : (trimM l).length ≤ 10) (h3 : ∀ c ∈ trimM l, isD c = true) :
    nF l lo hi = if lo ≤ rN l ∧ rN l ≤ hi ∧ itoa (rN l) = l then some (rN l) else none := by
  refine opt_eq fun n => ?_
  rw [nF_iff]
  have key : itoa n = l → rN l = n := by
    rintro rfl
    unfold rN
    rw [trim_itoa, dec_val]
    by_cases hn : n < 0
    · rw [if_pos ((itoa_head n).2 hn)]; omega
    · rw [if_neg (fun e => hn ((itoa_head n).1 e))]; omega
  constructor
  · rintro ⟨e, _, g1, g2⟩
    rw [key e, if_pos ⟨g1, g2, e⟩]
  · intro e
    split at e
    · rename_i hc
      have e2 : rN l = n := by simpa using e
      rw [e2] at hc
      exact ⟨hc.2.2, h2, hc.1, hc.2.1⟩
    · cases e
theorem nF_none_len {l : List UInt8} {lo hi : Int} (h : (trimM l).length < 1 ∨ 10 < (trimM l).length) : nF l lo hi = none := by
  rcases hx : nF l lo hi with _ | n
  · rfl
  · obtain ⟨e, h1, _⟩ := nF_iff.1 hx
    subst e
    rw [trim_itoa] at h h1
    have : (decDigits n.natAbs).length ≠ 0 := fun e => dec_ne _ (List.eq_nil_of_length_eq_zero e)
    omega
theorem nF_none_digit {l : List UInt8} {lo hi : Int} {c : UInt8} (hc : c ∈ trimM l) (h : isD c = false) : nF l lo hi = none := by
  rcases hx : nF l lo hi with _ | n
  · rfl
  · obtain ⟨e, h1, _⟩ := nF_iff.1 hx
    subst e
    rw [trim_itoa] at hc
    rw [dec_digits _ c hc] at h
    cases h
theorem nF_nought (n lo hi : Int) : nF (48 :: itoa n) lo hi = none := by
  rcases hx : nF (48 :: itoa n) lo hi with _ | m
  · rfl
  · obtain ⟨e, _, _⟩ := nF_iff.1 hx
    exfalso
    rcases int_cases m with ⟨u, rfl⟩ | ⟨u, h, rfl⟩
    · rw [itoa_pos] at e
      have h2 := (ok_dec u).2 (by rw [e]; rfl)
      rw [e] at h2
      simp at h2
      exact itoa_ne n h2
    · rw [itoa_min u h] at e
      simp at e
theorem nF_back (n lo hi : Int) (h : n.natAbs < 10000000000) : nF (itoa n) lo hi = if lo ≤ n ∧ n ≤ hi then some n else none := by
  refine opt_eq fun m => ?_
  rw [nF_iff]
  constructor
  · rintro ⟨e, _, g1, g2⟩
    obtain rfl := itoa_inj e
    rw [if_pos ⟨g1, g2⟩]
  · intro e
    split at e
    · rename_i hc
      obtain rfl : n = m := by simpa using e
      exact ⟨rfl, by rw [trim_itoa]; exact dec_len 10 (by omega) (by omega), hc.1, hc.2⟩
    · cases e
theorem itoa_no44 (n : Int) : (44 : UInt8) ∉ itoa n := by
  have key : ∀ u : Nat, (44 : UInt8) ∉ decDigits u := fun u h => by
    have := dec_digits u 44 h
    revert this
    decide
  rcases int_cases n with ⟨u, rfl⟩ | ⟨u, h, rfl⟩
  · rw [itoa_pos]; exact key u
  · rw [itoa_min u h]
    intro h2
    rcases List.mem_cons.1 h2 with h2 | h2
    · revert h2; decide
    · exact key u h2
theorem itoa_len (n : Int) (h0 : -9223372036854775808 ≤ n) (h1 : n ≤ 9223372036854775807) : (itoa n).length ≤ 20 := by
  have h := trim_len (itoa n)
  rw [trim_itoa] at h
  have h2 : (decDigits n.natAbs).length ≤ 19 := dec_len 19 (by omega) (show n.natAbs < 10000000000000000000 by omega)
  omega

/-! Lists of texts with a comma between. -/
def splitC : List UInt8 → List (List UInt8)
  | [] => [[]]
  | c :: r => if c = 44 then [] :: splitC r else match splitC r with
    | h :: t => (c :: h) :: t
    | [] => [[c]]
theorem splitC_ne (l : List UInt8) : splitC l ≠ [] := by
  cases l with
  | nil => simp [splitC]
  | cons c r =>
    simp only [splitC]
    split
    · simp
    · split <;> simp
theorem splitC_comma (r : List UInt8) : splitC (44 :: r) = [] :: splitC r := by simp [splitC]
theorem splitC_other (c : UInt8) (r h : List UInt8) (t : List (List UInt8)) (hc : c ≠ 44) (hr : splitC r = h :: t) : splitC (c :: r) = (c :: h) :: t := by
  simp [splitC, hc, hr]
theorem splitC_one (l : List UInt8) (h : (44 : UInt8) ∉ l) : splitC l = [l] := by
  induction l with
  | nil => rfl
  | cons c r ih =>
    simp only [List.mem_cons, not_or] at h
    exact splitC_other c r r [] (Ne.symm h.1) (ih h.2)
theorem splitC_app (a b : List UInt8) : splitC (a ++ 44 :: b) = splitC a ++ splitC b := by
  induction a with
  | nil => rw [List.nil_append, splitC_comma]; rfl
  | cons c r ih =>
    by_cases hc : c = 44
    · subst hc
      rw [List.cons_append, splitC_comma, ih, splitC_comma]; rfl
    · cases hr : splitC r with
      | nil => exact absurd hr (splitC_ne r)
      | cons h t =>
        rw [List.cons_append, splitC_other c _ h (t ++ splitC b) hc (by rw [ih, hr]; rfl), splitC_other c r h t hc hr]; rfl
/-- the last one grows -/
def lastC (c : UInt8) (ps : List (List UInt8)) : List (List UInt8) := ps.dropLast ++ [ps.getLastD [] ++ [c]]
theorem splitC_snoc_comma (l : List UInt8) : splitC (l ++ [44]) = splitC l ++ [[]] := splitC_app l []
theorem splitC_snoc_other (l : List UInt8) (c : UInt8) (hc : c ≠ 44) : splitC (l ++ [c]) = lastC c (splitC l) := by
  induction l with
  | nil => simp [splitC, hc, lastC]
  | cons x r ih =>
    cases hr : splitC r with
    | nil => exact absurd hr (splitC_ne r)
    | cons h t =>
      rw [hr] at ih
      by_cases hx : x = 44
      · subst hx
        rw [List.cons_append, splitC_comma, splitC_comma, ih, hr]
        simp [lastC]
      · cases t with
        | nil =>
          have i2 : splitC (r ++ [c]) = [h ++ [c]] := by rw [ih]; simp [lastC]
          rw [List.cons_append, splitC_other x _ _ _ hx i2, splitC_other x _ _ _ hx hr]
          simp [lastC]
        | cons h2 t2 =>
          have i2 : splitC (r ++ [c]) = h :: (lastC c (h2 :: t2)) := by rw [ih]; simp [lastC]
          rw [List.cons_append, splitC_other x _ _ _ hx i2, splitC_other x _ _ _ hx hr]
          simp [lastC]
/-- all of them read, or none -/
def allRd (rd : List UInt8 → Option Int) : List (List UInt8) → Option (List Int)
  | [] => some []
  | a :: r => (rd a).bind fun x => (allRd rd r).map (x :: ·)
theorem allRd_app (rd : List UInt8 → Option Int) (a b : List (List UInt8)) : allRd rd (a ++ b) = (allRd rd a).bind fun xs => (allRd rd b).map (xs ++ ·) := by
  induction a with
  | nil => simp [allRd]
  | cons x r ih =>
    simp only [List.cons_append, allRd, ih]
    cases rd x with
    | none => rfl
    | some v =>
      simp only [Option.bind_some]
      cases allRd rd r with
      | none => rfl
      | some ys =>
        simp only [Option.bind_some, Option.map_some]
        cases allRd rd b with
        | none => rfl
        | some zs => rfl
theorem allRd_len {rd : List UInt8 → Option Int} {a : List (List UInt8)} {xs : List Int} (h : allRd rd a = some xs) : xs.length = a.length := by
  induction a generalizing xs with
  | nil => have : xs = [] := by simpa [allRd] using h.symm
           rw [this]; rfl
  | cons x r ih =>
    simp only [allRd, Option.bind_eq_some_iff, Option.map_eq_some_iff] at h
    obtain ⟨v, _, ys, h2, rfl⟩ := h
    simp [ih h2]
theorem allRd_snoc {rd : List UInt8 → Option Int} {a : List (List UInt8)} {xs : List Int} {p : List UInt8} {v : Int} (h : allRd rd a = some xs) (hp : rd p = some v) : allRd rd (a ++ [p]) = some (xs ++ [v]) := by
  rw [allRd_app, h]
  simp [allRd, hp]
theorem allRd_no {rd : List UInt8 → Option Int} {a b : List (List UInt8)} {p : List UInt8} (hp : rd p = none) : allRd rd (a ++ p :: b) = none := by
  rw [allRd_app]
  simp [allRd, hp]
theorem allRd_map {rd : List UInt8 → Option Int} (f : Int → List UInt8) (xs : List Int) (h : ∀ x ∈ xs, rd (f x) = some x) : allRd rd (xs.map f) = some xs := by
  induction xs with
  | nil => rfl
  | cons x r ih => simp [allRd, h x (by simp), ih (fun y hy => h y (by simp [hy]))]
theorem allRd_all {rd : List UInt8 → Option Int} {a : List (List UInt8)} {xs : List Int} (h : allRd rd a = some xs) : ∀ x ∈ xs, ∃ p, rd p = some x := by
  induction a generalizing xs with
  | nil => have : xs = [] := by simpa [allRd] using h.symm
           subst this; intro x hx; cases hx
  | cons p r ih =>
    simp only [allRd, Option.bind_eq_some_iff, Option.map_eq_some_iff] at h
    obtain ⟨v, h1, ys, h2, rfl⟩ := h
    intro x hx
    rcases List.mem_cons.1 hx with rfl | hx
    · exact ⟨p, h1⟩
    · exact ih h2 x hx

/-! Numbers that rise. -/
def upB : List Int → Bool
  | [] => true
  | [_] => true
  | a :: b :: r => decide (a < b) && upB (b :: r)
def Up (xs : List Int) (k : Nat) : Prop := ∀ i, 0 < i → i < k → xs.getD (i - 1) 0 < xs.getD i 0
theorem Up.one (xs : List Int) : Up xs 1 := fun i h0 h1 => by omega
theorem Up.zero (xs : List Int) : Up xs 0 := fun i h0 h1 => by omega
theorem Up.next {xs : List Int} {k : Nat} (h : Up xs k) (hk : xs.getD (k - 1) 0 < xs.getD k 0) : Up xs (k + 1) := fun i h0 h1 => by
  by_cases e : i = k
  · subst e; exact hk
  · exact h i h0 (by omega)
theorem Up.less {xs : List Int} {k j : Nat} (h : Up xs k) (hj : j ≤ k) : Up xs j := fun i h0 h1 => h i h0 (by omega)
theorem upB_iff (xs : List Int) : upB xs = true ↔ Up xs xs.length := by
  induction xs with
  | nil => exact ⟨fun _ => Up.zero _, fun _ => rfl⟩
  | cons a r ih =>
    cases r with
    | nil => exact ⟨fun _ => Up.one _, fun _ => rfl⟩
    | cons b r =>
      simp only [upB, Bool.and_eq_true, decide_eq_true_eq]
      constructor
      · rintro ⟨h1, h2⟩ i h0 hi
        have h3 := ih.1 h2
        rcases i with _ | i
        · omega
        · rcases i with _ | i
          · simpa using h1
          · have := h3 (i + 1) (by omega) (by simpa using hi)
            simpa using this
      · intro h
        refine ⟨by simpa using h 1 (by omega) (by simp), ih.2 fun i h0 hi => ?_⟩
        have := h (i + 1) (by omega) (by simpa using hi)
        rcases i with _ | i
        · omega
        · simpa using this
/-- 1 to 16 numbers, each greater than the one ahead -/
def risB (xs : List Int) : Bool := decide (1 ≤ xs.length) && decide (xs.length ≤ 16) && upB xs
theorem risB_iff (xs : List Int) : risB xs = true ↔ 1 ≤ xs.length ∧ xs.length ≤ 16 ∧ Up xs xs.length := by
  unfold risB
  rw [Bool.and_eq_true, Bool.and_eq_true, upB_iff, decide_eq_true_eq, decide_eq_true_eq, and_assoc]
theorem risB_no (xs : List Int) (h : xs.length < 1 ∨ 16 < xs.length) : risB xs = false := by
  cases hx : risB xs with
  | false => rfl
  | true => have := (risB_iff xs).1 hx; omega
theorem risB_down {xs : List Int} {k : Nat} (h0 : 0 < k) (hk : k < xs.length) (h : xs.getD k 0 ≤ xs.getD (k - 1) 0) : risB xs = false := by
  cases hx : risB xs with
  | false => rfl
  | true => have := ((risB_iff xs).1 hx).2.2 k h0 hk; omega
/-- .. each of them from lo to hi -/
def inB (xs : List Int) (lo hi : Int) : Bool := xs.all fun x => decide (lo ≤ x) && decide (x ≤ hi)
def risIn (xs : List Int) (lo hi : Int) : Bool := risB xs && inB xs lo hi
theorem Up.mono {xs : List Int} {n : Nat} (h : Up xs n) : ∀ j i, i ≤ j → j < n → xs.getD i 0 ≤ xs.getD j 0 := by
  intro j
  induction j with
  | zero => intro i hi _; obtain rfl : i = 0 := by omega
            omega
  | succ j ih =>
    intro i hi hj
    by_cases e : i = j + 1
    · subst e; omega
    · have := ih i (by omega) (by omega)
      have := h (j + 1) (by omega) hj
      rw [Nat.add_sub_cancel] at this
      omega
theorem getD_mem {xs : List Int} {i : Nat} (h : i < xs.length) : xs.getD i 0 ∈ xs := by
  rw [List.getD, List.getElem?_eq_getElem h]; exact List.getElem_mem h
theorem mem_getD {xs : List Int} {x : Int} (h : x ∈ xs) : ∃ i, i < xs.length ∧ xs.getD i 0 = x := by
  obtain ⟨i, hi, e⟩ := List.mem_iff_getElem.1 h
  exact ⟨i, hi, by rw [List.getD, List.getElem?_eq_getElem hi]; exact e⟩
theorem inB_iff (xs : List Int) (lo hi : Int) : inB xs lo hi = true ↔ ∀ x ∈ xs, lo ≤ x ∧ x ≤ hi := by
  unfold inB
  rw [List.all_eq_true]
  exact ⟨fun h x hx => by have := h x hx; simpa using this, fun h x hx => by have := h x hx; simpa using this⟩
theorem risIn_ends (xs : List Int) (lo hi : Int) (h : risB xs = true) : inB xs lo hi = (decide (lo ≤ xs.getD 0 0) && decide (xs.getD (xs.length - 1) 0 ≤ hi)) := by
  obtain ⟨h1, h2, h3⟩ := (risB_iff xs).1 h
  rw [Bool.eq_iff_iff, inB_iff, Bool.and_eq_true, decide_eq_true_eq, decide_eq_true_eq]
  constructor
  · intro g
    exact ⟨(g _ (getD_mem (by omega))).1, (g _ (getD_mem (by omega))).2⟩
  · rintro ⟨g1, g2⟩ x hx
    obtain ⟨i, hi', rfl⟩ := mem_getD hx
    have := h3.mono i 0 (by omega) hi'
    have := h3.mono (xs.length - 1) i (by omega) (by omega)
    omega

/-- the list that a text is -/
def rlF (rd : List UInt8 → Option Int) (l : List UInt8) : Option (List Int) := match allRd rd (splitC l) with
  | some xs => if risB xs = true then some xs else none
  | none => none
theorem rlF_none {rd : List UInt8 → Option Int} {l : List UInt8} (h : allRd rd (splitC l) = none) : rlF rd l = none := by unfold rlF; rw [h]
theorem rlF_yes {rd : List UInt8 → Option Int} {l : List UInt8} {xs : List Int} (h : allRd rd (splitC l) = some xs) (hr : risB xs = true) : rlF rd l = some xs := by
  unfold rlF; rw [h]; simp only; rw [if_pos hr]
theorem rlF_no {rd : List UInt8 → Option Int} {l : List UInt8} {xs : List Int} (h : allRd rd (splitC l) = some xs) (hr : risB xs = false) : rlF rd l = none := by
  unfold rlF; rw [h]; simp only; rw [if_neg (by rw [hr]; simp)]
theorem rlF_many {rd : List UInt8 → Option Int} {l : List UInt8} (h : 16 < (splitC l).length) : rlF rd l = none := by
  rcases hx : allRd rd (splitC l) with _ | xs
  · exact rlF_none hx
  · exact rlF_no hx (risB_no _ (.inr (by rw [allRd_len hx]; exact h)))

/-! Texts, a comma between. -/
def jnK (f : Int → List UInt8) (xs : List Int) : Nat → List UInt8
  | 0 => []
  | k + 1 => jnK f xs k ++ (if 0 < k then [44] else []) ++ f (xs.getD k 0)
def jn (f : Int → List UInt8) (xs : List Int) : List UInt8 := jnK f xs xs.length
theorem jnK_len {f : Int → List UInt8} {xs : List Int} {m : Nat} (h : ∀ x, (f x).length ≤ m) (k : Nat) : (jnK f xs k).length ≤ k * (m + 1) := by
  induction k with
  | zero => simp [jnK]
  | succ k ih =>
    have := h (xs.getD k 0)
    rw [jnK, List.length_append, List.length_append]
    have e : (k + 1) * (m + 1) = k * (m + 1) + (m + 1) := by rw [Nat.add_mul]; omega
    rw [e]
    split
    · rw [List.length_singleton]; omega
    · rw [List.length_nil]; omega
theorem splitC_jnK {f : Int → List UInt8} {xs : List Int} (h : ∀ x, (44 : UInt8) ∉ f x) (k : Nat) (hk : k + 1 ≤ xs.length) : splitC (jnK f xs (k + 1)) = (xs.take (k + 1)).map f := by
  induction k with
  | zero =>
    have e : jnK f xs 1 = f (xs.getD 0 0) := by simp [jnK]
    rw [e, splitC_one _ (h _)]
    cases xs with
    | nil => simp at hk
    | cons x r => simp
  | succ k ih =>
    have e : jnK f xs (k + 1 + 1) = jnK f xs (k + 1) ++ 44 :: f (xs.getD (k + 1) 0) := by
      conv => lhs; unfold jnK
      rw [if_pos (by omega)]
      simp
    rw [e, splitC_app, ih (by omega), splitC_one _ (h _)]
    rw [List.take_succ_eq_append_getElem (show k + 1 < xs.length by omega), List.map_append]
    simp [List.getD, List.getElem?_eq_getElem (show k + 1 < xs.length by omega)]
theorem rlF_back {rd : List UInt8 → Option Int} {f : Int → List UInt8} {xs : List Int} (hf : ∀ x, (44 : UInt8) ∉ f x) (hr : ∀ x ∈ xs, rd (f x) = some x) (hx : risB xs = true) : rlF rd (jn f xs) = some xs := by
  obtain ⟨h1, h2, h3⟩ := (risB_iff xs).1 hx
  refine rlF_yes ?_ hx
  unfold jn
  obtain ⟨k, hk⟩ : ∃ k, xs.length = k + 1 := ⟨xs.length - 1, by omega⟩
  rw [hk, splitC_jnK hf k (by omega), ← hk, List.take_length]
  exact allRd_map f xs hr
end Go.Proofs.YtjmbgfhjdmoflaaDoor
