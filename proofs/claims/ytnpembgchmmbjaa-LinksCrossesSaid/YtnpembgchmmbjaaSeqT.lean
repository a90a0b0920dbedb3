/- A region that draws its order and ends in a forced tail ('f(g(x), h(y))': calls in whatever order, then what takes their results): the operations ahead of the tail walked once, in the text's order, as by XSeq; the tail as a plain list. -/
import Derived.Test.YtnpembgchmmbjaaSeq
import Derived.StillTail
namespace Go.Proofs.Ytnpembgchmmbjaa
open Go

section
variable {P : Program} {ops : Array Oper} {Q : Exit → Act → World → Prop} {md : Region.Mode} {S : World → Prop} {n : Nat} {L : Array Bool → Act → Prop}

/-- the operations ahead of number n are taken one by one; each may be taken first -/
def DerT (P : Program) (md : Region.Mode) (ops : Array Oper) (S : World → Prop) (n : Nat) (L : Array Bool → Act → Prop) : Nat → Array Bool → Act → Prop
  | 0, listed, a => L listed a
  | f + 1, listed, a => ∃ i oi v, ops[i]? = some oi ∧ i < n ∧ Region.free md ops listed i = true ∧ i ∈ Region.ready md ops listed ∧ StepS P ops S oi v a ∧ DerT P md ops S n L f (listed.setIfInBounds i true) (a.put oi.dst v)
theorem DerT.swap (hsel : ∀ (j : Nat) (o : Oper) cs b, ops[j]? = some o → o.op ≠ .select cs b) (hdone : ∀ listed a, L listed a → ∀ j ∈ Region.ready md ops listed, n ≤ j) : ∀ (fuel : Nat) (listed : Array Bool) (a : Act), DerT P md ops S n L (fuel + 1) listed a →
    ∀ (j : Nat) (oj : Oper), ops[j]? = some oj → j < n → j ∈ Region.ready md ops listed → ∃ v, StepS P ops S oj v a ∧ DerT P md ops S n L fuel (listed.setIfInBounds j true) (a.put oj.dst v) := by
  intro fuel
  induction fuel with
  | zero =>
    intro listed a D j oj hoj hjn hj
    obtain ⟨i, oi, v, hi, hin, hf, hr, hy, D'⟩ := D
    by_cases hij : j = i
    · subst hij
      rw [hi] at hoj
      cases hoj
      exact ⟨v, hy, D'⟩
    · have := hdone _ _ D' j (ready_mono hj hij)
      omega
  | succ fuel ih =>
    intro listed a D j oj hoj hjn hj
    obtain ⟨i, oi, v, hi, hin, hf, hr, hy, D'⟩ := D
    by_cases hij : j = i
    · subst hij
      rw [hi] at hoj
      cases hoj
      exact ⟨v, hy, D'⟩
    · obtain ⟨u, hyj, D2⟩ := ih _ _ D' j oj hoj hjn (ready_mono hj hij)
      obtain ⟨hjun, oj2, hoj2, hall⟩ := mem_ready.1 hj
      rw [hoj] at hoj2
      cases hoj2
      have hnot : ∀ e ∈ oj.after, Region.binds md e = true → e.on ≠ i := fun e he hb heq => by
        have h1 := hall e he hb
        have h0 := (mem_ready.1 hr).1
        rw [heq] at h1
        rcases Nat.lt_or_ge i listed.size with h' | h'
        · simp [h'] at h0 h1; rw [h0] at h1; cases h1
        · simp [Array.getElem?_eq_none h'] at h1
      obtain ⟨h1, h2, h3⟩ := Oper.apart_spec (Region.free_spec hi hf j oj hoj hij hjun hnot)
      refine ⟨u, (StepS.of_put (hsel j oj · · hoj) h1).1 hyj, i, oi, v, hi, hin, free_more hf, ready_mono hr (Ne.symm hij), (StepS.of_put (hsel i oi · · hi) h3).2 hy, ?_⟩
      rw [Array.setIfInBounds_comm _ _ hij, ← Act.put_comm a v u h2]
      exact D2
theorem DerT.any {g : Nat} (hsel : ∀ (j : Nat) (o : Oper) cs b, ops[j]? = some o → o.op ≠ .select cs b) (hs : Region.sinkB md ops n = true) (hc : Region.chainB md ops n = true) (hn : n < ops.size) (hdone : ∀ listed a, L listed a → ∀ j ∈ Region.ready md ops listed, n ≤ j) (hL : ∀ listed a, L listed a → ∀ w, S w → wpAny P md ops Q g listed a w) :
    ∀ (f : Nat) (listed : Array Bool) (a : Act), HeadInv md ops n listed → DerT P md ops S n L f listed a → ∀ w, S w → wpAny P md ops Q (f + g) listed a w := by
  intro f
  induction f with
  | zero => intro listed a _ D w hS; rw [Nat.zero_add]; exact hL _ _ D w hS
  | succ f ih =>
    intro listed a inv D w hS
    rw [show f + 1 + g = (f + g) + 1 by omega]
    have D0 := D
    obtain ⟨i, oi, v, hi, hin, hf, hr, hy, D'⟩ := D0
    refine ⟨fun h => (by rw [h] at hr; cases hr), fun j hj => ?_⟩
    have hjn : j < n := by
      rcases Nat.lt_or_ge j n with h | h
      · exact h
      · exact absurd hj (tail_waits hs hc hn inv _ i rfl hin (mem_ready.1 hr).1 j h)
    obtain ⟨_, oj, hoj, _⟩ := mem_ready.1 hj
    obtain ⟨u, hyj, D2⟩ := DerT.swap hsel hdone f listed a D j oj hoj hjn hj
    exact hyj.wpOp hoj hS (fun w' hS' => ih _ _ (inv.set hj hjn) D2 w' hS')
/-- the operations ahead of the tail, in the text's order; then the tail -/
def SeqT (P : Program) (ops : Array Oper) (Q : Exit → Act → World → Prop) (S : World → Prop) (tail : List Oper) : List Oper → Act → Prop
  | [], a => ∀ w, S w → wpList P ops Q tail a w
  | o :: rest, a => ∃ v, StepS P ops S o v a ∧ SeqT P ops Q S tail rest (a.put o.dst v)
section
variable {tail : List Oper}
theorem SeqT.run {o : Oper} {rest : List Oper} {a : Act} (v : Value) (hw : Region.wanted o (yielded ops a.tmps) = true) (hr : ∀ w, S w → StepRun P S v ((execOp a.eval o).run P w)) (h : SeqT P ops Q S tail rest (a.put o.dst v)) :
    SeqT P ops Q S tail (o :: rest) a := ⟨v, .inl ⟨hw, hr⟩, h⟩
theorem SeqT.pass {o : Oper} {rest : List Oper} {a : Act} (hw : Region.wanted o (yielded ops a.tmps) = false) (h : SeqT P ops Q S tail rest (a.put o.dst undef)) :
    SeqT P ops Q S tail (o :: rest) a := ⟨undef, .inr ⟨hw, rfl⟩, h⟩
theorem SeqT.last {a : Act} (h : ∀ w, S w → wpList P ops Q tail a w) : SeqT P ops Q S tail [] a := h
theorem SeqT.der {g : Nat} : ∀ (l : List Oper) (k : Nat) (listed : Array Bool) (a : Act), (∀ j, j < l.length → l[j]? = ops[k + j]?) → k + l.length = n →
    Region.lexHead md ops g l.length k listed = true → SeqT P ops Q S tail l a →
    DerT P md ops S n (fun listed' a' => Region.seqB md ops g n listed' = true ∧ ∀ w, S w → wpList P ops Q tail a' w) l.length listed a
  | [], k, listed, a, _, hk, hB, h => by
    have : k = n := by simpa using hk
    subst this
    exact ⟨by simpa [Region.lexHead] using hB, h⟩
  | o :: l, k, listed, a, hl, hk, hB, h => by
    have h0 : ops[k]? = some o := by simpa using (hl 0 (by simp)).symm
    simp only [List.length_cons, Region.lexHead, Bool.and_eq_true] at hB
    obtain ⟨⟨hr, hf⟩, hB'⟩ := hB
    obtain ⟨v, hy, hK⟩ := h
    exact ⟨k, o, v, h0, by simp only [List.length_cons] at hk; omega, hf, by simpa using hr, hy,
      SeqT.der l (k + 1) _ _ (fun j hj => by have := hl (j + 1) (by simp; omega); simpa [Nat.add_assoc, Nat.add_comm 1 j] using this) (by simp only [List.length_cons] at hk; omega) hB' hK⟩
end
theorem wp_region_tail {l : List Oper} {id : Nat} {a : Act} {w : World} (S : World → Prop) (n : Nat) (hm : P.follows .mixedOrders = true) (hB : Region.lexTailB .any l.toArray n = true) (hS : S w.drew) (h : SeqT P l.toArray Q S (l.drop n) (l.take n) a) : (Code.region id l.toArray true).wp P Q a w := by
  simp only [Region.lexTailB, Bool.and_eq_true, decide_eq_true_eq] at hB
  obtain ⟨⟨⟨⟨hsel, hn⟩, hs⟩, hc⟩, hlex⟩ := hB
  have hn' : n < l.length := by simpa using hn
  have htl : (l.take n).length = n := by simp; omega
  have hdl : (l.drop n).length = l.toArray.size - n := by simp
  have inv0 : HeadInv .any l.toArray n (Array.replicate l.toArray.size false) :=
    ⟨by simp, fun j oj _ hl => (by rw [getD_replicate_false] at hl; cases hl), fun t _ ht => getD_in (by simpa using ht) (getD_replicate_false _ _)⟩
  have D := SeqT.der (md := .any) (g := l.toArray.size - n) (n := n) (l.take n) 0 _ a (fun j hj => by
    have hj' : j < n := by rw [htl] at hj; exact hj
    simp [hj']) (by simpa using htl) (by rw [htl]; exact hlex) h
  refine wp_region_any hm ?_
  have := DerT.any (Q := Q) (g := l.toArray.size - n) (Region.noSelect_spec hsel) hs hc hn (fun listed' a' hL => seqB_ready hL.1) (fun listed a' hL w' hS' => by
    have := wpAny_of_seq (md := .any) (Q' := Q) (l.drop n) n listed a' w' (fun j => by simp [List.getElem?_drop]) (by rw [hdl]; exact hL.1) (hL.2 w' hS')
    rwa [hdl] at this) _ _ _ inv0 D w.drew hS
  rw [htl, show n + (l.toArray.size - n) = l.toArray.size by omega] at this
  exact this
end
end Go.Proofs.Ytnpembgchmmbjaa
