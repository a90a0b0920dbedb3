/- A region that draws its order and holds one operation that makes memory: walked once, in the text's order. What is known of the world speaks of whether that operation has been run. -/
import Derived.Test.YtcpakmkfnnbgeaaGreatDoorSeq
namespace Go.Proofs.YtcpakmkfnnbgeaaGreatDoor
open Go

section
variable {P : Program} {ops : Array Oper} {Q : Exit → Act → World → Prop} {md : Region.Mode} {S : Bool → World → Prop} {j0 : Nat}

theorem getD_ready {listed : Array Bool} {j : Nat} (h : listed.getD j true = false) : listed.getD j false = false := by
  unfold Array.getD at h ⊢
  split at h
  · rename_i hj
    rw [dif_pos hj]
    exact h
  · cases h
/-- operation i comes to the value v; the one that makes memory is number j0 -/
def StepF (P : Program) (ops : Array Oper) (S : Bool → World → Prop) (j0 i : Nat) (o : Oper) (v : Value) (a : Act) : Prop :=
  (Region.wanted o (yielded ops a.tmps) = true ∧ ((i = j0 ∧ ∀ w, S false w → StepRun P (S true) v ((execOp a.eval o).run P w)) ∨ (i ≠ j0 ∧ ∀ f w, S f w → StepRun P (S f) v ((execOp a.eval o).run P w)))) ∨
  (Region.wanted o (yielded ops a.tmps) = false ∧ v = undef ∧ i ≠ j0)
theorem StepF.of_put {i : Nat} {o : Oper} {v u : Value} {a : Act} {dst : Option Tmp} (hs : ∀ cs b, o.op ≠ .select cs b) (h : ∀ d, dst = some d → d ∉ o.looksAt ops) :
    StepF P ops S j0 i o v (a.put dst u) ↔ StepF P ops S j0 i o v a := by
  unfold StepF
  rw [execOp_put o hs a dst u h, wanted_put o a dst u h]
theorem stepRun_wp {i : Nat} {o : Oper} {v : Value} {a : Act} {T : World → Prop} (hi : ops[i]? = some o) (hw : Region.wanted o (yielded ops a.tmps) = true) {K : Act → World → Prop} {w : World} (hr : StepRun P T v ((execOp a.eval o).run P w)) (h : ∀ w', T w' → K (a.put o.dst v) w') :
    wpOp P ops Q i K a w := by
  unfold Go.wpOp
  simp only [hi, hw, if_true]
  left
  unfold Oper.wp
  generalize (execOp a.eval o).run P w = r at hr ⊢
  cases r with
  | ok n w' =>
    cases n with
    | value u =>
      obtain ⟨rfl, h2⟩ := hr
      exact h _ h2
    | skip =>
      obtain ⟨rfl, h2⟩ := hr
      exact h _ h2
    | enter f args => exact Calls.mono (show Calls P f args w' _ from hr) fun e w'' ⟨he, hs⟩ => by subst he; exact h _ hs
    | _ => exact (show False from hr).elim
  | halt x w' => exact (show False from hr).elim
theorem getD_setF (listed : Array Bool) {i j : Nat} (h : i ≠ j) : (listed.setIfInBounds i true).getD j false = listed.getD j false := by
  unfold Array.getD
  by_cases hj : j < listed.size
  · rw [dif_pos (by simpa using hj), dif_pos hj]
    exact Array.getElem_setIfInBounds_ne _ h
  · rw [dif_neg (by simpa using hj), dif_neg hj]
theorem StepF.wpOp {i : Nat} {o : Oper} {v : Value} {a : Act} {listed : Array Bool} (hi : ops[i]? = some o) (hsz : listed.size = ops.size) (hun : listed.getD i false = false) (hy : StepF P ops S j0 i o v a) {K : Act → World → Prop} {w : World} (hS : S (listed.getD j0 false) w)
    (h : ∀ w', S ((listed.setIfInBounds i true).getD j0 false) w' → K (a.put o.dst v) w') : wpOp P ops Q i K a w := by
  have hlt : i < listed.size := by rw [hsz]; exact (Array.getElem?_eq_some_iff.1 hi).1
  rcases hy with ⟨hw, ⟨rfl, hr⟩ | ⟨hne, hr⟩⟩ | ⟨hw, rfl, hne⟩
  · rw [hun] at hS
    refine stepRun_wp hi hw (hr w hS) (fun w' hS' => h w' ?_)
    rw [show (listed.setIfInBounds i true).getD i false = true by simp [Array.getD, hlt]]
    exact hS'
  · refine stepRun_wp hi hw (hr _ w hS) (fun w' hS' => h w' ?_)
    rw [show (listed.setIfInBounds i true).getD j0 false = listed.getD j0 false from getD_setF listed hne]
    exact hS'
  · unfold Go.wpOp
    simp only [hi, hw, Bool.false_eq_true, if_false]
    refine h w ?_
    rw [show (listed.setIfInBounds i true).getD j0 false = listed.getD j0 false from getD_setF listed hne]
    exact hS

def DerF (P : Program) (md : Region.Mode) (ops : Array Oper) (Q : Exit → Act → World → Prop) (S : Bool → World → Prop) (j0 : Nat) : Nat → Array Bool → Act → Prop
  | 0, listed, a => Region.ready md ops listed = [] ∧ ∀ w, S (listed.getD j0 false) w → Q .normal a w
  | fuel + 1, listed, a => (Region.ready md ops listed = [] ∧ ∀ w, S (listed.getD j0 false) w → Q .normal a w) ∨
    ∃ i oi v, ops[i]? = some oi ∧ Region.free md ops listed i = true ∧ i ∈ Region.ready md ops listed ∧ StepF P ops S j0 i oi v a ∧ DerF P md ops Q S j0 fuel (listed.setIfInBounds i true) (a.put oi.dst v)
theorem DerF.swap (hsel : ∀ (j : Nat) (o : Oper) cs b, ops[j]? = some o → o.op ≠ .select cs b) : ∀ (fuel : Nat) (listed : Array Bool) (a : Act), DerF P md ops Q S j0 (fuel + 1) listed a →
    ∀ (j : Nat) (oj : Oper), ops[j]? = some oj → j ∈ Region.ready md ops listed → ∃ v, StepF P ops S j0 j oj v a ∧ DerF P md ops Q S j0 fuel (listed.setIfInBounds j true) (a.put oj.dst v) := by
  intro fuel
  induction fuel with
  | zero =>
    intro listed a D j oj hoj hj
    rcases D with ⟨hr, _⟩ | ⟨i, oi, v, hi, hf, hr, hy, D'⟩
    · rw [hr] at hj; cases hj
    · by_cases hij : j = i
      · subst hij
        rw [hi] at hoj
        cases hoj
        exact ⟨v, hy, D'⟩
      · have := ready_mono hj hij
        rw [D'.1] at this
        cases this
  | succ fuel ih =>
    intro listed a D j oj hoj hj
    rcases D with ⟨hr, _⟩ | ⟨i, oi, v, hi, hf, hr, hy, D'⟩
    · rw [hr] at hj; cases hj
    · by_cases hij : j = i
      · subst hij
        rw [hi] at hoj
        cases hoj
        exact ⟨v, hy, D'⟩
      · obtain ⟨u, hyj, D2⟩ := ih _ _ D' j oj hoj (ready_mono hj hij)
        obtain ⟨hjun, oj2, hoj2, hall⟩ := mem_ready.1 hj
        rw [hoj] at hoj2
        cases hoj2
        have hnot : ∀ e ∈ oj.after, Region.binds md e = true → e.on ≠ i := fun e he hb heq => by
          have h1 := hall e he hb
          have h0 := (mem_ready.1 hr).1
          rw [heq] at h1
          rcases Nat.lt_or_ge i listed.size with h' | h'
          · simp [h'] at h0 h1; rw [h0] at h1; cases h1
          · simp [Array.getElem?_eq_none h'] at h1
        obtain ⟨h1, h2, h3⟩ := Oper.apart_spec (Region.free_spec hi hf j oj hoj hij hjun hnot)
        refine ⟨u, (StepF.of_put (hsel j oj · · hoj) h1).1 hyj, .inr ⟨i, oi, v, hi, free_more hf, ready_mono hr (Ne.symm hij), (StepF.of_put (hsel i oi · · hi) h3).2 hy, ?_⟩⟩
        rw [Array.setIfInBounds_comm _ _ hij, ← Act.put_comm a v u h2]
        exact D2
theorem DerF.any (hsel : ∀ (j : Nat) (o : Oper) cs b, ops[j]? = some o → o.op ≠ .select cs b) : ∀ (fuel : Nat) (listed : Array Bool) (a : Act), listed.size = ops.size → DerF P md ops Q S j0 fuel listed a → ∀ w, S (listed.getD j0 false) w → wpAny P md ops Q fuel listed a w := by
  intro fuel
  induction fuel with
  | zero => intro listed a _ D w hS; exact ⟨D.1, D.2 w hS⟩
  | succ fuel ih =>
    intro listed a hsz D w hS
    refine ⟨fun hr => ?_, fun j hj => ?_⟩
    · rcases D with ⟨_, h⟩ | ⟨i, oi, v, hi, hf, hr2, hy, D'⟩
      · exact h w hS
      · rw [hr] at hr2; cases hr2
    · obtain ⟨hun, oj, hoj, _⟩ := mem_ready.1 hj
      obtain ⟨v, hy, D'⟩ := DerF.swap hsel fuel listed a D j oj hoj hj
      exact hy.wpOp hoj hsz (getD_ready hun) hS (fun w' hS' => ih _ _ (by simpa using hsz) D' w' hS')
/-- the operations in the text's order, from number k on -/
def SeqF (P : Program) (ops : Array Oper) (Q : Exit → Act → World → Prop) (S : Bool → World → Prop) (j0 : Nat) : Nat → List Oper → Act → Prop
  | k, [], a => ∀ w, S (decide (j0 < k)) w → Q .normal a w
  | k, o :: rest, a => ∃ v, StepF P ops S j0 k o v a ∧ SeqF P ops Q S j0 (k + 1) rest (a.put o.dst v)
theorem SeqF.run {k : Nat} {o : Oper} {rest : List Oper} {a : Act} (v : Value) (hw : Region.wanted o (yielded ops a.tmps) = true) (hk : k ≠ j0) (hr : ∀ f w, S f w → StepRun P (S f) v ((execOp a.eval o).run P w)) (h : SeqF P ops Q S j0 (k + 1) rest (a.put o.dst v)) :
    SeqF P ops Q S j0 k (o :: rest) a := ⟨v, .inl ⟨hw, .inr ⟨hk, hr⟩⟩, h⟩
theorem SeqF.make {k : Nat} {o : Oper} {rest : List Oper} {a : Act} (v : Value) (hw : Region.wanted o (yielded ops a.tmps) = true) (hk : k = j0) (hr : ∀ w, S false w → StepRun P (S true) v ((execOp a.eval o).run P w)) (h : SeqF P ops Q S j0 (k + 1) rest (a.put o.dst v)) :
    SeqF P ops Q S j0 k (o :: rest) a := ⟨v, .inl ⟨hw, .inl ⟨hk, hr⟩⟩, h⟩
theorem SeqF.last {k : Nat} {a : Act} (h : ∀ w, S (decide (j0 < k)) w → Q .normal a w) : SeqF P ops Q S j0 k [] a := h
theorem upto_getD (n k j : Nat) (h : j < n) : (upto n k).getD j false = decide (j < k) := by
  unfold upto
  simp [Array.getD, h]
theorem SeqF.der (hck : textOk md ops = true) (hj : j0 < ops.size) : ∀ (n k : Nat) (a : Act), k + n = ops.size → SeqF P ops Q S j0 k (ops.toList.drop k) a → DerF P md ops Q S j0 n (upto ops.size k) a := by
  unfold textOk at hck
  simp only [Bool.and_eq_true, List.all_eq_true, List.mem_range] at hck
  intro n
  induction n with
  | zero =>
    intro k a hk h
    rw [List.drop_eq_nil_of_le (by simp; omega)] at h
    refine ⟨upto_ready k (by omega), ?_⟩
    rw [upto_getD _ _ _ hj]
    exact h
  | succ n ih =>
    intro k a hk h
    have hlt : k < ops.size := by omega
    rw [List.drop_eq_getElem_cons (by simpa using hlt)] at h
    obtain ⟨v, hs, h⟩ := h
    obtain ⟨h1, h2⟩ := hck.2 k hlt
    refine .inr ⟨k, ops[k], v, Array.getElem?_eq_getElem hlt, h1, by simpa using h2, by simpa using hs, ?_⟩
    rw [upto_set]
    exact ih (k + 1) _ (by omega) (by simpa using h)
theorem wp_region_makes {l : List Oper} {id : Nat} {a : Act} {w : World} (S : Bool → World → Prop) (j0 : Nat) (hm : P.follows .mixedOrders = true) (hck : textOk .any l.toArray = true) (hj : j0 < l.length) (hS : S false w.drew) (h : SeqF P l.toArray Q S j0 0 l a) : (Code.region id l.toArray true).wp P Q a w := by
  have hsel := Region.noSelect_spec (ops := l.toArray) (by unfold textOk at hck; rw [Bool.and_eq_true] at hck; exact hck.1)
  have hd := SeqF.der (md := .any) hck (by simpa using hj) l.toArray.size 0 a (by omega) (by simpa using h)
  have h0 : (upto l.toArray.size 0).getD j0 false = false := by rw [upto_getD _ _ _ (by simpa using hj)]; simp
  have hs0 : S ((upto l.toArray.size 0).getD j0 false) w.drew := by rw [h0]; exact hS
  rw [upto_zero] at hd hs0
  exact wp_region_any hm (DerF.any hsel _ _ _ (by simp) hd _ hs0)
end
end Go.Proofs.YtcpakmkfnnbgeaaGreatDoor
