/- A region that draws its order, by what holds at each moment of it: Inv says it of the operations that have come up (d), the frame and the world; one obligation an operation, whatever the order (values of calls may be open). -/
import Derived.Test.YtocobjekcdabgaaSeq
namespace Go.Proofs.Ytocobjekcdabgaa
open Go

section
variable {P : Program} {ops : Array Oper} {Q : Exit → Act → World → Prop}

/-- how many below n have not come up -/
def leftI (d : Nat → Bool) : Nat → Nat
  | 0 => 0
  | n + 1 => leftI d n + if d n then 0 else 1
theorem leftI_set (d : Nat → Bool) (j : Nat) (hj : d j = false) : ∀ n, leftI (fun i => i == j || d i) n + (if j < n then 1 else 0) = leftI d n
  | 0 => by simp [leftI]
  | n + 1 => by
    have ih := leftI_set d j hj n
    change leftI (fun i => i == j || d i) n + (if (n == j || d n) = true then 0 else 1) + (if j < n + 1 then 1 else 0) = leftI d n + (if d n = true then 0 else 1)
    by_cases h : n = j
    · subst h
      rw [if_neg (Nat.lt_irrefl n)] at ih
      rw [hj, if_pos (by simp), if_pos (Nat.lt_succ_self n), if_neg (by simp)]
      omega
    · have e : (n == j) = false := by simpa using h
      rw [e, Bool.false_or]
      by_cases h2 : j < n
      · rw [if_pos h2] at ih
        rw [if_pos (show j < n + 1 by omega)]
        omega
      · rw [if_neg h2] at ih
        rw [if_neg (show ¬ j < n + 1 by omega)]
        omega
theorem leftI_zero (d : Nat → Bool) : ∀ n, leftI d n = 0 → ∀ j, j < n → d j = true
  | 0, _, j, hj => absurd hj (by omega)
  | n + 1, h, j, hj => by
    unfold leftI at h
    by_cases e : j = n
    · subst e
      cases hd : d j with
      | true => rfl
      | false => rw [hd] at h; simp at h
    · exact leftI_zero d n (by omega) j (by omega)
/-- what an operation that was run comes to -/
def RunI (P : Program) (K : Value → World → Prop) : Result Next → Prop
  | .ok (.value u) w' => K u w'
  | .ok .skip w' => K undef w'
  | .ok (.enter f args) w' => Calls P f args w' fun e w'' => ∃ v, e = .returned v ∧ K v w''
  | _ => False
def StepI (P : Program) (ops : Array Oper) (o : Oper) (a : Act) (w : World) (K : Value → World → Prop) : Prop :=
  (Region.wanted o (yielded ops a.tmps) = true ∧ RunI P K ((execOp a.eval o).run P w)) ∨ (Region.wanted o (yielded ops a.tmps) = false ∧ K undef w)
theorem StepI.wpOp {i : Nat} {o : Oper} {a : Act} (hi : ops[i]? = some o) {w : World} {K : Act → World → Prop} (h : StepI P ops o a w (fun v w' => K (a.put o.dst v) w')) : wpOp P ops Q i K a w := by
  unfold Go.wpOp
  simp only [hi]
  rcases h with ⟨hw, hr⟩ | ⟨hw, hr⟩
  · simp only [hw, if_true]
    left
    unfold Oper.wp
    generalize (execOp a.eval o).run P w = r at hr ⊢
    cases r with
    | ok n w' =>
      cases n with
      | value u => exact hr
      | skip => exact hr
      | enter f args => exact Calls.mono (show Calls P f args w' _ from hr) fun e w'' ⟨v, he, hs⟩ => by subst he; exact hs
      | _ => exact (show False from hr).elim
    | halt x w' => exact (show False from hr).elim
  · simp only [hw, Bool.false_eq_true, if_false]
    exact hr
theorem ready_nilI (hck : textOk .any ops = true) {listed : Array Bool} (hl : listed.size = ops.size) (h : Region.ready .any ops listed = []) : ∀ j, j < ops.size → listed.getD j false = true := by
  unfold textOk at hck
  simp only [Bool.and_eq_true, List.all_eq_true, List.mem_range] at hck
  intro j
  induction j using Nat.strongRecOn with
  | ind j ih =>
    intro hj
    cases hd : listed.getD j false with
    | true => rfl
    | false =>
      have hr : j ∈ Region.ready .any ops (upto ops.size j) := by simpa using (hck.2 j hj).2
      obtain ⟨_, o, ho, ha⟩ := mem_ready.1 hr
      have hin : j ∈ Region.ready .any ops listed := mem_ready.2 ⟨by
        have hjl : j < listed.size := by omega
        simp [hjl] at hd ⊢
        exact hd, o, ho, fun e he hb => by
        have h1 := ha e he hb
        have h2 : e.on < j := by
          unfold upto at h1
          by_cases g : e.on < ops.size
          · simpa [g] using h1
          · simp [g] at h1
        exact ih e.on h2 (by omega)⟩
      rw [h] at hin
      cases hin
theorem wpAny_inv (Inv : (Nat → Bool) → Act → World → Prop) (hck : textOk .any ops = true)
    (hstep : ∀ d a w j o, Inv d a w → ops[j]? = some o → d j = false → (∀ i, (o.after.any fun e => e.on == i && Region.binds .any e) = true → d i = true) → StepI P ops o a w (fun v w' => Inv (fun i => i == j || d i) (a.put o.dst v) w'))
    (hend : ∀ d a w, Inv d a w → (∀ j, j < ops.size → d j = true) → Q .normal a w) :
    ∀ (fuel : Nat) (listed : Array Bool) (a : Act) (w : World), listed.size = ops.size → leftI (fun i => listed.getD i false) ops.size ≤ fuel → Inv (fun i => listed.getD i false) a w → wpAny P .any ops Q fuel listed a w := by
  intro fuel
  induction fuel with
  | zero =>
    intro listed a w hs hf hI
    have hall := leftI_zero _ _ (Nat.le_zero.1 hf)
    refine ⟨?_, hend _ _ _ hI hall⟩
    rw [List.eq_nil_iff_forall_not_mem]
    intro j hj
    obtain ⟨h0, o, ho, _⟩ := mem_ready.1 hj
    have hlt := (Array.getElem?_eq_some_iff.1 ho).1
    have := hall j hlt
    have hjl : j < listed.size := by omega
    simp [hjl] at this h0
    rw [this] at h0
    cases h0
  | succ fuel ih =>
    intro listed a w hs hf hI
    refine ⟨fun hr => hend _ _ _ hI (ready_nilI hck hs hr), fun j hj => ?_⟩
    obtain ⟨h0, o, ho, ha⟩ := mem_ready.1 hj
    have hlt := (Array.getElem?_eq_some_iff.1 ho).1
    have hjl : j < listed.size := by omega
    have hd : (fun i => listed.getD i false) j = false := by
      simp [hjl] at h0 ⊢
      exact h0
    have hfn : (fun i => (listed.setIfInBounds j true).getD i false) = (fun i => i == j || listed.getD i false) := by
      funext i
      by_cases e : i = j
      · subst e; simp [hjl]
      · rw [getD_set_ne false (fun g => e g.symm)]
        have : (i == j) = false := by simpa using e
        rw [this]
        rfl
    refine StepI.wpOp ho ?_
    have hst := hstep _ a w j o hI ho hd (fun i hi => by
      obtain ⟨e, he, hb⟩ := Array.any_eq_true'.1 hi
      simp only [Bool.and_eq_true, beq_iff_eq] at hb
      rw [← hb.1]
      exact ha e he hb.2)
    have hK : ∀ v w', Inv (fun i => i == j || listed.getD i false) (a.put o.dst v) w' → wpAny P .any ops Q fuel (listed.setIfInBounds j true) (a.put o.dst v) w' := fun v w' h => by
      refine ih _ _ _ (by simpa using hs) ?_ (by rw [hfn]; exact h)
      rw [hfn]
      have := leftI_set (fun i => listed.getD i false) j hd ops.size
      rw [if_pos hlt] at this
      omega
    rcases hst with ⟨hw, hr⟩ | ⟨hw, hr⟩
    · refine .inl ⟨hw, ?_⟩
      generalize (execOp a.eval o).run P w = r at hr ⊢
      cases r with
      | ok n w' =>
        cases n with
        | value u => exact hK _ _ hr
        | skip => exact hK _ _ hr
        | enter f args => exact Calls.mono (show Calls P f args w' _ from hr) fun e w'' ⟨v, he, hs⟩ => ⟨v, he, hK _ _ hs⟩
        | _ => exact (show False from hr).elim
      | halt x w' => exact (show False from hr).elim
    · exact .inr ⟨hw, hK _ _ hr⟩
theorem leftI_none : ∀ n, leftI (fun _ => false) n = n
  | 0 => rfl
  | n + 1 => by unfold leftI; rw [leftI_none n]; simp
theorem wp_region_inv {l : List Oper} {id : Nat} {a : Act} {w : World} (Inv : (Nat → Bool) → Act → World → Prop) (hm : P.follows .mixedOrders = true) (hck : textOk .any l.toArray = true) (h0 : Inv (fun _ => false) a w.drew)
    (hstep : ∀ d a w j o, Inv d a w → l[j]? = some o → d j = false → (∀ i, (o.after.any fun e => e.on == i && Region.binds .any e) = true → d i = true) → StepI P l.toArray o a w (fun v w' => Inv (fun i => i == j || d i) (a.put o.dst v) w'))
    (hend : ∀ d a w, Inv d a w → (∀ j, j < l.length → d j = true) → Q .normal a w) : (Code.region id l.toArray true).wp P Q a w := by
  have hfn : (fun i => (Array.replicate l.toArray.size false).getD i false) = (fun _ => false) := by
    funext i
    by_cases h : i < l.length <;> simp [h]
  refine wp_region_any hm (wpAny_inv Inv hck (fun d a w j o hI ho hd hdep => hstep d a w j o hI (by simpa using ho) hd hdep) (fun d a w hI hall => hend d a w hI (by simpa using hall)) _ _ _ _ (by simp) (by rw [hfn, leftI_none]; exact Nat.le_refl _) (by rw [hfn]; exact h0))
end
end Go.Proofs.Ytocobjekcdabgaa
