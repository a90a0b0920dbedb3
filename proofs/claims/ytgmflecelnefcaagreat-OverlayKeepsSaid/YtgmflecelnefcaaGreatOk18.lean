/- XInv; XNoRight; XOlRight; XOlInv; XNnClone -/
import Derived.Test.YtgmflecelnefcaaGreatOk03
import Derived.Test.YtgmflecelnefcaaGreatOk17
import Derived.Test.YtgmflecelnefcaaGreatOk10
import Derived.Test.YtgmflecelnefcaaGreatOk04
import Derived.Test.YtgmflecelnefcaaGreatOk06
import Derived.Deep.RegionHeldLaw
import Derived.RegionTactic
import Derived.OwnWalk
import Derived.WalkSpells
/- A region that draws its order, by what holds at each moment of it: Inv says it of the operations that have come up (d), the frame and the world; one obligation an operation, whatever the order (values of calls may be open). -/
namespace Go.Proofs.YtgmflecelnefcaaGreat
open Go

section
variable {P : Program} {ops : Array Oper} {Q : Exit → Act → World → Prop}

/-- how many below n have not come up -/
def leftI (d : Nat → Bool) : Nat → Nat
  | 0 => 0
  | n + 1 => leftI d n + if d n then 0 else 1
theorem leftI_set (d : Nat → Bool) (j : Nat) (hj : d j = false) : ∀ n, leftI (fun i => i == j || d i) n + (if j < n then 1 else 0) = leftI d n
  | 0 => by simp [leftI]
  | n + 1 => by
    have ih := leftI_set d j hj n
    change leftI (fun i => i == j || d i) n + (if (n == j || d n) = true then 0 else 1) + (if j < n + 1 then 1 else 0) = leftI d n + (if d n = true then 0 else 1)
    by_cases h : n = j
    · subst h
      rw [if_neg (Nat.lt_irrefl n)] at ih
      rw [hj, if_pos (by simp), if_pos (Nat.lt_succ_self n), if_neg (by simp)]
      omega
    · have e : (n == j) = false := by simpa using h
      rw [e, Bool.false_or]
      by_cases h2 : j < n
      · rw [if_pos h2] at ih
        rw [if_pos (show j < n + 1 by omega)]
        omega
      · rw [if_neg h2] at ih
        rw [if_neg (show ¬ j < n + 1 by omega)]
        omega
theorem leftI_zero (d : Nat → Bool) : ∀ n, leftI d n = 0 → ∀ j, j < n → d j = true
  | 0, _, j, hj => absurd hj (by omega)
  | n + 1, h, j, hj => by
    unfold leftI at h
    by_cases e : j = n
    · subst e
      cases hd : d j with
      | true => rfl
      | false => rw [hd] at h; simp at h
    · exact leftI_zero d n (by omega) j (by omega)
/-- what an operation that was run comes to -/
def RunI (P : Program) (K : Value → World → Prop) : Result Next → Prop
  | .ok (.value u) w' => K u w'
  | .ok .skip w' => K undef w'
  | .ok (.enter f args) w' => Calls P f args w' fun e w'' => ∃ v, e = .returned v ∧ K v w''
  | _ => False
def StepI (P : Program) (ops : Array Oper) (o : Oper) (a : Act) (w : World) (K : Value → World → Prop) : Prop :=
  (Region.wanted o (yielded ops a.tmps) = true ∧ RunI P K ((execOp a.eval o).run P w)) ∨ (Region.wanted o (yielded ops a.tmps) = false ∧ K undef w)
theorem StepI.wpOp {i : Nat} {o : Oper} {a : Act} (hi : ops[i]? = some o) {w : World} {K : Act → World → Prop} (h : StepI P ops o a w (fun v w' => K (a.put o.dst v) w')) : wpOp P ops Q i K a w := by
  unfold Go.wpOp
  simp only [hi]
  rcases h with ⟨hw, hr⟩ | ⟨hw, hr⟩
  · simp only [hw, if_true]
    left
    unfold Oper.wp
    generalize (execOp a.eval o).run P w = r at hr ⊢
    cases r with
    | ok n w' =>
      cases n with
      | value u => exact hr
      | skip => exact hr
      | enter f args => exact Calls.mono (show Calls P f args w' _ from hr) fun e w'' ⟨v, he, hs⟩ => by subst he; exact hs
      | _ => exact (show False from hr).elim
    | halt x w' => exact (show False from hr).elim
  · simp only [hw, Bool.false_eq_true, if_false]
    exact hr
theorem ready_nilI (hck : textOk .any ops = true) {listed : Array Bool} (hl : listed.size = ops.size) (h : Region.ready .any ops listed = []) : ∀ j, j < ops.size → listed.getD j false = true := by
  unfold textOk at hck
  simp only [Bool.and_eq_true, List.all_eq_true, List.mem_range] at hck
  intro j
  induction j using Nat.strongRecOn with
  | ind j ih =>
    intro hj
    cases hd : listed.getD j false with
    | true => rfl
    | false =>
      have hr : j ∈ Region.ready .any ops (upto ops.size j) := by simpa using (hck.2 j hj).2
      obtain ⟨_, o, ho, ha⟩ := mem_ready.1 hr
      have hin : j ∈ Region.ready .any ops listed := mem_ready.2 ⟨by
        have hjl : j < listed.size := by omega
        simp [hjl] at hd ⊢
        exact hd, o, ho, fun e he hb => by
        have h1 := ha e he hb
        have h2 : e.on < j := by
          unfold upto at h1
          by_cases g : e.on < ops.size
          · simpa [g] using h1
          · simp [g] at h1
        exact ih e.on h2 (by omega)⟩
      rw [h] at hin
      cases hin
theorem wpAny_inv (Inv : (Nat → Bool) → Act → World → Prop) (hck : textOk .any ops = true)
    (hstep : ∀ d a w j o, Inv d a w → ops[j]? = some o → d j = false → (∀ i, (o.after.any fun e => e.on == i && Region.binds .any e) = true → d i = true) → StepI P ops o a w (fun v w' => Inv (fun i => i == j || d i) (a.put o.dst v) w'))
    (hend : ∀ d a w, Inv d a w → (∀ j, j < ops.size → d j = true) → Q .normal a w) :
    ∀ (fuel : Nat) (listed : Array Bool) (a : Act) (w : World), listed.size = ops.size → leftI (fun i => listed.getD i false) ops.size ≤ fuel → Inv (fun i => listed.getD i false) a w → wpAny P .any ops Q fuel listed a w := by
  intro fuel
  induction fuel with
  | zero =>
    intro listed a w hs hf hI
    have hall := leftI_zero _ _ (Nat.le_zero.1 hf)
    refine ⟨?_, hend _ _ _ hI hall⟩
    rw [List.eq_nil_iff_forall_not_mem]
    intro j hj
    obtain ⟨h0, o, ho, _⟩ := mem_ready.1 hj
    have hlt := (Array.getElem?_eq_some_iff.1 ho).1
    have := hall j hlt
    have hjl : j < listed.size := by omega
    simp [hjl] at this h0
    rw [this] at h0
    cases h0
  | succ fuel ih =>
    intro listed a w hs hf hI
    refine ⟨fun hr => hend _ _ _ hI (ready_nilI hck hs hr), fun j hj => ?_⟩
    obtain ⟨h0, o, ho, ha⟩ := mem_ready.1 hj
    have hlt := (Array.getElem?_eq_some_iff.1 ho).1
    have hjl : j < listed.size := by omega
    have hd : (fun i => listed.getD i false) j = false := by
      simp [hjl] at h0 ⊢
      exact h0
    have hfn : (fun i => (listed.setIfInBounds j true).getD i false) = (fun i => i == j || listed.getD i false) := by
      funext i
      by_cases e : i = j
      · subst e; simp [hjl]
      · rw [getD_set_ne false (fun g => e g.symm)]
        have : (i == j) = false := by simpa using e
        rw [this]
        rfl
    refine StepI.wpOp ho ?_
    have hst := hstep _ a w j o hI ho hd (fun i hi => by
      obtain ⟨e, he, hb⟩ := Array.any_eq_true'.1 hi
      simp only [Bool.and_eq_true, beq_iff_eq] at hb
      rw [← hb.1]
      exact ha e he hb.2)
    have hK : ∀ v w', Inv (fun i => i == j || listed.getD i false) (a.put o.dst v) w' → wpAny P .any ops Q fuel (listed.setIfInBounds j true) (a.put o.dst v) w' := fun v w' h => by
      refine ih _ _ _ (by simpa using hs) ?_ (by rw [hfn]; exact h)
      rw [hfn]
      have := leftI_set (fun i => listed.getD i false) j hd ops.size
      rw [if_pos hlt] at this
      omega
    rcases hst with ⟨hw, hr⟩ | ⟨hw, hr⟩
    · refine .inl ⟨hw, ?_⟩
      generalize (execOp a.eval o).run P w = r at hr ⊢
      cases r with
      | ok n w' =>
        cases n with
        | value u => exact hK _ _ hr
        | skip => exact hK _ _ hr
        | enter f args => exact Calls.mono (show Calls P f args w' _ from hr) fun e w'' ⟨v, he, hs⟩ => ⟨v, he, hK _ _ hs⟩
        | _ => exact (show False from hr).elim
      | halt x w' => exact (show False from hr).elim
    · exact .inr ⟨hw, hK _ _ hr⟩
theorem leftI_none : ∀ n, leftI (fun _ => false) n = n
  | 0 => rfl
  | n + 1 => by unfold leftI; rw [leftI_none n]; simp
theorem wp_region_inv {l : List Oper} {id : Nat} {a : Act} {w : World} (Inv : (Nat → Bool) → Act → World → Prop) (hm : P.follows .mixedOrders = true) (hck : textOk .any l.toArray = true) (h0 : Inv (fun _ => false) a w.drew)
    (hstep : ∀ d a w j o, Inv d a w → l[j]? = some o → d j = false → (∀ i, (o.after.any fun e => e.on == i && Region.binds .any e) = true → d i = true) → StepI P l.toArray o a w (fun v w' => Inv (fun i => i == j || d i) (a.put o.dst v) w'))
    (hend : ∀ d a w, Inv d a w → (∀ j, j < l.length → d j = true) → Q .normal a w) : (Code.region id l.toArray true).wp P Q a w := by
  have hfn : (fun i => (Array.replicate l.toArray.size false).getD i false) = (fun _ => false) := by
    funext i
    by_cases h : i < l.length <;> simp [h]
  refine wp_region_any hm (wpAny_inv Inv hck (fun d a w j o hI ho hd hdep => hstep d a w j o hI (by simpa using ho) hd hdep) (fun d a w hI hall => hend d a w hI (by simpa using hall)) _ _ _ _ (by simp) (by rw [hfn, leftI_none]; exact Nat.le_refl _) (by rw [hfn]; exact h0))
end
end Go.Proofs.YtgmflecelnefcaaGreat

/- May a device's, or a port's, line be, by its words: the contract of palingref11.Right. (Made by mk-noright.py.) -/
namespace Go.Proofs.YtgmflecelnefcaaGreat
open Go.RowKit

theorem lread_below {w w' : World} {M : LV} {t1 t2 t3 t4 : SlV} (h : LRead w M t1 t2 t3 t4) (hb : Below w.heap.size w w') : LRead w' M t1 t2 t3 t4 := ⟨h.1.below hb, h.2.1.below hb, h.2.2.1.below hb, h.2.2.2.below hb⟩
end Go.Proofs.YtgmflecelnefcaaGreat

/- May a vtep's, a vni's, or a flood list's line be, by its words: palingref11.Words, Right of kinds 5, 6, 7. (Made by mk-olright.py.) -/
namespace Go.Proofs.YtgmflecelnefcaaGreat
open Go.RowKit
open Go.Lib (decDigits)

theorem risA_in {xs : List Int} (h : risA xs = true) (hb : ∀ x ∈ xs, 0 ≤ x ∧ x < 4294967296) : risIn xs 0 4294967295 = true ∧ 0 < xs.getD 0 0 := by
  unfold risA at h
  rw [Bool.and_eq_true, Bool.and_eq_true, decide_eq_true_eq, decide_eq_true_eq] at h
  cases xs with
  | nil => exact absurd h.2.1 (by simp)
  | cons x r =>
    have h1 : (decide (0 < x) && upA x r) = true := h.1
    rw [Bool.and_eq_true, decide_eq_true_eq, upA_upB] at h1
    refine ⟨?_, h1.1⟩
    unfold risIn risB
    rw [decide_eq_true h.2.1, decide_eq_true h.2.2, h1.2]
    simp only [Bool.and_true, Bool.true_and]
    refine List.all_eq_true.2 fun y hy => ?_
    have := hb y hy
    rw [Bool.and_eq_true, decide_eq_true_eq, decide_eq_true_eq]
    omega
theorem may8_of {a : Int} (h : mayB 8 { WV.zero with addr := a } = true) : a ≠ 0 := by
  rw [may_plain rfl] at h
  have h2 : (!decide (a = 0)) = true := h
  simpa using h2
theorem may12_of {xs : List Int} (h : mayB 12 { WV.zero with addrs := xs } = true) : risA xs = true := by
  rw [may_plain rfl] at h
  exact h
theorem rg_kd5 {L : LV} (h : rgB L = true) (k : L.kind = 5) (ha : 0 ≤ L.addr ∧ L.addr < 4294967296) : Kd5 L.row L := by
  have hp : pts L.kind true = [(0, 0), (8, 10)] := by rw [k]; rfl
  have h1 := (rgB_yes h).2
  rw [hp] at h1
  obtain ⟨a1, h1⟩ := rg_of h1
  obtain ⟨a2, h1⟩ := rg_of h1
  obtain ⟨f0, f1, f2, f3, f4, f5, f6, f7, f8, f9, f10, f11, f12, f13, f14, f15, f16⟩ := L
  dsimp only at k ha
  subst k
  have h2 : ({ (⟨f0, 5, f2, f3, f4, f5, f6, f7, f8, f9, f10, f11, f12, f13, f14, f15, f16⟩ : LV) with dev := [], addr := 0 } : LV) = LV.new f0 5 := by injection h1
  simp only [LV.new, LV.mk.injEq] at h2
  obtain ⟨_, _, _, rfl, rfl, rfl, rfl, rfl, _, rfl, rfl, rfl, rfl, rfl, rfl, rfl, rfl⟩ := h2
  exact ⟨f2, f8, rfl, may0_of a1, by have q : f8 ≠ 0 := may8_of a2; omega⟩
theorem rg_kd6 {L : LV} (h : rgB L = true) (k : L.kind = 6) : Kd6 L.row L := by
  have hp : pts L.kind true = [(0, 0), (4, 7), (6, 6)] := by rw [k]; rfl
  have h1 := (rgB_yes h).2
  rw [hp] at h1
  obtain ⟨a1, h1⟩ := rg_of h1
  obtain ⟨a2, h1⟩ := rg_of h1
  obtain ⟨a3, h1⟩ := rg_of h1
  obtain ⟨f0, f1, f2, f3, f4, f5, f6, f7, f8, f9, f10, f11, f12, f13, f14, f15, f16⟩ := L
  dsimp only at k
  subst k
  have h2 : ({ (⟨f0, 6, f2, f3, f4, f5, f6, f7, f8, f9, f10, f11, f12, f13, f14, f15, f16⟩ : LV) with dev := [], vlan := 0, num := 0 } : LV) = LV.new f0 6 := by injection h1
  simp only [LV.new, LV.mk.injEq] at h2
  obtain ⟨_, _, _, rfl, rfl, rfl, rfl, rfl, rfl, rfl, _, _, rfl, rfl, rfl, rfl, rfl⟩ := h2
  exact ⟨f2, f10, f11, rfl, may0_of a1, may_num_of (w := 4) (lo := 1) (hi := 4094) rfl rfl a2, may_num_of (w := 6) (lo := 1) (hi := 16777215) rfl rfl a3⟩
theorem rg_kd7 {L : LV} (h : rgB L = true) (k : L.kind = 7) (hx : ∀ x ∈ L.addrs, 0 ≤ x ∧ x < 4294967296) : Kd7 L.row L := by
  have hp : pts L.kind true = [(0, 0), (6, 6), (12, 15)] := by rw [k]; rfl
  have h1 := (rgB_yes h).2
  rw [hp] at h1
  obtain ⟨a1, h1⟩ := rg_of h1
  obtain ⟨a2, h1⟩ := rg_of h1
  obtain ⟨a3, h1⟩ := rg_of h1
  obtain ⟨f0, f1, f2, f3, f4, f5, f6, f7, f8, f9, f10, f11, f12, f13, f14, f15, f16⟩ := L
  dsimp only at k hx
  subst k
  have h2 : ({ (⟨f0, 7, f2, f3, f4, f5, f6, f7, f8, f9, f10, f11, f12, f13, f14, f15, f16⟩ : LV) with dev := [], num := 0, addrs := [] } : LV) = LV.new f0 7 := by injection h1
  simp only [LV.new, LV.mk.injEq] at h2
  obtain ⟨_, _, _, rfl, rfl, rfl, rfl, rfl, rfl, rfl, rfl, _, rfl, rfl, rfl, rfl, _⟩ := h2
  exact ⟨f2, f11, f16, rfl, may0_of a1, may_num_of (w := 6) (lo := 1) (hi := 16777215) rfl rfl a2, risA_in (may12_of a3) hx⟩
end Go.Proofs.YtgmflecelnefcaaGreat

/- What is known where a VTEP, a VNI, a flood list is put; it is found. -/
namespace Go.Proofs.YtgmflecelnefcaaGreat
open Go.RowKit

theorem vt_no {N : NV} {L : LV} (h : vtE N L ≠ 0) : vtN N L = NV.zero := by unfold vtN; rw [if_neg h]
theorem vn_no {N : NV} {L : LV} (h : vnE N L ≠ 0) : vnN N L = NV.zero := by unfold vnN; rw [if_neg h]
theorem fl_no {N : NV} {L : LV} (h : flE N L ≠ 0) : flN N L = NV.zero := by unfold flN; rw [if_neg h]
theorem dv_at {N : NV} {s : List UInt8} (h : ¬ dvF N s < 0) : ∃ j, j < N.devices.length ∧ dvF N s = (j : Int) := by
  obtain ⟨j, h1, h2, _⟩ := dv_place (N := N) (s := s) (by omega)
  exact ⟨j, h1, h2⟩
theorem vt_inv {N : NV} {L : LV} (h : vtE N L = 0) : fitsB N L 5 = true ∧ NetOk N ∧ ∃ d : Nat, d < N.devices.length ∧ dvF N L.dev = (d : Int) ∧ ¬ 0 < (N.devices.getD d DevV.zero).vtep ∧ owF N L.addr = -1 ∧ vtN N L = withVtep N d L.addr := by
  have h0 := h
  unfold vtE at h
  by_cases f : fitsB N L 5 = true
  rotate_left
  · rw [if_pos (Bool.eq_false_iff.2 f)] at h; cases h
  rw [if_neg (by rw [f]; decide)] at h
  by_cases c1 : dvF N L.dev < 0
  · rw [if_pos c1] at h; cases h
  rw [if_neg c1] at h
  obtain ⟨d, hd, ed⟩ := dv_at c1
  rw [ed, show ((d : Int)).toNat = d from rfl] at h
  by_cases c2 : 0 < (N.devices.getD d DevV.zero).vtep ∨ 0 ≤ owF N L.addr
  · rw [if_pos c2] at h; cases h
  refine ⟨f, (fits_iff.1 f).2.2, d, hd, ed, fun e => c2 (.inl e), ?_, by unfold vtN; rw [if_pos h0, ed]; rfl⟩
  rcases ow_place N L.addr with e | ⟨j, _, e, _⟩
  · exact e
  · exact absurd (.inr (by omega)) c2
theorem vn_inv {N : NV} {L : LV} (h : vnE N L = 0) : fitsB N L 6 = true ∧ NetOk N ∧ ∃ d m : Nat, d < N.devices.length ∧ dvF N L.dev = (d : Int) ∧ (N.devices.getD d DevV.zero).vtep ≠ 0 ∧ m < N.domains.length ∧ atF N (d : Int) L.vlan = (m : Int) ∧ (N.domains.getD m DomV.zero).dev = (d : Int) ∧ (N.domains.getD m DomV.zero).vlan = L.vlan ∧ (N.domains.getD m DomV.zero).vni = 0 ∧ fdF N (d : Int) L.num = -1 ∧ vnN N L = withVni N m L.num L.row := by
  have h0 := h
  unfold vnE at h
  by_cases f : fitsB N L 6 = true
  rotate_left
  · rw [if_pos (Bool.eq_false_iff.2 f)] at h; cases h
  rw [if_neg (by rw [f]; decide)] at h
  by_cases c1 : dvF N L.dev < 0
  · rw [if_pos c1] at h; cases h
  rw [if_neg c1] at h
  obtain ⟨d, hd, ed⟩ := dv_at c1
  rw [ed, show ((d : Int)).toNat = d from rfl] at h
  by_cases c2 : (N.devices.getD d DevV.zero).vtep = 0
  · rw [if_pos c2] at h; cases h
  rw [if_neg c2] at h
  by_cases c3 : atF N (d : Int) L.vlan < 0
  · rw [if_pos c3] at h; cases h
  rw [if_neg c3] at h
  obtain ⟨m, hm, em, dm, vm⟩ := atF_lt (N := N) (dev := (d : Int)) (v := L.vlan) (by omega)
  rw [em, show ((m : Int)).toNat = m from rfl] at h
  by_cases c4 : 0 < (N.domains.getD m DomV.zero).vni ∨ 0 ≤ fdF N (d : Int) L.num
  · rw [if_pos c4] at h; cases h
  have hn := (fits_iff.1 f).2.2
  refine ⟨f, hn, d, m, hd, ed, c2, hm, em, dm, vm, ?_, ?_, by unfold vnN; rw [if_pos h0, ed, em]; rfl⟩
  · have g := (hn.dm.1 m hm).vni.1
    have : ¬ 0 < (N.domains.getD m DomV.zero).vni := fun e => c4 (.inl e)
    omega
  · rcases fd_place N (d : Int) L.num with e | ⟨j, _, e, _⟩
    · exact e
    · exact absurd (.inr (by omega)) c4
theorem fl_inv {N : NV} {L : LV} (h : flE N L = 0) : fitsB N L 7 = true ∧ NetOk N ∧ ∃ d : Nat, d < N.devices.length ∧ dvF N L.dev = (d : Int) ∧ 0 ≤ fdF N (d : Int) L.num ∧ lsF N (d : Int) L.num = -1 ∧ memB L.addrs (N.devices.getD d DevV.zero).vtep = false ∧ N.floods.length < 48 ∧ flN N L = withFlood N L.row d L.num L.addrs := by
  have h0 := h
  unfold flE at h
  by_cases f : fitsB N L 7 = true
  rotate_left
  · rw [if_pos (Bool.eq_false_iff.2 f)] at h; cases h
  rw [if_neg (by rw [f]; decide)] at h
  by_cases c1 : dvF N L.dev < 0
  · rw [if_pos c1] at h; cases h
  rw [if_neg c1] at h
  obtain ⟨d, hd, ed⟩ := dv_at c1
  rw [ed, show ((d : Int)).toNat = d from rfl] at h
  by_cases c2 : fdF N (d : Int) L.num < 0
  · rw [if_pos c2] at h; cases h
  rw [if_neg c2] at h
  by_cases c3 : 0 ≤ lsF N (d : Int) L.num
  · rw [if_pos c3] at h; cases h
  rw [if_neg c3] at h
  by_cases c4 : memB L.addrs (N.devices.getD d DevV.zero).vtep = true
  · rw [if_pos c4] at h; cases h
  rw [if_neg c4] at h
  by_cases c5 : 48 ≤ N.floods.length
  · rw [if_pos c5] at h; cases h
  refine ⟨f, (fits_iff.1 f).2.2, d, hd, ed, by omega, ?_, Bool.eq_false_iff.2 c4, by omega, by unfold flN; rw [if_pos h0, ed]; rfl⟩
  rcases ls_place N (d : Int) L.num with e | ⟨j, _, e, _⟩
  · exact e
  · omega
/-! The line's own fields. -/
theorem kd5_addr {N : NV} {L : LV} (h : fitsB N L 5 = true) (ha : 0 ≤ L.addr ∧ L.addr < 4294967296) : L.addr ≠ 0 := by
  obtain ⟨k, r, _⟩ := fits_iff.1 h
  obtain ⟨s, a, e, _, g, _⟩ := rg_kd5 r k ha
  rw [e]
  show a ≠ 0
  omega
theorem kd6_num {N : NV} {L : LV} (h : fitsB N L 6 = true) : 1 ≤ L.num ∧ L.num ≤ 16777215 := by
  obtain ⟨k, r, _⟩ := fits_iff.1 h
  obtain ⟨s, v, a, e, _, _, g⟩ := rg_kd6 r k
  rw [e]
  exact g
theorem kd7_addrs {N : NV} {L : LV} (h : fitsB N L 7 = true) (hx : ∀ x ∈ L.addrs, 0 ≤ x ∧ x < 4294967296) : L.addrs.length ≤ 16 ∧ 1 ≤ L.num ∧ L.num ≤ 16777215 := by
  obtain ⟨k, r, _⟩ := fits_iff.1 h
  obtain ⟨s, a, xs, e, _, g, g2, _⟩ := rg_kd7 r k hx
  rw [e]
  unfold risIn at g2
  rw [Bool.and_eq_true] at g2
  exact ⟨((risB_iff xs).1 g2.1).2.1, g.1, g.2⟩
/-! With what is put the net may be. -/
theorem vt_fits {N : NV} {L : LV} (ha : 0 ≤ L.addr ∧ L.addr < 4294967296) (h : vtE N L = 0) : NetOk (vtN N L) := by
  obtain ⟨f, hn, d, hd, _, _, _, e⟩ := vt_inv h
  rw [e]
  exact withVtep_ok hn hd (kd5_addr f ha)
theorem vn_fits {N : NV} {L : LV} (h : vnE N L = 0) : NetOk (vnN N L) := by
  obtain ⟨f, hn, d, m, _, _, _, hm, _, _, _, h0, _, e⟩ := vn_inv h
  have g := kd6_num f
  rw [e]
  exact withVni_ok L.row hn hm (by omega) h0
theorem fl_fits {N : NV} {L : LV} (hx : ∀ x ∈ L.addrs, 0 ≤ x ∧ x < 4294967296) (h : flE N L = 0) : NetOk (flN N L) := by
  obtain ⟨f, hn, d, hd, _, _, _, _, z, e⟩ := fl_inv h
  rw [e]
  exact withFlood_ok L.row L.num hn hd (kd7_addrs f hx).1 z
/-- a VNI that was put is found -/
theorem vn_found {N : NV} {d m : Nat} {v row : Int} (hm : m < N.domains.length) (hd : (N.domains.getD m DomV.zero).dev = (d : Int)) (hv : v ≠ 0) (h0 : fdF N (d : Int) v = -1) : fdF (withVni N m v row) (d : Int) v = (m : Int) := by
  have none_ : ∀ i, i < N.domains.length → ¬ ((N.domains.getD i DomV.zero).dev = (d : Int) ∧ (N.domains.getD i DomV.zero).vni = v ∧ v ≠ 0) := by
    rcases fdK_fst (d : Int) v N.domains 0 with ⟨j, h1, h2, h3, _⟩ | ⟨_, h⟩
    · have e : fdF N (d : Int) v = ((0 + j : Nat) : Int) := h2
      omega
    · exact h
  rcases fdK_fst (d : Int) v (withVni N m v row).domains 0 with ⟨j, h1, h2, h3, _⟩ | ⟨_, h⟩
  · have e : fdF (withVni N m v row) (d : Int) v = ((0 + j : Nat) : Int) := h2
    by_cases ej : j = m
    · rw [e, ej]; congr 1; omega
    · rw [vn_ne N ej] at h3
      rw [vn_len] at h1
      exact absurd h3 (none_ j h1)
  · have := h m (by rw [vn_len]; exact hm)
    rw [vn_at hm] at this
    exact absurd ⟨hd, rfl, hv⟩ this
/-- the kinds keep apart -/
theorem ol_apart {N : NV} {L : LV} : ¬ (vtE N L = 0 ∧ vnE N L = 0) ∧ ¬ (vtE N L = 0 ∧ flE N L = 0) ∧ ¬ (vnE N L = 0 ∧ flE N L = 0) := by
  refine ⟨fun ⟨a, b⟩ => ?_, fun ⟨a, b⟩ => ?_, fun ⟨a, b⟩ => ?_⟩
  · have := (fits_iff.1 (vt_inv a).1).1; have := (fits_iff.1 (vn_inv b).1).1; omega
  · have := (fits_iff.1 (vt_inv a).1).1; have := (fits_iff.1 (fl_inv b).1).1; omega
  · have := (fits_iff.1 (vn_inv a).1).1; have := (fits_iff.1 (fl_inv b).1).1; omega
theorem vt_sz {N : NV} (k : Nat) (a : Int) (h : NvSz N) : NvSz (withVtep N k a) :=
  ⟨by rw [vt_len]; exact h.zdv, h.zpt, h.zlk, h.zdm, h.zst, h.zfl, h.zvr, h.zir, h.ipt, h.idm, h.ifl, h.ivr⟩
theorem vn_sz {N : NV} {k : Nat} (hk : k < N.domains.length) (v row : Int) (h : NvSz N) : NvSz (withVni N k v row) :=
  ⟨h.zdv, h.zpt, h.zlk, by rw [vn_len]; exact h.zdm, h.zst, h.zfl, h.zvr, h.zir, h.ipt, fun j hj => by rw [(vn_same hk v row j).2.2.2]; rw [vn_len] at hj; exact h.idm j hj, h.ifl, h.ivr⟩
theorem fl_sz {N : NV} (row : Int) (d : Nat) (v : Int) {xs : List Int} (h : NvSz N) (hx : xs.length ≤ 16) (z : N.floods.length < 48) : NvSz (withFlood N row d v xs) := by
  refine ⟨h.zdv, h.zpt, h.zlk, h.zdm, h.zst, by rw [fl_len]; omega, h.zvr, h.zir, h.ipt, h.idm, fun j hj => ?_, h.ivr⟩
  rw [fl_len] at hj
  by_cases ho : j < N.floods.length
  · rw [show (withFlood N row d v xs).floods.getD j FloodV.zero = N.floods.getD j FloodV.zero from getD_old ho]
    exact h.ifl j ho
  · obtain rfl : j = N.floods.length := by omega
    have e : (withFlood N row d v xs).floods.getD N.floods.length FloodV.zero = ⟨row, d, v, xs⟩ := by
      show (N.floods ++ [_]).getD _ _ = _
      have := getD_new (xs := N.floods) (ys := [(⟨row, d, v, xs⟩ : FloodV)]) (j := 0) (d := FloodV.zero)
      rw [Nat.add_zero] at this
      rw [this]
      rfl
    rw [e]
    show xs.length ≤ 100
    omega
/-- the elder flood lists alone -/
theorem flood_cut {w : World} {F : Nat → Prop} {N : NV} {row v : Int} {d : Nat} {xs : List Int} {U : NSl3} (h : NRead w F (withFlood N row d v xs) U) : NRead w F N { U with fl := ⟨U.fl.A, N.floods.length, U.fl.c⟩ } := by
  have e := rsl_take (m := N.floods.length) h.fl (by have := h.fl.len; rw [← this, fl_len]; omega)
  rw [show (withFlood N row d v xs).floods.take N.floods.length = N.floods by simp [withFlood]] at e
  exact ⟨h.dv, h.pt, h.lk, h.dm, h.st, e, h.vr, h.ir⟩
end Go.Proofs.YtgmflecelnefcaaGreat

/- Package names: rows copied (slices.Clone), records copied, each: rows of the call's own, in blocks that are not frozen. (Made by mk-nncopy.py.) -/
namespace Go.Proofs.YtgmflecelnefcaaGreat
open Go.RowKit

/-- a block from B on that is not frozen -/
def NFO (B : Nat) (w : World) (b : Nat) : Prop := B ≤ b ∧ b < w.heap.size ∧ ∀ o, w.frozen? ⟨b, o, none⟩ = false
/-- a block from B on that holds numbers -/
def NFB (B : Nat) (w : World) (b : Nat) : Prop := B ≤ b ∧ b < w.heap.size ∧ TyI w b
theorem NFB.low {B B' : Nat} {w : World} {b : Nat} (h : NFB B w b) (hB : B' ≤ B) : NFB B' w b := ⟨Nat.le_trans hB h.1, h.2⟩
theorem NFB.o {B : Nat} {w : World} {b : Nat} (h : NFB B w b) : NFO B w b := ⟨h.1, h.2.1, h.2.2.live⟩
theorem NFB.same {B : Nat} {w w' : World} {b : Nat} (h : NFB B w b) (e : w'.heap[b]? = w.heap[b]?) : NFB B w' b :=
  ⟨h.1, lt_of_heap e h.2.1, h.2.2.same e⟩
/-- the same data, read by such blocks alone -/
def Rdr.nf {α : Type} (R : Rdr α) (B : Nat) : Rdr α where
  n := R.n
  rd := fun w F vs a => R.rd w (fun b => F b ∧ NFB B w b) vs a
  len := fun h => R.len h
  one := fun h => R.one h
  keep := fun h hb hF => R.keep h (fun b g => hb b g.1) (fun b g => ⟨hF b g.1, g.2.same (hb b g.1)⟩)
section
variable {α : Type} {R : Rdr α} {w w' : World} {B : Nat} {e : TypeId} {A : Option Addr} {n c : Nat} {xs : List α} {F : Nat → Prop}
theorem ROwn.readN (h : ROwn (R.nf B) w B e (.slice A n c) xs) : RSl R w (NFO B w) A n c xs := by
  obtain ⟨vs, h1, h2⟩ := h
  rcases h1.2 with ⟨hv, hn⟩ | ⟨g, cap, cur, hv, hB, hh, hnc, hm, hs, ht⟩
  · injection hv with e1 e2 e3
    subst e1 e2 e3
    exact ⟨hn, Nat.le_refl _, Nat.zero_le _, fun _ => rfl, fun h => absurd h (by omega)⟩
  · injection hv with e1 e2 e3
    subst e1 e2 e3
    have hg : g < w.heap.size := by
      rcases Nat.lt_or_ge g w.heap.size with h' | h'
      · exact h'
      · rw [Array.getElem?_eq_none h'] at hh; cases hh
    refine ⟨rfl, hnc, hm, fun e => (by cases e), fun hn => ⟨g, 0, rfl, ⟨hB, hg, fun o => by simp [World.frozen?, hh]⟩, hg, fun j x hx => ?_⟩⟩
    obtain ⟨us, g1, g2⟩ := h2.at_ j x hx
    refine ⟨us, R.keep g1 (fun _ _ => rfl) (fun b hb => hb.2.o), fun i v hv => ?_⟩
    have hi := g2 i v hv
    rw [← ht] at hi
    have hlt : j * R.n + i < xs.length * R.n := by
      have := (List.getElem?_eq_some_iff.1 hi).1
      rw [List.length_take] at this
      have e : (R.nf B).n = R.n := rfl
      rw [e] at this
      omega
    rw [List.getElem?_take, if_pos (show j * (R.nf B).n + i < xs.length * (R.nf B).n from hlt)] at hi
    rw [Nat.zero_add]
    simp only [World.cell?, hh]
    simpa [Rdr.nf] using hi
/-- a row of numbers, by its own block -/
theorem ROwn.readT (h : ROwn (R.nf B) w B e (.slice A n c) xs) (he : e = 3 ∨ e = 33) : RSl R w (NFB B w) A n c xs := by
  obtain ⟨h1, h2, h3, h4, h5⟩ := h.readN
  refine ⟨h1, h2, h3, h4, fun hn => ?_⟩
  obtain ⟨b, off, e1, g1, g2, g3⟩ := h5 hn
  have hb : NFB B w b := by
    obtain ⟨vs, o1, _⟩ := h
    rcases o1.2 with ⟨hv, hn0⟩ | ⟨g, cap, cur, hv, hB, hh, _⟩
    · injection hv with e2 e3; omega
    · injection hv with e2
      rw [e1] at e2
      injection e2 with e2
      injection e2 with e2 _
      subst e2
      exact ⟨hB, g2, cur, e, hh, he⟩
  obtain ⟨vs, o1, o2⟩ := h
  refine ⟨b, off, e1, hb, g2, fun j x hx => ?_⟩
  obtain ⟨us, k1, k2⟩ := o2.at_ j x hx
  obtain ⟨us2, l1, l2⟩ := g3 j x hx
  rcases o1.2 with ⟨hv, hn0⟩ | ⟨g, cap, cur, hv, hB, hh, hnc, hm, hs, ht⟩
  · injection hv with e2 e3; omega
  · injection hv with e2 e3
    subst e3
    rw [e1] at e2
    injection e2 with e2
    injection e2 with e2 e4
    subst e2 e4
    refine ⟨us, R.keep k1 (fun _ _ => rfl) (fun b hb => hb.2), fun i v hv => ?_⟩
    have hi := k2 i v hv
    rw [← ht] at hi
    have hlt : j * R.n + i < xs.length * R.n := by
      have := (List.getElem?_eq_some_iff.1 hi).1
      rw [List.length_take] at this
      have e : (R.nf B).n = R.n := rfl
      rw [e] at this
      omega
    rw [List.getElem?_take, if_pos (show j * (R.nf B).n + i < xs.length * (R.nf B).n from hlt)] at hi
    rw [Nat.zero_add]
    simp only [World.cell?, hh]
    simpa [Rdr.nf] using hi
theorem RdAll.lowN {B' : Nat} (hB : B' ≤ B) : ∀ {xs : List α} {vs : List Value}, RdAll (R.nf B) w F vs xs → RdAll (R.nf B') w F vs xs
  | [], _, h => h
  | _ :: _, _, ⟨us, ws, e, h1, h2⟩ => ⟨us, ws, e, R.keep h1 (fun _ _ => rfl) (fun _ g => ⟨g.1, g.2.low hB⟩), h2.lowN hB⟩
theorem ROwn.lowN {B' : Nat} {v : Value} (h : ROwn (R.nf B) w B e v xs) (hB : B' ≤ B) : ROwn (R.nf B') w B' e v xs := by
  obtain ⟨vs, h1, h2⟩ := h
  refine ⟨vs, ⟨h1.1, ?_⟩, h2.lowN hB⟩
  rcases h1.2 with h3 | ⟨g, cap, cur, hv, hg, r⟩
  · exact .inl h3
  · exact .inr ⟨g, cap, cur, hv, Nat.le_trans hB hg, r⟩
theorem RdAll.keepN {F F' : Nat → Prop} (hb : ∀ b, F b → B ≤ b → w'.heap[b]? = w.heap[b]?) (hF : ∀ b, F b → F' b) : ∀ {xs : List α} {vs : List Value}, RdAll (R.nf B) w F vs xs → RdAll (R.nf B) w' F' vs xs
  | [], _, h => h
  | _ :: _, _, ⟨us, ws, e, h1, h2⟩ => ⟨us, ws, e, R.keep h1 (fun b g => hb b g.1 g.2.1) (fun b g => ⟨hF b g.1, g.2.same (hb b g.1 g.2.1)⟩), h2.keepN hb hF⟩
theorem ROwn.keepN {v : Value} (h : ROwn (R.nf B) w B e v xs) (hb : ∀ b, B ≤ b → b < w.heap.size → w'.heap[b]? = w.heap[b]?) (hs : w.heap.size ≤ w'.heap.size) : ROwn (R.nf B) w' B e v xs := by
  obtain ⟨vs, h1, h2⟩ := h
  refine ⟨vs, ⟨h1.1, ?_⟩, h2.keepN (fun b g hB => hb b hB g.1) (fun b g => ⟨Nat.lt_of_lt_of_le g.1 hs, g.2⟩)⟩
  rcases h1.2 with h3 | ⟨g, cap, cur, hv, hB, hh, hnc, hm, hsz, ht⟩
  · exact .inl h3
  · refine .inr ⟨g, cap, cur, hv, hB, ?_, hnc, hm, hsz, ht⟩
    rw [hb g hB (by
      rcases Nat.lt_or_ge g w.heap.size with h' | h'
      · exact h'
      · rw [Array.getElem?_eq_none h'] at hh; cases hh)]
    exact hh
/-- what reads by no block -/
theorem RSl.flat (hf : ∀ w F F' vs a, R.rd w F vs a → R.rd w F' vs a) (h : RSl R w F A n c xs) : RSl (R.nf B) w F A n c xs :=
  ⟨h.1, h.2.1, h.2.2.1, h.2.2.2.1, fun hn => by
    obtain ⟨b, off, e, h1, h2, h3⟩ := h.2.2.2.2 hn
    exact ⟨b, off, e, h1, h2, fun j x hx => by obtain ⟨vs, g1, g2⟩ := h3 j x hx; exact ⟨vs, hf _ _ _ _ _ g1, g2⟩⟩⟩
end
/-- an element type of n cells -/
def Desc (P : Program) (e : TypeId) (n : Nat) : Prop := ∃ i z, P.info? e = some i ∧ i.zero = some z ∧ i.size = n ∧ i.bytes ≤ 1000 ∧ z.cells.size = n
theorem Desc.of {P : Program} {e : TypeId} {n : Nat} (h : (P.info? e).map (fun i => (decide (i.bytes ≤ 1000), i.size, i.zero.map (fun z => z.cells.size))) = some (true, n, some n)) : Desc P e n := by
  cases hi : P.info? e with
  | none => rw [hi] at h; cases h
  | some i =>
    rw [hi] at h
    simp only [Option.map_some, Option.some.injEq, Prod.mk.injEq] at h
    obtain ⟨h1, h2, h3⟩ := h
    cases hz : i.zero with
    | none => rw [hz] at h3; cases h3
    | some z =>
      rw [hz] at h3
      exact ⟨i, z, hi, hz, h2, of_decide_eq_true h1, by simpa using h3⟩
theorem wpList_dapps {P : Program} {α : Type} (R : Rdr α) {w : World} {ops : Array Oper} {rest : List Oper} {o : Oper} {a : Act} {Q : Exit → Act → World → Prop} (hgd : o.guard = none) (s x : Operand) (t e : TypeId) (ht : P.underlying t = some (.slice e)) (hd : Desc P e R.n) (hR : 0 < R.n)
    (ho : o.op = .call { callee := .builtin .append, args := #[s, x], argTypes := #[t, t] }) (base : Nat) (v : Value) (xs : List α) (hown : ROwn R w base e v xs)
    (F : Nat → Prop) (A : Option Addr) (m c : Nat) (ys : List α) (hy : RSl R w F A m c ys) (hF : ∀ b, F b → offRow w v b) (hn : xs.length + m ≤ 100000) (hbase : base ≤ w.heap.size)
    (hs : a.eval s = v) (hx : a.eval x = .slice A m c)
    (h : ∀ v' w', ROwn R w' base e v' (xs ++ ys) → Below base w w' → wpList P ops Q rest (a.put o.dst v') w') : wpList P ops Q (o :: rest) a w := by
  obtain ⟨i, z, hi, hz, hsize, hb, hzs⟩ := hd
  refine wpList_rapps R hgd s x t ho base e i z i.bytes ht hi hz hsize rfl hzs hR v xs hown F A m c ys hy hF (by unfold maxLen; omega) ?_ hbase hs hx h
  exact Nat.le_trans (Nat.mul_le_mul hn hb) (by decide)
theorem wpList_dapp {P : Program} {α : Type} (R : Rdr α) {w0 : World} {ops : Array Oper} {rest : List Oper} {o : Oper} {a : Act} {Q : Exit → Act → World → Prop} (hgd : o.guard = none) (s x : Operand) (t e : TypeId) (ht : P.underlying t = some (.slice e)) (hd : Desc P e R.n) (hR : 0 < R.n)
    (ho : o.op = .call { callee := .builtin .append, args := #[s, x], argTypes := #[t, t] }) (base : Nat) (v : Value) (xs : List α) (hown : ROwn R w0 base e v xs)
    (y : α) (cells : Array Value) (F : Nat → Prop) (hy : R.rd w0 F cells.toList y) (hF : ∀ b, F b → offRow w0 v b) (hn : xs.length + 1 ≤ 100000) (hbase : base ≤ w0.heap.size)
    (hs : a.eval s = v) (hx : a.eval x = .slice (some ⟨w0.heap.size, 0, none⟩) 1 1)
    (h : ∀ v' w', ROwn R w' base e v' (xs ++ [y]) → Below base w0 w' → wpList P ops Q rest (a.put o.dst v') w') : wpList P ops Q (o :: rest) a (w0.alloc (.cells cells e)) := by
  obtain ⟨i, z, hi, hz, hsize, hb, hzs⟩ := hd
  refine wpList_rapp R hgd s x t ho base e i z i.bytes ht hi hz hsize rfl hzs hR v xs hown y cells F hy hF w0.heap.size rfl (by unfold maxLen; omega) ?_ hbase hs hx h
  exact Nat.le_trans (Nat.mul_le_mul hn hb) (by decide)
/-- a row of the call's own, as a call returns it -/
def GotR {α : Type} (R : Rdr α) (xs : List α) (w : World) (e : Ending) (w' : World) : Prop := ∃ t : Sl3, e = .returned (.slice t.A t.n t.c) ∧ RSl R w' (NFB w.heap.size w') t.A t.n t.c xs ∧ Below w.heap.size w w'
/-- .. that can be appended to -/
def GotO {α : Type} (R : Rdr α) (T : TypeId) (xs : List α) (w : World) (e : Ending) (w' : World) : Prop := ∃ t : Sl3, e = .returned (.slice t.A t.n t.c) ∧ ROwn (R.nf w.heap.size) w' w.heap.size T (.slice t.A t.n t.c) xs ∧ Below w.heap.size w w'
theorem tclone2 (l : List UInt8) (w : World) (hs : l.length ≤ 140737488351232) : Calls Tryz.prog 141 #[.string (str l)] w fun e w' => e = .returned (.string (str l)) ∧ Below w.heap.size w w' := by
  have hz : (str l).size ≤ 281474976710656 := by rw [str_size]; omega
  go_enter Tryz.func141, Tryz.ntmps141
  go_wp2_with (go_at_call 177; refine (Tryz.stringslite_Clone (str l) _ hz).mono ?_; rintro e w1 ⟨rfl, hb1⟩)
  go_ret
  exact ⟨rfl, hb1⟩
theorem desc_int : Desc Tryz.prog 3 1 := Desc.of (by kernel_rfl)
set_option maxHeartbeats 1000000 in
theorem cl_int (s : Sl3) (xs : List Int) (w : World) (h : RSl (Rdr.int .i64) w (allB w) s.A s.n s.c xs) (hz : xs.length ≤ 1000) : Calls Tryz.prog 142 #[.slice s.A s.n s.c] w (GotR (Rdr.int .i64) xs w) := by
  obtain ⟨A, n, c⟩ := s
  dsimp only at h ⊢
  have hlen := h.len
  rcases A with _ | ad
  · have hn0 : n = 0 := by
      have hc := h.2.2.2.1 rfl
      have := h.le
      omega
    subst hn0
    obtain rfl : xs = [] := List.eq_nil_of_length_eq_zero hlen
    clear h hlen
    have hq := fun w => Lib.run_eql_slice_nil (P := Tryz.prog) w 34 3 none 0 c 0 0 Tryz.underlying34
    go_enter Tryz.func142, Tryz.ntmps142
    go_wp2
    go_ret
    exact ⟨Sl3.nil, rfl, RSl.nil, Below.refl _ _⟩
  · have HS := Lib.hid h
    have LN := Lib.hid hlen
    have HZ := Lib.hid hz
    clear h hlen hz
    have hq := fun w => Lib.run_eql_slice_nil (P := Tryz.prog) w 34 3 (some ad) n c 0 0 Tryz.underlying34
    go_enter Tryz.func142, Tryz.ntmps142
    go_wp2_with (at_builtin; (refine wpList_dapps ((Rdr.int .i64).nf w.heap.size) rfl (.tmp 5) (.tmp 6) 34 3 Tryz.underlying34 desc_int (show 0 < 1 by decide) rfl w.heap.size _ [] (ROwn.lit0 w w.heap.size 3 (Nat.le_refl _)) (allB w) (some ad) n c xs ?hy ?hF ?h1 ?h2 ?hs ?hx ?_); (case hy => exact (HS.out.keep (fun b hb => Below.heap_alloc w _ b hb) (fun _ h => h)).flat (fun _ _ _ _ _ h => h)); (case hF => exact fun b hb => ⟨by (have h3 : b < w.heap.size := hb; simp; omega), fun e => by (have e2 : w.heap.size = b := Option.some.inj e; have h3 : b < w.heap.size := hb; omega)⟩); (case h1 => (have := LN.out; have := HZ.out; simp; omega)); (case h2 => simp); (case hs => rfl); (case hx => rfl); intro v2 w2 o2 b2; obtain ⟨A2, c2, rfl⟩ := o2.shape; have O2 := Lib.hid o2; have B2 := Lib.hid ((alloc_below w (.cells #[] 3)).trans b2); clear o2 b2)
    go_ret
    exact ⟨⟨A2, _, c2⟩, rfl, O2.out.readT (.inl rfl), B2.out⟩
theorem desc_uint32 : Desc Tryz.prog 33 1 := Desc.of (by kernel_rfl)
set_option maxHeartbeats 1000000 in
theorem cl_uint32 (s : Sl3) (xs : List Int) (w : World) (h : RSl (Rdr.int .u32) w (allB w) s.A s.n s.c xs) (hz : xs.length ≤ 1000) : Calls Tryz.prog 143 #[.slice s.A s.n s.c] w (GotR (Rdr.int .u32) xs w) := by
  obtain ⟨A, n, c⟩ := s
  dsimp only at h ⊢
  have hlen := h.len
  rcases A with _ | ad
  · have hn0 : n = 0 := by
      have hc := h.2.2.2.1 rfl
      have := h.le
      omega
    subst hn0
    obtain rfl : xs = [] := List.eq_nil_of_length_eq_zero hlen
    clear h hlen
    have hq := fun w => Lib.run_eql_slice_nil (P := Tryz.prog) w 35 33 none 0 c 0 0 Tryz.underlying35
    go_enter Tryz.func143, Tryz.ntmps143
    go_wp2
    go_ret
    exact ⟨Sl3.nil, rfl, RSl.nil, Below.refl _ _⟩
  · have HS := Lib.hid h
    have LN := Lib.hid hlen
    have HZ := Lib.hid hz
    clear h hlen hz
    have hq := fun w => Lib.run_eql_slice_nil (P := Tryz.prog) w 35 33 (some ad) n c 0 0 Tryz.underlying35
    go_enter Tryz.func143, Tryz.ntmps143
    go_wp2_with (at_builtin; (refine wpList_dapps ((Rdr.int .u32).nf w.heap.size) rfl (.tmp 5) (.tmp 6) 35 33 Tryz.underlying35 desc_uint32 (show 0 < 1 by decide) rfl w.heap.size _ [] (ROwn.lit0 w w.heap.size 33 (Nat.le_refl _)) (allB w) (some ad) n c xs ?hy ?hF ?h1 ?h2 ?hs ?hx ?_); (case hy => exact (HS.out.keep (fun b hb => Below.heap_alloc w _ b hb) (fun _ h => h)).flat (fun _ _ _ _ _ h => h)); (case hF => exact fun b hb => ⟨by (have h3 : b < w.heap.size := hb; simp; omega), fun e => by (have e2 : w.heap.size = b := Option.some.inj e; have h3 : b < w.heap.size := hb; omega)⟩); (case h1 => (have := LN.out; have := HZ.out; simp; omega)); (case h2 => simp); (case hs => rfl); (case hx => rfl); intro v2 w2 o2 b2; obtain ⟨A2, c2, rfl⟩ := o2.shape; have O2 := Lib.hid o2; have B2 := Lib.hid ((alloc_below w (.cells #[] 33)).trans b2); clear o2 b2)
    go_ret
    exact ⟨⟨A2, _, c2⟩, rfl, O2.out.readT (.inr rfl), B2.out⟩
theorem desc_link : Desc Tryz.prog 84 3 := Desc.of (by kernel_rfl)
set_option maxHeartbeats 1000000 in
theorem cl_link (s : Sl3) (xs : List LinkV) (w : World) (h : RSl (linkR) w (allB w) s.A s.n s.c xs) (hz : xs.length ≤ 1000) : Calls Tryz.prog 99 #[.slice s.A s.n s.c] w (GotO (linkR) 84 xs w) := by
  obtain ⟨A, n, c⟩ := s
  dsimp only at h ⊢
  have hlen := h.len
  rcases A with _ | ad
  · have hn0 : n = 0 := by
      have hc := h.2.2.2.1 rfl
      have := h.le
      omega
    subst hn0
    obtain rfl : xs = [] := List.eq_nil_of_length_eq_zero hlen
    clear h hlen
    have hq := fun w => Lib.run_eql_slice_nil (P := Tryz.prog) w 24 84 none 0 c 0 0 Tryz.underlying24
    go_enter Tryz.func99, Tryz.ntmps99
    go_wp2
    go_ret
    exact ⟨Sl3.nil, rfl, ROwn.nil _ _ _, Below.refl _ _⟩
  · have HS := Lib.hid h
    have LN := Lib.hid hlen
    have HZ := Lib.hid hz
    clear h hlen hz
    have hq := fun w => Lib.run_eql_slice_nil (P := Tryz.prog) w 24 84 (some ad) n c 0 0 Tryz.underlying24
    go_enter Tryz.func99, Tryz.ntmps99
    go_wp2_with (at_builtin; (refine wpList_dapps ((linkR).nf w.heap.size) rfl (.tmp 5) (.tmp 6) 24 84 Tryz.underlying24 desc_link (show 0 < 3 by decide) rfl w.heap.size _ [] (ROwn.lit0 w w.heap.size 84 (Nat.le_refl _)) (allB w) (some ad) n c xs ?hy ?hF ?h1 ?h2 ?hs ?hx ?_); (case hy => exact (HS.out.keep (fun b hb => Below.heap_alloc w _ b hb) (fun _ h => h)).flat (fun _ _ _ _ _ h => h)); (case hF => exact fun b hb => ⟨by (have h3 : b < w.heap.size := hb; simp; omega), fun e => by (have e2 : w.heap.size = b := Option.some.inj e; have h3 : b < w.heap.size := hb; omega)⟩); (case h1 => (have := LN.out; have := HZ.out; simp; omega)); (case h2 => simp); (case hs => rfl); (case hx => rfl); intro v2 w2 o2 b2; obtain ⟨A2, c2, rfl⟩ := o2.shape; have O2 := Lib.hid o2; have B2 := Lib.hid ((alloc_below w (.cells #[] 84)).trans b2); clear o2 b2)
    go_ret
    exact ⟨⟨A2, _, c2⟩, rfl, O2.out, B2.out⟩
theorem desc_stat : Desc Tryz.prog 89 4 := Desc.of (by kernel_rfl)
set_option maxHeartbeats 1000000 in
theorem cl_stat (s : Sl3) (xs : List StatV) (w : World) (h : RSl (statR) w (allB w) s.A s.n s.c xs) (hz : xs.length ≤ 1000) : Calls Tryz.prog 102 #[.slice s.A s.n s.c] w (GotO (statR) 89 xs w) := by
  obtain ⟨A, n, c⟩ := s
  dsimp only at h ⊢
  have hlen := h.len
  rcases A with _ | ad
  · have hn0 : n = 0 := by
      have hc := h.2.2.2.1 rfl
      have := h.le
      omega
    subst hn0
    obtain rfl : xs = [] := List.eq_nil_of_length_eq_zero hlen
    clear h hlen
    have hq := fun w => Lib.run_eql_slice_nil (P := Tryz.prog) w 26 89 none 0 c 0 0 Tryz.underlying26
    go_enter Tryz.func102, Tryz.ntmps102
    go_wp2
    go_ret
    exact ⟨Sl3.nil, rfl, ROwn.nil _ _ _, Below.refl _ _⟩
  · have HS := Lib.hid h
    have LN := Lib.hid hlen
    have HZ := Lib.hid hz
    clear h hlen hz
    have hq := fun w => Lib.run_eql_slice_nil (P := Tryz.prog) w 26 89 (some ad) n c 0 0 Tryz.underlying26
    go_enter Tryz.func102, Tryz.ntmps102
    go_wp2_with (at_builtin; (refine wpList_dapps ((statR).nf w.heap.size) rfl (.tmp 5) (.tmp 6) 26 89 Tryz.underlying26 desc_stat (show 0 < 4 by decide) rfl w.heap.size _ [] (ROwn.lit0 w w.heap.size 89 (Nat.le_refl _)) (allB w) (some ad) n c xs ?hy ?hF ?h1 ?h2 ?hs ?hx ?_); (case hy => exact (HS.out.keep (fun b hb => Below.heap_alloc w _ b hb) (fun _ h => h)).flat (fun _ _ _ _ _ h => h)); (case hF => exact fun b hb => ⟨by (have h3 : b < w.heap.size := hb; simp; omega), fun e => by (have e2 : w.heap.size = b := Option.some.inj e; have h3 : b < w.heap.size := hb; omega)⟩); (case h1 => (have := LN.out; have := HZ.out; simp; omega)); (case h2 => simp); (case hs => rfl); (case hx => rfl); intro v2 w2 o2 b2; obtain ⟨A2, c2, rfl⟩ := o2.shape; have O2 := Lib.hid o2; have B2 := Lib.hid ((alloc_below w (.cells #[] 89)).trans b2); clear o2 b2)
    go_ret
    exact ⟨⟨A2, _, c2⟩, rfl, O2.out, B2.out⟩
theorem desc_irb : Desc Tryz.prog 98 5 := Desc.of (by kernel_rfl)
set_option maxHeartbeats 1000000 in
theorem cl_irb (s : Sl3) (xs : List IrbV) (w : World) (h : RSl (irbR) w (allB w) s.A s.n s.c xs) (hz : xs.length ≤ 1000) : Calls Tryz.prog 107 #[.slice s.A s.n s.c] w (GotO (irbR) 98 xs w) := by
  obtain ⟨A, n, c⟩ := s
  dsimp only at h ⊢
  have hlen := h.len
  rcases A with _ | ad
  · have hn0 : n = 0 := by
      have hc := h.2.2.2.1 rfl
      have := h.le
      omega
    subst hn0
    obtain rfl : xs = [] := List.eq_nil_of_length_eq_zero hlen
    clear h hlen
    have hq := fun w => Lib.run_eql_slice_nil (P := Tryz.prog) w 29 98 none 0 c 0 0 Tryz.underlying29
    go_enter Tryz.func107, Tryz.ntmps107
    go_wp2
    go_ret
    exact ⟨Sl3.nil, rfl, ROwn.nil _ _ _, Below.refl _ _⟩
  · have HS := Lib.hid h
    have LN := Lib.hid hlen
    have HZ := Lib.hid hz
    clear h hlen hz
    have hq := fun w => Lib.run_eql_slice_nil (P := Tryz.prog) w 29 98 (some ad) n c 0 0 Tryz.underlying29
    go_enter Tryz.func107, Tryz.ntmps107
    go_wp2_with (at_builtin; (refine wpList_dapps ((irbR).nf w.heap.size) rfl (.tmp 5) (.tmp 6) 29 98 Tryz.underlying29 desc_irb (show 0 < 5 by decide) rfl w.heap.size _ [] (ROwn.lit0 w w.heap.size 98 (Nat.le_refl _)) (allB w) (some ad) n c xs ?hy ?hF ?h1 ?h2 ?hs ?hx ?_); (case hy => exact (HS.out.keep (fun b hb => Below.heap_alloc w _ b hb) (fun _ h => h)).flat (fun _ _ _ _ _ h => h)); (case hF => exact fun b hb => ⟨by (have h3 : b < w.heap.size := hb; simp; omega), fun e => by (have e2 : w.heap.size = b := Option.some.inj e; have h3 : b < w.heap.size := hb; omega)⟩); (case h1 => (have := LN.out; have := HZ.out; simp; omega)); (case h2 => simp); (case hs => rfl); (case hx => rfl); intro v2 w2 o2 b2; obtain ⟨A2, c2, rfl⟩ := o2.shape; have O2 := Lib.hid o2; have B2 := Lib.hid ((alloc_below w (.cells #[] 98)).trans b2); clear o2 b2)
    go_ret
    exact ⟨⟨A2, _, c2⟩, rfl, O2.out, B2.out⟩
end Go.Proofs.YtgmflecelnefcaaGreat

