/- What stands on the other side of a link: the document's answer (the first link that a port is one of), the code's (by the port's own Link); what a VLAN is there. -/
import Derived.Test.YtnpembgchmmbjaaNtRight
namespace Go.Proofs.Ytnpembgchmmbjaa
open Go.RowKit

/-- the document's other port -/
def otK : List LinkV → Int → Int
  | [], _ => -1
  | l :: r, p => if l.a = p then l.b else if l.b = p then l.a else otK r p
def otF (N : NV) (p : Int) : Int := otK N.links p
theorem otK_at {xs : List LinkV} {k : Nat} (h : k < xs.length) (p : Int) : otK (xs.drop k) p = if (xs.getD k LinkV.zero).a = p then (xs.getD k LinkV.zero).b else if (xs.getD k LinkV.zero).b = p then (xs.getD k LinkV.zero).a else otK (xs.drop (k + 1)) p := by
  rw [List.drop_eq_getElem_cons h, otK]
  simp [List.getD, h]
theorem otK_fst (p : Int) : ∀ xs : List LinkV, (∃ j, j < xs.length ∧ ((xs.getD j LinkV.zero).a = p ∨ (xs.getD j LinkV.zero).b = p) ∧ otK xs p = if (xs.getD j LinkV.zero).a = p then (xs.getD j LinkV.zero).b else (xs.getD j LinkV.zero).a) ∨ (otK xs p = -1 ∧ ∀ j, j < xs.length → (xs.getD j LinkV.zero).a ≠ p ∧ (xs.getD j LinkV.zero).b ≠ p)
  | [] => .inr ⟨rfl, fun j hj => absurd hj (by simp)⟩
  | l :: r => by
    by_cases ha : l.a = p
    · exact .inl ⟨0, by simp, .inl ha, by rw [otK, if_pos ha]; simp [ha]⟩
    by_cases hb : l.b = p
    · exact .inl ⟨0, by simp, .inr hb, by rw [otK, if_neg ha, if_pos hb]; simp [ha]⟩
    rcases otK_fst p r with ⟨j, h1, h2, h3⟩ | ⟨h1, h2⟩
    · exact .inl ⟨j + 1, by simpa using h1, by simpa using h2, by rw [otK, if_neg ha, if_neg hb, h3]; simp⟩
    · refine .inr ⟨by rw [otK, if_neg ha, if_neg hb, h1], fun j hj => ?_⟩
      match j with
      | 0 => exact ⟨by simpa using ha, by simpa using hb⟩
      | j + 1 => simpa using h2 j (by simpa using hj)
/-- the port at a place -/
def ptA (N : NV) (p : Int) : PortV := N.ports.getD p.toNat PortV.zero
def lkO (N : NV) (p : Int) : Int := if (N.links.getD (ptA N p).link.toNat LinkV.zero).a = p then (N.links.getD (ptA N p).link.toNat LinkV.zero).b else (N.links.getD (ptA N p).link.toNat LinkV.zero).a
/-- the code's other port -/
def otC (N : NV) (p : Int) : Int := if plB p (N.ports.length : Int) = true ∧ (ptA N p).link ≠ -1 then lkO N p else -1
theorem plB_nat {p : Int} {n : Nat} (h : plB p (n : Int) = true) : ∃ x : Nat, p = (x : Int) ∧ x < n := by
  obtain ⟨a, b⟩ := (plB_iff _ _).1 h
  exact ⟨p.toNat, by omega, by omega⟩
theorem link_ends {N : NV} (hn : NetOk N) {j : Nat} (hj : j < N.links.length) {p : Int} (h : (N.links.getD j LinkV.zero).a = p ∨ (N.links.getD j LinkV.zero).b = p) : plB p (N.ports.length : Int) = true ∧ (ptA N p).link = (j : Int) := by
  have L := hn.lk j hj
  rcases h with h | h
  · exact ⟨h ▸ L.a, h ▸ L.la⟩
  · exact ⟨h ▸ L.b, h ▸ L.lb⟩
theorem ot_eq {N : NV} (hn : NetOk N) (p : Int) : otF N p = otC N p := by
  rcases otK_fst p N.links with ⟨j, h1, h2, h3⟩ | ⟨h1, h2⟩
  · obtain ⟨e1, e2⟩ := link_ends hn h1 h2
    unfold otC lkO
    rw [if_pos ⟨e1, by rw [e2]; omega⟩, e2, show ((j : Int)).toNat = j from rfl]
    exact h3
  · unfold otC
    rw [if_neg, show otF N p = -1 from h1]
    rintro ⟨e1, e2⟩
    obtain ⟨x, rfl, hx⟩ := plB_nat e1
    rcases (hn.pt x hx).link with g | ⟨g1, g2⟩
    · exact e2 g
    · obtain ⟨y, hy, hyl⟩ := plB_nat g1
      rw [show (N.ports.getD x PortV.zero).link.toNat = y by rw [hy]; rfl] at g2
      have := h2 y hyl
      rcases g2 with g | g
      · exact this.1 g
      · exact this.2 g
/-- what is known of two ports of a link -/
theorem ot_ok {N : NV} (hn : NetOk N) {p : Int} (h : otC N p ≠ -1) : plB p (N.ports.length : Int) = true ∧ plB (otC N p) (N.ports.length : Int) = true ∧ otC N (otC N p) = p ∧ (ptA N (otC N p)).dev ≠ (ptA N p).dev ∧ ∃ j, j < N.links.length ∧ (ptA N p).link = (j : Int) ∧ ((N.links.getD j LinkV.zero).a = p ∧ (N.links.getD j LinkV.zero).b = otC N p ∨ (N.links.getD j LinkV.zero).a = otC N p ∧ (N.links.getD j LinkV.zero).b = p) := by
  obtain ⟨q, hq⟩ : ∃ q, otF N p = q := ⟨_, rfl⟩
  rw [show otC N p = q from (ot_eq hn p).symm.trans hq] at h ⊢
  rcases otK_fst p N.links with ⟨j, h1, h2, h3⟩ | ⟨h1, h2⟩
  · have L := hn.lk j h1
    obtain ⟨e1, e2⟩ := link_ends hn h1 h2
    have h3 : q = _ := hq.symm.trans h3
    by_cases ha : (N.links.getD j LinkV.zero).a = p
    · rw [if_pos ha] at h3
      obtain ⟨q1, q2⟩ := link_ends hn h1 (.inr h3.symm)
      refine ⟨e1, q1, ?_, ?_, j, h1, e2, .inl ⟨ha, h3.symm⟩⟩
      · unfold otC lkO
        rw [if_pos ⟨q1, by rw [q2]; omega⟩, q2, show ((j : Int)).toNat = j from rfl, if_neg, ha]
        intro g
        have := L.dev
        rw [show (N.links.getD j LinkV.zero).b = (N.links.getD j LinkV.zero).a from h3.symm.trans g.symm] at this
        exact this rfl
      · have := L.dev
        rw [ha, ← h3] at this
        exact fun g => this g.symm
    · rw [if_neg ha] at h3
      have hb : (N.links.getD j LinkV.zero).b = p := h2.resolve_left ha
      obtain ⟨q1, q2⟩ := link_ends hn h1 (.inl h3.symm)
      refine ⟨e1, q1, ?_, ?_, j, h1, e2, .inr ⟨h3.symm, hb⟩⟩
      · unfold otC lkO
        rw [if_pos ⟨q1, by rw [q2]; omega⟩, q2, show ((j : Int)).toNat = j from rfl, if_pos h3.symm, hb]
      · have := L.dev
        rw [hb, ← h3] at this
        exact this
  · exact absurd (hq.symm.trans (show otF N p = -1 from h1)) h
/-- what a VLAN is on the other side; 0: it does not cross -/
def acF (P Q : PortV) (v : Int) : Int := if v ≠ 0 ∧ v = P.native then Q.native else if memB P.tagged v = true ∧ memB Q.tagged v = true then v else 0
def racF (P Q : PortV) (v : Int) : Int := if v = 0 then 0 else if P.native = v ∧ 0 < Q.native then Q.native else if memB P.tagged v = true ∧ memB Q.tagged v = true then v else 0
theorem ac_eq {N : NV} {i k : Nat} {P Q : PortV} (h : PortOk N i P) (g : PortOk N k Q) (v : Int) : racF P Q v = acF P Q v := by
  unfold racF acF
  by_cases h0 : v = 0
  · rw [if_pos h0, if_neg (fun e => e.1 h0)]
    split
    · exact h0.symm
    · rfl
  rw [if_neg h0]
  by_cases h1 : v = P.native
  · by_cases h2 : 0 < Q.native
    · rw [if_pos ⟨h1.symm, h2⟩, if_pos ⟨h0, h1⟩]
    · rw [if_neg (fun e => h2 e.2), if_neg (show ¬ (memB P.tagged v = true ∧ memB Q.tagged v = true) from ?_), if_pos ⟨h0, h1⟩, show Q.native = 0 by have := g.lo; omega]
      rintro ⟨e, _⟩
      have := h.out
      rw [← h1, e] at this
      cases this
  · rw [if_neg (show ¬ (P.native = v ∧ 0 < Q.native) from fun e => h1 e.1.symm), if_neg (show ¬ (v ≠ 0 ∧ v = P.native) from fun e => h1 e.2)]
theorem ac_back {N : NV} {k : Nat} {P Q : PortV} (g : PortOk N k Q) {v : Int} (hv : acF P Q v ≠ 0) : acF Q P (acF P Q v) = v := by
  unfold acF at hv ⊢
  by_cases h1 : v ≠ 0 ∧ v = P.native
  · rw [if_pos h1] at hv ⊢
    rw [if_pos ⟨hv, rfl⟩]
    exact h1.2.symm
  · rw [if_neg h1] at hv ⊢
    by_cases h2 : memB P.tagged v = true ∧ memB Q.tagged v = true
    · rw [if_pos h2] at hv ⊢
      rw [if_neg, if_pos ⟨h2.2, h2.1⟩]
      rintro ⟨_, e⟩
      have := g.out
      rw [← e, h2.2] at this
      cases this
    · rw [if_neg h2] at hv
      exact absurd rfl hv
theorem ac_member {P Q : PortV} {v : Int} (hv : acF P Q v ≠ 0) : mbrB Q (acF P Q v) = true := by
  unfold mbrB
  rw [Bool.and_eq_true, Bool.or_eq_true]
  refine ⟨decide_eq_true hv, ?_⟩
  unfold acF at hv ⊢
  by_cases h1 : v ≠ 0 ∧ v = P.native
  · rw [if_pos h1]
    exact .inl (decide_eq_true rfl)
  · rw [if_neg h1] at hv ⊢
    by_cases h2 : memB P.tagged v = true ∧ memB Q.tagged v = true
    · rw [if_pos h2]
      exact .inr h2.2
    · rw [if_neg h2] at hv
      exact absurd rfl hv
/-- what crosses: which port, which VLAN (0: none) -/
def crT (N : NV) (p v : Int) : Int := if otC N p = -1 then 0 else acF (ptA N p) (ptA N (otC N p)) v
theorem port_at {N : NV} (hn : NetOk N) {p : Int} (h : plB p (N.ports.length : Int) = true) : ∃ x : Nat, p = (x : Int) ∧ x < N.ports.length ∧ PortOk N x (ptA N p) := by
  obtain ⟨x, rfl, hx⟩ := plB_nat h
  exact ⟨x, rfl, hx, hn.pt x hx⟩
theorem cr_no {N : NV} {p v : Int} (h : crT N p v ≠ 0) : otC N p ≠ -1 := fun g => h (by unfold crT; rw [if_pos g])
theorem cr_ac {N : NV} {p v : Int} (h : otC N p ≠ -1) : crT N p v = acF (ptA N p) (ptA N (otC N p)) v := by unfold crT; rw [if_neg h]
theorem cr_back {N : NV} (hn : NetOk N) {p v : Int} (h : crT N p v ≠ 0) : crT N (otC N p) (crT N p v) = v := by
  have ho := cr_no h
  obtain ⟨h1, h2, h3, _⟩ := ot_ok hn ho
  obtain ⟨x, hx, _, _⟩ := port_at hn h1
  obtain ⟨y, _, _, py⟩ := port_at hn h2
  have hp : p ≠ -1 := by omega
  rw [cr_ac (p := otC N p) (by rw [h3]; exact hp), h3]
  rw [cr_ac ho] at h ⊢
  exact ac_back py h
end Go.Proofs.Ytnpembgchmmbjaa
