/- What the law NamesPorts asks of a net that may be: its ports' VLANs, the ports of a domain; append of a row of ints. -/
import Derived.Test.YtnpembgchmmbjaaNtPorts
namespace Go.Proofs.Ytnpembgchmmbjaa
open Go.RowKit

theorem atK_place (dev v : Int) : ∀ (xs : List DomV) (k : Nat), 0 ≤ atK xs dev v k → ∃ j, j < xs.length ∧ atK xs dev v k = ((k + j : Nat) : Int) ∧ (xs.getD j DomV.zero).dev = dev ∧ (xs.getD j DomV.zero).vlan = v
  | [], k, h => absurd h (by simp [atK])
  | d :: r, k, h => by
    unfold atK at h ⊢
    by_cases c : d.dev = dev ∧ d.vlan = v
    · refine ⟨0, by simp, ?_, by simpa using c.1, by simpa using c.2⟩
      rw [if_pos c]
      rfl
    · rw [if_neg c] at h ⊢
      obtain ⟨j, h1, h2, h3, h4⟩ := atK_place dev v r (k + 1) h
      exact ⟨j + 1, by simpa using h1, by rw [h2]; congr 1; omega, by simpa using h3, by simpa using h4⟩
/-- the places of the ports of a domain -/
def mmL (N : NV) (d : Int) : List Int := if plB d (N.domains.length : Int) = true then ((List.range N.ports.length).filter (fun i => decide ((N.ports.getD i PortV.zero).dev = (N.domains.getD d.toNat DomV.zero).dev) && mbrB (N.ports.getD i PortV.zero) (N.domains.getD d.toNat DomV.zero).vlan)).map (fun (i : Nat) => (i : Int)) else []
theorem mmL_mem {N : NV} {i : Nat} {P : PortV} {v : Int} (hi : i < N.ports.length) (hP : N.ports.getD i PortV.zero = P) (h0 : 0 ≤ atF N P.dev v) (hm : mbrB P v = true) : (i : Int) ∈ mmL N (atF N P.dev v) := by
  unfold atF at h0 ⊢
  obtain ⟨j, h1, h2, h3, h4⟩ := atK_place _ _ _ _ h0
  rw [h2]
  unfold mmL
  rw [if_pos ((plB_iff _ _).2 ⟨by omega, by omega⟩)]
  refine List.mem_map.2 ⟨i, List.mem_filter.2 ⟨List.mem_range.2 hi, ?_⟩, rfl⟩
  rw [show (((0 + j : Nat) : Int)).toNat = j by omega, h3, h4, hP, hm]
  simp
/-- the VLANs of a port: the tagged ones, then its own -/
def allV (P : PortV) : List Int := P.tagged ++ (if P.native = 0 then [] else [P.native])
theorem allV_ok {N : NV} {i : Nat} {P : PortV} (h : PortOk N i P) (k : Nat) (hk : k < (allV P).length) : 0 ≤ atF N P.dev ((allV P).getD k 0) ∧ mbrB P ((allV P).getD k 0) = true := by
  have hm : (allV P).getD k 0 ∈ allV P := by
    rw [show (allV P).getD k 0 = (allV P)[k] from by simp [List.getD, hk]]
    exact List.getElem_mem hk
  generalize (allV P).getD k 0 = v at *
  unfold allV at hm
  rcases List.mem_append.1 hm with hm | hm
  · obtain ⟨j, hj, e⟩ := List.mem_iff_getElem.1 hm
    have e2 : P.tagged.getD j 0 = v := by simp [List.getD, hj, e]
    have h1 : 1 ≤ v := by
      have ht := h.tag
      unfold rsB at ht
      rw [Bool.or_eq_true] at ht
      rcases ht with t | t
      · rw [of_decide_eq_true t] at hm
        cases hm
      · unfold risIn inB at t
        rw [Bool.and_eq_true] at t
        have := List.all_eq_true.1 t.2 v hm
        rw [Bool.and_eq_true] at this
        exact of_decide_eq_true this.1
    refine ⟨by rw [← e2]; exact h.doms j hj, ?_⟩
    unfold mbrB memB
    rw [decide_eq_true (show v ≠ 0 by omega), decide_eq_true hm]
    simp
  · split at hm
    · cases hm
    · rename_i hne
      have e := List.mem_singleton.1 hm
      subst e
      have := h.lo
      refine ⟨h.dom (by omega), ?_⟩
      unfold mbrB
      rw [decide_eq_true hne, decide_eq_true rfl]
      rfl
theorem allV_len (P : PortV) : (allV P).length ≤ P.tagged.length + 1 := by
  unfold allV
  rw [List.length_append]
  split <;> simp
/-- append of a row of ints onto a row of the call's own -/
theorem wpList_iapps {w : World} {ops : Array Oper} {rest : List Oper} {o : Oper} {a : Act} {Q : Exit → Act → World → Prop} (hgd : o.guard = none) (s x : Operand)
    (ho : o.op = .call { callee := .builtin .append, args := #[s, x], argTypes := #[41, 41] }) (base : Nat) (v : Value) (xs : List Int) (hown : ROwn (Rdr.int .i64) w base 3 v xs)
    (F : Nat → Prop) (A : Option Addr) (m c : Nat) (ys : List Int) (hy : RSl (Rdr.int .i64) w F A m c ys) (hF : ∀ b, F b → offRow w v b) (hn : xs.length + m ≤ 100000) (hbase : base ≤ w.heap.size)
    (hs : a.eval s = v) (hx : a.eval x = .slice A m c)
    (h : ∀ v' w', ROwn (Rdr.int .i64) w' base 3 v' (xs ++ ys) → Below base w w' → wpList Try.prog ops Q rest (a.put o.dst v') w') : wpList Try.prog ops Q (o :: rest) a w := by
  have hi := Try.info3
  cases he : Try.prog.info? 3 with
  | none => rw [he] at hi; cases hi
  | some i =>
    rw [he] at hi
    simp only [Option.map_some, Option.some.injEq, Prod.mk.injEq] at hi
    have hb2 : i.bytes ≤ 8 := by rw [hi.2.2]; exact Nat.le_refl _
    refine wpList_rapps (Rdr.int .i64) hgd s x 41 ho base 3 i (.int .i64 0) i.bytes Try.underlying41 he hi.1 hi.2.1 rfl rfl (by decide) v xs hown F A m c ys hy hF (by unfold maxLen; omega) ?_ hbase hs hx h
    exact Nat.le_trans (Nat.mul_le_mul (show xs.length + m ≤ 100000 by omega) hb2) (by decide)
/-- a row of one int, just laid out -/
theorem own_one (w : World) (x : Int) (T : TypeId) : RSl (Rdr.int .i64) (w.alloc (.cells #[.int .i64 x] T)) (fun b => b = w.heap.size) (some ⟨w.heap.size, 0, none⟩) 1 1 [x] := by
  refine ⟨rfl, Nat.le_refl _, by unfold maxLen; omega, (fun h => by cases h), fun _ => ⟨w.heap.size, 0, rfl, rfl, by simp, ?_⟩⟩
  intro j y hy
  match j, hy with
  | 0, hy =>
    obtain rfl : x = y := by simpa using hy
    refine ⟨[.int .i64 x], rfl, ?_⟩
    intro i v hv
    match i, hv with
    | 0, hv =>
      obtain rfl : Value.int .i64 x = v := by simpa using hv
      simp
    | i + 1, hv => simp at hv
  | j + 1, hy => simp at hy
theorem take_tell {l : List Int} {t : Nat} (h : t < l.length) (k : Int) : decide (k ∈ l.take (t + 1)) = (decide (k ∈ l.take t) || decide (l.getD t 0 = k)) := by
  rw [List.take_succ_eq_append_getElem h, show l.getD t 0 = l[t] from by simp [List.getD, h], ← Bool.decide_or]
  apply decide_eq_decide.2
  rw [List.mem_append, List.mem_singleton]
  constructor
  · rintro (a | a)
    · exact .inl a
    · exact .inr a.symm
  · rintro (a | a)
    · exact .inl a
    · exact .inr a.symm
end Go.Proofs.Ytnpembgchmmbjaa
