/- The contract of palingref14.Row for any words. What a policy's rows come to; the contract of palingref14.Read. -/
import Derived.Test.YtkfhjmoocnhekaaTnRow
import Derived.Great.Walk
namespace Go.Proofs.Ytkfhjmoocnhekaa
open Go.RowKit

theorem rn_form {ws : List (List UInt8)} (row : Int) (h : ws.getD 0 [] ≠ sTen ∨ ws.length < 3 ∨ 18 < ws.length) : rnE ws = 22 ∧ rnT ws row = TV.zero := by
  have e : rnE ws = 22 := by unfold rnE; rw [if_pos h]
  exact ⟨e, by unfold rnT; rw [if_neg (by rw [e]; decide)]⟩
theorem rn_name {ws : List (List UInt8)} (row : Int) (hk : RowOk ws.length ws) (h : nwB (ws.getD 1 []) = false) : rnE ws = 20 ∧ rnT ws row = TV.zero := by
  have e : rnE ws = 20 := by
    unfold rnE
    rw [if_neg (by intro h2; rcases h2 with h2 | h2 | h2; exact h2 hk.first; (have := hk.lo; omega); (have := hk.hi; omega)), if_pos h]
  exact ⟨e, by unfold rnT; rw [if_neg (by rw [e]; decide)]⟩
theorem refRow_any (A : Option Addr) (n c : Nat) (ws : List (List UInt8)) (row : Int) (w : World) (h : SSl w A n c ws) (hn : 1 ≤ n) (hs : ∀ p ∈ ws, p.length ≤ 1000000) :
    Calls Try.prog 21 #[.slice A n c, .int .i64 row] w (GotTn w (rnT ws row) (rnE ws)) := by
  have hl := h.len
  by_cases hb : ws.getD 0 [] ≠ sTen ∨ ws.length < 3 ∨ 18 < ws.length
  · rw [(rn_form row hb).1, (rn_form row hb).2]
    exact refRow_form A n c ws row w h hn hb
  · have hk : RowOk n ws := ⟨Classical.byContradiction fun e => hb (.inl e), by rw [← hl]; exact Nat.le_of_not_lt fun e => hb (.inr (.inl e)), by rw [← hl]; exact Nat.le_of_not_lt fun e => hb (.inr (.inr e))⟩
    cases h1 : nwB (ws.getD 1 []) with
    | false =>
      rw [(rn_name row (hl ▸ hk) h1).1, (rn_name row (hl ▸ hk) h1).2]
      exact refRow_name A n c ws row w h hk hs h1
    | true => exact refRow_run A n c ws row w h hk hs h1

/-! A text's rows. -/
/-- why a row is no tenant, where m tenants stand ahead of it -/
noncomputable def poE (r : List UInt8) (m : Nat) : Int := if wlE r = 0 then (if wsF (ahead r) = [] then 0 else if rnE (wsF (ahead r)) = 0 then (if m = 10 then 3 else 0) else rnE (wsF (ahead r))) else wlE r
/-- the tenants of a row: one, or none -/
noncomputable def poL (r : List UInt8) (i : Nat) : List TV := if wsF (ahead r) = [] then [] else [rnT (wsF (ahead r)) ((i : Int) + 1)]
/-- rows read one by one: the wrong row, its error, the tenants -/
noncomputable def poF : List (List UInt8) → Nat → List TV → Int × Int × List TV
  | [], _, acc => (0, 0, acc)
  | r :: rs, i, acc => if poE r acc.length = 0 then poF rs (i + 1) (acc ++ poL r i) else ((i : Int) + 1, poE r acc.length, [])
/-- a policy read -/
noncomputable def poV (b : List UInt8) : Int × Int × List TV := if rwE b = 0 then poF (rwF b) 0 [] else (0, rwE b, [])
/-- tenants, a row's number and an error, as a call returns them -/
def GotPol (w : World) (T : Int × Int × List TV) (e : Ending) (w' : World) : Prop := ∃ A n c, e = .returned (.tuple #[.slice A n c, .int .i64 T.1, .int .i64 T.2.1]) ∧ RSl tenR w' (allB w') A n c T.2.2 ∧ Below w.heap.size w w'
theorem poF_at {rows : List (List UInt8)} {k : Nat} {acc : List TV} (h : k < rows.length) :
    poF (rows.drop k) k acc = if poE (rows.getD k []) acc.length = 0 then poF (rows.drop (k + 1)) (k + 1) (acc ++ poL (rows.getD k []) k) else ((k : Int) + 1, poE (rows.getD k []) acc.length, []) := by
  have e1 : rows.drop k = rows.getD k [] :: rows.drop (k + 1) := by rw [List.drop_eq_getElem_cons h]; simp [List.getD, List.getElem?_eq_getElem h]
  rw [e1, poF]
theorem poF_end {rows : List (List UInt8)} {k : Nat} {acc : List TV} (h : rows.length ≤ k) : poF (rows.drop k) k acc = (0, 0, acc) := by
  rw [List.drop_eq_nil_of_le h]
  rfl

/-! Tenants in a row of the call's own. -/
theorem Try.info40 : (Try.prog.info? 40).map (fun i => (i.zero, i.size)) = some (some (tenV TV.zero SlT.nil SlT.nil), 4) := by kernel_rfl
theorem ten_built (T : TV) (s1 s2 : SlT) : Try.prog.builtSlice 40 1 [(0, tenV T s1 s2)] = some (tenC T s1 s2).toArray := by
  unfold Program.builtSlice
  have h := Try.info40
  cases hi : Try.prog.info? 40 with
  | none => rw [hi] at h; cases h
  | some i =>
    rw [hi] at h
    simp only [Option.map_some, Option.some.injEq, Prod.mk.injEq] at h
    simp only [h.1, h.2]
    rw [if_neg (by decide)]
    show Instr.fill _ _ _ = some _
    kernel_rfl
/-- a slice of one tenant, laid out -/
theorem wpList_tenSl {ops : Array Oper} {rest : List Oper} {o : Oper} {a : Act} {w : World} {Q : Exit → Act → World → Prop} (hg : o.guard = none) (x : Operand) (ho : o.op = .buildSlice 24 1 #[(0, x)])
    (T : TV) (s1 s2 : SlT) (hx : a.eval x = tenV T s1 s2) (h : wpList Try.prog ops Q rest (a.put o.dst (.slice (some ⟨w.heap.size, 0, none⟩) 1 1)) (w.alloc (.cells (tenC T s1 s2).toArray 40))) : wpList Try.prog ops Q (o :: rest) a w :=
  Great.wpList_buildSliceTo hg 24 40 1 #[(0, x)] ho w.heap.size rfl o.dst rfl Try.underlying24 _ (by
    have e : (#[(0, x)] : Array (Nat × Operand)).map (fun (i, x) => (i, a.eval x)) = #[(0, a.eval x)] := by simp
    rw [e, hx]
    exact ten_built T s1 s2) h
theorem ten_bytes : (Try.prog.info? 40).map (fun i => decide (i.bytes ≤ 1000)) = some true := by kernel_rfl
/-- append of one tenant that was just laid out -/
theorem wpList_tenapp {w0 : World} {ops : Array Oper} {rest : List Oper} {o : Oper} {a : Act} {Q : Exit → Act → World → Prop} (hgd : o.guard = none) (s x : Operand)
    (ho : o.op = .call { callee := .builtin .append, args := #[s, x], argTypes := #[24, 24] }) (base : Nat) (v : Value) (xs : List TV) (hown : ROwn tenR w0 base 40 v xs)
    (T : TV) (s1 s2 : SlT) (F : Nat → Prop) (hy : tenR.rd w0 F (tenC T s1 s2) T) (hF : ∀ b, F b → offRow w0 v b) (hn : xs.length ≤ 100000) (hbase : base ≤ w0.heap.size)
    (hs : a.eval s = v) (hx : a.eval x = .slice (some ⟨w0.heap.size, 0, none⟩) 1 1)
    (h : ∀ v' w', ROwn tenR w' base 40 v' (xs ++ [T]) → Below base w0 w' → wpList Try.prog ops Q rest (a.put o.dst v') w') : wpList Try.prog ops Q (o :: rest) a (w0.alloc (.cells (tenC T s1 s2).toArray 40)) := by
  have hi := Try.info40
  have hb := ten_bytes
  cases he : Try.prog.info? 40 with
  | none => rw [he] at hi; cases hi
  | some i =>
    rw [he] at hi hb
    simp only [Option.map_some, Option.some.injEq, Prod.mk.injEq] at hi hb
    have hb2 : i.bytes ≤ 1000 := of_decide_eq_true hb
    refine wpList_rapp tenR hgd s x 24 ho base 40 i (tenV TV.zero SlT.nil SlT.nil) i.bytes Try.underlying24 he hi.1 hi.2 rfl rfl (by decide) v xs hown T (tenC T s1 s2).toArray F (by simpa using hy) hF w0.heap.size rfl (by unfold maxLen; omega) ?_ hbase hs hx h
    exact Nat.le_trans (Nat.mul_le_mul (show xs.length + 1 ≤ 100001 by omega) hb2) (by decide)
end Go.Proofs.Ytkfhjmoocnhekaa
