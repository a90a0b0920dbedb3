/- Slices of bytes that read as a list of bytes, nil or not; appending them. -/
import Derived.Test.YtjdejdkjngilaaaIsRow
import Derived.Test.YtjdejdkjngilaaaKeep
import Derived.Laws.AppendOwnNone
import Derived.Laws.CopyOwn
import Derived.Deep.RegionHeldLaw
import Derived.Lib.SmallJoins
namespace Go.Proofs.Ytjdejdkjngilaaa
open Go.RowKit
open Go.Lib (byteCells)

theorem Below.drawn {a w w' : World} (h : Below a.heap.size a w) (n : Nat) (g : Below (w.drewN n).heap.size (w.drewN n) w') : Below a.heap.size a w' :=
  (below_drewN h n).trans (g.mono h.size)
/-- bytes as numbers -/
def nums (l : List UInt8) : List Int := l.map fun b => (b.toNat : Int)
/-- a number as a byte -/
def u8 (x : Int) : UInt8 := UInt8.ofNat x.toNat
theorem u8_val (x : Int) (h0 : 0 ≤ x) (h1 : x < 256) : ((u8 x).toNat : Int) = x := by
  unfold u8
  rw [UInt8.toNat_ofNat']
  omega
theorem u8_nat (a : UInt8) : u8 (a.toNat : Int) = a := by simp [u8]
theorem nums_u8 (xs : List Int) (h : ∀ x ∈ xs, 0 ≤ x ∧ x < 256) : nums (xs.map u8) = xs := by
  unfold nums
  rw [List.map_map]
  conv => rhs; rw [← List.map_id xs]
  apply List.map_congr_left
  intro x hx
  exact u8_val x (h x hx).1 (h x hx).2
theorem nums_len (l : List UInt8) : (nums l).length = l.length := by simp [nums]
theorem byteCells_nums (l : List UInt8) : byteCells l = (nums l).map (Value.int .u8) := by simp [Lib.byteCells, nums]
theorem bcells_app (a b : List UInt8) : byteCells (a ++ b) = byteCells a ++ byteCells b := by simp [Lib.byteCells]
theorem bcells_one (l : List UInt8) : ∀ u ∈ byteCells l, u.oneCell' = true := by rw [byteCells_nums]; exact ints_oneCell .u8 _
/-- the byte at j, as a number -/
def bat (l : List UInt8) (j : Nat) : Int := ((l.getD j 0).toNat : Int)
theorem bat_lo (l : List UInt8) (j : Nat) : 0 ≤ bat l j := by unfold bat; omega
theorem bat_hi (l : List UInt8) (j : Nat) : bat l j < 256 := by unfold bat; have := (l.getD j 0).toNat_lt; omega
theorem nums_getD (l : List UInt8) (j : Nat) (h : j < l.length) : (nums l).getD j 0 = bat l j := by simp [nums, bat, List.getD, h]
theorem bcells_get (l : List UInt8) (j : Nat) (h : j < l.length) : (byteCells l)[j]? = some (.int .u8 (bat l j)) := by simp [Lib.byteCells, bat, List.getD, h]

/-- The slice's bytes read as the list l. -/
def BSl (w : World) (A : Option Addr) (n c : Nat) (l : List UInt8) : Prop := ISl w .u8 A n c (nums l) ∧ (A = none → c = 0)
section
variable {w w' : World} {A : Option Addr} {n c : Nat} {l : List UInt8}
theorem BSl.len (h : BSl w A n c l) : l.length = n := by have := h.1.len; rwa [nums_len] at this
theorem BSl.le (h : BSl w A n c l) : n ≤ c := h.1.le
theorem BSl.cap (h : BSl w A n c l) : c ≤ 9223372036854775807 := h.1.cap
theorem BSl.below (h : BSl w A n c l) (hb : Below w.heap.size w w') : BSl w' A n c l := ⟨h.1.below hb, h.2⟩
theorem BSl.alloc (h : BSl w A n c l) (o : Obj) : BSl (w.alloc o) A n c l := ⟨h.1.alloc o, h.2⟩
theorem BSl.drewN (h : BSl w A n c l) (m : Nat) : BSl (w.drewN m) A n c l := h
theorem BSl.drew (h : BSl w A n c l) (hd : Drew w w') : BSl w' A n c l := ⟨h.1.drew hd, h.2⟩
theorem BSl.nil : BSl w none 0 0 [] := ⟨ISl.nil, fun _ => rfl⟩
theorem BSl.at_ (h : BSl w A n c l) (hn : 0 < n) : ∃ b off, A = some ⟨b, off, none⟩ ∧ b < w.heap.size ∧ ∀ j, j < n → w.cell? ⟨b, off + j, none⟩ = some (.int .u8 (bat l j)) := by
  obtain ⟨b, off, e, hb, hc⟩ := h.1.2.2.2 hn
  exact ⟨b, off, e, hb, fun j hj => by rw [hc j hj, nums_getD l j (by rw [h.len]; exact hj)]⟩
theorem BSl.of_own {B : Nat} {e : TypeId} (h : w.ownsRow B e 1 (.slice A n c) n (byteCells l)) : BSl w A n c l := by
  rw [byteCells_nums] at h
  refine ⟨ISl.of_own h, fun hA => ?_⟩
  rcases h.2 with ⟨hv, _⟩ | ⟨g, cap, cur, hv, _⟩
  · injection hv
  · injection hv with h1; rw [hA] at h1; cases h1
theorem BSl.cells_ (h : BSl w A n c l) : (A = none ∧ n = 0 ∧ c = 0 ∧ l = []) ∨ ∃ ad, A = some ad ∧ ∀ j u, (byteCells l)[j]? = some u → w.cell? (ad.add j) = some u := by
  rcases A with _ | ad
  · have hc := h.2 rfl
    have hl := h.len
    have hle := h.le
    have hn : n = 0 := by omega
    exact .inl ⟨rfl, hn, hc, List.eq_nil_of_length_eq_zero (by omega)⟩
  · refine .inr ⟨ad, rfl, fun j u hu => ?_⟩
    have hj : j < l.length := by
      have := (List.getElem?_eq_some_iff.1 hu).1
      simpa [Lib.byteCells] using this
    rw [bcells_get l j hj] at hu
    have hl := h.len
    obtain ⟨b, off, e, hb, hc⟩ := h.at_ (by omega)
    cases e
    rw [← hu, ← hc j (by omega)]
    congr 1
    unfold Addr.add
    split <;> simp_all
theorem BSl.cut {b off k : Nat} (h : BSl w (some ⟨b, off, none⟩) n c l) (hk : k ≤ n) : BSl w (some ⟨b, off + k, none⟩) (n - k) (c - k) (l.drop k) := by
  have hlen := h.len
  have hle := h.le
  have hcap := h.1.2.2.1
  refine ⟨⟨by rw [nums_len, List.length_drop]; omega, by omega, by omega, fun hn => ?_⟩, fun e => by cases e⟩
  obtain ⟨b', off', e, hb, hc⟩ := h.at_ (by omega)
  cases e
  refine ⟨b, off + k, rfl, hb, fun j hj => ?_⟩
  rw [Nat.add_assoc, hc (k + j) (by omega), nums_getD _ _ (by rw [List.length_drop]; omega)]
  simp [bat, List.getD]
theorem BSl.cut_end {b off k : Nat} (h : BSl w A n c l) (hk : k ≤ n) (hc : c ≤ k) : BSl w (some ⟨b, off, none⟩) (n - k) 0 (l.drop k) := by
  have hlen := h.len
  have hle := h.le
  have e : l.drop k = [] := List.drop_eq_nil_of_le (by omega)
  have e2 : n - k = 0 := by omega
  rw [e, e2]
  exact ⟨⟨rfl, Nat.le_refl _, Nat.zero_le _, fun h => absurd h (by omega)⟩, fun e => by cases e⟩
theorem BSl.of_row {a : Option Addr} {len cap : Nat} {zs : List Int} (h : IsRow .u8 w a len cap zs) : ∃ l, BSl w a len cap l := by
  have hw := h.wf
  refine ⟨(zs.take len).map u8, ?_⟩
  have e : nums ((zs.take len).map u8) = zs.take len := nums_u8 _ (fun x hx => by
    have := hw x hx
    simp [Lit.wf, IntKind.min, IntKind.max, IntKind.signed, IntKind.bits] at this
    omega)
  refine ⟨by rw [e]; exact h.isl, fun ha => ?_⟩
  rcases h with ⟨_, _, hc, _⟩ | ⟨x, hx, _⟩
  · exact hc
  · rw [ha] at hx; cases hx
end

/-- two bytes laid out: '[]byte{a, b}' -/
theorem bsl_two (w : World) (a b : Int) (ha : 0 ≤ a ∧ a < 256) (hb : 0 ≤ b ∧ b < 256) : BSl (w.alloc (.cells #[.int .u8 a, .int .u8 b] 5)) (some ⟨w.heap.size, 0, none⟩) 2 2 [u8 a, u8 b] := by
  have e : nums [u8 a, u8 b] = [a, b] := nums_u8 [a, b] (by simp; exact ⟨ha, hb⟩)
  refine ⟨?_, fun e => by cases e⟩
  rw [e]
  refine ⟨rfl, Nat.le_refl _, by unfold maxLen; omega, fun _ => ⟨w.heap.size, 0, rfl, by simp, fun j hj => ?_⟩⟩
  match j, hj with
  | 0, _ | 1, _ => simp
/-- one byte laid out, marked or not -/
theorem bsl_one (w : World) (a : Int) (fr : Nat × Nat) (ha : 0 ≤ a ∧ a < 256) : BSl (w.alloc (.cells #[.int .u8 a] 5 fr)) (some ⟨w.heap.size, 0, none⟩) 1 1 [u8 a] := by
  have e : nums [u8 a] = [a] := nums_u8 [a] (by simp; exact ha)
  refine ⟨?_, fun e => by cases e⟩
  rw [e]
  refine ⟨rfl, Nat.le_refl _, by unfold maxLen; omega, fun _ => ⟨w.heap.size, 0, rfl, by simp, fun j hj => ?_⟩⟩
  match j, hj with
  | 0, _ => rw [Nat.zero_add, World.cell?_alloc_mark]; rfl

/-- append of bytes that read as l onto a row of the call's own -/
theorem wpList_bapp {P : Program} {w : World} {ops : Array Oper} {rest : List Oper} {o : Oper} {a : Act} {Q : Exit → Act → World → Prop} (hgd : o.guard = none) (s x : Operand) (t : TypeId)
    (ho : o.op = .call { callee := .builtin .append, args := #[s, x], argTypes := #[t, t] })
    (base : Nat) (e : TypeId) (i : TypeInfo) (z : Value) (bytes : Nat) (ht : P.underlying t = some (.slice e)) (hi : P.info? e = some i) (hz : i.zero = some z)
    (hsize : i.size = 1) (hby : i.bytes = bytes) (hzs : z.cells.size = 1)
    (v : Value) (n : Nat) (xs : List Value) (hs : a.eval s = v) (hown : w.ownsRow base e 1 v n xs)
    (A : Option Addr) (m c : Nat) (l : List UInt8) (hx : a.eval x = .slice A m c) (hsrc : BSl w A m c l)
    (h63 : n + m ≤ maxLen) (hbytes : (n + m) * bytes ≤ 140737488355328) (hbase : base ≤ w.heap.size)
    (h : ∀ v' w', w'.ownsRow base e 1 v' (n + m) (xs ++ byteCells l) → w.grownBy w' v.ownBlock → wpList P ops Q rest (a.put o.dst v') w') : wpList P ops Q (o :: rest) a w := by
  have hl := hsrc.len
  rcases hsrc.cells_ with ⟨rfl, rfl, rfl, rfl⟩ | ⟨ad, rfl, hc⟩
  · exact wpList_append_own_none hgd s x t ho base e i 1 ht hi v n xs hs hown hx (h v w (by simpa [Lib.byteCells] using hown) (World.grownBy.refl _ _))
  · exact wpList_append_own w hgd s x t ho base e i z 1 bytes ht hi hz hsize hby hzs (by decide) v n xs hs hown ad m c (byteCells l) hx (by rw [Lib.byteCells_length, hl, Nat.mul_one]) hc (bcells_one l) h63 hbytes hbase (fun v' w' h2 h3 _ => h v' w' h2 h3)

/-- the same at a step of a region that draws its order, guarded or not -/
theorem step_bapp {P : Program} {w : World} {ops : Array Oper} {o : Oper} {a : Act} {K : Act → World → Prop} {Q : Exit → Act → World → Prop} {E : Prop} (hw : Region.wanted o (yielded ops a.tmps) = true) (s x : Operand) (t : TypeId)
    (ho : o.op = .call { callee := .builtin .append, args := #[s, x], argTypes := #[t, t] })
    (base : Nat) (e : TypeId) (i : TypeInfo) (z : Value) (bytes : Nat) (ht : P.underlying t = some (.slice e)) (hi : P.info? e = some i) (hz : i.zero = some z)
    (hsize : i.size = 1) (hby : i.bytes = bytes) (hzs : z.cells.size = 1)
    (v : Value) (n : Nat) (xs : List Value) (hs : a.eval s = v) (hown : w.ownsRow base e 1 v n xs)
    (A : Option Addr) (m c : Nat) (l : List UInt8) (hx : a.eval x = .slice A m c) (hsrc : BSl w A m c l)
    (h63 : n + m ≤ maxLen) (hbytes : (n + m) * bytes ≤ 140737488355328) (hbase : base ≤ w.heap.size)
    (h : ∀ v' w', w'.ownsRow base e 1 v' (n + m) (xs ++ byteCells l) → w.grownBy w' v.ownBlock → K (a.put o.dst v') w') : if Region.wanted o (yielded ops a.tmps) = true then Oper.wp P o a w K Q else E := by
  rw [if_pos hw]
  have hl := hsrc.len
  rcases hsrc.cells_ with ⟨rfl, rfl, rfl, rfl⟩ | ⟨ad, rfl, hc⟩
  · have hrun := run_append_owned_none (P := P) (w := w) base t o.type e i 1 ht hi v n xs hown
    have hk := h v w (by simpa [Lib.byteCells] using hown) (World.grownBy.refl _ _)
    unfold Oper.wp
    simp [execOp, ho, resolve, invoke, builtin, hs, hx, hrun, Result.andThen]
    exact hk
  · exact wp_append_own w s x t ho base e i z 1 bytes ht hi hz hsize hby hzs (by decide) v n xs hs hown ad m c (byteCells l) hx (by rw [Lib.byteCells_length, hl, Nat.mul_one]) hc (bcells_one l) h63 hbytes hbase (fun v' w' h2 h3 _ => h v' w' h2 h3)

theorem own_below {w w' : World} {B : Nat} {e : TypeId} {v : Value} {n : Nat} {xs : List Value} (h : w.ownsRow B e 1 v n xs) (hb : Below w.heap.size w w') : w'.ownsRow B e 1 v n xs :=
  h.kept (row := none) ⟨hb.os, hb.tape, hb.output, hb.size, fun k hk _ => hb.block k hk⟩ (by cases hx : v.ownBlock <;> simp)
theorem own_shape {w : World} {B n : Nat} {e : TypeId} {v : Value} {xs : List Value} (h : w.ownsRow B e 1 v n xs) : ∃ A c, v = .slice A n c := by
  rcases h.2 with ⟨rfl, rfl⟩ | ⟨g, cap, cur, rfl, _⟩
  · exact ⟨_, _, rfl⟩
  · exact ⟨_, _, rfl⟩
theorem own_far {w : World} {B : Nat} {e : TypeId} {v : Value} {n : Nat} {xs : List Value} (h : w.ownsRow B e 1 v n xs) {p : Addr} (hp : p.block < B) (u : Value) : (w.setCell p u).ownsRow B e 1 v n xs := by
  refine ⟨h.1, ?_⟩
  rcases h.2 with hn | ⟨g, cap, cur, hv, hB, hh, r⟩
  · exact .inl hn
  · exact .inr ⟨g, cap, cur, hv, hB, (Below.heap_setCell w p u g (by omega)).trans hh, r⟩
theorem own_base {w : World} {B B' : Nat} {e : TypeId} {v : Value} {n : Nat} {xs : List Value} (h : w.ownsRow B e 1 v n xs) (hb : B' ≤ B) : w.ownsRow B' e 1 v n xs := by
  refine ⟨h.1, ?_⟩
  rcases h.2 with hn | ⟨g, cap, cur, hv, hB, r⟩
  · exact .inl hn
  · exact .inr ⟨g, cap, cur, hv, by omega, r⟩
/-- a new row of no byte: '[]byte{}' -/
theorem own_new (w : World) (B : Nat) (hB : B ≤ w.heap.size) : (w.alloc (.cells #[] 5)).ownsRow B 5 1 (.slice (some ⟨w.heap.size, 0, none⟩) 0 0) 0 [] :=
  World.ownsRow_lit w #[] 0 hB (by unfold maxLen; omega) rfl

theorem nums_app (a b : List UInt8) : nums (a ++ b) = nums a ++ nums b := by simp [nums]
theorem bat_app_left (a b : List UInt8) (j : Nat) (h : j < a.length) : bat (a ++ b) j = bat a j := by
  unfold bat
  simp [List.getD, List.getElem?_append_left h]
theorem bat_app_right (a b : List UInt8) (j : Nat) (h : a.length ≤ j) : bat (a ++ b) j = bat b (j - a.length) := by
  unfold bat
  simp [List.getD, List.getElem?_append_right h]
theorem uncons (k : List UInt8) (n : Nat) (h : n + 1 ≤ k.length) : ∃ a r, k = a :: r ∧ n ≤ r.length := by
  cases k with
  | nil => simp at h
  | cons a r => exact ⟨a, r, rfl, by simp at h; omega⟩
end Go.Proofs.Ytjdejdkjngilaaa
