/- Slices of bytes that read as a list of bytes, nil or not; appending them. Two bytes as a number; a frame, or bytes, with a number, as calls return them. Bytes as a text, the block of an owned row. Pieces of a row; the contract of bytes.Clone. The contract of bytes.Equal. A store into a row of the call's own, of any values and of bytes. A block of four cells, not frozen; written whole. -/
import Derived.Test.YtnpembgchmmbjaaKeep
import Derived.Laws.AppendOwnNone
import Derived.Laws.CopyOwn
import Derived.Deep.RegionHeldLaw
import Derived.Lib.SmallJoins
import Derived.Lib.SliceRun
namespace Go.Proofs.Ytnpembgchmmbjaa
open Go.RowKit
open Go.Lib (byteCells)

theorem Below.drawn {a w w' : World} (h : Below a.heap.size a w) (n : Nat) (g : Below (w.drewN n).heap.size (w.drewN n) w') : Below a.heap.size a w' :=
  (below_drewN h n).trans (g.mono h.size)
/-- bytes as numbers -/
def nums (l : List UInt8) : List Int := l.map fun b => (b.toNat : Int)
/-- a number as a byte -/
def u8 (x : Int) : UInt8 := UInt8.ofNat x.toNat
theorem u8_val (x : Int) (h0 : 0 ≤ x) (h1 : x < 256) : ((u8 x).toNat : Int) = x := by
  unfold u8
  rw [UInt8.toNat_ofNat']
  omega
theorem u8_nat (a : UInt8) : u8 (a.toNat : Int) = a := by simp [u8]
theorem nums_u8 (xs : List Int) (h : ∀ x ∈ xs, 0 ≤ x ∧ x < 256) : nums (xs.map u8) = xs := by
  unfold nums
  rw [List.map_map]
  conv => rhs; rw [← List.map_id xs]
  apply List.map_congr_left
  intro x hx
  exact u8_val x (h x hx).1 (h x hx).2
theorem nums_len (l : List UInt8) : (nums l).length = l.length := by simp [nums]
theorem byteCells_nums (l : List UInt8) : byteCells l = (nums l).map (Value.int .u8) := by simp [Lib.byteCells, nums]
theorem bcells_app (a b : List UInt8) : byteCells (a ++ b) = byteCells a ++ byteCells b := by simp [Lib.byteCells]
theorem bcells_one (l : List UInt8) : ∀ u ∈ byteCells l, u.oneCell' = true := by rw [byteCells_nums]; exact ints_oneCell .u8 _
/-- the byte at j, as a number -/
def bat (l : List UInt8) (j : Nat) : Int := ((l.getD j 0).toNat : Int)
theorem bat_lo (l : List UInt8) (j : Nat) : 0 ≤ bat l j := by unfold bat; omega
theorem bat_hi (l : List UInt8) (j : Nat) : bat l j < 256 := by unfold bat; have := (l.getD j 0).toNat_lt; omega
theorem nums_getD (l : List UInt8) (j : Nat) (h : j < l.length) : (nums l).getD j 0 = bat l j := by simp [nums, bat, List.getD, h]
theorem bcells_get (l : List UInt8) (j : Nat) (h : j < l.length) : (byteCells l)[j]? = some (.int .u8 (bat l j)) := by simp [Lib.byteCells, bat, List.getD, h]

/-- The slice's bytes read as the list l. -/
def BSl (w : World) (A : Option Addr) (n c : Nat) (l : List UInt8) : Prop := ISl w .u8 A n c (nums l) ∧ (A = none → c = 0)
section
variable {w w' : World} {A : Option Addr} {n c : Nat} {l : List UInt8}
theorem BSl.len (h : BSl w A n c l) : l.length = n := by have := h.1.len; rwa [nums_len] at this
theorem BSl.le (h : BSl w A n c l) : n ≤ c := h.1.le
theorem BSl.cap (h : BSl w A n c l) : c ≤ 9223372036854775807 := h.1.cap
theorem BSl.below (h : BSl w A n c l) (hb : Below w.heap.size w w') : BSl w' A n c l := ⟨h.1.below hb, h.2⟩
theorem BSl.alloc (h : BSl w A n c l) (o : Obj) : BSl (w.alloc o) A n c l := ⟨h.1.alloc o, h.2⟩
theorem BSl.drewN (h : BSl w A n c l) (m : Nat) : BSl (w.drewN m) A n c l := h
theorem BSl.drew (h : BSl w A n c l) (hd : Drew w w') : BSl w' A n c l := ⟨h.1.drew hd, h.2⟩
theorem BSl.nil : BSl w none 0 0 [] := ⟨ISl.nil, fun _ => rfl⟩
theorem BSl.at_ (h : BSl w A n c l) (hn : 0 < n) : ∃ b off, A = some ⟨b, off, none⟩ ∧ b < w.heap.size ∧ ∀ j, j < n → w.cell? ⟨b, off + j, none⟩ = some (.int .u8 (bat l j)) := by
  obtain ⟨b, off, e, hb, hc⟩ := h.1.2.2.2 hn
  exact ⟨b, off, e, hb, fun j hj => by rw [hc j hj, nums_getD l j (by rw [h.len]; exact hj)]⟩
theorem BSl.of_own {B : Nat} {e : TypeId} (h : w.ownsRow B e 1 (.slice A n c) n (byteCells l)) : BSl w A n c l := by
  rw [byteCells_nums] at h
  refine ⟨ISl.of_own h, fun hA => ?_⟩
  rcases h.2 with ⟨hv, _⟩ | ⟨g, cap, cur, hv, _⟩
  · injection hv
  · injection hv with h1; rw [hA] at h1; cases h1
theorem BSl.cells_ (h : BSl w A n c l) : (A = none ∧ n = 0 ∧ c = 0 ∧ l = []) ∨ ∃ ad, A = some ad ∧ ∀ j u, (byteCells l)[j]? = some u → w.cell? (ad.add j) = some u := by
  rcases A with _ | ad
  · have hc := h.2 rfl
    have hl := h.len
    have hle := h.le
    have hn : n = 0 := by omega
    exact .inl ⟨rfl, hn, hc, List.eq_nil_of_length_eq_zero (by omega)⟩
  · refine .inr ⟨ad, rfl, fun j u hu => ?_⟩
    have hj : j < l.length := by
      have := (List.getElem?_eq_some_iff.1 hu).1
      simpa [Lib.byteCells] using this
    rw [bcells_get l j hj] at hu
    have hl := h.len
    obtain ⟨b, off, e, hb, hc⟩ := h.at_ (by omega)
    cases e
    rw [← hu, ← hc j (by omega)]
    congr 1
    unfold Addr.add
    split <;> simp_all
theorem BSl.cut {b off k : Nat} (h : BSl w (some ⟨b, off, none⟩) n c l) (hk : k ≤ n) : BSl w (some ⟨b, off + k, none⟩) (n - k) (c - k) (l.drop k) := by
  have hlen := h.len
  have hle := h.le
  have hcap := h.1.2.2.1
  refine ⟨⟨by rw [nums_len, List.length_drop]; omega, by omega, by omega, fun hn => ?_⟩, fun e => by cases e⟩
  obtain ⟨b', off', e, hb, hc⟩ := h.at_ (by omega)
  cases e
  refine ⟨b, off + k, rfl, hb, fun j hj => ?_⟩
  rw [Nat.add_assoc, hc (k + j) (by omega), nums_getD _ _ (by rw [List.length_drop]; omega)]
  simp [bat, List.getD]
theorem BSl.cut_end {b off k : Nat} (h : BSl w A n c l) (hk : k ≤ n) (hc : c ≤ k) : BSl w (some ⟨b, off, none⟩) (n - k) 0 (l.drop k) := by
  have hlen := h.len
  have hle := h.le
  have e : l.drop k = [] := List.drop_eq_nil_of_le (by omega)
  have e2 : n - k = 0 := by omega
  rw [e, e2]
  exact ⟨⟨rfl, Nat.le_refl _, Nat.zero_le _, fun h => absurd h (by omega)⟩, fun e => by cases e⟩
theorem BSl.of_row {a : Option Addr} {len cap : Nat} {zs : List Int} (h : IsRow .u8 w a len cap zs) : ∃ l, BSl w a len cap l := by
  have hw := h.wf
  refine ⟨(zs.take len).map u8, ?_⟩
  have e : nums ((zs.take len).map u8) = zs.take len := nums_u8 _ (fun x hx => by
    have := hw x hx
    simp [Lit.wf, IntKind.min, IntKind.max, IntKind.signed, IntKind.bits] at this
    omega)
  refine ⟨by rw [e]; exact h.isl, fun ha => ?_⟩
  rcases h with ⟨_, _, hc, _⟩ | ⟨x, hx, _⟩
  · exact hc
  · rw [ha] at hx; cases hx
end

/-- two bytes laid out: '[]byte{a, b}' -/
theorem bsl_two (w : World) (a b : Int) (ha : 0 ≤ a ∧ a < 256) (hb : 0 ≤ b ∧ b < 256) : BSl (w.alloc (.cells #[.int .u8 a, .int .u8 b] 5)) (some ⟨w.heap.size, 0, none⟩) 2 2 [u8 a, u8 b] := by
  have e : nums [u8 a, u8 b] = [a, b] := nums_u8 [a, b] (by simp; exact ⟨ha, hb⟩)
  refine ⟨?_, fun e => by cases e⟩
  rw [e]
  refine ⟨rfl, Nat.le_refl _, by unfold maxLen; omega, fun _ => ⟨w.heap.size, 0, rfl, by simp, fun j hj => ?_⟩⟩
  match j, hj with
  | 0, _ | 1, _ => simp
/-- one byte laid out, marked or not -/
theorem bsl_one (w : World) (a : Int) (fr : Nat × Nat) (ha : 0 ≤ a ∧ a < 256) : BSl (w.alloc (.cells #[.int .u8 a] 5 fr)) (some ⟨w.heap.size, 0, none⟩) 1 1 [u8 a] := by
  have e : nums [u8 a] = [a] := nums_u8 [a] (by simp; exact ha)
  refine ⟨?_, fun e => by cases e⟩
  rw [e]
  refine ⟨rfl, Nat.le_refl _, by unfold maxLen; omega, fun _ => ⟨w.heap.size, 0, rfl, by simp, fun j hj => ?_⟩⟩
  match j, hj with
  | 0, _ => rw [Nat.zero_add, World.cell?_alloc_mark]; rfl

/-- append of bytes that read as l onto a row of the call's own -/
theorem wpList_bapp {P : Program} {w : World} {ops : Array Oper} {rest : List Oper} {o : Oper} {a : Act} {Q : Exit → Act → World → Prop} (hgd : o.guard = none) (s x : Operand) (t : TypeId)
    (ho : o.op = .call { callee := .builtin .append, args := #[s, x], argTypes := #[t, t] })
    (base : Nat) (e : TypeId) (i : TypeInfo) (z : Value) (bytes : Nat) (ht : P.underlying t = some (.slice e)) (hi : P.info? e = some i) (hz : i.zero = some z)
    (hsize : i.size = 1) (hby : i.bytes = bytes) (hzs : z.cells.size = 1)
    (v : Value) (n : Nat) (xs : List Value) (hs : a.eval s = v) (hown : w.ownsRow base e 1 v n xs)
    (A : Option Addr) (m c : Nat) (l : List UInt8) (hx : a.eval x = .slice A m c) (hsrc : BSl w A m c l)
    (h63 : n + m ≤ maxLen) (hbytes : (n + m) * bytes ≤ 140737488355328) (hbase : base ≤ w.heap.size)
    (h : ∀ v' w', w'.ownsRow base e 1 v' (n + m) (xs ++ byteCells l) → w.grownBy w' v.ownBlock → wpList P ops Q rest (a.put o.dst v') w') : wpList P ops Q (o :: rest) a w := by
  have hl := hsrc.len
  rcases hsrc.cells_ with ⟨rfl, rfl, rfl, rfl⟩ | ⟨ad, rfl, hc⟩
  · exact wpList_append_own_none hgd s x t ho base e i 1 ht hi v n xs hs hown hx (h v w (by simpa [Lib.byteCells] using hown) (World.grownBy.refl _ _))
  · exact wpList_append_own w hgd s x t ho base e i z 1 bytes ht hi hz hsize hby hzs (by decide) v n xs hs hown ad m c (byteCells l) hx (by rw [Lib.byteCells_length, hl, Nat.mul_one]) hc (bcells_one l) h63 hbytes hbase (fun v' w' h2 h3 _ => h v' w' h2 h3)

/-- the same at a step of a region that draws its order, guarded or not -/
theorem step_bapp {P : Program} {w : World} {ops : Array Oper} {o : Oper} {a : Act} {K : Act → World → Prop} {Q : Exit → Act → World → Prop} {E : Prop} (hw : Region.wanted o (yielded ops a.tmps) = true) (s x : Operand) (t : TypeId)
    (ho : o.op = .call { callee := .builtin .append, args := #[s, x], argTypes := #[t, t] })
    (base : Nat) (e : TypeId) (i : TypeInfo) (z : Value) (bytes : Nat) (ht : P.underlying t = some (.slice e)) (hi : P.info? e = some i) (hz : i.zero = some z)
    (hsize : i.size = 1) (hby : i.bytes = bytes) (hzs : z.cells.size = 1)
    (v : Value) (n : Nat) (xs : List Value) (hs : a.eval s = v) (hown : w.ownsRow base e 1 v n xs)
    (A : Option Addr) (m c : Nat) (l : List UInt8) (hx : a.eval x = .slice A m c) (hsrc : BSl w A m c l)
    (h63 : n + m ≤ maxLen) (hbytes : (n + m) * bytes ≤ 140737488355328) (hbase : base ≤ w.heap.size)
    (h : ∀ v' w', w'.ownsRow base e 1 v' (n + m) (xs ++ byteCells l) → w.grownBy w' v.ownBlock → K (a.put o.dst v') w') : if Region.wanted o (yielded ops a.tmps) = true then Oper.wp P o a w K Q else E := by
  rw [if_pos hw]
  have hl := hsrc.len
  rcases hsrc.cells_ with ⟨rfl, rfl, rfl, rfl⟩ | ⟨ad, rfl, hc⟩
  · have hrun := run_append_owned_none (P := P) (w := w) base t o.type e i 1 ht hi v n xs hown
    have hk := h v w (by simpa [Lib.byteCells] using hown) (World.grownBy.refl _ _)
    unfold Oper.wp
    simp [execOp, ho, resolve, invoke, builtin, hs, hx, hrun, Result.andThen]
    exact hk
  · exact wp_append_own w s x t ho base e i z 1 bytes ht hi hz hsize hby hzs (by decide) v n xs hs hown ad m c (byteCells l) hx (by rw [Lib.byteCells_length, hl, Nat.mul_one]) hc (bcells_one l) h63 hbytes hbase (fun v' w' h2 h3 _ => h v' w' h2 h3)

theorem own_below {w w' : World} {B : Nat} {e : TypeId} {v : Value} {n : Nat} {xs : List Value} (h : w.ownsRow B e 1 v n xs) (hb : Below w.heap.size w w') : w'.ownsRow B e 1 v n xs :=
  h.kept (row := none) ⟨hb.os, hb.tape, hb.output, hb.size, fun k hk _ => hb.block k hk⟩ (by cases hx : v.ownBlock <;> simp)
theorem own_shape {w : World} {B n : Nat} {e : TypeId} {v : Value} {xs : List Value} (h : w.ownsRow B e 1 v n xs) : ∃ A c, v = .slice A n c := by
  rcases h.2 with ⟨rfl, rfl⟩ | ⟨g, cap, cur, rfl, _⟩
  · exact ⟨_, _, rfl⟩
  · exact ⟨_, _, rfl⟩
theorem own_far {w : World} {B : Nat} {e : TypeId} {v : Value} {n : Nat} {xs : List Value} (h : w.ownsRow B e 1 v n xs) {p : Addr} (hp : p.block < B) (u : Value) : (w.setCell p u).ownsRow B e 1 v n xs := by
  refine ⟨h.1, ?_⟩
  rcases h.2 with hn | ⟨g, cap, cur, hv, hB, hh, r⟩
  · exact .inl hn
  · exact .inr ⟨g, cap, cur, hv, hB, (Below.heap_setCell w p u g (by omega)).trans hh, r⟩
theorem own_base {w : World} {B B' : Nat} {e : TypeId} {v : Value} {n : Nat} {xs : List Value} (h : w.ownsRow B e 1 v n xs) (hb : B' ≤ B) : w.ownsRow B' e 1 v n xs := by
  refine ⟨h.1, ?_⟩
  rcases h.2 with hn | ⟨g, cap, cur, hv, hB, r⟩
  · exact .inl hn
  · exact .inr ⟨g, cap, cur, hv, by omega, r⟩
/-- a new row of no byte: '[]byte{}' -/
theorem own_new (w : World) (B : Nat) (hB : B ≤ w.heap.size) : (w.alloc (.cells #[] 5)).ownsRow B 5 1 (.slice (some ⟨w.heap.size, 0, none⟩) 0 0) 0 [] :=
  World.ownsRow_lit w #[] 0 hB (by unfold maxLen; omega) rfl

theorem nums_app (a b : List UInt8) : nums (a ++ b) = nums a ++ nums b := by simp [nums]
theorem bat_app_left (a b : List UInt8) (j : Nat) (h : j < a.length) : bat (a ++ b) j = bat a j := by
  unfold bat
  simp [List.getD, List.getElem?_append_left h]
theorem bat_app_right (a b : List UInt8) (j : Nat) (h : a.length ≤ j) : bat (a ++ b) j = bat b (j - a.length) := by
  unfold bat
  simp [List.getD, List.getElem?_append_right h]
theorem uncons (k : List UInt8) (n : Nat) (h : n + 1 ≤ k.length) : ∃ a r, k = a :: r ∧ n ≤ r.length := by
  cases k with
  | nil => simp at h
  | cons a r => exact ⟨a, r, rfl, by simp at h; omega⟩
end Go.Proofs.Ytnpembgchmmbjaa

namespace Go.Proofs.Ytnpembgchmmbjaa
open Go.RowKit
open Go.Lib (byteCells)

/-- two bytes of a list as a number, the higher first -/
def two (l : List UInt8) (i : Nat) : Int := bat l i * 256 + bat l (i + 1)
theorem i64_or_nat (a b : Nat) (ha : a < 9223372036854775808) (hb : b < 9223372036854775808) : bits .or .i64 (a : Int) (b : Int) = ((a ||| b : Nat) : Int) := by
  have hx : a ||| b < 2 ^ 63 := Nat.or_lt_two_pow (by omega) (by omega)
  show IntKind.i64.wrap ((BitVec.ofInt 64 (a : Int) ||| BitVec.ofInt 64 (b : Int)).toNat : Int) = _
  rw [BitVec.toNat_or, ofInt_u64 a (by omega), ofInt_u64 b (by omega), IntKind.wrap_i64]
  omega
theorem or_i64 (a b : Int) (h0 : 0 ≤ a) (h1 : a < 256) (h2 : 0 ≤ b) (h3 : b < 256) : bits .or .i64 (a * 256) b = a * 256 + b := by
  obtain ⟨A, rfl⟩ := Int.eq_ofNat_of_zero_le h0
  obtain ⟨B, rfl⟩ := Int.eq_ofNat_of_zero_le h2
  have e := i64_or_nat (A * 256) B (by omega) (by omega)
  have : A * 256 ||| B = A * 256 + B := by
    have := Nat.two_pow_add_eq_or_of_lt (i := 8) (b := B) (by omega) A
    rw [Nat.mul_comm] at this
    exact this.symm
  rw [this] at e
  rw [show (A : Int) * 256 = ((A * 256 : Nat) : Int) by omega, e]
  omega
theorem two_bd (l : List UInt8) (i : Nat) : 0 ≤ two l i ∧ two l i < 65536 := by
  have h0 := bat_lo l i
  have h1 := bat_hi l i
  have h2 := bat_lo l (i + 1)
  have h3 := bat_hi l (i + 1)
  unfold two
  omega
/-- a slice of bytes and a number, as a call returns them -/
def GotB (w : World) (l : List UInt8) (E : Int) (e : Ending) (w' : World) : Prop := ∃ A n c, e = .returned (.tuple #[.slice A n c, .int .i64 E]) ∧ BSl w' A n c l ∧ Below w.heap.size w w'
/-- a frame and a number, as a call returns them -/
def GotF (w : World) (D S T : Int) (l : List UInt8) (E : Int) (e : Ending) (w' : World) : Prop := ∃ A n c, e = .returned (.tuple #[.agg #[.int .u64 D, .int .u64 S, .int .i64 T, .slice A n c], .int .i64 E]) ∧ BSl w' A n c l ∧ Below w.heap.size w w'
theorem own_got {w' : World} {B n : Nat} {v : Value} {l : List UInt8} (h : w'.ownsRow B 5 1 v n (byteCells l)) : ∃ A c, v = .slice A n c ∧ BSl w' A n c l := by
  obtain ⟨A, c, rfl⟩ := own_shape h
  exact ⟨A, c, rfl, BSl.of_own h⟩
end Go.Proofs.Ytnpembgchmmbjaa

namespace Go.Proofs.Ytnpembgchmmbjaa
open Go.RowKit
open Go.Lib (byteCells)

theorem str_same (l m : List UInt8) : ((str l).toList == (str m).toList) = (l == m) := by rw [str_toList, str_toList]

theorem own_cur {w : World} {B g n c : Nat} {e : TypeId} {xs : List Value} (h : w.ownsRow B e 1 (.slice (some ⟨g, 0, none⟩) n c) n xs) :
    ∃ cur : List Value, w.heap[g]? = some (.cells cur.toArray e (0, 0)) ∧ cur.length = c ∧ n ≤ c ∧ c ≤ maxLen ∧ B ≤ g := by
  rcases h.2 with ⟨hv, _⟩ | ⟨g', cap, cur, hv, hB, hh, hc, hm, hs, _⟩
  · injection hv with h1; cases h1
  · injection hv with h1 h2 h3
    cases h1
    subst h3
    exact ⟨cur.toList, by simpa using hh, by simpa using hs, hc, hm, hB⟩
theorem own_of_blk {w : World} {B g n c : Nat} {e : TypeId} {cur : List Value} (h : w.heap[g]? = some (.cells cur.toArray e (0, 0))) (hl : cur.length = c) (hc : n ≤ c) (hm : c ≤ maxLen) (hB : B ≤ g) :
    w.ownsRow B e 1 (.slice (some ⟨g, 0, none⟩) n c) n (cur.take n) :=
  ⟨by simp; omega, .inr ⟨g, c, cur.toArray, rfl, hB, h, hc, hm, by simp [hl], by simp⟩⟩
end Go.Proofs.Ytnpembgchmmbjaa

namespace Go.Proofs.Ytnpembgchmmbjaa
open Go.RowKit
open Go.Lib (byteCells)

/-- a piece of a row: 's[k:m]' -/
theorem BSl.sub {w : World} {b off n c : Nat} {l : List UInt8} (h : BSl w (some ⟨b, off, none⟩) n c l) (k m : Nat) (hm : k + m ≤ n) : BSl w (some ⟨b, off + k, none⟩) m (c - k) ((l.drop k).take m) := by
  have hlen := h.len
  have hle := h.le
  have hcap := h.1.2.2.1
  refine ⟨⟨by rw [nums_len, List.length_take, List.length_drop]; omega, by omega, by omega, fun hn => ?_⟩, fun e => by cases e⟩
  obtain ⟨b', off', e, hb, hc⟩ := h.at_ (by omega)
  cases e
  refine ⟨b, off + k, rfl, hb, fun j hj => ?_⟩
  rw [Nat.add_assoc, hc (k + j) (by omega), nums_getD _ _ (by rw [List.length_take, List.length_drop]; omega)]
  simp [bat, List.getD, hj]
theorem BSl.head {w : World} {A : Option Addr} {n c : Nat} {l : List UInt8} (h : BSl w A n c l) (m : Nat) (hm : m ≤ n) : BSl w A m c (l.take m) := by
  have hlen := h.len
  have hle := h.le
  have hcap := h.1.2.2.1
  refine ⟨⟨by rw [nums_len, List.length_take]; omega, by omega, by omega, fun hn => ?_⟩, h.2⟩
  obtain ⟨b, off, e, hb, hc⟩ := h.at_ (by omega)
  refine ⟨b, off, e, hb, fun j hj => ?_⟩
  rw [hc j (by omega), nums_getD _ _ (by rw [List.length_take]; omega)]
  simp [bat, List.getD, hj]

end Go.Proofs.Ytnpembgchmmbjaa

namespace Go.Proofs.Ytnpembgchmmbjaa
open Go.RowKit
open Go.Lib (byteCells)

end Go.Proofs.Ytnpembgchmmbjaa

namespace Go.Proofs.Ytnpembgchmmbjaa
open Go.RowKit
open Go.Lib (byteCells)

theorem own_set {w : World} {B g n cap : Nat} {e : TypeId} {xs : List Value} (h : w.ownsRow B e 1 (.slice (some ⟨g, 0, none⟩) n cap) n xs) (i : Nat) (u : Value) :
    (w.setCell ⟨g, i, none⟩ u).ownsRow B e 1 (.slice (some ⟨g, 0, none⟩) n cap) n (xs.set i u) := by
  refine ⟨by rw [List.length_set]; exact h.1, ?_⟩
  rcases h.2 with ⟨hv, _⟩ | ⟨g', cap', cur, hv, hB, hh, h1, h2, h3, h4⟩
  · cases hv
  · injection hv with e1 e2 e3
    injection e1 with e1
    injection e1 with e1
    subst e1 e3
    refine .inr ⟨g, cap, cur.setIfInBounds i u, rfl, hB, ?_, h1, h2, by simpa using h3, ?_⟩
    · simp [World.setCell, Array.getElem?_modify, hh]
    · rw [Array.toList_setIfInBounds, List.take_set, h4]
theorem own_form {w : World} {B n : Nat} {e : TypeId} {v : Value} {xs : List Value} (h : w.ownsRow B e 1 v n xs) (hn : 0 < n) : ∃ g cap, v = .slice (some ⟨g, 0, none⟩) n cap ∧ B ≤ g ∧ g < w.heap.size ∧ n ≤ cap ∧ cap ≤ maxLen := by
  rcases h.2 with ⟨_, h0⟩ | ⟨g, cap, cur, rfl, hB, hh, h1, h2, _⟩
  · omega
  · refine ⟨g, cap, rfl, hB, ?_, h1, h2⟩
    rcases Nat.lt_or_ge g w.heap.size with h' | h'
    · exact h'
    · rw [Array.getElem?_eq_none h'] at hh; cases hh
theorem own_free {w : World} {B g n cap : Nat} {e : TypeId} {xs : List Value} (h : w.ownsRow B e 1 (.slice (some ⟨g, 0, none⟩) n cap) n xs) (i : Nat) : w.frozen? ⟨g, i, none⟩ = false := by
  rcases h.2 with ⟨hv, _⟩ | ⟨g', cap', cur, hv, hB, hh, _⟩
  · cases hv
  · injection hv with e1 e2 e3
    injection e1 with e1
    injection e1 with e1
    subst e1
    exact Joins.unfrozen_of_block hh i
theorem byteCells_set (l : List UInt8) (i : Nat) (v : UInt8) : byteCells (l.set i v) = (byteCells l).set i (.int .u8 (v.toNat : Int)) := by
  simp [Lib.byteCells, List.map_set]
theorem own_setB {w : World} {B g n cap : Nat} {e : TypeId} {l : List UInt8} (h : w.ownsRow B e 1 (.slice (some ⟨g, 0, none⟩) n cap) n (byteCells l)) (i : Nat) (x : Int) (x0 : 0 ≤ x) (x1 : x < 256) :
    (w.setCell ⟨g, i, none⟩ (.int .u8 x)).ownsRow B e 1 (.slice (some ⟨g, 0, none⟩) n cap) n (byteCells (l.set i (u8 x))) := by
  rw [byteCells_set, u8_val x x0 x1]
  exact own_set h i _
theorem own_cellB {w : World} {B g n cap : Nat} {e : TypeId} {l : List UInt8} (h : w.ownsRow B e 1 (.slice (some ⟨g, 0, none⟩) n cap) n (byteCells l)) (i : Nat) (hi : i < n) : w.cell? ⟨g, i, none⟩ = some (.int .u8 (bat l i)) := by
  have := BSl.of_own h
  obtain ⟨b, off, e, _, hc⟩ := this.at_ (by omega)
  injection e with e
  injection e with e1 e2
  subst e1 e2
  have := hc i hi
  rwa [Nat.zero_add] at this
/-- a row that is laid out -/
theorem own_lit (w : World) (B : Nat) (hB : B ≤ w.heap.size) (cs : Array Value) (l : List UInt8) (h : cs.toList = byteCells l) (n p : Nat) (hn : l.length = n) (hp : p = w.heap.size) (hm : n ≤ 1000) :
    (w.alloc (.cells cs 5)).ownsRow B 5 1 (.slice (some ⟨p, 0, none⟩) n n) n (byteCells l) := by
  subst hp
  have := World.ownsRow_lit (base := B) (e := 5) (size := 1) w cs n hB (by unfold maxLen; omega) (by rw [← Array.length_toList, h, Lib.byteCells_length, hn, Nat.mul_one])
  rw [h] at this
  exact this
/-- a row that was made later is no part of what an elder row grows by -/
theorem own_apart {w0 w w' : World} {B B' n m : Nat} {e e' : TypeId} {u v : Value} {xs ys : List Value} (ht : w.ownsRow B' e' 1 u m ys) (ha : w0.ownsRow B e 1 v n xs) (hB : w0.heap.size ≤ B') (hg : w.grownBy w' v.ownBlock) : w'.ownsRow B' e' 1 u m ys := by
  refine ht.kept hg ?_
  rcases hu : u.ownBlock with _ | k
  · exact .inl rfl
  · refine .inr ?_
    intro e
    have h1 := (ht.lt k hu).1
    have h2 := (ha.lt k e.symm).2
    omega
end Go.Proofs.Ytnpembgchmmbjaa

namespace Go.Proofs.Ytnpembgchmmbjaa
open Go.RowKit

/-- a block of four cells, none of them frozen -/
def Box4 (w : World) (q : Nat) (v0 v1 v2 v3 : Value) : Prop :=
  w.cell? ⟨q, 0, none⟩ = some v0 ∧ w.cell? ⟨q, 1, none⟩ = some v1 ∧ w.cell? ⟨q, 2, none⟩ = some v2 ∧ w.cell? ⟨q, 3, none⟩ = some v3 ∧ ∀ o, w.frozen? ⟨q, o, none⟩ = false
/-- four cells of a block written, one behind the other -/
def putv4 (w : World) (q : Nat) (v0 v1 v2 v3 : Value) : World := (((w.setCell ⟨q, 0, none⟩ v0).setCell ⟨q, 1, none⟩ v1).setCell ⟨q, 2, none⟩ v2).setCell ⟨q, 3, none⟩ v3
section
variable {w w' : World} {q : Nat} {v0 v1 v2 v3 : Value}
theorem Box4.lt (h : Box4 w q v0 v1 v2 v3) : q < w.heap.size := World.block_lt_of_cell? w _ h.1
theorem Box4.same (h : Box4 w q v0 v1 v2 v3) (hc : ∀ o, w'.cell? ⟨q, o, none⟩ = w.cell? ⟨q, o, none⟩) (hf : ∀ o, w'.frozen? ⟨q, o, none⟩ = w.frozen? ⟨q, o, none⟩) : Box4 w' q v0 v1 v2 v3 := by
  obtain ⟨h0, h1, h2, h3, hz⟩ := h
  exact ⟨(hc 0).trans h0, (hc 1).trans h1, (hc 2).trans h2, (hc 3).trans h3, fun o => (hf o).trans (hz o)⟩
theorem Box4.below (h : Box4 w q v0 v1 v2 v3) (g : Below w.heap.size w w') : Box4 w' q v0 v1 v2 v3 :=
  h.same (fun o => g.cell (p := ⟨q, o, none⟩) h.lt) (fun o => g.frozen (p := ⟨q, o, none⟩) h.lt)
theorem Box4.drewN (h : Box4 w q v0 v1 v2 v3) (m : Nat) : Box4 (w.drewN m) q v0 v1 v2 v3 := h
theorem Box4.alloc (h : Box4 w q v0 v1 v2 v3) (o : Obj) : Box4 (w.alloc o) q v0 v1 v2 v3 := h.below ((Below.refl _ _).alloc (Nat.le_refl _) o)
theorem Box4.far (h : Box4 w q v0 v1 v2 v3) {p : Addr} (hp : p.block ≠ q) (u : Value) : Box4 (w.setCell p u) q v0 v1 v2 v3 :=
  h.same (fun o => World.cell?_setCell_other _ _ _ _ (by intro e; exact hp (by rw [e]))) (fun o => World.frozen?_setCell _ _ _ _)
theorem Box4.new (w : World) (v0 v1 v2 v3 : Value) (e : TypeId) (q : Nat) (hq : q = w.heap.size) : Box4 (w.alloc (.cells #[v0, v1, v2, v3] e)) q v0 v1 v2 v3 := by
  subst hq
  exact ⟨by simp, by simp, by simp, by simp, fun o => by simp⟩
theorem cell_other {i j : Nat} {v u : Value} (h : w.cell? ⟨q, i, none⟩ = some u) (hij : i ≠ j) : (w.setCell ⟨q, j, none⟩ v).cell? ⟨q, i, none⟩ = some u := by
  rw [World.cell?_setCell_other _ _ _ _ (by intro e; injection e with _ e2; exact hij e2.symm)]
  exact h
theorem cell_same {i : Nat} {v u : Value} (h : w.cell? ⟨q, i, none⟩ = some u) : (w.setCell ⟨q, i, none⟩ v).cell? ⟨q, i, none⟩ = some v := World.cell?_setCell_same _ _ _ h
theorem Box4.put (u0 u1 u2 u3 : Value) (h : Box4 w q v0 v1 v2 v3) : Box4 (putv4 w q u0 u1 u2 u3) q u0 u1 u2 u3 := by
  obtain ⟨h0, h1, h2, h3, hz⟩ := h
  refine ⟨?_, ?_, ?_, ?_, fun o => ?_⟩
  · exact cell_other (cell_other (cell_other (cell_same h0) (by omega)) (by omega)) (by omega)
  · exact cell_other (cell_other (cell_same (cell_other h1 (by omega))) (by omega)) (by omega)
  · exact cell_other (cell_same (cell_other (cell_other h2 (by omega)) (by omega))) (by omega)
  · exact cell_same (cell_other (cell_other (cell_other h3 (by omega)) (by omega)) (by omega))
  · unfold putv4
    rw [World.frozen?_setCell, World.frozen?_setCell, World.frozen?_setCell, World.frozen?_setCell]
    exact hz o
end
theorem putv4_below {B : Nat} {a w : World} {q : Nat} (v0 v1 v2 v3 : Value) (h : Below B a w) (hq : B ≤ q) : Below B a (putv4 w q v0 v1 v2 v3) :=
  (((h.setCell hq _).setCell hq _).setCell hq _).setCell hq _
theorem putv4_far {w : World} {B q n : Nat} {e : TypeId} {v : Value} {xs : List Value} (v0 v1 v2 v3 : Value) (h : w.ownsRow B e 1 v n xs) (hq : q < B) : (putv4 w q v0 v1 v2 v3).ownsRow B e 1 v n xs :=
  own_far (own_far (own_far (own_far h hq _) hq _) hq _) hq _
end Go.Proofs.Ytnpembgchmmbjaa
