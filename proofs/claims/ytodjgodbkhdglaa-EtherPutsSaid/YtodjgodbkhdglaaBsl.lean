/- Slices of bytes that read as a list of bytes, nil or not; appending them; the contracts of mac.Put. -/
import Derived.Test.YtodjgodbkhdglaaMacBy
import Derived.Test.YtodjgodbkhdglaaIsRow
import Derived.Test.YtodjgodbkhdglaaKeep
import Derived.Laws.AppendOwnNone
import Derived.Laws.CopyOwn
import Derived.Deep.RegionHeldLaw
import Derived.Lib.SmallJoins
namespace Go.Proofs.Ytodjgodbkhdglaa
open Go.RowKit
open Go.Lib (byteCells)

theorem Below.drawn {a w w' : World} (h : Below a.heap.size a w) (n : Nat) (g : Below (w.drewN n).heap.size (w.drewN n) w') : Below a.heap.size a w' :=
  (below_drewN h n).trans (g.mono h.size)
/-- bytes as numbers -/
def nums (l : List UInt8) : List Int := l.map fun b => (b.toNat : Int)
/-- a number as a byte -/
def u8 (x : Int) : UInt8 := UInt8.ofNat x.toNat
theorem u8_val (x : Int) (h0 : 0 ≤ x) (h1 : x < 256) : ((u8 x).toNat : Int) = x := by
  unfold u8
  rw [UInt8.toNat_ofNat']
  omega
theorem nums_u8 (xs : List Int) (h : ∀ x ∈ xs, 0 ≤ x ∧ x < 256) : nums (xs.map u8) = xs := by
  unfold nums
  rw [List.map_map]
  conv => rhs; rw [← List.map_id xs]
  apply List.map_congr_left
  intro x hx
  exact u8_val x (h x hx).1 (h x hx).2
theorem nums_len (l : List UInt8) : (nums l).length = l.length := by simp [nums]
theorem byteCells_nums (l : List UInt8) : byteCells l = (nums l).map (Value.int .u8) := by simp [Lib.byteCells, nums]
theorem bcells_app (a b : List UInt8) : byteCells (a ++ b) = byteCells a ++ byteCells b := by simp [Lib.byteCells]
theorem bcells_one (l : List UInt8) : ∀ u ∈ byteCells l, u.oneCell' = true := by rw [byteCells_nums]; exact ints_oneCell .u8 _
/-- the byte at j, as a number -/
def bat (l : List UInt8) (j : Nat) : Int := ((l.getD j 0).toNat : Int)
theorem bat_lo (l : List UInt8) (j : Nat) : 0 ≤ bat l j := by unfold bat; omega
theorem bat_hi (l : List UInt8) (j : Nat) : bat l j < 256 := by unfold bat; have := (l.getD j 0).toNat_lt; omega
theorem nums_getD (l : List UInt8) (j : Nat) (h : j < l.length) : (nums l).getD j 0 = bat l j := by simp [nums, bat, List.getD, h]
theorem bcells_get (l : List UInt8) (j : Nat) (h : j < l.length) : (byteCells l)[j]? = some (.int .u8 (bat l j)) := by simp [Lib.byteCells, bat, List.getD, h]

/-- The slice's bytes read as the list l. -/
def BSl (w : World) (A : Option Addr) (n c : Nat) (l : List UInt8) : Prop := ISl w .u8 A n c (nums l) ∧ (A = none → c = 0)
section
variable {w w' : World} {A : Option Addr} {n c : Nat} {l : List UInt8}
theorem BSl.len (h : BSl w A n c l) : l.length = n := by have := h.1.len; rwa [nums_len] at this
theorem BSl.le (h : BSl w A n c l) : n ≤ c := h.1.le
theorem BSl.cap (h : BSl w A n c l) : c ≤ 9223372036854775807 := h.1.cap
theorem BSl.below (h : BSl w A n c l) (hb : Below w.heap.size w w') : BSl w' A n c l := ⟨h.1.below hb, h.2⟩
theorem BSl.alloc (h : BSl w A n c l) (o : Obj) : BSl (w.alloc o) A n c l := ⟨h.1.alloc o, h.2⟩
theorem BSl.drewN (h : BSl w A n c l) (m : Nat) : BSl (w.drewN m) A n c l := h
theorem BSl.drew (h : BSl w A n c l) (hd : Drew w w') : BSl w' A n c l := ⟨h.1.drew hd, h.2⟩
theorem BSl.nil : BSl w none 0 0 [] := ⟨ISl.nil, fun _ => rfl⟩
theorem BSl.at_ (h : BSl w A n c l) (hn : 0 < n) : ∃ b off, A = some ⟨b, off, none⟩ ∧ b < w.heap.size ∧ ∀ j, j < n → w.cell? ⟨b, off + j, none⟩ = some (.int .u8 (bat l j)) := by
  obtain ⟨b, off, e, hb, hc⟩ := h.1.2.2.2 hn
  exact ⟨b, off, e, hb, fun j hj => by rw [hc j hj, nums_getD l j (by rw [h.len]; exact hj)]⟩
theorem BSl.of_own {B : Nat} {e : TypeId} (h : w.ownsRow B e 1 (.slice A n c) n (byteCells l)) : BSl w A n c l := by
  rw [byteCells_nums] at h
  refine ⟨ISl.of_own h, fun hA => ?_⟩
  rcases h.2 with ⟨hv, _⟩ | ⟨g, cap, cur, hv, _⟩
  · injection hv
  · injection hv with h1; rw [hA] at h1; cases h1
theorem BSl.cells_ (h : BSl w A n c l) : (A = none ∧ n = 0 ∧ c = 0 ∧ l = []) ∨ ∃ ad, A = some ad ∧ ∀ j u, (byteCells l)[j]? = some u → w.cell? (ad.add j) = some u := by
  rcases A with _ | ad
  · have hc := h.2 rfl
    have hl := h.len
    have hle := h.le
    have hn : n = 0 := by omega
    exact .inl ⟨rfl, hn, hc, List.eq_nil_of_length_eq_zero (by omega)⟩
  · refine .inr ⟨ad, rfl, fun j u hu => ?_⟩
    have hj : j < l.length := by
      have := (List.getElem?_eq_some_iff.1 hu).1
      simpa [Lib.byteCells] using this
    rw [bcells_get l j hj] at hu
    have hl := h.len
    obtain ⟨b, off, e, hb, hc⟩ := h.at_ (by omega)
    cases e
    rw [← hu, ← hc j (by omega)]
    congr 1
    unfold Addr.add
    split <;> simp_all
theorem BSl.cut {b off k : Nat} (h : BSl w (some ⟨b, off, none⟩) n c l) (hk : k ≤ n) : BSl w (some ⟨b, off + k, none⟩) (n - k) (c - k) (l.drop k) := by
  have hlen := h.len
  have hle := h.le
  have hcap := h.1.2.2.1
  refine ⟨⟨by rw [nums_len, List.length_drop]; omega, by omega, by omega, fun hn => ?_⟩, fun e => by cases e⟩
  obtain ⟨b', off', e, hb, hc⟩ := h.at_ (by omega)
  cases e
  refine ⟨b, off + k, rfl, hb, fun j hj => ?_⟩
  rw [Nat.add_assoc, hc (k + j) (by omega), nums_getD _ _ (by rw [List.length_drop]; omega)]
  simp [bat, List.getD]
theorem BSl.cut_end {b off k : Nat} (h : BSl w A n c l) (hk : k ≤ n) (hc : c ≤ k) : BSl w (some ⟨b, off, none⟩) (n - k) 0 (l.drop k) := by
  have hlen := h.len
  have hle := h.le
  have e : l.drop k = [] := List.drop_eq_nil_of_le (by omega)
  have e2 : n - k = 0 := by omega
  rw [e, e2]
  exact ⟨⟨rfl, Nat.le_refl _, Nat.zero_le _, fun h => absurd h (by omega)⟩, fun e => by cases e⟩
theorem BSl.of_row {a : Option Addr} {len cap : Nat} {zs : List Int} (h : IsRow .u8 w a len cap zs) : ∃ l, BSl w a len cap l := by
  have hw := h.wf
  refine ⟨(zs.take len).map u8, ?_⟩
  have e : nums ((zs.take len).map u8) = zs.take len := nums_u8 _ (fun x hx => by
    have := hw x hx
    simp [Lit.wf, IntKind.min, IntKind.max, IntKind.signed, IntKind.bits] at this
    omega)
  refine ⟨by rw [e]; exact h.isl, fun ha => ?_⟩
  rcases h with ⟨_, _, hc, _⟩ | ⟨x, hx, _⟩
  · exact hc
  · rw [ha] at hx; cases hx
end

/-- two bytes laid out: '[]byte{a, b}' -/
theorem bsl_two (w : World) (a b : Int) (ha : 0 ≤ a ∧ a < 256) (hb : 0 ≤ b ∧ b < 256) : BSl (w.alloc (.cells #[.int .u8 a, .int .u8 b] 5)) (some ⟨w.heap.size, 0, none⟩) 2 2 [u8 a, u8 b] := by
  have e : nums [u8 a, u8 b] = [a, b] := nums_u8 [a, b] (by simp; exact ⟨ha, hb⟩)
  refine ⟨?_, fun e => by cases e⟩
  rw [e]
  refine ⟨rfl, Nat.le_refl _, by unfold maxLen; omega, fun _ => ⟨w.heap.size, 0, rfl, by simp, fun j hj => ?_⟩⟩
  match j, hj with
  | 0, _ | 1, _ => simp
/-- one byte laid out, marked or not -/
theorem bsl_one (w : World) (a : Int) (fr : Nat × Nat) (ha : 0 ≤ a ∧ a < 256) : BSl (w.alloc (.cells #[.int .u8 a] 5 fr)) (some ⟨w.heap.size, 0, none⟩) 1 1 [u8 a] := by
  have e : nums [u8 a] = [a] := nums_u8 [a] (by simp; exact ha)
  refine ⟨?_, fun e => by cases e⟩
  rw [e]
  refine ⟨rfl, Nat.le_refl _, by unfold maxLen; omega, fun _ => ⟨w.heap.size, 0, rfl, by simp, fun j hj => ?_⟩⟩
  match j, hj with
  | 0, _ => rw [Nat.zero_add, World.cell?_alloc_mark]; rfl

/-- append of bytes that read as l onto a row of the call's own -/
theorem wpList_bapp {P : Program} {w : World} {ops : Array Oper} {rest : List Oper} {o : Oper} {a : Act} {Q : Exit → Act → World → Prop} (hgd : o.guard = none) (s x : Operand) (t : TypeId)
    (ho : o.op = .call { callee := .builtin .append, args := #[s, x], argTypes := #[t, t] })
    (base : Nat) (e : TypeId) (i : TypeInfo) (z : Value) (bytes : Nat) (ht : P.underlying t = some (.slice e)) (hi : P.info? e = some i) (hz : i.zero = some z)
    (hsize : i.size = 1) (hby : i.bytes = bytes) (hzs : z.cells.size = 1)
    (v : Value) (n : Nat) (xs : List Value) (hs : a.eval s = v) (hown : w.ownsRow base e 1 v n xs)
    (A : Option Addr) (m c : Nat) (l : List UInt8) (hx : a.eval x = .slice A m c) (hsrc : BSl w A m c l)
    (h63 : n + m ≤ maxLen) (hbytes : (n + m) * bytes ≤ 140737488355328) (hbase : base ≤ w.heap.size)
    (h : ∀ v' w', w'.ownsRow base e 1 v' (n + m) (xs ++ byteCells l) → w.grownBy w' v.ownBlock → wpList P ops Q rest (a.put o.dst v') w') : wpList P ops Q (o :: rest) a w := by
  have hl := hsrc.len
  rcases hsrc.cells_ with ⟨rfl, rfl, rfl, rfl⟩ | ⟨ad, rfl, hc⟩
  · exact wpList_append_own_none hgd s x t ho base e i 1 ht hi v n xs hs hown hx (h v w (by simpa [Lib.byteCells] using hown) (World.grownBy.refl _ _))
  · exact wpList_append_own w hgd s x t ho base e i z 1 bytes ht hi hz hsize hby hzs (by decide) v n xs hs hown ad m c (byteCells l) hx (by rw [Lib.byteCells_length, hl, Nat.mul_one]) hc (bcells_one l) h63 hbytes hbase (fun v' w' h2 h3 _ => h v' w' h2 h3)

/-- the same at a step of a region that draws its order, guarded or not -/
theorem step_bapp {P : Program} {w : World} {ops : Array Oper} {o : Oper} {a : Act} {K : Act → World → Prop} {Q : Exit → Act → World → Prop} {E : Prop} (hw : Region.wanted o (yielded ops a.tmps) = true) (s x : Operand) (t : TypeId)
    (ho : o.op = .call { callee := .builtin .append, args := #[s, x], argTypes := #[t, t] })
    (base : Nat) (e : TypeId) (i : TypeInfo) (z : Value) (bytes : Nat) (ht : P.underlying t = some (.slice e)) (hi : P.info? e = some i) (hz : i.zero = some z)
    (hsize : i.size = 1) (hby : i.bytes = bytes) (hzs : z.cells.size = 1)
    (v : Value) (n : Nat) (xs : List Value) (hs : a.eval s = v) (hown : w.ownsRow base e 1 v n xs)
    (A : Option Addr) (m c : Nat) (l : List UInt8) (hx : a.eval x = .slice A m c) (hsrc : BSl w A m c l)
    (h63 : n + m ≤ maxLen) (hbytes : (n + m) * bytes ≤ 140737488355328) (hbase : base ≤ w.heap.size)
    (h : ∀ v' w', w'.ownsRow base e 1 v' (n + m) (xs ++ byteCells l) → w.grownBy w' v.ownBlock → K (a.put o.dst v') w') : if Region.wanted o (yielded ops a.tmps) = true then Oper.wp P o a w K Q else E := by
  rw [if_pos hw]
  have hl := hsrc.len
  rcases hsrc.cells_ with ⟨rfl, rfl, rfl, rfl⟩ | ⟨ad, rfl, hc⟩
  · have hrun := run_append_owned_none (P := P) (w := w) base t o.type e i 1 ht hi v n xs hown
    have hk := h v w (by simpa [Lib.byteCells] using hown) (World.grownBy.refl _ _)
    unfold Oper.wp
    simp [execOp, ho, resolve, invoke, builtin, hs, hx, hrun, Result.andThen]
    exact hk
  · exact wp_append_own w s x t ho base e i z 1 bytes ht hi hz hsize hby hzs (by decide) v n xs hs hown ad m c (byteCells l) hx (by rw [Lib.byteCells_length, hl, Nat.mul_one]) hc (bcells_one l) h63 hbytes hbase (fun v' w' h2 h3 _ => h v' w' h2 h3)

theorem own_below {w w' : World} {B : Nat} {e : TypeId} {v : Value} {n : Nat} {xs : List Value} (h : w.ownsRow B e 1 v n xs) (hb : Below w.heap.size w w') : w'.ownsRow B e 1 v n xs :=
  h.kept (row := none) ⟨hb.os, hb.tape, hb.output, hb.size, fun k hk _ => hb.block k hk⟩ (by cases hx : v.ownBlock <;> simp)
theorem own_shape {w : World} {B n : Nat} {e : TypeId} {v : Value} {xs : List Value} (h : w.ownsRow B e 1 v n xs) : ∃ A c, v = .slice A n c := by
  rcases h.2 with ⟨rfl, rfl⟩ | ⟨g, cap, cur, rfl, _⟩
  · exact ⟨_, _, rfl⟩
  · exact ⟨_, _, rfl⟩
theorem own_far {w : World} {B : Nat} {e : TypeId} {v : Value} {n : Nat} {xs : List Value} (h : w.ownsRow B e 1 v n xs) {p : Addr} (hp : p.block < B) (u : Value) : (w.setCell p u).ownsRow B e 1 v n xs := by
  refine ⟨h.1, ?_⟩
  rcases h.2 with hn | ⟨g, cap, cur, hv, hB, hh, r⟩
  · exact .inl hn
  · exact .inr ⟨g, cap, cur, hv, hB, (Below.heap_setCell w p u g (by omega)).trans hh, r⟩
theorem own_base {w : World} {B B' : Nat} {e : TypeId} {v : Value} {n : Nat} {xs : List Value} (h : w.ownsRow B e 1 v n xs) (hb : B' ≤ B) : w.ownsRow B' e 1 v n xs := by
  refine ⟨h.1, ?_⟩
  rcases h.2 with hn | ⟨g, cap, cur, hv, hB, r⟩
  · exact .inl hn
  · exact .inr ⟨g, cap, cur, hv, by omega, r⟩
/-- a new row of no byte: '[]byte{}' -/
theorem own_new (w : World) (B : Nat) (hB : B ≤ w.heap.size) : (w.alloc (.cells #[] 5)).ownsRow B 5 1 (.slice (some ⟨w.heap.size, 0, none⟩) 0 0) 0 [] :=
  World.ownsRow_lit w #[] 0 hB (by unfold maxLen; omega) rfl

/-- an address's six bytes -/
def mb (m : Int) : List UInt8 := (bytesPre m 6).map u8
theorem bytesPre_bd (m : Int) (k : Nat) : ∀ x ∈ bytesPre m k, 0 ≤ x ∧ x < 256 := by
  induction k with
  | zero => intro x hx; cases hx
  | succ k ih =>
    intro x hx
    simp only [bytesPre, List.mem_append, List.mem_singleton] at hx
    rcases hx with hx | rfl
    · exact ih x hx
    · exact ⟨byt_lo m k, byt_hi m k⟩
theorem nums_mb (m : Int) : nums (mb m) = bytesPre m 6 := nums_u8 _ (bytesPre_bd m 6)
theorem mb_len (m : Int) : (mb m).length = 6 := by unfold mb; rw [List.length_map, bytesPre_len]
theorem bcells_mb (m : Int) : byteCells (mb m) = (bytesPre m 6).map (Value.int .u8) := by rw [byteCells_nums, nums_mb]
theorem nums_app (a b : List UInt8) : nums (a ++ b) = nums a ++ nums b := by simp [nums]
theorem bat_mb (m : Int) (j : Nat) (h : j < 6) : bat (mb m) j = byt m j := by
  have h2 := bytesPre_get m 6 j h
  have h3 := nums_getD (mb m) j (by rw [mb_len]; exact h)
  rw [← h3, nums_mb]
  simp [List.getD, h2]
theorem bat_app_left (a b : List UInt8) (j : Nat) (h : j < a.length) : bat (a ++ b) j = bat a j := by
  unfold bat
  simp [List.getD, List.getElem?_append_left h]
theorem bat_app_right (a b : List UInt8) (j : Nat) (h : a.length ≤ j) : bat (a ++ b) j = bat b (j - a.length) := by
  unfold bat
  simp [List.getD, List.getElem?_append_right h]

theorem put_more {a wr w1 : World} {m : Int} {n k : Nat} {bs : List Int} {u v : Value} {o1 : Obj} (hbel : Below a.heap.size a wr)
    (hown : wr.ownsRow a.heap.size 5 1 u (n + k) ((bs ++ bytesPre m k).map (Value.int .u8)))
    (hown1 : w1.ownsRow a.heap.size 5 1 v (n + k + 1) ((bs ++ bytesPre m k).map (Value.int .u8) ++ [.int .u8 (byt m k)]))
    (hg1 : (wr.alloc o1).grownBy w1 u.ownBlock) :
    w1.ownsRow a.heap.size 5 1 v (n + (k + 1)) ((bs ++ bytesPre m (k + 1)).map (Value.int .u8)) ∧ Below a.heap.size a w1 := by
  have b1 := below_app (hbel.alloc hbel.size o1) (hown.alloc o1) hg1
  exact ⟨by simpa [bytesPre, Nat.add_assoc] using hown1, b1⟩

set_option maxHeartbeats 800000 in
theorem put_any (A : Option Addr) (n c : Nat) (l : List UInt8) (m : Int) (w : World) (hn : n ≤ 1000000) (hsrc : BSl w A n c l) :
    Calls Try.prog 18 #[.slice A n c, .int .u64 m] w fun e w' => ∃ v, e = .returned v ∧ w'.ownsRow w.heap.size 5 1 v (n + 6) (byteCells (l ++ mb m)) ∧ Below w.heap.size w w' := by
  obtain ⟨i0, hi, hz0, hz1, hz2⟩ := info_parts Try.info5
  have Hi := Lib.hid hi; have Hz0 := Lib.hid hz0; have Hz1 := Lib.hid hz1; have Hz2 := Lib.hid hz2
  have Hs := Lib.hid hsrc
  have HE := Lib.hid (show byteCells (l ++ mb m) = (nums l ++ bytesPre m 6).map (Value.int .u8) by rw [byteCells_nums, nums_app, nums_mb])
  clear hi hz0 hz1 hz2 hsrc
  go_enter Try.func18, Try.ntmps18
  go_wp2_with (first
    | (at_make; refine wpList_make_own _ rfl _ _ 22 rfl w.heap.size 5 i0 (.int .u8 0) 1 Try.underlying22 Hi.out Hz0.out Hz1.out .i64 .i64 _ (n + 6) rfl rfl (by omega) (by rw [Hz2.out]; omega) (by unfold maxLen; omega) (Nat.le_refl _) ?_; intro w0 hown0 hgrow0; have hb0 : Below w.heap.size w w0 := (Below.refl _ _).grown hgrow0 (Nat.le_refl _) (fun _ h => by cases h))
    | (at_builtin; refine wpList_bapp rfl (.tmp 10) (.tmp 11) 22 rfl w.heap.size 5 i0 (.int .u8 0) 1 Try.underlying22 Hi.out Hz0.out Hz1.out Hz2.out rfl _ _ _ (by rfl) hown0 A n c l (by rfl) (Hs.out.below hb0) (by unfold maxLen; omega) (by omega) hb0.size ?_; intro v1 w1 hown1 hgrow1; have hb1 := below_app hb0 hown0 hgrow1))
  have hown1' : w1.ownsRow w.heap.size 5 1 v1 (n + 0) ((nums l ++ bytesPre m 0).map (Value.int .u8)) := by simpa [bytesPre, byteCells_nums] using hown1
  clear hown1 hgrow1 hown0 hgrow0 hb0
  go_loopw [5, 13] (fun v i wr => ∃ k : Nat, k ≤ 6 ∧ i = .int .i64 k ∧ wr.ownsRow w.heap.size 5 1 v (n + k) ((nums l ++ bytesPre m k).map (Value.int .u8)) ∧ Below w.heap.size w wr) (fun _ i _ => 6 - (intOf i).toNat)
  case atStart => exact ⟨0, by omega, rfl, hown1', hb1⟩
  case round =>
    clear hown1' hb1
    obtain ⟨k, hk, rfl, hown, hbel⟩ := hrel
    by_cases hlt : k < 6
    · go_wp2_with (first
        | (go_at_call 22; refine (byteAt_any _ _ _ hlt).mono ?_; rintro e w' ⟨rfl, rfl⟩)
        | (at_builtin; refine wpList_append_lies _ rfl (.tmp 16) (.tmp 20) 22 rfl w.heap.size 5 i0 (.int .u8 0) 1 1 Try.underlying22 Hi.out Hz0.out Hz1.out Hz2.out rfl (by decide) _ _ _ (by rfl) (hown.alloc _) ⟨wr.heap.size, 0, none⟩ 1 1 [.int .u8 (byt m k)] (by rfl) rfl (World.news_of_block (heap_alloc_new wr _)) (by simp [Value.oneCell']) (by omega) (by unfold maxLen; omega) (by omega) (by have := hbel.size; simp; omega) _ rfl ?_; intro g cap w2 hown2 hgrow2 _ _))
      have hend := put_more hbel hown hown2 hgrow2
      clear hbel hown hown2 hgrow2
      go_wp2
      go_roundw
      case rel => exact ⟨k + 1, by omega, by go_num, hend.1, hend.2⟩
      case measure => simp [intOf]; omega
    · obtain rfl : k = 6 := by omega
      go_wp2
      go_ret
      exact ⟨_, rfl, by rw [HE.out]; exact hown, hbel⟩
/-- the six bytes of palingref01.Bytes, as bytes -/
theorem refBytes_mb (m : Int) (w : World) (h0 : 0 ≤ m) (h1 : m < 18446744073709551616) :
    Calls Try.prog 19 #[.int .u64 m] w fun e w' => ∃ v, e = .returned v ∧ w'.ownsRow w.heap.size 5 1 v 6 (byteCells (mb m)) ∧ Below w.heap.size w w' := by
  rw [bcells_mb]
  exact refBytes_any m w h0 h1
/-- what six bytes of a list are as an address -/
def mbAt (l : List UInt8) (i : Nat) : Int := numOf (fun j => bat l (i + j)) 6
theorem mtake_any (A : Option Addr) (n c at_ : Nat) (l : List UInt8) (w : World) (h : BSl w A n c l) (ha : at_ + 6 ≤ n) :
    Calls Try.prog 15 #[.slice A n c, .int .i64 (at_ : Int)] w fun e w' => e = .returned (.tuple #[.int .u64 (mbAt l at_), .bool true]) ∧ w = w' := by
  obtain ⟨b, off, rfl, _, hc⟩ := h.at_ (by omega)
  exact take_yes b off n c at_ _ w h.le h.cap ha (fun j _ => ⟨bat_lo _ _, bat_hi _ _⟩) (fun j hj => hc (at_ + j) (by omega))
theorem refMtake_any (A : Option Addr) (n c at_ : Nat) (l : List UInt8) (w : World) (h : BSl w A n c l) (ha : at_ + 6 ≤ n) :
    Calls Try.prog 17 #[.slice A n c, .int .i64 (at_ : Int)] w fun e w' => e = .returned (.tuple #[.int .u64 (mbAt l at_), .bool true]) ∧ w = w' := by
  obtain ⟨b, off, rfl, _, hc⟩ := h.at_ (by omega)
  exact refTake_yes b off n c at_ _ w h.le h.cap ha (fun j _ => ⟨bat_lo _ _, bat_hi _ _⟩) (fun j hj => hc (at_ + j) (by omega))
theorem mtake_of (A : Option Addr) (n c at_ : Nat) (i : Int) (l : List UInt8) (w : World) (hi : i = (at_ : Int)) (h : BSl w A n c l) (ha : at_ + 6 ≤ n) :
    Calls Try.prog 15 #[.slice A n c, .int .i64 i] w fun e w' => e = .returned (.tuple #[.int .u64 (mbAt l at_), .bool true]) ∧ w = w' := by
  subst hi
  exact mtake_any A n c at_ l w h ha
theorem refMtake_of (A : Option Addr) (n c at_ : Nat) (i : Int) (l : List UInt8) (w : World) (hi : i = (at_ : Int)) (h : BSl w A n c l) (ha : at_ + 6 ≤ n) :
    Calls Try.prog 17 #[.slice A n c, .int .i64 i] w fun e w' => e = .returned (.tuple #[.int .u64 (mbAt l at_), .bool true]) ∧ w = w' := by
  subst hi
  exact refMtake_any A n c at_ l w h ha
end Go.Proofs.Ytodjgodbkhdglaa
