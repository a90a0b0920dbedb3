/- A struct of many cells stored whole, and loaded whole: one step each. A line stored whole into a box, and a line's box loaded whole. -/
import Derived.Test.YtpbomfhlghljdaaGreatDoorVxBox
import Derived.Test.YtpbomfhlghljdaaGreatDoorStLine
import Derived.Deep.MidRow
import Derived.Great.Walk
namespace Go.Proofs.YtpbomfhlghljdaaGreatDoor
open Go.RowKit

theorem Ex.cells {q : Nat} : ∀ (vs : List Value) (o : Nat) (w w' : World), Ex q w w' → Ex q w (w'.setCells q o vs)
  | [], _, _, _, h => h
  | v :: r, o, w, _, h => Ex.cells r (o + 1) w _ (h.set o v)
/-- a block of n cells, none of them frozen, that may be stored into -/
theorem there_all {w : World} {q n : Nat} (hc : ∀ j, j < n → (w.cell? ⟨q, j, none⟩).isSome = true) (hf : ∀ o, w.frozen? ⟨q, o, none⟩ = false) : w.there q 0 n := fun j hj => by
  rw [Nat.zero_add]
  exact ⟨hc j hj, hf j⟩
/-- a store of a whole struct into a block: the block's cells are the struct's, all other blocks are as they were -/
theorem wpList_put {P : Program} {ops : Array Oper} {rest : List Oper} {op : Oper} {a : Act} {w : World} {Q : Exit → Act → World → Prop} (hgd : op.guard = none) (ty : TypeId) (x y : Operand) (ho : op.op = .store ty x y)
    (p : Nat) (hx : a.eval x = .pointer (some ⟨p, 0, none⟩)) (cells : Array Value) (hy : a.eval y = .agg cells) (hc : ∀ j, j < cells.size → (w.cell? ⟨p, j, none⟩).isSome = true) (hf : ∀ o, w.frozen? ⟨p, o, none⟩ = false)
    (hi : (P.info? ty).map (·.size) = some cells.size) (h1 : cells.all (·.oneCell') = true)
    (h : ∀ w9, (∀ (j : Nat) (v : Value), cells.toList[j]? = some v → w9.cell? ⟨p, j, none⟩ = some v) → (∀ o, w9.frozen? ⟨p, o, none⟩ = false) → Ex p w w9 → wpList P ops Q rest (a.put op.dst undef) w9) : wpList P ops Q (op :: rest) a w := by
  have ht : w.there p 0 cells.size := there_all hc hf
  refine wpList_store_mid hgd ty x y ho p 0 cells hx hy ht hi h1 (h _ (fun j v hv => ?_) (fun o => by rw [World.frozen?_setCells]; exact hf o) (Ex.cells _ 0 w w (Ex.refl _ _)))
  have := World.rangeAt_setCells_same w p 0 cells.toList (by simpa using ht) j v hv
  rwa [Nat.zero_add] at this
end Go.Proofs.YtpbomfhlghljdaaGreatDoor

namespace Go.Proofs.YtpbomfhlghljdaaGreatDoor
open Go.RowKit

theorem line_size : (Tryz.prog.info? 30).map (·.size) = some 17 := by kernel_rfl
theorem line_desc : ∃ d, Tryz.prog.underlying 30 = some d ∧ d.isRow = true := ⟨_, Tryz.underlying30, rfl⟩
theorem BoxF.ex {w w' : World} {q p n : Nat} {f : Nat → Value} (h : BoxF w p n f) (hn : 0 < n) (g : Ex q w w') (hp : p ≠ q) : BoxF w' p n f :=
  h.same (fun o => g.cell o (h.lt hn) hp) (fun o => g.frozen o (h.lt hn) hp)
theorem LBox.ex {w w' : World} {q p : Nat} {L : LV} {s1 s2 s3 s4 : SlV} (h : LBox w q L s1 s2 s3 s4) (g : Ex p w w') (hp : p < q) : LBox w' q L s1 s2 s3 s4 := by
  have key : ∀ (k : IntKind) (s : SlV) (xs : List Int), FSl w q k s xs → FSl w' q k s xs := fun k s xs f => ⟨((f.mono (Nat.le_of_lt hp)).ex g).1, f.2⟩
  exact ⟨h.1.ex (by omega) g (by omega), key _ _ _ h.2.1, key _ _ _ h.2.2.1, key _ _ _ h.2.2.2.1, key _ _ _ h.2.2.2.2⟩
theorem LRead.ex {w w' : World} {q p : Nat} {L : LV} {s1 s2 s3 s4 : SlV} (h : LBox w q L s1 s2 s3 s4) (g : Ex p w w') (hp : p < q) : LRead w' L s1 s2 s3 s4 := (h.ex g hp).read
theorem line_cells (L : LV) (s1 s2 s3 s4 : SlV) : ∃ C : Array Value, lineV L s1 s2 s3 s4 = .agg C ∧ C.size = 17 := ⟨_, rfl, rfl⟩
/-- the cells of a line -/
theorem lc_list (L : LV) (s1 s2 s3 s4 : SlV) (j : Nat) (hj : j < 17) (C : Array Value) (hC : lineV L s1 s2 s3 s4 = .agg C) : C.toList[j]? = some (lc L s1 s2 s3 s4 j) := by
  injection hC with hC
  subst hC
  match j, hj with
  | 0, _ | 1, _ | 2, _ | 3, _ | 4, _ | 5, _ | 6, _ | 7, _ | 8, _ | 9, _ | 10, _ | 11, _ | 12, _ | 13, _ | 14, _ | 15, _ | 16, _ => rfl
  | j + 17, h => exact absurd h (by omega)
/-- a line is stored whole -/
theorem wpList_line {ops : Array Oper} {rest : List Oper} {op : Oper} {a : Act} {w : World} {Q : Exit → Act → World → Prop} (hgd : op.guard = none) (x y : Operand) (ho : op.op = .store 30 x y)
    (p : Nat) (hx : a.eval x = .pointer (some ⟨p, 0, none⟩)) (L : LV) (s1 s2 s3 s4 : SlV) (hy : a.eval y = lineV L s1 s2 s3 s4) (g : Nat → Value) (hb : BoxF w p 17 g)
    (h : ∀ w9, BoxF w9 p 17 (lc L s1 s2 s3 s4) → Ex p w w9 → wpList Tryz.prog ops Q rest (a.put op.dst undef) w9) : wpList Tryz.prog ops Q (op :: rest) a w := by
  obtain ⟨C, hC⟩ : ∃ C, lineV L s1 s2 s3 s4 = .agg C := ⟨_, rfl⟩
  have hs : C.size = 17 := by injection hC with hC; subst hC; rfl
  have h1 : C.all (·.oneCell') = true := by injection hC with hC; subst hC; simp [Value.oneCell']
  refine wpList_put hgd 30 x y ho p hx C (hy.trans hC) (fun j hj => by rw [hb.1 j (by omega)]; rfl) hb.2 (by rw [hs]; exact line_size) h1 (fun w9 h2 h3 h4 => h w9 ⟨fun j hj => h2 j _ (lc_list L s1 s2 s3 s4 j hj C hC), h3⟩ h4)
/-- a line is loaded whole -/
theorem wpList_lineOf {ops : Array Oper} {rest : List Oper} {op : Oper} {a : Act} {w : World} {Q : Exit → Act → World → Prop} (hgd : Region.wanted op (yielded ops a.tmps) = true) (x : Operand) (ho : op.op = .load 30 x)
    (p : Nat) (hx : a.eval x = .pointer (some ⟨p, 0, none⟩)) (L : LV) (s1 s2 s3 s4 : SlV) (hb : BoxF w p 17 (lc L s1 s2 s3 s4))
    (h : wpList Tryz.prog ops Q rest (a.put op.dst (lineV L s1 s2 s3 s4)) w) : wpList Tryz.prog ops Q (op :: rest) a w := by
  obtain ⟨d, hd1, hd2⟩ := line_desc
  obtain ⟨C, hC, hs⟩ := line_cells L s1 s2 s3 s4
  have hl : C.toList.length = 17 := Array.length_toList.trans hs
  have e : C.toList.toArray = C := Array.toArray_toList
  have h2 : wpList Tryz.prog ops Q rest (a.put op.dst (.agg C.toList.toArray)) w := by rw [e, ← hC]; exact h
  refine wpList_step fun K hK => ?_
  rw [if_pos hgd]
  refine wp_load_mid 30 x ho p 0 hx C.toList d (fun j v hv => ?_) hd1 hd2 (by rw [hl]; exact line_size) (hK _ _ h2)
  have hj : j < 17 := by rw [← hl]; exact (List.getElem?_eq_some_iff.1 hv).1
  rw [lc_list L s1 s2 s3 s4 j hj C hC] at hv
  rw [Nat.zero_add, hb.1 j hj, hv]
/-- the box that a line without anything lies in -/
theorem zero_box (w : World) (T : TypeId) : BoxF (w.alloc (.cells #[.int .i64 0, .int .i64 0, .string ⟨#[]⟩, .string ⟨#[]⟩, .string ⟨#[]⟩, .string ⟨#[]⟩, .string ⟨#[]⟩, .int .u64 0, .int .u32 0, .int .i64 0, .int .i64 0, .int .i64 0, .int .i64 0, .slice none 0 0, .slice none 0 0, .slice none 0 0, .slice none 0 0] T)) w.heap.size 17 (lc LV.zero SlV.nil SlV.nil SlV.nil SlV.nil) := by
  refine ⟨fun j hj => ?_, fun o => by simp⟩
  match j, hj with
  | 0, _ | 1, _ | 2, _ | 3, _ | 4, _ | 5, _ | 6, _ | 7, _ | 8, _ | 9, _ | 10, _ | 11, _ | 12, _ | 13, _ | 14, _ | 15, _ | 16, _ => simp [lc, LV.zero, SlV.nil, SlV.val, str]
  | j + 17, h => exact absurd h (by omega)
theorem alloc_line (ρ : Operand → Value) (o : Oper) (ho : o.op = .alloc 30) (w : World) :
    (execOp ρ o).run Tryz.prog w = .ok (.value (.pointer (some ⟨w.heap.size, 0, none⟩))) (w.alloc (.cells #[.int .i64 0, .int .i64 0, .string ⟨#[]⟩, .string ⟨#[]⟩, .string ⟨#[]⟩, .string ⟨#[]⟩, .string ⟨#[]⟩, .int .u64 0, .int .u32 0, .int .i64 0, .int .i64 0, .int .i64 0, .int .i64 0, .slice none 0 0, .slice none 0 0, .slice none 0 0, .slice none 0 0] 30)) := by
  unfold execOp
  rw [ho]
  simp [Instr.alloc, newVar, newRow, go_sem]
/-- a new box, and a line stored into it: a variable that is declared -/
theorem wpList_newline {ops : Array Oper} {rest : List Oper} {o1 o2 : Oper} {a : Act} {w : World} {Q : Exit → Act → World → Prop} (hg1 : o1.guard = none) (ho1 : o1.op = .alloc 30) (hg2 : o2.guard = none) (x y : Operand) (ho2 : o2.op = .store 30 x y)
    (hx : (a.put o1.dst (.pointer (some ⟨w.heap.size, 0, none⟩))).eval x = .pointer (some ⟨w.heap.size, 0, none⟩)) (L : LV) (s1 s2 s3 s4 : SlV) (hy : (a.put o1.dst (.pointer (some ⟨w.heap.size, 0, none⟩))).eval y = lineV L s1 s2 s3 s4)
    (h : ∀ w9, BoxF w9 w.heap.size 17 (lc L s1 s2 s3 s4) → Below w.heap.size w w9 → wpList Tryz.prog ops Q rest ((a.put o1.dst (.pointer (some ⟨w.heap.size, 0, none⟩))).put o2.dst undef) w9) : wpList Tryz.prog ops Q (o1 :: o2 :: rest) a w :=
  Great.wpList_runTo hg1 o1.dst rfl _ _ (alloc_line _ o1 ho1 w) (wpList_line hg2 x y ho2 w.heap.size hx L s1 s2 s3 s4 hy _ (zero_box w _) fun w9 h1 h2 => h w9 h1 (Below.ex ((Below.refl _ _).alloc (Nat.le_refl _) _) h2 (Nat.le_refl _) (by simp)))
end Go.Proofs.YtpbomfhlghljdaaGreatDoor
