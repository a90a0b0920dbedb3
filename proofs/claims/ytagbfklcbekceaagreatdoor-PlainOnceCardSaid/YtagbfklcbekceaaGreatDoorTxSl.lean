/- A line as data that cells read as; lists of lines. A slice of one line, laid out; a line appended to a row of the call's own. -/
import Derived.Test.YtagbfklcbekceaaGreatDoorStRes
import Derived.Test.YtagbfklcbekceaaGreatDoorRd
import Derived.Great.BuildSlice
namespace Go.Proofs.YtagbfklcbekceaaGreatDoor
open Go.RowKit

/-- a list of numbers behind a slice, by blocks of F -/
def NSl (w : World) (F : Nat → Prop) (k : IntKind) (s : SlV) (xs : List Int) : Prop := ISl w k s.A s.n s.c xs ∧ (0 < s.n → ∀ ad, s.A = some ad → F ad.block)
theorem NSl.keep {w w' : World} {F F' : Nat → Prop} {k : IntKind} {s : SlV} {xs : List Int} (h : NSl w F k s xs) (hb : ∀ b, F b → w'.heap[b]? = w.heap[b]?) (hF : ∀ b, F b → F' b) : NSl w' F' k s xs := by
  refine ⟨⟨h.1.1, h.1.2.1, h.1.2.2.1, fun hn => ?_⟩, fun hn ad e => hF _ (h.2 hn ad e)⟩
  obtain ⟨b, off, e, hl, hc⟩ := h.1.2.2.2 hn
  have hb2 := hb b (h.2 hn _ e)
  exact ⟨b, off, e, lt_of_heap hb2 hl, fun j hj => (World.cell?_of_block (w := w) (a := ⟨b, off + j, none⟩) hb2).trans (hc j hj)⟩
/-- the cells of a line -/
def lineC (L : LV) (s1 s2 s3 s4 : SlV) : List Value := [.int .i64 L.row, .int .i64 L.kind, .string (str L.dev), .string (str L.port), .string (str L.peer), .string (str L.far), .string (str L.name), .int .u64 L.mac, .int .u32 L.addr, .int .i64 L.bits, .int .i64 L.vlan, .int .i64 L.num, .int .i64 L.cost, .slice s1.A s1.n s1.c, .slice s2.A s2.n s2.c, .slice s3.A s3.n s3.c, .slice s4.A s4.n s4.c]
theorem lineV_cells (L : LV) (s1 s2 s3 s4 : SlV) : lineV L s1 s2 s3 s4 = .agg (lineC L s1 s2 s3 s4).toArray := rfl
/-- a line -/
def lineR : Rdr LV where
  n := 17
  rd := fun w F vs L => ∃ s1 s2 s3 s4, vs = lineC L s1 s2 s3 s4 ∧ NSl w F .i64 s1 L.tagged ∧ NSl w F .i64 s2 L.imports ∧ NSl w F .i64 s3 L.exports ∧ NSl w F .u32 s4 L.addrs
  len := by rintro w F vs L ⟨s1, s2, s3, s4, rfl, _⟩; rfl
  one := by rintro w F vs L ⟨s1, s2, s3, s4, rfl, _⟩ v hv; simp [lineC] at hv; rcases hv with rfl | rfl | rfl | rfl | rfl | rfl | rfl | rfl | rfl | rfl | rfl | rfl | rfl | rfl | rfl | rfl | rfl <;> rfl
  keep := by rintro w w' F F' vs L ⟨s1, s2, s3, s4, rfl, h1, h2, h3, h4⟩ hb hF; exact ⟨s1, s2, s3, s4, rfl, h1.keep hb hF, h2.keep hb hF, h3.keep hb hF, h4.keep hb hF⟩
/-- a line that a call handed back: by blocks behind the world of the call -/
def newB (B : Nat) (w : World) (b : Nat) : Prop := B ≤ b ∧ b < w.heap.size
theorem line_new {w : World} {B : Nat} {L : LV} {s1 s2 s3 s4 : SlV} (h : LRead w L s1 s2 s3 s4) (g : LNew B s1 s2 s3 s4) : lineR.rd w (newB B w) (lineC L s1 s2 s3 s4) L := by
  have key : ∀ (k : IntKind) (s : SlV) (xs : List Int), ISl w k s.A s.n s.c xs → (∀ ad, s.A = some ad → B ≤ ad.block) → NSl w (newB B w) k s xs := fun k s xs i f => ⟨i, fun hn ad e => ⟨f ad e, by
    obtain ⟨b, off, e2, hl, _⟩ := i.2.2.2 hn
    rw [e2] at e
    injection e with e
    subst e
    exact hl⟩⟩
  exact ⟨s1, s2, s3, s4, rfl, key _ _ _ h.1 g.1, key _ _ _ h.2.1 g.2.1, key _ _ _ h.2.2.1 g.2.2.1, key _ _ _ h.2.2.2 g.2.2.2⟩
theorem line_read {w : World} {F : Nat → Prop} {vs : List Value} {L : LV} (h : lineR.rd w F vs L) : ∃ s1 s2 s3 s4, vs = lineC L s1 s2 s3 s4 ∧ LRead w L s1 s2 s3 s4 := by
  obtain ⟨s1, s2, s3, s4, rfl, h1, h2, h3, h4⟩ := h
  exact ⟨s1, s2, s3, s4, rfl, h1.1, h2.1, h3.1, h4.1⟩
end Go.Proofs.YtagbfklcbekceaaGreatDoor

namespace Go.Proofs.YtagbfklcbekceaaGreatDoor
open Go.RowKit

theorem Tryz.info39 : (Tryz.prog.info? 39).map (fun i => (i.zero, i.size)) = some (some (lineV LV.zero SlV.nil SlV.nil SlV.nil SlV.nil), 17) := by kernel_rfl
theorem line_built (L : LV) (s1 s2 s3 s4 : SlV) : Tryz.prog.builtSlice 39 1 [(0, lineV L s1 s2 s3 s4)] = some (lineC L s1 s2 s3 s4).toArray := by
  unfold Program.builtSlice
  have h := Tryz.info39
  cases hi : Tryz.prog.info? 39 with
  | none => rw [hi] at h; cases h
  | some i =>
    rw [hi] at h
    simp only [Option.map_some, Option.some.injEq, Prod.mk.injEq] at h
    simp only [h.1, h.2]
    rw [if_neg (by decide)]
    show Instr.fill _ _ _ = some _
    kernel_rfl
/-- a slice of one line, laid out -/
theorem wpList_lineSl {ops : Array Oper} {rest : List Oper} {o : Oper} {a : Act} {w : World} {Q : Exit → Act → World → Prop} (hg : o.guard = none) (x : Operand) (ho : o.op = .buildSlice 24 1 #[(0, x)])
    (L : LV) (s1 s2 s3 s4 : SlV) (hx : a.eval x = lineV L s1 s2 s3 s4) (h : wpList Tryz.prog ops Q rest (a.put o.dst (.slice (some ⟨w.heap.size, 0, none⟩) 1 1)) (w.alloc (.cells (lineC L s1 s2 s3 s4).toArray 39))) : wpList Tryz.prog ops Q (o :: rest) a w :=
  Great.wpList_buildSliceTo hg 24 39 1 #[(0, x)] ho w.heap.size rfl o.dst rfl Tryz.underlying24 _ (by
    have e : (#[(0, x)] : Array (Nat × Operand)).map (fun (i, x) => (i, a.eval x)) = #[(0, a.eval x)] := by simp
    rw [e, hx]
    exact line_built L s1 s2 s3 s4) h
theorem line_bytes : (Tryz.prog.info? 39).map (fun i => decide (i.bytes ≤ 1000)) = some true := by kernel_rfl
/-- append of one line that was just laid out -/
theorem wpList_lapp {w0 : World} {ops : Array Oper} {rest : List Oper} {o : Oper} {a : Act} {Q : Exit → Act → World → Prop} (hgd : o.guard = none) (s x : Operand)
    (ho : o.op = .call { callee := .builtin .append, args := #[s, x], argTypes := #[24, 24] }) (base : Nat) (v : Value) (xs : List LV) (hown : ROwn lineR w0 base 39 v xs)
    (L : LV) (s1 s2 s3 s4 : SlV) (F : Nat → Prop) (hy : lineR.rd w0 F (lineC L s1 s2 s3 s4) L) (hF : ∀ b, F b → offRow w0 v b) (hn : xs.length ≤ 100000) (hbase : base ≤ w0.heap.size)
    (hs : a.eval s = v) (hx : a.eval x = .slice (some ⟨w0.heap.size, 0, none⟩) 1 1)
    (h : ∀ v' w', ROwn lineR w' base 39 v' (xs ++ [L]) → Below base w0 w' → wpList Tryz.prog ops Q rest (a.put o.dst v') w') : wpList Tryz.prog ops Q (o :: rest) a (w0.alloc (.cells (lineC L s1 s2 s3 s4).toArray 39)) := by
  have hi := Tryz.info39
  have hb := line_bytes
  cases he : Tryz.prog.info? 39 with
  | none => rw [he] at hi; cases hi
  | some i =>
    rw [he] at hi hb
    simp only [Option.map_some, Option.some.injEq, Prod.mk.injEq] at hi hb
    have hb2 : i.bytes ≤ 1000 := of_decide_eq_true hb
    refine wpList_rapp lineR hgd s x 24 ho base 39 i (lineV LV.zero SlV.nil SlV.nil SlV.nil SlV.nil) i.bytes Tryz.underlying24 he hi.1 hi.2 rfl rfl (by decide) v xs hown L (lineC L s1 s2 s3 s4).toArray F (by simpa using hy) hF w0.heap.size rfl (by unfold maxLen; omega) ?_ hbase hs hx h
    exact Nat.le_trans (Nat.mul_le_mul (show xs.length + 1 ≤ 100001 by omega) hb2) (by decide)
/-- append of a whole slice of lines -/
theorem wpList_lapps {w : World} {ops : Array Oper} {rest : List Oper} {o : Oper} {a : Act} {Q : Exit → Act → World → Prop} (hgd : o.guard = none) (s x : Operand)
    (ho : o.op = .call { callee := .builtin .append, args := #[s, x], argTypes := #[24, 24] }) (base : Nat) (v : Value) (xs : List LV) (hown : ROwn lineR w base 39 v xs)
    (F : Nat → Prop) (A : Option Addr) (m c : Nat) (ys : List LV) (hy : RSl lineR w F A m c ys) (hF : ∀ b, F b → offRow w v b) (hn : xs.length + m ≤ 100000) (hbase : base ≤ w.heap.size)
    (hs : a.eval s = v) (hx : a.eval x = .slice A m c)
    (h : ∀ v' w', ROwn lineR w' base 39 v' (xs ++ ys) → Below base w w' → wpList Tryz.prog ops Q rest (a.put o.dst v') w') : wpList Tryz.prog ops Q (o :: rest) a w := by
  have hi := Tryz.info39
  have hb := line_bytes
  cases he : Tryz.prog.info? 39 with
  | none => rw [he] at hi; cases hi
  | some i =>
    rw [he] at hi hb
    simp only [Option.map_some, Option.some.injEq, Prod.mk.injEq] at hi hb
    have hb2 : i.bytes ≤ 1000 := of_decide_eq_true hb
    refine wpList_rapps lineR hgd s x 24 ho base 39 i (lineV LV.zero SlV.nil SlV.nil SlV.nil SlV.nil) i.bytes Tryz.underlying24 he hi.1 hi.2 rfl rfl (by decide) v xs hown F A m c ys hy hF (by unfold maxLen; omega) ?_ hbase hs hx h
    exact Nat.le_trans (Nat.mul_le_mul (show xs.length + m ≤ 100000 by omega) hb2) (by decide)
end Go.Proofs.YtagbfklcbekceaaGreatDoor
