/- A call of a function value that holds its receiver. What a loop over a line's parts keeps. What stands between stmt.Read's calls. The contract of stmt.Read, where the words are no line by their number. -/
import Derived.Test.YtagbfklcbekceaaGreatDoorStPut
import Derived.Test.YtagbfklcbekceaaGreatDoorStWv
import Derived.Test.YtagbfklcbekceaaGreatDoorStParts
import Derived.Test.YtagbfklcbekceaaGreatDoorStCopy
import Derived.Test.YtagbfklcbekceaaGreatDoorStSaid
import Derived.Deep.RegionWith
import Derived.WalkMore
import Derived.Laws.EntriesVeiled
namespace Go.Proofs.YtagbfklcbekceaaGreatDoor
open Go.RowKit

theorem run_cf {P : Program} {f : FuncId} {fn : Func} {c : Code} (hf : P.funcs[f]? = some fn) (hname : (fn.name == "runtime.NumGoroutine") = false) (hb : fn.body = some c) (args : Array Value) (w : World) : (callFunc f args).run P w = .ok (.enter f args) w := by
  have h2 : ¬ fn.name = "runtime.NumGoroutine" := by simpa using hname
  unfold callFunc
  simp [go_sem, hf, h2, hb]
/-- a field's function is entered -/
theorem run_fnum (k : Nat) (hk : k < 16) (args : Array Value) (w : World) : (callFunc (fnum k) args).run Tryz.prog w = .ok (.enter (fnum k) args) w := by
  match k, hk with
  | 0, _ => exact run_cf Tryz.func53 (by kernel_rfl) rfl args w
  | 1, _ => exact run_cf Tryz.func56 (by kernel_rfl) rfl args w
  | 2, _ => exact run_cf Tryz.func61 (by kernel_rfl) rfl args w
  | 3, _ => exact run_cf Tryz.func62 (by kernel_rfl) rfl args w
  | 4, _ => exact run_cf Tryz.func65 (by kernel_rfl) rfl args w
  | 5, _ => exact run_cf Tryz.func58 (by kernel_rfl) rfl args w
  | 6, _ => exact run_cf Tryz.func54 (by kernel_rfl) rfl args w
  | 7, _ => exact run_cf Tryz.func59 (by kernel_rfl) rfl args w
  | 8, _ => exact run_cf Tryz.func57 (by kernel_rfl) rfl args w
  | 9, _ => exact run_cf Tryz.func55 (by kernel_rfl) rfl args w
  | 10, _ => exact run_cf Tryz.func63 (by kernel_rfl) rfl args w
  | 11, _ => exact run_cf Tryz.func68 (by kernel_rfl) rfl args w
  | 12, _ => exact run_cf Tryz.func60 (by kernel_rfl) rfl args w
  | 13, _ => exact run_cf Tryz.func66 (by kernel_rfl) rfl args w
  | 14, _ => exact run_cf Tryz.func67 (by kernel_rfl) rfl args w
  | 15, _ => exact run_cf Tryz.func64 (by kernel_rfl) rfl args w
  | k + 16, h => exact absurd h (by omega)
theorem run_dyn (ρ : Operand → Value) (o : Oper) (x y : Operand) (t : TypeId) (k : Nat) (hk : k < 16) (p q : Value) (w : World) (ho : o.op = .call { callee := .value x, args := #[y], argTypes := #[t] }) (hx : ρ x = .func (.func (fnum k)) #[p] #[]) (hy : ρ y = q) :
    (execOp ρ o).run Tryz.prog w = .ok (.enter (fnum k) #[p, q]) w := by
  unfold execOp
  rw [ho]
  simp [go_sem, hx, hy, run_fnum k hk]
theorem wpList_dyn {ops : Array Oper} {rest : List Oper} {o : Oper} {a : Act} {w : World} {Q : Exit → Act → World → Prop} (hg : o.guard = none) (x y : Operand) (t : TypeId) (k : Nat) (hk : k < 16) (p q : Value) (ho : o.op = .call { callee := .value x, args := #[y], argTypes := #[t] }) (hx : a.eval x = .func (.func (fnum k)) #[p] #[]) (hy : a.eval y = q)
    (h : Calls Tryz.prog (fnum k) #[p, q] w fun e w' => e = .returned (.tuple #[]) ∧ wpList Tryz.prog ops Q rest (a.put o.dst (.tuple #[])) w') : wpList Tryz.prog ops Q (o :: rest) a w := by
  refine wpList_plain hg fun K hK => ?_
  unfold Oper.wp
  rw [run_dyn a.eval o x y t k hk p q w ho hx hy]
  exact Calls.mono h (fun e w' ⟨he, hw⟩ => by subst he; exact hK _ _ hw)
/-- a field's exchange, called by its value -/
theorem wpList_fld {ops : Array Oper} {rest : List Oper} {o : Oper} {a : Act} {w : World} {Q : Exit → Act → World → Prop} {p q : Nat} {L : LV} {s1 s2 s3 s4 : SlV} {V : WV} {t1 t2 : SlV} (hg : o.guard = none) (x y : Operand) (t : TypeId) (k : Nat) (ho : o.op = .call { callee := .value x, args := #[y], argTypes := #[t] })
    (hx : a.eval x = .func (.func (fnum k)) #[.pointer (some ⟨p, 0, none⟩)] #[]) (hy : a.eval y = .pointer (some ⟨q, 0, none⟩)) (hk : k < 16) (hf : FV w p q L s1 s2 s3 s4 V t1 t2)
    (h : ∀ w' r1 r2 r3 r4 u1 u2, FV w' p q (fput k L V) r1 r2 r3 r4 (ftake k L V) u1 u2 → Ex2 p q w w' → wpList Tryz.prog ops Q rest (a.put o.dst (.tuple #[])) w') : wpList Tryz.prog ops Q (o :: rest) a w :=
  wpList_dyn hg x y t k hk _ _ ho hx hy ((fld_any k hk hf).mono fun _ w' ⟨he, r1, r2, r3, r4, u1, u2, h1, h2⟩ => ⟨he, h w' r1 r2 r3 r4 u1 u2 h1 h2⟩)
end Go.Proofs.YtagbfklcbekceaaGreatDoor

namespace Go.Proofs.YtagbfklcbekceaaGreatDoor
open Go.RowKit

theorem below_box2 (w : World) (o : Obj) : Below w.heap.size w (w.alloc o) := (Below.refl _ _).alloc (Nat.le_refl _) _
/-- a list not in block p -/
def OffP (p : Nat) (s : SlV) : Prop := ∀ ad, s.A = some ad → 0 < s.n → ad.block ≠ p
structure RdS (w : World) (p : Nat) (ps : List (Nat × Nat)) (A : Option Addr) (n c : Nat) (L : LV) (s1 s2 s3 s4 : SlV) (wr : World) : Prop where
  pw : w.heap.size ≤ p
  pl : p < wr.heap.size
  box : BoxF wr p 17 (lc L s1 s2 s3 s4)
  rd : LRead wr L s1 s2 s3 s4
  o1 : OffP p s1
  o2 : OffP p s2
  o3 : OffP p s3
  o4 : OffP p s4
  ps : PSl wr p A n c ps
  pa : ∀ ad, A = some ad → p < ad.block
  bel : Below w.heap.size w wr
  sz : LvSz L
section
variable {w wr w2 : World} {p : Nat} {ps : List (Nat × Nat)} {A : Option Addr} {n c : Nat} {L : LV} {s1 s2 s3 s4 : SlV}
theorem PSl.below (h : PSl wr p A n c ps) (hb : Below wr.heap.size wr w2) : PSl w2 p A n c ps := by
  refine ⟨h.1, h.2.1, h.2.2.1, fun hn => ?_⟩
  obtain ⟨b, e, hl, hc⟩ := h.2.2.2 hn
  exact ⟨b, e, Nat.lt_of_lt_of_le hl hb.size, fun j hj => ⟨(hb.cell (p := ⟨b, j * 2, none⟩) hl).trans (hc j hj).1, (hb.cell (p := ⟨b, j * 2 + 1, none⟩) hl).trans (hc j hj).2⟩⟩
theorem PSl.ex2 {q : Nat} (h : PSl wr p A n c ps) (g : Ex2 p q wr w2) (ha : ∀ ad, A = some ad → ad.block ≠ p ∧ ad.block ≠ q) : PSl w2 p A n c ps := by
  refine ⟨h.1, h.2.1, h.2.2.1, fun hn => ?_⟩
  obtain ⟨b, e, hl, hc⟩ := h.2.2.2 hn
  have := ha _ e
  exact ⟨b, e, Nat.lt_of_lt_of_le hl g.size, fun j hj => ⟨(g.cell (j * 2) hl this.1 this.2).trans (hc j hj).1, (g.cell (j * 2 + 1) hl this.1 this.2).trans (hc j hj).2⟩⟩
theorem RdS.keep (h : RdS w p ps A n c L s1 s2 s3 s4 wr) (hb : Below wr.heap.size wr w2) : RdS w p ps A n c L s1 s2 s3 s4 w2 :=
  ⟨h.pw, Nat.lt_of_lt_of_le h.pl hb.size, h.box.below (by omega) hb, ⟨h.rd.1.below hb, h.rd.2.1.below hb, h.rd.2.2.1.below hb, h.rd.2.2.2.below hb⟩, h.o1, h.o2, h.o3, h.o4, h.ps.below hb, h.pa, h.bel.trans (hb.mono h.bel.size), h.sz⟩
theorem lt_isl {k : IntKind} {s : SlV} {xs : List Int} (h : ISl wr k s.A s.n s.c xs) : ∀ ad, s.A = some ad → 0 < s.n → ad.block < wr.heap.size := fun ad he hn => by
  obtain ⟨b, off, e, hb, _⟩ := h.2.2.2 hn
  rw [he] at e
  cases e
  exact hb
/-- a value's box beside it: what a field's exchange asks -/
theorem RdS.fv (h : RdS w p ps A n c L s1 s2 s3 s4 wr) {q : Nat} {V : WV} {t1 t2 : SlV} (hq : p ≠ q) (hv : BoxF wr q 6 (vc V t1 t2)) (hr : VRead wr V t1 t2)
    (f1 : OffP q s1) (f2 : OffP q s2) (f3 : OffP q s3) (f4 : OffP q s4) (g1 : ∀ ad, t1.A = some ad → 0 < t1.n → ad.block ≠ p ∧ ad.block ≠ q) (g2 : ∀ ad, t2.A = some ad → 0 < t2.n → ad.block ≠ p ∧ ad.block ≠ q) : FV wr p q L s1 s2 s3 s4 V t1 t2 :=
  ⟨hq, h.box, hv, ⟨h.rd.1, fun ad e e2 => ⟨h.o1 ad e e2, f1 ad e e2⟩⟩, ⟨h.rd.2.1, fun ad e e2 => ⟨h.o2 ad e e2, f2 ad e e2⟩⟩, ⟨h.rd.2.2.1, fun ad e e2 => ⟨h.o3 ad e e2, f3 ad e e2⟩⟩, ⟨h.rd.2.2.2, fun ad e e2 => ⟨h.o4 ad e e2, f4 ad e e2⟩⟩, ⟨hr.1, g1⟩, ⟨hr.2, g2⟩⟩
/-- behind a field's exchange -/
theorem RdS.next (h : RdS w p ps A n c L s1 s2 s3 s4 wr) {q : Nat} {M : LV} {V : WV} {r1 r2 r3 r4 t1 t2 : SlV} (hq : w.heap.size ≤ q) (ha : ∀ ad, A = some ad → ad.block ≠ q) (hf : FV w2 p q M r1 r2 r3 r4 V t1 t2) (he : Ex2 p q wr w2) (hz : LvSz M) : RdS w p ps A n c M r1 r2 r3 r4 w2 :=
  ⟨h.pw, Nat.lt_of_lt_of_le h.pl he.size, hf.box, ⟨hf.l1.1, hf.l2.1, hf.l3.1, hf.l4.1⟩, fun ad e e2 => (hf.l1.2 ad e e2).1, fun ad e e2 => (hf.l2.2 ad e e2).1, fun ad e e2 => (hf.l3.2 ad e e2).1, fun ad e e2 => (hf.l4.2 ad e e2).1,
    h.ps.ex2 he (fun ad e => ⟨by have := h.pa ad e; omega, ha ad e⟩), h.pa, Below.ex2 h.bel he h.pw hq h.bel.size, hz⟩
end
theorem fput_sz {L : LV} {V : WV} (h : LvSz L) (hv : VOk V) (f : Nat) : LvSz (fput f L V) := by
  have h1 := h.txt
  have h2 := h.lst
  have h3 := hv.txt
  have h4 := hv.lst
  match f with
  | 0 => exact ⟨⟨h3, h1.2⟩, h2⟩
  | 1 => exact ⟨⟨h1.1, h3, h1.2.2⟩, h2⟩
  | 2 => exact ⟨⟨h1.1, h1.2.1, h3, h1.2.2.2⟩, h2⟩
  | 3 => exact ⟨⟨h1.1, h1.2.1, h1.2.2.1, h3, h1.2.2.2.2⟩, h2⟩
  | 4 => exact ⟨⟨h1.1, h1.2.1, h1.2.2.1, h1.2.2.2.1, h3⟩, h2⟩
  | 5 | 6 | 7 | 8 | 9 | 10 | 11 => exact ⟨h1, h2⟩
  | 12 => exact ⟨h1, ⟨h4.1, h2.2⟩⟩
  | 13 => exact ⟨h1, ⟨h2.1, h4.1, h2.2.2⟩⟩
  | 14 => exact ⟨h1, ⟨h2.1, h2.2.1, h4.1, h2.2.2.2⟩⟩
  | 15 => exact ⟨h1, ⟨h2.1, h2.2.1, h2.2.2.1, h4.2⟩⟩
  | f + 16 => exact ⟨h1, h2⟩
theorem vok_zero : VOk WV.zero := ⟨vo_t, vo_m, vo_a, vo_l⟩
theorem lsD_len {s : List UInt8} {hi : Int} (h : lsDB s hi = true) : (lsD s hi).length ≤ 1000000 := by
  rcases lsD_ok h with e | e
  · rw [e]; exact vo_l.1
  · exact ris_len2 e
theorem said_vok (k : Nat) (hk : k < 13) (s : List UInt8) (hs : s.length ≤ 1000000) (h : saidB k s = true) : VOk (saidV k s) := by
  match k, hk with
  | 0, _ => rw [saidV_plain rfl h]; exact vok_text hs
  | 1, _ => rw [saidV_plain rfl h]; exact vok_text hs
  | 2, _ => rw [saidV_plain rfl h]; exact vok_n _
  | 3, _ => rw [saidV_plain rfl h]; exact vok_n _
  | 4, _ => rw [saidV_plain rfl h]; exact vok_n _
  | 5, _ => rw [val5]; exact vok_n _
  | 6, _ => rw [saidV_plain rfl h]; exact vok_n _
  | 7, _ => rw [saidV_plain rfl h]; exact vok_mac s
  | 8, _ => rw [saidV_plain rfl h]; exact vok_addr s
  | 9, _ => rw [saidV_plain rfl h]; exact vok_pf s
  | 10, _ => rw [said10] at h; rw [val10]; exact ⟨vo_t, vo_m, vo_a, ⟨lsD_len h, Nat.zero_le _⟩⟩
  | 11, _ => rw [said11] at h; rw [val11]; exact ⟨vo_t, vo_m, vo_a, ⟨lsD_len h, Nat.zero_le _⟩⟩
  | 12, _ =>
    have h2 := h
    rw [said12, Bool.and_eq_true] at h2
    rw [saidV_plain rfl h]
    exact vok_addrs h2.1
  | k + 13, hk => exact absurd hk (by omega)
/-- parts that may be -/
def PsOk (ps : List (Nat × Nat)) : Prop := ps.length ≤ 6 ∧ ∀ x ∈ ps, x.1 < 13 ∧ x.2 < 16
theorem pts_ok (k : Int) (tg : Bool) : PsOk (pts k tg) :=
  pts_cases (P := PsOk) k tg (by unfold PsOk; decide) (by unfold PsOk; decide) (by unfold PsOk; decide) (by unfold PsOk; decide) (by unfold PsOk; decide) (by unfold PsOk; decide) (by unfold PsOk; decide) (by unfold PsOk; decide) (by unfold PsOk; decide) (by unfold PsOk; decide) (by unfold PsOk; decide)
theorem PsOk.at_ {ps : List (Nat × Nat)} (h : PsOk ps) (k : Nat) : (ps.getD k (0, 0)).1 < 13 ∧ (ps.getD k (0, 0)).2 < 16 := by
  rcases Nat.lt_or_ge k ps.length with e | e
  · rw [List.getD, List.getElem?_eq_getElem e]
    exact h.2 _ (List.getElem_mem e)
  · rw [List.getD, List.getElem?_eq_none e]
    decide
theorem runC_at {ps : List (Nat × Nat)} {ws : List (List UInt8)} {k : Nat} {L : LV} (h : k < ps.length) (g : k + 1 < ws.length) :
    runC (ps.drop k) (ws.drop (k + 1)) L = if saidB (ps.getD k (0, 0)).1 (wat ws (k + 1)) = true then runC (ps.drop (k + 1)) (ws.drop (k + 1 + 1)) (fput (ps.getD k (0, 0)).2 L (saidV (ps.getD k (0, 0)).1 (wat ws (k + 1)))) else (refE (ps.getD k (0, 0)).1, L) := by
  have e1 : ps.drop k = ps.getD k (0, 0) :: ps.drop (k + 1) := by rw [List.drop_eq_getElem_cons h]; simp [List.getD, List.getElem?_eq_getElem h]
  have e2 : ws.drop (k + 1) = wat ws (k + 1) :: ws.drop (k + 1 + 1) := by rw [List.drop_eq_getElem_cons g]; simp [wat, List.getD, List.getElem?_eq_getElem g]
  rw [e1, e2]
  obtain ⟨w, f⟩ := ps.getD k (0, 0)
  rw [runC]
theorem runC_end {ps : List (Nat × Nat)} {ws : List (List UInt8)} {k : Nat} {L : LV} (h : ps.length ≤ k) : runC (ps.drop k) ws L = (0, L) := by
  rw [List.drop_eq_nil_of_le h]
  cases ws <;> rfl
/-- six cells of a value's box stored -/
theorem val_stored {w : World} {q : Nat} {g : Nat → Value} (h : BoxF w q 6 g) (V : WV) (t1 t2 : SlV) : BoxF ((((((w.setCell ⟨q, 0, none⟩ (.string (str V.text))).setCell ⟨q, 1, none⟩ (.int .i64 V.n)).setCell ⟨q, 2, none⟩ (.int .u64 V.mac)).setCell ⟨q, 3, none⟩ (.int .u32 V.addr)).setCell ⟨q, 4, none⟩ (.slice t1.A t1.n t1.c)).setCell ⟨q, 5, none⟩ (.slice t2.A t2.n t2.c)) q 6 (vc V t1 t2) := by
  have H := (((((h.set 0 (by omega) (.string (str V.text))).set 1 (by omega) (.int .i64 V.n)).set 2 (by omega) (.int .u64 V.mac)).set 3 (by omega) (.int .u32 V.addr)).set 4 (by omega) (.slice t1.A t1.n t1.c)).set 5 (by omega) (.slice t2.A t2.n t2.c)
  exact H.is (fun i hi => match i, hi with | 0, _ | 1, _ | 2, _ | 3, _ | 4, _ | 5, _ => rfl | i + 6, h => absurd h (by omega))
theorem val_new (w : World) (V : WV) (t1 t2 : SlV) (T : TypeId) : BoxF (w.alloc (.cells #[.string (str V.text), .int .i64 V.n, .int .u64 V.mac, .int .u32 V.addr, .slice t1.A t1.n t1.c, .slice t2.A t2.n t2.c] T)) w.heap.size 6 (vc V t1 t2) := by
  refine ⟨fun j hj => ?_, fun o => by simp⟩
  match j, hj with
  | 0, _ | 1, _ | 2, _ | 3, _ | 4, _ | 5, _ => simp [vc, SlV.val]
  | j + 6, h => exact absurd h (by omega)
end Go.Proofs.YtagbfklcbekceaaGreatDoor

namespace Go.Proofs.YtagbfklcbekceaaGreatDoor
open Go.RowKit

theorem new_sz (row kind : Int) : LvSz (LV.new row kind) := ⟨⟨vo_t, vo_t, vo_t, vo_t, vo_t⟩, ⟨vo_l.1, vo_l.1, vo_l.1, vo_l.1⟩⟩
theorem alloc_fields (ρ : Operand → Value) (o : Oper) (ho : o.op = .alloc 68) (w : World) :
    (execOp ρ o).run Tryz.prog w = .ok (.value (.pointer (some ⟨w.heap.size, 0, none⟩))) (w.alloc (.cells #[.int .i64 0, .int .i64 0, .string ⟨#[]⟩, .string ⟨#[]⟩, .string ⟨#[]⟩, .string ⟨#[]⟩, .string ⟨#[]⟩, .int .u64 0, .int .u32 0, .int .i64 0, .int .i64 0, .int .i64 0, .int .i64 0, .slice none 0 0, .slice none 0 0, .slice none 0 0, .slice none 0 0] 68)) := by
  unfold execOp
  rw [ho]
  simp [Instr.alloc, newVar, newRow, go_sem]
theorem fields_size : (Tryz.prog.info? 68).map (·.size) = some 17 := by kernel_rfl
/-- a new box of fields, and a line stored into it -/
theorem wpList_newfields {ops : Array Oper} {rest : List Oper} {o1 o2 : Oper} {a : Act} {w : World} {Q : Exit → Act → World → Prop} (hg1 : o1.guard = none) (ho1 : o1.op = .alloc 68) (hg2 : o2.guard = none) (x y : Operand) (ho2 : o2.op = .store 68 x y)
    (hx : (a.put o1.dst (.pointer (some ⟨w.heap.size, 0, none⟩))).eval x = .pointer (some ⟨w.heap.size, 0, none⟩)) (L : LV) (s1 s2 s3 s4 : SlV) (hy : (a.put o1.dst (.pointer (some ⟨w.heap.size, 0, none⟩))).eval y = lineV L s1 s2 s3 s4)
    (h : ∀ w9, BoxF w9 w.heap.size 17 (lc L s1 s2 s3 s4) → Below w.heap.size w w9 → w.heap.size < w9.heap.size → wpList Tryz.prog ops Q rest ((a.put o1.dst (.pointer (some ⟨w.heap.size, 0, none⟩))).put o2.dst undef) w9) : wpList Tryz.prog ops Q (o1 :: o2 :: rest) a w := by
  obtain ⟨C, hC⟩ : ∃ C, lineV L s1 s2 s3 s4 = .agg C := ⟨_, rfl⟩
  have hs : C.size = 17 := by injection hC with hC; subst hC; rfl
  have h1 : C.all (·.oneCell') = true := by injection hC with hC; subst hC; simp [Value.oneCell']
  have hb := zero_box w 68
  refine Great.wpList_runTo hg1 o1.dst rfl _ _ (alloc_fields _ o1 ho1 w) (wpList_put hg2 68 x y ho2 w.heap.size hx C (hy.trans hC) (fun j hj => by rw [hb.1 j (by omega)]; rfl) hb.2 (by rw [hs]; exact fields_size) h1 fun w9 h2 h3 h4 => ?_)
  exact h w9 ⟨fun j hj => h2 j _ (lc_list L s1 s2 s3 s4 j hj C hC), h3⟩ (Below.ex ((Below.refl _ _).alloc (Nat.le_refl _) _) h4 (Nat.le_refl _) (by simp)) (Nat.lt_of_lt_of_le (by simp) h4.size)
/-- the loop begins -/
theorem rd_start {w wa w9 w1 : World} {row kind : Int} {ps : List (Nat × Nat)} {A : Option Addr} {n c : Nat} (hw : Below w.heap.size w wa) (hx : BoxF w9 (w.heap.size + 1) 17 (lc (LV.new row kind) SlV.nil SlV.nil SlV.nil SlV.nil)) (h9 : Below (w.heap.size + 1) wa w9) (hl : w.heap.size + 1 < w9.heap.size)
    (hb1 : Below w9.heap.size w9 w1) (hps : PSl w1 (w.heap.size + 1) A n c ps) (hpa : ∀ ad, A = some ad → w9.heap.size ≤ ad.block) : RdS w (w.heap.size + 1) ps A n c (LV.new row kind) SlV.nil SlV.nil SlV.nil SlV.nil w1 := by
  have hn : ∀ q, OffP q SlV.nil := fun q ad e => by cases e
  refine ⟨by omega, by have := hb1.size; omega, hx.below (by omega) hb1, ⟨ISl.nil, ISl.nil, ISl.nil, ISl.nil⟩, hn _, hn _, hn _, hn _, hps, fun ad e => by have := hpa ad e; omega, ?_, new_sz _ _⟩
  exact (hw.trans (h9.mono (by omega))).trans (hb1.mono (by omega))
theorem rd_sz (w : World) (o : Obj) : (w.alloc o).heap.size = w.heap.size + 1 := by simp
theorem vbox {wr w2 : World} {o : Obj} {T : TypeId} (hb : Below ((wr.alloc o).alloc (.cells #[.string ⟨#[]⟩, .int .i64 0, .int .u64 0, .int .u32 0, .slice none 0 0, .slice none 0 0] T)).drew.heap.size ((wr.alloc o).alloc (.cells #[.string ⟨#[]⟩, .int .i64 0, .int .u64 0, .int .u32 0, .slice none 0 0, .slice none 0 0] T)).drew w2) :
    BoxF w2 (wr.heap.size + 1) 6 (vc WV.zero SlV.nil SlV.nil) := by
  have hs : wr.heap.size + 1 < ((wr.alloc o).alloc (.cells #[.string ⟨#[]⟩, .int .i64 0, .int .u64 0, .int .u32 0, .slice none 0 0, .slice none 0 0] T)).heap.size := by simp
  have B : BoxF ((wr.alloc o).alloc (.cells #[.string ⟨#[]⟩, .int .i64 0, .int .u64 0, .int .u32 0, .slice none 0 0, .slice none 0 0] T)).drew (wr.heap.size + 1) 6 (vc WV.zero SlV.nil SlV.nil) := by
    have := (SV.start (wr.alloc o) T).box
    rw [rd_sz] at this
    exact this
  exact B.below (by omega) hb
/-- a value's box beside the line's, where it was made ahead of the call .. -/
theorem RdS.fvA {w wr w2 : World} {p : Nat} {ps : List (Nat × Nat)} {A : Option Addr} {n c : Nat} {L : LV} {s1 s2 s3 s4 : SlV} (h : RdS w p ps A n c L s1 s2 s3 s4 wr) {V : WV} {t1 t2 : SlV} {o : Obj} {T : TypeId}
    (hb : Below ((wr.alloc o).alloc (.cells #[.string ⟨#[]⟩, .int .i64 0, .int .u64 0, .int .u32 0, .slice none 0 0, .slice none 0 0] T)).drew.heap.size ((wr.alloc o).alloc (.cells #[.string ⟨#[]⟩, .int .i64 0, .int .u64 0, .int .u32 0, .slice none 0 0, .slice none 0 0] T)).drew w2)
    (hv : VRead w2 V t1 t2) (p1 : ∀ ad, t1.A = some ad → ((wr.alloc o).alloc (.cells #[.string ⟨#[]⟩, .int .i64 0, .int .u64 0, .int .u32 0, .slice none 0 0, .slice none 0 0] T)).drew.heap.size ≤ ad.block) (p2 : ∀ ad, t2.A = some ad → ((wr.alloc o).alloc (.cells #[.string ⟨#[]⟩, .int .i64 0, .int .u64 0, .int .u32 0, .slice none 0 0, .slice none 0 0] T)).drew.heap.size ≤ ad.block) :
    RdS w p ps A n c L s1 s2 s3 s4 ((((((w2.setCell ⟨wr.heap.size + 1, 0, none⟩ (.string (str V.text))).setCell ⟨wr.heap.size + 1, 1, none⟩ (.int .i64 V.n)).setCell ⟨wr.heap.size + 1, 2, none⟩ (.int .u64 V.mac)).setCell ⟨wr.heap.size + 1, 3, none⟩ (.int .u32 V.addr)).setCell ⟨wr.heap.size + 1, 4, none⟩ (.slice t1.A t1.n t1.c)).setCell ⟨wr.heap.size + 1, 5, none⟩ (.slice t2.A t2.n t2.c)) ∧
    FV ((((((w2.setCell ⟨wr.heap.size + 1, 0, none⟩ (.string (str V.text))).setCell ⟨wr.heap.size + 1, 1, none⟩ (.int .i64 V.n)).setCell ⟨wr.heap.size + 1, 2, none⟩ (.int .u64 V.mac)).setCell ⟨wr.heap.size + 1, 3, none⟩ (.int .u32 V.addr)).setCell ⟨wr.heap.size + 1, 4, none⟩ (.slice t1.A t1.n t1.c)).setCell ⟨wr.heap.size + 1, 5, none⟩ (.slice t2.A t2.n t2.c)) p (wr.heap.size + 1) L s1 s2 s3 s4 V t1 t2 ∧ Below wr.heap.size wr ((((((w2.setCell ⟨wr.heap.size + 1, 0, none⟩ (.string (str V.text))).setCell ⟨wr.heap.size + 1, 1, none⟩ (.int .i64 V.n)).setCell ⟨wr.heap.size + 1, 2, none⟩ (.int .u64 V.mac)).setCell ⟨wr.heap.size + 1, 3, none⟩ (.int .u32 V.addr)).setCell ⟨wr.heap.size + 1, 4, none⟩ (.slice t1.A t1.n t1.c)).setCell ⟨wr.heap.size + 1, 5, none⟩ (.slice t2.A t2.n t2.c)) ∧ wr.heap.size ≤ wr.heap.size + 1 := by
  have hs : ((wr.alloc o).alloc (.cells #[.string ⟨#[]⟩, .int .i64 0, .int .u64 0, .int .u32 0, .slice none 0 0, .slice none 0 0] T)).drew.heap.size = wr.heap.size + 2 := by show ((wr.alloc o).alloc _).heap.size = _; rw [rd_sz, rd_sz]
  have vb := vbox hb
  have B0 : Below wr.heap.size wr w2 := by
    have b1 : Below wr.heap.size wr ((wr.alloc o).alloc (.cells #[.string ⟨#[]⟩, .int .i64 0, .int .u64 0, .int .u32 0, .slice none 0 0, .slice none 0 0] T)) := two_alloc wr _ _
    have b2 : Below wr.heap.size wr ((wr.alloc o).alloc (.cells #[.string ⟨#[]⟩, .int .i64 0, .int .u64 0, .int .u32 0, .slice none 0 0, .slice none 0 0] T)).drew := ⟨b1.os, b1.tape, b1.output, b1.size, b1.block⟩
    exact b2.trans (hb.mono (by rw [hs]; omega))
  rw [hs] at p1 p2 hb
  have B6 : Below wr.heap.size wr ((((((w2.setCell ⟨wr.heap.size + 1, 0, none⟩ (.string (str V.text))).setCell ⟨wr.heap.size + 1, 1, none⟩ (.int .i64 V.n)).setCell ⟨wr.heap.size + 1, 2, none⟩ (.int .u64 V.mac)).setCell ⟨wr.heap.size + 1, 3, none⟩ (.int .u32 V.addr)).setCell ⟨wr.heap.size + 1, 4, none⟩ (.slice t1.A t1.n t1.c)).setCell ⟨wr.heap.size + 1, 5, none⟩ (.slice t2.A t2.n t2.c)) :=
    (((((B0.setCell (Nat.le_succ _) _).setCell (Nat.le_succ _) _).setCell (Nat.le_succ _) _).setCell (Nat.le_succ _) _).setCell (Nat.le_succ _) _).setCell (Nat.le_succ _) _
  have key : ∀ (k : IntKind) (s : SlV) (xs : List Int), ISl w2 k s.A s.n s.c xs → (∀ ad, s.A = some ad → wr.heap.size + 2 ≤ ad.block) → ISl ((((((w2.setCell ⟨wr.heap.size + 1, 0, none⟩ (.string (str V.text))).setCell ⟨wr.heap.size + 1, 1, none⟩ (.int .i64 V.n)).setCell ⟨wr.heap.size + 1, 2, none⟩ (.int .u64 V.mac)).setCell ⟨wr.heap.size + 1, 3, none⟩ (.int .u32 V.addr)).setCell ⟨wr.heap.size + 1, 4, none⟩ (.slice t1.A t1.n t1.c)).setCell ⟨wr.heap.size + 1, 5, none⟩ (.slice t2.A t2.n t2.c)) k s.A s.n s.c xs := fun k s xs hi ho => by
    have oo : ∀ ad, s.A = some ad → 0 < s.n → ad.block ≠ wr.heap.size + 1 := fun ad e _ => by have := ho ad e; omega
    exact (((((hi.setOff2 oo).setOff2 oo).setOff2 oo).setOff2 oo).setOff2 oo).setOff2 oo
  have R6 := h.keep B6
  have hlt : p < wr.heap.size := h.pl
  have off : ∀ (k : IntKind) (s : SlV) (xs : List Int), ISl wr k s.A s.n s.c xs → OffP (wr.heap.size + 1) s := fun k s xs hi ad e e2 => by have := lt_isl hi ad e e2; omega
  exact ⟨R6, R6.fv (by omega) (val_stored vb V t1 t2) ⟨key _ _ _ hv.1 p1, key _ _ _ hv.2 p2⟩ (off _ _ _ h.rd.1) (off _ _ _ h.rd.2.1) (off _ _ _ h.rd.2.2.1) (off _ _ _ h.rd.2.2.2) (fun ad e _ => by have := p1 ad e; omega) (fun ad e _ => by have := p2 ad e; omega), B6, Nat.le_succ _⟩
/-- .. or behind it -/
theorem RdS.fvB {w wr w2 : World} {p : Nat} {ps : List (Nat × Nat)} {A : Option Addr} {n c : Nat} {L : LV} {s1 s2 s3 s4 : SlV} (h : RdS w p ps A n c L s1 s2 s3 s4 wr) {V : WV} {t1 t2 : SlV} {o : Obj} {T : TypeId}
    (hb : Below (wr.alloc o).drew.heap.size (wr.alloc o).drew w2) (hv : VRead w2 V t1 t2) (p1 : ∀ ad, t1.A = some ad → (wr.alloc o).drew.heap.size ≤ ad.block) (p2 : ∀ ad, t2.A = some ad → (wr.alloc o).drew.heap.size ≤ ad.block) :
    RdS w p ps A n c L s1 s2 s3 s4 (w2.alloc (.cells #[.string (str V.text), .int .i64 V.n, .int .u64 V.mac, .int .u32 V.addr, .slice t1.A t1.n t1.c, .slice t2.A t2.n t2.c] T)) ∧
    FV (w2.alloc (.cells #[.string (str V.text), .int .i64 V.n, .int .u64 V.mac, .int .u32 V.addr, .slice t1.A t1.n t1.c, .slice t2.A t2.n t2.c] T)) p w2.heap.size L s1 s2 s3 s4 V t1 t2 ∧ Below wr.heap.size wr (w2.alloc (.cells #[.string (str V.text), .int .i64 V.n, .int .u64 V.mac, .int .u32 V.addr, .slice t1.A t1.n t1.c, .slice t2.A t2.n t2.c] T)) ∧ wr.heap.size ≤ w2.heap.size := by
  have hs : (wr.alloc o).drew.heap.size = wr.heap.size + 1 := by show (wr.alloc o).heap.size = _; rw [rd_sz]
  have B0 : Below wr.heap.size wr w2 := by
    have b1 : Below wr.heap.size wr (wr.alloc o) := below_box2 wr _
    have b2 : Below wr.heap.size wr (wr.alloc o).drew := ⟨b1.os, b1.tape, b1.output, b1.size, b1.block⟩
    exact b2.trans (hb.mono (by rw [hs]; omega))
  have R2 := h.keep B0
  have R6 := R2.keep (below_box2 w2 (.cells #[.string (str V.text), .int .i64 V.n, .int .u64 V.mac, .int .u32 V.addr, .slice t1.A t1.n t1.c, .slice t2.A t2.n t2.c] T))
  rw [hs] at p1 p2
  have hlt : p < wr.heap.size := h.pl
  have hsz := B0.size
  have off : ∀ (k : IntKind) (s : SlV) (xs : List Int), ISl w2 k s.A s.n s.c xs → OffP w2.heap.size s := fun k s xs hi ad e e2 => by have := lt_isl hi ad e e2; omega
  exact ⟨R6, R6.fv (by omega) (val_new w2 V t1 t2 T) ⟨hv.1.alloc _, hv.2.alloc _⟩ (off _ _ _ R2.rd.1) (off _ _ _ R2.rd.2.1) (off _ _ _ R2.rd.2.2.1) (off _ _ _ R2.rd.2.2.2) (fun ad e e2 => ⟨by have := p1 ad e; omega, by have := lt_isl hv.1 ad e e2; omega⟩) (fun ad e e2 => ⟨by have := p2 ad e; omega, by have := lt_isl hv.2 ad e e2; omega⟩), B0.trans ((below_box2 w2 _).mono hsz), hsz⟩
theorem lds_drew {W : World} (h : Lds W) : Lds W.drew := h
theorem said_form {k : Nat} {s : List UInt8} {V : WV} {sb : Bool} (hk : k < 13) (hs : s.length ≤ 1000000) (hV : saidV k s = V) (hb : saidB k s = sb) : ∀ w, Lds w → Calls Tryz.prog 35 #[.int .i64 (k : Int), .string (str s)] w fun e w' =>
    ∃ t1 t2 : SlV, e = .returned (.tuple #[.agg #[.string (str V.text), .int .i64 V.n, .int .u64 V.mac, .int .u32 V.addr, .slice t1.A t1.n t1.c, .slice t2.A t2.n t2.c], .bool sb]) ∧ VRead w' V t1 t2 ∧ Below w.heap.size w w' ∧ (∀ ad, t1.A = some ad → w.heap.size ≤ ad.block) ∧ ∀ ad, t2.A = some ad → w.heap.size ≤ ad.block := by
  subst hV hb
  exact fun w hl => said_any k hk s w hs hl
theorem BoxF.ex2 {w w' : World} {p q b n : Nat} {f : Nat → Value} (h : BoxF w b n f) (hn : 0 < n) (g : Ex2 p q w w') (hp : b ≠ p) (hq : b ≠ q) : BoxF w' b n f :=
  h.same (fun o => g.cell o (h.lt hn) hp hq) (fun o => g.frozen o (h.lt hn) hp hq)
set_option maxRecDepth 20000 in
set_option maxHeartbeats 2000000 in
theorem cread_results (tmps : Array Value) (w : World) (q : Nat) (E : Int) (L : LV) (s1 s2 s3 s4 : SlV) (h4 : tmps[4]?.getD undef = .pointer (some ⟨q, 0, none⟩)) (h5 : tmps[5]?.getD undef = .int .i64 E) (hb : BoxF w q 17 (lc L s1 s2 s3 s4)) :
    (results Tryz.f17 tmps).run Tryz.prog w = .ok (.tuple #[lineV L s1 s2 s3 s4, .int .i64 E]) w := by
  have t0 : w.cell? ⟨q, 0, none⟩ = some (.int .i64 L.row) := hb.cell 0 (by omega)
  have t1 : w.cell? ⟨q, 1, none⟩ = some (.int .i64 L.kind) := hb.cell 1 (by omega)
  have t2 : w.cell? ⟨q, 2, none⟩ = some (.string (str L.dev)) := hb.cell 2 (by omega)
  have t3 : w.cell? ⟨q, 3, none⟩ = some (.string (str L.port)) := hb.cell 3 (by omega)
  have t4 : w.cell? ⟨q, 4, none⟩ = some (.string (str L.peer)) := hb.cell 4 (by omega)
  have t5 : w.cell? ⟨q, 5, none⟩ = some (.string (str L.far)) := hb.cell 5 (by omega)
  have t6 : w.cell? ⟨q, 6, none⟩ = some (.string (str L.name)) := hb.cell 6 (by omega)
  have t7 : w.cell? ⟨q, 7, none⟩ = some (.int .u64 L.mac) := hb.cell 7 (by omega)
  have t8 : w.cell? ⟨q, 8, none⟩ = some (.int .u32 L.addr) := hb.cell 8 (by omega)
  have t9 : w.cell? ⟨q, 9, none⟩ = some (.int .i64 L.bits) := hb.cell 9 (by omega)
  have t10 : w.cell? ⟨q, 10, none⟩ = some (.int .i64 L.vlan) := hb.cell 10 (by omega)
  have t11 : w.cell? ⟨q, 11, none⟩ = some (.int .i64 L.num) := hb.cell 11 (by omega)
  have t12 : w.cell? ⟨q, 12, none⟩ = some (.int .i64 L.cost) := hb.cell 12 (by omega)
  have t13 : w.cell? ⟨q, 13, none⟩ = some (.slice s1.A s1.n s1.c) := hb.cell 13 (by omega)
  have t14 : w.cell? ⟨q, 14, none⟩ = some (.slice s2.A s2.n s2.c) := hb.cell 14 (by omega)
  have t15 : w.cell? ⟨q, 15, none⟩ = some (.slice s3.A s3.n s3.c) := hb.cell 15 (by omega)
  have t16 : w.cell? ⟨q, 16, none⟩ = some (.slice s4.A s4.n s4.c) := hb.cell 16 (by omega)
  clear hb
  simp [results, Tryz.results17, go_sem, h4, h5, t0, t1, t2, t3, t4, t5, t6, t7, t8, t9, t10, t11, t12, t13, t14, t15, t16, lineV]
theorem cd_of {ws : List (List UInt8)} {row : Int} (h : ¬ (ws = [] ∨ ptW ws = [] ∨ ws.length ≠ 1 + (ptW ws).length)) : cdE ws row = if (rnC ws row).1 = 0 then (if apB (rnC ws row).2 = true then 0 else 21) else (rnC ws row).1 := by
  unfold cdE
  rw [if_neg h]
/-- a zero line, as a call returns it */ -/
theorem got_zero {w w' : World} {E : Int} (h : Below w.heap.size w w') : GotLine w LV.zero E (.returned (.tuple #[lineV LV.zero SlV.nil SlV.nil SlV.nil SlV.nil, .int .i64 E])) w' := ⟨_, _, _, _, rfl, LRead.zero, LNew.nil _, h⟩
end Go.Proofs.YtagbfklcbekceaaGreatDoor

namespace Go.Proofs.YtagbfklcbekceaaGreatDoor
open Go.RowKit

set_option maxRecDepth 100000 in
set_option maxHeartbeats 4000000 in
theorem cread_nil (A : Option Addr) (c : Nat) (row : Int) (w : World) : Calls Tryz.prog 17 #[.slice A 0 c, .int .i64 row] w (GotLine w LV.zero 22) := by
  go_enter Tryz.func17, Tryz.ntmps17
  go_wp2
  exact bodyPost_ret (cread_results _ _ w.heap.size 22 LV.zero SlV.nil SlV.nil SlV.nil SlV.nil rfl rfl (zero_box w _)) rfl (got_zero (below_box2 w _))
set_option maxRecDepth 100000 in
set_option maxHeartbeats 4000000 in
theorem cread_no (A : Option Addr) (n c : Nat) (ws : List (List UInt8)) (row : Int) (w : World) (h : SSl w A n c ws) (hf : FsIs w) (h0 : 0 < n) (hno : ptW ws = [] ∨ n ≠ 1 + (ptW ws).length) :
    Calls Tryz.prog 17 #[.slice A n c, .int .i64 row] w (GotLine w LV.zero 22) := by
  obtain ⟨b, off, rfl, hb, hc⟩ := h.at_ h0
  have c0 : w.cell? ⟨b, off, none⟩ = some (.string (str (wat ws 0))) := hc 0 h0
  have hle := h.le
  have hcap := h.cap
  have H := Lib.hid h
  have HF := Lib.hid hf
  have d0 : ((n : Int) == 0) = false := by rw [beq_eq_false_iff_ne]; omega
  have OKP := Lib.hid (pts_ok (kdV (wat ws 0)) (tkB ws))
  obtain ⟨m, hm⟩ : ∃ m, (ptW ws).length = m := ⟨_, rfl⟩
  have HM := Lib.hid (show (pts (kdV (wat ws 0)) (tkB ws)).length = m from hm)
  have hm6 : m ≤ 6 := by have := OKP.out.1; have := HM.out; omega
  by_cases m0 : m = 0
  · have dm : ((m : Int) == 0) = true := by rw [m0]; rfl
    clear h hf hc hno hm m0
    go_enter Tryz.func17, Tryz.ntmps17
    go_wp2_with (first
      | (go_at_call 32; (with_reducible refine (ckind_any (wat ws 0) _ (HF.out.below (below_box2 _ _))).mono ?_); rintro e w1 ⟨rfl, rfl⟩)
      | ((with_reducible refine wpList_newfields ?hg1 ?ho1 ?hg2 (.tmp 6) (.tmp 22) ?ho2 ?hx (LV.new row (kdV (wat ws 0))) SlV.nil SlV.nil SlV.nil SlV.nil ?hy ?_); (case hg1 => rfl); (case ho1 => rfl); (case hg2 => rfl); (case ho2 => rfl); (case hx => rfl); (case hy => rfl); intro w9 bx9 bl9 lt9; rw [rd_sz] at bx9 bl9 lt9; have hb9 : b < w9.heap.size := (by omega); have W9 := Lib.hid (show Below w.heap.size w w9 from (below_box2 w _).trans (bl9.mono (by omega))))
      | (go_at_call 34; (with_reducible refine (tk_any _ n c ws _ (H.out.below W9.out)).mono ?_); rintro e w1 ⟨rfl, rfl⟩)
      | (go_at_call 33; (with_reducible refine (parts_any (kdV (wat ws 0)) _ _ _ (bx9.cell 1 (by omega))).mono ?_); rintro e w1 ⟨PA, pn, pc, rfl, hps, hb1, hpa⟩; have PN := (show pn = m from hps.1.symm.trans HM.out); subst PN; have Z1 := Lib.hid (show BoxF w1 w.heap.size 17 (lc LV.zero SlV.nil SlV.nil SlV.nil SlV.nil) from ((zero_box w 39).below (by omega) (by rw [rd_sz]; exact bl9)).below (by omega) hb1); have B1 := Lib.hid (show Below w.heap.size w w1 from W9.out.trans (hb1.mono W9.out.size)))
      | ((with_reducible refine wpList_line ?hg (.tmp 4) (.tmp 37) ?ho w.heap.size ?hx LV.zero SlV.nil SlV.nil SlV.nil SlV.nil ?hy (lc LV.zero SlV.nil SlV.nil SlV.nil SlV.nil) Z1.out ?_); (case hg => rfl); (case ho => rfl); (case hx => rfl); (case hy => rfl); intro w8 b8 e8))
    exact bodyPost_ret (cread_results _ _ w.heap.size 22 LV.zero SlV.nil SlV.nil SlV.nil SlV.nil rfl rfl b8) rfl (got_zero (Below.ex B1.out e8 (Nat.le_refl _) B1.out.size))
  · have dm : ((m : Int) == 0) = false := by rw [beq_eq_false_iff_ne]; omega
    have dn : ((n : Int) != 1 + (m : Int)) = true := by
      rcases hno with e | e
      · rw [e] at hm; exact absurd hm.symm m0
      · rw [hm] at e; simp; omega
    clear h hf hc hno hm m0
    go_enter Tryz.func17, Tryz.ntmps17
    go_wp2_with (first
      | (go_at_call 32; (with_reducible refine (ckind_any (wat ws 0) _ (HF.out.below (below_box2 _ _))).mono ?_); rintro e w1 ⟨rfl, rfl⟩)
      | ((with_reducible refine wpList_newfields ?hg1 ?ho1 ?hg2 (.tmp 6) (.tmp 22) ?ho2 ?hx (LV.new row (kdV (wat ws 0))) SlV.nil SlV.nil SlV.nil SlV.nil ?hy ?_); (case hg1 => rfl); (case ho1 => rfl); (case hg2 => rfl); (case ho2 => rfl); (case hx => rfl); (case hy => rfl); intro w9 bx9 bl9 lt9; rw [rd_sz] at bx9 bl9 lt9; have hb9 : b < w9.heap.size := (by omega); have W9 := Lib.hid (show Below w.heap.size w w9 from (below_box2 w _).trans (bl9.mono (by omega))))
      | (go_at_call 34; (with_reducible refine (tk_any _ n c ws _ (H.out.below W9.out)).mono ?_); rintro e w1 ⟨rfl, rfl⟩)
      | (go_at_call 33; (with_reducible refine (parts_any (kdV (wat ws 0)) _ _ _ (bx9.cell 1 (by omega))).mono ?_); rintro e w1 ⟨PA, pn, pc, rfl, hps, hb1, hpa⟩; have PN := (show pn = m from hps.1.symm.trans HM.out); subst PN; have Z1 := Lib.hid (show BoxF w1 w.heap.size 17 (lc LV.zero SlV.nil SlV.nil SlV.nil SlV.nil) from ((zero_box w 39).below (by omega) (by rw [rd_sz]; exact bl9)).below (by omega) hb1); have B1 := Lib.hid (show Below w.heap.size w w1 from W9.out.trans (hb1.mono W9.out.size)))
      | ((with_reducible refine wpList_line ?hg (.tmp 4) (.tmp 37) ?ho w.heap.size ?hx LV.zero SlV.nil SlV.nil SlV.nil SlV.nil ?hy (lc LV.zero SlV.nil SlV.nil SlV.nil SlV.nil) Z1.out ?_); (case hg => rfl); (case ho => rfl); (case hx => rfl); (case hy => rfl); intro w8 b8 e8))
    exact bodyPost_ret (cread_results _ _ w.heap.size 22 LV.zero SlV.nil SlV.nil SlV.nil SlV.nil rfl rfl b8) rfl (got_zero (Below.ex B1.out e8 (Nat.le_refl _) B1.out.size))
end Go.Proofs.YtagbfklcbekceaaGreatDoor
