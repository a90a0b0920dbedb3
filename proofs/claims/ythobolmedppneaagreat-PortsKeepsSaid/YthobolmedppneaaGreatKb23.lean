/- XStRdL; XStSameC1; XStSameC2 -/
import Derived.Test.YthobolmedppneaaGreatKb05
import Derived.Test.YthobolmedppneaaGreatKb19
import Derived.Test.YthobolmedppneaaGreatKb22
import Derived.Test.YthobolmedppneaaGreatKb20
import Derived.Deep.RegionWith
import Derived.WalkMore
import Derived.Laws.EntriesVeiled
import Derived.RegionTactic
/- A call of a function value that holds its receiver. What a loop over a line's parts keeps. What stands between stmt.Read's calls. The contract of stmt.Read, where the words are no line by their number. -/
namespace Go.Proofs.YthobolmedppneaaGreat
open Go.RowKit

theorem run_cf {P : Program} {f : FuncId} {fn : Func} {c : Code} (hf : P.funcs[f]? = some fn) (hname : (fn.name == "runtime.NumGoroutine") = false) (hb : fn.body = some c) (args : Array Value) (w : World) : (callFunc f args).run P w = .ok (.enter f args) w := by
  have h2 : ¬ fn.name = "runtime.NumGoroutine" := by simpa using hname
  unfold callFunc
  simp [go_sem, hf, h2, hb]
/-- a field's function is entered -/
theorem run_fnum (k : Nat) (hk : k < 16) (args : Array Value) (w : World) : (callFunc (fnum k) args).run Tryz.prog w = .ok (.enter (fnum k) args) w := by
  match k, hk with
  | 0, _ => exact run_cf Tryz.func134 (by kernel_rfl) rfl args w
  | 1, _ => exact run_cf Tryz.func137 (by kernel_rfl) rfl args w
  | 2, _ => exact run_cf Tryz.func142 (by kernel_rfl) rfl args w
  | 3, _ => exact run_cf Tryz.func143 (by kernel_rfl) rfl args w
  | 4, _ => exact run_cf Tryz.func146 (by kernel_rfl) rfl args w
  | 5, _ => exact run_cf Tryz.func139 (by kernel_rfl) rfl args w
  | 6, _ => exact run_cf Tryz.func135 (by kernel_rfl) rfl args w
  | 7, _ => exact run_cf Tryz.func140 (by kernel_rfl) rfl args w
  | 8, _ => exact run_cf Tryz.func138 (by kernel_rfl) rfl args w
  | 9, _ => exact run_cf Tryz.func136 (by kernel_rfl) rfl args w
  | 10, _ => exact run_cf Tryz.func144 (by kernel_rfl) rfl args w
  | 11, _ => exact run_cf Tryz.func149 (by kernel_rfl) rfl args w
  | 12, _ => exact run_cf Tryz.func141 (by kernel_rfl) rfl args w
  | 13, _ => exact run_cf Tryz.func147 (by kernel_rfl) rfl args w
  | 14, _ => exact run_cf Tryz.func148 (by kernel_rfl) rfl args w
  | 15, _ => exact run_cf Tryz.func145 (by kernel_rfl) rfl args w
  | k + 16, h => exact absurd h (by omega)
end Go.Proofs.YthobolmedppneaaGreat

namespace Go.Proofs.YthobolmedppneaaGreat
open Go.RowKit

theorem below_box2 (w : World) (o : Obj) : Below w.heap.size w (w.alloc o) := (Below.refl _ _).alloc (Nat.le_refl _) _
/-- a list not in block p -/
def OffP (p : Nat) (s : SlV) : Prop := ∀ ad, s.A = some ad → 0 < s.n → ad.block ≠ p
structure RdS (w : World) (p : Nat) (ps : List (Nat × Nat)) (A : Option Addr) (n c : Nat) (L : LV) (s1 s2 s3 s4 : SlV) (wr : World) : Prop where
  pw : w.heap.size ≤ p
  pl : p < wr.heap.size
  box : BoxF wr p 17 (lc L s1 s2 s3 s4)
  rd : LRead wr L s1 s2 s3 s4
  o1 : OffP p s1
  o2 : OffP p s2
  o3 : OffP p s3
  o4 : OffP p s4
  ps : PSl wr p A n c ps
  pa : ∀ ad, A = some ad → p < ad.block
  bel : Below w.heap.size w wr
  sz : LvSz L
section
variable {w wr w2 : World} {p : Nat} {ps : List (Nat × Nat)} {A : Option Addr} {n c : Nat} {L : LV} {s1 s2 s3 s4 : SlV}
theorem PSl.below (h : PSl wr p A n c ps) (hb : Below wr.heap.size wr w2) : PSl w2 p A n c ps := by
  refine ⟨h.1, h.2.1, h.2.2.1, fun hn => ?_⟩
  obtain ⟨b, e, hl, hc⟩ := h.2.2.2 hn
  exact ⟨b, e, Nat.lt_of_lt_of_le hl hb.size, fun j hj => ⟨(hb.cell (p := ⟨b, j * 2, none⟩) hl).trans (hc j hj).1, (hb.cell (p := ⟨b, j * 2 + 1, none⟩) hl).trans (hc j hj).2⟩⟩
theorem PSl.ex2 {q : Nat} (h : PSl wr p A n c ps) (g : Ex2 p q wr w2) (ha : ∀ ad, A = some ad → ad.block ≠ p ∧ ad.block ≠ q) : PSl w2 p A n c ps := by
  refine ⟨h.1, h.2.1, h.2.2.1, fun hn => ?_⟩
  obtain ⟨b, e, hl, hc⟩ := h.2.2.2 hn
  have := ha _ e
  exact ⟨b, e, Nat.lt_of_lt_of_le hl g.size, fun j hj => ⟨(g.cell (j * 2) hl this.1 this.2).trans (hc j hj).1, (g.cell (j * 2 + 1) hl this.1 this.2).trans (hc j hj).2⟩⟩
theorem RdS.keep (h : RdS w p ps A n c L s1 s2 s3 s4 wr) (hb : Below wr.heap.size wr w2) : RdS w p ps A n c L s1 s2 s3 s4 w2 :=
  ⟨h.pw, Nat.lt_of_lt_of_le h.pl hb.size, h.box.below (by omega) hb, ⟨h.rd.1.below hb, h.rd.2.1.below hb, h.rd.2.2.1.below hb, h.rd.2.2.2.below hb⟩, h.o1, h.o2, h.o3, h.o4, h.ps.below hb, h.pa, h.bel.trans (hb.mono h.bel.size), h.sz⟩
theorem lt_isl {k : IntKind} {s : SlV} {xs : List Int} (h : ISl wr k s.A s.n s.c xs) : ∀ ad, s.A = some ad → 0 < s.n → ad.block < wr.heap.size := fun ad he hn => by
  obtain ⟨b, off, e, hb, _⟩ := h.2.2.2 hn
  rw [he] at e
  cases e
  exact hb
/-- a value's box beside it: what a field's exchange asks -/
theorem RdS.fv (h : RdS w p ps A n c L s1 s2 s3 s4 wr) {q : Nat} {V : WV} {t1 t2 : SlV} (hq : p ≠ q) (hv : BoxF wr q 6 (vc V t1 t2)) (hr : VRead wr V t1 t2)
    (f1 : OffP q s1) (f2 : OffP q s2) (f3 : OffP q s3) (f4 : OffP q s4) (g1 : ∀ ad, t1.A = some ad → 0 < t1.n → ad.block ≠ p ∧ ad.block ≠ q) (g2 : ∀ ad, t2.A = some ad → 0 < t2.n → ad.block ≠ p ∧ ad.block ≠ q) : FV wr p q L s1 s2 s3 s4 V t1 t2 :=
  ⟨hq, h.box, hv, ⟨h.rd.1, fun ad e e2 => ⟨h.o1 ad e e2, f1 ad e e2⟩⟩, ⟨h.rd.2.1, fun ad e e2 => ⟨h.o2 ad e e2, f2 ad e e2⟩⟩, ⟨h.rd.2.2.1, fun ad e e2 => ⟨h.o3 ad e e2, f3 ad e e2⟩⟩, ⟨h.rd.2.2.2, fun ad e e2 => ⟨h.o4 ad e e2, f4 ad e e2⟩⟩, ⟨hr.1, g1⟩, ⟨hr.2, g2⟩⟩
/-- behind a field's exchange -/
theorem RdS.next (h : RdS w p ps A n c L s1 s2 s3 s4 wr) {q : Nat} {M : LV} {V : WV} {r1 r2 r3 r4 t1 t2 : SlV} (hq : w.heap.size ≤ q) (ha : ∀ ad, A = some ad → ad.block ≠ q) (hf : FV w2 p q M r1 r2 r3 r4 V t1 t2) (he : Ex2 p q wr w2) (hz : LvSz M) : RdS w p ps A n c M r1 r2 r3 r4 w2 :=
  ⟨h.pw, Nat.lt_of_lt_of_le h.pl he.size, hf.box, ⟨hf.l1.1, hf.l2.1, hf.l3.1, hf.l4.1⟩, fun ad e e2 => (hf.l1.2 ad e e2).1, fun ad e e2 => (hf.l2.2 ad e e2).1, fun ad e e2 => (hf.l3.2 ad e e2).1, fun ad e e2 => (hf.l4.2 ad e e2).1,
    h.ps.ex2 he (fun ad e => ⟨by have := h.pa ad e; omega, ha ad e⟩), h.pa, Below.ex2 h.bel he h.pw hq h.bel.size, hz⟩
end
theorem fput_sz {L : LV} {V : WV} (h : LvSz L) (hv : VOk V) (f : Nat) : LvSz (fput f L V) := by
  have h1 := h.txt
  have h2 := h.lst
  have h3 := hv.txt
  have h4 := hv.lst
  match f with
  | 0 => exact ⟨⟨h3, h1.2⟩, h2⟩
  | 1 => exact ⟨⟨h1.1, h3, h1.2.2⟩, h2⟩
  | 2 => exact ⟨⟨h1.1, h1.2.1, h3, h1.2.2.2⟩, h2⟩
  | 3 => exact ⟨⟨h1.1, h1.2.1, h1.2.2.1, h3, h1.2.2.2.2⟩, h2⟩
  | 4 => exact ⟨⟨h1.1, h1.2.1, h1.2.2.1, h1.2.2.2.1, h3⟩, h2⟩
  | 5 | 6 | 7 | 8 | 9 | 10 | 11 => exact ⟨h1, h2⟩
  | 12 => exact ⟨h1, ⟨h4.1, h2.2⟩⟩
  | 13 => exact ⟨h1, ⟨h2.1, h4.1, h2.2.2⟩⟩
  | 14 => exact ⟨h1, ⟨h2.1, h2.2.1, h4.1, h2.2.2.2⟩⟩
  | 15 => exact ⟨h1, ⟨h2.1, h2.2.1, h2.2.2.1, h4.2⟩⟩
  | f + 16 => exact ⟨h1, h2⟩
theorem vok_zero : VOk WV.zero := ⟨vo_t, vo_m, vo_a, vo_l⟩
/-- parts that may be -/
def PsOk (ps : List (Nat × Nat)) : Prop := ps.length ≤ 6 ∧ ∀ x ∈ ps, x.1 < 13 ∧ x.2 < 16
theorem pts_ok (k : Int) (tg : Bool) : PsOk (pts k tg) :=
  pts_cases (P := PsOk) k tg (by unfold PsOk; decide) (by unfold PsOk; decide) (by unfold PsOk; decide) (by unfold PsOk; decide) (by unfold PsOk; decide) (by unfold PsOk; decide) (by unfold PsOk; decide) (by unfold PsOk; decide) (by unfold PsOk; decide) (by unfold PsOk; decide) (by unfold PsOk; decide)
theorem PsOk.at_ {ps : List (Nat × Nat)} (h : PsOk ps) (k : Nat) : (ps.getD k (0, 0)).1 < 13 ∧ (ps.getD k (0, 0)).2 < 16 := by
  rcases Nat.lt_or_ge k ps.length with e | e
  · rw [List.getD, List.getElem?_eq_getElem e]
    exact h.2 _ (List.getElem_mem e)
  · rw [List.getD, List.getElem?_eq_none e]
    decide
end Go.Proofs.YthobolmedppneaaGreat

namespace Go.Proofs.YthobolmedppneaaGreat
open Go.RowKit

theorem alloc_fields (ρ : Operand → Value) (o : Oper) (ho : o.op = .alloc 137) (w : World) :
    (execOp ρ o).run Tryz.prog w = .ok (.value (.pointer (some ⟨w.heap.size, 0, none⟩))) (w.alloc (.cells #[.int .i64 0, .int .i64 0, .string ⟨#[]⟩, .string ⟨#[]⟩, .string ⟨#[]⟩, .string ⟨#[]⟩, .string ⟨#[]⟩, .int .u64 0, .int .u32 0, .int .i64 0, .int .i64 0, .int .i64 0, .int .i64 0, .slice none 0 0, .slice none 0 0, .slice none 0 0, .slice none 0 0] 137)) := by
  unfold execOp
  rw [ho]
  simp [Instr.alloc, newVar, newRow, go_sem]
theorem fields_size : (Tryz.prog.info? 137).map (·.size) = some 17 := by kernel_rfl
/-- a new box of fields, and a line stored into it -/
theorem wpList_newfields {ops : Array Oper} {rest : List Oper} {o1 o2 : Oper} {a : Act} {w : World} {Q : Exit → Act → World → Prop} (hg1 : o1.guard = none) (ho1 : o1.op = .alloc 137) (hg2 : o2.guard = none) (x y : Operand) (ho2 : o2.op = .store 137 x y)
    (hx : (a.put o1.dst (.pointer (some ⟨w.heap.size, 0, none⟩))).eval x = .pointer (some ⟨w.heap.size, 0, none⟩)) (L : LV) (s1 s2 s3 s4 : SlV) (hy : (a.put o1.dst (.pointer (some ⟨w.heap.size, 0, none⟩))).eval y = lineV L s1 s2 s3 s4)
    (h : ∀ w9, BoxF w9 w.heap.size 17 (lc L s1 s2 s3 s4) → Below w.heap.size w w9 → w.heap.size < w9.heap.size → wpList Tryz.prog ops Q rest ((a.put o1.dst (.pointer (some ⟨w.heap.size, 0, none⟩))).put o2.dst undef) w9) : wpList Tryz.prog ops Q (o1 :: o2 :: rest) a w := by
  obtain ⟨C, hC⟩ : ∃ C, lineV L s1 s2 s3 s4 = .agg C := ⟨_, rfl⟩
  have hs : C.size = 17 := by injection hC with hC; subst hC; rfl
  have h1 : C.all (·.oneCell') = true := by injection hC with hC; subst hC; simp [Value.oneCell']
  have hb := zero_box w 137
  refine Great.wpList_runTo hg1 o1.dst rfl _ _ (alloc_fields _ o1 ho1 w) (wpList_put hg2 137 x y ho2 w.heap.size hx C (hy.trans hC) (fun j hj => by rw [hb.1 j (by omega)]; rfl) hb.2 (by rw [hs]; exact fields_size) h1 fun w9 h2 h3 h4 => ?_)
  exact h w9 ⟨fun j hj => h2 j _ (lc_list L s1 s2 s3 s4 j hj C hC), h3⟩ (Below.ex ((Below.refl _ _).alloc (Nat.le_refl _) _) h4 (Nat.le_refl _) (by simp)) (Nat.lt_of_lt_of_le (by simp) h4.size)
theorem rd_sz (w : World) (o : Obj) : (w.alloc o).heap.size = w.heap.size + 1 := by simp
theorem BoxF.ex2 {w w' : World} {p q b n : Nat} {f : Nat → Value} (h : BoxF w b n f) (hn : 0 < n) (g : Ex2 p q w w') (hp : b ≠ p) (hq : b ≠ q) : BoxF w' b n f :=
  h.same (fun o => g.cell o (h.lt hn) hp hq) (fun o => g.frozen o (h.lt hn) hp hq)
end Go.Proofs.YthobolmedppneaaGreat

namespace Go.Proofs.YthobolmedppneaaGreat
open Go.RowKit

end Go.Proofs.YthobolmedppneaaGreat

/- Are two lines alike: the walk of stmt.Same, by the first place where they differ (made by mk-stsamec.py). -/
namespace Go.Proofs.YthobolmedppneaaGreat
open Go.RowKit

set_option maxRecDepth 100000 in
set_option maxHeartbeats 2000000 in
theorem cs_0 (f0 : Int) (g0 : Int) (f1 : Int) (g1 : Int) (f2 : List UInt8) (g2 : List UInt8) (f3 : List UInt8) (g3 : List UInt8) (f4 : List UInt8) (g4 : List UInt8) (f5 : List UInt8) (g5 : List UInt8) (f6 : List UInt8) (g6 : List UInt8) (f7 : Int) (g7 : Int) (f8 : Int) (g8 : Int) (f9 : Int) (g9 : Int) (f10 : Int) (g10 : Int) (f11 : Int) (g11 : Int) (f12 : Int) (g12 : Int) (s1 s2 s3 s4 t1 t2 t3 t4 : SlV) (w : World) (e : f0 ≠ g0) :
    Calls Tryz.prog 103 #[.agg #[.int .i64 f0, .int .i64 f1, .string (str f2), .string (str f3), .string (str f4), .string (str f5), .string (str f6), .int .u64 f7, .int .u32 f8, .int .i64 f9, .int .i64 f10, .int .i64 f11, .int .i64 f12, .slice s1.A s1.n s1.c, .slice s2.A s2.n s2.c, .slice s3.A s3.n s3.c, .slice s4.A s4.n s4.c], .agg #[.int .i64 g0, .int .i64 g1, .string (str g2), .string (str g3), .string (str g4), .string (str g5), .string (str g6), .int .u64 g7, .int .u32 g8, .int .i64 g9, .int .i64 g10, .int .i64 g11, .int .i64 g12, .slice t1.A t1.n t1.c, .slice t2.A t2.n t2.c, .slice t3.A t3.n t3.c, .slice t4.A t4.n t4.c]] w fun e w' => e = .returned (.bool false) ∧ Below w.heap.size w w' := by
  have d0 : (f0 == g0) = false := by rw [beq_eq_false_iff_ne]; exact e
  clear e
  go_enter Tryz.func103, Tryz.ntmps103
  go_wp2
  go_ret
  exact ⟨rfl, two_alloc _ _ _⟩
set_option maxRecDepth 100000 in
set_option maxHeartbeats 2000000 in
theorem cs_1 (f0 : Int) (f1 : Int) (g1 : Int) (f2 : List UInt8) (g2 : List UInt8) (f3 : List UInt8) (g3 : List UInt8) (f4 : List UInt8) (g4 : List UInt8) (f5 : List UInt8) (g5 : List UInt8) (f6 : List UInt8) (g6 : List UInt8) (f7 : Int) (g7 : Int) (f8 : Int) (g8 : Int) (f9 : Int) (g9 : Int) (f10 : Int) (g10 : Int) (f11 : Int) (g11 : Int) (f12 : Int) (g12 : Int) (s1 s2 s3 s4 t1 t2 t3 t4 : SlV) (w : World) (e : f1 ≠ g1) :
    Calls Tryz.prog 103 #[.agg #[.int .i64 f0, .int .i64 f1, .string (str f2), .string (str f3), .string (str f4), .string (str f5), .string (str f6), .int .u64 f7, .int .u32 f8, .int .i64 f9, .int .i64 f10, .int .i64 f11, .int .i64 f12, .slice s1.A s1.n s1.c, .slice s2.A s2.n s2.c, .slice s3.A s3.n s3.c, .slice s4.A s4.n s4.c], .agg #[.int .i64 f0, .int .i64 g1, .string (str g2), .string (str g3), .string (str g4), .string (str g5), .string (str g6), .int .u64 g7, .int .u32 g8, .int .i64 g9, .int .i64 g10, .int .i64 g11, .int .i64 g12, .slice t1.A t1.n t1.c, .slice t2.A t2.n t2.c, .slice t3.A t3.n t3.c, .slice t4.A t4.n t4.c]] w fun e w' => e = .returned (.bool false) ∧ Below w.heap.size w w' := by
  have d1 : (f1 == g1) = false := by rw [beq_eq_false_iff_ne]; exact e
  clear e
  go_enter Tryz.func103, Tryz.ntmps103
  go_wp2
  go_ret
  exact ⟨rfl, two_alloc _ _ _⟩
set_option maxRecDepth 100000 in
set_option maxHeartbeats 2000000 in
theorem cs_2 (f0 : Int) (f1 : Int) (f2 : List UInt8) (g2 : List UInt8) (f3 : List UInt8) (g3 : List UInt8) (f4 : List UInt8) (g4 : List UInt8) (f5 : List UInt8) (g5 : List UInt8) (f6 : List UInt8) (g6 : List UInt8) (f7 : Int) (g7 : Int) (f8 : Int) (g8 : Int) (f9 : Int) (g9 : Int) (f10 : Int) (g10 : Int) (f11 : Int) (g11 : Int) (f12 : Int) (g12 : Int) (s1 s2 s3 s4 t1 t2 t3 t4 : SlV) (w : World) (e : f2 ≠ g2) :
    Calls Tryz.prog 103 #[.agg #[.int .i64 f0, .int .i64 f1, .string (str f2), .string (str f3), .string (str f4), .string (str f5), .string (str f6), .int .u64 f7, .int .u32 f8, .int .i64 f9, .int .i64 f10, .int .i64 f11, .int .i64 f12, .slice s1.A s1.n s1.c, .slice s2.A s2.n s2.c, .slice s3.A s3.n s3.c, .slice s4.A s4.n s4.c], .agg #[.int .i64 f0, .int .i64 f1, .string (str g2), .string (str g3), .string (str g4), .string (str g5), .string (str g6), .int .u64 g7, .int .u32 g8, .int .i64 g9, .int .i64 g10, .int .i64 g11, .int .i64 g12, .slice t1.A t1.n t1.c, .slice t2.A t2.n t2.c, .slice t3.A t3.n t3.c, .slice t4.A t4.n t4.c]] w fun e w' => e = .returned (.bool false) ∧ Below w.heap.size w w' := by
  have d2 : (f2 == g2) = false := by rw [beq_eq_false_iff_ne]; exact e
  clear e
  go_enter Tryz.func103, Tryz.ntmps103
  go_wp2
  go_ret
  exact ⟨rfl, two_alloc _ _ _⟩
set_option maxRecDepth 100000 in
set_option maxHeartbeats 2000000 in
theorem cs_3 (f0 : Int) (f1 : Int) (f2 : List UInt8) (f3 : List UInt8) (g3 : List UInt8) (f4 : List UInt8) (g4 : List UInt8) (f5 : List UInt8) (g5 : List UInt8) (f6 : List UInt8) (g6 : List UInt8) (f7 : Int) (g7 : Int) (f8 : Int) (g8 : Int) (f9 : Int) (g9 : Int) (f10 : Int) (g10 : Int) (f11 : Int) (g11 : Int) (f12 : Int) (g12 : Int) (s1 s2 s3 s4 t1 t2 t3 t4 : SlV) (w : World) (e : f3 ≠ g3) :
    Calls Tryz.prog 103 #[.agg #[.int .i64 f0, .int .i64 f1, .string (str f2), .string (str f3), .string (str f4), .string (str f5), .string (str f6), .int .u64 f7, .int .u32 f8, .int .i64 f9, .int .i64 f10, .int .i64 f11, .int .i64 f12, .slice s1.A s1.n s1.c, .slice s2.A s2.n s2.c, .slice s3.A s3.n s3.c, .slice s4.A s4.n s4.c], .agg #[.int .i64 f0, .int .i64 f1, .string (str f2), .string (str g3), .string (str g4), .string (str g5), .string (str g6), .int .u64 g7, .int .u32 g8, .int .i64 g9, .int .i64 g10, .int .i64 g11, .int .i64 g12, .slice t1.A t1.n t1.c, .slice t2.A t2.n t2.c, .slice t3.A t3.n t3.c, .slice t4.A t4.n t4.c]] w fun e w' => e = .returned (.bool false) ∧ Below w.heap.size w w' := by
  have d2 : (f2 == f2) = true := beq_self_eq_true _
  have d3 : (f3 == g3) = false := by rw [beq_eq_false_iff_ne]; exact e
  clear e
  go_enter Tryz.func103, Tryz.ntmps103
  go_wp2
  go_ret
  exact ⟨rfl, two_alloc _ _ _⟩
set_option maxRecDepth 100000 in
set_option maxHeartbeats 2000000 in
theorem cs_4 (f0 : Int) (f1 : Int) (f2 : List UInt8) (f3 : List UInt8) (f4 : List UInt8) (g4 : List UInt8) (f5 : List UInt8) (g5 : List UInt8) (f6 : List UInt8) (g6 : List UInt8) (f7 : Int) (g7 : Int) (f8 : Int) (g8 : Int) (f9 : Int) (g9 : Int) (f10 : Int) (g10 : Int) (f11 : Int) (g11 : Int) (f12 : Int) (g12 : Int) (s1 s2 s3 s4 t1 t2 t3 t4 : SlV) (w : World) (e : f4 ≠ g4) :
    Calls Tryz.prog 103 #[.agg #[.int .i64 f0, .int .i64 f1, .string (str f2), .string (str f3), .string (str f4), .string (str f5), .string (str f6), .int .u64 f7, .int .u32 f8, .int .i64 f9, .int .i64 f10, .int .i64 f11, .int .i64 f12, .slice s1.A s1.n s1.c, .slice s2.A s2.n s2.c, .slice s3.A s3.n s3.c, .slice s4.A s4.n s4.c], .agg #[.int .i64 f0, .int .i64 f1, .string (str f2), .string (str f3), .string (str g4), .string (str g5), .string (str g6), .int .u64 g7, .int .u32 g8, .int .i64 g9, .int .i64 g10, .int .i64 g11, .int .i64 g12, .slice t1.A t1.n t1.c, .slice t2.A t2.n t2.c, .slice t3.A t3.n t3.c, .slice t4.A t4.n t4.c]] w fun e w' => e = .returned (.bool false) ∧ Below w.heap.size w w' := by
  have d2 : (f2 == f2) = true := beq_self_eq_true _
  have d3 : (f3 == f3) = true := beq_self_eq_true _
  have d4 : (f4 == g4) = false := by rw [beq_eq_false_iff_ne]; exact e
  clear e
  go_enter Tryz.func103, Tryz.ntmps103
  go_wp2
  go_ret
  exact ⟨rfl, two_alloc _ _ _⟩
set_option maxRecDepth 100000 in
set_option maxHeartbeats 2000000 in
theorem cs_5 (f0 : Int) (f1 : Int) (f2 : List UInt8) (f3 : List UInt8) (f4 : List UInt8) (f5 : List UInt8) (g5 : List UInt8) (f6 : List UInt8) (g6 : List UInt8) (f7 : Int) (g7 : Int) (f8 : Int) (g8 : Int) (f9 : Int) (g9 : Int) (f10 : Int) (g10 : Int) (f11 : Int) (g11 : Int) (f12 : Int) (g12 : Int) (s1 s2 s3 s4 t1 t2 t3 t4 : SlV) (w : World) (e : f5 ≠ g5) :
    Calls Tryz.prog 103 #[.agg #[.int .i64 f0, .int .i64 f1, .string (str f2), .string (str f3), .string (str f4), .string (str f5), .string (str f6), .int .u64 f7, .int .u32 f8, .int .i64 f9, .int .i64 f10, .int .i64 f11, .int .i64 f12, .slice s1.A s1.n s1.c, .slice s2.A s2.n s2.c, .slice s3.A s3.n s3.c, .slice s4.A s4.n s4.c], .agg #[.int .i64 f0, .int .i64 f1, .string (str f2), .string (str f3), .string (str f4), .string (str g5), .string (str g6), .int .u64 g7, .int .u32 g8, .int .i64 g9, .int .i64 g10, .int .i64 g11, .int .i64 g12, .slice t1.A t1.n t1.c, .slice t2.A t2.n t2.c, .slice t3.A t3.n t3.c, .slice t4.A t4.n t4.c]] w fun e w' => e = .returned (.bool false) ∧ Below w.heap.size w w' := by
  have d2 : (f2 == f2) = true := beq_self_eq_true _
  have d3 : (f3 == f3) = true := beq_self_eq_true _
  have d4 : (f4 == f4) = true := beq_self_eq_true _
  have d5 : (f5 == g5) = false := by rw [beq_eq_false_iff_ne]; exact e
  clear e
  go_enter Tryz.func103, Tryz.ntmps103
  go_wp2
  go_ret
  exact ⟨rfl, two_alloc _ _ _⟩
set_option maxRecDepth 100000 in
set_option maxHeartbeats 2000000 in
theorem cs_6 (f0 : Int) (f1 : Int) (f2 : List UInt8) (f3 : List UInt8) (f4 : List UInt8) (f5 : List UInt8) (f6 : List UInt8) (g6 : List UInt8) (f7 : Int) (g7 : Int) (f8 : Int) (g8 : Int) (f9 : Int) (g9 : Int) (f10 : Int) (g10 : Int) (f11 : Int) (g11 : Int) (f12 : Int) (g12 : Int) (s1 s2 s3 s4 t1 t2 t3 t4 : SlV) (w : World) (e : f6 ≠ g6) :
    Calls Tryz.prog 103 #[.agg #[.int .i64 f0, .int .i64 f1, .string (str f2), .string (str f3), .string (str f4), .string (str f5), .string (str f6), .int .u64 f7, .int .u32 f8, .int .i64 f9, .int .i64 f10, .int .i64 f11, .int .i64 f12, .slice s1.A s1.n s1.c, .slice s2.A s2.n s2.c, .slice s3.A s3.n s3.c, .slice s4.A s4.n s4.c], .agg #[.int .i64 f0, .int .i64 f1, .string (str f2), .string (str f3), .string (str f4), .string (str f5), .string (str g6), .int .u64 g7, .int .u32 g8, .int .i64 g9, .int .i64 g10, .int .i64 g11, .int .i64 g12, .slice t1.A t1.n t1.c, .slice t2.A t2.n t2.c, .slice t3.A t3.n t3.c, .slice t4.A t4.n t4.c]] w fun e w' => e = .returned (.bool false) ∧ Below w.heap.size w w' := by
  have d2 : (f2 == f2) = true := beq_self_eq_true _
  have d3 : (f3 == f3) = true := beq_self_eq_true _
  have d4 : (f4 == f4) = true := beq_self_eq_true _
  have d5 : (f5 == f5) = true := beq_self_eq_true _
  have d6 : (f6 == g6) = false := by rw [beq_eq_false_iff_ne]; exact e
  clear e
  go_enter Tryz.func103, Tryz.ntmps103
  go_wp2
  go_ret
  exact ⟨rfl, two_alloc _ _ _⟩
end Go.Proofs.YthobolmedppneaaGreat

/- Are two lines alike: the walk of stmt.Same, by the first place where they differ (made by mk-stsamec.py). -/
namespace Go.Proofs.YthobolmedppneaaGreat
open Go.RowKit

set_option maxRecDepth 100000 in
set_option maxHeartbeats 2000000 in
theorem cs_7 (f0 : Int) (f1 : Int) (f2 : List UInt8) (f3 : List UInt8) (f4 : List UInt8) (f5 : List UInt8) (f6 : List UInt8) (f7 : Int) (g7 : Int) (f8 : Int) (g8 : Int) (f9 : Int) (g9 : Int) (f10 : Int) (g10 : Int) (f11 : Int) (g11 : Int) (f12 : Int) (g12 : Int) (s1 s2 s3 s4 t1 t2 t3 t4 : SlV) (w : World) (e : f7 ≠ g7) :
    Calls Tryz.prog 103 #[.agg #[.int .i64 f0, .int .i64 f1, .string (str f2), .string (str f3), .string (str f4), .string (str f5), .string (str f6), .int .u64 f7, .int .u32 f8, .int .i64 f9, .int .i64 f10, .int .i64 f11, .int .i64 f12, .slice s1.A s1.n s1.c, .slice s2.A s2.n s2.c, .slice s3.A s3.n s3.c, .slice s4.A s4.n s4.c], .agg #[.int .i64 f0, .int .i64 f1, .string (str f2), .string (str f3), .string (str f4), .string (str f5), .string (str f6), .int .u64 g7, .int .u32 g8, .int .i64 g9, .int .i64 g10, .int .i64 g11, .int .i64 g12, .slice t1.A t1.n t1.c, .slice t2.A t2.n t2.c, .slice t3.A t3.n t3.c, .slice t4.A t4.n t4.c]] w fun e w' => e = .returned (.bool false) ∧ Below w.heap.size w w' := by
  have d2 : (f2 == f2) = true := beq_self_eq_true _
  have d3 : (f3 == f3) = true := beq_self_eq_true _
  have d4 : (f4 == f4) = true := beq_self_eq_true _
  have d5 : (f5 == f5) = true := beq_self_eq_true _
  have d6 : (f6 == f6) = true := beq_self_eq_true _
  have d7 : (f7 == g7) = false := by rw [beq_eq_false_iff_ne]; exact e
  clear e
  go_enter Tryz.func103, Tryz.ntmps103
  go_wp2
  go_ret
  exact ⟨rfl, two_alloc _ _ _⟩
set_option maxRecDepth 100000 in
set_option maxHeartbeats 2000000 in
theorem cs_8 (f0 : Int) (f1 : Int) (f2 : List UInt8) (f3 : List UInt8) (f4 : List UInt8) (f5 : List UInt8) (f6 : List UInt8) (f7 : Int) (f8 : Int) (g8 : Int) (f9 : Int) (g9 : Int) (f10 : Int) (g10 : Int) (f11 : Int) (g11 : Int) (f12 : Int) (g12 : Int) (s1 s2 s3 s4 t1 t2 t3 t4 : SlV) (w : World) (e : f8 ≠ g8) :
    Calls Tryz.prog 103 #[.agg #[.int .i64 f0, .int .i64 f1, .string (str f2), .string (str f3), .string (str f4), .string (str f5), .string (str f6), .int .u64 f7, .int .u32 f8, .int .i64 f9, .int .i64 f10, .int .i64 f11, .int .i64 f12, .slice s1.A s1.n s1.c, .slice s2.A s2.n s2.c, .slice s3.A s3.n s3.c, .slice s4.A s4.n s4.c], .agg #[.int .i64 f0, .int .i64 f1, .string (str f2), .string (str f3), .string (str f4), .string (str f5), .string (str f6), .int .u64 f7, .int .u32 g8, .int .i64 g9, .int .i64 g10, .int .i64 g11, .int .i64 g12, .slice t1.A t1.n t1.c, .slice t2.A t2.n t2.c, .slice t3.A t3.n t3.c, .slice t4.A t4.n t4.c]] w fun e w' => e = .returned (.bool false) ∧ Below w.heap.size w w' := by
  have d2 : (f2 == f2) = true := beq_self_eq_true _
  have d3 : (f3 == f3) = true := beq_self_eq_true _
  have d4 : (f4 == f4) = true := beq_self_eq_true _
  have d5 : (f5 == f5) = true := beq_self_eq_true _
  have d6 : (f6 == f6) = true := beq_self_eq_true _
  have d8 : (f8 == g8) = false := by rw [beq_eq_false_iff_ne]; exact e
  clear e
  go_enter Tryz.func103, Tryz.ntmps103
  go_wp2
  go_ret
  exact ⟨rfl, two_alloc _ _ _⟩
set_option maxRecDepth 100000 in
set_option maxHeartbeats 2000000 in
theorem cs_9 (f0 : Int) (f1 : Int) (f2 : List UInt8) (f3 : List UInt8) (f4 : List UInt8) (f5 : List UInt8) (f6 : List UInt8) (f7 : Int) (f8 : Int) (f9 : Int) (g9 : Int) (f10 : Int) (g10 : Int) (f11 : Int) (g11 : Int) (f12 : Int) (g12 : Int) (s1 s2 s3 s4 t1 t2 t3 t4 : SlV) (w : World) (e : f9 ≠ g9) :
    Calls Tryz.prog 103 #[.agg #[.int .i64 f0, .int .i64 f1, .string (str f2), .string (str f3), .string (str f4), .string (str f5), .string (str f6), .int .u64 f7, .int .u32 f8, .int .i64 f9, .int .i64 f10, .int .i64 f11, .int .i64 f12, .slice s1.A s1.n s1.c, .slice s2.A s2.n s2.c, .slice s3.A s3.n s3.c, .slice s4.A s4.n s4.c], .agg #[.int .i64 f0, .int .i64 f1, .string (str f2), .string (str f3), .string (str f4), .string (str f5), .string (str f6), .int .u64 f7, .int .u32 f8, .int .i64 g9, .int .i64 g10, .int .i64 g11, .int .i64 g12, .slice t1.A t1.n t1.c, .slice t2.A t2.n t2.c, .slice t3.A t3.n t3.c, .slice t4.A t4.n t4.c]] w fun e w' => e = .returned (.bool false) ∧ Below w.heap.size w w' := by
  have d2 : (f2 == f2) = true := beq_self_eq_true _
  have d3 : (f3 == f3) = true := beq_self_eq_true _
  have d4 : (f4 == f4) = true := beq_self_eq_true _
  have d5 : (f5 == f5) = true := beq_self_eq_true _
  have d6 : (f6 == f6) = true := beq_self_eq_true _
  have d9 : (f9 == g9) = false := by rw [beq_eq_false_iff_ne]; exact e
  clear e
  go_enter Tryz.func103, Tryz.ntmps103
  go_wp2
  go_ret
  exact ⟨rfl, two_alloc _ _ _⟩
set_option maxRecDepth 100000 in
set_option maxHeartbeats 2000000 in
theorem cs_10 (f0 : Int) (f1 : Int) (f2 : List UInt8) (f3 : List UInt8) (f4 : List UInt8) (f5 : List UInt8) (f6 : List UInt8) (f7 : Int) (f8 : Int) (f9 : Int) (f10 : Int) (g10 : Int) (f11 : Int) (g11 : Int) (f12 : Int) (g12 : Int) (s1 s2 s3 s4 t1 t2 t3 t4 : SlV) (w : World) (e : f10 ≠ g10) :
    Calls Tryz.prog 103 #[.agg #[.int .i64 f0, .int .i64 f1, .string (str f2), .string (str f3), .string (str f4), .string (str f5), .string (str f6), .int .u64 f7, .int .u32 f8, .int .i64 f9, .int .i64 f10, .int .i64 f11, .int .i64 f12, .slice s1.A s1.n s1.c, .slice s2.A s2.n s2.c, .slice s3.A s3.n s3.c, .slice s4.A s4.n s4.c], .agg #[.int .i64 f0, .int .i64 f1, .string (str f2), .string (str f3), .string (str f4), .string (str f5), .string (str f6), .int .u64 f7, .int .u32 f8, .int .i64 f9, .int .i64 g10, .int .i64 g11, .int .i64 g12, .slice t1.A t1.n t1.c, .slice t2.A t2.n t2.c, .slice t3.A t3.n t3.c, .slice t4.A t4.n t4.c]] w fun e w' => e = .returned (.bool false) ∧ Below w.heap.size w w' := by
  have d2 : (f2 == f2) = true := beq_self_eq_true _
  have d3 : (f3 == f3) = true := beq_self_eq_true _
  have d4 : (f4 == f4) = true := beq_self_eq_true _
  have d5 : (f5 == f5) = true := beq_self_eq_true _
  have d6 : (f6 == f6) = true := beq_self_eq_true _
  have d10 : (f10 == g10) = false := by rw [beq_eq_false_iff_ne]; exact e
  clear e
  go_enter Tryz.func103, Tryz.ntmps103
  go_wp2
  go_ret
  exact ⟨rfl, two_alloc _ _ _⟩
set_option maxRecDepth 100000 in
set_option maxHeartbeats 2000000 in
theorem cs_11 (f0 : Int) (f1 : Int) (f2 : List UInt8) (f3 : List UInt8) (f4 : List UInt8) (f5 : List UInt8) (f6 : List UInt8) (f7 : Int) (f8 : Int) (f9 : Int) (f10 : Int) (f11 : Int) (g11 : Int) (f12 : Int) (g12 : Int) (s1 s2 s3 s4 t1 t2 t3 t4 : SlV) (w : World) (e : f11 ≠ g11) :
    Calls Tryz.prog 103 #[.agg #[.int .i64 f0, .int .i64 f1, .string (str f2), .string (str f3), .string (str f4), .string (str f5), .string (str f6), .int .u64 f7, .int .u32 f8, .int .i64 f9, .int .i64 f10, .int .i64 f11, .int .i64 f12, .slice s1.A s1.n s1.c, .slice s2.A s2.n s2.c, .slice s3.A s3.n s3.c, .slice s4.A s4.n s4.c], .agg #[.int .i64 f0, .int .i64 f1, .string (str f2), .string (str f3), .string (str f4), .string (str f5), .string (str f6), .int .u64 f7, .int .u32 f8, .int .i64 f9, .int .i64 f10, .int .i64 g11, .int .i64 g12, .slice t1.A t1.n t1.c, .slice t2.A t2.n t2.c, .slice t3.A t3.n t3.c, .slice t4.A t4.n t4.c]] w fun e w' => e = .returned (.bool false) ∧ Below w.heap.size w w' := by
  have d2 : (f2 == f2) = true := beq_self_eq_true _
  have d3 : (f3 == f3) = true := beq_self_eq_true _
  have d4 : (f4 == f4) = true := beq_self_eq_true _
  have d5 : (f5 == f5) = true := beq_self_eq_true _
  have d6 : (f6 == f6) = true := beq_self_eq_true _
  have d11 : (f11 == g11) = false := by rw [beq_eq_false_iff_ne]; exact e
  clear e
  go_enter Tryz.func103, Tryz.ntmps103
  go_wp2
  go_ret
  exact ⟨rfl, two_alloc _ _ _⟩
set_option maxRecDepth 100000 in
set_option maxHeartbeats 2000000 in
theorem cs_12 (f0 : Int) (f1 : Int) (f2 : List UInt8) (f3 : List UInt8) (f4 : List UInt8) (f5 : List UInt8) (f6 : List UInt8) (f7 : Int) (f8 : Int) (f9 : Int) (f10 : Int) (f11 : Int) (f12 : Int) (g12 : Int) (s1 s2 s3 s4 t1 t2 t3 t4 : SlV) (w : World) (e : f12 ≠ g12) :
    Calls Tryz.prog 103 #[.agg #[.int .i64 f0, .int .i64 f1, .string (str f2), .string (str f3), .string (str f4), .string (str f5), .string (str f6), .int .u64 f7, .int .u32 f8, .int .i64 f9, .int .i64 f10, .int .i64 f11, .int .i64 f12, .slice s1.A s1.n s1.c, .slice s2.A s2.n s2.c, .slice s3.A s3.n s3.c, .slice s4.A s4.n s4.c], .agg #[.int .i64 f0, .int .i64 f1, .string (str f2), .string (str f3), .string (str f4), .string (str f5), .string (str f6), .int .u64 f7, .int .u32 f8, .int .i64 f9, .int .i64 f10, .int .i64 f11, .int .i64 g12, .slice t1.A t1.n t1.c, .slice t2.A t2.n t2.c, .slice t3.A t3.n t3.c, .slice t4.A t4.n t4.c]] w fun e w' => e = .returned (.bool false) ∧ Below w.heap.size w w' := by
  have d2 : (f2 == f2) = true := beq_self_eq_true _
  have d3 : (f3 == f3) = true := beq_self_eq_true _
  have d4 : (f4 == f4) = true := beq_self_eq_true _
  have d5 : (f5 == f5) = true := beq_self_eq_true _
  have d6 : (f6 == f6) = true := beq_self_eq_true _
  have d12 : (f12 == g12) = false := by rw [beq_eq_false_iff_ne]; exact e
  clear e
  go_enter Tryz.func103, Tryz.ntmps103
  go_wp2
  go_ret
  exact ⟨rfl, two_alloc _ _ _⟩
set_option maxRecDepth 100000 in
set_option maxHeartbeats 2000000 in
theorem cs_13 (f0 : Int) (f1 : Int) (f2 : List UInt8) (f3 : List UInt8) (f4 : List UInt8) (f5 : List UInt8) (f6 : List UInt8) (f7 : Int) (f8 : Int) (f9 : Int) (f10 : Int) (f11 : Int) (f12 : Int) (f13 : List Int) (g13 : List Int) (s1 s2 s3 s4 t1 t2 t3 t4 : SlV) (w : World) (h13 : ISl w .i64 s1.A s1.n s1.c f13) (k13 : ISl w .i64 t1.A t1.n t1.c g13) (e : f13 ≠ g13) :
    Calls Tryz.prog 103 #[.agg #[.int .i64 f0, .int .i64 f1, .string (str f2), .string (str f3), .string (str f4), .string (str f5), .string (str f6), .int .u64 f7, .int .u32 f8, .int .i64 f9, .int .i64 f10, .int .i64 f11, .int .i64 f12, .slice s1.A s1.n s1.c, .slice s2.A s2.n s2.c, .slice s3.A s3.n s3.c, .slice s4.A s4.n s4.c], .agg #[.int .i64 f0, .int .i64 f1, .string (str f2), .string (str f3), .string (str f4), .string (str f5), .string (str f6), .int .u64 f7, .int .u32 f8, .int .i64 f9, .int .i64 f10, .int .i64 f11, .int .i64 f12, .slice t1.A t1.n t1.c, .slice t2.A t2.n t2.c, .slice t3.A t3.n t3.c, .slice t4.A t4.n t4.c]] w fun e w' => e = .returned (.bool false) ∧ Below w.heap.size w w' := by
  have H13 := Lib.hid h13; have G13 := Lib.hid k13
  clear h13 k13
  have d2 : (f2 == f2) = true := beq_self_eq_true _
  have d3 : (f3 == f3) = true := beq_self_eq_true _
  have d4 : (f4 == f4) = true := beq_self_eq_true _
  have d5 : (f5 == f5) = true := beq_self_eq_true _
  have d6 : (f6 == f6) = true := beq_self_eq_true _
  have D13 := Lib.hid (show (f13 == g13) = false by rw [beq_eq_false_iff_ne]; exact e)
  clear e
  go_enter Tryz.func103, Tryz.ntmps103
  go_wp2_with (go_at_call 95; (with_reducible refine (eq_int s1 t1 f13 g13 _ ((H13.out.alloc _).alloc _) ((G13.out.alloc _).alloc _)).mono ?_); rintro e w13 ⟨rfl, m13, rfl⟩; rw [D13.out])
  go_ret
  exact ⟨rfl, below_drewN (two_alloc _ _ _) _⟩
end Go.Proofs.YthobolmedppneaaGreat

