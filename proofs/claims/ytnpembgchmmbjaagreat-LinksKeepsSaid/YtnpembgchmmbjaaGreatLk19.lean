/- XStRgt; XNoPutM; XLaMath -/
import Derived.Test.YtnpembgchmmbjaaGreatLk17
import Derived.Test.YtnpembgchmmbjaaGreatLk18
import Derived.Test.YtnpembgchmmbjaaGreatLk12
import Derived.Test.YtnpembgchmmbjaaGreatLk14
import Derived.Test.YtnpembgchmmbjaaGreatLk15
import Derived.Test.YtnpembgchmmbjaaGreatLk05
import Derived.Test.YtnpembgchmmbjaaGreatLk04
import Derived.WalkMore
import Derived.RegionTactic
/- May a line be: the contract of stmt.Right, of any line. -/
namespace Go.Proofs.YtnpembgchmmbjaaGreat
open Go.RowKit

/-- a line whose numbers may be taken out -/
structure LvM (L : LV) : Prop where
  sz : LvSz L
  mac : 0 ≤ L.mac ∧ L.mac < 18446744073709551616
  addr : 0 ≤ L.addr ∧ L.addr < 4294967296
theorem LvM.take {L : LV} (h : LvM L) (f : Nat) : VOk (ftake f L WV.zero) := by
  have t := h.sz.txt
  have l := h.sz.lst
  match f with
  | 0 => exact ⟨t.1, vo_m, vo_a, vo_l⟩
  | 1 => exact ⟨t.2.1, vo_m, vo_a, vo_l⟩
  | 2 => exact ⟨t.2.2.1, vo_m, vo_a, vo_l⟩
  | 3 => exact ⟨t.2.2.2.1, vo_m, vo_a, vo_l⟩
  | 4 => exact ⟨t.2.2.2.2, vo_m, vo_a, vo_l⟩
  | 5 => exact ⟨show ([116, 114, 117, 110, 107] : List UInt8).length ≤ 1000000 by decide, vo_m, vo_a, vo_l⟩
  | 6 | 7 | 8 => exact ⟨vo_t, vo_m, vo_a, vo_l⟩
  | 9 => exact ⟨vo_t, h.mac, vo_a, vo_l⟩
  | 10 => exact ⟨vo_t, vo_m, h.addr, vo_l⟩
  | 11 => exact ⟨vo_t, vo_m, h.addr, vo_l⟩
  | 12 => exact ⟨vo_t, vo_m, vo_a, ⟨l.1, vo_l.2⟩⟩
  | 13 => exact ⟨vo_t, vo_m, vo_a, ⟨l.2.1, vo_l.2⟩⟩
  | 14 => exact ⟨vo_t, vo_m, vo_a, ⟨l.2.2.1, vo_l.2⟩⟩
  | 15 => exact ⟨vo_t, vo_m, vo_a, ⟨vo_l.1, l.2.2.2⟩⟩
  | f + 16 => exact vok_zero
theorem rgRun_at {ps : List (Nat × Nat)} {k : Nat} {L : LV} (h : k < ps.length) :
    rgRun (ps.drop k) L = if mayB (ps.getD k (0, 0)).1 (ftake (ps.getD k (0, 0)).2 L WV.zero) = true then rgRun (ps.drop (k + 1)) (fput (ps.getD k (0, 0)).2 L WV.zero) else none := by
  have e1 : ps.drop k = ps.getD k (0, 0) :: ps.drop (k + 1) := by rw [List.drop_eq_getElem_cons h]; simp [List.getD, List.getElem?_eq_getElem h]
  rw [e1]
  obtain ⟨w, f⟩ := ps.getD k (0, 0)
  rw [rgRun]
/-- a value loaded whole -/
theorem wpList_valOf {ops : Array Oper} {rest : List Oper} {op : Oper} {a : Act} {w : World} {Q : Exit → Act → World → Prop} (hgd : op.guard = none) (x : Operand) (ho : op.op = .load 131 x)
    (p : Nat) (hx : a.eval x = .pointer (some ⟨p, 0, none⟩)) (V : WV) (t1 t2 : SlV) (hb : BoxF w p 6 (vc V t1 t2)) (h : wpList Tryz.prog ops Q rest (a.put op.dst (valV V t1 t2)) w) : wpList Tryz.prog ops Q (op :: rest) a w := by
  obtain ⟨d, hd1, hd2⟩ := val_desc
  exact wpList_load_mid hgd 131 x ho p 0 hx (valC V t1 t2) d hb.rangeV hd1 hd2 val_size h
/-- a zero value's box beside the line's -/
theorem RdZ.fvZ {Z : LV → Prop} {w wr : World} {p : Nat} {ps : List (Nat × Nat)} {A : Option Addr} {n c : Nat} {L : LV} {s1 s2 s3 s4 : SlV} (h : RdZ Z w p ps A n c L s1 s2 s3 s4 wr) (o : Obj) (T : TypeId) :
    RdZ Z w p ps A n c L s1 s2 s3 s4 ((wr.alloc o).alloc (.cells #[.string ⟨#[]⟩, .int .i64 0, .int .u64 0, .int .u32 0, .slice none 0 0, .slice none 0 0] T)) ∧
    FV ((wr.alloc o).alloc (.cells #[.string ⟨#[]⟩, .int .i64 0, .int .u64 0, .int .u32 0, .slice none 0 0, .slice none 0 0] T)) p (wr.heap.size + 1) L s1 s2 s3 s4 WV.zero SlV.nil SlV.nil ∧ Below wr.heap.size wr ((wr.alloc o).alloc (.cells #[.string ⟨#[]⟩, .int .i64 0, .int .u64 0, .int .u32 0, .slice none 0 0, .slice none 0 0] T)) := by
  have B := two_alloc wr o (.cells #[.string ⟨#[]⟩, .int .i64 0, .int .u64 0, .int .u32 0, .slice none 0 0, .slice none 0 0] T)
  have R6 := h.keep B
  have hlt : p < wr.heap.size := h.pl
  have vb := (SV.start (wr.alloc o) T).box
  rw [rd_sz] at vb
  have off : ∀ (k : IntKind) (s : SlV) (xs : List Int), ISl wr k s.A s.n s.c xs → OffP (wr.heap.size + 1) s := fun k s xs hi ad e e2 => by have := lt_isl hi ad e e2; omega
  exact ⟨R6, R6.fv (by omega) vb ⟨ISl.nil, ISl.nil⟩ (off _ _ _ h.rd.1) (off _ _ _ h.rd.2.1) (off _ _ _ h.rd.2.2.1) (off _ _ _ h.rd.2.2.2) (fun ad e => by cases e) (fun ad e => by cases e), B⟩
/-- what a line's own fields are: not too long -/
def LvF (ps : List (Nat × Nat)) (L : LV) : Prop := ∀ f, f ∈ ps.map (·.2) → VOk (ftake f L WV.zero)
def LvK (L : LV) : Prop := LvF (pts L.kind true) L
theorem fput_cases (f : Nat) (L : LV) : ((fput f L WV.zero).dev = L.dev ∨ (fput f L WV.zero).dev = []) ∧ ((fput f L WV.zero).port = L.port ∨ (fput f L WV.zero).port = []) ∧ ((fput f L WV.zero).peer = L.peer ∨ (fput f L WV.zero).peer = []) ∧ ((fput f L WV.zero).far = L.far ∨ (fput f L WV.zero).far = []) ∧ ((fput f L WV.zero).name = L.name ∨ (fput f L WV.zero).name = []) ∧ ((fput f L WV.zero).mac = L.mac ∨ (fput f L WV.zero).mac = 0) ∧ ((fput f L WV.zero).addr = L.addr ∨ (fput f L WV.zero).addr = 0) ∧ ((fput f L WV.zero).tagged = L.tagged ∨ (fput f L WV.zero).tagged = []) ∧ ((fput f L WV.zero).imports = L.imports ∨ (fput f L WV.zero).imports = []) ∧ ((fput f L WV.zero).exports = L.exports ∨ (fput f L WV.zero).exports = []) ∧ ((fput f L WV.zero).addrs = L.addrs ∨ (fput f L WV.zero).addrs = []) := by
  match f with
  | 0 | 1 | 2 | 3 | 4 | 5 | 6 | 7 | 8 | 9 | 10 | 11 | 12 | 13 | 14 | 15 => simp [fput, WV.zero]
  | f + 16 => simp [fput]
theorem vok_put {g : Nat} {L : LV} (f : Nat) (h : VOk (ftake g L WV.zero)) : VOk (ftake g (fput f L WV.zero) WV.zero) := by
  obtain ⟨c0, c1, c2, c3, c4, c5, c6, c7, c8, c9, c10⟩ := fput_cases f L
  have ht := h.txt
  have hm := h.mac
  have ha := h.addr
  have hl := h.lst
  match g with
  | 0 => exact ⟨by rcases c0 with e | e <;> rw [show (ftake 0 (fput f L WV.zero) WV.zero).text = _ from e] <;> first | exact ht | exact vo_t, vo_m, vo_a, vo_l⟩
  | 1 => exact ⟨by rcases c1 with e | e <;> rw [show (ftake 1 (fput f L WV.zero) WV.zero).text = _ from e] <;> first | exact ht | exact vo_t, vo_m, vo_a, vo_l⟩
  | 2 => exact ⟨by rcases c2 with e | e <;> rw [show (ftake 2 (fput f L WV.zero) WV.zero).text = _ from e] <;> first | exact ht | exact vo_t, vo_m, vo_a, vo_l⟩
  | 3 => exact ⟨by rcases c3 with e | e <;> rw [show (ftake 3 (fput f L WV.zero) WV.zero).text = _ from e] <;> first | exact ht | exact vo_t, vo_m, vo_a, vo_l⟩
  | 4 => exact ⟨by rcases c4 with e | e <;> rw [show (ftake 4 (fput f L WV.zero) WV.zero).text = _ from e] <;> first | exact ht | exact vo_t, vo_m, vo_a, vo_l⟩
  | 5 => exact ⟨ht, vo_m, vo_a, vo_l⟩
  | 6 | 7 | 8 => exact ⟨vo_t, vo_m, vo_a, vo_l⟩
  | 9 => exact ⟨vo_t, by rcases c5 with e | e <;> rw [show (ftake 9 (fput f L WV.zero) WV.zero).mac = _ from e] <;> first | exact hm | exact vo_m, vo_a, vo_l⟩
  | 10 => exact ⟨vo_t, vo_m, by rcases c6 with e | e <;> rw [show (ftake 10 (fput f L WV.zero) WV.zero).addr = _ from e] <;> first | exact ha | exact vo_a, vo_l⟩
  | 11 => exact ⟨vo_t, vo_m, by rcases c6 with e | e <;> rw [show (ftake 11 (fput f L WV.zero) WV.zero).addr = _ from e] <;> first | exact ha | exact vo_a, vo_l⟩
  | 12 => exact ⟨vo_t, vo_m, vo_a, by rcases c7 with e | e <;> rw [show (ftake 12 (fput f L WV.zero) WV.zero).list = _ from e] <;> first | exact ⟨hl.1, vo_l.2⟩ | exact vo_l⟩
  | 13 => exact ⟨vo_t, vo_m, vo_a, by rcases c8 with e | e <;> rw [show (ftake 13 (fput f L WV.zero) WV.zero).list = _ from e] <;> first | exact ⟨hl.1, vo_l.2⟩ | exact vo_l⟩
  | 14 => exact ⟨vo_t, vo_m, vo_a, by rcases c9 with e | e <;> rw [show (ftake 14 (fput f L WV.zero) WV.zero).list = _ from e] <;> first | exact ⟨hl.1, vo_l.2⟩ | exact vo_l⟩
  | 15 => exact ⟨vo_t, vo_m, vo_a, by rcases c10 with e | e <;> rw [show (ftake 15 (fput f L WV.zero) WV.zero).addrs = _ from e] <;> first | exact ⟨vo_l.1, hl.2⟩ | exact vo_l⟩
  | g + 16 => exact vok_zero
theorem LvF.put {ps : List (Nat × Nat)} {L : LV} (h : LvF ps L) (f : Nat) : LvF ps (fput f L WV.zero) := fun g hg => vok_put f (h g hg)
theorem LvF.take {ps : List (Nat × Nat)} {L : LV} (h : LvF ps L) {k : Nat} (hk : k < ps.length) {x : Nat × Nat} (e : ps.getD k (0, 0) = x) : VOk (ftake x.2 L WV.zero) := h _ (List.mem_map.2 ⟨x, by rw [← e]; simp [List.getD, hk], rfl⟩)
theorem rt_start {w wa w9 w1 : World} {L : LV} {s1 s2 s3 s4 : SlV} {ps : List (Nat × Nat)} {A : Option Addr} {n c : Nat} (hL : LRead w L s1 s2 s3 s4) (hw : Below w.heap.size w wa) (hx : BoxF w9 (w.heap.size + 1) 17 (lc L s1 s2 s3 s4)) (h9 : Below (w.heap.size + 1) wa w9) (hl : w.heap.size + 1 < w9.heap.size)
    (hb1 : Below w9.heap.size w9 w1) (hps : PSl w1 (w.heap.size + 1) A n c ps) (hpa : ∀ ad, A = some ad → w9.heap.size ≤ ad.block) : RdZ (fun _ => True) w (w.heap.size + 1) ps A n c L s1 s2 s3 s4 w1 := by
  have B : Below w.heap.size w w1 := (hw.trans (h9.mono (by omega))).trans (hb1.mono (by omega))
  have off : ∀ (k : IntKind) (s : SlV) (xs : List Int), ISl w k s.A s.n s.c xs → OffP (w.heap.size + 1) s := fun k s xs hi ad e e2 => by have := lt_isl hi ad e e2; omega
  exact ⟨by omega, by have := hb1.size; omega, hx.below (by omega) hb1, ⟨hL.1.below B, hL.2.1.below B, hL.2.2.1.below B, hL.2.2.2.below B⟩, off _ _ _ hL.1, off _ _ _ hL.2.1, off _ _ _ hL.2.2.1, off _ _ _ hL.2.2.2, hps, fun ad e => by have := hpa ad e; omega, B, trivial⟩
set_option maxRecDepth 100000 in
set_option maxHeartbeats 8000000 in
theorem cright_k (L : LV) (s1 s2 s3 s4 : SlV) (w : World) (h : LRead w L s1 s2 s3 s4) (hL : LvK L) :
    Calls Tryz.prog 20 #[lineV L s1 s2 s3 s4] w fun e w' => e = .returned (.bool (rgB L)) ∧ Below w.heap.size w w' := by
  have H := Lib.hid h
  have LM := Lib.hid (show LvF (pts L.kind true) L from hL)
  have P0 := Lib.hid (fun T => line_boxed w L s1 s2 s3 s4 T)
  have OKP := Lib.hid (pts_ok L.kind true)
  obtain ⟨rb, hrb⟩ : ∃ rb, rgB L = rb := ⟨_, rfl⟩
  have RB := Lib.hid hrb
  rw [hrb]
  clear h hL hrb
  rw [show lineV L s1 s2 s3 s4 = .agg #[.int .i64 L.row, .int .i64 L.kind, .string (str L.dev), .string (str L.port), .string (str L.peer), .string (str L.far), .string (str L.name), .int .u64 L.mac, .int .u32 L.addr, .int .i64 L.bits, .int .i64 L.vlan, .int .i64 L.num, .int .i64 L.cost, .slice s1.A s1.n s1.c, .slice s2.A s2.n s2.c, .slice s3.A s3.n s3.c, .slice s4.A s4.n s4.c] from rfl]
  go_enter Tryz.func20, Tryz.ntmps20
  go_wp2_with (first
    | ((with_reducible refine wpList_lineOf ?hg (.tmp 1) ?ho w.heap.size ?hx L s1 s2 s3 s4 (P0.out _) ?_); (case hg => rfl); (case ho => rfl); (case hx => rfl); simp only [lineV])
    | ((with_reducible refine wpList_newfields ?hg1 ?ho1 ?hg2 (.tmp 3) (.tmp 9) ?ho2 ?hx L s1 s2 s3 s4 ?hy ?_); (case hg1 => rfl); (case ho1 => rfl); (case hg2 => rfl); (case ho2 => rfl); (case hx => rfl); (case hy => rfl); intro w9 bx9 bl9 lt9; rw [rd_sz] at bx9 bl9 lt9)
    | (go_at_call 70; (with_reducible refine (parts_any L.kind _ _ _ (bx9.cell 1 (by omega))).mono ?_); rintro e w1 ⟨PA, pn, pc, rfl, hps, hb1, hpa⟩))
  have R1 := Lib.hid (rt_start H.out (below_box2 w _) bx9 bl9 lt9 hb1 hps hpa)
  have PN := Lib.hid hps.1
  have hp6 : pn ≤ 6 := by have := OKP.out.1; have := PN.out; omega
  have Z1 := Lib.hid (((P0.out 37).below (by omega) (by rw [rd_sz]; exact bl9)).below (by omega) hb1)
  generalize hP : pts L.kind true = ps at *
  have PW := Lib.hid hP
  clear hP hps hpa hb1 bx9 bl9 lt9
  go_loopw [13] (fun i wr => ∃ (k : Nat) (M : LV) (r1 r2 r3 r4 : SlV), k ≤ pn ∧ i = .int .i64 (k : Int) ∧ rgRun ps L = rgRun (ps.drop k) M ∧ RdZ (fun _ => True) w (w.heap.size + 1) ps PA pn pc M r1 r2 r3 r4 wr ∧ LvF ps M ∧ BoxF wr w.heap.size 17 (lc L s1 s2 s3 s4)) (fun i _ => pn - (intOf i).toNat)
  case atStart => exact ⟨0, L, s1, s2, s3, s4, by omega, rfl, rfl, R1.out, LM.out, Z1.out⟩
  case round =>
    obtain ⟨k, M, r1, r2, r3, r4, hk, rfl, hrun, hR, hM, hZ⟩ := hrel
    have RR := Lib.hid hR
    have ZZ := Lib.hid hZ
    have MM := Lib.hid hM
    have RUN := Lib.hid hrun
    clear hR hZ hM hrun
    by_cases hlt : k < pn
    · obtain ⟨bp, rfl, hbp, hpc⟩ := RR.out.ps.2.2.2 (by omega)
      obtain ⟨x0, x1⟩ := hpc k hlt
      have N := Lib.hid (rgRun_at (ps := ps) (k := k) (L := M) (by rw [PN.out]; exact hlt))
      have OK := Lib.hid (OKP.out.at_ k)
      obtain ⟨x, hx⟩ : ∃ x, ps.getD k (0, 0) = x := ⟨_, rfl⟩
      have VT0 := MM.out.take (by rw [PN.out]; exact hlt) hx
      rw [hx] at x0 x1 N OK
      obtain ⟨wk, fk⟩ := x
      clear hpc hx
      dsimp only at x0 x1 N OK VT0
      unfold fval at x1
      have RC := run_fnum fk OK.out.2
      have FZ := Lib.hid (RR.out.fvZ (.cells #[.int .i64 (wk : Int), .func (.func (fnum fk)) #[.pointer (some ⟨w.heap.size + 1, 0, none⟩)] #[]] 129) 131)
      have VT := Lib.hid VT0
      obtain ⟨mb, hmb⟩ : ∃ mb, mayB wk (ftake fk M WV.zero) = mb := ⟨_, rfl⟩
      have MB := Lib.hid hmb
      have CM := Lib.hid (fun t1 t2 w h => may_any wk OK.out.1 (ftake fk M WV.zero) t1 t2 w VT.out h)
      cases mb with
      | true =>
        have N2 := Lib.hid (show rgRun ps L = rgRun (ps.drop (k + 1)) (fput fk M WV.zero) by rw [RUN.out, N.out, if_pos hmb])
        clear hmb N RUN
        go_wp2_with (first
          | ((with_reducible refine (fld_any fk OK.out.2 FZ.out.2.1).mono ?_); rintro e w3 ⟨rfl, q1, q2, q3, q4, u1, u2, F7, E7⟩; have R7 := Lib.hid (FZ.out.1.next (by have := RR.out.bel.size; omega) (fun ad e => by cases e; show bp ≠ _; omega) F7 E7 trivial); have Z7 := Lib.hid ((ZZ.out.below (by omega) FZ.out.2.2).ex2 (by omega) E7 (by omega) (by have := RR.out.pl; omega)); have V7 := Lib.hid F7; have VR := Lib.hid (show VRead w3 (ftake fk M WV.zero) u1 u2 from ⟨F7.v1.1, F7.v2.1⟩); have x7 : w3.cell? ⟨wr.heap.size, 0, none⟩ = some (.int .i64 (wk : Int)) := ((E7.cell 0 (by simp; omega) (by have := RR.out.pl; omega) (by omega)).trans (by simp)); clear F7 E7)
          | ((with_reducible refine wpList_valOf ?hg (.tmp 7) ?ho (wr.heap.size + 1) ?hx (ftake fk M WV.zero) u1 u2 V7.out.val ?_); (case hg => rfl); (case ho => rfl); (case hx => rfl))
          | (go_at_call 71; (with_reducible refine (CM.out u1 u2 _ VR.out).mono ?_); rintro e w5 ⟨rfl, hb5⟩; rw [MB.out]; have R8 := Lib.hid (R7.out.keep hb5); have Z8 := Lib.hid (Z7.out.below (by omega) hb5)))
        go_roundw
        case rel => exact ⟨k + 1, fput fk M WV.zero, q1, q2, q3, q4, by omega, by go_num, N2.out, R8.out, MM.out.put fk, Z8.out⟩
        case measure => simp [intOf]; omega
      | false =>
        have N2 := Lib.hid (show rb = false by rw [← RB.out, rgB_none (by rw [PW.out, RUN.out, N.out, if_neg (by rw [hmb]; decide)])])
        clear hmb N RUN
        go_wp2_with (first
          | ((with_reducible refine (fld_any fk OK.out.2 FZ.out.2.1).mono ?_); rintro e w3 ⟨rfl, q1, q2, q3, q4, u1, u2, F7, E7⟩; have R7 := Lib.hid (FZ.out.1.next (by have := RR.out.bel.size; omega) (fun ad e => by cases e; show bp ≠ _; omega) F7 E7 trivial); have V7 := Lib.hid F7; have VR := Lib.hid (show VRead w3 (ftake fk M WV.zero) u1 u2 from ⟨F7.v1.1, F7.v2.1⟩); have x7 : w3.cell? ⟨wr.heap.size, 0, none⟩ = some (.int .i64 (wk : Int)) := ((E7.cell 0 (by simp; omega) (by have := RR.out.pl; omega) (by omega)).trans (by simp)); clear F7 E7)
          | ((with_reducible refine wpList_valOf ?hg (.tmp 7) ?ho (wr.heap.size + 1) ?hx (ftake fk M WV.zero) u1 u2 V7.out.val ?_); (case hg => rfl); (case ho => rfl); (case hx => rfl))
          | (go_at_call 71; (with_reducible refine (CM.out u1 u2 _ VR.out).mono ?_); rintro e w5 ⟨rfl, hb5⟩; rw [MB.out]; have R8 := Lib.hid (R7.out.keep hb5)))
        go_ret
        exact ⟨by rw [N2.out]; rfl, R8.out.bel⟩
    · obtain rfl : k = pn := by omega
      have RM := Lib.hid (show rgRun (pts L.kind true) L = some M by rw [PW.out, RUN.out, List.drop_eq_nil_of_le (by rw [PN.out]; exact Nat.le_refl _)]; rfl)
      have RE := Lib.hid (show rb = ((decide (0 < k) && apB L) && sameB M (LV.new L.row L.kind)) by rw [← RB.out, rgB_some RM.out, PW.out, PN.out])
      clear RUN
      by_cases p0 : 0 < k
      rotate_left
      · obtain rfl : k = 0 := by omega
        have R0 := Lib.hid (show rb = false by rw [RE.out]; rfl)
        go_wp2
        go_ret
        exact ⟨by rw [R0.out]; rfl, RR.out.bel⟩
      · have p1 : (0 : Int) < (k : Int) := by omega
        have CA := Lib.hid (fun w h => apart_any L s1 s2 s3 s4 w h)
        have LR := Lib.hid (show LRead wr L s1 s2 s3 s4 from ⟨H.out.1.below RR.out.bel, H.out.2.1.below RR.out.bel, H.out.2.2.1.below RR.out.bel, H.out.2.2.2.below RR.out.bel⟩)
        obtain ⟨ap, hap⟩ : ∃ ap, apB L = ap := ⟨_, rfl⟩
        have AP := Lib.hid hap
        have RE2 := Lib.hid (show rb = (ap && sameB M (LV.new L.row L.kind)) by rw [RE.out, hap, decide_eq_true p0, Bool.true_and])
        clear hap
        cases ap with
        | false =>
          go_wp2_with (first
            | ((with_reducible refine wpList_lineOf ?hg (.tmp 1) ?ho w.heap.size ?hx L s1 s2 s3 s4 ZZ.out ?_); (case hg => rfl); (case ho => rfl); (case hx => rfl))
            | (go_at_call 72; (with_reducible refine (CA.out _ LR.out).mono ?_); rintro e w5 ⟨rfl, hb5⟩; rw [AP.out]))
          go_ret
          exact ⟨by rw [RE2.out]; rfl, RR.out.bel.trans (hb5.mono RR.out.bel.size)⟩
        | true =>
          have CS := Lib.hid (show ∀ w, LRead w M r1 r2 r3 r4 → Calls Tryz.prog 73 #[lineV M r1 r2 r3 r4, .agg #[.int .i64 L.row, .int .i64 L.kind, .string ⟨#[]⟩, .string ⟨#[]⟩, .string ⟨#[]⟩, .string ⟨#[]⟩, .string ⟨#[]⟩, .int .u64 0, .int .u32 0, .int .i64 0, .int .i64 0, .int .i64 0, .int .i64 0, .slice none 0 0, .slice none 0 0, .slice none 0 0, .slice none 0 0]] w fun e w' => e = .returned (.bool (sameB M (LV.new L.row L.kind))) ∧ Below w.heap.size w w' from
            fun w h => csame_any M (LV.new L.row L.kind) r1 r2 r3 r4 SlV.nil SlV.nil SlV.nil SlV.nil w h ⟨ISl.nil, ISl.nil, ISl.nil, ISl.nil⟩)
          go_wp2_with (first
            | ((with_reducible refine wpList_lineOf ?hg (.tmp 1) ?ho w.heap.size ?hx L s1 s2 s3 s4 ZZ.out ?_); (case hg => rfl); (case ho => rfl); (case hx => rfl))
            | (go_at_call 72; (with_reducible refine (CA.out _ LR.out).mono ?_); rintro e w5 ⟨rfl, hb5⟩; rw [AP.out]; have R5 := Lib.hid (RR.out.keep hb5); have Z5 := Lib.hid (ZZ.out.below (by omega) hb5); have z0 : w5.cell? ⟨w.heap.size, 0, none⟩ = some (.int .i64 L.row) := Z5.out.cell 0 (by omega); have z1 : w5.cell? ⟨w.heap.size, 1, none⟩ = some (.int .i64 L.kind) := Z5.out.cell 1 (by omega))
            | ((with_reducible refine wpList_lineOf ?hg (.tmp 34) ?ho (w.heap.size + 1) ?hx M r1 r2 r3 r4 R5.out.box ?_); (case hg => rfl); (case ho => rfl); (case hx => rfl))
            | (go_at_call 73; (with_reducible refine (CS.out _ R5.out.rd).mono ?_); rintro e w6 ⟨rfl, hb6⟩))
          go_ret
          exact ⟨by rw [RE2.out]; rfl, R5.out.bel.trans (hb6.mono R5.out.bel.size)⟩
end Go.Proofs.YtnpembgchmmbjaaGreat

/- What a net is with a device, or a port: plain facts; it may be, and all that was there stands where it stood. -/
namespace Go.Proofs.YtnpembgchmmbjaaGreat
open Go.RowKit

theorem getD_app {α : Type} (xs ys : List α) (i : Nat) (d : α) : (xs ++ ys).getD i d = if i < xs.length then xs.getD i d else ys.getD (i - xs.length) d := by
  by_cases h : i < xs.length
  · rw [if_pos h]; simp [List.getD, List.getElem?_append_left h]
  · rw [if_neg h]; simp [List.getD, List.getElem?_append_right (Nat.le_of_not_lt h)]
theorem getD_old {α : Type} {xs ys : List α} {i : Nat} {d : α} (h : i < xs.length) : (xs ++ ys).getD i d = xs.getD i d := by rw [getD_app, if_pos h]
theorem getD_new {α : Type} {xs ys : List α} {j : Nat} {d : α} : (xs ++ ys).getD (xs.length + j) d = ys.getD j d := by rw [getD_app, if_neg (by omega), Nat.add_sub_cancel_left]
/-! Places of domains. -/
/-! Numbers that rise are unlike. -/
/-! What is put. -/
noncomputable def fitsB (N : NV) (L : LV) (k : Int) : Bool := decide (L.kind = k) && (rgB L && netB N)
theorem fits_iff {N : NV} {L : LV} {k : Int} : fitsB N L k = true ↔ L.kind = k ∧ rgB L = true ∧ NetOk N := by
  unfold fitsB
  rw [Bool.and_eq_true, Bool.and_eq_true, decide_eq_true_eq, netB_iff]
/-! A net with a device. -/
/-! A net with a port. -/
theorem rsl_take {α : Type} {R : Rdr α} {w : World} {F : Nat → Prop} {A : Option Addr} {n c m : Nat} {xs : List α} (h : RSl R w F A n c xs) (hm : m ≤ n) : RSl R w F A m c (xs.take m) := by
  refine ⟨by rw [List.length_take, h.1]; omega, by have := h.2.1; omega, h.2.2.1, h.2.2.2.1, fun hn => ?_⟩
  obtain ⟨b, off, e, hF, hl, hc⟩ := h.2.2.2.2 (by omega)
  refine ⟨b, off, e, hF, hl, fun j x hx => hc j x ?_⟩
  rw [List.getElem?_take] at hx
  by_cases hj : j < m
  · rwa [if_pos hj] at hx
  · rw [if_neg hj] at hx; cases hx
end Go.Proofs.YtnpembgchmmbjaaGreat

/- A net with a link: the figures of links.Add and palingref17.Add. -/
namespace Go.Proofs.YtnpembgchmmbjaaGreat
open Go.RowKit

/-- a port of a list has another link -/
def setL (xs : List PortV) (k : Nat) (v : Int) : List PortV := xs.set k { xs.getD k PortV.zero with link := v }
theorem setL_len (xs : List PortV) (k : Nat) (v : Int) : (setL xs k v).length = xs.length := by simp [setL]
theorem setL_at {xs : List PortV} {k : Nat} (h : k < xs.length) (v : Int) : (setL xs k v).getD k PortV.zero = { xs.getD k PortV.zero with link := v } := by
  unfold setL
  simp [List.getD, h]
theorem setL_ne {xs : List PortV} {k i : Nat} (h : i ≠ k) (v : Int) : (setL xs k v).getD i PortV.zero = xs.getD i PortV.zero := by
  unfold setL
  simp only [List.getD]
  rw [List.getElem?_set_ne (fun e => h e.symm)]
def withLink (N : NV) (row : Int) (a b : Nat) : NV := { N with ports := setL (setL N.ports a (N.links.length : Int)) b (N.links.length : Int), links := N.links ++ [⟨row, a, b⟩] }
theorem wl_len (N : NV) (row : Int) (a b : Nat) : (withLink N row a b).ports.length = N.ports.length ∧ (withLink N row a b).links.length = N.links.length + 1 := by
  constructor
  · show (setL (setL N.ports a _) b _).length = _
    rw [setL_len, setL_len]
  · show (N.links ++ [_]).length = _
    simp
theorem wl_in {N : NV} (row : Int) {a b : Nat} (ha : a < N.ports.length) (hb : b < N.ports.length) (hab : a ≠ b) {i : Nat} (hi : i = a ∨ i = b) : (withLink N row a b).ports.getD i PortV.zero = { N.ports.getD i PortV.zero with link := (N.links.length : Int) } := by
  show (setL (setL N.ports a _) b _).getD i _ = _
  rcases hi with rfl | rfl
  · rw [setL_ne hab, setL_at ha]
  · rw [setL_at (by rw [setL_len]; exact hb), setL_ne (fun e => hab e.symm)]
theorem wl_out (N : NV) (row : Int) {a b i : Nat} (h1 : i ≠ a) (h2 : i ≠ b) : (withLink N row a b).ports.getD i PortV.zero = N.ports.getD i PortV.zero := by
  show (setL (setL N.ports a _) b _).getD i _ = _
  rw [setL_ne h2, setL_ne h1]
/-- all but its link a port is what it was -/
theorem wl_same {N : NV} (row : Int) {a b : Nat} (ha : a < N.ports.length) (hb : b < N.ports.length) (hab : a ≠ b) (i : Nat) : ∃ k, (withLink N row a b).ports.getD i PortV.zero = { N.ports.getD i PortV.zero with link := k } ∧ ((i = a ∨ i = b) ∧ k = (N.links.length : Int) ∨ ¬ (i = a ∨ i = b) ∧ k = (N.ports.getD i PortV.zero).link) := by
  by_cases hi : i = a ∨ i = b
  · exact ⟨_, wl_in row ha hb hab hi, .inl ⟨hi, rfl⟩⟩
  · exact ⟨(N.ports.getD i PortV.zero).link, wl_out N row (fun e => hi (.inl e)) (fun e => hi (.inr e)), .inr ⟨hi, rfl⟩⟩
theorem wl_old (N : NV) (row : Int) (a b : Nat) {j : Nat} (h : j < N.links.length) : (withLink N row a b).links.getD j LinkV.zero = N.links.getD j LinkV.zero := getD_old h
theorem wl_new (N : NV) (row : Int) (a b : Nat) : (withLink N row a b).links.getD N.links.length LinkV.zero = ⟨row, a, b⟩ := by
  show (N.links ++ [_]).getD _ _ = _
  have := getD_new (xs := N.links) (ys := [(⟨row, a, b⟩ : LinkV)]) (j := 0) (d := LinkV.zero)
  rw [Nat.add_zero] at this
  rw [this]
  rfl
theorem withLink_ok {N : NV} (row : Int) {a b : Nat} (h : NetOk N) (ha : a < N.ports.length) (hb : b < N.ports.length) (hd : (N.ports.getD a PortV.zero).dev ≠ (N.ports.getD b PortV.zero).dev) (la : (N.ports.getD a PortV.zero).link = -1) (lb : (N.ports.getD b PortV.zero).link = -1) (z : N.links.length < 20) : NetOk (withLink N row a b) := by
  have hab : a ≠ b := fun e => hd (by rw [e])
  have W := wl_len N row a b
  have S := wl_same row ha hb hab
  refine ⟨h.zdv, by rw [W.1]; exact h.zpt, by rw [W.2]; omega, h.zdm, h.zst, h.zfl, h.zvr, h.zir, ⟨fun i hi => ?_, fun i hi => h.dm.2 i hi⟩, fun i hi => ?_, fun i hi => ?_, ⟨fun i hi => ?_, fun i hi => ?_, fun i hi => ?_, fun i hi => ?_⟩⟩
  · have g := h.dm.1 i hi
    exact ⟨g.dev, g.vlan, g.vni, g.one, g.irb⟩
  · rw [W.1] at hi
    have g := h.pt i hi
    obtain ⟨k, e, hk⟩ := S i
    rw [e]
    refine ⟨g.dev, g.lo, g.hi, g.tag, g.out, g.one, g.dom, g.doms, ?_⟩
    rcases hk with ⟨hi2, rfl⟩ | ⟨hi2, rfl⟩
    · refine .inr ⟨(plB_iff _ _).2 ⟨by show (0 : Int) ≤ (N.links.length : Int); omega, by show (N.links.length : Int) < _; rw [W.2]; omega⟩, ?_⟩
      show ((withLink N row a b).links.getD ((N.links.length : Int)).toNat LinkV.zero).a = _ ∨ ((withLink N row a b).links.getD ((N.links.length : Int)).toNat LinkV.zero).b = _
      rw [show ((N.links.length : Int)).toNat = N.links.length from rfl, wl_new]
      rcases hi2 with rfl | rfl
      · exact .inl rfl
      · exact .inr rfl
    · rcases g.link with l | ⟨l1, l2⟩
      · exact .inl l
      · obtain ⟨y, hy, hyl⟩ := plB_nat l1
        refine .inr ⟨(plB_iff _ _).2 ⟨by show 0 ≤ (N.ports.getD i PortV.zero).link; omega, by show (N.ports.getD i PortV.zero).link < _; rw [W.2]; omega⟩, ?_⟩
        show ((withLink N row a b).links.getD ((N.ports.getD i PortV.zero).link).toNat LinkV.zero).a = _ ∨ ((withLink N row a b).links.getD ((N.ports.getD i PortV.zero).link).toNat LinkV.zero).b = _
        rw [wl_old N row a b (by rw [hy]; exact hyl)]
        exact l2
  · rw [W.2] at hi
    by_cases ho : i < N.links.length
    · rw [wl_old N row a b ho]
      have g := h.lk i ho
      obtain ⟨x, hx, hxl⟩ := plB_nat g.a
      obtain ⟨y, hy, hyl⟩ := plB_nat g.b
      have ga := g.la
      have gb := g.lb
      have gd := g.dev
      rw [hx, show ((x : Int)).toNat = x from rfl] at ga gd
      rw [hy, show ((y : Int)).toNat = y from rfl] at gb gd
      have nx : ¬ (x = a ∨ x = b) := fun e => by rcases e with rfl | rfl <;> omega
      have ny : ¬ (y = a ∨ y = b) := fun e => by rcases e with rfl | rfl <;> omega
      have ex := wl_out N row (fun e => nx (.inl e)) (fun e => nx (.inr e))
      have ey := wl_out N row (fun e => ny (.inl e)) (fun e => ny (.inr e))
      refine ⟨by rw [W.1]; exact g.a, by rw [W.1]; exact g.b, ?_, ?_, ?_⟩
      · rw [hx, hy, show ((x : Int)).toNat = x from rfl, show ((y : Int)).toNat = y from rfl, ex, ey]; exact gd
      · rw [hx, show ((x : Int)).toNat = x from rfl, ex]; exact ga
      · rw [hy, show ((y : Int)).toNat = y from rfl, ey]; exact gb
    · obtain rfl : i = N.links.length := by omega
      rw [wl_new]
      have ea := wl_in (N := N) row ha hb hab (.inl rfl)
      have eb := wl_in (N := N) row ha hb hab (.inr rfl)
      refine ⟨(plB_iff _ _).2 ⟨by show (0 : Int) ≤ (a : Int); omega, by show (a : Int) < _; rw [W.1]; omega⟩, (plB_iff _ _).2 ⟨by show (0 : Int) ≤ (b : Int); omega, by show (b : Int) < _; rw [W.1]; omega⟩, ?_, ?_, ?_⟩
      · show ((withLink N row a b).ports.getD ((a : Int)).toNat PortV.zero).dev ≠ ((withLink N row a b).ports.getD ((b : Int)).toNat PortV.zero).dev
        rw [show ((a : Int)).toNat = a from rfl, show ((b : Int)).toNat = b from rfl, ea, eb]; exact hd
      · show ((withLink N row a b).ports.getD ((a : Int)).toNat PortV.zero).link = _
        rw [show ((a : Int)).toNat = a from rfl, ea]
      · show ((withLink N row a b).ports.getD ((b : Int)).toNat PortV.zero).link = _
        rw [show ((b : Int)).toNat = b from rfl, eb]
  · have g := h.rs.st i hi
    obtain ⟨k, e, _⟩ := S (N.statics.getD i StatV.zero).port.toNat
    refine ⟨g.dom, by rw [W.1]; exact g.port, ?_, ?_⟩
    · show ((withLink N row a b).ports.getD (N.statics.getD i StatV.zero).port.toNat PortV.zero).dev = _
      rw [e]; exact g.dev
    · show mbrB ((withLink N row a b).ports.getD (N.statics.getD i StatV.zero).port.toNat PortV.zero) _ = true
      rw [e]; exact g.mbr
  · have g := h.rs.fl i hi
    exact ⟨g.dev, g.most⟩
  · have g := h.rs.vr i hi
    exact ⟨g.dev, g.imp, g.exp⟩
  · have g := h.rs.ir i hi
    exact ⟨g.dom, g.vrf, g.bits, g.dev, g.irb⟩
/-- which port a line's two names are -/
def ndF (N : NV) (dev port : List UInt8) : Int := ptF N (dvF N dev) port
def laR (N : NV) (a b : Int) : Int := if a = -1 ∨ b = -1 then 31 else if (ptA N a).dev = (ptA N b).dev ∨ (ptA N a).link ≠ -1 ∨ (ptA N b).link ≠ -1 then 33 else if 20 ≤ N.links.length then 3 else 0
noncomputable def laE (N : NV) (L : LV) : Int := if fitsB N L 3 = false then 2 else laR N (ndF N L.dev L.port) (ndF N L.peer L.far)
noncomputable def laN (N : NV) (L : LV) : NV := if laE N L = 0 then withLink N L.row (ndF N L.dev L.port).toNat (ndF N L.peer L.far).toNat else NV.zero
theorem la_no {N : NV} {L : LV} (h : laE N L ≠ 0) : laN N L = NV.zero := by unfold laN; rw [if_neg h]
theorem la_2 {N : NV} {L : LV} (h : fitsB N L 3 = false) : laN N L = NV.zero ∧ laE N L = 2 := by
  have e : laE N L = 2 := by unfold laE; rw [if_pos h]
  exact ⟨la_no (by rw [e]; decide), e⟩
theorem la_r {N : NV} {L : LV} (h : fitsB N L 3 = true) : laE N L = laR N (ndF N L.dev L.port) (ndF N L.peer L.far) := by unfold laE; rw [if_neg (by rw [h]; decide)]
theorem la_e {N : NV} {L : LV} (h : fitsB N L 3 = true) {e : Int} (h2 : laR N (ndF N L.dev L.port) (ndF N L.peer L.far) = e) (h0 : e ≠ 0) : laN N L = NV.zero ∧ laE N L = e := by
  have g := (la_r h).trans h2
  exact ⟨la_no (by rw [g]; exact h0), g⟩
theorem la_0 {N : NV} {L : LV} (h : fitsB N L 3 = true) (h2 : laR N (ndF N L.dev L.port) (ndF N L.peer L.far) = 0) : laN N L = withLink N L.row (ndF N L.dev L.port).toNat (ndF N L.peer L.far).toNat ∧ laE N L = 0 := by
  have g := (la_r h).trans h2
  exact ⟨by unfold laN; rw [if_pos g], g⟩
theorem nd_place {N : NV} {dev : Int} {s : List UInt8} : ptF N dev s = -1 ∨ ∃ j, j < N.ports.length ∧ ptF N dev s = (j : Int) ∧ (N.ports.getD j PortV.zero).dev = dev ∧ (N.ports.getD j PortV.zero).name = s := by
  rcases ptF_fst N dev s _ rfl with ⟨j, h1, h2, h3, _⟩ | ⟨h, _⟩
  · have := of_decide_eq_true h3
    exact .inr ⟨j, h1, h2, this.1, this.2⟩
  · exact .inl h
/-- what is known where a link is put -/
theorem la_inv {N : NV} {L : LV} (h : laE N L = 0) : fitsB N L 3 = true ∧ NetOk N ∧ ∃ a b : Nat, ndF N L.dev L.port = (a : Int) ∧ ndF N L.peer L.far = (b : Int) ∧ a < N.ports.length ∧ b < N.ports.length ∧ (N.ports.getD a PortV.zero).dev ≠ (N.ports.getD b PortV.zero).dev ∧ (N.ports.getD a PortV.zero).link = -1 ∧ (N.ports.getD b PortV.zero).link = -1 ∧ N.links.length < 20 ∧ laN N L = withLink N L.row a b := by
  by_cases f : fitsB N L 3 = true
  rotate_left
  · rw [(la_2 (Bool.eq_false_iff.2 f)).2] at h; exact absurd h (by decide)
  have r := (la_r f).symm.trans h
  unfold laR at r
  by_cases c1 : ndF N L.dev L.port = -1 ∨ ndF N L.peer L.far = -1
  · rw [if_pos c1] at r; exact absurd r (by decide)
  rw [if_neg c1] at r
  obtain ⟨a, ha, ea, _⟩ := (nd_place (N := N) (dev := dvF N L.dev) (s := L.port)).resolve_left (fun e => c1 (.inl e))
  obtain ⟨b, hb, eb, _⟩ := (nd_place (N := N) (dev := dvF N L.peer) (s := L.far)).resolve_left (fun e => c1 (.inr e))
  have ea : ndF N L.dev L.port = (a : Int) := ea
  have eb : ndF N L.peer L.far = (b : Int) := eb
  rw [ea, eb] at r
  by_cases c2 : (ptA N (a : Int)).dev = (ptA N (b : Int)).dev ∨ (ptA N (a : Int)).link ≠ -1 ∨ (ptA N (b : Int)).link ≠ -1
  · rw [if_pos c2] at r; exact absurd r (by decide)
  rw [if_neg c2] at r
  by_cases c3 : 20 ≤ N.links.length
  · rw [if_pos c3] at r; exact absurd r (by decide)
  refine ⟨f, (fits_iff.1 f).2.2, a, b, ea, eb, ha, hb, fun e => c2 (.inl e), ?_, ?_, by omega, ?_⟩
  · exact Classical.byContradiction fun e => c2 (.inr (.inl e))
  · exact Classical.byContradiction fun e => c2 (.inr (.inr e))
  · unfold laN
    rw [if_pos h, ea, eb]
    rfl
end Go.Proofs.YtnpembgchmmbjaaGreat

