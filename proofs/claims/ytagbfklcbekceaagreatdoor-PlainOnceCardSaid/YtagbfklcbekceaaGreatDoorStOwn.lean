/- May a line be: the contract of stmt.Right. The contracts of package stmt. -/
import Derived.Test.YtagbfklcbekceaaGreatDoorStRdL
import Derived.Test.YtagbfklcbekceaaGreatDoorStSameC
import Derived.Test.YtagbfklcbekceaaGreatDoorStReadAll
import Derived.Test.YtagbfklcbekceaaGreatDoorStSame
import Derived.Test.YtagbfklcbekceaaGreatDoorStRdC
namespace Go.Proofs.YtagbfklcbekceaaGreatDoor
open Go.RowKit

/-- a line whose numbers may be taken out -/
structure LvM (L : LV) : Prop where
  sz : LvSz L
  mac : 0 ≤ L.mac ∧ L.mac < 281474976710656
  addr : 0 ≤ L.addr ∧ L.addr < 4294967296
theorem LvOk.m {L : LV} (h : LvOk L) : LvM L := ⟨h.sz, h.num.2.2.1, ⟨h.num.2.2.2.1.1, by have := h.num.2.2.2.1.2; omega⟩⟩
theorem LvM.put {L : LV} (h : LvM L) (f : Nat) : LvM (fput f L WV.zero) := by
  refine ⟨fput_sz h.sz vok_zero f, ?_, ?_⟩
  · match f with
    | 9 => exact vo_m
    | 0 | 1 | 2 | 3 | 4 | 5 | 6 | 7 | 8 | 10 | 11 | 12 | 13 | 14 | 15 => exact h.mac
    | f + 16 => exact h.mac
  · match f with
    | 10 | 11 => exact vo_a
    | 0 | 1 | 2 | 3 | 4 | 5 | 6 | 7 | 8 | 9 | 12 | 13 | 14 | 15 => exact h.addr
    | f + 16 => exact h.addr
theorem LvM.take {L : LV} (h : LvM L) (f : Nat) : VOk (ftake f L WV.zero) := by
  have t := h.sz.txt
  have l := h.sz.lst
  match f with
  | 0 => exact ⟨t.1, vo_m, vo_a, vo_l⟩
  | 1 => exact ⟨t.2.1, vo_m, vo_a, vo_l⟩
  | 2 => exact ⟨t.2.2.1, vo_m, vo_a, vo_l⟩
  | 3 => exact ⟨t.2.2.2.1, vo_m, vo_a, vo_l⟩
  | 4 => exact ⟨t.2.2.2.2, vo_m, vo_a, vo_l⟩
  | 5 => exact ⟨show ([116, 114, 117, 110, 107] : List UInt8).length ≤ 1000000 by decide, vo_m, vo_a, vo_l⟩
  | 6 | 7 | 8 => exact ⟨vo_t, vo_m, vo_a, vo_l⟩
  | 9 => exact ⟨vo_t, h.mac, vo_a, vo_l⟩
  | 10 => exact ⟨vo_t, vo_m, h.addr, vo_l⟩
  | 11 => exact ⟨vo_t, vo_m, h.addr, vo_l⟩
  | 12 => exact ⟨vo_t, vo_m, vo_a, ⟨l.1, vo_l.2⟩⟩
  | 13 => exact ⟨vo_t, vo_m, vo_a, ⟨l.2.1, vo_l.2⟩⟩
  | 14 => exact ⟨vo_t, vo_m, vo_a, ⟨l.2.2.1, vo_l.2⟩⟩
  | 15 => exact ⟨vo_t, vo_m, vo_a, ⟨vo_l.1, l.2.2.2⟩⟩
  | f + 16 => exact vok_zero
theorem rgRun_at {ps : List (Nat × Nat)} {k : Nat} {L : LV} (h : k < ps.length) :
    rgRun (ps.drop k) L = if mayB (ps.getD k (0, 0)).1 (ftake (ps.getD k (0, 0)).2 L WV.zero) = true then rgRun (ps.drop (k + 1)) (fput (ps.getD k (0, 0)).2 L WV.zero) else none := by
  have e1 : ps.drop k = ps.getD k (0, 0) :: ps.drop (k + 1) := by rw [List.drop_eq_getElem_cons h]; simp [List.getD, List.getElem?_eq_getElem h]
  rw [e1]
  obtain ⟨w, f⟩ := ps.getD k (0, 0)
  rw [rgRun]
/-- a value loaded whole -/
theorem wpList_valOf {ops : Array Oper} {rest : List Oper} {op : Oper} {a : Act} {w : World} {Q : Exit → Act → World → Prop} (hgd : op.guard = none) (x : Operand) (ho : op.op = .load 77 x)
    (p : Nat) (hx : a.eval x = .pointer (some ⟨p, 0, none⟩)) (V : WV) (t1 t2 : SlV) (hb : BoxF w p 6 (vc V t1 t2)) (h : wpList Tryz.prog ops Q rest (a.put op.dst (valV V t1 t2)) w) : wpList Tryz.prog ops Q (op :: rest) a w := by
  obtain ⟨d, hd1, hd2⟩ := val_desc
  exact wpList_load_mid hgd 77 x ho p 0 hx (valC V t1 t2) d hb.rangeV hd1 hd2 val_size h
/-- a zero value's box beside the line's -/
theorem RdS.fvZ {w wr : World} {p : Nat} {ps : List (Nat × Nat)} {A : Option Addr} {n c : Nat} {L : LV} {s1 s2 s3 s4 : SlV} (h : RdS w p ps A n c L s1 s2 s3 s4 wr) (o : Obj) (T : TypeId) :
    RdS w p ps A n c L s1 s2 s3 s4 ((wr.alloc o).alloc (.cells #[.string ⟨#[]⟩, .int .i64 0, .int .u64 0, .int .u32 0, .slice none 0 0, .slice none 0 0] T)) ∧
    FV ((wr.alloc o).alloc (.cells #[.string ⟨#[]⟩, .int .i64 0, .int .u64 0, .int .u32 0, .slice none 0 0, .slice none 0 0] T)) p (wr.heap.size + 1) L s1 s2 s3 s4 WV.zero SlV.nil SlV.nil ∧ Below wr.heap.size wr ((wr.alloc o).alloc (.cells #[.string ⟨#[]⟩, .int .i64 0, .int .u64 0, .int .u32 0, .slice none 0 0, .slice none 0 0] T)) := by
  have B := two_alloc wr o (.cells #[.string ⟨#[]⟩, .int .i64 0, .int .u64 0, .int .u32 0, .slice none 0 0, .slice none 0 0] T)
  have R6 := h.keep B
  have hlt : p < wr.heap.size := h.pl
  have vb := (SV.start (wr.alloc o) T).box
  rw [rd_sz] at vb
  have off : ∀ (k : IntKind) (s : SlV) (xs : List Int), ISl wr k s.A s.n s.c xs → OffP (wr.heap.size + 1) s := fun k s xs hi ad e e2 => by have := lt_isl hi ad e e2; omega
  exact ⟨R6, R6.fv (by omega) vb ⟨ISl.nil, ISl.nil⟩ (off _ _ _ h.rd.1) (off _ _ _ h.rd.2.1) (off _ _ _ h.rd.2.2.1) (off _ _ _ h.rd.2.2.2) (fun ad e => by cases e) (fun ad e => by cases e), B⟩
theorem rt_start {w wa w9 w1 : World} {L : LV} {s1 s2 s3 s4 : SlV} {ps : List (Nat × Nat)} {A : Option Addr} {n c : Nat} (hL : LRead w L s1 s2 s3 s4) (hz : LvSz L) (hw : Below w.heap.size w wa) (hx : BoxF w9 (w.heap.size + 1) 17 (lc L s1 s2 s3 s4)) (h9 : Below (w.heap.size + 1) wa w9) (hl : w.heap.size + 1 < w9.heap.size)
    (hb1 : Below w9.heap.size w9 w1) (hps : PSl w1 (w.heap.size + 1) A n c ps) (hpa : ∀ ad, A = some ad → w9.heap.size ≤ ad.block) : RdS w (w.heap.size + 1) ps A n c L s1 s2 s3 s4 w1 := by
  have B : Below w.heap.size w w1 := (hw.trans (h9.mono (by omega))).trans (hb1.mono (by omega))
  have off : ∀ (k : IntKind) (s : SlV) (xs : List Int), ISl w k s.A s.n s.c xs → OffP (w.heap.size + 1) s := fun k s xs hi ad e e2 => by have := lt_isl hi ad e e2; omega
  exact ⟨by omega, by have := hb1.size; omega, hx.below (by omega) hb1, ⟨hL.1.below B, hL.2.1.below B, hL.2.2.1.below B, hL.2.2.2.below B⟩, off _ _ _ hL.1, off _ _ _ hL.2.1, off _ _ _ hL.2.2.1, off _ _ _ hL.2.2.2, hps, fun ad e => by have := hpa ad e; omega, B, hz⟩
set_option maxRecDepth 100000 in
set_option maxHeartbeats 8000000 in
theorem cright_any (L : LV) (s1 s2 s3 s4 : SlV) (w : World) (h : LRead w L s1 s2 s3 s4) (hL : LvOk L) :
    Calls Tryz.prog 19 #[lineV L s1 s2 s3 s4] w fun e w' => e = .returned (.bool (rgB L)) ∧ Below w.heap.size w w' := by
  have H := Lib.hid h
  have LM := Lib.hid hL.m
  have P0 := Lib.hid (fun T => line_boxed w L s1 s2 s3 s4 T)
  have OKP := Lib.hid (pts_ok L.kind true)
  obtain ⟨rb, hrb⟩ : ∃ rb, rgB L = rb := ⟨_, rfl⟩
  have RB := Lib.hid hrb
  rw [hrb]
  clear h hL hrb
  rw [show lineV L s1 s2 s3 s4 = .agg #[.int .i64 L.row, .int .i64 L.kind, .string (str L.dev), .string (str L.port), .string (str L.peer), .string (str L.far), .string (str L.name), .int .u64 L.mac, .int .u32 L.addr, .int .i64 L.bits, .int .i64 L.vlan, .int .i64 L.num, .int .i64 L.cost, .slice s1.A s1.n s1.c, .slice s2.A s2.n s2.c, .slice s3.A s3.n s3.c, .slice s4.A s4.n s4.c] from rfl]
  go_enter Tryz.func19, Tryz.ntmps19
  go_wp2_with (first
    | ((with_reducible refine wpList_lineOf ?hg (.tmp 1) ?ho w.heap.size ?hx L s1 s2 s3 s4 (P0.out _) ?_); (case hg => rfl); (case ho => rfl); (case hx => rfl); simp only [lineV])
    | ((with_reducible refine wpList_newfields ?hg1 ?ho1 ?hg2 (.tmp 3) (.tmp 9) ?ho2 ?hx L s1 s2 s3 s4 ?hy ?_); (case hg1 => rfl); (case ho1 => rfl); (case hg2 => rfl); (case ho2 => rfl); (case hx => rfl); (case hy => rfl); intro w9 bx9 bl9 lt9; rw [rd_sz] at bx9 bl9 lt9)
    | (go_at_call 33; (with_reducible refine (parts_any L.kind _ _ _ (bx9.cell 1 (by omega))).mono ?_); rintro e w1 ⟨PA, pn, pc, rfl, hps, hb1, hpa⟩))
  have R1 := Lib.hid (rt_start H.out LM.out.sz (below_box2 w _) bx9 bl9 lt9 hb1 hps hpa)
  have PN := Lib.hid hps.1
  have hp6 : pn ≤ 6 := by have := OKP.out.1; have := PN.out; omega
  have Z1 := Lib.hid (((P0.out 39).below (by omega) (by rw [rd_sz]; exact bl9)).below (by omega) hb1)
  generalize hP : pts L.kind true = ps at *
  have PW := Lib.hid hP
  clear hP hps hpa hb1 bx9 bl9 lt9
  go_loopw [13] (fun i wr => ∃ (k : Nat) (M : LV) (r1 r2 r3 r4 : SlV), k ≤ pn ∧ i = .int .i64 (k : Int) ∧ rgRun ps L = rgRun (ps.drop k) M ∧ RdS w (w.heap.size + 1) ps PA pn pc M r1 r2 r3 r4 wr ∧ LvM M ∧ BoxF wr w.heap.size 17 (lc L s1 s2 s3 s4)) (fun i _ => pn - (intOf i).toNat)
  case atStart => exact ⟨0, L, s1, s2, s3, s4, by omega, rfl, rfl, R1.out, LM.out, Z1.out⟩
  case round =>
    obtain ⟨k, M, r1, r2, r3, r4, hk, rfl, hrun, hR, hM, hZ⟩ := hrel
    have RR := Lib.hid hR
    have ZZ := Lib.hid hZ
    have MM := Lib.hid hM
    have RUN := Lib.hid hrun
    clear hR hZ hM hrun
    by_cases hlt : k < pn
    · obtain ⟨bp, rfl, hbp, hpc⟩ := RR.out.ps.2.2.2 (by omega)
      obtain ⟨x0, x1⟩ := hpc k hlt
      have N := Lib.hid (rgRun_at (ps := ps) (k := k) (L := M) (by rw [PN.out]; exact hlt))
      have OK := Lib.hid (OKP.out.at_ k)
      obtain ⟨x, hx⟩ : ∃ x, ps.getD k (0, 0) = x := ⟨_, rfl⟩
      rw [hx] at x0 x1 N OK
      obtain ⟨wk, fk⟩ := x
      clear hpc hx
      dsimp only at x0 x1 N OK
      unfold fval at x1
      have RC := run_fnum fk OK.out.2
      have FZ := Lib.hid (RR.out.fvZ (.cells #[.int .i64 (wk : Int), .func (.func (fnum fk)) #[.pointer (some ⟨w.heap.size + 1, 0, none⟩)] #[]] 75) 77)
      have VT := Lib.hid (MM.out.take fk)
      obtain ⟨mb, hmb⟩ : ∃ mb, mayB wk (ftake fk M WV.zero) = mb := ⟨_, rfl⟩
      have MB := Lib.hid hmb
      have CM := Lib.hid (fun t1 t2 w h => may_any wk OK.out.1 (ftake fk M WV.zero) t1 t2 w VT.out h)
      cases mb with
      | true =>
        have N2 := Lib.hid (show rgRun ps L = rgRun (ps.drop (k + 1)) (fput fk M WV.zero) by rw [RUN.out, N.out, if_pos hmb])
        clear hmb N RUN
        go_wp2_with (first
          | ((with_reducible refine (fld_any fk OK.out.2 FZ.out.2.1).mono ?_); rintro e w3 ⟨rfl, q1, q2, q3, q4, u1, u2, F7, E7⟩; have R7 := Lib.hid (FZ.out.1.next (by have := RR.out.bel.size; omega) (fun ad e => by cases e; show bp ≠ _; omega) F7 E7 (fput_sz RR.out.sz vok_zero fk)); have Z7 := Lib.hid ((ZZ.out.below (by omega) FZ.out.2.2).ex2 (by omega) E7 (by omega) (by have := RR.out.pl; omega)); have V7 := Lib.hid F7; have VR := Lib.hid (show VRead w3 (ftake fk M WV.zero) u1 u2 from ⟨F7.v1.1, F7.v2.1⟩); have x7 : w3.cell? ⟨wr.heap.size, 0, none⟩ = some (.int .i64 (wk : Int)) := ((E7.cell 0 (by simp; omega) (by have := RR.out.pl; omega) (by omega)).trans (by simp)); clear F7 E7)
          | ((with_reducible refine wpList_valOf ?hg (.tmp 7) ?ho (wr.heap.size + 1) ?hx (ftake fk M WV.zero) u1 u2 V7.out.val ?_); (case hg => rfl); (case ho => rfl); (case hx => rfl))
          | (go_at_call 41; (with_reducible refine (CM.out u1 u2 _ VR.out).mono ?_); rintro e w5 ⟨rfl, hb5⟩; rw [MB.out]; have R8 := Lib.hid (R7.out.keep hb5); have Z8 := Lib.hid (Z7.out.below (by omega) hb5)))
        go_roundw
        case rel => exact ⟨k + 1, fput fk M WV.zero, q1, q2, q3, q4, by omega, by go_num, N2.out, R8.out, MM.out.put fk, Z8.out⟩
        case measure => simp [intOf]; omega
      | false =>
        have N2 := Lib.hid (show rb = false by rw [← RB.out, rgB_none (by rw [PW.out, RUN.out, N.out, if_neg (by rw [hmb]; decide)])])
        clear hmb N RUN
        go_wp2_with (first
          | ((with_reducible refine (fld_any fk OK.out.2 FZ.out.2.1).mono ?_); rintro e w3 ⟨rfl, q1, q2, q3, q4, u1, u2, F7, E7⟩; have R7 := Lib.hid (FZ.out.1.next (by have := RR.out.bel.size; omega) (fun ad e => by cases e; show bp ≠ _; omega) F7 E7 (fput_sz RR.out.sz vok_zero fk)); have V7 := Lib.hid F7; have VR := Lib.hid (show VRead w3 (ftake fk M WV.zero) u1 u2 from ⟨F7.v1.1, F7.v2.1⟩); have x7 : w3.cell? ⟨wr.heap.size, 0, none⟩ = some (.int .i64 (wk : Int)) := ((E7.cell 0 (by simp; omega) (by have := RR.out.pl; omega) (by omega)).trans (by simp)); clear F7 E7)
          | ((with_reducible refine wpList_valOf ?hg (.tmp 7) ?ho (wr.heap.size + 1) ?hx (ftake fk M WV.zero) u1 u2 V7.out.val ?_); (case hg => rfl); (case ho => rfl); (case hx => rfl))
          | (go_at_call 41; (with_reducible refine (CM.out u1 u2 _ VR.out).mono ?_); rintro e w5 ⟨rfl, hb5⟩; rw [MB.out]; have R8 := Lib.hid (R7.out.keep hb5)))
        go_ret
        exact ⟨by rw [N2.out]; rfl, R8.out.bel⟩
    · obtain rfl : k = pn := by omega
      have RM := Lib.hid (show rgRun (pts L.kind true) L = some M by rw [PW.out, RUN.out, List.drop_eq_nil_of_le (by rw [PN.out]; exact Nat.le_refl _)]; rfl)
      have RE := Lib.hid (show rb = ((decide (0 < k) && apB L) && sameB M (LV.new L.row L.kind)) by rw [← RB.out, rgB_some RM.out, PW.out, PN.out])
      clear RUN
      by_cases p0 : 0 < k
      rotate_left
      · obtain rfl : k = 0 := by omega
        have R0 := Lib.hid (show rb = false by rw [RE.out]; rfl)
        go_wp2
        go_ret
        exact ⟨by rw [R0.out]; rfl, RR.out.bel⟩
      · have p1 : (0 : Int) < (k : Int) := by omega
        have CA := Lib.hid (fun w h => apart_any L s1 s2 s3 s4 w h)
        have LR := Lib.hid (show LRead wr L s1 s2 s3 s4 from ⟨H.out.1.below RR.out.bel, H.out.2.1.below RR.out.bel, H.out.2.2.1.below RR.out.bel, H.out.2.2.2.below RR.out.bel⟩)
        obtain ⟨ap, hap⟩ : ∃ ap, apB L = ap := ⟨_, rfl⟩
        have AP := Lib.hid hap
        have RE2 := Lib.hid (show rb = (ap && sameB M (LV.new L.row L.kind)) by rw [RE.out, hap, decide_eq_true p0, Bool.true_and])
        clear hap
        cases ap with
        | false =>
          go_wp2_with (first
            | ((with_reducible refine wpList_lineOf ?hg (.tmp 1) ?ho w.heap.size ?hx L s1 s2 s3 s4 ZZ.out ?_); (case hg => rfl); (case ho => rfl); (case hx => rfl))
            | (go_at_call 37; (with_reducible refine (CA.out _ LR.out).mono ?_); rintro e w5 ⟨rfl, hb5⟩; rw [AP.out]))
          go_ret
          exact ⟨by rw [RE2.out]; rfl, RR.out.bel.trans (hb5.mono RR.out.bel.size)⟩
        | true =>
          have CS := Lib.hid (show ∀ w, LRead w M r1 r2 r3 r4 → Calls Tryz.prog 18 #[lineV M r1 r2 r3 r4, .agg #[.int .i64 L.row, .int .i64 L.kind, .string ⟨#[]⟩, .string ⟨#[]⟩, .string ⟨#[]⟩, .string ⟨#[]⟩, .string ⟨#[]⟩, .int .u64 0, .int .u32 0, .int .i64 0, .int .i64 0, .int .i64 0, .int .i64 0, .slice none 0 0, .slice none 0 0, .slice none 0 0, .slice none 0 0]] w fun e w' => e = .returned (.bool (sameB M (LV.new L.row L.kind))) ∧ Below w.heap.size w w' from
            fun w h => csame_any M (LV.new L.row L.kind) r1 r2 r3 r4 SlV.nil SlV.nil SlV.nil SlV.nil w h ⟨ISl.nil, ISl.nil, ISl.nil, ISl.nil⟩)
          go_wp2_with (first
            | ((with_reducible refine wpList_lineOf ?hg (.tmp 1) ?ho w.heap.size ?hx L s1 s2 s3 s4 ZZ.out ?_); (case hg => rfl); (case ho => rfl); (case hx => rfl))
            | (go_at_call 37; (with_reducible refine (CA.out _ LR.out).mono ?_); rintro e w5 ⟨rfl, hb5⟩; rw [AP.out]; have R5 := Lib.hid (RR.out.keep hb5); have Z5 := Lib.hid (ZZ.out.below (by omega) hb5); have z0 : w5.cell? ⟨w.heap.size, 0, none⟩ = some (.int .i64 L.row) := Z5.out.cell 0 (by omega); have z1 : w5.cell? ⟨w.heap.size, 1, none⟩ = some (.int .i64 L.kind) := Z5.out.cell 1 (by omega))
            | ((with_reducible refine wpList_lineOf ?hg (.tmp 34) ?ho (w.heap.size + 1) ?hx M r1 r2 r3 r4 R5.out.box ?_); (case hg => rfl); (case ho => rfl); (case hx => rfl))
            | (go_at_call 18; (with_reducible refine (CS.out _ R5.out.rd).mono ?_); rintro e w6 ⟨rfl, hb6⟩))
          go_ret
          exact ⟨by rw [RE2.out]; rfl, R5.out.bel.trans (hb6.mono R5.out.bel.size)⟩
end Go.Proofs.YtagbfklcbekceaaGreatDoor

namespace Go.Proofs.YtagbfklcbekceaaGreatDoor
open Go.RowKit

/-- what the listed variables hold -/
structure LdT (w : World) : Prop where
  num : Lds w
  firsts : FsIs w
theorem LdT.below {w w' : World} (h : LdT w) (hb : Below w.heap.size w w') : LdT w' := ⟨h.num.below hb, h.firsts.below hb⟩
theorem rdL_no {ws : List (List UInt8)} {row : Int} (h : rdE ws row ≠ 0) : rdL ws row = LV.zero := by unfold rdL; rw [if_neg h]
theorem xread_any (A : Option Addr) (n c : Nat) (ws : List (List UInt8)) (row : Int) (w : World) (h : SSl w A n c ws) (hs : ∀ p ∈ ws, p.length ≤ 300) (hl : LdT w) :
    Calls Tryz.prog 17 #[.slice A n c, .int .i64 row] w (GotLine w (rdL ws row) (rdE ws row)) := by
  obtain ⟨e1, e2⟩ := cd_eq ws row
  have hlen := h.len
  by_cases h0 : n = 0
  · subst h0
    have hE : cdE ws row = 22 := by unfold cdE; rw [if_pos (.inl (List.eq_nil_of_length_eq_zero hlen))]
    rw [hE] at e1
    rw [rdL_no (by rw [← e1]; decide), ← e1]
    exact cread_nil A c row w
  · by_cases hno : ptW ws = [] ∨ n ≠ 1 + (ptW ws).length
    · have hE : cdE ws row = 22 := by unfold cdE; rw [if_pos (.inr (by rw [hlen]; exact hno))]
      rw [hE] at e1
      rw [rdL_no (by rw [← e1]; decide), ← e1]
      exact cread_no A n c ws row w h hl.firsts (by omega) hno
    · have h1 : ptW ws ≠ [] := fun e => hno (.inl e)
      have h2 : n = 1 + (ptW ws).length := Decidable.of_not_not fun e => hno (.inr e)
      refine cread_run A n c ws row w h hs hl.num hl.firsts (ptW ws).length rfl (List.length_pos_iff.2 h1) h2 (rdE ws row) (rdL ws row) e1 ?_
      by_cases e : rdE ws row = 0
      · rw [if_pos e, e2 e]
      · rw [if_neg e, rdL_no e]
theorem xsame_any (L M : LV) (s1 s2 s3 s4 t1 t2 t3 t4 : SlV) (w : World) (h : LRead w L s1 s2 s3 s4) (g : LRead w M t1 t2 t3 t4) (_hL : LvOk L) (_hM : LvOk M) :
    Calls Tryz.prog 18 #[lineV L s1 s2 s3 s4, lineV M t1 t2 t3 t4] w fun e w' => e = .returned (.bool (sameB L M)) ∧ Below w.heap.size w w' := csame_any L M s1 s2 s3 s4 t1 t2 t3 t4 w h g
theorem xcopy_any (L : LV) (s1 s2 s3 s4 : SlV) (w : World) (h : LRead w L s1 s2 s3 s4) (hL : LvOk L) :
    Calls Tryz.prog 38 #[lineV L s1 s2 s3 s4] w fun e w' => ∃ t1 t2 t3 t4, e = .returned (lineV L t1 t2 t3 t4) ∧ LRead w' L t1 t2 t3 t4 ∧ Below w.heap.size w w' :=
  (copy_any L s1 s2 s3 s4 w h hL.sz).mono fun _ _ ⟨t1, t2, t3, t4, e, hr, _, hb⟩ => ⟨t1, t2, t3, t4, e, hr, hb⟩
theorem xright_any (L : LV) (s1 s2 s3 s4 : SlV) (w : World) (h : LRead w L s1 s2 s3 s4) (hL : LvOk L) (_hl : LdT w) :
    Calls Tryz.prog 19 #[lineV L s1 s2 s3 s4] w fun e w' => e = .returned (.bool (rgB L)) ∧ Below w.heap.size w w' := cright_any L s1 s2 s3 s4 w h hL
end Go.Proofs.YtagbfklcbekceaaGreatDoor
