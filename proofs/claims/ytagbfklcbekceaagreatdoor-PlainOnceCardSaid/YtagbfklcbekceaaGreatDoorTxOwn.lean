/- Package text, Same: two lines alike but for their rows (alike), two lists of lines (slices.EqualFunc, Same). The contracts of package text. -/
import Derived.Test.YtagbfklcbekceaaGreatDoorStOwn
import Derived.Test.YtagbfklcbekceaaGreatDoorTxExact
import Derived.Test.YtagbfklcbekceaaGreatDoorTxTell
namespace Go.Proofs.YtagbfklcbekceaaGreatDoor
open Go.RowKit

/-- a line's element of a slice is loaded whole -/
theorem wpList_lineAt {ops : Array Oper} {rest : List Oper} {op : Oper} {a : Act} {w : World} {Q : Exit → Act → World → Prop} (hgd : Region.wanted op (yielded ops a.tmps) = true) (x : Operand) (ho : op.op = .load 39 x)
    (p off : Nat) (hx : a.eval x = .pointer (some ⟨p, off, none⟩)) (L : LV) (s1 s2 s3 s4 : SlV) (hb : w.rangeAt p off (lineC L s1 s2 s3 s4))
    (h : wpList Tryz.prog ops Q rest (a.put op.dst (lineV L s1 s2 s3 s4)) w) : wpList Tryz.prog ops Q (op :: rest) a w := by
  obtain ⟨d, hd1, hd2⟩ := line_desc
  refine wpList_step fun K hK => ?_
  rw [if_pos hgd]
  exact wp_load_mid 39 x ho p off hx (lineC L s1 s2 s3 s4) d hb hd1 hd2 line_size (hK _ _ h)
/-- a new box, something else assigned, and a line stored into the box: a variable of a range loop -/
theorem wpList_newlineM {ops : Array Oper} {rest : List Oper} {o1 om o2 : Oper} {a : Act} {w : World} {Q : Exit → Act → World → Prop} (hg1 : o1.guard = none) (ho1 : o1.op = .alloc 39) (hgm : om.guard = none) (m : Operand) (hom : om.op = .assign m) (hg2 : o2.guard = none) (x y : Operand) (ho2 : o2.op = .store 39 x y)
    (um : Value) (hm : (a.put o1.dst (.pointer (some ⟨w.heap.size, 0, none⟩))).eval m = um)
    (hx : ((a.put o1.dst (.pointer (some ⟨w.heap.size, 0, none⟩))).put om.dst um).eval x = .pointer (some ⟨w.heap.size, 0, none⟩)) (L : LV) (s1 s2 s3 s4 : SlV) (hy : ((a.put o1.dst (.pointer (some ⟨w.heap.size, 0, none⟩))).put om.dst um).eval y = lineV L s1 s2 s3 s4)
    (h : ∀ w9, BoxF w9 w.heap.size 17 (lc L s1 s2 s3 s4) → Below w.heap.size w w9 → wpList Tryz.prog ops Q rest (((a.put o1.dst (.pointer (some ⟨w.heap.size, 0, none⟩))).put om.dst um).put o2.dst undef) w9) : wpList Tryz.prog ops Q (o1 :: om :: o2 :: rest) a w := by
  subst hm
  exact Great.wpList_runTo hg1 o1.dst rfl _ _ (alloc_line _ o1 ho1 w) (Great.wpList_runTo hgm om.dst rfl _ _ (by unfold execOp; rw [hom]; rfl) (wpList_line hg2 x y ho2 w.heap.size hx L s1 s2 s3 s4 hy _ (zero_box w _) fun w9 h1 h2 => h w9 h1 (Below.ex ((Below.refl _ _).alloc (Nat.le_refl _) _) h2 (Nat.le_refl _) (by simp))))
theorem at_box {w : World} {q : Nat} {L : LV} {s1 s2 s3 s4 : SlV} (h : BoxF w q 17 (lc L s1 s2 s3 s4)) (r : Int) : BoxF (w.setCell ⟨q, 0, none⟩ (.int .i64 r)) q 17 (lc (L.at r) s1 s2 s3 s4) :=
  (h.set 0 (by omega) _).is (fun i hi => match i, hi with | 0, _ | 1, _ | 2, _ | 3, _ | 4, _ | 5, _ | 6, _ | 7, _ | 8, _ | 9, _ | 10, _ | 11, _ | 12, _ | 13, _ | 14, _ | 15, _ | 16, _ => rfl | i + 17, h => absurd h (by omega))
theorem LRead.at_ {w : World} {L : LV} {s1 s2 s3 s4 : SlV} (h : LRead w L s1 s2 s3 s4) (r : Int) : LRead w (L.at r) s1 s2 s3 s4 := h
set_option maxRecDepth 20000 in
set_option maxHeartbeats 4000000 in
theorem alike_any (L M : LV) (s1 s2 s3 s4 t1 t2 t3 t4 : SlV) (w : World) (h : LRead w L s1 s2 s3 s4) (g : LRead w M t1 t2 t3 t4) :
    Calls Tryz.prog 13 #[lineV L s1 s2 s3 s4, lineV M t1 t2 t3 t4] w fun e w' => e = .returned (.bool (sameB (L.at M.row) M)) ∧ Below w.heap.size w w' := by
  have H := Lib.hid h
  have G := Lib.hid g
  clear h g
  have CS := fun w' h g => csame_any (L.at M.row) M s1 s2 s3 s4 t1 t2 t3 t4 w' h g
  simp only [lineV, LV.at] at CS
  have CS := Lib.hid CS
  rw [show lineV L s1 s2 s3 s4 = .agg #[.int .i64 L.row, .int .i64 L.kind, .string (str L.dev), .string (str L.port), .string (str L.peer), .string (str L.far), .string (str L.name), .int .u64 L.mac, .int .u32 L.addr, .int .i64 L.bits, .int .i64 L.vlan, .int .i64 L.num, .int .i64 L.cost, .slice s1.A s1.n s1.c, .slice s2.A s2.n s2.c, .slice s3.A s3.n s3.c, .slice s4.A s4.n s4.c] from rfl,
    show lineV M t1 t2 t3 t4 = .agg #[.int .i64 M.row, .int .i64 M.kind, .string (str M.dev), .string (str M.port), .string (str M.peer), .string (str M.far), .string (str M.name), .int .u64 M.mac, .int .u32 M.addr, .int .i64 M.bits, .int .i64 M.vlan, .int .i64 M.num, .int .i64 M.cost, .slice t1.A t1.n t1.c, .slice t2.A t2.n t2.c, .slice t3.A t3.n t3.c, .slice t4.A t4.n t4.c] from rfl]
  go_enter Tryz.func13, Tryz.ntmps13
  go_wp2_with (go_at_call 18; (with_reducible refine (CS.out _ (H.out.below (two_alloc w _ _)) (G.out.below (two_alloc w _ _))).mono ?_); rintro e w5 ⟨rfl, hb5⟩; have B5 := Lib.hid (trans_below (two_alloc w _ _) hb5))
  go_ret
  exact ⟨rfl, B5.out⟩
theorem alike_iff {xs ys : List LV} : alike xs ys ↔ xs.length = ys.length ∧ ∀ j, j < ys.length → (xs.getD j LV.zero).at (ys.getD j LV.zero).row = ys.getD j LV.zero := by
  have key : ∀ L M : LV, L.at 0 = M.at 0 ↔ L.at M.row = M := fun L M => by
    obtain ⟨a0, a1, a2, a3, a4, a5, a6, a7, a8, a9, a10, a11, a12, a13, a14, a15, a16⟩ := L
    obtain ⟨b0, b1, b2, b3, b4, b5, b6, b7, b8, b9, b10, b11, b12, b13, b14, b15, b16⟩ := M
    simp [LV.at]
  unfold alike
  induction xs generalizing ys with
  | nil =>
    cases ys with
    | nil => simp
    | cons y ys => simp
  | cons x xs ih =>
    cases ys with
    | nil => simp
    | cons y ys =>
      simp only [List.map_cons, List.cons.injEq, List.length_cons, Nat.add_right_cancel_iff]
      rw [show (List.map (fun L => L.at 0) xs = List.map (fun L => L.at 0) ys) ↔ (xs.length = ys.length ∧ ∀ j, j < ys.length → (xs.getD j LV.zero).at (ys.getD j LV.zero).row = ys.getD j LV.zero) from ih, key]
      constructor
      · rintro ⟨h1, h2, h3⟩
        refine ⟨h2, fun j hj => ?_⟩
        cases j with
        | zero => simpa using h1
        | succ j => simpa using h3 j (by omega)
      · rintro ⟨h1, h2⟩
        exact ⟨by simpa using h2 0 (by omega), h1, fun j hj => by simpa using h2 (j + 1) (by omega)⟩
/-- are lines alike, but for their rows? -/
noncomputable def alikeB (xs ys : List LV) : Bool := @decide (alike xs ys) (Classical.propDecidable _)
theorem alikeB_yes {xs ys : List LV} (h : alike xs ys) : alikeB xs ys = true := @decide_eq_true _ (Classical.propDecidable _) h
theorem alikeB_no {xs ys : List LV} (h : ¬ alike xs ys) : alikeB xs ys = false := @decide_eq_false _ (Classical.propDecidable _) h
set_option maxRecDepth 20000 in
set_option maxHeartbeats 4000000 in
theorem eqfunc_any (A : Option Addr) (n c : Nat) (xs : List LV) (B : Option Addr) (m d : Nat) (ys : List LV) (w : World) (h : RSl lineR w (allB w) A n c xs) (g : RSl lineR w (allB w) B m d ys) :
    Calls Tryz.prog 12 #[.slice A n c, .slice B m d, .func (.func 13) #[] #[]] w fun e w' => e = .returned (.bool (alikeB xs ys)) ∧ Below w.heap.size w w' := by
  by_cases hnm : n = m
  rotate_left
  · have E := Lib.hid (show alikeB xs ys = false from alikeB_no fun e => hnm (by rw [← h.len, ← g.len]; exact (alike_iff.1 e).1))
    have ne : ((n : Int) != (m : Int)) = true := by simp; omega
    clear h g hnm
    go_enter Tryz.func12, Tryz.ntmps12
    go_wp2
    go_ret
    exact ⟨by rw [E.out]; rfl, Below.refl _ _⟩
  subst hnm
  have hle := h.le
  have hcap := h.cap
  have gle := g.le
  have gcap := g.cap
  have H := Lib.hid h
  have G := Lib.hid g
  clear h g
  go_enter Tryz.func12, Tryz.ntmps12
  go_wp2
  go_loopw [17] (fun i wr => ∃ k : Nat, i = .int .i64 k ∧ k ≤ n ∧ Below w.heap.size w wr ∧ ∀ j, j < k → (xs.getD j LV.zero).at (ys.getD j LV.zero).row = ys.getD j LV.zero) (fun i _ => match i with | .int _ x => (n - x).toNat | _ => 0)
  case atStart => exact ⟨0, rfl, by omega, Below.refl _ _, fun j hj => absurd hj (by omega)⟩
  case round =>
    obtain ⟨k, rfl, hk, hb, hj⟩ := hrel
    have W := Lib.hid hb
    have J := Lib.hid hj
    clear hb hj
    by_cases hlt : k < n
    · obtain ⟨b0, o0, s1, s2, s3, s4, rfl, hb0, l0, r0⟩ := lines_at H.out k hlt
      obtain ⟨b1, o1, t1, t2, t3, t4, rfl, hb1, l1, r1⟩ := lines_at G.out k hlt
      obtain ⟨L, hL⟩ : ∃ L, xs.getD k LV.zero = L := ⟨_, rfl⟩
      obtain ⟨M, hM⟩ : ∃ M, ys.getD k LV.zero = M := ⟨_, rfl⟩
      rw [hL] at l0 r0
      rw [hM] at l1 r1
      have HL := Lib.hid hL
      have HM := Lib.hid hM
      have KP := Lib.hid (show ∀ w', Below w.heap.size w w' → w'.rangeAt b0 (o0 + k * 17) (lineC L s1 s2 s3 s4) ∧ w'.rangeAt b1 (o1 + k * 17) (lineC M t1 t2 t3 t4) ∧ LRead w' L s1 s2 s3 s4 ∧ LRead w' M t1 t2 t3 t4 from
        fun w' hb => ⟨rangeAt_keep r0 (hb.block b0 hb0), rangeAt_keep r1 (hb.block b1 hb1), l0.below hb, l1.below hb⟩)
      have i0 : (k : Int) < (n : Int) := by omega
      obtain ⟨sb, hsb⟩ : ∃ sb, sameB (L.at M.row) M = sb := ⟨_, rfl⟩
      have SB := Lib.hid hsb
      clear l0 l1 r0 r1 hL hM hsb
      cases sb with
      | true =>
        go_wp2_with (first
          | ((with_reducible refine wpList_lineAt ?hg (.tmp 20) ?ho b0 (o0 + k * 17) ?hx L s1 s2 s3 s4 (KP.out _ W.out).1 ?_); (case hg => rfl); (case ho => rfl); (case hx => rfl))
          | ((with_reducible refine wpList_newlineM rfl rfl rfl (.tmp 19) rfl rfl (.tmp 8) (.tmp 21) rfl (.int .i64 (k : Int)) ?hm ?hx L s1 s2 s3 s4 ?hy ?_); (case hm => rfl); (case hx => rfl); (case hy => rfl); intro w3 x3 y3; have X3 := Lib.hid x3; have W3 := Lib.hid (trans_below W.out y3); clear x3 y3)
          | ((with_reducible refine wpList_lineAt ?hg (.tmp 24) ?ho b1 (o1 + k * 17) ?hx M t1 t2 t3 t4 (KP.out _ W3.out).2.1 ?_); (case hg => rfl); (case ho => rfl); (case hx => rfl))
          | ((with_reducible refine wpList_newline (w := w3) rfl rfl rfl (.tmp 9) (.tmp 25) rfl ?hx M t1 t2 t3 t4 ?hy ?_); (case hx => rfl); (case hy => rfl); intro w4 x4 y4; have X4 := Lib.hid x4; have X34 := Lib.hid (X3.out.below (by omega) y4); have W4 := Lib.hid (trans_below W3.out y4); clear x4 y4)
          | ((with_reducible refine wpList_lineOf ?hg (.tmp 8) ?ho wr.heap.size ?hx L s1 s2 s3 s4 X34.out ?_); (case hg => rfl); (case ho => rfl); (case hx => rfl))
          | ((with_reducible refine wpList_lineOf ?hg (.tmp 9) ?ho w3.heap.size ?hx M t1 t2 t3 t4 X4.out ?_); (case hg => rfl); (case ho => rfl); (case hx => rfl))
          | (go_at_call 13; (with_reducible refine (alike_any L M s1 s2 s3 s4 t1 t2 t3 t4 _ (KP.out _ W4.out).2.2.1 (KP.out _ W4.out).2.2.2).mono ?_); rintro e w5 ⟨rfl, hb5⟩; rw [SB.out]; have W5 := Lib.hid (trans_below W4.out hb5); clear hb5))
        go_roundw
        case rel =>
          refine ⟨k + 1, by simp, by omega, W5.out, fun j hj => ?_⟩
          rcases Nat.lt_or_ge j k with h' | h'
          · exact J.out j h'
          · obtain rfl : j = k := by omega
            rw [HL.out, HM.out]
            exact (sameB_iff _ _).1 SB.out
        case measure => simp only []; omega
      | false =>
        have E := Lib.hid (show alikeB xs ys = false from alikeB_no fun e => by
          have h2 := (alike_iff.1 e).2 k (by rw [G.out.len]; exact hlt)
          rw [HL.out, HM.out] at h2
          have h3 := (sameB_iff _ _).2 h2
          rw [SB.out] at h3
          cases h3)
        go_wp2_with (first
          | ((with_reducible refine wpList_lineAt ?hg (.tmp 20) ?ho b0 (o0 + k * 17) ?hx L s1 s2 s3 s4 (KP.out _ W.out).1 ?_); (case hg => rfl); (case ho => rfl); (case hx => rfl))
          | ((with_reducible refine wpList_newlineM rfl rfl rfl (.tmp 19) rfl rfl (.tmp 8) (.tmp 21) rfl (.int .i64 (k : Int)) ?hm ?hx L s1 s2 s3 s4 ?hy ?_); (case hm => rfl); (case hx => rfl); (case hy => rfl); intro w3 x3 y3; have X3 := Lib.hid x3; have W3 := Lib.hid (trans_below W.out y3); clear x3 y3)
          | ((with_reducible refine wpList_lineAt ?hg (.tmp 24) ?ho b1 (o1 + k * 17) ?hx M t1 t2 t3 t4 (KP.out _ W3.out).2.1 ?_); (case hg => rfl); (case ho => rfl); (case hx => rfl))
          | ((with_reducible refine wpList_newline (w := w3) rfl rfl rfl (.tmp 9) (.tmp 25) rfl ?hx M t1 t2 t3 t4 ?hy ?_); (case hx => rfl); (case hy => rfl); intro w4 x4 y4; have X4 := Lib.hid x4; have X34 := Lib.hid (X3.out.below (by omega) y4); have W4 := Lib.hid (trans_below W3.out y4); clear x4 y4)
          | ((with_reducible refine wpList_lineOf ?hg (.tmp 8) ?ho wr.heap.size ?hx L s1 s2 s3 s4 X34.out ?_); (case hg => rfl); (case ho => rfl); (case hx => rfl))
          | ((with_reducible refine wpList_lineOf ?hg (.tmp 9) ?ho w3.heap.size ?hx M t1 t2 t3 t4 X4.out ?_); (case hg => rfl); (case ho => rfl); (case hx => rfl))
          | (go_at_call 13; (with_reducible refine (alike_any L M s1 s2 s3 s4 t1 t2 t3 t4 _ (KP.out _ W4.out).2.2.1 (KP.out _ W4.out).2.2.2).mono ?_); rintro e w5 ⟨rfl, hb5⟩; rw [SB.out]; have W5 := Lib.hid (trans_below W4.out hb5); clear hb5))
        go_ret
        exact ⟨by rw [E.out]; rfl, W5.out⟩
    · have E := Lib.hid (show alikeB xs ys = true from alikeB_yes (alike_iff.2 ⟨by rw [H.out.len, G.out.len], fun j hj => J.out j (by rw [G.out.len] at hj; omega)⟩))
      go_wp2
      go_ret
      exact ⟨by rw [E.out]; rfl, W.out⟩
theorem xtsame_any (A : Option Addr) (n c : Nat) (xs : List LV) (B : Option Addr) (m d : Nat) (ys : List LV) (w : World) (h : RSl lineR w (allB w) A n c xs) (g : RSl lineR w (allB w) B m d ys) (_hn : n ≤ 1000) (_hm : m ≤ 1000) :
    Calls Tryz.prog 7 #[.slice A n c, .slice B m d] w fun e w' => e = .returned (.bool (alikeB xs ys)) ∧ Below w.heap.size w w' := by
  have E := Lib.hid (eqfunc_any A n c xs B m d ys w h g)
  clear h g
  go_enter Tryz.func7, Tryz.ntmps7
  go_wp2_with (go_at_call 12; (with_reducible refine E.out.mono ?_); rintro e w1 ⟨rfl, b1⟩)
  go_ret
  exact ⟨rfl, b1⟩
end Go.Proofs.YtagbfklcbekceaaGreatDoor

namespace Go.Proofs.YtagbfklcbekceaaGreatDoor
open Go.RowKit

theorem xtext_any (A : Option Addr) (n c : Nat) (l : List UInt8) (w : World) (h : BSl w A n c l) (hl : LdT w) : Calls Tryz.prog 5 #[.slice A n c] w (GotText w (txV l)) := by
  refine text_run A n c l w h hl (txV l) (fun e => ?_) (fun e => ?_)
  · unfold txV; rw [if_pos e]
  · unfold txV; rw [if_neg e]
end Go.Proofs.YtagbfklcbekceaaGreatDoor
