/- The contracts of palingref12.Exact and of palingref12.Same at any two lists of lines. The contract of palinglaw12.Great: whatever it says, more than 400 lines are too many. The walk of TextSames. -/
import Derived.Test.YtcpakmkfnnbgeaaGreatDoorTxOwn
import Derived.Test.YtcpakmkfnnbgeaaGreatDoorStSameR
import Derived.Test.YtcpakmkfnnbgeaaGreatDoorTxExact
import Derived.Test.YtcpakmkfnnbgeaaGreatDoorSeqF
import Derived.Test.YtcpakmkfnnbgeaaGreatDoorTxWorks
namespace Go.Proofs.YtcpakmkfnnbgeaaGreatDoor
open Go.RowKit

/-- are they the same lines? -/
noncomputable def exB (xs ys : List LV) : Bool := @decide (xs = ys) (Classical.propDecidable _)
theorem exB_yes {xs ys : List LV} (h : xs = ys) : exB xs ys = true := @decide_eq_true _ (Classical.propDecidable _) h
theorem exB_no {xs ys : List LV} (h : ¬ xs = ys) : exB xs ys = false := @decide_eq_false _ (Classical.propDecidable _) h
set_option maxRecDepth 20000 in
set_option maxHeartbeats 4000000 in
theorem rexact_any (A : Option Addr) (m c : Nat) (xs : List LV) (B : Option Addr) (d : Nat) (ys : List LV) (w : World) (h : RSl lineR w (allB w) A m c xs) (g : RSl lineR w (allB w) B m d ys) :
    Calls Tryz.prog 10 #[.slice A m c, .slice B m d] w fun e w' => e = .returned (.bool (exB xs ys)) ∧ Below w.heap.size w w' := by
  have hle := h.le
  have hcap := h.cap
  have gle := g.le
  have gcap := g.cap
  have H := Lib.hid h
  have G := Lib.hid g
  clear h g
  go_enter Tryz.func10, Tryz.ntmps10
  go_wp2
  go_loopw [5] (fun i wr => ∃ k : Nat, i = .int .i64 k ∧ k ≤ m ∧ Below w.heap.size w wr ∧ ∀ j, j < k → xs.getD j LV.zero = ys.getD j LV.zero) (fun i _ => match i with | .int _ x => (m - x).toNat | _ => 0)
  case atStart => exact ⟨0, rfl, by omega, Below.refl _ _, fun j hj => absurd hj (by omega)⟩
  case round =>
    obtain ⟨k, rfl, hk, hb, hj⟩ := hrel
    have W := Lib.hid hb
    have J := Lib.hid hj
    clear hb hj
    by_cases hlt : k < m
    · obtain ⟨b0, o0, s1, s2, s3, s4, rfl, hb0, l0, r0⟩ := lines_at H.out k hlt
      obtain ⟨b1, o1, t1, t2, t3, t4, rfl, hb1, l1, r1⟩ := lines_at G.out k hlt
      obtain ⟨L, hL⟩ : ∃ L, xs.getD k LV.zero = L := ⟨_, rfl⟩
      obtain ⟨M, hM⟩ : ∃ M, ys.getD k LV.zero = M := ⟨_, rfl⟩
      rw [hL] at l0 r0
      rw [hM] at l1 r1
      have HL := Lib.hid hL
      have HM := Lib.hid hM
      have KP := Lib.hid (show ∀ w', Below w.heap.size w w' → w'.rangeAt b0 (o0 + k * 17) (lineC L s1 s2 s3 s4) ∧ w'.rangeAt b1 (o1 + k * 17) (lineC M t1 t2 t3 t4) ∧ LRead w' L s1 s2 s3 s4 ∧ LRead w' M t1 t2 t3 t4 from
        fun w' hb => ⟨rangeAt_keep r0 (hb.block b0 hb0), rangeAt_keep r1 (hb.block b1 hb1), l0.below hb, l1.below hb⟩)
      have i0 : (k : Int) < (m : Int) := by omega
      have W1 := Lib.hid (show Below w.heap.size w wr.drew from below_drewN W.out 1)
      obtain ⟨sb, hsb⟩ : ∃ sb, sameB L M = sb := ⟨_, rfl⟩
      have RS := Lib.hid (fun w h g => rsame_any L M s1 s2 s3 s4 t1 t2 t3 t4 w h g)
      rw [hsb] at RS
      have SB := Lib.hid hsb
      clear l0 l1 r0 r1 hL hM hsb
      cases sb with
      | true =>
        go_wp2
        refine wp_region_text (fun w' => Below w.heap.size w w') (by kernel_rfl) (by kernel_rfl) W1.out ?_
        repeat
          first
            | (refine Seq.pass rfl ?_; simp only [Act.put, List.setIfInBounds_toArray, List.set_cons_zero, List.set_cons_succ])
            | (refine Seq.run ?_ rfl (fun wx hx => ?_) ?_
               rotate_left
               · have K := KP.out wx hx
                 first
                   | (refine step_line (x := .tmp 19) K.1 hx ?_ ?_ <;> rfl)
                   | (refine step_line (x := .tmp 23) K.2.1 hx ?_ ?_ <;> rfl)
                   | (go_simp
                      first
                        | (refine StepRun.val ?_; exact hx)
                        | (refine StepRun.call (v := .bool true) ?_; (with_reducible refine Calls.mono (RS.out _ K.2.2.1 K.2.2.2) ?_); rintro e w' ⟨rfl, hb⟩; exact ⟨rfl, trans_below hx hb⟩))
               simp only [Act.put, List.setIfInBounds_toArray, List.set_cons_zero, List.set_cons_succ])
        refine Seq.last (fun w5 W5 => ?_)
        go_wp2
        go_roundw
        case rel =>
          refine ⟨k + 1, by simp, by omega, W5, fun j hj => ?_⟩
          rcases Nat.lt_or_ge j k with h' | h'
          · exact J.out j h'
          · obtain rfl : j = k := by omega
            rw [HL.out, HM.out]
            exact (sameB_iff _ _).1 SB.out
        case measure => simp only []; omega
      | false =>
        have E := Lib.hid (show exB xs ys = false from exB_no fun e => by
          have h3 : sameB L M = true := (sameB_iff _ _).2 (by rw [← HL.out, ← HM.out, e])
          rw [SB.out] at h3
          cases h3)
        go_wp2
        refine wp_region_text (fun w' => Below w.heap.size w w') (by kernel_rfl) (by kernel_rfl) W1.out ?_
        repeat
          first
            | (refine Seq.pass rfl ?_; simp only [Act.put, List.setIfInBounds_toArray, List.set_cons_zero, List.set_cons_succ])
            | (refine Seq.run ?_ rfl (fun wx hx => ?_) ?_
               rotate_left
               · have K := KP.out wx hx
                 first
                   | (refine step_line (x := .tmp 19) K.1 hx ?_ ?_ <;> rfl)
                   | (refine step_line (x := .tmp 23) K.2.1 hx ?_ ?_ <;> rfl)
                   | (go_simp
                      first
                        | (refine StepRun.val ?_; exact hx)
                        | (refine StepRun.call (v := .bool false) ?_; (with_reducible refine Calls.mono (RS.out _ K.2.2.1 K.2.2.2) ?_); rintro e w' ⟨rfl, hb⟩; exact ⟨rfl, trans_below hx hb⟩))
               simp only [Act.put, List.setIfInBounds_toArray, List.set_cons_zero, List.set_cons_succ])
        refine Seq.last (fun w5 W5 => ?_)
        go_wp2
        go_ret
        exact ⟨by rw [E.out]; rfl, W5⟩
    · have E := Lib.hid (show exB xs ys = true from exB_yes (by
        apply List.ext_getElem?
        intro j
        by_cases hj : j < m
        · have h1 := J.out j (by omega)
          have a1 : j < xs.length := by rw [H.out.len]; exact hj
          have a2 : j < ys.length := by rw [G.out.len]; exact hj
          simp only [List.getD, List.getElem?_eq_getElem a1, List.getElem?_eq_getElem a2, Option.getD_some] at h1 ⊢
          rw [h1]
        · rw [List.getElem?_eq_none (by rw [H.out.len]; omega), List.getElem?_eq_none (by rw [G.out.len]; omega)]))
      go_wp2
      go_ret
      exact ⟨by rw [E.out]; rfl, W.out⟩
theorem line_of_read {w : World} {L : LV} {s1 s2 s3 s4 : SlV} (h : LRead w L s1 s2 s3 s4) : lineR.rd w (allB w) (lineC L s1 s2 s3 s4) L := by
  have key : ∀ (k : IntKind) (s : SlV) (xs : List Int), ISl w k s.A s.n s.c xs → NSl w (allB w) k s xs := fun k s xs hi => ⟨hi, fun hn ad e => by
    obtain ⟨b, off, e2, hb, _⟩ := hi.2.2.2 hn
    rw [e] at e2
    cases e2
    exact hb⟩
  exact ⟨s1, s2, s3, s4, rfl, key _ _ _ h.1, key _ _ _ h.2.1, key _ _ _ h.2.2.1, key _ _ _ h.2.2.2⟩
/-- the other's rows put in: up to k -/
def mixL (xs ys : List LV) (k : Nat) : List LV := (List.range k).map fun j => (xs.getD j LV.zero).at (ys.getD j LV.zero).row
theorem mixL_len (xs ys : List LV) (k : Nat) : (mixL xs ys k).length = k := by simp [mixL]
theorem mixL_next (xs ys : List LV) (k : Nat) : mixL xs ys (k + 1) = mixL xs ys k ++ [(xs.getD k LV.zero).at (ys.getD k LV.zero).row] := by simp [mixL, List.range_succ]
theorem mixL_alike (xs ys : List LV) (h : xs.length = ys.length) : exB (mixL xs ys ys.length) ys = alikeB xs ys := by
  have key : mixL xs ys ys.length = ys ↔ alike xs ys := by
    rw [alike_iff]
    constructor
    · intro e
      refine ⟨h, fun j hj => ?_⟩
      have := congrArg (fun l => l.getD j LV.zero) e
      simpa [mixL, List.getD, List.getElem?_range, hj] using this
    · rintro ⟨_, g⟩
      apply List.ext_getElem?
      intro j
      by_cases hj : j < ys.length
      · have h1 := g j hj
        rw [mixL, List.getElem?_map, List.getElem?_range hj, Option.map_some, h1]
        simp [List.getD, hj]
      · rw [List.getElem?_eq_none (by rw [mixL_len]; omega), List.getElem?_eq_none (by omega)]
  by_cases e : alike xs ys
  · rw [alikeB_yes e, exB_yes (key.2 e)]
  · rw [alikeB_no e, exB_no fun h => e (key.1 h)]
set_option maxRecDepth 20000 in
set_option maxHeartbeats 4000000 in
theorem rsames_any (A : Option Addr) (n c : Nat) (xs : List LV) (B : Option Addr) (m d : Nat) (ys : List LV) (w : World) (h : RSl lineR w (allB w) A n c xs) (g : RSl lineR w (allB w) B m d ys) (hn : n ≤ 1000) (hm : m ≤ 1000) :
    Calls Tryz.prog 13 #[.slice A n c, .slice B m d] w fun e w' => e = .returned (.bool (alikeB xs ys)) ∧ Below w.heap.size w w' := by
  have hle := h.le
  have hcap := h.cap
  have gle := g.le
  have gcap := g.cap
  have H := Lib.hid h
  have G := Lib.hid g
  clear h g
  go_enter Tryz.func13, Tryz.ntmps13
  go_wp2
  go_loopw [5, 6] (fun v i wr => ∃ k : Nat, i = .int .i64 k ∧ k ≤ n ∧ k ≤ m ∧ ROwn lineR wr w.heap.size 38 v (mixL xs ys k) ∧ Below w.heap.size w wr) (fun _ i _ => match i with | .int _ x => (n - x).toNat | _ => 0)
  case atStart => exact ⟨0, rfl, by omega, by omega, ROwn.nil _ _ _, Below.refl _ _⟩
  case round =>
    obtain ⟨k, rfl, hk, hk2, ho, hb⟩ := hrel
    obtain ⟨Av, cv, hv⟩ := ho.shape
    rw [mixL_len] at hv
    subst hv
    have O := Lib.hid ho
    have W := Lib.hid hb
    clear ho hb
    by_cases hlt : k < n ∧ k < m
    · obtain ⟨b0, o0, s1, s2, s3, s4, rfl, hb0, l0, r0⟩ := lines_at H.out k hlt.1
      obtain ⟨b1, o1, t1, t2, t3, t4, rfl, hb1, l1, r1⟩ := lines_at G.out k hlt.2
      obtain ⟨L, hL⟩ : ∃ L, xs.getD k LV.zero = L := ⟨_, rfl⟩
      obtain ⟨M, hM⟩ : ∃ M, ys.getD k LV.zero = M := ⟨_, rfl⟩
      rw [hL] at l0 r0
      rw [hM] at r1
      have NX := Lib.hid (show mixL xs ys (k + 1) = mixL xs ys k ++ [L.at M.row] by rw [mixL_next, hL, hM])
      have R0 := Lib.hid (show wr.rangeAt b0 (o0 + k * 17) (lineC L s1 s2 s3 s4) from rangeAt_keep r0 (W.out.block b0 hb0))
      have C1 := Lib.hid (show ∀ w', Below w.heap.size w w' → w'.cell? ⟨b1, o1 + k * 17, none⟩ = some (.int .i64 M.row) from fun w' hb => (hb.cell (p := ⟨b1, o1 + k * 17, none⟩) hb1).trans (r1 0 _ rfl))
      have N0 := Lib.hid (line_of_read (l0.at_ M.row))
      have i0 : (k : Int) < (n : Int) := by omega
      have i1 : (k : Int) < (m : Int) := by omega
      have ML := Lib.hid (mixL_len xs ys k)
      clear l0 l1 r0 r1 hL hM
      go_wp2_with (first
        | ((with_reducible refine wpList_lineAt ?hg (.tmp 22) ?ho b0 (o0 + k * 17) ?hx L s1 s2 s3 s4 R0.out ?_); (case hg => rfl); (case ho => rfl); (case hx => rfl))
        | ((with_reducible refine wpList_newline (w := wr) rfl rfl rfl (.tmp 7) (.tmp 23) rfl ?hx L s1 s2 s3 s4 ?hy ?_); (case hx => rfl); (case hy => rfl); intro w3 x3 y3; have c3 := C1.out _ (trans_below W.out y3); have d3 := x3.cell 0 (by omega); have f3 := x3.2 0; have hq : wr.heap.size < w3.heap.size := x3.lt (by omega); have X5 := Lib.hid (at_box x3 M.row); have W5 := Lib.hid (y3.setCell (p := ⟨wr.heap.size, 0, none⟩) (Nat.le_refl _) (.int .i64 M.row)); have V5 := Lib.hid (trans_below W.out W5.out); have O5 := Lib.hid (O.out.below W5.out); have N5 := Lib.hid (lineR.keep (F' := allB w) N0.out (fun b hb => V5.out.block b hb) (fun b hb => hb)); have F5 := Lib.hid (show ∀ b, allB w b → offRow (w3.setCell ⟨wr.heap.size, 0, none⟩ (.int .i64 M.row)) (.slice Av k cv) b from fun b hb => ⟨Nat.lt_of_lt_of_le hb V5.out.size, fun e => by { have h1 := (O.out.lt b e).1; have h2 : b < w.heap.size := hb; omega }⟩); have hz := V5.out.size; clear x3 y3)
        | ((with_reducible refine wpList_lineOf ?hg (.tmp 7) ?ho wr.heap.size ?hx (L.at M.row) s1 s2 s3 s4 X5.out ?_); (case hg => rfl); (case ho => rfl); (case hx => rfl))
        | ((with_reducible refine wpList_lineSl rfl (.tmp 31) rfl (L.at M.row) s1 s2 s3 s4 ?hx ?_); (case hx => rfl))
        | (at_builtin; (with_reducible refine wpList_lapp rfl (.tmp 30) (.tmp 32) rfl w.heap.size _ (mixL xs ys k) O5.out (L.at M.row) s1 s2 s3 s4 _ N5.out F5.out ?hn V5.out.size ?hs ?hx ?_); (case hn => rw [ML.out]; omega); (case hs => rfl); (case hx => rfl); intro v6 w6 o6 b6; have O6 := Lib.hid o6; have V6 := Lib.hid (V5.out.trans b6); clear o6 b6))
      go_roundw
      case rel => exact ⟨k + 1, by simp, by omega, by omega, by rw [NX.out]; exact O6.out, V6.out⟩
      case measure => simp only []; omega
    · by_cases hnm : n = m
      · subst hnm
        have hkn : k = n := by omega
        subst hkn
        have E := Lib.hid (show exB (mixL xs ys k) ys = alikeB xs ys by
          have := mixL_alike xs ys (by rw [H.out.len, G.out.len])
          rwa [G.out.len] at this)
        have RX := Lib.hid (rexact_any Av k cv (mixL xs ys k) B d ys wr O.out.read (G.out.keep (fun b hb => W.out.block b hb) (fun b hb => Nat.lt_of_lt_of_le hb W.out.size)))
        have i0 : ¬ (k : Int) < (k : Int) := by omega
        have z : ((k : Int) == (k : Int)) = true := by simp
        go_wp2_with (go_at_call 10; (with_reducible refine RX.out.mono ?_); rintro e w5 ⟨rfl, hb5⟩; have W5 := Lib.hid (trans_below W.out hb5))
        go_ret
        exact ⟨by rw [E.out]; rfl, W5.out⟩
      · have E := Lib.hid (show alikeB xs ys = false from alikeB_no fun e => hnm (by rw [← H.out.len, ← G.out.len]; exact (alike_iff.1 e).1))
        have z : ((n : Int) == (m : Int)) = false := by simp; omega
        by_cases hkn : k < n
        · have i0 : (k : Int) < (n : Int) := by omega
          have i1 : ¬ (k : Int) < (m : Int) := by omega
          go_wp2
          go_ret
          exact ⟨by rw [E.out]; rfl, W.out⟩
        · have i0 : ¬ (k : Int) < (n : Int) := by omega
          go_wp2
          go_ret
          exact ⟨by rw [E.out]; rfl, W.out⟩
end Go.Proofs.YtcpakmkfnnbgeaaGreatDoor

namespace Go.Proofs.YtcpakmkfnnbgeaaGreatDoor
open Go.RowKit

/-- nine numbers in a block -/
def NineI (w : World) (q : Nat) : Prop := q < w.heap.size ∧ ∀ j, j < 9 → ∃ z, w.cell? ⟨q, j, none⟩ = some (.int .i64 z)
theorem nine_new (w : World) (T : TypeId) (z0 z1 z2 z3 z4 z5 z6 z7 z8 : Int) {q : Nat} (hq : w.heap.size = q) : NineI (w.alloc (.cells #[.int .i64 z0, .int .i64 z1, .int .i64 z2, .int .i64 z3, .int .i64 z4, .int .i64 z5, .int .i64 z6, .int .i64 z7, .int .i64 z8] T)) q := by
  subst hq
  refine ⟨by simp, fun j hj => ?_⟩
  match j, hj with
  | 0, _ => exact ⟨z0, by simp⟩
  | 1, _ => exact ⟨z1, by simp⟩
  | 2, _ => exact ⟨z2, by simp⟩
  | 3, _ => exact ⟨z3, by simp⟩
  | 4, _ => exact ⟨z4, by simp⟩
  | 5, _ => exact ⟨z5, by simp⟩
  | 6, _ => exact ⟨z6, by simp⟩
  | 7, _ => exact ⟨z7, by simp⟩
  | 8, _ => exact ⟨z8, by simp⟩
  | j + 9, h => exact absurd h (by omega)
set_option maxRecDepth 20000 in
set_option maxHeartbeats 8000000 in
theorem great_any (A : Option Addr) (n c : Nat) (xs : List LV) (w : World) (h : RSl lineR w (allB w) A n c xs) :
    Calls Tryz.prog 11 #[.slice A n c] w fun e w' => ∃ g, e = .returned (.bool g) ∧ (g = false → n ≤ 400) ∧ Below w.heap.size w w' := by
  have hle := h.le
  have hcap := h.cap
  have H := Lib.hid h
  clear h
  by_cases h4 : 400 < n
  · have i0 : (400 : Int) < (n : Int) := by omega
    go_enter Tryz.func11, Tryz.ntmps11
    go_wp2
    go_ret
    exact ⟨true, rfl, fun e => (by cases e), Below.refl _ _⟩
  have i0 : ¬ (400 : Int) < (n : Int) := by omega
  go_enter Tryz.func11, Tryz.ntmps11
  go_wp2
  go_loopw [3, 4] (fun s i wr => ∃ (k : Nat) (z : Int), i = .int .i64 k ∧ s = .int .i64 z ∧ k ≤ n ∧ Below w.heap.size w wr) (fun _ i _ => match i with | .int _ x => (n - x).toNat | _ => 0)
  case atStart => exact ⟨0, 0, rfl, rfl, by omega, Below.refl _ _⟩
  case round =>
    obtain ⟨k, z, rfl, rfl, hk, hb⟩ := hrel
    have W := Lib.hid hb
    clear hb
    by_cases hlt : k < n
    · obtain ⟨b0, o0, s1, s2, s3, s4, rfl, hb0, l0, r0⟩ := lines_at H.out k hlt
      obtain ⟨L, hL⟩ : ∃ L, xs.getD k LV.zero = L := ⟨_, rfl⟩
      rw [hL] at r0
      have R0 := rangeAt_keep r0 (W.out.block b0 hb0)
      have c2 : wr.cell? ⟨b0, o0 + k * 17 + 2, none⟩ = some (.string (str L.dev)) := R0 2 _ rfl
      have c3 : wr.cell? ⟨b0, o0 + k * 17 + 3, none⟩ = some (.string (str L.port)) := R0 3 _ rfl
      have c4 : wr.cell? ⟨b0, o0 + k * 17 + 4, none⟩ = some (.string (str L.peer)) := R0 4 _ rfl
      have c5 : wr.cell? ⟨b0, o0 + k * 17 + 5, none⟩ = some (.string (str L.far)) := R0 5 _ rfl
      have c6 : wr.cell? ⟨b0, o0 + k * 17 + 6, none⟩ = some (.string (str L.name)) := R0 6 _ rfl
      have c13 : wr.cell? ⟨b0, o0 + k * 17 + 13, none⟩ = some (.slice s1.A s1.n s1.c) := R0 13 _ rfl
      have c14 : wr.cell? ⟨b0, o0 + k * 17 + 14, none⟩ = some (.slice s2.A s2.n s2.c) := R0 14 _ rfl
      have c15 : wr.cell? ⟨b0, o0 + k * 17 + 15, none⟩ = some (.slice s3.A s3.n s3.c) := R0 15 _ rfl
      have c16 : wr.cell? ⟨b0, o0 + k * 17 + 16, none⟩ = some (.slice s4.A s4.n s4.c) := R0 16 _ rfl
      have i1 : (k : Int) < (n : Int) := by omega
      clear l0 r0 R0 hL
      have KP := Lib.hid (show ∀ wx, Below wr.heap.size wr wx → wx.cell? ⟨b0, o0 + k * 17 + 2, none⟩ = some (.string (str L.dev)) ∧ wx.cell? ⟨b0, o0 + k * 17 + 3, none⟩ = some (.string (str L.port)) ∧ wx.cell? ⟨b0, o0 + k * 17 + 4, none⟩ = some (.string (str L.peer)) ∧ wx.cell? ⟨b0, o0 + k * 17 + 5, none⟩ = some (.string (str L.far)) ∧ wx.cell? ⟨b0, o0 + k * 17 + 6, none⟩ = some (.string (str L.name)) ∧ wx.cell? ⟨b0, o0 + k * 17 + 13, none⟩ = some (.slice s1.A s1.n s1.c) ∧ wx.cell? ⟨b0, o0 + k * 17 + 14, none⟩ = some (.slice s2.A s2.n s2.c) ∧ wx.cell? ⟨b0, o0 + k * 17 + 15, none⟩ = some (.slice s3.A s3.n s3.c) ∧ wx.cell? ⟨b0, o0 + k * 17 + 16, none⟩ = some (.slice s4.A s4.n s4.c) from
        fun wx hx => by
          have hbr : b0 < wr.heap.size := Nat.lt_of_lt_of_le hb0 W.out.size
          exact ⟨(hx.cell (p := ⟨b0, _, none⟩) hbr).trans c2, (hx.cell (p := ⟨b0, _, none⟩) hbr).trans c3, (hx.cell (p := ⟨b0, _, none⟩) hbr).trans c4, (hx.cell (p := ⟨b0, _, none⟩) hbr).trans c5, (hx.cell (p := ⟨b0, _, none⟩) hbr).trans c6, (hx.cell (p := ⟨b0, _, none⟩) hbr).trans c13, (hx.cell (p := ⟨b0, _, none⟩) hbr).trans c14, (hx.cell (p := ⟨b0, _, none⟩) hbr).trans c15, (hx.cell (p := ⟨b0, _, none⟩) hbr).trans c16⟩)
      clear c2 c3 c4 c5 c6 c13 c14 c15 c16
      go_wp2
      refine wp_region_makes (fun f wx => Below wr.heap.size wr wx ∧ (f = true → NineI wx wr.heap.size) ∧ (f = false → wx.heap.size = wr.heap.size)) 54 (by kernel_rfl) (by kernel_rfl) (by decide) ⟨(Below.refl _ _).drew, fun h => (by cases h), fun _ => rfl⟩ ?_
      repeat
        first
          | (refine SeqF.run ?_ rfl (by decide) (fun f wx hx => ?_) ?_
             rotate_left
             · obtain ⟨c2, c3, c4, c5, c6, c13, c14, c15, c16⟩ := KP.out wx hx.1
               go_simp
               refine StepRun.val ?_; exact hx
             simp only [Act.put, List.setIfInBounds_toArray, List.set_cons_zero, List.set_cons_succ])
      refine SeqF.make (.slice (some ⟨wr.heap.size, 0, none⟩) 9 9) rfl rfl (fun wx hx => ?_) ?_
      · have hs := hx.2.2 rfl
        go_simp
        exact ⟨rfl, hx.1.alloc (by omega) _, nine_new wx _ _ _ _ _ _ _ _ _ _ hs⟩
      simp only [Act.put, List.setIfInBounds_toArray, List.set_cons_zero, List.set_cons_succ]
      repeat
        first
          | (refine SeqF.run ?_ rfl (by decide) (fun f wx hx => ?_) ?_
             rotate_left
             · obtain ⟨c2, c3, c4, c5, c6, c13, c14, c15, c16⟩ := KP.out wx hx.1
               go_simp
               refine StepRun.val ?_; exact hx
             simp only [Act.put, List.setIfInBounds_toArray, List.set_cons_zero, List.set_cons_succ])
      refine SeqF.last (fun w5 h5 => ?_)
      have W5 := Lib.hid (trans_below W.out h5.1)
      have NI := Lib.hid (h5.2.1 rfl)
      clear h5
      go_wp2
      go_loopw [3, 72] (fun s j wq => ∃ (jn : Nat) (z2 : Int), j = .int .i64 jn ∧ s = .int .i64 z2 ∧ jn ≤ 9 ∧ wq = w5) (fun _ j _ => match j with | .int _ x => (9 - x).toNat | _ => 0)
      case atStart => exact ⟨0, z, rfl, rfl, by omega, rfl⟩
      case round =>
        obtain ⟨jn, z2, rfl, rfl, hj, hwq⟩ := hrel
        subst hwq
        by_cases hj9 : jn < 9
        · obtain ⟨zj, hz⟩ := NI.out.2 jn hj9
          have i2 : (jn : Int) < 9 := by omega
          by_cases h3 : 300 < zj
          · go_wp2
            go_ret
            exact ⟨true, rfl, fun e => (by cases e), W5.out⟩
          · go_wp2
            go_roundw
            case rel => exact ⟨jn + 1, _, by simp, rfl, by omega, trivial⟩
            case measure => simp only []; omega
        · have i2 : ¬ (jn : Int) < 9 := by omega
          go_wp2
          go_roundw
          case rel => exact ⟨k + 1, z2, by simp, rfl, by omega, W5.out⟩
          case measure => simp only []; omega
    · go_wp2
      go_ret
      exact ⟨_, rfl, fun _ => by omega, W.out⟩
end Go.Proofs.YtcpakmkfnnbgeaaGreatDoor

namespace Go.Proofs.YtcpakmkfnnbgeaaGreatDoor
open Go.RowKit

set_option maxRecDepth 20000 in
set_option maxHeartbeats 4000000 in
theorem tsames_walk (A : Option Addr) (n c : Nat) (xs : List LV) (B : Option Addr) (m d : Nat) (ys : List LV) (w : World) (h : RSl lineR w (allB w) A n c xs) (g : RSl lineR w (allB w) B m d ys) (hl : LdT w) :
    Calls Tryz.prog 4 #[.slice A n c, .slice B m d] w fun e w' => e = .returned (.bool true) ∧ Below w.heap.size w w' := by
  have H := Lib.hid h
  have G := Lib.hid g
  have HL := Lib.hid hl
  have KP := Lib.hid (show ∀ w', Below w.heap.size w w' → RSl lineR w' (allB w') A n c xs ∧ RSl lineR w' (allB w') B m d ys ∧ LdT w' from fun w' hb =>
    ⟨h.keep (fun b h => hb.block b h) (fun b h => Nat.lt_of_lt_of_le h hb.size), g.keep (fun b h => hb.block b h) (fun b h => Nat.lt_of_lt_of_le h hb.size), hl.below hb⟩)
  clear h g hl
  have GA := Lib.hid (great_any A n c xs w H.out)
  have YES := Lib.hid (show ((alikeB xs ys == alikeB xs ys) = true) ∧ alikeB xs xs = true from ⟨by simp, alikeB_yes rfl⟩)
  go_enter Tryz.func4, Tryz.ntmps4
  go_wp2_with (first
    | (go_at_call 11; (with_reducible refine GA.out.mono ?_); rintro e w1 ⟨ga, rfl, hga, b1⟩; have B1 := Lib.hid b1; have A1 := Lib.hid hga; clear b1 hga; cases ga))
  · go_wp2_with (first
      | (go_at_call 11; (with_reducible refine (great_any B m d ys _ (KP.out _ B1.out).2.1).mono ?_); rintro e w2 ⟨gb, rfl, hgb, b2⟩; have B2 := Lib.hid (trans_below B1.out b2); have A2 := Lib.hid hgb; clear b2 hgb; cases gb))
    · have hn : n ≤ 400 := by simpa using A1.out
      have hm : m ≤ 400 := by simpa using A2.out
      have y1 := YES.out.1
      have y2 := YES.out.2
      go_wp2_with (first
        | (go_at_call 12; (with_reducible refine (xtsame_any A n c xs B m d ys _ (KP.out _ B2.out).1 (KP.out _ B2.out).2.1 (by omega) (by omega)).mono ?_); rintro e w3 ⟨rfl, b3⟩; have B3 := Lib.hid (trans_below B2.out b3); clear b3)
        | (go_at_call 13; (with_reducible refine (rsames_any A n c xs B m d ys _ (KP.out _ B3.out).1 (KP.out _ B3.out).2.1 (by omega) (by omega)).mono ?_); rintro e w4 ⟨rfl, b4⟩; have B4 := Lib.hid (trans_below B3.out b4); clear b4)
        | (go_at_call 12; (with_reducible refine (xtsame_any A n c xs A n c xs _ (KP.out _ B4.out).1 (KP.out _ B4.out).1 (by omega) (by omega)).mono ?_); rintro e w5 ⟨rfl, b5⟩; rw [YES.out.2]; have B5 := Lib.hid (trans_below B4.out b5); clear b5)
        | (go_at_call 7; (with_reducible refine (works12_any _ (KP.out _ B5.out).2.2).mono ?_); rintro e w6 ⟨rfl, b6⟩; have B6 := Lib.hid (trans_below B5.out b6); clear b6))
      go_ret
      exact ⟨rfl, B6.out⟩
    · go_wp2_with (go_at_call 7; (with_reducible refine (works12_any _ (KP.out _ B2.out).2.2).mono ?_); rintro e w6 ⟨rfl, b6⟩; have B6 := Lib.hid (trans_below B2.out b6); clear b6)
      go_ret
      exact ⟨rfl, B6.out⟩
  · go_wp2_with (go_at_call 7; (with_reducible refine (works12_any _ (KP.out _ B1.out).2.2).mono ?_); rintro e w6 ⟨rfl, b6⟩; have B6 := Lib.hid (trans_below B1.out b6); clear b6)
    go_ret
    exact ⟨rfl, B6.out⟩
end Go.Proofs.YtcpakmkfnnbgeaaGreatDoor
