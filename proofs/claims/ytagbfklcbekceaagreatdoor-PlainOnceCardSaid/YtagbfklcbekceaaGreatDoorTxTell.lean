/- Package text, Read: a row's line put behind lines (add); a text's lines, or what is wrong, told by a call that is put off (Read). Package text, Read: its four variables that a call put off reads and writes, and that call; Read's contract. -/
import Derived.Test.YtagbfklcbekceaaGreatDoorStOwn
import Derived.Test.YtagbfklcbekceaaGreatDoorLnOwn
import Derived.Test.YtagbfklcbekceaaGreatDoorTxLaw
import Derived.Defers
namespace Go.Proofs.YtagbfklcbekceaaGreatDoor
open Go.RowKit

/-- append of one line that was just laid out onto a row of lines by blocks from B on -/
theorem wpList_lappB {w0 : World} {ops : Array Oper} {rest : List Oper} {o : Oper} {a : Act} {Q : Exit → Act → World → Prop} (hgd : o.guard = none) (s x : Operand)
    (ho : o.op = .call { callee := .builtin .append, args := #[s, x], argTypes := #[24, 24] }) (B : Nat) (v : Value) (xs : List LV) (hown : ROwn (lineR.ge B) w0 B 39 v xs)
    (L : LV) (s1 s2 s3 s4 : SlV) (F : Nat → Prop) (hy : lineR.rd w0 F (lineC L s1 s2 s3 s4) L) (hge : ∀ b, F b → B ≤ b) (hF : ∀ b, F b → offRow w0 v b) (hn : xs.length ≤ 100000) (hbase : B ≤ w0.heap.size)
    (hs : a.eval s = v) (hx : a.eval x = .slice (some ⟨w0.heap.size, 0, none⟩) 1 1)
    (h : ∀ v' w', ROwn (lineR.ge B) w' B 39 v' (xs ++ [L]) → Below B w0 w' → wpList Tryz.prog ops Q rest (a.put o.dst v') w') : wpList Tryz.prog ops Q (o :: rest) a (w0.alloc (.cells (lineC L s1 s2 s3 s4).toArray 39)) := by
  have hi := Tryz.info39
  have hb := line_bytes
  cases he : Tryz.prog.info? 39 with
  | none => rw [he] at hi; cases hi
  | some i =>
    rw [he] at hi hb
    simp only [Option.map_some, Option.some.injEq, Prod.mk.injEq] at hi hb
    have hb2 : i.bytes ≤ 1000 := of_decide_eq_true hb
    have hy2 : (lineR.ge B).rd w0 F (lineC L s1 s2 s3 s4).toArray.toList L := by
      show lineR.rd w0 (fun b => F b ∧ B ≤ b) (lineC L s1 s2 s3 s4).toArray.toList L
      exact lineR.keep hy (fun _ _ => rfl) (fun b h => ⟨h, hge b h⟩)
    refine wpList_rapp (lineR.ge B) hgd s x 24 ho B 39 i (lineV LV.zero SlV.nil SlV.nil SlV.nil SlV.nil) i.bytes Tryz.underlying24 he hi.1 hi.2 rfl rfl (Nat.succ_pos 16) v xs hown L (lineC L s1 s2 s3 s4).toArray F hy2 hF w0.heap.size rfl (by unfold maxLen; omega) ?_ hbase hs hx h
    exact Nat.le_trans (Nat.mul_le_mul (show xs.length + 1 ≤ 100001 by omega) hb2) (by decide)
theorem words_short {r : List UInt8} (h : wlE r = 0) : ∀ p ∈ wsF (ahead r), p.length ≤ 300 := by
  intro p hp
  unfold wlE at h
  by_cases g : (wsF (ahead r)).all wordF = true
  · have := List.all_eq_true.1 g p hp
    unfold wordF at this
    simp only [Bool.and_eq_true, decide_eq_true_eq] at this
    omega
  · rw [if_neg g] at h
    cases h
/-- lines and an error, as add hands them back -/
def GotAdd (B : Nat) (w : World) (xs : List LV) (E : Int) (e : Ending) (w' : World) : Prop := ∃ v', e = .returned (.tuple #[v', .int .i64 E]) ∧ ROwn (lineR.ge B) w' B 39 v' xs ∧ Below B w w'
set_option maxRecDepth 20000 in
set_option maxHeartbeats 2000000 in
theorem add_any (v : Value) (acc : List LV) (r : List UInt8) (i : Nat) (B : Nat) (w : World) (ho : ROwn (lineR.ge B) w B 39 v acc) (hB : B ≤ w.heap.size) (hn : acc.length ≤ 100000) (hr : r.length ≤ 100000) (hl : LdT w) :
    Calls Tryz.prog 11 #[v, .string (str r), .int .i64 ((i : Int) + 1)] w (GotAdd B w (if roE r i = 0 then acc ++ roL r i else acc) (roE r i)) := by
  have WD := fun w => xwords_any r w hr
  unfold GotWords at WD
  have O := Lib.hid ho
  have HL := Lib.hid hl
  have HB := Lib.hid hB
  clear hl hr
  by_cases hw : wlE r = 0
  · rw [hw, os_ok] at WD
    have SH := words_short hw
    by_cases hn0 : wsF (ahead r) = []
    · have e1 : roE r i = 0 := by unfold roE; rw [if_pos hw, if_pos (show roW r = [] from hn0)]
      have e2 : roL r i = [] := by unfold roL; rw [if_pos (show roW r = [] from hn0)]
      rw [e1, if_pos rfl, e2, List.append_nil]
      rw [hn0] at WD
      have WD := Lib.hid WD
      clear SH hw hn0 e1 e2 ho hB
      go_enter Tryz.func11, Tryz.ntmps11
      go_wp2_with (go_at_call 16; (with_reducible refine (WD.out _).mono ?_); rintro e w2 ⟨A2, n2, c2, rfl, s2, b2⟩; obtain rfl : n2 = 0 := s2.len.symm; have B2 := Lib.hid b2; clear s2 b2)
      exact bodyPost_ret (v := .tuple #[v, .int .i64 0]) (by simp [results, Tryz.results11, go_sem]) rfl ⟨v, rfl, O.out.below B2.out, B2.out.mono HB.out⟩
    · have e1 : roE r i = rdE (wsF (ahead r)) ((i : Int) + 1) := by unfold roE; rw [if_pos hw, if_neg (show ¬ roW r = [] from hn0)]; rfl
      have e2 : roL r i = [rdL (wsF (ahead r)) ((i : Int) + 1)] := by unfold roL; rw [if_neg (show ¬ roW r = [] from hn0)]; rfl
      rw [e1, e2]
      have RD := fun A n c w h hl => xread_any A n c (wsF (ahead r)) ((i : Int) + 1) w h SH hl
      generalize wsF (ahead r) = ws at *
      have hn2 : 0 < ws.length := List.length_pos_iff.2 hn0
      obtain ⟨n2, hn3⟩ : ∃ n2, ws.length = n2 := ⟨_, rfl⟩
      have HN := Lib.hid hn3
      rw [hn3] at hn2
      have z2 : ((n2 : Int) == 0) = false := by simp; omega
      generalize rdL ws ((i : Int) + 1) = L at *
      have WD := Lib.hid WD
      clear hw hn0 e1 e2 SH hn3 ho hB
      by_cases hE : rdE ws ((i : Int) + 1) = 0
      · rw [hE, if_pos rfl]
        rw [hE] at RD
        have RD := Lib.hid RD
        clear hE
        go_enter Tryz.func11, Tryz.ntmps11
        go_wp2_with (first
          | (go_at_call 16; (with_reducible refine (WD.out _).mono ?_); rintro e w2 ⟨A2, n4, c2, rfl, s2, b2⟩; obtain rfl : n4 = n2 := by { rw [← s2.len, HN.out] }; have B2 := Lib.hid b2; have S2 := Lib.hid s2; have q5 := s2.le; have q6 := s2.cap; clear s2 b2)
          | (go_at_call 17; (with_reducible refine (RD.out _ _ _ _ S2.out (HL.out.below B2.out)).mono ?_); rintro e w4 ⟨s1, s2, s3, s4, rfl, r4, f4, b4⟩; have B4 := Lib.hid b4; have N4 := Lib.hid (line_new r4 f4); clear r4 f4 b4)
          | ((with_reducible refine wpList_newline (w := w4) rfl rfl rfl (.tmp 10) (.tmp 29) rfl ?hx L s1 s2 s3 s4 ?hy ?_); (case hx => rfl); (case hy => rfl); intro w5 x5 y5; have X5 := Lib.hid x5; have W25 := Lib.hid (B4.out.trans (y5.mono B4.out.size)); have N5 := Lib.hid (lineR.keep (F' := newB w2.heap.size w5) N4.out (fun b hb => y5.block b hb.2) (fun b hb => ⟨hb.1, Nat.lt_of_lt_of_le hb.2 y5.size⟩)); have O5 := Lib.hid (O.out.below (trans_below B2.out W25.out)); have F5 := Lib.hid (show ∀ b, newB w2.heap.size w5 b → offRow w5 v b from fun b hb => ⟨hb.2, fun e => by { have h1 := (O.out.lt b e).2; have h2 := B2.out.size; have h3 := hb.1; omega }⟩); have G5 := Lib.hid (show ∀ b, newB w2.heap.size w5 b → B ≤ b from fun b hb => Nat.le_trans HB.out (Nat.le_trans B2.out.size hb.1)); have K5 := Lib.hid ((trans_below B2.out W25.out).mono HB.out); have Z5 := Lib.hid (show B ≤ w5.heap.size from Nat.le_trans HB.out (trans_below B2.out W25.out).size); clear x5 y5)
          | ((with_reducible refine wpList_lineOf ?hw (.tmp 10) rfl w4.heap.size ?hx L s1 s2 s3 s4 X5.out ?_); (case hw => rfl); (case hx => rfl))
          | ((with_reducible refine wpList_lineSl rfl (.tmp 36) rfl L s1 s2 s3 s4 ?hx ?_); (case hx => rfl))
          | (at_builtin; (with_reducible refine wpList_lappB rfl (.tmp 35) (.tmp 37) rfl B _ acc O5.out L s1 s2 s3 s4 _ N5.out G5.out F5.out ?hn Z5.out ?hs ?hx ?_); (case hn => omega); (case hs => rfl); (case hx => rfl); intro v6 w6 o6 b6; have O6 := Lib.hid o6; have K6 := Lib.hid (K5.out.trans b6); clear o6 b6))
        exact bodyPost_ret (v := .tuple #[v6, .int .i64 0]) (by simp [results, Tryz.results11, go_sem]) rfl ⟨v6, rfl, O6.out, K6.out⟩
      · have ne : (rdE ws ((i : Int) + 1) != 0) = true := by simpa using hE
        rw [if_neg hE]
        have RD := Lib.hid RD
        generalize rdE ws ((i : Int) + 1) = E at *
        clear hE
        go_enter Tryz.func11, Tryz.ntmps11
        go_wp2_with (first
          | (go_at_call 16; (with_reducible refine (WD.out _).mono ?_); rintro e w2 ⟨A2, n4, c2, rfl, s2, b2⟩; obtain rfl : n4 = n2 := by { rw [← s2.len, HN.out] }; have B2 := Lib.hid b2; have S2 := Lib.hid s2; have q5 := s2.le; have q6 := s2.cap; clear s2 b2)
          | (go_at_call 17; (with_reducible refine (RD.out _ _ _ _ S2.out (HL.out.below B2.out)).mono ?_); rintro e w4 ⟨s1, s2, s3, s4, rfl, r4, f4, b4⟩; have B4 := Lib.hid b4; clear r4 f4 b4)
          | ((with_reducible refine wpList_newline (w := w4) rfl rfl rfl (.tmp 10) (.tmp 29) rfl ?hx L s1 s2 s3 s4 ?hy ?_); (case hx => rfl); (case hy => rfl); intro w5 x5 y5; have W25 := Lib.hid (trans_below B2.out (B4.out.trans (y5.mono B4.out.size))); clear x5 y5))
        exact bodyPost_ret (v := .tuple #[v, .int .i64 E]) (by simp [results, Tryz.results11, go_sem]) rfl ⟨v, rfl, O.out.below W25.out, W25.out.mono HB.out⟩
  · rw [os_no hw] at WD
    have e1 : roE r i = wlE r := by unfold roE; rw [if_neg hw]
    rw [e1, if_neg hw]
    have ne : (wlE r != 0) = true := by simpa using hw
    have WD := Lib.hid WD
    generalize wlE r = E at *
    clear hw e1 ho hB
    go_enter Tryz.func11, Tryz.ntmps11
    go_wp2_with (go_at_call 16; (with_reducible refine (WD.out _).mono ?_); rintro e w2 ⟨A2, n2, c2, rfl, s2, b2⟩; obtain rfl : n2 = 0 := s2.len.symm; have B2 := Lib.hid b2; clear s2 b2)
    exact bodyPost_ret (v := .tuple #[v, .int .i64 E]) (by simp [results, Tryz.results11, go_sem]) rfl ⟨v, rfl, O.out.below B2.out, B2.out.mono HB.out⟩
end Go.Proofs.YtagbfklcbekceaaGreatDoor

namespace Go.Proofs.YtagbfklcbekceaaGreatDoor
open Go.RowKit

/-- lines, row, e, at: a block for each -/
structure RBox (w : World) (q : Nat) (v : Value) (row E k : Int) : Prop where
  c0 : w.cell? ⟨q, 0, none⟩ = some v
  c1 : w.cell? ⟨q + 1, 0, none⟩ = some (.int .i64 row)
  c2 : w.cell? ⟨q + 1 + 1, 0, none⟩ = some (.int .i64 E)
  c3 : w.cell? ⟨q + 1 + 1 + 1, 0, none⟩ = some (.int .i64 k)
  f0 : w.frozen? ⟨q, 0, none⟩ = false
  f1 : w.frozen? ⟨q + 1, 0, none⟩ = false
  f2 : w.frozen? ⟨q + 1 + 1, 0, none⟩ = false
  f3 : w.frozen? ⟨q + 1 + 1 + 1, 0, none⟩ = false
section
variable {w w' : World} {q B : Nat} {v : Value} {row E k : Int}
theorem RBox.below (h : RBox w q v row E k) (hb : Below B w w') (hq : q + 1 + 1 + 1 < B) : RBox w' q v row E k := by
  obtain ⟨c0, c1, c2, c3, f0, f1, f2, f3⟩ := h
  exact ⟨(hb.cell (p := ⟨q, 0, none⟩) (show q < B by omega)).trans c0, (hb.cell (p := ⟨q + 1, 0, none⟩) (show q + 1 < B by omega)).trans c1, (hb.cell (p := ⟨q + 1 + 1, 0, none⟩) (show q + 1 + 1 < B by omega)).trans c2, (hb.cell (p := ⟨q + 1 + 1 + 1, 0, none⟩) (show q + 1 + 1 + 1 < B by omega)).trans c3,
    (hb.frozen (p := ⟨q, 0, none⟩) (show q < B by omega)).trans f0, (hb.frozen (p := ⟨q + 1, 0, none⟩) (show q + 1 < B by omega)).trans f1, (hb.frozen (p := ⟨q + 1 + 1, 0, none⟩) (show q + 1 + 1 < B by omega)).trans f2, (hb.frozen (p := ⟨q + 1 + 1 + 1, 0, none⟩) (show q + 1 + 1 + 1 < B by omega)).trans f3⟩
theorem other_cell (w : World) (p r : Nat) (x u : Value) (hp : p ≠ r) (h : w.cell? ⟨r, 0, none⟩ = some u) : (w.setCell ⟨p, 0, none⟩ x).cell? ⟨r, 0, none⟩ = some u := by
  rw [World.cell?_setCell_other _ _ _ _ (by intro e; injection e with e1 _; exact hp e1)]
  exact h
theorem RBox.set0 (h : RBox w q v row E k) (x : Value) : RBox (w.setCell ⟨q, 0, none⟩ x) q x row E k := by
  obtain ⟨c0, c1, c2, c3, f0, f1, f2, f3⟩ := h
  exact ⟨World.cell?_setCell_same _ _ _ c0, other_cell _ _ _ _ _ (by omega) c1, other_cell _ _ _ _ _ (by omega) c2, other_cell _ _ _ _ _ (by omega) c3,
    (World.frozen?_setCell _ _ _ _).trans f0, (World.frozen?_setCell _ _ _ _).trans f1, (World.frozen?_setCell _ _ _ _).trans f2, (World.frozen?_setCell _ _ _ _).trans f3⟩
theorem RBox.set1 (h : RBox w q v row E k) (x : Int) : RBox (w.setCell ⟨q + 1, 0, none⟩ (.int .i64 x)) q v x E k := by
  obtain ⟨c0, c1, c2, c3, f0, f1, f2, f3⟩ := h
  exact ⟨other_cell _ _ _ _ _ (by omega) c0, World.cell?_setCell_same _ _ _ c1, other_cell _ _ _ _ _ (by omega) c2, other_cell _ _ _ _ _ (by omega) c3,
    (World.frozen?_setCell _ _ _ _).trans f0, (World.frozen?_setCell _ _ _ _).trans f1, (World.frozen?_setCell _ _ _ _).trans f2, (World.frozen?_setCell _ _ _ _).trans f3⟩
theorem RBox.set2 (h : RBox w q v row E k) (x : Int) : RBox (w.setCell ⟨q + 1 + 1, 0, none⟩ (.int .i64 x)) q v row x k := by
  obtain ⟨c0, c1, c2, c3, f0, f1, f2, f3⟩ := h
  exact ⟨other_cell _ _ _ _ _ (by omega) c0, other_cell _ _ _ _ _ (by omega) c1, World.cell?_setCell_same _ _ _ c2, other_cell _ _ _ _ _ (by omega) c3,
    (World.frozen?_setCell _ _ _ _).trans f0, (World.frozen?_setCell _ _ _ _).trans f1, (World.frozen?_setCell _ _ _ _).trans f2, (World.frozen?_setCell _ _ _ _).trans f3⟩
theorem RBox.set3 (h : RBox w q v row E k) (x : Int) : RBox (w.setCell ⟨q + 1 + 1 + 1, 0, none⟩ (.int .i64 x)) q v row E x := by
  obtain ⟨c0, c1, c2, c3, f0, f1, f2, f3⟩ := h
  exact ⟨other_cell _ _ _ _ _ (by omega) c0, other_cell _ _ _ _ _ (by omega) c1, other_cell _ _ _ _ _ (by omega) c2, World.cell?_setCell_same _ _ _ c3,
    (World.frozen?_setCell _ _ _ _).trans f0, (World.frozen?_setCell _ _ _ _).trans f1, (World.frozen?_setCell _ _ _ _).trans f2, (World.frozen?_setCell _ _ _ _).trans f3⟩
theorem RBox.drew (h : RBox w q v row E k) : RBox w.drew q v row E k := ⟨h.c0, h.c1, h.c2, h.c3, h.f0, h.f1, h.f2, h.f3⟩
/-- ahead of block B all but the four variables are as they were; ahead of them all -/
structure Ex4 (q B : Nat) (w w' : World) : Prop where
  lo : Below q w w'
  hi : ∀ b, b < B → q + 1 + 1 + 1 < b → w'.heap[b]? = w.heap[b]?
theorem Ex4.refl (q B : Nat) (w : World) : Ex4 q B w w := ⟨Below.refl _ _, fun _ _ _ => rfl⟩
theorem Ex4.set {w0 : World} (h : Ex4 q B w0 w) (p : Nat) (h1 : q ≤ p) (h2 : p ≤ q + 1 + 1 + 1) (x : Value) : Ex4 q B w0 (w.setCell ⟨p, 0, none⟩ x) :=
  ⟨h.lo.setCell h1 x, fun b hb hq => (Below.heap_setCell w ⟨p, 0, none⟩ x b (show b ≠ p by omega)).trans (h.hi b hb hq)⟩
theorem Ex4.below {w0 : World} (h : Ex4 q B w0 w) (g : Below B w w') (hq : q ≤ B) : Ex4 q B w0 w' :=
  ⟨h.lo.trans (g.mono hq), fun b hb hq => (g.block b hb).trans (h.hi b hb hq)⟩
theorem Ex4.drew {w0 : World} (h : Ex4 q B w0 w) : Ex4 q B w0 w.drew := ⟨h.lo.drew, h.hi⟩
theorem ROwn.setV {α : Type} {R : Rdr α} {e : TypeId} {xs : List α} (h : ROwn (R.ge B) w B e v xs) (p : Nat) (hp : p < B) (x : Value) : ROwn (R.ge B) (w.setCell ⟨p, 0, none⟩ x) B e v xs :=
  h.keepB (fun b hB _ => Below.heap_setCell w ⟨p, 0, none⟩ x b (show b ≠ p by omega)) (by simp)
end

theorem tell_no (q : Nat) (v : Value) (row k : Int) (u : FrameMode) (w : World) (h : RBox w q v row 0 k) :
    CallsD Tryz.prog 9 #[.pointer (some ⟨q + 1 + 1, 0, none⟩), .pointer (some ⟨q + 1 + 1 + 1, 0, none⟩), .pointer (some ⟨q, 0, none⟩), .pointer (some ⟨q + 1, 0, none⟩)] u w fun e u' w' => u' = u ∧ (e = .returned (.tuple #[]) ∧ w' = w) := by
  obtain ⟨c0, c1, c2, c3, f0, f1, f2, f3⟩ := h
  go_enter_d Tryz.func9, Tryz.ntmps9
  go_wp2
  go_end0
  exact ⟨rfl, rfl⟩
theorem tell_yes (q : Nat) (v : Value) (row E k : Int) (hE : E ≠ 0) (u : FrameMode) (w : World) (h : RBox w q v row E k) :
    CallsD Tryz.prog 9 #[.pointer (some ⟨q + 1 + 1, 0, none⟩), .pointer (some ⟨q + 1 + 1 + 1, 0, none⟩), .pointer (some ⟨q, 0, none⟩), .pointer (some ⟨q + 1, 0, none⟩)] u w fun e u' w' => u' = u ∧ (e = .returned (.tuple #[]) ∧ w' = (w.setCell ⟨q, 0, none⟩ (.slice none 0 0)).setCell ⟨q + 1, 0, none⟩ (.int .i64 k)) := by
  have d0 := (h.set0 (.slice none 0 0)).c1
  have d1 := (h.set0 (.slice none 0 0)).f1
  obtain ⟨c0, c1, c2, c3, f0, f1, f2, f3⟩ := h
  have ne : (E != 0) = true := by simpa using hE
  go_enter_d Tryz.func9, Tryz.ntmps9
  go_wp2
  go_end0
  exact ⟨rfl, rfl⟩
/-- a block of one cell that holds no text -/
def NoStr (w : World) (b : Nat) : Prop := ∀ o s, w.cell? ⟨b, o, none⟩ ≠ some (.string s)
theorem NoStr.below {w w' : World} {b B : Nat} (h : NoStr w b) (hb : Below B w w') (hq : b < B) : NoStr w' b := fun o s e => h o s ((hb.cell (p := ⟨b, o, none⟩) hq).symm.trans e)
/-- the four variables as they are laid -/
theorem rbox_new (w : World) (T0 T1 T2 T3 : TypeId) :
    RBox ((((w.alloc (.cells #[.slice none 0 0] T0)).alloc (.cells #[.int .i64 0] T1)).alloc (.cells #[.int .i64 0] T2)).alloc (.cells #[.int .i64 0] T3)) w.heap.size (.slice none 0 0) 0 0 0 := by
  constructor <;> simp [go_sem]
theorem nostr_new (w : World) (T0 T1 T2 T3 : TypeId) (b : Nat) (h1 : w.heap.size ≤ b) (h2 : b ≤ w.heap.size + 1 + 1 + 1) :
    NoStr ((((w.alloc (.cells #[.slice none 0 0] T0)).alloc (.cells #[.int .i64 0] T1)).alloc (.cells #[.int .i64 0] T2)).alloc (.cells #[.int .i64 0] T3)) b := by
  intro o s e
  have hb : b = w.heap.size ∨ b = w.heap.size + 1 ∨ b = w.heap.size + 1 + 1 ∨ b = w.heap.size + 1 + 1 + 1 := by omega
  cases o with
  | zero => rcases hb with rfl | rfl | rfl | rfl <;> simp [go_sem] at e
  | succ o => rcases hb with rfl | rfl | rfl | rfl <;> simp [go_sem] at e
/-- the rows' texts lie in none of the four blocks -/
theorem rows_off {w : World} {A : Option Addr} {n c : Nat} {ps : List (List UInt8)} (h : SSl w A n c ps) (hn : 0 < n) : ∃ b off, A = some ⟨b, off, none⟩ ∧ b < w.heap.size ∧ (∀ j, j < n → w.cell? ⟨b, off + j, none⟩ = some (.string (str (ps.getD j [])))) ∧ ∀ b', NoStr w b' → b ≠ b' := by
  obtain ⟨b, off, e, hb, hc⟩ := h.at_ hn
  exact ⟨b, off, e, hb, hc, fun b' hs e2 => hs _ _ (e2 ▸ hc 0 hn)⟩
/-- what Read's rows come to, read on from row k -/
structure RdI (w1 : World) (q : Nat) (E0 : Int) (rows : List (List UInt8)) (RR : Int × Int × List LV) (k : Nat) (acc : List LV) (v : Value) (wr : World) : Prop where
  box : RBox wr q v 0 E0 k
  own : ROwn (lineR.ge w1.heap.size) wr w1.heap.size 39 v acc
  len : acc.length ≤ k
  ex : Ex4 q w1.heap.size w1 wr
  sz : w1.heap.size ≤ wr.heap.size
  res : E0 = 0 → txF (rows.drop k) k acc = RR
theorem roL_len (r : List UInt8) (k : Nat) : (roL r k).length ≤ 1 := by
  unfold roL
  split <;> simp
set_option maxRecDepth 20000 in
set_option maxHeartbeats 4000000 in
theorem text_run (A : Option Addr) (n c : Nat) (l : List UInt8) (w : World) (h : BSl w A n c l) (hl : LdT w) (RR : Int × Int × List LV) (h0 : rwE l = 0 → txF (rwF l) 0 [] = RR) (h1 : rwE l ≠ 0 → RR = (0, rwE l, [])) : Calls Tryz.prog 5 #[.slice A n c] w (GotText w RR) := by
  have hmf : ∀ (fn : Fn) (first cap : Array Value) (w : World), (Instr.makeFunc fn first cap).run Tryz.prog w = .ok (.func fn first cap) w := fun _ _ _ _ => rfl
  have R := fun w h => xrows_any A n c l w h
  unfold GotRows GotS at R
  obtain ⟨rows, hrows⟩ : ∃ rows, os (rwE l) (rwF l) = rows := ⟨_, rfl⟩
  rw [hrows] at R
  have hlen : rows.length ≤ 400 ∧ (∀ p ∈ rows, p.length ≤ 20000) ∧ (rwE l ≠ 0 → rows.length = 0) ∧ (rwE l = 0 → txF (rows.drop 0) 0 [] = RR) := by
    by_cases e : rwE l = 0
    · rw [e, os_ok] at hrows
      subst hrows
      obtain ⟨g1, g2⟩ := rwE_zero e
      exact ⟨g2, fun p hp => by have := rwS_part l p hp; omega, fun h => absurd e h, fun _ => h0 e⟩
    · rw [os_no e] at hrows
      subst hrows
      exact ⟨by simp, fun p hp => (by cases hp), fun _ => rfl, fun h => absurd h e⟩
  obtain ⟨hlen, hparts, hzero, hres⟩ := hlen
  generalize rwE l = E0 at *
  obtain ⟨m, hm⟩ : ∃ m, rows.length = m := ⟨_, rfl⟩
  rw [hm] at hlen hzero
  have HM := Lib.hid hm
  have HP := Lib.hid hparts
  have HZ := Lib.hid hzero
  have HR := Lib.hid hres
  have H1 := Lib.hid h1
  have H := Lib.hid h
  have HL := Lib.hid hl
  have R := Lib.hid R
  have NB := Lib.hid (rbox_new w)
  have NS := Lib.hid (nostr_new w)
  clear h hl h0 h1 hrows hm hparts hzero hres
  go_enter_defers Tryz.func5, Tryz.ntmps5
  go_wp2_with (first
    | (go_at_call 10; (with_reducible refine (R.out _ (H.out.below ?hb)).mono ?_); (case hb => exact (((((Below.refl _ _).alloc (Nat.le_refl _) _).alloc (by simp) _).alloc (by simp; omega) _).alloc (by simp; omega) _)); rintro e w1 ⟨A1, n1, c1, rfl, s1, b1⟩; obtain rfl : n1 = m := by { rw [← s1.len, HM.out] }; have q1 := s1.le; have q2 := s1.cap; have S1 := Lib.hid s1; have BX := Lib.hid ((NB.out _ _ _ _).below b1 (by simp)); have B1 := Lib.hid b1; have d2 := BX.out.c2; have f2 := BX.out.f2; clear s1 b1))
  obtain ⟨q, hq⟩ : ∃ q, w.heap.size = q := ⟨_, rfl⟩
  have hqs : q + 1 + 1 + 1 < w1.heap.size := by
    have := B1.out.size
    simp only [World.size_alloc] at this
    omega
  have BW : Below q w w1 := by
    rw [← hq]
    exact ((((((Below.refl _ _).alloc (Nat.le_refl _) _).alloc (by simp) _).alloc (by simp; omega) _).alloc (by simp; omega) _)).trans (B1.out.mono (by simp; omega))
  have N0 := (NS.out _ _ _ _ w.heap.size (by omega) (by omega)).below B1.out (by simp only [World.size_alloc]; omega)
  have N1 := (NS.out _ _ _ _ (w.heap.size + 1) (by omega) (by omega)).below B1.out (by simp only [World.size_alloc]; omega)
  have N2 := (NS.out _ _ _ _ (w.heap.size + 1 + 1) (by omega) (by omega)).below B1.out (by simp only [World.size_alloc]; omega)
  have N3 := (NS.out _ _ _ _ (w.heap.size + 1 + 1 + 1) (by omega) (by omega)).below B1.out (by simp only [World.size_alloc]; omega)
  have OFF := Lib.hid (show 0 < n1 → ∃ b off, A1 = some ⟨b, off, none⟩ ∧ b < w1.heap.size ∧ (∀ j, j < n1 → w1.cell? ⟨b, off + j, none⟩ = some (.string (str (rows.getD j [])))) ∧ (b < w.heap.size ∨ w.heap.size + 1 + 1 + 1 < b) from fun h => by
    obtain ⟨b, off, e, hb, hc, hne⟩ := rows_off S1.out h
    have e0 := hne _ N0
    have e1 := hne _ N1
    have e2 := hne _ N2
    have e3 := hne _ N3
    exact ⟨b, off, e, hb, hc, by omega⟩)
  have I0 := Lib.hid (show RdI w1 w.heap.size E0 rows RR 0 [] (.slice none 0 0) (w1.setCell ⟨w.heap.size + 1 + 1, 0, none⟩ (.int .i64 E0)) from
    ⟨BX.out.set2 E0, ROwn.nil _ _ _, Nat.le_refl _, (Ex4.refl _ _ _).set _ (by omega) (by omega) _, by simp, HR.out⟩)
  have BW2 := Lib.hid BW
  have LT := Lib.hid (show ∀ wr, Ex4 w.heap.size w1.heap.size w1 wr → LdT wr from fun wr h => HL.out.below (by have := BW2.out; rw [← hq] at this; exact this.trans h.lo))
  have BB := Lib.hid (show ∀ wr, Ex4 w.heap.size w1.heap.size w1 wr → Below w.heap.size w wr from fun wr h => by have := BW2.out; rw [← hq] at this; exact this.trans h.lo)
  have QS := hqs
  rw [← hq] at QS
  clear N0 N1 N2 N3 BW hqs hq d2 f2
  go_loopw [17] (fun i wr => ∃ (k : Nat) (acc : List LV) (v : Value), i = .int .i64 (k : Int) ∧ k ≤ n1 ∧ RdI w1 w.heap.size E0 rows RR k acc v wr) (fun i _ => match i with | .int _ x => (n1 - x).toNat | _ => 0)
  case atStart => exact ⟨0, [], _, rfl, by omega, I0.out⟩
  case round =>
    obtain ⟨k, acc, v, rfl, hk, hI⟩ := hrel
    have I := Lib.hid hI
    clear hI
    by_cases hlt : k < n1
    · have hE0 : E0 = 0 := Decidable.of_not_not fun h => by have := HZ.out h; omega
      subst hE0
      obtain ⟨b0, o0, rfl, hb0, hc0, hb1⟩ := OFF.out (by omega)
      have hkm : k < rows.length := by rw [HM.out]; exact hlt
      have c0 : wr.cell? ⟨b0, o0 + k, none⟩ = some (.string (str (rows.getD k []))) := (World.cell?_of_block (w := w1) (a := ⟨b0, o0 + k, none⟩) (by
        rcases hb1 with h | h
        · exact I.out.ex.lo.block b0 h
        · exact I.out.ex.hi b0 hb0 h)).trans (hc0 k hlt)
      have ST := Lib.hid ((I.out.res rfl).symm.trans (txF_at (acc := acc) hkm))
      have hrl : (rows.getD k []).length ≤ 20000 := HP.out _ (by simp [List.getD, List.getElem?_eq_getElem hkm])
      generalize rows.getD k [] = r at *
      have i0 : (k : Int) < (n1 : Int) := by omega
      have wk : IntKind.i64.wrap ((k : Int) + 1) = (k : Int) + 1 := IntWalk.i64_in _ (by omega)
      have RB3 := I.out.box.set3 ((k : Int) + 1)
      have OW3 := I.out.own.setV (w.heap.size + 1 + 1 + 1) QS (.int .i64 ((k : Int) + 1))
      have EX3 := I.out.ex.set (w.heap.size + 1 + 1 + 1) (by omega) (by omega) (.int .i64 ((k : Int) + 1))
      have SZ3 : w1.heap.size ≤ (wr.setCell ⟨w.heap.size + 1 + 1 + 1, 0, none⟩ (.int .i64 ((k : Int) + 1))).heap.size := by simpa using I.out.sz
      have AD := Lib.hid (add_any v acc r k w1.heap.size _ OW3 SZ3 (by have := I.out.len; omega) (by omega) (LT.out _ EX3))
      have RB3 := Lib.hid RB3
      have EX3 := Lib.hid EX3
      have SZ3 := Lib.hid SZ3
      have d3 := I.out.box.c3
      have f3 := I.out.box.f3
      have d0 := RB3.out.c0
      have d4 := RB3.out.c3
      clear hc0 hkm OW3
      by_cases hE : roE r k = 0
      · unfold GotAdd at AD
        rw [if_pos hE, hE] at AD
        have ST2 := Lib.hid (show txF (rows.drop (k + 1)) (k + 1) (acc ++ roL r k) = RR by have := ST.out; rw [if_pos hE] at this; exact this.symm)
        have LN := Lib.hid (roL_len r k)
        clear hE ST
        go_wp2_with (go_at_call 11; (with_reducible refine AD.out.mono ?_); rintro e w4 ⟨v4, rfl, o4, b4⟩; obtain ⟨Av, cv, hv4⟩ := o4.shape; generalize hl4 : List.length _ = l4 at hv4; have L4 := Lib.hid hl4; clear hl4; subst hv4; have RB4 := Lib.hid (RB3.out.below b4 QS); have O4 := Lib.hid o4; have EX4 := Lib.hid (EX3.out.below b4 (by omega)); have SZ4 := Lib.hid (Nat.le_trans SZ3.out b4.size); have g0 := RB4.out.c0; have h0 := RB4.out.f0; have g2 := (RB4.out.set0 (.slice Av l4 cv)).c2; have h2 := (RB4.out.set0 (.slice Av l4 cv)).f2; have j2 := ((RB4.out.set0 (.slice Av l4 cv)).set2 0).c2; clear o4 b4)
        go_roundw
        case rel => exact ⟨k + 1, acc ++ roL r k, .slice Av l4 cv, by simp, by omega, ⟨(RB4.out.set0 (.slice Av l4 cv)).set2 0, (O4.out.setV _ (by omega) _).setV _ (by omega) _, by have h1 := LN.out; have h2 := I.out.len; simp; omega, (EX4.out.set _ (by omega) (by omega) _).set _ (by omega) (by omega) _, by simpa using SZ4.out, fun _ => ST2.out⟩⟩
        case measure => simp only []; omega
      · unfold GotAdd at AD
        rw [if_neg hE] at AD
        have ST2 := Lib.hid (show RR = ((k : Int) + 1, roE r k, []) by have := ST.out; rw [if_neg hE] at this; exact this)
        have ne : (roE r k != 0) = true := by simpa using hE
        have NE := Lib.hid hE
        generalize roE r k = E at *
        clear hE ST
        go_wp2_with (go_at_call 11; (with_reducible refine AD.out.mono ?_); rintro e w4 ⟨v4, rfl, o4, b4⟩; obtain ⟨Av, cv, hv4⟩ := o4.shape; generalize hl4 : List.length _ = l4 at hv4; have L4 := Lib.hid hl4; clear hl4; subst hv4; have RB4 := Lib.hid (RB3.out.below b4 QS); have EX4 := Lib.hid (EX3.out.below b4 (by omega)); have g0 := RB4.out.c0; have h0 := RB4.out.f0; have g2 := (RB4.out.set0 (.slice Av l4 cv)).c2; have h2 := (RB4.out.set0 (.slice Av l4 cv)).f2; have j2 := ((RB4.out.set0 (.slice Av l4 cv)).set2 E).c2; clear o4 b4)
        have RB5 := (RB4.out.set0 (.slice Av l4 cv)).set2 E
        have EX5 := (EX4.out.set w.heap.size (by omega) (by omega) (.slice Av l4 cv)).set (w.heap.size + 1 + 1) (by omega) (by omega) (.int .i64 E)
        generalize (w4.setCell ⟨w.heap.size, 0, none⟩ (.slice Av l4 cv)).setCell ⟨w.heap.size + 1 + 1, 0, none⟩ (.int .i64 E) = w5 at *
        refine wp_region_text (fun wx => RBox wx w.heap.size (.slice Av l4 cv) 0 E ((k : Int) + 1) ∧ Ex4 w.heap.size w1.heap.size w1 wx) (by kernel_rfl) (by kernel_rfl) ⟨RB5.drew, EX5.drew⟩ ?_
        repeat
          first
            | (refine Seq.pass rfl ?_; simp only [Act.put, List.setIfInBounds_toArray, List.set_cons_zero, List.set_cons_succ])
            | (refine Seq.run ?_ rfl (fun wx hx => ?_) ?_
               rotate_left
               · have hx2 := hx
                 obtain ⟨⟨c0, c1, c2, c3, f0, f1, f2, f3⟩, hE⟩ := hx2
                 go_simp
                 first
                   | (refine StepRun.val ?_; exact hx)
                   | (refine StepRun.done ?_; exact ⟨hx.1.set0 _, hE.set _ (by omega) (by omega) _⟩)
                   | (refine StepRun.done ?_; exact ⟨hx.1.set1 _, hE.set _ (by omega) (by omega) _⟩)
                   | (refine StepRun.done ?_; exact ⟨hx.1.set2 _, hE.set _ (by omega) (by omega) _⟩)
                   | (refine StepRun.val ?_; exact ⟨hx.1.set0 _, hE.set _ (by omega) (by omega) _⟩)
                   | (refine StepRun.val ?_; exact ⟨hx.1.set1 _, hE.set _ (by omega) (by omega) _⟩)
                   | (refine StepRun.val ?_; exact ⟨hx.1.set2 _, hE.set _ (by omega) (by omega) _⟩)
               simp only [Act.put, List.setIfInBounds_toArray, List.set_cons_zero, List.set_cons_succ])
        refine Seq.last (fun w6 ⟨RB6, EX6⟩ => ?_)
        go_wp2
        refine leaves_cons (f := 9) (args := #[.pointer (some ⟨w.heap.size + 1 + 1, 0, none⟩), .pointer (some ⟨w.heap.size + 1 + 1 + 1, 0, none⟩), .pointer (some ⟨w.heap.size, 0, none⟩), .pointer (some ⟨w.heap.size + 1, 0, none⟩)]) (by simp) (by simp [go_sem]) ?_
        refine (tell_yes w.heap.size _ 0 E ((k : Int) + 1) NE.out .returning _ RB6).mono ?_
        rintro e u' w'' ⟨rfl, rfl, rfl⟩
        have RB7 := (RB6.set0 (.slice none 0 0)).set1 ((k : Int) + 1)
        have EX7 := (EX6.set w.heap.size (by omega) (by omega) (.slice none 0 0)).set (w.heap.size + 1) (by omega) (by omega) (.int .i64 ((k : Int) + 1))
        have t0 := RB7.c0
        have t1 := RB7.c1
        have t2 := RB7.c2
        exact ⟨.tuple #[.slice none 0 0, .int .i64 ((k : Int) + 1), .int .i64 E], by simp [results, Tryz.results5, go_sem, t0, t1, t2], none, 0, 0, by rw [ST2.out], by rw [ST2.out]; exact RSl.nil, BB.out _ EX7⟩
    · have hkn : k = n1 := by omega
      subst hkn
      have i0 : ¬ (k : Int) < (k : Int) := by omega
      obtain ⟨Av, cv, hv⟩ := I.out.own.shape
      subst hv
      have RB5 := I.out.box
      have EX5 := I.out.ex
      have OW5 := I.out.own
      go_wp2
      refine wp_region_text (fun wx => RBox wx w.heap.size (.slice Av acc.length cv) 0 E0 (k : Int) ∧ Ex4 w.heap.size w1.heap.size w1 wx ∧ ROwn (lineR.ge w1.heap.size) wx w1.heap.size 39 (.slice Av acc.length cv) acc) (by kernel_rfl) (by kernel_rfl) ⟨RB5.drew, EX5.drew, OW5.keepB (fun _ _ _ => rfl) (Nat.le_refl _)⟩ ?_
      repeat
        first
          | (refine Seq.pass rfl ?_; simp only [Act.put, List.setIfInBounds_toArray, List.set_cons_zero, List.set_cons_succ])
          | (refine Seq.run ?_ rfl (fun wx hx => ?_) ?_
             rotate_left
             · have hx2 := hx
               obtain ⟨⟨c0, c1, c2, c3, f0, f1, f2, f3⟩, hE, hO⟩ := hx2
               go_simp
               first
                 | (refine StepRun.val ?_; exact hx)
                 | (refine StepRun.done ?_; exact ⟨hx.1.set0 _, hE.set _ (by omega) (by omega) _, hO.setV _ (by omega) _⟩)
                 | (refine StepRun.done ?_; exact ⟨hx.1.set1 _, hE.set _ (by omega) (by omega) _, hO.setV _ (by omega) _⟩)
                 | (refine StepRun.done ?_; exact ⟨hx.1.set2 _, hE.set _ (by omega) (by omega) _, hO.setV _ (by omega) _⟩)
                 | (refine StepRun.val ?_; exact ⟨hx.1.set0 _, hE.set _ (by omega) (by omega) _, hO.setV _ (by omega) _⟩)
                 | (refine StepRun.val ?_; exact ⟨hx.1.set1 _, hE.set _ (by omega) (by omega) _, hO.setV _ (by omega) _⟩)
                 | (refine StepRun.val ?_; exact ⟨hx.1.set2 _, hE.set _ (by omega) (by omega) _, hO.setV _ (by omega) _⟩)
             simp only [Act.put, List.setIfInBounds_toArray, List.set_cons_zero, List.set_cons_succ])
      refine Seq.last (fun w6 ⟨RB6, EX6, OW6⟩ => ?_)
      go_wp2
      refine leaves_cons (f := 9) (args := #[.pointer (some ⟨w.heap.size + 1 + 1, 0, none⟩), .pointer (some ⟨w.heap.size + 1 + 1 + 1, 0, none⟩), .pointer (some ⟨w.heap.size, 0, none⟩), .pointer (some ⟨w.heap.size + 1, 0, none⟩)]) (by simp) (by simp [go_sem]) ?_
      by_cases hE : E0 = 0
      · subst hE
        refine (tell_no w.heap.size _ 0 (k : Int) .returning _ RB6).mono ?_
        rintro e u' w'' ⟨rfl, rfl, rfl⟩
        have t0 := RB6.c0
        have t1 := RB6.c1
        have t2 := RB6.c2
        have hR : RR = (0, 0, acc) := (I.out.res rfl).symm.trans (txF_end (by rw [HM.out]; omega))
        exact ⟨.tuple #[.slice Av acc.length cv, .int .i64 0, .int .i64 0], by simp [results, Tryz.results5, go_sem, t0, t1, t2], Av, acc.length, cv, by rw [hR], by rw [hR]; exact OW6.weak.read, BB.out _ EX6⟩
      · have hk0 : k = 0 := HZ.out hE
        have hR := H1.out hE
        subst hk0
        have RB0 : RBox w6 w.heap.size (.slice Av acc.length cv) 0 E0 0 := RB6
        refine (tell_yes w.heap.size _ 0 E0 0 hE .returning _ RB0).mono ?_
        rintro e u' w'' ⟨rfl, rfl, rfl⟩
        have RB7 := (RB0.set0 (.slice none 0 0)).set1 (0)
        have EX7 := (EX6.set w.heap.size (by omega) (by omega) (.slice none 0 0)).set (w.heap.size + 1) (by omega) (by omega) (.int .i64 (0))
        have t0 := RB7.c0
        have t1 := RB7.c1
        have t2 := RB7.c2
        exact ⟨.tuple #[.slice none 0 0, .int .i64 (0), .int .i64 E0], by simp [results, Tryz.results5, go_sem, t0, t1, t2], none, 0, 0, by rw [hR], by rw [hR]; exact RSl.nil, BB.out _ EX7⟩
end Go.Proofs.YtagbfklcbekceaaGreatDoor
