/- Lines written as a text: what was read is written so that it is read alike, and written then as the same text. A line that was read of a text: what its fields may be; its fields as texts, by the contracts of the packages below; a row of texts laid out. -/
import Derived.Test.YtagbfklcbekceaaGreatDoorPlMath
import Derived.Test.YtagbfklcbekceaaGreatDoorStOk
import Derived.Test.YtagbfklcbekceaaGreatDoorWrite
namespace Go.Proofs.YtagbfklcbekceaaGreatDoor
open Go.RowKit

/-- a line's row -/
def plR (L : LV) : List UInt8 := joinF (wrW L)
/-- lines' text -/
def plT (xs : List LV) : List UInt8 := endF (xs.map plR)
/-- a line that was read of words of at most 40 bytes -/
def Wrd (L : LV) : Prop := ∃ ws row, L = rdL ws row ∧ rdE ws row = 0 ∧ (∀ p ∈ ws, p.length ≤ 40) ∧ 0 ≤ row ∧ row ≤ 1000000
theorem wrW_at (L : LV) (r : Int) : wrW (L.at r) = wrW L := rfl
theorem plT_alike {xs ys : List LV} (h : alike xs ys) : plT xs = plT ys := by
  have key : ∀ zs : List LV, zs.map plR = (zs.map fun L => L.at 0).map plR := fun zs => by
    rw [List.map_map]
    rfl
  unfold plT
  rw [key xs, key ys, show (xs.map fun L => L.at 0) = ys.map fun L => L.at 0 from h]

/-! A row's words, joined, are no longer than the row. -/
theorem joinF_words (l : List UInt8) : (joinF (wsS l).1).length + (if (wsS l).1 = [] then 0 else 1) + (wsS l).2.length ≤ l.length ∧ (joinF (wsF l)).length ≤ l.length := by
  have step : ∀ q w : List UInt8, ∀ ps : List (List UInt8), (joinF (ps ++ [w])).length = (joinF ps).length + (if ps = [] then 0 else 1) + w.length := fun _ w ps => by
    rw [joinF_snoc]
    by_cases e : ps = []
    · subst e; simp [joinF]
    · rw [if_neg e, if_neg e]; simp; omega
  have fin : ∀ l, (joinF (wsS l).1).length + (if (wsS l).1 = [] then 0 else 1) + (wsS l).2.length ≤ l.length → (joinF (wsF l)).length ≤ l.length := fun l h => by
    by_cases e : (wsS l).2 = []
    · rw [wsF_none e]; omega
    · rw [wsF_some e, step [] _ _]; omega
  induction hn : l.length generalizing l with
  | zero => have : l = [] := List.eq_nil_of_length_eq_zero hn; subst this; simp [wsS, wsF, wsEnd, joinF]
  | succ n ih =>
    obtain ⟨q, c, rfl⟩ : ∃ q c, l = q ++ [c] := ⟨l.dropLast, l.getLast (by intro e; subst e; simp at hn), (List.dropLast_concat_getLast _).symm⟩
    have hq : q.length = n := by simpa using hn
    obtain ⟨i1, i2⟩ := ih q hq
    have a : (joinF (wsS (q ++ [c])).1).length + (if (wsS (q ++ [c])).1 = [] then 0 else 1) + (wsS (q ++ [c])).2.length ≤ (q ++ [c]).length := by
      by_cases hc : c = 32 ∨ c = 9
      · rw [wsS_blank q c hc]
        simp only [List.length_nil, List.length_append, List.length_cons]
        split <;> omega
      · rw [wsS_other q c hc]
        simp only [List.length_append, List.length_cons, List.length_nil]
        omega
    rw [← hn]
    exact ⟨a, fin _ a⟩
theorem end_rows (l : List UInt8) : l = endF (rwS l).1 ++ (rwS l).2 := by
  induction hn : l.length generalizing l with
  | zero => have : l = [] := List.eq_nil_of_length_eq_zero hn; subst this; rfl
  | succ n ih =>
    obtain ⟨q, c, rfl⟩ : ∃ q c, l = q ++ [c] := ⟨l.dropLast, l.getLast (by intro e; subst e; simp at hn), (List.dropLast_concat_getLast _).symm⟩
    have iq := ih q (by simpa using hn)
    by_cases hc : c = 10
    · subst hc
      rw [rwS_end, endF_snoc, ← iq]
      simp
    · rw [rwS_other q c hc, ← List.append_assoc, ← iq]
theorem end_len (l : List UInt8) : (endF (rwF l)).length ≤ l.length + 1 := by
  have e := congrArg List.length (end_rows l)
  rw [List.length_append] at e
  unfold rwF
  by_cases h : (rwS l).2 = []
  · rw [if_pos h]; omega
  · rw [if_neg h, endF_snoc, List.length_append, List.length_append]
    simp only [List.length_cons, List.length_nil]
    omega

/-! One row. -/
theorem joined_back {ws : List (List UInt8)} (h : ∀ w ∈ ws, wordF w = true) : roW (joinF ws) = ws := by
  have hno : (35 : UInt8) ∉ joinF ws := joinF_mem ws 35 (by decide) (fun w hw hc => by
    have := (wch_iff 35).1 (((wordF_iff w).1 (h w hw)).2.2 35 hc)
    exact this.2.2 rfl)
  unfold roW ahead
  rw [headC_none35 _ hno]
  have := join_words ws h [] rfl
  rw [List.nil_append, wsS_blank _ _ (.inl rfl)] at this
  exact (Prod.mk.inj this).1
theorem canW_words {ws : List (List UInt8)} (h : ∀ w ∈ ws, wordF w = true) : ∀ w ∈ canW ws, wordF w = true := by
  intro w hw
  unfold canW at hw
  by_cases g : ws.length = 7 ∧ wat ws 6 = dash
  · rw [if_pos g] at hw
    have at_ : ∀ i, i < 7 → wordF (wat ws i) = true := fun i hi => h _ (by
      unfold wat
      have hl : i < ws.length := by omega
      simp [List.getD, List.getElem?_eq_getElem hl])
    simp only [List.mem_cons, List.not_mem_nil, or_false] at hw
    rcases hw with rfl | rfl | rfl | rfl | rfl | rfl
    · decide +kernel
    · exact at_ 1 (by omega)
    · exact at_ 2 (by omega)
    · exact at_ 3 (by omega)
    · decide +kernel
    · exact at_ 5 (by omega)
  · rw [if_neg g] at hw
    exact h w hw
theorem canW_ne {ws : List (List UInt8)} (h : ws ≠ []) : canW ws ≠ [] := by
  unfold canW
  split
  · exact List.cons_ne_nil _ _
  · exact h
theorem canW_len (ws : List (List UInt8)) : (joinF (canW ws)).length ≤ (joinF ws).length + 8 := by
  unfold canW
  by_cases g : ws.length = 7 ∧ wat ws 6 = dash
  · rw [if_pos g]
    obtain ⟨hl, hd⟩ := g
    obtain ⟨w0, r0, rfl, l0⟩ := len_two hl
    obtain ⟨w1, r1, rfl, l1⟩ := len_two l0
    obtain ⟨w2, r2, rfl, l2⟩ := len_two l1
    obtain ⟨w3, r3, rfl, l3⟩ := len_two l2
    obtain ⟨w4, r4, rfl, l4⟩ := len_two l3
    obtain ⟨w5, r5, rfl, l5⟩ := len_two l4
    obtain ⟨w6, r6, rfl, l6⟩ := len_two l5
    obtain rfl : r6 = [] := List.eq_nil_of_length_eq_zero l6
    show (joinF [sPort, w1, w2, w3, sAccess, w5]).length ≤ _
    have hd2 : w6.length = 1 := by have : w6 = dash := hd; rw [this]; rfl
    have h1 : sPort.length = 4 := rfl
    have h2 : sAccess.length = 6 := rfl
    simp only [joinF, List.length_append, List.length_cons, List.length_nil]
    omega
  · rw [if_neg g]; omega
/-- a row that is a line, and the row that its line is written as -/
theorem row_back {r : List UInt8} (he : roE r 0 = 0) (hw : roW r ≠ []) (i : Nat) (hi : i < 1000000) : ∃ L, roL r i = [L] ∧ Wrd L ∧ (10 : UInt8) ∉ plR L ∧ (plR L).length ≤ r.length + 8 ∧ ∀ j, j < 1000000 → roE (plR L) j = 0 ∧ ∃ M, roL (plR L) j = [M] ∧ Wrd M ∧ M.at 0 = L.at 0 := by
  have hl : wlE r = 0 := by
    unfold roE at he
    by_cases g : wlE r = 0
    · exact g
    · rw [if_neg g] at he; exact absurd he g
  have hall : ∀ w ∈ roW r, wordF w = true := by
    unfold wlE at hl
    by_cases g : (wsF (ahead r)).all wordF = true
    · exact fun w hw => List.all_eq_true.1 g w hw
    · rw [if_neg g] at hl; cases hl
  have hr : rdE (roW r) ((i : Int) + 1) = 0 := by
    rw [roE_any r 0 i] at he
    unfold roE at he
    rwa [if_pos hl, if_neg hw] at he
  have e : roL r i = [rdL (roW r) ((i : Int) + 1)] := by unfold roL; rw [if_neg hw]
  have hj : (joinF (roW r)).length ≤ r.length := Nat.le_trans (joinF_words (ahead r)).2 (ahead_spec r).1
  have short : ∀ ws : List (List UInt8), (∀ w ∈ ws, wordF w = true) → ∀ p ∈ ws, p.length ≤ 40 := fun ws h p hp => ((wordF_iff p).1 (h p hp)).2.1
  generalize roW r = ws at *
  obtain ⟨h1, h2⟩ := wr_read ws ((i : Int) + 1) hr
  have hc := canW_words hall
  have hpl : plR (rdL ws ((i : Int) + 1)) = joinF (canW ws) := by unfold plR; rw [h1]
  refine ⟨_, e, ⟨ws, _, rfl, hr, short ws hall, by omega, by omega⟩, ?_, ?_, fun j hj1 => ?_⟩
  · rw [hpl]
    exact joinF_mem _ 10 (by decide) (fun w hw hc2 => by
      have := (wch_iff 10).1 (((wordF_iff w).1 (hc w hw)).2.2 10 hc2)
      exact absurd this.1 (by decide))
  · rw [hpl]
    have := canW_len ws
    omega
  · have hb := joined_back hc
    rw [← hpl] at hb
    have hw2 : wlE (plR (rdL ws ((i : Int) + 1))) = 0 := wlE_ok (by
      show (roW (plR (rdL ws ((i : Int) + 1)))).all wordF = true
      rw [hb]
      exact List.all_eq_true.2 hc)
    obtain ⟨g1, g2⟩ := h2 ((j : Int) + 1)
    constructor
    · unfold roE
      rw [if_pos hw2, hb, if_neg (canW_ne hw), g1]
    · refine ⟨rdL (canW ws) ((j : Int) + 1), ?_, ⟨canW ws, _, rfl, g1, short _ hc, by omega, by omega⟩, ?_⟩
      · unfold roL
        rw [hb, if_neg (canW_ne hw)]
      · rw [g2, LV.at_at]

/-! All rows. -/
theorem rows_once : ∀ (R : List (List UInt8)) (i j : Nat), i + R.length ≤ 1000000 → j + R.length ≤ 1000000 → txX R = none → (∀ L ∈ txLs R i, Wrd L) ∧ (∀ p ∈ (txLs R i).map plR, (10 : UInt8) ∉ p) ∧ (endF ((txLs R i).map plR)).length ≤ (endF R).length + 8 * R.length ∧ (txLs R i).length ≤ R.length ∧
    txX ((txLs R i).map plR) = none ∧ (txLs ((txLs R i).map plR) j).map (fun L => L.at 0) = (txLs R i).map (fun L => L.at 0) ∧ ∀ L ∈ txLs ((txLs R i).map plR) j, Wrd L
  | [], i, j, _, _, _ => by
    exact ⟨fun L h => (by cases h), fun p h => (by cases h), by simp [txLs, endF], by simp [txLs], rfl, rfl, fun L h => (by cases h)⟩
  | r :: rs, i, j, hi, hj, h => by
    rw [List.length_cons] at hi hj
    rw [txX] at h
    by_cases he : roE r 0 = 0
    rotate_left
    · rw [if_neg he] at h; cases h
    rw [if_pos he] at h
    have h2 : txX rs = none := by
      cases hx : txX rs with
      | none => rfl
      | some x => rw [hx] at h; cases h
    rw [txLs]
    by_cases hw : roW r = []
    · rw [(roE_none hw i).2, List.nil_append]
      obtain ⟨a1, a2, a3, a4, a5, a6, a7⟩ := rows_once rs (i + 1) j (by omega) (by omega) h2
      refine ⟨a1, a2, ?_, ?_, a5, a6, a7⟩
      · rw [endF, List.length_append, List.length_append, List.length_cons]
        simp only [List.length_cons, List.length_nil]
        omega
      · rw [List.length_cons]; omega
    · obtain ⟨L, e, k1, k2, k3, k4⟩ := row_back he hw i (by omega)
      obtain ⟨a1, a2, a3, a4, a5, a6, a7⟩ := rows_once rs (i + 1) (j + 1) (by omega) (by omega) h2
      obtain ⟨b1, M, b2, b3, b4⟩ := k4 j (by omega)
      have b0 := (k4 0 (by omega)).1
      rw [e, List.singleton_append, List.map_cons]
      refine ⟨?_, ?_, ?_, ?_, ?_, ?_, ?_⟩
      · intro x hx
        rcases List.mem_cons.1 hx with rfl | hx
        · exact k1
        · exact a1 x hx
      · intro p hp
        rcases List.mem_cons.1 hp with rfl | hp
        · exact k2
        · exact a2 p hp
      · rw [endF, endF, List.length_append, List.length_append, List.length_append, List.length_append, show (r :: rs).length = rs.length + 1 from rfl]
        simp only [List.length_cons, List.length_nil]
        omega
      · rw [List.length_cons, List.length_cons]; omega
      · rw [txX, if_pos b0, a5]
        rfl
      · rw [txLs, b2, List.singleton_append, List.map_cons, List.map_cons, a6, b4]
      · rw [txLs, b2, List.singleton_append]
        intro x hx
        rcases List.mem_cons.1 hx with rfl | hx
        · exact b3
        · exact a7 x hx
/-- what was read, and written, is read alike, and written then as the same text -/
theorem pl_once {l : List UInt8} (hl : l.length ≤ 3000) {row : Int} {xs : List LV} (h : txV l = (row, 0, xs)) :
    xs.length ≤ 400 ∧ (plT xs).length ≤ 20000 ∧ (∀ L ∈ xs, Wrd L) ∧ ∃ ys, txV (plT xs) = (0, 0, ys) ∧ alike xs ys ∧ plT ys = plT xs ∧ ys.length ≤ 400 ∧ ∀ L ∈ ys, Wrd L := by
  have hr : rwE l = 0 := by
    unfold txV at h
    by_cases g : rwE l = 0
    · exact g
    · rw [if_neg g] at h
      exact absurd (Prod.mk.inj (Prod.mk.inj h).2).1 g
  obtain ⟨g1, g2⟩ := rwE_zero hr
  rw [txV_eq hr] at h
  cases hx : txX (rwF l) with
  | some x =>
    rw [hx] at h
    exact absurd (Prod.mk.inj (Prod.mk.inj h).2).1 (txX_ne hx)
  | none =>
    rw [hx] at h
    obtain rfl : txLs (rwF l) 0 = xs := (Prod.mk.inj (Prod.mk.inj h).2).2
    obtain ⟨a1, a2, a3, a4, a5, a6, a7⟩ := rows_once (rwF l) 0 0 (by omega) (by omega) hx
    have hb : (plT (txLs (rwF l) 0)).length ≤ 20000 := by
      have := end_len l
      unfold plT
      omega
    have hrow : rwF (plT (txLs (rwF l) 0)) = (txLs (rwF l) 0).map plR := rows_back _ a2
    have hE : rwE (plT (txLs (rwF l) 0)) = 0 := rwE_ok (by omega) (by rw [hrow, List.length_map]; omega)
    have hal : alike (txLs (rwF l) 0) (txLs ((txLs (rwF l) 0).map plR) 0) := a6.symm
    refine ⟨by omega, hb, a1, txLs ((txLs (rwF l) 0).map plR) 0, ?_, hal, (plT_alike hal).symm, ?_, a7⟩
    · rw [txV_eq hE, hrow, a5]
    · have := congrArg List.length a6
      rw [List.length_map, List.length_map] at this
      omega
end Go.Proofs.YtagbfklcbekceaaGreatDoor

namespace Go.Proofs.YtagbfklcbekceaaGreatDoor
open Go.RowKit

theorem Wrd.row {L : LV} (h : Wrd L) : RdK L.row L ∧ 0 ≤ L.row ∧ L.row ≤ 1000000 := by
  obtain ⟨ws, row, rfl, he, _, h0, h1⟩ := h
  have hk := rd_cases ws row he
  have e := (rd_row hk).1
  rw [e]
  exact ⟨hk, h0, h1⟩
theorem Wrd.ok {L : LV} (h : Wrd L) : LvOk L := by
  obtain ⟨hk, h0, h1⟩ := h.row
  exact rd_ok hk (by omega) (by omega)
theorem Wrd.right {L : LV} (h : Wrd L) : rgB L = true := rgB_read _ _ h.row.1
/-- the words that a line is written as: four to seven, or so, and short ones -/
theorem Wrd.words {L : LV} (h : Wrd L) : wrW L ≠ [] ∧ (wrW L).length ≤ 7 ∧ ∀ p ∈ wrW L, p.length ≤ 40 := by
  obtain ⟨ws, row, rfl, he, hs, _, _⟩ := h
  have hk := rd_cases ws row he
  have e := (wr_read ws row he).1
  refine ⟨?_, ?_, ?_⟩
  · clear e
    generalize rdL ws row = L at *
    rcases hk with h | ⟨h, _⟩ | h | h | h | h | h | h | h
    · obtain ⟨s, a, m, rfl, _⟩ := h; exact List.cons_ne_nil _ _
    · obtain ⟨s, p, c, v, t, rfl, _⟩ := h
      show (if t = [] then _ else _) ≠ []
      split <;> exact List.cons_ne_nil _ _
    · obtain ⟨s, p, q, r, rfl, _⟩ := h; exact List.cons_ne_nil _ _
    · obtain ⟨s, v, m, p, rfl, _⟩ := h; exact List.cons_ne_nil _ _
    · obtain ⟨s, a, rfl, _⟩ := h; exact List.cons_ne_nil _ _
    · obtain ⟨s, v, a, rfl, _⟩ := h; exact List.cons_ne_nil _ _
    · obtain ⟨s, a, x, rfl, _⟩ := h; exact List.cons_ne_nil _ _
    · obtain ⟨s, n, x, y, rfl, _⟩ := h; exact List.cons_ne_nil _ _
    · obtain ⟨s, v, n, a, b, rfl, _⟩ := h; exact List.cons_ne_nil _ _
  · clear e
    generalize rdL ws row = L at *
    rcases hk with h | ⟨h, _⟩ | h | h | h | h | h | h | h
    · obtain ⟨s, a, m, rfl, _⟩ := h; show 4 ≤ 7; omega
    · obtain ⟨s, p, c, v, t, rfl, _⟩ := h
      show (if t = [] then _ else _ : List (List UInt8)).length ≤ 7
      split
      · show 6 ≤ 7; omega
      · show 7 ≤ 7; omega
    · obtain ⟨s, p, q, r, rfl, _⟩ := h; show 5 ≤ 7; omega
    · obtain ⟨s, v, m, p, rfl, _⟩ := h; show 5 ≤ 7; omega
    · obtain ⟨s, a, rfl, _⟩ := h; show 3 ≤ 7; omega
    · obtain ⟨s, v, a, rfl, _⟩ := h; show 4 ≤ 7; omega
    · obtain ⟨s, a, x, rfl, _⟩ := h; show 4 ≤ 7; omega
    · obtain ⟨s, n, x, y, rfl, _⟩ := h; show 5 ≤ 7; omega
    · obtain ⟨s, v, n, a, b, rfl, _⟩ := h; show 5 ≤ 7; omega
  · rw [e]
    intro p hp
    unfold canW at hp
    split at hp
    · have at_ : ∀ i, (wat ws i).length ≤ 40 := fun i => by
        unfold wat
        by_cases hi : i < ws.length
        · have : ws.getD i [] = ws[i] := by simp [List.getD, hi]
          rw [this]
          exact hs _ (List.getElem_mem hi)
        · have : ws.getD i [] = [] := by simp [List.getD, List.getElem?_eq_none (show ws.length ≤ i by omega)]
          rw [this]
          exact Nat.zero_le _
      simp only [List.mem_cons, List.not_mem_nil, or_false] at hp
      rcases hp with rfl | rfl | rfl | rfl | rfl | rfl
      · decide
      · exact at_ 1
      · exact at_ 2
      · exact at_ 3
      · decide
      · exact at_ 5
    · exact hs p hp

/-! Fields as texts. -/
theorem numS_any (x : Int) (h : -9223372036854775808 ≤ x ∧ x ≤ 9223372036854775807) (w : World) (hl : Lds w) : Calls Tryz.prog 21 #[.int .i64 x] w fun e w' => e = .returned (.string (str (wnS x))) ∧ Below w.heap.size w w' := txtI_any x h w hl
theorem macS_any (m : Int) (w : World) : Calls Tryz.prog 22 #[.int .u64 m] w fun e w' => e = .returned (.string (str (wmS m))) ∧ Below w.heap.size w w' := Mac.text_any m w
theorem addrS_any (a : Int) (h : 0 ≤ a ∧ a ≤ 4294967295) (w : World) (hl : Lds w) : Calls Tryz.prog 24 #[.int .u32 a] w fun e w' => e = .returned (.string (str (waS a))) ∧ Below w.heap.size w w' := txtA_any a ⟨h.1, by omega⟩ w hl
theorem listS_any (A : Option Addr) (n c : Nat) (xs : List Int) (w : World) (h : ISl w .i64 A n c xs) (hn : n ≤ 1000) (hr : In64 xs) (hl : Lds w) : Calls Tryz.prog 47 #[.slice A n c] w fun e w' => e = .returned (.string (str (jn wnS xs))) ∧ Below w.heap.size w w' := listI_any A n c xs w h hn hr hl
theorem addrsS_any (A : Option Addr) (n c : Nat) (xs : List Int) (w : World) (h : ISl w .u32 A n c xs) (hn : n ≤ 1000) (hr : InU32 xs) (hl : Lds w) : Calls Tryz.prog 25 #[.slice A n c] w fun e w' => e = .returned (.string (str (jn waS xs))) ∧ Below w.heap.size w w' := listA_any A n c xs w h hn hr hl
theorem pfS_any (A B : Int) (hA : 0 ≤ A ∧ A ≤ 4294967295) (hB : 0 ≤ B ∧ B ≤ 32) (w : World) (hl : Lds w) : Calls Tryz.prog 27 #[.agg #[.int .u32 A, .int .i64 B]] w fun e w' => e = .returned (.string (str (wpS A B))) ∧ Below w.heap.size w w' := by
  have h2 := prefixText_yes A.toNat B.toNat (by omega) (by omega) w hl.1
  rw [show ((A.toNat : Nat) : Int) = A by omega, show ((B.toNat : Nat) : Int) = B by omega] at h2
  exact h2
theorem In64_of {hi : Int} {xs : List Int} (h : LsOk hi xs) (hh : hi ≤ 65535) : In64 xs := by
  rcases h with rfl | h
  · intro x hx; cases hx
  · unfold risIn at h
    rw [Bool.and_eq_true] at h
    intro x hx
    have := (inB_iff xs 1 hi).1 h.2 x hx
    omega
theorem InU32_of {xs : List Int} (h : risIn xs 0 4294967295 = true) : InU32 xs := by
  unfold risIn at h
  rw [Bool.and_eq_true] at h
  intro x hx
  have := (inB_iff xs 0 4294967295).1 h.2 x hx
  exact ⟨this.1, by omega⟩
/-- a row of texts that was just laid out -/
theorem ssl_lit (w : World) (ps : List (List UInt8)) (T : TypeId) (h : ps.length ≤ 1000) : SSl (w.alloc (.cells (txts ps).toArray T)) (some ⟨w.heap.size, 0, none⟩) ps.length ps.length ps := by
  refine ⟨rfl, Nat.le_refl _, by unfold maxLen; omega, fun _ => ⟨w.heap.size, 0, rfl, by simp, fun j hj => ?_⟩⟩
  rw [Nat.zero_add, World.cell?_alloc_new]
  simp [txts, List.getD, List.getElem?_eq_getElem hj]
end Go.Proofs.YtagbfklcbekceaaGreatDoor
