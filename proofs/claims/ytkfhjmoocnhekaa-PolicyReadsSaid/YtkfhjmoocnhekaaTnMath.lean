/- A tenant that may be; tenants as a text; what is written is read as it was, but for its rows; what is read may be, and is no longer written than it was read. -/
import Derived.Test.YtkfhjmoocnhekaaTnText
import Derived.Test.YtkfhjmoocnhekaaLnBack
namespace Go.Proofs.Ytkfhjmoocnhekaa
open Go.RowKit

/-- may it be? -/
def RgT (T : TV) : Prop := T.devs.length = T.ports.length ∧ T.devs.length ≤ 16 ∧ rnE (twF T) = 0 ∧ rnT (twF T) T.row = T
/-- a tenant's row -/
def trF (T : TV) : List UInt8 := joinF (twF T)
/-- tenants' text -/
def tpF (xs : List TV) : List UInt8 := endF (xs.map trF)
/-- a tenant of another row -/
def TV.at (T : TV) (r : Int) : TV := { T with row := r }
/-- tenants of the rows i + 1, i + 2 and so on -/
def reRow : Nat → List TV → List TV
  | _, [] => []
  | i, T :: r => T.at ((i : Int) + 1) :: reRow (i + 1) r

/-! Words. -/
theorem lc_wch (c : UInt8) (h : Lc (c.toNat : Int) ∨ Dc (c.toNat : Int)) : wch c = true := by
  rw [wch_iff]
  unfold Lc Dc at h
  omega
theorem nw_mem {s : List UInt8} (h : nwB s = true) : 1 ≤ s.length ∧ s.length ≤ 12 ∧ ∀ c ∈ s, Lc (c.toNat : Int) ∨ Dc (c.toNat : Int) := by
  obtain ⟨h1, h2, _, h4⟩ := (nwB_iff s).1 h
  rw [str_size] at h1 h2 h4
  refine ⟨h1, h2, fun c hc => ?_⟩
  obtain ⟨j, hj, rfl⟩ := List.mem_iff_getElem.1 hc
  have := h4 j hj
  rw [sb_str] at this
  simpa [List.getD, hj] using this
theorem nw_word {s : List UInt8} (h : nwB s = true) : wordF s = true := by
  obtain ⟨h1, h2, h3⟩ := nw_mem h
  exact (wordF_iff s).2 ⟨h1, by omega, fun c hc => lc_wch c (h3 c hc)⟩
theorem nw_dot {s : List UInt8} (h : nwB s = true) : (46 : UInt8) ∉ s := fun hc => by
  have := (nw_mem h).2.2 46 hc
  unfold Lc Dc at this
  have e : ((46 : UInt8).toNat : Int) = 46 := rfl
  rw [e] at this
  omega
theorem dp_parts (d p : List UInt8) (h : (46 : UInt8) ∉ d) : hasC 46 (dpF d p) = true ∧ headC 46 (dpF d p) = d ∧ tailC 46 (dpF d p) = p := by
  unfold dpF
  induction d with
  | nil =>
    have := headC_same 46 p
    exact ⟨by simp [hasC], this.1, this.2⟩
  | cons a r ih =>
    have ha : a ≠ 46 := fun e => h (by simp [e])
    obtain ⟨i1, i2, i3⟩ := ih (fun e => h (by simp [e]))
    have := headC_cons 46 a (r ++ [46] ++ p) ha
    refine ⟨by simp [hasC], ?_, ?_⟩
    · show headC 46 (a :: (r ++ [46] ++ p)) = a :: r
      rw [this.1, i2]
    · show tailC 46 (a :: (r ++ [46] ++ p)) = p
      rw [this.2, i3]
theorem dp_cut : ∀ l : List UInt8, (46 : UInt8) ∈ l → dpF (headC 46 l) (tailC 46 l) = l
  | [], h => by cases h
  | a :: r, h => by
    by_cases ha : a = 46
    · subst ha
      rw [(headC_same 46 r).1, (headC_same 46 r).2]
      rfl
    · have ih := dp_cut r (by
        rcases List.mem_cons.1 h with e | e
        · exact absurd e.symm ha
        · exact e)
      rw [(headC_cons 46 a r ha).1, (headC_cons 46 a r ha).2]
      show a :: dpF (headC 46 r) (tailC 46 r) = a :: r
      rw [ih]
theorem dp_back {l : List UInt8} (h : pwB l = true) : dpF (headC 46 l) (tailC 46 l) = l ∧ nwB (headC 46 l) = true ∧ nwB (tailC 46 l) = true := by
  unfold pwB at h
  rw [Bool.and_eq_true, Bool.and_eq_true] at h
  exact ⟨dp_cut l (of_decide_eq_true h.1), h.2.1, h.2.2⟩
theorem pw_word {l : List UInt8} (h : pwB l = true) : wordF l = true := by
  obtain ⟨e, h1, h2⟩ := dp_back h
  obtain ⟨a1, a2, a3⟩ := nw_mem h1
  obtain ⟨b1, b2, b3⟩ := nw_mem h2
  rw [← e]
  refine (wordF_iff _).2 ⟨?_, ?_, fun c hc => ?_⟩
  · unfold dpF; simp; omega
  · unfold dpF; simp; omega
  · unfold dpF at hc
    rcases List.mem_append.1 hc with hc | hc
    · rcases List.mem_append.1 hc with hc | hc
      · exact lc_wch c (a3 c hc)
      · rw [List.mem_singleton.1 hc]; decide
    · exact lc_wch c (b3 c hc)
theorem rn_words {ws : List (List UInt8)} (h : rnE ws = 0) : ws.getD 0 [] = sTen ∧ 3 ≤ ws.length ∧ ws.length ≤ 18 ∧ nwB (ws.getD 1 []) = true ∧ (ws.drop 2).all pwB = true := by
  unfold rnE at h
  by_cases h1 : ws.getD 0 [] ≠ sTen ∨ ws.length < 3 ∨ 18 < ws.length
  · rw [if_pos h1] at h; cases h
  · rw [if_neg h1] at h
    by_cases h2 : nwB (ws.getD 1 []) = false
    · rw [if_pos h2] at h; cases h
    · rw [if_neg h2] at h
      by_cases h3 : (ws.drop 2).all pwB = true
      · refine ⟨?_, by omega, by omega, by simpa using h2, h3⟩
        rcases Classical.em (ws.getD 0 [] = sTen) with e | e
        · exact e
        · exact absurd (.inl e) h1
      · rw [if_neg h3] at h; cases h
theorem ws_form {ws : List (List UInt8)} (h : rnE ws = 0) : ws = sTen :: ws.getD 1 [] :: ws.drop 2 := by
  obtain ⟨h0, h3, _⟩ := rn_words h
  match ws, h0, h3 with
  | a :: b :: r, h0, _ =>
    have : a = sTen := by simpa using h0
    rw [this]
    simp
theorem rn_wordF {ws : List (List UInt8)} (h : rnE ws = 0) : ∀ w ∈ ws, wordF w = true := by
  obtain ⟨_, _, _, h4, h5⟩ := rn_words h
  rw [ws_form h]
  intro w hw
  rcases List.mem_cons.1 hw with rfl | hw
  · decide
  rcases List.mem_cons.1 hw with rfl | hw
  · exact nw_word h4
  · exact pw_word (List.all_eq_true.1 h5 w hw)
/-- what was read of words is written as these words, and may be -/
theorem rn_back {ws : List (List UInt8)} (h : rnE ws = 0) (row : Int) : twF (rnT ws row) = ws ∧ RgT (rnT ws row) := by
  obtain ⟨_, h2, h3, h4, h5⟩ := rn_words h
  have e : twF (rnT ws row) = ws := by
    unfold rnT
    rw [if_pos h]
    conv => rhs; rw [ws_form h]
    unfold twF
    congr 2
    have key : ∀ l : List (List UInt8), l.all pwB = true → List.zipWith dpF (l.map (headC 46)) (l.map (tailC 46)) = l := by
      intro l
      induction l with
      | nil => intro _; rfl
      | cons a r ih =>
        intro hl
        rw [List.all_cons, Bool.and_eq_true] at hl
        rw [List.map_cons, List.map_cons, List.zipWith_cons_cons, ih hl.2, (dp_back hl.1).1]
    exact key _ h5
  refine ⟨e, ?_, ?_, by rw [e]; exact h, ?_⟩
  · unfold rnT; rw [if_pos h]; simp
  · unfold rnT; rw [if_pos h]; simp; omega
  · rw [e]
    unfold rnT
    simp only [if_pos h]
theorem rn_row (ws : List (List UInt8)) (r s : Int) (h : rnE ws = 0) : rnT ws r = (rnT ws s).at r := by
  unfold rnT
  rw [if_pos h, if_pos h]
  rfl
theorem tw_at (T : TV) (r : Int) : twF (T.at r) = twF T := rfl
theorem RgT.at {T : TV} (h : RgT T) (r : Int) : RgT (T.at r) := by
  obtain ⟨h1, h2, h3, h4⟩ := h
  refine ⟨h1, h2, h3, ?_⟩
  show rnT (twF T) r = T.at r
  rw [rn_row _ r T.row h3, h4]
theorem sm_at (T : TV) (r : Int) : smT T (T.at r) = true := by rw [smT_iff]; exact ⟨rfl, rfl, rfl⟩

/-! Rows. -/
theorem tr_back {T : TV} (h : RgT T) : wsF (ahead (trF T)) = twF T ∧ wlE (trF T) = 0 ∧ (10 : UInt8) ∉ trF T := by
  have hw := rn_wordF h.2.2.1
  exact ⟨(bk_words hw).1, (bk_words hw).2, bk_no10 hw⟩
theorem po_row {T : TV} (h : RgT T) (m : Nat) (hm : m < 10) (i : Nat) : poE (trF T) m = 0 ∧ poL (trF T) i = [T.at ((i : Int) + 1)] := by
  obtain ⟨e1, e2, _⟩ := tr_back h
  have ne : twF T ≠ [] := List.cons_ne_nil _ _
  constructor
  · unfold poE
    rw [if_pos e2, e1, if_neg ne, if_pos h.2.2.1, if_neg (by omega)]
  · unfold poL
    rw [e1, if_neg ne, rn_row _ _ T.row h.2.2.1, h.2.2.2]
theorem po_rows : ∀ (xs : List TV) (i : Nat) (acc : List TV), (∀ T ∈ xs, RgT T) → acc.length + xs.length ≤ 10 → poF (xs.map trF) i acc = (0, 0, acc ++ reRow i xs)
  | [], i, acc, _, _ => by simp [poF, reRow]
  | T :: r, i, acc, h, hl => by
    rw [List.length_cons] at hl
    obtain ⟨a1, a2⟩ := po_row (h T (by simp)) acc.length (by omega) i
    rw [List.map_cons, poF, if_pos a1, a2, po_rows r (i + 1) _ (fun x hx => h x (by simp [hx])) (by rw [List.length_append, List.length_singleton]; omega)]
    rw [reRow, List.append_assoc]
    rfl
/-- what is written is read -/
theorem po_back {xs : List TV} (h : ∀ T ∈ xs, RgT T) (hl : xs.length ≤ 10) (hs : (tpF xs).length ≤ 20000) : poV (tpF xs) = (0, 0, reRow 0 xs) := by
  have hr : rwF (tpF xs) = xs.map trF := rows_back _ (fun p hp => by
    obtain ⟨T, hT, rfl⟩ := List.mem_map.1 hp
    exact (tr_back (h T hT)).2.2)
  unfold poV
  rw [if_pos (rwE_ok (by omega) (by rw [hr, List.length_map]; omega)), hr, po_rows xs 0 [] h (by simpa using hl)]
  rfl
theorem re_len : ∀ (xs : List TV) (i : Nat), (reRow i xs).length = xs.length
  | [], _ => rfl
  | T :: r, i => by rw [reRow, List.length_cons, List.length_cons, re_len r (i + 1)]
theorem re_at : ∀ (xs : List TV) (i k : Nat), k < xs.length → (reRow i xs).getD k TV.zero = (xs.getD k TV.zero).at (((i + k : Nat) : Int) + 1)
  | [], _, _, h => by simp at h
  | T :: r, i, 0, _ => by simp [reRow]
  | T :: r, i, k + 1, h => by
    rw [reRow]
    have := re_at r (i + 1) k (by simpa using h)
    rw [show i + 1 + k = i + (k + 1) by omega] at this
    simpa using this
theorem re_same : ∀ (xs : List TV) (i : Nat), smP xs (reRow i xs) = true
  | [], _ => rfl
  | T :: r, i => by rw [reRow, smP, sm_at, re_same r (i + 1)]; rfl
theorem re_right {xs : List TV} (h : ∀ T ∈ xs, RgT T) : ∀ i, ∀ T ∈ reRow i xs, RgT T := by
  induction xs with
  | nil => intro i T hT; cases hT
  | cons a r ih =>
    intro i T hT
    rw [reRow] at hT
    rcases List.mem_cons.1 hT with rfl | hT
    · exact (h a (by simp)).at _
    · exact ih (fun x hx => h x (by simp [hx])) (i + 1) T hT

/-! What is read. -/
theorem po_sound : ∀ (rows : List (List UInt8)) (i : Nat) (acc : List TV) (row : Int) (xs : List TV), poF rows i acc = (row, 0, xs) → (∀ T ∈ acc, RgT T) → acc.length ≤ 10 → (∀ T ∈ xs, RgT T) ∧ xs.length ≤ 10 ∧ row = 0 ∧ (tpF xs).length ≤ (tpF acc).length + (endF rows).length
  | [], i, acc, row, xs, h, hA, hL => by
    rw [poF] at h
    obtain rfl : acc = xs := (Prod.mk.inj (Prod.mk.inj h).2).2
    exact ⟨hA, hL, (Prod.mk.inj h).1.symm, by omega⟩
  | r :: rs, i, acc, row, xs, h, hA, hL => by
    rw [poF] at h
    by_cases he : poE r acc.length = 0
    rotate_left
    · rw [if_neg he] at h
      exact absurd (Prod.mk.inj (Prod.mk.inj h).2).1 he
    rw [if_pos he] at h
    have hw : wlE r = 0 := by
      unfold poE at he
      by_cases g : wlE r = 0
      · exact g
      · rw [if_neg g] at he; exact absurd he g
    have hend : (endF (r :: rs)).length = r.length + 1 + (endF rs).length := by rw [endF, List.length_append, List.length_append, List.length_singleton]
    by_cases hn : wsF (ahead r) = []
    · have e : poL r i = [] := by unfold poL; rw [if_pos hn]
      rw [e, List.append_nil] at h
      obtain ⟨a1, a2, a3, a4⟩ := po_sound rs (i + 1) acc row xs h hA hL
      exact ⟨a1, a2, a3, by omega⟩
    · unfold poE at he
      rw [if_pos hw, if_neg hn] at he
      have hr : rnE (wsF (ahead r)) = 0 := by
        by_cases g : rnE (wsF (ahead r)) = 0
        · exact g
        · rw [if_neg g] at he; exact absurd he g
      have hm : acc.length ≠ 10 := fun g => by rw [if_pos hr, if_pos g] at he; cases he
      have e : poL r i = [rnT (wsF (ahead r)) ((i : Int) + 1)] := by unfold poL; rw [if_neg hn]
      obtain ⟨b1, b2⟩ := rn_back hr ((i : Int) + 1)
      rw [e] at h
      obtain ⟨a1, a2, a3, a4⟩ := po_sound rs (i + 1) _ row xs h (fun T hT => by
        rcases List.mem_append.1 hT with hT | hT
        · exact hA T hT
        · rw [List.mem_singleton.1 hT]; exact b2) (by rw [List.length_append, List.length_singleton]; omega)
      refine ⟨a1, a2, a3, ?_⟩
      have hj : (trF (rnT (wsF (ahead r)) ((i : Int) + 1))).length ≤ r.length := by
        unfold trF
        rw [b1]
        exact Nat.le_trans (bk_join (ahead r)).2 (ahead_spec r).1
      have ht : (tpF (acc ++ [rnT (wsF (ahead r)) ((i : Int) + 1)])).length = (tpF acc).length + (trF (rnT (wsF (ahead r)) ((i : Int) + 1))).length + 1 := by
        unfold tpF
        rw [List.map_append, List.map_cons, List.map_nil, endF_snoc, List.length_append, List.length_append, List.length_singleton]
      omega
theorem po_read {l : List UInt8} {row : Int} {xs : List TV} (h : poV l = (row, 0, xs)) : (∀ T ∈ xs, RgT T) ∧ xs.length ≤ 10 ∧ row = 0 ∧ (tpF xs).length ≤ l.length + 1 := by
  unfold poV at h
  by_cases hr : rwE l = 0
  · rw [if_pos hr] at h
    obtain ⟨a1, a2, a3, a4⟩ := po_sound _ _ _ _ _ h (fun T hT => by cases hT) (by simp)
    refine ⟨a1, a2, a3, ?_⟩
    have := bk_len l
    have e : (tpF []).length = 0 := rfl
    omega
  · rw [if_neg hr] at h
    exact absurd (Prod.mk.inj (Prod.mk.inj h).2).1 hr
theorem poF_wrong : ∀ (rows : List (List UInt8)) (i : Nat) (acc : List TV) (row E : Int) (xs : List TV), poF rows i acc = (row, E, xs) → E ≠ 0 → xs = [] ∧ 0 < row
  | [], i, acc, row, E, xs, h, hE => by
    rw [poF] at h
    exact absurd (Prod.mk.inj (Prod.mk.inj h).2).1.symm hE
  | r :: rs, i, acc, row, E, xs, h, hE => by
    rw [poF] at h
    by_cases he : poE r acc.length = 0
    · rw [if_pos he] at h
      exact poF_wrong rs (i + 1) _ row E xs h hE
    · rw [if_neg he] at h
      obtain ⟨h1, h2⟩ := Prod.mk.inj h
      obtain ⟨_, h3⟩ := Prod.mk.inj h2
      exact ⟨h3.symm, by omega⟩
theorem po_wrong {l : List UInt8} {row E : Int} {xs : List TV} (h : poV l = (row, E, xs)) (hE : E ≠ 0) : xs = [] ∧ (0 < row ∨ E = 3) := by
  unfold poV at h
  by_cases hr : rwE l = 0
  · rw [if_pos hr] at h
    obtain ⟨a, b⟩ := poF_wrong _ _ _ _ _ _ h hE
    exact ⟨a, .inl b⟩
  · rw [if_neg hr] at h
    obtain ⟨_, h2⟩ := Prod.mk.inj h
    obtain ⟨h3, h4⟩ := Prod.mk.inj h2
    refine ⟨h4.symm, .inr ?_⟩
    rw [← h3]
    unfold rwE at hr ⊢
    by_cases g : 20000 < l.length
    · rw [if_pos g]
    · rw [if_neg g] at hr ⊢
      by_cases g2 : 400 < (rwF l).length
      · rw [if_pos g2]
      · rw [if_neg g2] at hr; exact absurd rfl hr
end Go.Proofs.Ytkfhjmoocnhekaa
