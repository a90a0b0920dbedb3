/- What package stmt's code makes of words, by its parts: which line, or why none; it is what the document makes of them. Is a line one of some words? The code's answer is the document's (made by mk-stcode2.py). -/
import Derived.Test.YtagbfklcbekceaaGreatDoorStShape
import Derived.Test.YtagbfklcbekceaaGreatDoorStWv
namespace Go.Proofs.YtagbfklcbekceaaGreatDoor
open Go.RowKit

/-- the least and the greatest number -/
def loW : Nat → Int
  | 3 | 4 | 5 | 6 | 10 | 11 => 1
  | _ => 0
def hiW : Nat → Int
  | 2 | 3 | 11 => 65535
  | 4 | 5 | 10 => 4094
  | 6 => 16777215
  | _ => 0
def optB (w : Nat) : Bool := decide (w = 5) || decide (w = 10) || decide (w = 11)
def loneB (m : Int) : Bool := decide (m ≤ 281474976710655) && (!Mac.grp m && !Mac.isHostB m)
def upA : Int → List Int → Bool
  | _, [] => true
  | a, x :: r => decide (a < x) && upA x r
def risA (xs : List Int) : Bool := upA 0 xs && (decide (1 ≤ xs.length) && decide (xs.length ≤ 16))
/-- may a word say so? -/
noncomputable def mayW : Nat → WV → Bool
  | 0, V => nmB V.text
  | 1, V => (V.text == sAccess) || (V.text == sTrunk)
  | 2, V => decide (0 ≤ V.n) && decide (V.n ≤ 65535)
  | 3, V => decide (1 ≤ V.n) && decide (V.n ≤ 65535)
  | 4, V => decide (1 ≤ V.n) && decide (V.n ≤ 4094)
  | 5, V => decide (1 ≤ V.n) && decide (V.n ≤ 4094)
  | 6, V => decide (1 ≤ V.n) && decide (V.n ≤ 16777215)
  | 7, V => loneB V.mac
  | 8, V => !decide (V.addr = 0)
  | 9, V => snB V.addr V.n
  | 10, V => risIn V.list 1 4094
  | 11, V => risIn V.list 1 65535
  | 12, V => risA V.addrs
  | _, _ => false
noncomputable def mayB (w : Nat) (V : WV) : Bool := if optB w = true ∧ V.n = 0 ∧ V.list = [] then true else mayW w V
def readB : Nat → List UInt8 → Bool
  | 0, _ | 1, _ => true
  | 2, s => nB s 0 65535
  | 3, s => nB s 1 65535
  | 4, s => nB s 1 4094
  | 5, s => nB s 1 4094
  | 6, s => nB s 1 16777215
  | 7, s => mcB s
  | 8, s => rdB s
  | 9, s => pfB s
  | 10, s => lsB (rdI 1 4094) s
  | 11, s => lsB (rdI 1 65535) s
  | 12, s => lsB rdA s
  | _, _ => false
def readV : Nat → List UInt8 → WV
  | 0, s => { WV.zero with text := s }
  | 1, s => { WV.zero with text := s }
  | 2, s => { WV.zero with n := nV s 0 65535 }
  | 3, s => { WV.zero with n := nV s 1 65535 }
  | 4, s => { WV.zero with n := nV s 1 4094 }
  | 5, s => { WV.zero with n := nV s 1 4094 }
  | 6, s => { WV.zero with n := nV s 1 16777215 }
  | 7, s => { WV.zero with mac := mcV s }
  | 8, s => { WV.zero with addr := rdV s }
  | 9, s => { WV.zero with addr := paV s, n := pbV s }
  | 10, s => { WV.zero with list := lsV (rdI 1 4094) s }
  | 11, s => { WV.zero with list := lsV (rdI 1 65535) s }
  | 12, s => { WV.zero with addrs := lsV rdA s }
  | _, _ => WV.zero
/-- is a word what it is to be? -/
noncomputable def saidB (w : Nat) (s : List UInt8) : Bool := if s = dash then optB w else readB w s && mayB w (readV w s)
def saidV (w : Nat) (s : List UInt8) : WV := if s = dash then WV.zero else readV w s
def refE (w : Nat) : Int := if w = 0 ∨ w = 1 then 20 else 21
/-- words read by their parts: what each is to be, and its field -/
noncomputable def runC : List (Nat × Nat) → List (List UInt8) → LV → Int × LV
  | (w, f) :: ps, s :: ws, L => if saidB w s = true then runC ps ws (fput f L (saidV w s)) else (refE w, L)
  | _, _, L => (0, L)
def pts (k : Int) (tg : Bool) : List (Nat × Nat) :=
  if k = 1 then [(0, 0), (2, 6), (7, 9)] else if k = 2 then (if tg = true then [(0, 0), (0, 1), (3, 8), (1, 5), (5, 7), (10, 12)] else [(0, 0), (0, 1), (3, 8), (1, 5), (4, 7)])
  else if k = 3 then [(0, 0), (0, 1), (0, 2), (0, 3)] else if k = 4 then [(0, 0), (4, 7), (7, 9), (0, 1)] else if k = 5 then [(0, 0), (8, 10)] else if k = 6 then [(0, 0), (4, 7), (6, 6)]
  else if k = 7 then [(0, 0), (6, 6), (12, 15)] else if k = 8 then [(0, 0), (0, 4), (11, 13), (11, 14)] else if k = 9 then [(0, 0), (4, 7), (0, 4), (9, 11)] else []
def tkB (ws : List (List UInt8)) : Bool := if ws.length ≤ 4 then false else if wat ws 4 = sAccess then false else if wat ws 4 = sTrunk then true else decide (ws.length = 7)
def apB (L : LV) : Bool := decide (L.kind ≠ 2) || ((decide (L.vlan ≠ 0) || decide (0 < L.tagged.length)) && !(L.tagged.any (fun x => decide (x = L.vlan))))
def ptW (ws : List (List UInt8)) : List (Nat × Nat) := pts (kdV (wat ws 0)) (tkB ws)
noncomputable def rnC (ws : List (List UInt8)) (row : Int) : Int × LV := runC (ptW ws) (ws.drop 1) (LV.new row (kdV (wat ws 0)))
noncomputable def cdE (ws : List (List UInt8)) (row : Int) : Int :=
  if ws = [] ∨ ptW ws = [] ∨ ws.length ≠ 1 + (ptW ws).length then 22 else if (rnC ws row).1 = 0 then (if apB (rnC ws row).2 = true then 0 else 21) else (rnC ws row).1

/-! A word, by its letter and by what it is to be. -/
theorem nm_dash : nmB dash = false := by
  cases h : nmB dash with
  | false => rfl
  | true =>
    exfalso
    have := ((nmB_iff dash).1 h).2.2.1
    revert this
    unfold Lc sb dash
    decide
theorem nF_dash (lo hi : Int) : nF dash lo hi = none := rfl
theorem nB_dash (lo hi : Int) : nB dash lo hi = false := rfl
theorem rd_dash : rdB dash = false := rfl
theorem mc_dash : mcB dash = false := rfl
theorem pf_dash : pfB dash = false := rfl
theorem lsA_dash : lsB rdA dash = false := rfl
theorem may_plain {w : Nat} (h : optB w = false) (V : WV) : mayB w V = mayW w V := by
  unfold mayB
  rw [if_neg]
  rintro ⟨h1, _⟩
  rw [h] at h1
  cases h1
theorem saidB_plain {w : Nat} (h : optB w = false) (s : List UInt8) (hd : readB w dash = false ∨ mayW w (readV w dash) = false) : saidB w s = (readB w s && mayW w (readV w s)) := by
  unfold saidB
  by_cases e : s = dash
  · subst e
    rw [if_pos rfl, h]
    rcases hd with hd | hd
    · rw [hd]; rfl
    · rw [hd, Bool.and_false]
  · rw [if_neg e, may_plain h]
theorem saidV_plain {w : Nat} {s : List UInt8} (h : optB w = false) (hs : saidB w s = true) : saidV w s = readV w s := by
  unfold saidV
  by_cases e : s = dash
  · unfold saidB at hs
    rw [if_pos e, h] at hs
    cases hs
  · rw [if_neg e]
theorem num_may (s : List UInt8) (lo hi : Int) : (nB s lo hi && (decide (lo ≤ nV s lo hi) && decide (nV s lo hi ≤ hi))) = nB s lo hi := by
  cases h : nB s lo hi with
  | false => rfl
  | true =>
    have := nB_yes h
    rw [decide_eq_true this.1, decide_eq_true this.2]
    rfl
theorem said0 (s : List UInt8) : saidB 0 s = nmB s := by
  rw [saidB_plain (w := 0) (by decide) s (.inr nm_dash)]
  exact Bool.true_and _
theorem said1 (s : List UInt8) : saidB 1 s = ((s == sAccess) || (s == sTrunk)) := by
  rw [saidB_plain (w := 1) (by decide) s (.inr (by decide))]
  exact Bool.true_and _
theorem said2 (s : List UInt8) : saidB 2 s = nB s 0 65535 := by
  rw [saidB_plain (w := 2) (by decide) s (.inl (nB_dash _ _))]
  exact num_may s 0 65535
theorem said3 (s : List UInt8) : saidB 3 s = nB s 1 65535 := by
  rw [saidB_plain (w := 3) (by decide) s (.inl (nB_dash _ _))]
  exact num_may s 1 65535
theorem said4 (s : List UInt8) : saidB 4 s = nB s 1 4094 := by
  rw [saidB_plain (w := 4) (by decide) s (.inl (nB_dash _ _))]
  exact num_may s 1 4094
theorem said6 (s : List UInt8) : saidB 6 s = nB s 1 16777215 := by
  rw [saidB_plain (w := 6) (by decide) s (.inl (nB_dash _ _))]
  exact num_may s 1 16777215
theorem said5 (s : List UInt8) : saidB 5 s = (nB s 1 4094 || decide (s = dash)) := by
  unfold saidB
  by_cases e : s = dash
  · rw [if_pos e, decide_eq_true e, Bool.or_true]; rfl
  · rw [if_neg e, decide_eq_false e, Bool.or_false]
    show (nB s 1 4094 && _) = _
    cases h : nB s 1 4094 with
    | false => rfl
    | true =>
      have := nB_yes h
      unfold mayB
      rw [if_neg (by rintro ⟨_, h2, _⟩; have h3 : nV s 1 4094 = 0 := h2; omega)]
      show (true && (decide (1 ≤ nV s 1 4094) && decide (nV s 1 4094 ≤ 4094))) = true
      rw [decide_eq_true this.1, decide_eq_true this.2]
      rfl
theorem said7 (s : List UInt8) : saidB 7 s = (mcB s && stB (mcV s)) := by
  rw [saidB_plain (w := 7) (by decide) s (.inl mc_dash)]
  show (mcB s && loneB (mcV s)) = _
  unfold loneB stB
  rw [decide_eq_true (by have := (shMac_bd s).2; omega), Bool.true_and, Bool.and_comm (!Mac.grp _)]
theorem said8 (s : List UInt8) : saidB 8 s = (rdB s && decide (0 < rdV s)) := by
  rw [saidB_plain (w := 8) (by decide) s (.inl rd_dash)]
  show (rdB s && !decide (rdV s = 0)) = _
  have := shAddr_bd s
  congr 1
  by_cases h : rdV s = 0
  · rw [decide_eq_true h, decide_eq_false (by omega)]; rfl
  · rw [decide_eq_false h, decide_eq_true (by omega)]; rfl
theorem said9 (s : List UInt8) : saidB 9 s = (pfB s && snB (paV s) (pbV s)) := by
  rw [saidB_plain (w := 9) (by decide) s (.inl pf_dash)]
  rfl
theorem may_list (w : Nat) (xs : List Int) (h : mayW w { WV.zero with list := xs } = true) : mayB w { WV.zero with list := xs } = true := by
  unfold mayB
  by_cases e : optB w = true ∧ ({ WV.zero with list := xs } : WV).n = 0 ∧ ({ WV.zero with list := xs } : WV).list = []
  · rw [if_pos e]
  · rw [if_neg e, h]
theorem said10 (s : List UInt8) : saidB 10 s = lsDB s 4094 := by
  unfold saidB lsDB
  by_cases e : s = dash
  · rw [if_pos e, if_pos e]; rfl
  · rw [if_neg e, if_neg e]
    show (lsB (rdI 1 4094) s && _) = _
    cases h : lsB (rdI 1 4094) s with
    | false => rfl
    | true => rw [Bool.true_and]; exact may_list 10 _ (ls_ris h)
theorem said11 (s : List UInt8) : saidB 11 s = lsDB s 65535 := by
  unfold saidB lsDB
  by_cases e : s = dash
  · rw [if_pos e, if_pos e]; rfl
  · rw [if_neg e, if_neg e]
    show (lsB (rdI 1 65535) s && _) = _
    cases h : lsB (rdI 1 65535) s with
    | false => rfl
    | true => rw [Bool.true_and]; exact may_list 11 _ (ls_ris h)
theorem upA_upB (x : Int) (r : List Int) : upA x r = upB (x :: r) := by
  induction r generalizing x with
  | nil => rfl
  | cons y r ih => show (decide (x < y) && upA y r) = (decide (x < y) && upB (y :: r)); rw [ih]
theorem risA_of {xs : List Int} {hi : Int} (h : risIn xs 0 hi = true) : risA xs = decide (0 < xs.getD 0 0) := by
  unfold risIn at h
  rw [Bool.and_eq_true] at h
  have h2 := (risB_iff xs).1 h.1
  have h3 := (upB_iff xs).2 h2.2.2
  unfold risA
  rw [decide_eq_true h2.1, decide_eq_true h2.2.1, Bool.and_self, Bool.and_true]
  cases xs with
  | nil => exact absurd h2.1 (by simp)
  | cons x r =>
    show (decide (0 < x) && upA x r) = decide (0 < x)
    rw [upA_upB, h3, Bool.and_true]
theorem said12 (s : List UInt8) : saidB 12 s = (lsB rdA s && decide (0 < (lsV rdA s).getD 0 0)) := by
  rw [saidB_plain (w := 12) (by decide) s (.inl lsA_dash)]
  show (lsB rdA s && risA (lsV rdA s)) = _
  cases h : lsB rdA s with
  | false => rfl
  | true => rw [risA_of (lsA_ris h)]
theorem val5 (s : List UInt8) : saidV 5 s = { WV.zero with n := nV s 1 4094 } := by
  unfold saidV
  by_cases e : s = dash
  · rw [if_pos e, nV_no (by rw [e]; exact nB_dash _ _)]; rfl
  · rw [if_neg e]; rfl
theorem val10 (s : List UInt8) : saidV 10 s = { WV.zero with list := lsD s 4094 } := by
  unfold saidV lsD
  by_cases e : s = dash
  · rw [if_pos e, if_pos e]; rfl
  · rw [if_neg e, if_neg e]; rfl
theorem val11 (s : List UInt8) : saidV 11 s = { WV.zero with list := lsD s 65535 } := by
  unfold saidV lsD
  by_cases e : s = dash
  · rw [if_pos e, if_pos e]; rfl
  · rw [if_neg e, if_neg e]; rfl
/-- a letter, and what a word is to be -/
def LW (c : UInt8) (w : Nat) : Prop := ∀ s, wdE c s = if saidB w s = true then 0 else refE w
theorem lw_N : LW 78 0 := fun s => by rw [said0]; rfl
theorem lw_K : LW 75 1 := fun s => by
  rw [said1]
  show (if s = sAccess ∨ s = sTrunk then (0 : Int) else 20) = _
  by_cases h : s = sAccess ∨ s = sTrunk
  · rw [if_pos h, if_pos (by rcases h with h | h <;> simp [h])]
  · rw [if_neg h, if_neg (by simpa using h)]; rfl
theorem lw_P : LW 80 2 := fun s => by rw [said2]; rfl
theorem lw_C : LW 67 3 := fun s => by rw [said3]; rfl
theorem lw_V : LW 86 4 := fun s => by rw [said4]; rfl
theorem lw_W : LW 87 5 := fun s => by rw [said5]; rfl
theorem lw_I : LW 73 6 := fun s => by rw [said6]; rfl
theorem lw_M : LW 77 7 := fun s => by rw [said7]; rfl
theorem lw_A : LW 65 8 := fun s => by rw [said8]; rfl
theorem lw_S : LW 83 9 := fun s => by rw [said9]; rfl
theorem lw_T : LW 84 10 := fun s => by rw [said10]; rfl
theorem lw_R : LW 82 11 := fun s => by rw [said11]; rfl
theorem lw_L : LW 76 12 := fun s => by rw [said12]; rfl

/-- the code's answer and the document's -/
def Rel (a b : Int × LV) : Prop := a.1 = b.1 ∧ (a.1 = 0 → a.2 = b.2)
theorem ref_ne (w : Nat) : refE w ≠ 0 := by unfold refE; split <;> decide
theorem rel_step {w f : Nat} {ps : List (Nat × Nat)} {s : List UInt8} {ws : List (List UInt8)} {L M : LV} {c : UInt8} {fm : List UInt8} {k : Nat} (he : LW c w)
    (h : saidB w s = true → Rel (runC ps ws (fput f L (saidV w s))) (runS fm ws (if c = 78 then k + 1 else k) (wdL c s k M))) : Rel (runC ((w, f) :: ps) (s :: ws) L) (runS (c :: fm) (s :: ws) k M) := by
  rw [runC, runS, he s]
  by_cases hs : saidB w s = true
  · rw [if_pos hs, if_pos hs, if_pos rfl]; exact h hs
  · rw [if_neg hs, if_neg hs, if_neg (ref_ne w)]
    exact ⟨rfl, fun e => absurd e (ref_ne w)⟩
theorem rel_end {L M : LV} {k : Nat} (h : L = M) : Rel (runC [] [] L) (runS [] [] k M) := by
  subst h
  exact ⟨rfl, fun _ => rfl⟩
theorem rel1 (row : Int) (w1 w2 w3 : List UInt8) : Rel (runC [(0, 0), (2, 6), (7, 9)] [w1, w2, w3] (LV.new row 1)) (runS [78, 80, 77] [w1, w2, w3] 0 (LV.new row 1)) := by
  refine rel_step lw_N fun h1 => rel_step lw_P fun h2 => rel_step lw_M fun h3 => rel_end ?_
  rw [saidV_plain rfl h1, saidV_plain rfl h2, saidV_plain rfl h3]; rfl
theorem rel3 (row : Int) (w1 w2 w3 w4 : List UInt8) : Rel (runC [(0, 0), (0, 1), (0, 2), (0, 3)] [w1, w2, w3, w4] (LV.new row 3)) (runS [78, 78, 78, 78] [w1, w2, w3, w4] 0 (LV.new row 3)) := by
  refine rel_step lw_N fun h1 => rel_step lw_N fun h2 => rel_step lw_N fun h3 => rel_step lw_N fun h4 => rel_end ?_
  rw [saidV_plain rfl h1, saidV_plain rfl h2, saidV_plain rfl h3, saidV_plain rfl h4]; rfl
theorem rel4 (row : Int) (w1 w2 w3 w4 : List UInt8) : Rel (runC [(0, 0), (4, 7), (7, 9), (0, 1)] [w1, w2, w3, w4] (LV.new row 4)) (runS [78, 86, 77, 78] [w1, w2, w3, w4] 0 (LV.new row 4)) := by
  refine rel_step lw_N fun h1 => rel_step lw_V fun h2 => rel_step lw_M fun h3 => rel_step lw_N fun h4 => rel_end ?_
  rw [saidV_plain rfl h1, saidV_plain rfl h2, saidV_plain rfl h3, saidV_plain rfl h4]; rfl
theorem rel5 (row : Int) (w1 w2 : List UInt8) : Rel (runC [(0, 0), (8, 10)] [w1, w2] (LV.new row 5)) (runS [78, 65] [w1, w2] 0 (LV.new row 5)) := by
  refine rel_step lw_N fun h1 => rel_step lw_A fun h2 => rel_end ?_
  rw [saidV_plain rfl h1, saidV_plain rfl h2]; rfl
theorem rel6 (row : Int) (w1 w2 w3 : List UInt8) : Rel (runC [(0, 0), (4, 7), (6, 6)] [w1, w2, w3] (LV.new row 6)) (runS [78, 86, 73] [w1, w2, w3] 0 (LV.new row 6)) := by
  refine rel_step lw_N fun h1 => rel_step lw_V fun h2 => rel_step lw_I fun h3 => rel_end ?_
  rw [saidV_plain rfl h1, saidV_plain rfl h2, saidV_plain rfl h3]; rfl
theorem rel7 (row : Int) (w1 w2 w3 : List UInt8) : Rel (runC [(0, 0), (6, 6), (12, 15)] [w1, w2, w3] (LV.new row 7)) (runS [78, 73, 76] [w1, w2, w3] 0 (LV.new row 7)) := by
  refine rel_step lw_N fun h1 => rel_step lw_I fun h2 => rel_step lw_L fun h3 => rel_end ?_
  rw [saidV_plain rfl h1, saidV_plain rfl h2, saidV_plain rfl h3]; rfl
theorem rel8 (row : Int) (w1 w2 w3 w4 : List UInt8) : Rel (runC [(0, 0), (0, 4), (11, 13), (11, 14)] [w1, w2, w3, w4] (LV.new row 8)) (runS [78, 78, 82, 82] [w1, w2, w3, w4] 0 (LV.new row 8)) := by
  refine rel_step lw_N fun h1 => rel_step lw_N fun h2 => rel_step lw_R fun h3 => rel_step lw_R fun h4 => rel_end ?_
  rw [saidV_plain rfl h1, saidV_plain rfl h2, val11, val11]; rfl
theorem rel9 (row : Int) (w1 w2 w3 w4 : List UInt8) : Rel (runC [(0, 0), (4, 7), (0, 4), (9, 11)] [w1, w2, w3, w4] (LV.new row 9)) (runS [78, 86, 78, 83] [w1, w2, w3, w4] 0 (LV.new row 9)) := by
  refine rel_step lw_N fun h1 => rel_step lw_V fun h2 => rel_step lw_N fun h3 => rel_step lw_S fun h4 => rel_end ?_
  rw [saidV_plain rfl h1, saidV_plain rfl h2, saidV_plain rfl h3, saidV_plain rfl h4]; rfl
theorem rel2 (row : Int) (w1 w2 w3 w4 w5 w6 : List UInt8) : Rel (runC [(0, 0), (0, 1), (3, 8), (1, 5), (5, 7), (10, 12)] [w1, w2, w3, w4, w5, w6] (LV.new row 2)) (runS [78, 78, 67, 75, 87, 84] [w1, w2, w3, w4, w5, w6] 0 (LV.new row 2)) := by
  refine rel_step lw_N fun h1 => rel_step lw_N fun h2 => rel_step lw_C fun h3 => rel_step lw_K fun h4 => rel_step lw_W fun h5 => rel_step lw_T fun h6 => rel_end ?_
  rw [saidV_plain rfl h1, saidV_plain rfl h2, saidV_plain rfl h3, val5, val10]; rfl
theorem rel0 (row : Int) (w1 w2 w3 w4 w5 : List UInt8) : Rel (runC [(0, 0), (0, 1), (3, 8), (1, 5), (4, 7)] [w1, w2, w3, w4, w5] (LV.new row 2)) (runS [78, 78, 67, 75, 86] [w1, w2, w3, w4, w5] 0 (LV.new row 2)) := by
  refine rel_step lw_N fun h1 => rel_step lw_N fun h2 => rel_step lw_C fun h3 => rel_step lw_K fun h4 => rel_step lw_V fun h5 => rel_end ?_
  rw [saidV_plain rfl h1, saidV_plain rfl h2, saidV_plain rfl h3, saidV_plain rfl h5]; rfl
end Go.Proofs.YtagbfklcbekceaaGreatDoor

namespace Go.Proofs.YtagbfklcbekceaaGreatDoor
open Go.RowKit

theorem ap_mb (M : LV) (h : M.kind ≠ 2 ∨ 0 ≤ M.vlan) : (if apB M = true then (0 : Int) else 21) = (if M.kind = 2 ∧ mbB M = false then 21 else 0) := by
  have e : M.kind = 2 → apB M = mbB M := by
    intro hk
    unfold apB mbB
    rw [decide_eq_false (by simpa using hk), Bool.false_or, Bool.and_comm]
    congr 1
    · rw [List.any_eq_not_all_not, Bool.not_not]
    · congr 1
      rcases h with h | h
      · exact absurd hk h
      · by_cases g : M.vlan = 0
        · rw [decide_eq_false (by simpa using g), decide_eq_false (by omega)]
        · rw [decide_eq_true g, decide_eq_true (by omega)]
  by_cases hk : M.kind = 2
  · rw [e hk]
    cases mbB M with
    | true => rw [if_pos rfl, if_neg (by rintro ⟨_, h⟩; cases h)]
    | false => rw [if_neg (by decide), if_pos ⟨hk, rfl⟩]
  · have h1 : apB M = true := by unfold apB; rw [decide_eq_true hk, Bool.true_or]
    rw [h1, if_pos rfl, if_neg (fun h => hk h.1)]
theorem lt_of {ws : List (List UInt8)} {f : List UInt8} (hf : fmV ws = f) (h0 : f ≠ []) (hl : ws.length = f.length + 1) : ltV ws = f := by
  unfold ltV
  rw [hf, if_pos ⟨h0, hl⟩]
theorem lt_no {ws : List (List UInt8)} {f : List UInt8} (hf : fmV ws = f) (hl : ws.length ≠ f.length + 1) : ltV ws = [] := by
  unfold ltV
  rw [hf, if_neg (fun h => hl h.2)]
theorem rdE_no {ws : List (List UInt8)} {row : Int} (h : ltV ws = []) : rdE ws row = 22 := by unfold rdE; rw [if_pos h]
theorem cd_no {ws : List (List UInt8)} {row : Int} (h : ltV ws = []) (g : ws = [] ∨ ptW ws = [] ∨ ws.length ≠ 1 + (ptW ws).length) : cdE ws row = rdE ws row ∧ (rdE ws row = 0 → (rnC ws row).2 = rdL ws row) := by
  refine ⟨by rw [rdE_no h]; unfold cdE; rw [if_pos g], fun e => ?_⟩
  rw [rdE_no h] at e
  cases e
theorem cd_yes {ws : List (List UInt8)} {row : Int} {f : List UInt8} (h0 : ws ≠ []) (hf : fmV ws = f) (hf0 : f ≠ []) (hl : ws.length = f.length + 1) (hp : ptW ws ≠ []) (hp2 : (ptW ws).length = f.length)
    (hr : Rel (rnC ws row) (runS f (ws.drop 1) 0 (LV.new row (kdV (wat ws 0))))) (hv : (runS f (ws.drop 1) 0 (LV.new row (kdV (wat ws 0)))).1 = 0 → (runS f (ws.drop 1) 0 (LV.new row (kdV (wat ws 0)))).2.kind ≠ 2 ∨ 0 ≤ (runS f (ws.drop 1) 0 (LV.new row (kdV (wat ws 0)))).2.vlan) :
    cdE ws row = rdE ws row ∧ (rdE ws row = 0 → (rnC ws row).2 = rdL ws row) := by
  have hlt := lt_of hf hf0 hl
  have h1 : ¬ (ws = [] ∨ ptW ws = [] ∨ ws.length ≠ 1 + (ptW ws).length) := by
    rintro (h | h | h)
    · exact h0 h
    · exact hp h
    · omega
  unfold rdL rdE cdE
  rw [hlt, if_neg hf0, if_neg h1]
  show (if (rnC ws row).1 = 0 then (if apB (rnC ws row).2 = true then (0 : Int) else 21) else (rnC ws row).1) = (if (runS f (ws.drop 1) 0 (LV.new row (kdV (wat ws 0)))).1 = 0 then (if (runS f (ws.drop 1) 0 (LV.new row (kdV (wat ws 0)))).2.kind = 2 ∧ mbB (runS f (ws.drop 1) 0 (LV.new row (kdV (wat ws 0)))).2 = false then (21 : Int) else 0) else (runS f (ws.drop 1) 0 (LV.new row (kdV (wat ws 0)))).1) ∧ _
  obtain ⟨r1, r2⟩ := hr
  by_cases g : (rnC ws row).1 = 0
  · have g2 := r1.symm.trans g
    rw [if_pos g, if_pos g2, r2 g, ap_mb _ (hv g2)]
    refine ⟨rfl, fun e => ?_⟩
    rw [if_pos e]
  · have g2 : ¬ (runS f (ws.drop 1) 0 (LV.new row (kdV (wat ws 0)))).1 = 0 := fun e => g (r1.trans e)
    rw [if_neg g, if_neg g2]
    exact ⟨r1, fun e => absurd e g2⟩
theorem cd_eq (ws : List (List UInt8)) (row : Int) : cdE ws row = rdE ws row ∧ (rdE ws row = 0 → (rnC ws row).2 = rdL ws row) := by
  by_cases h0 : ws = []
  · refine cd_no ?_ (.inl h0)
    subst h0
    rfl
  by_cases k1 : kdV (wat ws 0) = 1
  · have ef : fmV ws = [78, 80, 77] := by unfold fmV; rw [if_neg h0, if_pos k1]
    have ep : ptW ws = [(0, 0), (2, 6), (7, 9)] := by unfold ptW pts; rw [if_pos k1]
    by_cases hl : ws.length = 3 + 1
    · refine cd_yes h0 ef (by decide) hl (by rw [ep]; decide) (by rw [ep]; rfl) ?_ ?_
      · unfold rnC
        rw [ep, k1]
        clear ef ep k1 h0
        obtain ⟨w0, r0, rfl, l0⟩ := len_two hl
        obtain ⟨w1, r1, rfl, l1⟩ := len_two l0
        obtain ⟨w2, r2, rfl, l2⟩ := len_two l1
        obtain ⟨w3, r3, rfl, l3⟩ := len_two l2
        obtain rfl : r3 = [] := List.eq_nil_of_length_eq_zero l3
        exact rel1 row w1 w2 w3
      · rw [k1]
        clear ef ep k1 h0
        obtain ⟨w0, r0, rfl, l0⟩ := len_two hl
        obtain ⟨w1, r1, rfl, l1⟩ := len_two l0
        obtain ⟨w2, r2, rfl, l2⟩ := len_two l1
        obtain ⟨w3, r3, rfl, l3⟩ := len_two l2
        obtain rfl : r3 = [] := List.eq_nil_of_length_eq_zero l3
        intro h
        have := rk1 row w1 w2 w3 h
        obtain ⟨s, a, m, e, _⟩ := this
        rw [show (List.drop 1 (w0 :: w1 :: w2 :: w3 :: [])) = [w1, w2, w3] from rfl, e]
        exact .inl (show (1 : Int) ≠ 2 by decide)
    · exact cd_no (lt_no ef hl) (.inr (.inr (by rw [ep]; show ws.length ≠ 1 + 3; omega)))
  by_cases k3 : kdV (wat ws 0) = 3
  · have ef : fmV ws = [78, 78, 78, 78] := by unfold fmV; rw [if_neg h0, if_neg k1, if_pos k3]
    have ep : ptW ws = [(0, 0), (0, 1), (0, 2), (0, 3)] := by unfold ptW pts; rw [if_neg (by omega), if_neg (by omega), if_pos k3]
    by_cases hl : ws.length = 4 + 1
    · refine cd_yes h0 ef (by decide) hl (by rw [ep]; decide) (by rw [ep]; rfl) ?_ ?_
      · unfold rnC
        rw [ep, k3]
        clear ef ep k1 k3 h0
        obtain ⟨w0, r0, rfl, l0⟩ := len_two hl
        obtain ⟨w1, r1, rfl, l1⟩ := len_two l0
        obtain ⟨w2, r2, rfl, l2⟩ := len_two l1
        obtain ⟨w3, r3, rfl, l3⟩ := len_two l2
        obtain ⟨w4, r4, rfl, l4⟩ := len_two l3
        obtain rfl : r4 = [] := List.eq_nil_of_length_eq_zero l4
        exact rel3 row w1 w2 w3 w4
      · rw [k3]
        clear ef ep k1 k3 h0
        obtain ⟨w0, r0, rfl, l0⟩ := len_two hl
        obtain ⟨w1, r1, rfl, l1⟩ := len_two l0
        obtain ⟨w2, r2, rfl, l2⟩ := len_two l1
        obtain ⟨w3, r3, rfl, l3⟩ := len_two l2
        obtain ⟨w4, r4, rfl, l4⟩ := len_two l3
        obtain rfl : r4 = [] := List.eq_nil_of_length_eq_zero l4
        intro h
        have := rk3 row w1 w2 w3 w4 h
        obtain ⟨s, p, q, r, e, _⟩ := this
        rw [show (List.drop 1 (w0 :: w1 :: w2 :: w3 :: w4 :: [])) = [w1, w2, w3, w4] from rfl, e]
        exact .inl (show (3 : Int) ≠ 2 by decide)
    · exact cd_no (lt_no ef hl) (.inr (.inr (by rw [ep]; show ws.length ≠ 1 + 4; omega)))
  by_cases k4 : kdV (wat ws 0) = 4
  · have ef : fmV ws = [78, 86, 77, 78] := by unfold fmV; rw [if_neg h0, if_neg k1, if_neg k3, if_pos k4]
    have ep : ptW ws = [(0, 0), (4, 7), (7, 9), (0, 1)] := by unfold ptW pts; rw [if_neg (by omega), if_neg (by omega), if_neg (by omega), if_pos k4]
    by_cases hl : ws.length = 4 + 1
    · refine cd_yes h0 ef (by decide) hl (by rw [ep]; decide) (by rw [ep]; rfl) ?_ ?_
      · unfold rnC
        rw [ep, k4]
        clear ef ep k1 k3 k4 h0
        obtain ⟨w0, r0, rfl, l0⟩ := len_two hl
        obtain ⟨w1, r1, rfl, l1⟩ := len_two l0
        obtain ⟨w2, r2, rfl, l2⟩ := len_two l1
        obtain ⟨w3, r3, rfl, l3⟩ := len_two l2
        obtain ⟨w4, r4, rfl, l4⟩ := len_two l3
        obtain rfl : r4 = [] := List.eq_nil_of_length_eq_zero l4
        exact rel4 row w1 w2 w3 w4
      · rw [k4]
        clear ef ep k1 k3 k4 h0
        obtain ⟨w0, r0, rfl, l0⟩ := len_two hl
        obtain ⟨w1, r1, rfl, l1⟩ := len_two l0
        obtain ⟨w2, r2, rfl, l2⟩ := len_two l1
        obtain ⟨w3, r3, rfl, l3⟩ := len_two l2
        obtain ⟨w4, r4, rfl, l4⟩ := len_two l3
        obtain rfl : r4 = [] := List.eq_nil_of_length_eq_zero l4
        intro h
        have := rk4 row w1 w2 w3 w4 h
        obtain ⟨s, v, m, p, e, _⟩ := this
        rw [show (List.drop 1 (w0 :: w1 :: w2 :: w3 :: w4 :: [])) = [w1, w2, w3, w4] from rfl, e]
        exact .inl (show (4 : Int) ≠ 2 by decide)
    · exact cd_no (lt_no ef hl) (.inr (.inr (by rw [ep]; show ws.length ≠ 1 + 4; omega)))
  by_cases k5 : kdV (wat ws 0) = 5
  · have ef : fmV ws = [78, 65] := by unfold fmV; rw [if_neg h0, if_neg k1, if_neg k3, if_neg k4, if_pos k5]
    have ep : ptW ws = [(0, 0), (8, 10)] := by unfold ptW pts; rw [if_neg (by omega), if_neg (by omega), if_neg (by omega), if_neg (by omega), if_pos k5]
    by_cases hl : ws.length = 2 + 1
    · refine cd_yes h0 ef (by decide) hl (by rw [ep]; decide) (by rw [ep]; rfl) ?_ ?_
      · unfold rnC
        rw [ep, k5]
        clear ef ep k1 k3 k4 k5 h0
        obtain ⟨w0, r0, rfl, l0⟩ := len_two hl
        obtain ⟨w1, r1, rfl, l1⟩ := len_two l0
        obtain ⟨w2, r2, rfl, l2⟩ := len_two l1
        obtain rfl : r2 = [] := List.eq_nil_of_length_eq_zero l2
        exact rel5 row w1 w2
      · rw [k5]
        clear ef ep k1 k3 k4 k5 h0
        obtain ⟨w0, r0, rfl, l0⟩ := len_two hl
        obtain ⟨w1, r1, rfl, l1⟩ := len_two l0
        obtain ⟨w2, r2, rfl, l2⟩ := len_two l1
        obtain rfl : r2 = [] := List.eq_nil_of_length_eq_zero l2
        intro h
        have := rk5 row w1 w2 h
        obtain ⟨s, a, e, _⟩ := this
        rw [show (List.drop 1 (w0 :: w1 :: w2 :: [])) = [w1, w2] from rfl, e]
        exact .inl (show (5 : Int) ≠ 2 by decide)
    · exact cd_no (lt_no ef hl) (.inr (.inr (by rw [ep]; show ws.length ≠ 1 + 2; omega)))
  by_cases k6 : kdV (wat ws 0) = 6
  · have ef : fmV ws = [78, 86, 73] := by unfold fmV; rw [if_neg h0, if_neg k1, if_neg k3, if_neg k4, if_neg k5, if_pos k6]
    have ep : ptW ws = [(0, 0), (4, 7), (6, 6)] := by unfold ptW pts; rw [if_neg (by omega), if_neg (by omega), if_neg (by omega), if_neg (by omega), if_neg (by omega), if_pos k6]
    by_cases hl : ws.length = 3 + 1
    · refine cd_yes h0 ef (by decide) hl (by rw [ep]; decide) (by rw [ep]; rfl) ?_ ?_
      · unfold rnC
        rw [ep, k6]
        clear ef ep k1 k3 k4 k5 k6 h0
        obtain ⟨w0, r0, rfl, l0⟩ := len_two hl
        obtain ⟨w1, r1, rfl, l1⟩ := len_two l0
        obtain ⟨w2, r2, rfl, l2⟩ := len_two l1
        obtain ⟨w3, r3, rfl, l3⟩ := len_two l2
        obtain rfl : r3 = [] := List.eq_nil_of_length_eq_zero l3
        exact rel6 row w1 w2 w3
      · rw [k6]
        clear ef ep k1 k3 k4 k5 k6 h0
        obtain ⟨w0, r0, rfl, l0⟩ := len_two hl
        obtain ⟨w1, r1, rfl, l1⟩ := len_two l0
        obtain ⟨w2, r2, rfl, l2⟩ := len_two l1
        obtain ⟨w3, r3, rfl, l3⟩ := len_two l2
        obtain rfl : r3 = [] := List.eq_nil_of_length_eq_zero l3
        intro h
        have := rk6 row w1 w2 w3 h
        obtain ⟨s, v, a, e, _⟩ := this
        rw [show (List.drop 1 (w0 :: w1 :: w2 :: w3 :: [])) = [w1, w2, w3] from rfl, e]
        exact .inl (show (6 : Int) ≠ 2 by decide)
    · exact cd_no (lt_no ef hl) (.inr (.inr (by rw [ep]; show ws.length ≠ 1 + 3; omega)))
  by_cases k7 : kdV (wat ws 0) = 7
  · have ef : fmV ws = [78, 73, 76] := by unfold fmV; rw [if_neg h0, if_neg k1, if_neg k3, if_neg k4, if_neg k5, if_neg k6, if_pos k7]
    have ep : ptW ws = [(0, 0), (6, 6), (12, 15)] := by unfold ptW pts; rw [if_neg (by omega), if_neg (by omega), if_neg (by omega), if_neg (by omega), if_neg (by omega), if_neg (by omega), if_pos k7]
    by_cases hl : ws.length = 3 + 1
    · refine cd_yes h0 ef (by decide) hl (by rw [ep]; decide) (by rw [ep]; rfl) ?_ ?_
      · unfold rnC
        rw [ep, k7]
        clear ef ep k1 k3 k4 k5 k6 k7 h0
        obtain ⟨w0, r0, rfl, l0⟩ := len_two hl
        obtain ⟨w1, r1, rfl, l1⟩ := len_two l0
        obtain ⟨w2, r2, rfl, l2⟩ := len_two l1
        obtain ⟨w3, r3, rfl, l3⟩ := len_two l2
        obtain rfl : r3 = [] := List.eq_nil_of_length_eq_zero l3
        exact rel7 row w1 w2 w3
      · rw [k7]
        clear ef ep k1 k3 k4 k5 k6 k7 h0
        obtain ⟨w0, r0, rfl, l0⟩ := len_two hl
        obtain ⟨w1, r1, rfl, l1⟩ := len_two l0
        obtain ⟨w2, r2, rfl, l2⟩ := len_two l1
        obtain ⟨w3, r3, rfl, l3⟩ := len_two l2
        obtain rfl : r3 = [] := List.eq_nil_of_length_eq_zero l3
        intro h
        have := rk7 row w1 w2 w3 h
        obtain ⟨s, a, x, e, _⟩ := this
        rw [show (List.drop 1 (w0 :: w1 :: w2 :: w3 :: [])) = [w1, w2, w3] from rfl, e]
        exact .inl (show (7 : Int) ≠ 2 by decide)
    · exact cd_no (lt_no ef hl) (.inr (.inr (by rw [ep]; show ws.length ≠ 1 + 3; omega)))
  by_cases k8 : kdV (wat ws 0) = 8
  · have ef : fmV ws = [78, 78, 82, 82] := by unfold fmV; rw [if_neg h0, if_neg k1, if_neg k3, if_neg k4, if_neg k5, if_neg k6, if_neg k7, if_pos k8]
    have ep : ptW ws = [(0, 0), (0, 4), (11, 13), (11, 14)] := by unfold ptW pts; rw [if_neg (by omega), if_neg (by omega), if_neg (by omega), if_neg (by omega), if_neg (by omega), if_neg (by omega), if_neg (by omega), if_pos k8]
    by_cases hl : ws.length = 4 + 1
    · refine cd_yes h0 ef (by decide) hl (by rw [ep]; decide) (by rw [ep]; rfl) ?_ ?_
      · unfold rnC
        rw [ep, k8]
        clear ef ep k1 k3 k4 k5 k6 k7 k8 h0
        obtain ⟨w0, r0, rfl, l0⟩ := len_two hl
        obtain ⟨w1, r1, rfl, l1⟩ := len_two l0
        obtain ⟨w2, r2, rfl, l2⟩ := len_two l1
        obtain ⟨w3, r3, rfl, l3⟩ := len_two l2
        obtain ⟨w4, r4, rfl, l4⟩ := len_two l3
        obtain rfl : r4 = [] := List.eq_nil_of_length_eq_zero l4
        exact rel8 row w1 w2 w3 w4
      · rw [k8]
        clear ef ep k1 k3 k4 k5 k6 k7 k8 h0
        obtain ⟨w0, r0, rfl, l0⟩ := len_two hl
        obtain ⟨w1, r1, rfl, l1⟩ := len_two l0
        obtain ⟨w2, r2, rfl, l2⟩ := len_two l1
        obtain ⟨w3, r3, rfl, l3⟩ := len_two l2
        obtain ⟨w4, r4, rfl, l4⟩ := len_two l3
        obtain rfl : r4 = [] := List.eq_nil_of_length_eq_zero l4
        intro h
        have := rk8 row w1 w2 w3 w4 h
        obtain ⟨s, n, x, y, e, _⟩ := this
        rw [show (List.drop 1 (w0 :: w1 :: w2 :: w3 :: w4 :: [])) = [w1, w2, w3, w4] from rfl, e]
        exact .inl (show (8 : Int) ≠ 2 by decide)
    · exact cd_no (lt_no ef hl) (.inr (.inr (by rw [ep]; show ws.length ≠ 1 + 4; omega)))
  by_cases k9 : kdV (wat ws 0) = 9
  · have ef : fmV ws = [78, 86, 78, 83] := by unfold fmV; rw [if_neg h0, if_neg k1, if_neg k3, if_neg k4, if_neg k5, if_neg k6, if_neg k7, if_neg k8, if_pos k9]
    have ep : ptW ws = [(0, 0), (4, 7), (0, 4), (9, 11)] := by unfold ptW pts; rw [if_neg (by omega), if_neg (by omega), if_neg (by omega), if_neg (by omega), if_neg (by omega), if_neg (by omega), if_neg (by omega), if_neg (by omega), if_pos k9]
    by_cases hl : ws.length = 4 + 1
    · refine cd_yes h0 ef (by decide) hl (by rw [ep]; decide) (by rw [ep]; rfl) ?_ ?_
      · unfold rnC
        rw [ep, k9]
        clear ef ep k1 k3 k4 k5 k6 k7 k8 k9 h0
        obtain ⟨w0, r0, rfl, l0⟩ := len_two hl
        obtain ⟨w1, r1, rfl, l1⟩ := len_two l0
        obtain ⟨w2, r2, rfl, l2⟩ := len_two l1
        obtain ⟨w3, r3, rfl, l3⟩ := len_two l2
        obtain ⟨w4, r4, rfl, l4⟩ := len_two l3
        obtain rfl : r4 = [] := List.eq_nil_of_length_eq_zero l4
        exact rel9 row w1 w2 w3 w4
      · rw [k9]
        clear ef ep k1 k3 k4 k5 k6 k7 k8 k9 h0
        obtain ⟨w0, r0, rfl, l0⟩ := len_two hl
        obtain ⟨w1, r1, rfl, l1⟩ := len_two l0
        obtain ⟨w2, r2, rfl, l2⟩ := len_two l1
        obtain ⟨w3, r3, rfl, l3⟩ := len_two l2
        obtain ⟨w4, r4, rfl, l4⟩ := len_two l3
        obtain rfl : r4 = [] := List.eq_nil_of_length_eq_zero l4
        intro h
        have := rk9 row w1 w2 w3 w4 h
        obtain ⟨s, v, n, a, b, e, _⟩ := this
        rw [show (List.drop 1 (w0 :: w1 :: w2 :: w3 :: w4 :: [])) = [w1, w2, w3, w4] from rfl, e]
        exact .inl (show (9 : Int) ≠ 2 by decide)
    · exact cd_no (lt_no ef hl) (.inr (.inr (by rw [ep]; show ws.length ≠ 1 + 4; omega)))
  by_cases k2 : kdV (wat ws 0) = 2
  · by_cases g : ws.length = 7 ∧ ¬ wat ws 4 = sAccess
    · have ef : fmV ws = [78, 78, 67, 75, 87, 84] := by unfold fmV; rw [if_neg h0, if_neg k1, if_neg k3, if_neg k4, if_neg k5, if_neg k6, if_neg k7, if_neg k8, if_neg k9, if_pos k2, if_pos g]
      have et : tkB ws = true := by
        unfold tkB
        rw [if_neg (by omega), if_neg g.2]
        split
        · rfl
        · exact decide_eq_true g.1
      have ep : ptW ws = [(0, 0), (0, 1), (3, 8), (1, 5), (5, 7), (10, 12)] := by unfold ptW pts; rw [if_neg k1, if_pos k2, et, if_pos rfl]
      have hl : ws.length = 6 + 1 := g.1
      refine cd_yes h0 ef (by decide) hl (by rw [ep]; decide) (by rw [ep]; rfl) ?_ ?_
      · unfold rnC
        rw [ep, k2]
        clear ef ep et k1 k3 k4 k5 k6 k7 k8 k9 k2 h0 g
        obtain ⟨w0, r0, rfl, l0⟩ := len_two hl
        obtain ⟨w1, r1, rfl, l1⟩ := len_two l0
        obtain ⟨w2, r2, rfl, l2⟩ := len_two l1
        obtain ⟨w3, r3, rfl, l3⟩ := len_two l2
        obtain ⟨w4, r4, rfl, l4⟩ := len_two l3
        obtain ⟨w5, r5, rfl, l5⟩ := len_two l4
        obtain ⟨w6, r6, rfl, l6⟩ := len_two l5
        obtain rfl : r6 = [] := List.eq_nil_of_length_eq_zero l6
        exact rel2 row w1 w2 w3 w4 w5 w6
      · rw [k2]
        clear ef ep et k1 k3 k4 k5 k6 k7 k8 k9 k2 h0 g
        obtain ⟨w0, r0, rfl, l0⟩ := len_two hl
        obtain ⟨w1, r1, rfl, l1⟩ := len_two l0
        obtain ⟨w2, r2, rfl, l2⟩ := len_two l1
        obtain ⟨w3, r3, rfl, l3⟩ := len_two l2
        obtain ⟨w4, r4, rfl, l4⟩ := len_two l3
        obtain ⟨w5, r5, rfl, l5⟩ := len_two l4
        obtain ⟨w6, r6, rfl, l6⟩ := len_two l5
        obtain rfl : r6 = [] := List.eq_nil_of_length_eq_zero l6
        intro h
        have := rk2 row w1 w2 w3 w4 w5 w6 h
        obtain ⟨s, p, c, v, t, e, _, _, _, hv, _⟩ := this
        rw [show (List.drop 1 (w0 :: w1 :: w2 :: w3 :: w4 :: w5 :: w6 :: [])) = [w1, w2, w3, w4, w5, w6] from rfl, e]
        exact .inr hv.1
    · by_cases g2 : ws.length = 6 ∧ ¬ wat ws 4 = sTrunk
      · have ef : fmV ws = [78, 78, 67, 75, 86] := by unfold fmV; rw [if_neg h0, if_neg k1, if_neg k3, if_neg k4, if_neg k5, if_neg k6, if_neg k7, if_neg k8, if_neg k9, if_pos k2, if_neg g, if_pos g2]
        have et : tkB ws = false := by
          unfold tkB
          rw [if_neg (by omega)]
          split
          · rfl
          · rw [if_neg g2.2]; exact decide_eq_false (by omega)
        have ep : ptW ws = [(0, 0), (0, 1), (3, 8), (1, 5), (4, 7)] := by unfold ptW pts; rw [if_neg k1, if_pos k2, et, if_neg (by decide)]
        have hl : ws.length = 5 + 1 := g2.1
        refine cd_yes h0 ef (by decide) hl (by rw [ep]; decide) (by rw [ep]; rfl) ?_ ?_
        · unfold rnC
          rw [ep, k2]
          clear ef ep et k1 k3 k4 k5 k6 k7 k8 k9 k2 h0 g g2
          obtain ⟨w0, r0, rfl, l0⟩ := len_two hl
          obtain ⟨w1, r1, rfl, l1⟩ := len_two l0
          obtain ⟨w2, r2, rfl, l2⟩ := len_two l1
          obtain ⟨w3, r3, rfl, l3⟩ := len_two l2
          obtain ⟨w4, r4, rfl, l4⟩ := len_two l3
          obtain ⟨w5, r5, rfl, l5⟩ := len_two l4
          obtain rfl : r5 = [] := List.eq_nil_of_length_eq_zero l5
          exact rel0 row w1 w2 w3 w4 w5
        · rw [k2]
          clear ef ep et k1 k3 k4 k5 k6 k7 k8 k9 k2 h0 g g2
          obtain ⟨w0, r0, rfl, l0⟩ := len_two hl
          obtain ⟨w1, r1, rfl, l1⟩ := len_two l0
          obtain ⟨w2, r2, rfl, l2⟩ := len_two l1
          obtain ⟨w3, r3, rfl, l3⟩ := len_two l2
          obtain ⟨w4, r4, rfl, l4⟩ := len_two l3
          obtain ⟨w5, r5, rfl, l5⟩ := len_two l4
          obtain rfl : r5 = [] := List.eq_nil_of_length_eq_zero l5
          intro h
          have := rk0 row w1 w2 w3 w4 w5 h
          obtain ⟨s, p, c, v, t, e, _, _, _, hv, _⟩ := this
          rw [show (List.drop 1 (w0 :: w1 :: w2 :: w3 :: w4 :: w5 :: [])) = [w1, w2, w3, w4, w5] from rfl, e]
          exact .inr hv.1
      · have ef : fmV ws = [] := by unfold fmV; rw [if_neg h0, if_neg k1, if_neg k3, if_neg k4, if_neg k5, if_neg k6, if_neg k7, if_neg k8, if_neg k9, if_pos k2, if_neg g, if_neg g2]
        refine cd_no (by unfold ltV; rw [if_neg (fun h => h.1 ef)]) (.inr (.inr ?_))
        unfold ptW pts
        rw [if_neg k1, if_pos k2]
        cases et : tkB ws with
        | true =>
          rw [if_pos rfl]
          show ws.length ≠ 1 + 6
          intro hl
          apply g
          refine ⟨by omega, fun ha => ?_⟩
          unfold tkB at et
          rw [if_neg (by omega), if_pos ha] at et
          cases et
        | false =>
          rw [if_neg (by decide)]
          show ws.length ≠ 1 + 5
          intro hl
          apply g2
          refine ⟨by omega, fun ha => ?_⟩
          unfold tkB at et
          rw [if_neg (by omega), if_neg (by rw [ha]; decide), if_pos ha] at et
          cases et
  · have ef : fmV ws = [] := by unfold fmV; rw [if_neg h0, if_neg k1, if_neg k3, if_neg k4, if_neg k5, if_neg k6, if_neg k7, if_neg k8, if_neg k9, if_neg k2]
    refine cd_no (by unfold ltV; rw [if_neg (fun h => h.1 ef)]) (.inr (.inl ?_))
    unfold ptW pts
    rw [if_neg k1, if_neg k2, if_neg k3, if_neg k4, if_neg k5, if_neg k6, if_neg k7, if_neg k8, if_neg k9]
end Go.Proofs.YtagbfklcbekceaaGreatDoor
