/- A line's words as they are written; what is read is written as the words that it was read of, but for a trunk that takes no VLAN with a tag. (Made by mk-plmath.py.) -/
import Derived.Test.YtagbfklcbekceaaGreatDoorTxLaw
namespace Go.Proofs.YtagbfklcbekceaaGreatDoor
open Go.RowKit
open Go.Lib (itoa)

/-! Words written. -/
def wnS (n : Int) : List UInt8 := itoa n
def wmS (m : Int) : List UInt8 := (Mac.textPre m 6).map fun n => UInt8.ofNat n.toNat
def waS (a : Int) : List UInt8 := txt a.toNat
def wlS (f : Int → List UInt8) (xs : List Int) : List UInt8 := if xs = [] then dash else jn f xs
def wpS (a b : Int) : List UInt8 := ptxt a.toNat b.toNat
def sDevice : List UInt8 := [100, 101, 118, 105, 99, 101]
def sLink : List UInt8 := [108, 105, 110, 107]
def sStatic : List UInt8 := [115, 116, 97, 116, 105, 99]
def sVtep : List UInt8 := [118, 116, 101, 112]
def sVni : List UInt8 := [118, 110, 105]
def sFlood : List UInt8 := [102, 108, 111, 111, 100]
def sVrf : List UInt8 := [118, 114, 102]
def sIrb : List UInt8 := [105, 114, 98]
/-- the words that a line is written as -/
def wrW (L : LV) : List (List UInt8) :=
  if L.kind = 1 then [sDevice, L.dev, wnS L.num, wmS L.mac]
  else if L.kind = 2 then (if L.tagged = [] then [sPort, L.dev, L.port, wnS L.cost, sAccess, wnS L.vlan] else [sPort, L.dev, L.port, wnS L.cost, sTrunk, if L.vlan = 0 then dash else wnS L.vlan, jn wnS L.tagged])
  else if L.kind = 3 then [sLink, L.dev, L.port, L.peer, L.far]
  else if L.kind = 4 then [sStatic, L.dev, wnS L.vlan, wmS L.mac, L.port]
  else if L.kind = 5 then [sVtep, L.dev, waS L.addr]
  else if L.kind = 6 then [sVni, L.dev, wnS L.vlan, wnS L.num]
  else if L.kind = 7 then [sFlood, L.dev, wnS L.num, jn waS L.addrs]
  else if L.kind = 8 then [sVrf, L.dev, L.name, wlS wnS L.imports, wlS wnS L.exports]
  else if L.kind = 9 then [sIrb, L.dev, wnS L.vlan, L.name, wpS L.addr L.bits]
  else []

/-! Texts with a comma between. -/
def jc : List (List UInt8) → List UInt8
  | [] => []
  | [p] => p
  | p :: q :: r => p ++ 44 :: jc (q :: r)
theorem jc_cons (p : List UInt8) {r : List (List UInt8)} (h : r ≠ []) : jc (p :: r) = p ++ 44 :: jc r := by
  cases r with
  | nil => exact absurd rfl h
  | cons q r => rfl
theorem jc_split : ∀ l : List UInt8, jc (splitC l) = l
  | [] => rfl
  | c :: r => by
    have ih := jc_split r
    by_cases hc : c = 44
    · subst hc
      rw [splitC_comma, jc_cons _ (splitC_ne r), ih]
      rfl
    · cases hs : splitC r with
      | nil => exact absurd hs (splitC_ne r)
      | cons h t =>
        rw [splitC_other c r h t hc hs]
        rw [hs] at ih
        cases t with
        | nil => rw [show jc [c :: h] = c :: jc [h] from rfl, ih]
        | cons q t => rw [show jc ((c :: h) :: q :: t) = c :: jc (h :: q :: t) from rfl, ih]
theorem jc_snoc : ∀ (ps : List (List UInt8)) (p : List UInt8), jc (ps ++ [p]) = if ps = [] then p else jc ps ++ 44 :: p
  | [], p => rfl
  | [a], p => rfl
  | a :: b :: r, p => by
    have ih := jc_snoc (b :: r) p
    rw [if_neg (by simp)] at ih
    rw [if_neg (by simp), List.cons_append, jc_cons a (by simp), ih, jc_cons a (by simp)]
    simp
theorem jnK_jc (f : Int → List UInt8) (xs : List Int) : ∀ k, k ≤ xs.length → jnK f xs k = jc ((xs.take k).map f)
  | 0, _ => by simp [jnK, jc]
  | k + 1, h => by
    rw [jnK, jnK_jc f xs k (by omega), List.take_succ_eq_append_getElem (show k < xs.length by omega), List.map_append, List.map_cons, List.map_nil, jc_snoc]
    have e : xs.getD k 0 = xs[k] := by simp [List.getD, show k < xs.length by omega]
    rw [e]
    by_cases hk : k = 0
    · subst hk
      simp [jc]
    · have h2 : ((xs.take k).map f).length = k := by rw [List.length_map, List.length_take]; omega
      rw [if_pos (by omega), if_neg (by intro e; rw [e] at h2; exact hk h2.symm)]
      simp
theorem jn_jc (f : Int → List UInt8) (xs : List Int) : jn f xs = jc (xs.map f) := by
  unfold jn
  rw [jnK_jc f xs _ (Nat.le_refl _), List.take_length]
theorem allRd_back {rd : List UInt8 → Option Int} {f : Int → List UInt8} (hf : ∀ p x, rd p = some x → f x = p) : ∀ (ps : List (List UInt8)) (xs : List Int), allRd rd ps = some xs → xs.map f = ps
  | [], xs, h => by
    have : xs = [] := by simpa [allRd] using h.symm
    rw [this]; rfl
  | p :: r, xs, h => by
    simp only [allRd, Option.bind_eq_some_iff, Option.map_eq_some_iff] at h
    obtain ⟨v, hv, ys, h2, rfl⟩ := h
    rw [List.map_cons, hf p v hv, allRd_back hf r ys h2]
/-- a list that was read is written as it was -/
theorem ls_text {rd : List UInt8 → Option Int} {f : Int → List UInt8} (hf : ∀ p x, rd p = some x → f x = p) {s : List UInt8} (h : lsB rd s = true) : jn f (lsV rd s) = s ∧ lsV rd s ≠ [] := by
  unfold lsB at h
  obtain ⟨xs, hx⟩ := Option.isSome_iff_exists.1 h
  rw [(ls_yes hx).1]
  unfold rlF at hx
  cases ha : allRd rd (splitC s) with
  | none => rw [ha] at hx; cases hx
  | some ys =>
    rw [ha] at hx
    have e : ys = xs := by
      by_cases hr : risB ys = true
      · have : (if risB ys = true then some ys else none) = some xs := hx
        rw [if_pos hr] at this
        injection this
      · have : (if risB ys = true then some ys else none) = some xs := hx
        rw [if_neg hr] at this
        cases this
    subst e
    have hm := allRd_back hf _ _ ha
    refine ⟨by rw [jn_jc, hm, jc_split], fun e => ?_⟩
    have := congrArg List.length hm
    rw [e, List.map_nil] at this
    exact splitC_ne s (List.eq_nil_of_length_eq_zero this.symm)

/-! Words read, and written. -/
theorem wn_of {s : List UInt8} {lo hi : Int} (h : nB s lo hi = true) : wnS (nV s lo hi) = s := by
  unfold nB at h
  obtain ⟨n, hn⟩ := Option.isSome_iff_exists.1 h
  unfold nV
  rw [hn]
  exact (nF_iff.1 hn).1
theorem wm_of {s : List UInt8} (h : mcB s = true) : wmS (mcV s) = s := by
  have h1 : Mac.rdB (str s) = true := h
  have h2 := Mac.text_val (str s) h1
  have h3 : mcV s = Mac.val (str s) 6 := by unfold mcV Mac.rdV; rw [if_pos h1]
  have h4 : str (wmS (mcV s)) = str s := by rw [h3]; exact h2
  have h5 := congrArg (fun b : ByteArray => b.data.toList) h4
  simpa using h5
theorem wa_of {s : List UInt8} (h : rdB s = true) : waS (rdV s) = s := by
  unfold rdB at h
  obtain ⟨n, hn⟩ := Option.isSome_iff_exists.1 h
  unfold waS rdV
  rw [hn]
  exact (rdF_iff.1 hn).2.symm
theorem wa_item (p : List UInt8) (x : Int) (h : rdA p = some x) : waS x = p := by
  have := rdA_yes h
  rw [← this.1]
  exact wa_of this.2
theorem wn_item (lo hi : Int) (p : List UInt8) (x : Int) (h : rdI lo hi p = some x) : wnS x = p := (nF_iff.1 h).1
theorem wp_of {s : List UInt8} (h : pfB s = true) : wpS (paV s) (pbV s) = s := by
  unfold pfB at h
  obtain ⟨⟨a, b⟩, hn⟩ := Option.isSome_iff_exists.1 h
  unfold wpS paV pbV
  rw [hn]
  exact (pfF_iff.1 hn).2.2.symm
theorem wl_of {s : List UInt8} {hi : Int} (h : lsDB s hi = true) : wlS wnS (lsD s hi) = s := by
  unfold lsDB at h
  unfold lsD wlS
  by_cases e : s = dash
  · rw [if_pos e, if_pos rfl, e]
  · rw [if_neg e] at h ⊢
    have := ls_text (wn_item 1 hi) h
    rw [if_neg this.2, this.1]
theorem lt_of_dash {s : List UInt8} {hi : Int} (h : lsDB s hi = true) : lsD s hi = [] ↔ s = dash := by
  unfold lsDB at h
  unfold lsD
  by_cases e : s = dash
  · rw [if_pos e]; exact ⟨fun _ => e, fun _ => rfl⟩
  · rw [if_neg e] at h ⊢
    exact ⟨fun g => absurd g (ls_text (wn_item 1 hi) h).2, fun g => absurd g e⟩
theorem ww_P {s : List UInt8} (h : wdE 80 s = 0) : wnS (nV s 0 65535) = s := wn_of (we_B (b := nB s 0 65535) h)
theorem ww_C {s : List UInt8} (h : wdE 67 s = 0) : wnS (nV s 1 65535) = s := wn_of (we_B (b := nB s 1 65535) h)
theorem ww_V {s : List UInt8} (h : wdE 86 s = 0) : wnS (nV s 1 4094) = s := wn_of (we_B (b := nB s 1 4094) h)
theorem ww_I {s : List UInt8} (h : wdE 73 s = 0) : wnS (nV s 1 16777215) = s := wn_of (we_B (b := nB s 1 16777215) h)
theorem ww_M {s : List UInt8} (h : wdE 77 s = 0) : wmS (mcV s) = s := by
  have g := we_B (b := mcB s && stB (mcV s)) h
  rw [Bool.and_eq_true] at g
  exact wm_of g.1
theorem ww_A {s : List UInt8} (h : wdE 65 s = 0) : waS (rdV s) = s := by
  have g := we_B (b := rdB s && decide (0 < rdV s)) h
  rw [Bool.and_eq_true] at g
  exact wa_of g.1
theorem ww_L {s : List UInt8} (h : wdE 76 s = 0) : jn waS (lsV rdA s) = s := by
  have g := we_B (b := lsB rdA s && decide (0 < (lsV rdA s).getD 0 0)) h
  rw [Bool.and_eq_true] at g
  exact (ls_text wa_item g.1).1
theorem ww_R {s : List UInt8} (h : wdE 82 s = 0) : wlS wnS (lsD s 65535) = s := wl_of (we_B (b := lsDB s 65535) h)
theorem ww_S {s : List UInt8} (h : wdE 83 s = 0) : wpS (paV s) (pbV s) = s := by
  have g := we_B (b := pfB s && snB (paV s) (pbV s)) h
  rw [Bool.and_eq_true] at g
  exact wp_of g.1
theorem ww_N {s : List UInt8} (_h : wdE 78 s = 0) : s = s := rfl
theorem wk1 (row : Int) (w1 w2 w3 : List UInt8) (h : (runS [78, 80, 77] [w1, w2, w3] 0 (LV.new row 1)).1 = 0) : wrW (runS [78, 80, 77] [w1, w2, w3] 0 (LV.new row 1)).2 = [sDevice, w1, w2, w3] := by
  obtain ⟨e1, r1⟩ := run_step h
  rw [r1] at h ⊢
  obtain ⟨e2, r2⟩ := run_step h
  rw [r2] at h ⊢
  obtain ⟨e3, r3⟩ := run_step h
  rw [r3] at h ⊢
  show [sDevice, w1, wnS (nV w2 0 65535), wmS (mcV w3)] = _
  rw [ww_P e2, ww_M e3]
theorem wk3 (row : Int) (w1 w2 w3 w4 : List UInt8) (h : (runS [78, 78, 78, 78] [w1, w2, w3, w4] 0 (LV.new row 3)).1 = 0) : wrW (runS [78, 78, 78, 78] [w1, w2, w3, w4] 0 (LV.new row 3)).2 = [sLink, w1, w2, w3, w4] := by
  obtain ⟨e1, r1⟩ := run_step h
  rw [r1] at h ⊢
  obtain ⟨e2, r2⟩ := run_step h
  rw [r2] at h ⊢
  obtain ⟨e3, r3⟩ := run_step h
  rw [r3] at h ⊢
  obtain ⟨e4, r4⟩ := run_step h
  rw [r4] at h ⊢
  show [sLink, w1, w2, w3, w4] = _
  rfl
theorem wk4 (row : Int) (w1 w2 w3 w4 : List UInt8) (h : (runS [78, 86, 77, 78] [w1, w2, w3, w4] 0 (LV.new row 4)).1 = 0) : wrW (runS [78, 86, 77, 78] [w1, w2, w3, w4] 0 (LV.new row 4)).2 = [sStatic, w1, w2, w3, w4] := by
  obtain ⟨e1, r1⟩ := run_step h
  rw [r1] at h ⊢
  obtain ⟨e2, r2⟩ := run_step h
  rw [r2] at h ⊢
  obtain ⟨e3, r3⟩ := run_step h
  rw [r3] at h ⊢
  obtain ⟨e4, r4⟩ := run_step h
  rw [r4] at h ⊢
  show [sStatic, w1, wnS (nV w2 1 4094), wmS (mcV w3), w4] = _
  rw [ww_V e2, ww_M e3]
theorem wk5 (row : Int) (w1 w2 : List UInt8) (h : (runS [78, 65] [w1, w2] 0 (LV.new row 5)).1 = 0) : wrW (runS [78, 65] [w1, w2] 0 (LV.new row 5)).2 = [sVtep, w1, w2] := by
  obtain ⟨e1, r1⟩ := run_step h
  rw [r1] at h ⊢
  obtain ⟨e2, r2⟩ := run_step h
  rw [r2] at h ⊢
  show [sVtep, w1, waS (rdV w2)] = _
  rw [ww_A e2]
theorem wk6 (row : Int) (w1 w2 w3 : List UInt8) (h : (runS [78, 86, 73] [w1, w2, w3] 0 (LV.new row 6)).1 = 0) : wrW (runS [78, 86, 73] [w1, w2, w3] 0 (LV.new row 6)).2 = [sVni, w1, w2, w3] := by
  obtain ⟨e1, r1⟩ := run_step h
  rw [r1] at h ⊢
  obtain ⟨e2, r2⟩ := run_step h
  rw [r2] at h ⊢
  obtain ⟨e3, r3⟩ := run_step h
  rw [r3] at h ⊢
  show [sVni, w1, wnS (nV w2 1 4094), wnS (nV w3 1 16777215)] = _
  rw [ww_V e2, ww_I e3]
theorem wk7 (row : Int) (w1 w2 w3 : List UInt8) (h : (runS [78, 73, 76] [w1, w2, w3] 0 (LV.new row 7)).1 = 0) : wrW (runS [78, 73, 76] [w1, w2, w3] 0 (LV.new row 7)).2 = [sFlood, w1, w2, w3] := by
  obtain ⟨e1, r1⟩ := run_step h
  rw [r1] at h ⊢
  obtain ⟨e2, r2⟩ := run_step h
  rw [r2] at h ⊢
  obtain ⟨e3, r3⟩ := run_step h
  rw [r3] at h ⊢
  show [sFlood, w1, wnS (nV w2 1 16777215), jn waS (lsV rdA w3)] = _
  rw [ww_I e2, ww_L e3]
theorem wk8 (row : Int) (w1 w2 w3 w4 : List UInt8) (h : (runS [78, 78, 82, 82] [w1, w2, w3, w4] 0 (LV.new row 8)).1 = 0) : wrW (runS [78, 78, 82, 82] [w1, w2, w3, w4] 0 (LV.new row 8)).2 = [sVrf, w1, w2, w3, w4] := by
  obtain ⟨e1, r1⟩ := run_step h
  rw [r1] at h ⊢
  obtain ⟨e2, r2⟩ := run_step h
  rw [r2] at h ⊢
  obtain ⟨e3, r3⟩ := run_step h
  rw [r3] at h ⊢
  obtain ⟨e4, r4⟩ := run_step h
  rw [r4] at h ⊢
  show [sVrf, w1, w2, wlS wnS (lsD w3 65535), wlS wnS (lsD w4 65535)] = _
  rw [ww_R e3, ww_R e4]
theorem wk9 (row : Int) (w1 w2 w3 w4 : List UInt8) (h : (runS [78, 86, 78, 83] [w1, w2, w3, w4] 0 (LV.new row 9)).1 = 0) : wrW (runS [78, 86, 78, 83] [w1, w2, w3, w4] 0 (LV.new row 9)).2 = [sIrb, w1, w2, w3, w4] := by
  obtain ⟨e1, r1⟩ := run_step h
  rw [r1] at h ⊢
  obtain ⟨e2, r2⟩ := run_step h
  rw [r2] at h ⊢
  obtain ⟨e3, r3⟩ := run_step h
  rw [r3] at h ⊢
  obtain ⟨e4, r4⟩ := run_step h
  rw [r4] at h ⊢
  show [sIrb, w1, wnS (nV w2 1 4094), w3, wpS (paV w4) (pbV w4)] = _
  rw [ww_V e2, ww_S e4]
theorem wk0 (row : Int) (w1 w2 w3 w4 w5 : List UInt8) (h : (runS [78, 78, 67, 75, 86] [w1, w2, w3, w4, w5] 0 (LV.new row 2)).1 = 0) (h4 : ¬ w4 = sTrunk) : wrW (runS [78, 78, 67, 75, 86] [w1, w2, w3, w4, w5] 0 (LV.new row 2)).2 = [sPort, w1, w2, w3, w4, w5] := by
  obtain ⟨e1, r1⟩ := run_step h
  rw [r1] at h ⊢
  obtain ⟨e2, r2⟩ := run_step h
  rw [r2] at h ⊢
  obtain ⟨e3, r3⟩ := run_step h
  rw [r3] at h ⊢
  obtain ⟨e4, r4⟩ := run_step h
  rw [r4] at h ⊢
  obtain ⟨e5, r5⟩ := run_step h
  rw [r5] at h ⊢
  show [sPort, w1, w2, wnS (nV w3 1 65535), sAccess, wnS (nV w5 1 4094)] = _
  rw [ww_C e3, ww_V e5]
  rcases we_K e4 with g | g
  · rw [g]
  · exact absurd g h4
theorem wk2 (row : Int) (w1 w2 w3 w4 w5 w6 : List UInt8) (h : (runS [78, 78, 67, 75, 87, 84] [w1, w2, w3, w4, w5, w6] 0 (LV.new row 2)).1 = 0) (h4 : ¬ w4 = sAccess) (hm : mbB (runS [78, 78, 67, 75, 87, 84] [w1, w2, w3, w4, w5, w6] 0 (LV.new row 2)).2 = true) :
    (w6 = dash → wrW (runS [78, 78, 67, 75, 87, 84] [w1, w2, w3, w4, w5, w6] 0 (LV.new row 2)).2 = [sPort, w1, w2, w3, sAccess, w5] ∧ ∀ r, runS [78, 78, 67, 75, 86] [w1, w2, w3, sAccess, w5] 0 (LV.new r 2) = (0, (runS [78, 78, 67, 75, 87, 84] [w1, w2, w3, w4, w5, w6] 0 (LV.new row 2)).2.at r)) ∧ (¬ w6 = dash → wrW (runS [78, 78, 67, 75, 87, 84] [w1, w2, w3, w4, w5, w6] 0 (LV.new row 2)).2 = [sPort, w1, w2, w3, w4, w5, w6]) := by
  obtain ⟨e1, r1⟩ := run_step h
  rw [r1] at h hm ⊢
  obtain ⟨e2, r2⟩ := run_step h
  rw [r2] at h hm ⊢
  obtain ⟨e3, r3⟩ := run_step h
  rw [r3] at h hm ⊢
  obtain ⟨e4, r4⟩ := run_step h
  rw [r4] at h hm ⊢
  obtain ⟨e5, r5⟩ := run_step h
  rw [r5] at h hm ⊢
  obtain ⟨e6, r6⟩ := run_step h
  rw [r6] at h hm ⊢
  have hT : lsDB w6 4094 = true := we_B (b := lsDB w6 4094) e6
  have hW := we_B (b := nB w5 1 4094 || decide (w5 = dash)) e5
  have hM : mbB { LV.new row 2 with dev := w1, port := w2, cost := nV w3 1 65535, vlan := nV w5 1 4094, tagged := lsD w6 4094 } = true := hm
  refine ⟨fun hd => ?_, fun hd => ?_⟩
  · have h0 : lsD w6 4094 = [] := (lt_of_dash hT).2 hd
    rw [h0] at hM
    have h5 : nB w5 1 4094 = true := by
      cases hx : nB w5 1 4094 with
      | true => rfl
      | false =>
        have := nV_no hx
        unfold mbB at hM
        simp [this] at hM
    constructor
    · show wrW { LV.new row 2 with dev := w1, port := w2, cost := nV w3 1 65535, vlan := nV w5 1 4094, tagged := lsD w6 4094 } = _
      rw [h0]
      show [sPort, w1, w2, wnS (nV w3 1 65535), sAccess, wnS (nV w5 1 4094)] = _
      rw [ww_C e3, wn_of h5]
    · intro r
      have e4' : wdE 75 sAccess = 0 := wdE_K (.inl rfl)
      have e5' : wdE 86 w5 = 0 := by show (if nB w5 1 4094 = true then (0 : Int) else 21) = 0; rw [if_pos h5]
      rw [run_ok e1, run_ok e2, run_ok e3, run_ok e4', run_ok e5']
      show ((0 : Int), ({ LV.new r 2 with dev := w1, port := w2, cost := nV w3 1 65535, vlan := nV w5 1 4094 } : LV)) = (0, { LV.new r 2 with dev := w1, port := w2, cost := nV w3 1 65535, vlan := nV w5 1 4094, tagged := lsD w6 4094 })
      rw [h0]
      rfl
  · have h0 : ¬ lsD w6 4094 = [] := fun e => hd ((lt_of_dash hT).1 e)
    have h6 : jn wnS (lsD w6 4094) = w6 := by
      have := wl_of hT
      unfold wlS at this
      rwa [if_neg h0] at this
    show (if lsD w6 4094 = [] then [sPort, w1, w2, wnS (nV w3 1 65535), sAccess, wnS (nV w5 1 4094)] else [sPort, w1, w2, wnS (nV w3 1 65535), sTrunk, if nV w5 1 4094 = 0 then dash else wnS (nV w5 1 4094), jn wnS (lsD w6 4094)]) = _
    rw [if_neg h0, h6, ww_C e3]
    have h4' : sTrunk = w4 := by
      rcases we_K e4 with g | g
      · exact absurd g h4
      · exact g.symm
    rw [h4']
    cases hx : nB w5 1 4094 with
    | true =>
      have h1 := (nB_yes hx).1
      rw [if_neg (by omega), wn_of hx]
    | false =>
      rw [hx, Bool.false_or, decide_eq_true_eq] at hW
      rw [if_pos (nV_no hx), hW]
theorem kd_1 {s : List UInt8} (h : kdV s = 1) : s = sDevice := by
  unfold kdV at h
  repeat' split at h
  all_goals first | assumption | (exact absurd h (by decide))
theorem kd_3 {s : List UInt8} (h : kdV s = 3) : s = sLink := by
  unfold kdV at h
  repeat' split at h
  all_goals first | assumption | (exact absurd h (by decide))
theorem kd_4 {s : List UInt8} (h : kdV s = 4) : s = sStatic := by
  unfold kdV at h
  repeat' split at h
  all_goals first | assumption | (exact absurd h (by decide))
theorem kd_5 {s : List UInt8} (h : kdV s = 5) : s = sVtep := by
  unfold kdV at h
  repeat' split at h
  all_goals first | assumption | (exact absurd h (by decide))
theorem kd_6 {s : List UInt8} (h : kdV s = 6) : s = sVni := by
  unfold kdV at h
  repeat' split at h
  all_goals first | assumption | (exact absurd h (by decide))
theorem kd_7 {s : List UInt8} (h : kdV s = 7) : s = sFlood := by
  unfold kdV at h
  repeat' split at h
  all_goals first | assumption | (exact absurd h (by decide))
theorem kd_8 {s : List UInt8} (h : kdV s = 8) : s = sVrf := by
  unfold kdV at h
  repeat' split at h
  all_goals first | assumption | (exact absurd h (by decide))
theorem kd_9 {s : List UInt8} (h : kdV s = 9) : s = sIrb := by
  unfold kdV at h
  repeat' split at h
  all_goals first | assumption | (exact absurd h (by decide))
theorem kd_2 {s : List UInt8} (h : kdV s = 2) : s = sPort := by
  unfold kdV at h
  repeat' split at h
  all_goals first | assumption | (exact absurd h (by decide))
/-- the words that a line is written as that was read of words -/
def canW (ws : List (List UInt8)) : List (List UInt8) := if ws.length = 7 ∧ wat ws 6 = dash then [sPort, wat ws 1, wat ws 2, wat ws 3, sAccess, wat ws 5] else ws
theorem can_same {ws : List (List UInt8)} (h : ¬ ws.length = 7) : canW ws = ws := if_neg fun g => h g.1
/-- what is read is written as the words that it was read of, but for a trunk that takes no VLAN with a tag; and these are read alike -/
theorem wr_read (ws : List (List UInt8)) (row : Int) (h : rdE ws row = 0) : wrW (rdL ws row) = canW ws ∧ ∀ r, rdE (canW ws) r = 0 ∧ rdL (canW ws) r = (rdL ws row).at r := by
  have back : canW ws = ws → ∀ r, rdE (canW ws) r = 0 ∧ rdL (canW ws) r = (rdL ws row).at r := fun e r => by
    have := rd_row_any ws r row
    rw [e, this.1, h]
    exact ⟨rfl, this.2 h⟩
  have hL : rdL ws row = (runS (ltV ws) (ws.drop 1) 0 (LV.new row (kdV (wat ws 0)))).2 := by unfold rdL; rw [if_pos h]
  rw [hL] at back ⊢
  unfold rdE at h
  by_cases hl : ltV ws = []
  · rw [if_pos hl] at h; cases h
  rw [if_neg hl] at h
  have hf : fmV ws ≠ [] ∧ ws.length = (fmV ws).length + 1 := by
    by_cases g : fmV ws ≠ [] ∧ ws.length = (fmV ws).length + 1
    · exact g
    · exact absurd (show ltV ws = [] from if_neg g) hl
  have hlt : ltV ws = fmV ws := if_pos hf
  rw [hlt] at h back ⊢
  have h1 : (runS (fmV ws) (ws.drop 1) 0 (LV.new row (kdV (wat ws 0)))).1 = 0 := by
    by_cases g : (runS (fmV ws) (ws.drop 1) 0 (LV.new row (kdV (wat ws 0)))).1 = 0
    · exact g
    · have h2 := h
      simp only [if_neg g] at h2
      exact absurd h2 g
  have h3 : ¬ ((runS (fmV ws) (ws.drop 1) 0 (LV.new row (kdV (wat ws 0)))).2.kind = 2 ∧ mbB (runS (fmV ws) (ws.drop 1) 0 (LV.new row (kdV (wat ws 0)))).2 = false) := by
    intro g
    have h2 := h
    simp only [if_pos h1, if_pos g] at h2
    cases h2
  clear h hL hl hlt
  have h0 : ¬ ws = [] := by intro e; subst e; exact hf.1 rfl
  by_cases k1 : kdV (wat ws 0) = 1
  · have e : fmV ws = [78, 80, 77] := by unfold fmV; rw [if_neg h0, if_pos k1]
    rw [e, k1] at h1 back ⊢
    have hlen : ws.length = 4 := by rw [hf.2, e]; rfl
    have hcan := can_same (ws := ws) (by omega)
    refine ⟨?_, back hcan⟩
    rw [hcan]
    have hw0 := kd_1 k1
    clear back hcan hf h3 e k1 h0
    obtain ⟨w0, r0, rfl, l0⟩ := len_two hlen
    obtain ⟨w1, r1, rfl, l1⟩ := len_two l0
    obtain ⟨w2, r2, rfl, l2⟩ := len_two l1
    obtain ⟨w3, r3, rfl, l3⟩ := len_two l2
    obtain rfl : r3 = [] := List.eq_nil_of_length_eq_zero l3
    have hw : w0 = sDevice := hw0
    rw [hw]
    exact wk1 row w1 w2 w3 h1
  by_cases k3 : kdV (wat ws 0) = 3
  · have e : fmV ws = [78, 78, 78, 78] := by unfold fmV; rw [if_neg h0, if_neg k1, if_pos k3]
    rw [e, k3] at h1 back ⊢
    have hlen : ws.length = 5 := by rw [hf.2, e]; rfl
    have hcan := can_same (ws := ws) (by omega)
    refine ⟨?_, back hcan⟩
    rw [hcan]
    have hw0 := kd_3 k3
    clear back hcan hf h3 e k3 h0 k1
    obtain ⟨w0, r0, rfl, l0⟩ := len_two hlen
    obtain ⟨w1, r1, rfl, l1⟩ := len_two l0
    obtain ⟨w2, r2, rfl, l2⟩ := len_two l1
    obtain ⟨w3, r3, rfl, l3⟩ := len_two l2
    obtain ⟨w4, r4, rfl, l4⟩ := len_two l3
    obtain rfl : r4 = [] := List.eq_nil_of_length_eq_zero l4
    have hw : w0 = sLink := hw0
    rw [hw]
    exact wk3 row w1 w2 w3 w4 h1
  by_cases k4 : kdV (wat ws 0) = 4
  · have e : fmV ws = [78, 86, 77, 78] := by unfold fmV; rw [if_neg h0, if_neg k1, if_neg k3, if_pos k4]
    rw [e, k4] at h1 back ⊢
    have hlen : ws.length = 5 := by rw [hf.2, e]; rfl
    have hcan := can_same (ws := ws) (by omega)
    refine ⟨?_, back hcan⟩
    rw [hcan]
    have hw0 := kd_4 k4
    clear back hcan hf h3 e k4 h0 k1 k3
    obtain ⟨w0, r0, rfl, l0⟩ := len_two hlen
    obtain ⟨w1, r1, rfl, l1⟩ := len_two l0
    obtain ⟨w2, r2, rfl, l2⟩ := len_two l1
    obtain ⟨w3, r3, rfl, l3⟩ := len_two l2
    obtain ⟨w4, r4, rfl, l4⟩ := len_two l3
    obtain rfl : r4 = [] := List.eq_nil_of_length_eq_zero l4
    have hw : w0 = sStatic := hw0
    rw [hw]
    exact wk4 row w1 w2 w3 w4 h1
  by_cases k5 : kdV (wat ws 0) = 5
  · have e : fmV ws = [78, 65] := by unfold fmV; rw [if_neg h0, if_neg k1, if_neg k3, if_neg k4, if_pos k5]
    rw [e, k5] at h1 back ⊢
    have hlen : ws.length = 3 := by rw [hf.2, e]; rfl
    have hcan := can_same (ws := ws) (by omega)
    refine ⟨?_, back hcan⟩
    rw [hcan]
    have hw0 := kd_5 k5
    clear back hcan hf h3 e k5 h0 k1 k3 k4
    obtain ⟨w0, r0, rfl, l0⟩ := len_two hlen
    obtain ⟨w1, r1, rfl, l1⟩ := len_two l0
    obtain ⟨w2, r2, rfl, l2⟩ := len_two l1
    obtain rfl : r2 = [] := List.eq_nil_of_length_eq_zero l2
    have hw : w0 = sVtep := hw0
    rw [hw]
    exact wk5 row w1 w2 h1
  by_cases k6 : kdV (wat ws 0) = 6
  · have e : fmV ws = [78, 86, 73] := by unfold fmV; rw [if_neg h0, if_neg k1, if_neg k3, if_neg k4, if_neg k5, if_pos k6]
    rw [e, k6] at h1 back ⊢
    have hlen : ws.length = 4 := by rw [hf.2, e]; rfl
    have hcan := can_same (ws := ws) (by omega)
    refine ⟨?_, back hcan⟩
    rw [hcan]
    have hw0 := kd_6 k6
    clear back hcan hf h3 e k6 h0 k1 k3 k4 k5
    obtain ⟨w0, r0, rfl, l0⟩ := len_two hlen
    obtain ⟨w1, r1, rfl, l1⟩ := len_two l0
    obtain ⟨w2, r2, rfl, l2⟩ := len_two l1
    obtain ⟨w3, r3, rfl, l3⟩ := len_two l2
    obtain rfl : r3 = [] := List.eq_nil_of_length_eq_zero l3
    have hw : w0 = sVni := hw0
    rw [hw]
    exact wk6 row w1 w2 w3 h1
  by_cases k7 : kdV (wat ws 0) = 7
  · have e : fmV ws = [78, 73, 76] := by unfold fmV; rw [if_neg h0, if_neg k1, if_neg k3, if_neg k4, if_neg k5, if_neg k6, if_pos k7]
    rw [e, k7] at h1 back ⊢
    have hlen : ws.length = 4 := by rw [hf.2, e]; rfl
    have hcan := can_same (ws := ws) (by omega)
    refine ⟨?_, back hcan⟩
    rw [hcan]
    have hw0 := kd_7 k7
    clear back hcan hf h3 e k7 h0 k1 k3 k4 k5 k6
    obtain ⟨w0, r0, rfl, l0⟩ := len_two hlen
    obtain ⟨w1, r1, rfl, l1⟩ := len_two l0
    obtain ⟨w2, r2, rfl, l2⟩ := len_two l1
    obtain ⟨w3, r3, rfl, l3⟩ := len_two l2
    obtain rfl : r3 = [] := List.eq_nil_of_length_eq_zero l3
    have hw : w0 = sFlood := hw0
    rw [hw]
    exact wk7 row w1 w2 w3 h1
  by_cases k8 : kdV (wat ws 0) = 8
  · have e : fmV ws = [78, 78, 82, 82] := by unfold fmV; rw [if_neg h0, if_neg k1, if_neg k3, if_neg k4, if_neg k5, if_neg k6, if_neg k7, if_pos k8]
    rw [e, k8] at h1 back ⊢
    have hlen : ws.length = 5 := by rw [hf.2, e]; rfl
    have hcan := can_same (ws := ws) (by omega)
    refine ⟨?_, back hcan⟩
    rw [hcan]
    have hw0 := kd_8 k8
    clear back hcan hf h3 e k8 h0 k1 k3 k4 k5 k6 k7
    obtain ⟨w0, r0, rfl, l0⟩ := len_two hlen
    obtain ⟨w1, r1, rfl, l1⟩ := len_two l0
    obtain ⟨w2, r2, rfl, l2⟩ := len_two l1
    obtain ⟨w3, r3, rfl, l3⟩ := len_two l2
    obtain ⟨w4, r4, rfl, l4⟩ := len_two l3
    obtain rfl : r4 = [] := List.eq_nil_of_length_eq_zero l4
    have hw : w0 = sVrf := hw0
    rw [hw]
    exact wk8 row w1 w2 w3 w4 h1
  by_cases k9 : kdV (wat ws 0) = 9
  · have e : fmV ws = [78, 86, 78, 83] := by unfold fmV; rw [if_neg h0, if_neg k1, if_neg k3, if_neg k4, if_neg k5, if_neg k6, if_neg k7, if_neg k8, if_pos k9]
    rw [e, k9] at h1 back ⊢
    have hlen : ws.length = 5 := by rw [hf.2, e]; rfl
    have hcan := can_same (ws := ws) (by omega)
    refine ⟨?_, back hcan⟩
    rw [hcan]
    have hw0 := kd_9 k9
    clear back hcan hf h3 e k9 h0 k1 k3 k4 k5 k6 k7 k8
    obtain ⟨w0, r0, rfl, l0⟩ := len_two hlen
    obtain ⟨w1, r1, rfl, l1⟩ := len_two l0
    obtain ⟨w2, r2, rfl, l2⟩ := len_two l1
    obtain ⟨w3, r3, rfl, l3⟩ := len_two l2
    obtain ⟨w4, r4, rfl, l4⟩ := len_two l3
    obtain rfl : r4 = [] := List.eq_nil_of_length_eq_zero l4
    have hw : w0 = sIrb := hw0
    rw [hw]
    exact wk9 row w1 w2 w3 w4 h1
  by_cases k2 : kdV (wat ws 0) = 2
  · by_cases g : ws.length = 7 ∧ ¬ wat ws 4 = sAccess
    · have e : fmV ws = [78, 78, 67, 75, 87, 84] := by unfold fmV; rw [if_neg h0, if_neg k1, if_neg k3, if_neg k4, if_neg k5, if_neg k6, if_neg k7, if_neg k8, if_neg k9, if_pos k2, if_pos g]
      rw [e, k2] at h1 h3 back ⊢
      have hlen : ws.length = 7 := g.1
      have hw0 := kd_2 k2
      clear hf e k2 h0 k1 k3 k4 k5 k6 k7 k8 k9
      obtain ⟨w0, r0, rfl, l0⟩ := len_two hlen
      obtain ⟨w1, r1, rfl, l1⟩ := len_two l0
      obtain ⟨w2, r2, rfl, l2⟩ := len_two l1
      obtain ⟨w3, r3, rfl, l3⟩ := len_two l2
      obtain ⟨w4, r4, rfl, l4⟩ := len_two l3
      obtain ⟨w5, r5, rfl, l5⟩ := len_two l4
      obtain ⟨w6, r6, rfl, l6⟩ := len_two l5
      obtain rfl : r6 = [] := List.eq_nil_of_length_eq_zero l6
      have hw : w0 = sPort := hw0
      have hk := rk2 row w1 w2 w3 w4 w5 w6 h1
      have hk2 : (runS [78, 78, 67, 75, 87, 84] [w1, w2, w3, w4, w5, w6] 0 (LV.new row 2)).2.kind = 2 := by obtain ⟨s, p, c, v, t, e, _⟩ := hk; rw [e]; rfl
      have hm : mbB (runS [78, 78, 67, 75, 87, 84] [w1, w2, w3, w4, w5, w6] 0 (LV.new row 2)).2 = true := by
        cases hm : mbB (runS [78, 78, 67, 75, 87, 84] [w1, w2, w3, w4, w5, w6] 0 (LV.new row 2)).2 with
        | true => rfl
        | false => exact absurd ⟨hk2, hm⟩ h3
      obtain ⟨t1, t2⟩ := wk2 row w1 w2 w3 w4 w5 w6 h1 g.2 hm
      by_cases hd : w6 = dash
      · have hc : canW [w0, w1, w2, w3, w4, w5, w6] = [sPort, w1, w2, w3, sAccess, w5] := if_pos ⟨rfl, hd⟩
        obtain ⟨u1, u2⟩ := t1 hd
        rw [hc]
        refine ⟨u1, fun r => ?_⟩
        have hr := rd_of (ws := [sPort, w1, w2, w3, sAccess, w5]) (row := r) (fm_port6 rfl rfl (by show ¬ sAccess = sTrunk; decide)) (by decide) rfl (k := 2) (by show kdV sPort = 2; decide +kernel) (u2 r)
        rw [if_pos rfl] at hr
        have hm2 : ¬ ((runS [78, 78, 67, 75, 87, 84] [w1, w2, w3, w4, w5, w6] 0 (LV.new row 2)).2.at r).kind = 2 ∨ ¬ mbB ((runS [78, 78, 67, 75, 87, 84] [w1, w2, w3, w4, w5, w6] 0 (LV.new row 2)).2.at r) = false := by
          right
          rw [show mbB ((runS [78, 78, 67, 75, 87, 84] [w1, w2, w3, w4, w5, w6] 0 (LV.new row 2)).2.at r) = mbB (runS [78, 78, 67, 75, 87, 84] [w1, w2, w3, w4, w5, w6] 0 (LV.new row 2)).2 from rfl, hm]
          decide
        rw [if_neg (fun q => by rcases hm2 with x | x; exact x q.1; exact x q.2)] at hr
        exact ⟨hr.1, by rw [hr.2, if_pos hr.1]; rfl⟩
      · have hc : canW [w0, w1, w2, w3, w4, w5, w6] = [w0, w1, w2, w3, w4, w5, w6] := if_neg fun q => hd q.2
        refine ⟨?_, back hc⟩
        rw [hc, hw]
        exact t2 hd
    · by_cases g2 : ws.length = 6 ∧ ¬ wat ws 4 = sTrunk
      · have e : fmV ws = [78, 78, 67, 75, 86] := by unfold fmV; rw [if_neg h0, if_neg k1, if_neg k3, if_neg k4, if_neg k5, if_neg k6, if_neg k7, if_neg k8, if_neg k9, if_pos k2, if_neg g, if_pos g2]
        rw [e, k2] at h1 h3 back ⊢
        have hlen : ws.length = 6 := g2.1
        have hcan := can_same (ws := ws) (by omega)
        refine ⟨?_, back hcan⟩
        rw [hcan]
        have hw0 := kd_2 k2
        clear back hcan hf e k2 h0 g k1 k3 k4 k5 k6 k7 k8 k9
        obtain ⟨w0, r0, rfl, l0⟩ := len_two hlen
        obtain ⟨w1, r1, rfl, l1⟩ := len_two l0
        obtain ⟨w2, r2, rfl, l2⟩ := len_two l1
        obtain ⟨w3, r3, rfl, l3⟩ := len_two l2
        obtain ⟨w4, r4, rfl, l4⟩ := len_two l3
        obtain ⟨w5, r5, rfl, l5⟩ := len_two l4
        obtain rfl : r5 = [] := List.eq_nil_of_length_eq_zero l5
        have hw : w0 = sPort := hw0
        rw [hw]
        exact wk0 row w1 w2 w3 w4 w5 h1 g2.2
      · exact absurd (show fmV ws = [] by unfold fmV; rw [if_neg h0, if_neg k1, if_neg k3, if_neg k4, if_neg k5, if_neg k6, if_neg k7, if_neg k8, if_neg k9, if_pos k2, if_neg g, if_neg g2]) hf.1
  · exact absurd (show fmV ws = [] by unfold fmV; rw [if_neg h0, if_neg k1, if_neg k3, if_neg k4, if_neg k5, if_neg k6, if_neg k7, if_neg k8, if_neg k9, if_neg k2]) hf.1
end Go.Proofs.YtagbfklcbekceaaGreatDoor
