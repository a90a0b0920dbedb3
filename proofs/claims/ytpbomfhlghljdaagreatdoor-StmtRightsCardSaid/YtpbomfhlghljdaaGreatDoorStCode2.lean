/- The code's answer is the document's (made by mk-stcode2.py). -/
import Derived.Test.YtpbomfhlghljdaaGreatDoorStCode
namespace Go.Proofs.YtpbomfhlghljdaaGreatDoor
open Go.RowKit

theorem ap_mb (M : LV) (h : M.kind ≠ 2 ∨ 0 ≤ M.vlan) : (if apB M = true then (0 : Int) else 21) = (if M.kind = 2 ∧ mbB M = false then 21 else 0) := by
  have e : M.kind = 2 → apB M = mbB M := by
    intro hk
    unfold apB mbB
    rw [decide_eq_false (by simpa using hk), Bool.false_or, Bool.and_comm]
    congr 1
    · rw [List.any_eq_not_all_not, Bool.not_not]
    · congr 1
      rcases h with h | h
      · exact absurd hk h
      · by_cases g : M.vlan = 0
        · rw [decide_eq_false (by simpa using g), decide_eq_false (by omega)]
        · rw [decide_eq_true g, decide_eq_true (by omega)]
  by_cases hk : M.kind = 2
  · rw [e hk]
    cases mbB M with
    | true => rw [if_pos rfl, if_neg (by rintro ⟨_, h⟩; cases h)]
    | false => rw [if_neg (by decide), if_pos ⟨hk, rfl⟩]
  · have h1 : apB M = true := by unfold apB; rw [decide_eq_true hk, Bool.true_or]
    rw [h1, if_pos rfl, if_neg (fun h => hk h.1)]
theorem lt_of {ws : List (List UInt8)} {f : List UInt8} (hf : fmV ws = f) (h0 : f ≠ []) (hl : ws.length = f.length + 1) : ltV ws = f := by
  unfold ltV
  rw [hf, if_pos ⟨h0, hl⟩]
theorem lt_no {ws : List (List UInt8)} {f : List UInt8} (hf : fmV ws = f) (hl : ws.length ≠ f.length + 1) : ltV ws = [] := by
  unfold ltV
  rw [hf, if_neg (fun h => hl h.2)]
theorem rdE_no {ws : List (List UInt8)} {row : Int} (h : ltV ws = []) : rdE ws row = 22 := by unfold rdE; rw [if_pos h]
theorem cd_no {ws : List (List UInt8)} {row : Int} (h : ltV ws = []) (g : ws = [] ∨ ptW ws = [] ∨ ws.length ≠ 1 + (ptW ws).length) : cdE ws row = rdE ws row ∧ (rdE ws row = 0 → (rnC ws row).2 = rdL ws row) := by
  refine ⟨by rw [rdE_no h]; unfold cdE; rw [if_pos g], fun e => ?_⟩
  rw [rdE_no h] at e
  cases e
theorem cd_yes {ws : List (List UInt8)} {row : Int} {f : List UInt8} (h0 : ws ≠ []) (hf : fmV ws = f) (hf0 : f ≠ []) (hl : ws.length = f.length + 1) (hp : ptW ws ≠ []) (hp2 : (ptW ws).length = f.length)
    (hr : Rel (rnC ws row) (runS f (ws.drop 1) 0 (LV.new row (kdV (wat ws 0))))) (hv : (runS f (ws.drop 1) 0 (LV.new row (kdV (wat ws 0)))).1 = 0 → (runS f (ws.drop 1) 0 (LV.new row (kdV (wat ws 0)))).2.kind ≠ 2 ∨ 0 ≤ (runS f (ws.drop 1) 0 (LV.new row (kdV (wat ws 0)))).2.vlan) :
    cdE ws row = rdE ws row ∧ (rdE ws row = 0 → (rnC ws row).2 = rdL ws row) := by
  have hlt := lt_of hf hf0 hl
  have h1 : ¬ (ws = [] ∨ ptW ws = [] ∨ ws.length ≠ 1 + (ptW ws).length) := by
    rintro (h | h | h)
    · exact h0 h
    · exact hp h
    · omega
  unfold rdL rdE cdE
  rw [hlt, if_neg hf0, if_neg h1]
  show (if (rnC ws row).1 = 0 then (if apB (rnC ws row).2 = true then (0 : Int) else 21) else (rnC ws row).1) = (if (runS f (ws.drop 1) 0 (LV.new row (kdV (wat ws 0)))).1 = 0 then (if (runS f (ws.drop 1) 0 (LV.new row (kdV (wat ws 0)))).2.kind = 2 ∧ mbB (runS f (ws.drop 1) 0 (LV.new row (kdV (wat ws 0)))).2 = false then (21 : Int) else 0) else (runS f (ws.drop 1) 0 (LV.new row (kdV (wat ws 0)))).1) ∧ _
  obtain ⟨r1, r2⟩ := hr
  by_cases g : (rnC ws row).1 = 0
  · have g2 := r1.symm.trans g
    rw [if_pos g, if_pos g2, r2 g, ap_mb _ (hv g2)]
    refine ⟨rfl, fun e => ?_⟩
    rw [if_pos e]
  · have g2 : ¬ (runS f (ws.drop 1) 0 (LV.new row (kdV (wat ws 0)))).1 = 0 := fun e => g (r1.trans e)
    rw [if_neg g, if_neg g2]
    exact ⟨r1, fun e => absurd e g2⟩
theorem cd_eq (ws : List (List UInt8)) (row : Int) : cdE ws row = rdE ws row ∧ (rdE ws row = 0 → (rnC ws row).2 = rdL ws row) := by
  by_cases h0 : ws = []
  · refine cd_no ?_ (.inl h0)
    subst h0
    rfl
  by_cases k1 : kdV (wat ws 0) = 1
  · have ef : fmV ws = [78, 80, 77] := by unfold fmV; rw [if_neg h0, if_pos k1]
    have ep : ptW ws = [(0, 0), (2, 6), (7, 9)] := by unfold ptW pts; rw [if_pos k1]
    by_cases hl : ws.length = 3 + 1
    · refine cd_yes h0 ef (by decide) hl (by rw [ep]; decide) (by rw [ep]; rfl) ?_ ?_
      · unfold rnC
        rw [ep, k1]
        clear ef ep k1 h0
        obtain ⟨w0, r0, rfl, l0⟩ := len_two hl
        obtain ⟨w1, r1, rfl, l1⟩ := len_two l0
        obtain ⟨w2, r2, rfl, l2⟩ := len_two l1
        obtain ⟨w3, r3, rfl, l3⟩ := len_two l2
        obtain rfl : r3 = [] := List.eq_nil_of_length_eq_zero l3
        exact rel1 row w1 w2 w3
      · rw [k1]
        clear ef ep k1 h0
        obtain ⟨w0, r0, rfl, l0⟩ := len_two hl
        obtain ⟨w1, r1, rfl, l1⟩ := len_two l0
        obtain ⟨w2, r2, rfl, l2⟩ := len_two l1
        obtain ⟨w3, r3, rfl, l3⟩ := len_two l2
        obtain rfl : r3 = [] := List.eq_nil_of_length_eq_zero l3
        intro h
        have := rk1 row w1 w2 w3 h
        obtain ⟨s, a, m, e, _⟩ := this
        rw [show (List.drop 1 (w0 :: w1 :: w2 :: w3 :: [])) = [w1, w2, w3] from rfl, e]
        exact .inl (show (1 : Int) ≠ 2 by decide)
    · exact cd_no (lt_no ef hl) (.inr (.inr (by rw [ep]; show ws.length ≠ 1 + 3; omega)))
  by_cases k3 : kdV (wat ws 0) = 3
  · have ef : fmV ws = [78, 78, 78, 78] := by unfold fmV; rw [if_neg h0, if_neg k1, if_pos k3]
    have ep : ptW ws = [(0, 0), (0, 1), (0, 2), (0, 3)] := by unfold ptW pts; rw [if_neg (by omega), if_neg (by omega), if_pos k3]
    by_cases hl : ws.length = 4 + 1
    · refine cd_yes h0 ef (by decide) hl (by rw [ep]; decide) (by rw [ep]; rfl) ?_ ?_
      · unfold rnC
        rw [ep, k3]
        clear ef ep k1 k3 h0
        obtain ⟨w0, r0, rfl, l0⟩ := len_two hl
        obtain ⟨w1, r1, rfl, l1⟩ := len_two l0
        obtain ⟨w2, r2, rfl, l2⟩ := len_two l1
        obtain ⟨w3, r3, rfl, l3⟩ := len_two l2
        obtain ⟨w4, r4, rfl, l4⟩ := len_two l3
        obtain rfl : r4 = [] := List.eq_nil_of_length_eq_zero l4
        exact rel3 row w1 w2 w3 w4
      · rw [k3]
        clear ef ep k1 k3 h0
        obtain ⟨w0, r0, rfl, l0⟩ := len_two hl
        obtain ⟨w1, r1, rfl, l1⟩ := len_two l0
        obtain ⟨w2, r2, rfl, l2⟩ := len_two l1
        obtain ⟨w3, r3, rfl, l3⟩ := len_two l2
        obtain ⟨w4, r4, rfl, l4⟩ := len_two l3
        obtain rfl : r4 = [] := List.eq_nil_of_length_eq_zero l4
        intro h
        have := rk3 row w1 w2 w3 w4 h
        obtain ⟨s, p, q, r, e, _⟩ := this
        rw [show (List.drop 1 (w0 :: w1 :: w2 :: w3 :: w4 :: [])) = [w1, w2, w3, w4] from rfl, e]
        exact .inl (show (3 : Int) ≠ 2 by decide)
    · exact cd_no (lt_no ef hl) (.inr (.inr (by rw [ep]; show ws.length ≠ 1 + 4; omega)))
  by_cases k4 : kdV (wat ws 0) = 4
  · have ef : fmV ws = [78, 86, 77, 78] := by unfold fmV; rw [if_neg h0, if_neg k1, if_neg k3, if_pos k4]
    have ep : ptW ws = [(0, 0), (4, 7), (7, 9), (0, 1)] := by unfold ptW pts; rw [if_neg (by omega), if_neg (by omega), if_neg (by omega), if_pos k4]
    by_cases hl : ws.length = 4 + 1
    · refine cd_yes h0 ef (by decide) hl (by rw [ep]; decide) (by rw [ep]; rfl) ?_ ?_
      · unfold rnC
        rw [ep, k4]
        clear ef ep k1 k3 k4 h0
        obtain ⟨w0, r0, rfl, l0⟩ := len_two hl
        obtain ⟨w1, r1, rfl, l1⟩ := len_two l0
        obtain ⟨w2, r2, rfl, l2⟩ := len_two l1
        obtain ⟨w3, r3, rfl, l3⟩ := len_two l2
        obtain ⟨w4, r4, rfl, l4⟩ := len_two l3
        obtain rfl : r4 = [] := List.eq_nil_of_length_eq_zero l4
        exact rel4 row w1 w2 w3 w4
      · rw [k4]
        clear ef ep k1 k3 k4 h0
        obtain ⟨w0, r0, rfl, l0⟩ := len_two hl
        obtain ⟨w1, r1, rfl, l1⟩ := len_two l0
        obtain ⟨w2, r2, rfl, l2⟩ := len_two l1
        obtain ⟨w3, r3, rfl, l3⟩ := len_two l2
        obtain ⟨w4, r4, rfl, l4⟩ := len_two l3
        obtain rfl : r4 = [] := List.eq_nil_of_length_eq_zero l4
        intro h
        have := rk4 row w1 w2 w3 w4 h
        obtain ⟨s, v, m, p, e, _⟩ := this
        rw [show (List.drop 1 (w0 :: w1 :: w2 :: w3 :: w4 :: [])) = [w1, w2, w3, w4] from rfl, e]
        exact .inl (show (4 : Int) ≠ 2 by decide)
    · exact cd_no (lt_no ef hl) (.inr (.inr (by rw [ep]; show ws.length ≠ 1 + 4; omega)))
  by_cases k5 : kdV (wat ws 0) = 5
  · have ef : fmV ws = [78, 65] := by unfold fmV; rw [if_neg h0, if_neg k1, if_neg k3, if_neg k4, if_pos k5]
    have ep : ptW ws = [(0, 0), (8, 10)] := by unfold ptW pts; rw [if_neg (by omega), if_neg (by omega), if_neg (by omega), if_neg (by omega), if_pos k5]
    by_cases hl : ws.length = 2 + 1
    · refine cd_yes h0 ef (by decide) hl (by rw [ep]; decide) (by rw [ep]; rfl) ?_ ?_
      · unfold rnC
        rw [ep, k5]
        clear ef ep k1 k3 k4 k5 h0
        obtain ⟨w0, r0, rfl, l0⟩ := len_two hl
        obtain ⟨w1, r1, rfl, l1⟩ := len_two l0
        obtain ⟨w2, r2, rfl, l2⟩ := len_two l1
        obtain rfl : r2 = [] := List.eq_nil_of_length_eq_zero l2
        exact rel5 row w1 w2
      · rw [k5]
        clear ef ep k1 k3 k4 k5 h0
        obtain ⟨w0, r0, rfl, l0⟩ := len_two hl
        obtain ⟨w1, r1, rfl, l1⟩ := len_two l0
        obtain ⟨w2, r2, rfl, l2⟩ := len_two l1
        obtain rfl : r2 = [] := List.eq_nil_of_length_eq_zero l2
        intro h
        have := rk5 row w1 w2 h
        obtain ⟨s, a, e, _⟩ := this
        rw [show (List.drop 1 (w0 :: w1 :: w2 :: [])) = [w1, w2] from rfl, e]
        exact .inl (show (5 : Int) ≠ 2 by decide)
    · exact cd_no (lt_no ef hl) (.inr (.inr (by rw [ep]; show ws.length ≠ 1 + 2; omega)))
  by_cases k6 : kdV (wat ws 0) = 6
  · have ef : fmV ws = [78, 86, 73] := by unfold fmV; rw [if_neg h0, if_neg k1, if_neg k3, if_neg k4, if_neg k5, if_pos k6]
    have ep : ptW ws = [(0, 0), (4, 7), (6, 6)] := by unfold ptW pts; rw [if_neg (by omega), if_neg (by omega), if_neg (by omega), if_neg (by omega), if_neg (by omega), if_pos k6]
    by_cases hl : ws.length = 3 + 1
    · refine cd_yes h0 ef (by decide) hl (by rw [ep]; decide) (by rw [ep]; rfl) ?_ ?_
      · unfold rnC
        rw [ep, k6]
        clear ef ep k1 k3 k4 k5 k6 h0
        obtain ⟨w0, r0, rfl, l0⟩ := len_two hl
        obtain ⟨w1, r1, rfl, l1⟩ := len_two l0
        obtain ⟨w2, r2, rfl, l2⟩ := len_two l1
        obtain ⟨w3, r3, rfl, l3⟩ := len_two l2
        obtain rfl : r3 = [] := List.eq_nil_of_length_eq_zero l3
        exact rel6 row w1 w2 w3
      · rw [k6]
        clear ef ep k1 k3 k4 k5 k6 h0
        obtain ⟨w0, r0, rfl, l0⟩ := len_two hl
        obtain ⟨w1, r1, rfl, l1⟩ := len_two l0
        obtain ⟨w2, r2, rfl, l2⟩ := len_two l1
        obtain ⟨w3, r3, rfl, l3⟩ := len_two l2
        obtain rfl : r3 = [] := List.eq_nil_of_length_eq_zero l3
        intro h
        have := rk6 row w1 w2 w3 h
        obtain ⟨s, v, a, e, _⟩ := this
        rw [show (List.drop 1 (w0 :: w1 :: w2 :: w3 :: [])) = [w1, w2, w3] from rfl, e]
        exact .inl (show (6 : Int) ≠ 2 by decide)
    · exact cd_no (lt_no ef hl) (.inr (.inr (by rw [ep]; show ws.length ≠ 1 + 3; omega)))
  by_cases k7 : kdV (wat ws 0) = 7
  · have ef : fmV ws = [78, 73, 76] := by unfold fmV; rw [if_neg h0, if_neg k1, if_neg k3, if_neg k4, if_neg k5, if_neg k6, if_pos k7]
    have ep : ptW ws = [(0, 0), (6, 6), (12, 15)] := by unfold ptW pts; rw [if_neg (by omega), if_neg (by omega), if_neg (by omega), if_neg (by omega), if_neg (by omega), if_neg (by omega), if_pos k7]
    by_cases hl : ws.length = 3 + 1
    · refine cd_yes h0 ef (by decide) hl (by rw [ep]; decide) (by rw [ep]; rfl) ?_ ?_
      · unfold rnC
        rw [ep, k7]
        clear ef ep k1 k3 k4 k5 k6 k7 h0
        obtain ⟨w0, r0, rfl, l0⟩ := len_two hl
        obtain ⟨w1, r1, rfl, l1⟩ := len_two l0
        obtain ⟨w2, r2, rfl, l2⟩ := len_two l1
        obtain ⟨w3, r3, rfl, l3⟩ := len_two l2
        obtain rfl : r3 = [] := List.eq_nil_of_length_eq_zero l3
        exact rel7 row w1 w2 w3
      · rw [k7]
        clear ef ep k1 k3 k4 k5 k6 k7 h0
        obtain ⟨w0, r0, rfl, l0⟩ := len_two hl
        obtain ⟨w1, r1, rfl, l1⟩ := len_two l0
        obtain ⟨w2, r2, rfl, l2⟩ := len_two l1
        obtain ⟨w3, r3, rfl, l3⟩ := len_two l2
        obtain rfl : r3 = [] := List.eq_nil_of_length_eq_zero l3
        intro h
        have := rk7 row w1 w2 w3 h
        obtain ⟨s, a, x, e, _⟩ := this
        rw [show (List.drop 1 (w0 :: w1 :: w2 :: w3 :: [])) = [w1, w2, w3] from rfl, e]
        exact .inl (show (7 : Int) ≠ 2 by decide)
    · exact cd_no (lt_no ef hl) (.inr (.inr (by rw [ep]; show ws.length ≠ 1 + 3; omega)))
  by_cases k8 : kdV (wat ws 0) = 8
  · have ef : fmV ws = [78, 78, 82, 82] := by unfold fmV; rw [if_neg h0, if_neg k1, if_neg k3, if_neg k4, if_neg k5, if_neg k6, if_neg k7, if_pos k8]
    have ep : ptW ws = [(0, 0), (0, 4), (11, 13), (11, 14)] := by unfold ptW pts; rw [if_neg (by omega), if_neg (by omega), if_neg (by omega), if_neg (by omega), if_neg (by omega), if_neg (by omega), if_neg (by omega), if_pos k8]
    by_cases hl : ws.length = 4 + 1
    · refine cd_yes h0 ef (by decide) hl (by rw [ep]; decide) (by rw [ep]; rfl) ?_ ?_
      · unfold rnC
        rw [ep, k8]
        clear ef ep k1 k3 k4 k5 k6 k7 k8 h0
        obtain ⟨w0, r0, rfl, l0⟩ := len_two hl
        obtain ⟨w1, r1, rfl, l1⟩ := len_two l0
        obtain ⟨w2, r2, rfl, l2⟩ := len_two l1
        obtain ⟨w3, r3, rfl, l3⟩ := len_two l2
        obtain ⟨w4, r4, rfl, l4⟩ := len_two l3
        obtain rfl : r4 = [] := List.eq_nil_of_length_eq_zero l4
        exact rel8 row w1 w2 w3 w4
      · rw [k8]
        clear ef ep k1 k3 k4 k5 k6 k7 k8 h0
        obtain ⟨w0, r0, rfl, l0⟩ := len_two hl
        obtain ⟨w1, r1, rfl, l1⟩ := len_two l0
        obtain ⟨w2, r2, rfl, l2⟩ := len_two l1
        obtain ⟨w3, r3, rfl, l3⟩ := len_two l2
        obtain ⟨w4, r4, rfl, l4⟩ := len_two l3
        obtain rfl : r4 = [] := List.eq_nil_of_length_eq_zero l4
        intro h
        have := rk8 row w1 w2 w3 w4 h
        obtain ⟨s, n, x, y, e, _⟩ := this
        rw [show (List.drop 1 (w0 :: w1 :: w2 :: w3 :: w4 :: [])) = [w1, w2, w3, w4] from rfl, e]
        exact .inl (show (8 : Int) ≠ 2 by decide)
    · exact cd_no (lt_no ef hl) (.inr (.inr (by rw [ep]; show ws.length ≠ 1 + 4; omega)))
  by_cases k9 : kdV (wat ws 0) = 9
  · have ef : fmV ws = [78, 86, 78, 83] := by unfold fmV; rw [if_neg h0, if_neg k1, if_neg k3, if_neg k4, if_neg k5, if_neg k6, if_neg k7, if_neg k8, if_pos k9]
    have ep : ptW ws = [(0, 0), (4, 7), (0, 4), (9, 11)] := by unfold ptW pts; rw [if_neg (by omega), if_neg (by omega), if_neg (by omega), if_neg (by omega), if_neg (by omega), if_neg (by omega), if_neg (by omega), if_neg (by omega), if_pos k9]
    by_cases hl : ws.length = 4 + 1
    · refine cd_yes h0 ef (by decide) hl (by rw [ep]; decide) (by rw [ep]; rfl) ?_ ?_
      · unfold rnC
        rw [ep, k9]
        clear ef ep k1 k3 k4 k5 k6 k7 k8 k9 h0
        obtain ⟨w0, r0, rfl, l0⟩ := len_two hl
        obtain ⟨w1, r1, rfl, l1⟩ := len_two l0
        obtain ⟨w2, r2, rfl, l2⟩ := len_two l1
        obtain ⟨w3, r3, rfl, l3⟩ := len_two l2
        obtain ⟨w4, r4, rfl, l4⟩ := len_two l3
        obtain rfl : r4 = [] := List.eq_nil_of_length_eq_zero l4
        exact rel9 row w1 w2 w3 w4
      · rw [k9]
        clear ef ep k1 k3 k4 k5 k6 k7 k8 k9 h0
        obtain ⟨w0, r0, rfl, l0⟩ := len_two hl
        obtain ⟨w1, r1, rfl, l1⟩ := len_two l0
        obtain ⟨w2, r2, rfl, l2⟩ := len_two l1
        obtain ⟨w3, r3, rfl, l3⟩ := len_two l2
        obtain ⟨w4, r4, rfl, l4⟩ := len_two l3
        obtain rfl : r4 = [] := List.eq_nil_of_length_eq_zero l4
        intro h
        have := rk9 row w1 w2 w3 w4 h
        obtain ⟨s, v, n, a, b, e, _⟩ := this
        rw [show (List.drop 1 (w0 :: w1 :: w2 :: w3 :: w4 :: [])) = [w1, w2, w3, w4] from rfl, e]
        exact .inl (show (9 : Int) ≠ 2 by decide)
    · exact cd_no (lt_no ef hl) (.inr (.inr (by rw [ep]; show ws.length ≠ 1 + 4; omega)))
  by_cases k2 : kdV (wat ws 0) = 2
  · by_cases g : ws.length = 7 ∧ ¬ wat ws 4 = sAccess
    · have ef : fmV ws = [78, 78, 67, 75, 87, 84] := by unfold fmV; rw [if_neg h0, if_neg k1, if_neg k3, if_neg k4, if_neg k5, if_neg k6, if_neg k7, if_neg k8, if_neg k9, if_pos k2, if_pos g]
      have et : tkB ws = true := by
        unfold tkB
        rw [if_neg (by omega), if_neg g.2]
        split
        · rfl
        · exact decide_eq_true g.1
      have ep : ptW ws = [(0, 0), (0, 1), (3, 8), (1, 5), (5, 7), (10, 12)] := by unfold ptW pts; rw [if_neg k1, if_pos k2, et, if_pos rfl]
      have hl : ws.length = 6 + 1 := g.1
      refine cd_yes h0 ef (by decide) hl (by rw [ep]; decide) (by rw [ep]; rfl) ?_ ?_
      · unfold rnC
        rw [ep, k2]
        clear ef ep et k1 k3 k4 k5 k6 k7 k8 k9 k2 h0 g
        obtain ⟨w0, r0, rfl, l0⟩ := len_two hl
        obtain ⟨w1, r1, rfl, l1⟩ := len_two l0
        obtain ⟨w2, r2, rfl, l2⟩ := len_two l1
        obtain ⟨w3, r3, rfl, l3⟩ := len_two l2
        obtain ⟨w4, r4, rfl, l4⟩ := len_two l3
        obtain ⟨w5, r5, rfl, l5⟩ := len_two l4
        obtain ⟨w6, r6, rfl, l6⟩ := len_two l5
        obtain rfl : r6 = [] := List.eq_nil_of_length_eq_zero l6
        exact rel2 row w1 w2 w3 w4 w5 w6
      · rw [k2]
        clear ef ep et k1 k3 k4 k5 k6 k7 k8 k9 k2 h0 g
        obtain ⟨w0, r0, rfl, l0⟩ := len_two hl
        obtain ⟨w1, r1, rfl, l1⟩ := len_two l0
        obtain ⟨w2, r2, rfl, l2⟩ := len_two l1
        obtain ⟨w3, r3, rfl, l3⟩ := len_two l2
        obtain ⟨w4, r4, rfl, l4⟩ := len_two l3
        obtain ⟨w5, r5, rfl, l5⟩ := len_two l4
        obtain ⟨w6, r6, rfl, l6⟩ := len_two l5
        obtain rfl : r6 = [] := List.eq_nil_of_length_eq_zero l6
        intro h
        have := rk2 row w1 w2 w3 w4 w5 w6 h
        obtain ⟨s, p, c, v, t, e, _, _, _, hv, _⟩ := this
        rw [show (List.drop 1 (w0 :: w1 :: w2 :: w3 :: w4 :: w5 :: w6 :: [])) = [w1, w2, w3, w4, w5, w6] from rfl, e]
        exact .inr hv.1
    · by_cases g2 : ws.length = 6 ∧ ¬ wat ws 4 = sTrunk
      · have ef : fmV ws = [78, 78, 67, 75, 86] := by unfold fmV; rw [if_neg h0, if_neg k1, if_neg k3, if_neg k4, if_neg k5, if_neg k6, if_neg k7, if_neg k8, if_neg k9, if_pos k2, if_neg g, if_pos g2]
        have et : tkB ws = false := by
          unfold tkB
          rw [if_neg (by omega)]
          split
          · rfl
          · rw [if_neg g2.2]; exact decide_eq_false (by omega)
        have ep : ptW ws = [(0, 0), (0, 1), (3, 8), (1, 5), (4, 7)] := by unfold ptW pts; rw [if_neg k1, if_pos k2, et, if_neg (by decide)]
        have hl : ws.length = 5 + 1 := g2.1
        refine cd_yes h0 ef (by decide) hl (by rw [ep]; decide) (by rw [ep]; rfl) ?_ ?_
        · unfold rnC
          rw [ep, k2]
          clear ef ep et k1 k3 k4 k5 k6 k7 k8 k9 k2 h0 g g2
          obtain ⟨w0, r0, rfl, l0⟩ := len_two hl
          obtain ⟨w1, r1, rfl, l1⟩ := len_two l0
          obtain ⟨w2, r2, rfl, l2⟩ := len_two l1
          obtain ⟨w3, r3, rfl, l3⟩ := len_two l2
          obtain ⟨w4, r4, rfl, l4⟩ := len_two l3
          obtain ⟨w5, r5, rfl, l5⟩ := len_two l4
          obtain rfl : r5 = [] := List.eq_nil_of_length_eq_zero l5
          exact rel0 row w1 w2 w3 w4 w5
        · rw [k2]
          clear ef ep et k1 k3 k4 k5 k6 k7 k8 k9 k2 h0 g g2
          obtain ⟨w0, r0, rfl, l0⟩ := len_two hl
          obtain ⟨w1, r1, rfl, l1⟩ := len_two l0
          obtain ⟨w2, r2, rfl, l2⟩ := len_two l1
          obtain ⟨w3, r3, rfl, l3⟩ := len_two l2
          obtain ⟨w4, r4, rfl, l4⟩ := len_two l3
          obtain ⟨w5, r5, rfl, l5⟩ := len_two l4
          obtain rfl : r5 = [] := List.eq_nil_of_length_eq_zero l5
          intro h
          have := rk0 row w1 w2 w3 w4 w5 h
          obtain ⟨s, p, c, v, t, e, _, _, _, hv, _⟩ := this
          rw [show (List.drop 1 (w0 :: w1 :: w2 :: w3 :: w4 :: w5 :: [])) = [w1, w2, w3, w4, w5] from rfl, e]
          exact .inr hv.1
      · have ef : fmV ws = [] := by unfold fmV; rw [if_neg h0, if_neg k1, if_neg k3, if_neg k4, if_neg k5, if_neg k6, if_neg k7, if_neg k8, if_neg k9, if_pos k2, if_neg g, if_neg g2]
        refine cd_no (by unfold ltV; rw [if_neg (fun h => h.1 ef)]) (.inr (.inr ?_))
        unfold ptW pts
        rw [if_neg k1, if_pos k2]
        cases et : tkB ws with
        | true =>
          rw [if_pos rfl]
          show ws.length ≠ 1 + 6
          intro hl
          apply g
          refine ⟨by omega, fun ha => ?_⟩
          unfold tkB at et
          rw [if_neg (by omega), if_pos ha] at et
          cases et
        | false =>
          rw [if_neg (by decide)]
          show ws.length ≠ 1 + 5
          intro hl
          apply g2
          refine ⟨by omega, fun ha => ?_⟩
          unfold tkB at et
          rw [if_neg (by omega), if_neg (by rw [ha]; decide), if_pos ha] at et
          cases et
  · have ef : fmV ws = [] := by unfold fmV; rw [if_neg h0, if_neg k1, if_neg k3, if_neg k4, if_neg k5, if_neg k6, if_neg k7, if_neg k8, if_neg k9, if_neg k2]
    refine cd_no (by unfold ltV; rw [if_neg (fun h => h.1 ef)]) (.inr (.inl ?_))
    unfold ptW pts
    rw [if_neg k1, if_neg k2, if_neg k3, if_neg k4, if_neg k5, if_neg k6, if_neg k7, if_neg k8, if_neg k9]
end Go.Proofs.YtpbomfhlghljdaaGreatDoor
