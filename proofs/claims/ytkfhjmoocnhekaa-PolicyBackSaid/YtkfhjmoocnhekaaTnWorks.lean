/- The contract of palinglaw14.works, the chapter's example: it holds; the walk of PolicyReads. -/
import Derived.Test.YtkfhjmoocnhekaaTnOwn
import Derived.Test.YtkfhjmoocnhekaaTnGreat
import Derived.Lib.SmallJoins
namespace Go.Proofs.Ytkfhjmoocnhekaa
open Go.RowKit
open Go.Lib (byteCells)

/-- bytes that were just laid out -/
theorem bsl_row (w : World) (l : List UInt8) (fr : Nat × Nat) (h : l.length ≤ 1000) : BSl (w.alloc (.cells (byteCells l).toArray 5 fr)) (some ⟨w.heap.size, 0, none⟩) l.length l.length l := by
  refine ⟨⟨nums_len l, Nat.le_refl _, by unfold maxLen; omega, fun _ => ⟨w.heap.size, 0, rfl, by simp, fun j hj => ?_⟩⟩, fun e => by cases e⟩
  rw [Nat.zero_add, World.cell?_alloc_mark, nums_getD l j hj]
  have := bcells_get l j hj
  simpa using this
def tnB1 : List UInt8 := [35, 32, 120, 10, 116, 101, 110, 97, 110, 116, 32, 114, 101, 100, 32, 115, 119, 49, 46, 112, 49, 32, 115, 119, 50, 46, 112, 52]
def tnB2 : List UInt8 := [116, 101, 110, 97, 110, 116, 32, 114, 101, 100]
def tnX : TV := ⟨2, [114, 101, 100], [[115, 119, 49], [115, 119, 50]], [[112, 49], [112, 52]]⟩
/-- names, by their bytes -/
theorem nw_of (s : List UInt8) (h : (decide (1 ≤ s.length) && (decide (s.length ≤ 12) && (decide (97 ≤ (s.getD 0 0).toNat ∧ (s.getD 0 0).toNat ≤ 122) && s.all (fun c => decide (97 ≤ c.toNat ∧ c.toNat ≤ 122) || decide (48 ≤ c.toNat ∧ c.toNat ≤ 57))))) = true) : nwB s = true := by
  simp only [Bool.and_eq_true, decide_eq_true_eq, List.all_eq_true, Bool.or_eq_true] at h
  obtain ⟨h1, h2, h3, h4⟩ := h
  refine (nwB_iff s).2 ⟨by rw [str_size]; exact h1, by rw [str_size]; exact h2, ?_, fun j hj => ?_⟩
  · rw [sb_str]; unfold Lc; omega
  · rw [str_size] at hj
    rw [sb_str]
    have := h4 s[j] (List.getElem_mem hj)
    have e : s.getD j 0 = s[j] := by simp [List.getD, hj]
    rw [e]
    unfold Lc Dc
    omega
theorem pw_of (l : List UInt8) (h : hasC 46 l = true) (h1 : nwB (headC 46 l) = true) (h2 : nwB (tailC 46 l) = true) : pwB l = true := by unfold pwB; rw [h, h1, h2]; rfl
theorem tn_rn : rnE [sTen, [114, 101, 100], [115, 119, 49, 46, 112, 49], [115, 119, 50, 46, 112, 52]] = 0 := by
  unfold rnE
  rw [if_neg (by decide), if_neg (by rw [show ([sTen, [114, 101, 100], [115, 119, 49, 46, 112, 49], [115, 119, 50, 46, 112, 52]] : List (List UInt8)).getD 1 [] = [114, 101, 100] from rfl, nw_of _ (by decide +kernel)]; decide), if_pos]
  show (pwB [115, 119, 49, 46, 112, 49] && (pwB [115, 119, 50, 46, 112, 52] && true)) = true
  rw [pw_of [115, 119, 49, 46, 112, 49] (by decide +kernel) (nw_of _ (by decide +kernel)) (nw_of _ (by decide +kernel)), pw_of [115, 119, 50, 46, 112, 52] (by decide +kernel) (nw_of _ (by decide +kernel)) (nw_of _ (by decide +kernel))]
  rfl
theorem poV1 : poV tnB1 = (0, 0, [tnX]) := by
  have r : rwF tnB1 = [[35, 32, 120], [116, 101, 110, 97, 110, 116, 32, 114, 101, 100, 32, 115, 119, 49, 46, 112, 49, 32, 115, 119, 50, 46, 112, 52]] := by decide +kernel
  have e0 : rwE tnB1 = 0 := by decide +kernel
  have w1 : wsF (ahead [35, 32, 120]) = [] := by decide +kernel
  have w2 : wsF (ahead [116, 101, 110, 97, 110, 116, 32, 114, 101, 100, 32, 115, 119, 49, 46, 112, 49, 32, 115, 119, 50, 46, 112, 52]) = [sTen, [114, 101, 100], [115, 119, 49, 46, 112, 49], [115, 119, 50, 46, 112, 52]] := by decide +kernel
  have l1 : wlE [35, 32, 120] = 0 := by decide +kernel
  have l2 : wlE [116, 101, 110, 97, 110, 116, 32, 114, 101, 100, 32, 115, 119, 49, 46, 112, 49, 32, 115, 119, 50, 46, 112, 52] = 0 := by decide +kernel
  have p1 : poE [35, 32, 120] 0 = 0 := by unfold poE; rw [if_pos l1, if_pos w1]
  have p2 : poL [35, 32, 120] 0 = [] := by unfold poL; rw [if_pos w1]
  have p3 : poE [116, 101, 110, 97, 110, 116, 32, 114, 101, 100, 32, 115, 119, 49, 46, 112, 49, 32, 115, 119, 50, 46, 112, 52] 0 = 0 := by unfold poE; rw [if_pos l2, w2, if_neg (by decide), if_pos tn_rn, if_neg (by decide)]
  have p4 : poL [116, 101, 110, 97, 110, 116, 32, 114, 101, 100, 32, 115, 119, 49, 46, 112, 49, 32, 115, 119, 50, 46, 112, 52] 1 = [tnX] := by
    unfold poL
    rw [w2, if_neg (by decide)]
    unfold rnT
    rw [if_pos tn_rn]
    have d1 : (List.drop 2 [sTen, [114, 101, 100], [115, 119, 49, 46, 112, 49], [115, 119, 50, 46, 112, 52]]).map (headC 46) = [[115, 119, 49], [115, 119, 50]] := by decide +kernel
    have d2 : (List.drop 2 [sTen, [114, 101, 100], [115, 119, 49, 46, 112, 49], [115, 119, 50, 46, 112, 52]]).map (tailC 46) = [[112, 49], [112, 52]] := by decide +kernel
    rw [d1, d2]
    rfl
  unfold poV
  rw [if_pos e0, r, poF, show ([] : List TV).length = 0 from rfl, if_pos p1, p2, poF, show ([] ++ [] : List TV).length = 0 from rfl, if_pos p3, p4, poF]
  rfl
theorem poV2 : poV tnB2 = (1, 22, []) := by
  have r : rwF tnB2 = [tnB2] := by decide +kernel
  have e0 : rwE tnB2 = 0 := by decide +kernel
  have w1 : wsF (ahead tnB2) = [sTen, [114, 101, 100]] := by decide +kernel
  have l1 : wlE tnB2 = 0 := by decide +kernel
  have h2 : rnE [sTen, [114, 101, 100]] = 22 := by unfold rnE; rw [if_pos (by decide)]
  have p1 : poE tnB2 0 = 22 := by unfold poE; rw [if_pos l1, w1, if_neg (by decide), if_neg (by rw [h2]; decide), h2]
  unfold poV
  rw [if_pos e0, r, poF, show ([] : List TV).length = 0 from rfl, if_neg (by rw [p1]; decide), p1]
  rfl
theorem got_ten {w : World} {A : Option Addr} {c : Nat} (h : RSl tenR w (allB w) A 1 c [tnX]) : ∃ b off, A = some ⟨b, off, none⟩ ∧ ∃ b2 o2 c2, ∀ w', Below w.heap.size w w' → w'.cell? ⟨b, off, none⟩ = some (.int .i64 2) ∧ w'.cell? ⟨b, off + 1, none⟩ = some (.string ⟨#[114, 101, 100]⟩) ∧ w'.cell? ⟨b, off + 3, none⟩ = some (.slice (some ⟨b2, o2, none⟩) 2 c2) ∧ w'.cell? ⟨b2, o2 + 1, none⟩ = some (.string ⟨#[112, 52]⟩) ∧ 2 ≤ c2 ∧ c2 ≤ 9223372036854775807 := by
  obtain ⟨b, off, ⟨A1, n1, c1⟩, ⟨A2, n2, c2⟩, e, hb, h1, h2, h3, h4, h5, h6⟩ := tens_at h 0 (by decide)
  simp only [Nat.zero_mul, Nat.add_zero] at h3 h4 h5 h6
  have hn : n2 = 2 := h2.len.symm
  simp only [] at h2
  subst hn
  obtain ⟨b2, o2, rfl, hb2, hc2⟩ := h2.at_ (by omega)
  have := hc2 1 (by omega)
  exact ⟨b, off, e, b2, o2, c2, fun w' hw => ⟨(hw.cell (p := ⟨b, _, none⟩) hb).trans h3, (hw.cell (p := ⟨b, _, none⟩) hb).trans h4, (hw.cell (p := ⟨b, _, none⟩) hb).trans h6, (hw.cell (p := ⟨b2, _, none⟩) hb2).trans this, h2.le, h2.cap⟩⟩
set_option maxRecDepth 20000 in
set_option maxHeartbeats 2000000 in
theorem works14_any (w : World) : Calls Try.prog 6 #[] w fun e w' => e = .returned (.bool true) ∧ Below w.heap.size w w' := by
  have T1 := Lib.hid (show ∀ w A c, BSl w A 28 c tnB1 → Calls Try.prog 7 #[.slice A 28 c] w (GotPol w (0, 0, [tnX])) from fun w A c h => by
    have := xpol_any A 28 c tnB1 w h
    rwa [poV1] at this)
  have T2 := Lib.hid (show ∀ w A c, BSl w A 10 c tnB2 → Calls Try.prog 7 #[.slice A 10 c] w (GotPol w (1, 22, [])) from fun w A c h => by
    have := xpol_any A 10 c tnB2 w h
    rwa [poV2] at this)
  have cv1 := fun w : World => Joins.run_convert_bytes_const_at (P := Try.prog) w 22 5 #[.int .u8 35, .int .u8 32, .int .u8 120, .int .u8 10, .int .u8 116, .int .u8 101, .int .u8 110, .int .u8 97, .int .u8 110, .int .u8 116, .int .u8 32, .int .u8 114, .int .u8 101, .int .u8 100, .int .u8 32, .int .u8 115, .int .u8 119, .int .u8 49, .int .u8 46, .int .u8 112, .int .u8 49, .int .u8 32, .int .u8 115, .int .u8 119, .int .u8 50, .int .u8 46, .int .u8 112, .int .u8 52] 28 28 w.heap.size rfl Try.underlying22 Try.underlying5
  have cv2 := fun w : World => Joins.run_convert_bytes_const_at (P := Try.prog) w 22 5 #[.int .u8 116, .int .u8 101, .int .u8 110, .int .u8 97, .int .u8 110, .int .u8 116, .int .u8 32, .int .u8 114, .int .u8 101, .int .u8 100] 10 10 w.heap.size rfl Try.underlying22 Try.underlying5
  have L1 := Lib.hid (fun w : World => show BSl (w.alloc (.cells #[.int .u8 35, .int .u8 32, .int .u8 120, .int .u8 10, .int .u8 116, .int .u8 101, .int .u8 110, .int .u8 97, .int .u8 110, .int .u8 116, .int .u8 32, .int .u8 114, .int .u8 101, .int .u8 100, .int .u8 32, .int .u8 115, .int .u8 119, .int .u8 49, .int .u8 46, .int .u8 112, .int .u8 49, .int .u8 32, .int .u8 115, .int .u8 119, .int .u8 50, .int .u8 46, .int .u8 112, .int .u8 52] 5 (28, 29))) (some ⟨w.heap.size, 0, none⟩) 28 28 tnB1 from bsl_row w tnB1 (28, 29) (by decide))
  have L2 := Lib.hid (fun w : World => show BSl (w.alloc (.cells #[.int .u8 116, .int .u8 101, .int .u8 110, .int .u8 97, .int .u8 110, .int .u8 116, .int .u8 32, .int .u8 114, .int .u8 101, .int .u8 100] 5 (10, 11))) (some ⟨w.heap.size, 0, none⟩) 10 10 tnB2 from bsl_row w tnB2 (10, 11) (by decide))
  go_enter Try.func6, Try.ntmps6
  go_wp2_with (first
    | (go_at_call 7; (with_reducible refine (T1.out _ _ _ (L1.out _)).mono ?_); rintro e w1 ⟨A1, n1, c1, rfl, s1, b1⟩; obtain rfl : n1 = 1 := s1.len.symm; obtain ⟨q, off, rfl, b2, o2, c2, hz⟩ := got_ten s1; have Z := Lib.hid hz; have B1 := Lib.hid (one_below b1); have q1 := s1.le; have q2 := s1.cap; clear s1 b1 hz)
    | (go_at_call 7; (with_reducible refine (T2.out _ _ _ (L2.out _)).mono ?_); rintro e w2 ⟨A2, n2, c3, rfl, _, b3⟩; have B2 := Lib.hid (one_below b3); obtain ⟨z0, z1, z3, z4, z5, z6⟩ := Z.out _ B2.out; clear b3))
  go_ret
  exact ⟨rfl, trans_below B1.out B2.out⟩
set_option maxRecDepth 20000 in
set_option maxHeartbeats 2000000 in
theorem preads_walk (A : Option Addr) (n c : Nat) (l : List UInt8) (w : World) (h : BSl w A n c l) : Calls Try.prog 3 #[.slice A n c] w fun e w' => e = .returned (.bool true) ∧ Below w.heap.size w w' := by
  by_cases ho : (6000 < n ∧ n ≤ 20000) ∨ 60000 < n
  · have i0 : (6000 : Int) < (n : Int) := by omega
    clear h
    by_cases h2 : n ≤ 20000
    · have i1 : (n : Int) ≤ 20000 := by omega
      clear ho h2
      go_enter Try.func3, Try.ntmps3
      go_wp2_with (go_at_call 6; (with_reducible refine (works14_any _).mono ?_); rintro e w1 ⟨rfl, b1⟩)
      go_ret
      exact ⟨rfl, b1⟩
    · have i1 : ¬ (n : Int) ≤ 20000 := by omega
      have i2 : (60000 : Int) < (n : Int) := by omega
      clear ho h2
      go_enter Try.func3, Try.ntmps3
      go_wp2_with (go_at_call 6; (with_reducible refine (works14_any _).mono ?_); rintro e w1 ⟨rfl, b1⟩)
      go_ret
      exact ⟨rfl, b1⟩
  · have RD := Lib.hid (fun (w' : World) hb => xpol_any A n c l w' (h.below hb))
    have RR := Lib.hid (fun (w' : World) hb => rpol_any A n c l w' (h.below hb))
    obtain ⟨⟨row, E, xs⟩, hT⟩ : ∃ T, poV l = T := ⟨_, rfl⟩
    rw [hT] at RD RR
    have EX := Lib.hid (fun A n c B m d w F G hF hG h g => rpexact_any A n c B m d xs xs w F G hF hG h g true ⟨fun _ => rfl, fun _ => rfl⟩)
    clear h hT
    by_cases h6 : 6000 < n
    · have i0 : (6000 : Int) < (n : Int) := by omega
      have i1 : ¬ (n : Int) ≤ 20000 := by omega
      have i2 : ¬ (60000 : Int) < (n : Int) := by omega
      clear ho h6
      go_enter Try.func3, Try.ntmps3
      go_wp2_with (first
        | (go_at_call 7; (with_reducible refine (RD.out _ (Below.refl _ _)).mono ?_); rintro e w1 ⟨A1, n1, c1, rfl, s1, b1⟩; have S1 := Lib.hid s1; have B1 := Lib.hid b1; clear s1 b1)
        | (go_at_call 8; (with_reducible refine (RR.out _ B1.out).mono ?_); rintro e w2 ⟨A2, n2, c2, rfl, s2, b2⟩; have S2 := Lib.hid s2; have B2 := Lib.hid (trans_below B1.out b2); have S12 := Lib.hid (S1.out.below (fun _ h => h) b2); have F12 := Lib.hid (show ∀ b, allB w1 b → b < w2.heap.size from fun b h => Nat.lt_of_lt_of_le h b2.size); clear s2 b2)
        | (go_at_call 9; (with_reducible refine (EX.out _ _ _ _ _ _ _ _ _ F12.out (fun _ h => h) S12.out S2.out).mono ?_); rintro e w3 ⟨rfl, b3⟩; have B3 := Lib.hid (trans_below B2.out b3); clear b3)
        | (go_at_call 6; (with_reducible refine (works14_any _).mono ?_); rintro e w4 ⟨rfl, b4⟩; have B4 := Lib.hid (trans_below B3.out b4); clear b4))
      go_ret
      exact ⟨rfl, B4.out⟩
    · have i0 : ¬ (6000 : Int) < (n : Int) := by omega
      have i2 : ¬ (60000 : Int) < (n : Int) := by omega
      clear ho h6
      go_enter Try.func3, Try.ntmps3
      go_wp2_with (first
        | (go_at_call 7; (with_reducible refine (RD.out _ (Below.refl _ _)).mono ?_); rintro e w1 ⟨A1, n1, c1, rfl, s1, b1⟩; have S1 := Lib.hid s1; have B1 := Lib.hid b1; clear s1 b1)
        | (go_at_call 8; (with_reducible refine (RR.out _ B1.out).mono ?_); rintro e w2 ⟨A2, n2, c2, rfl, s2, b2⟩; have S2 := Lib.hid s2; have B2 := Lib.hid (trans_below B1.out b2); have S12 := Lib.hid (S1.out.below (fun _ h => h) b2); have F12 := Lib.hid (show ∀ b, allB w1 b → b < w2.heap.size from fun b h => Nat.lt_of_lt_of_le h b2.size); clear s2 b2)
        | (go_at_call 9; (with_reducible refine (EX.out _ _ _ _ _ _ _ _ _ F12.out (fun _ h => h) S12.out S2.out).mono ?_); rintro e w3 ⟨rfl, b3⟩; have B3 := Lib.hid (trans_below B2.out b3); clear b3)
        | (go_at_call 6; (with_reducible refine (works14_any _).mono ?_); rintro e w4 ⟨rfl, b4⟩; have B4 := Lib.hid (trans_below B3.out b4); clear b4))
      go_ret
      exact ⟨rfl, B4.out⟩
end Go.Proofs.Ytkfhjmoocnhekaa
