/- The contract of stmt.Read: a line's words gone through. -/
import Derived.Test.YtagbfklcbekceaaGreatDoorStRdL
namespace Go.Proofs.YtagbfklcbekceaaGreatDoor
open Go.RowKit

theorem pboxA {wr w2 : World} {x y : Value} {T : TypeId} {o : Obj} (hb : Below ((wr.alloc (.cells #[x, y] T)).alloc o).drew.heap.size ((wr.alloc (.cells #[x, y] T)).alloc o).drew w2) : w2.cell? ⟨wr.heap.size, 0, none⟩ = some x ∧ w2.cell? ⟨wr.heap.size, 1, none⟩ = some y ∧ wr.heap.size < w2.heap.size := by
  have hs : wr.heap.size < ((wr.alloc (.cells #[x, y] T)).alloc o).drew.heap.size := by show _ < ((wr.alloc (.cells #[x, y] T)).alloc o).heap.size; simp; omega
  refine ⟨(hb.cell (p := ⟨wr.heap.size, 0, none⟩) hs).trans ?_, (hb.cell (p := ⟨wr.heap.size, 1, none⟩) hs).trans ?_, Nat.lt_of_lt_of_le hs hb.size⟩
  · show ((wr.alloc (.cells #[x, y] T)).alloc o).cell? _ = _; simp
  · show ((wr.alloc (.cells #[x, y] T)).alloc o).cell? _ = _; simp
theorem pboxB {wr w2 : World} {x y : Value} {T : TypeId} (hb : Below (wr.alloc (.cells #[x, y] T)).drew.heap.size (wr.alloc (.cells #[x, y] T)).drew w2) : w2.cell? ⟨wr.heap.size, 0, none⟩ = some x ∧ w2.cell? ⟨wr.heap.size, 1, none⟩ = some y ∧ wr.heap.size < w2.heap.size := by
  have hs : wr.heap.size < (wr.alloc (.cells #[x, y] T)).drew.heap.size := by show _ < (wr.alloc (.cells #[x, y] T)).heap.size; simp
  refine ⟨(hb.cell (p := ⟨wr.heap.size, 0, none⟩) hs).trans ?_, (hb.cell (p := ⟨wr.heap.size, 1, none⟩) hs).trans ?_, Nat.lt_of_lt_of_le hs hb.size⟩
  · show (wr.alloc (.cells #[x, y] T)).cell? _ = _; simp
  · show (wr.alloc (.cells #[x, y] T)).cell? _ = _; simp
set_option maxRecDepth 100000 in
set_option maxHeartbeats 60000000 in
theorem cread_run (A : Option Addr) (n c : Nat) (ws : List (List UInt8)) (row : Int) (w : World) (h : SSl w A n c ws) (hs : ∀ p ∈ ws, p.length ≤ 300) (hl : Lds w) (hf : FsIs w) (m : Nat) (hm : (ptW ws).length = m) (hm0 : 0 < m) (hn : n = 1 + m) (E : Int) (M : LV) (hE : cdE ws row = E) (hM : (if E = 0 then (rnC ws row).2 else LV.zero) = M) :
    Calls Tryz.prog 17 #[.slice A n c, .int .i64 row] w (GotLine w M E) := by
  obtain ⟨b, off, rfl, hb, hc⟩ := h.at_ (by omega)
  have c0 : w.cell? ⟨b, off, none⟩ = some (.string (str (wat ws 0))) := hc 0 (by omega)
  have hle := h.le
  have hlen := h.len
  have hcap := h.cap
  have HC := Lib.hid hc
  have H := Lib.hid h
  have HF := Lib.hid hf
  have HL := Lib.hid hl
  have HS := Lib.hid hs
  have OKP := Lib.hid (pts_ok (kdV (wat ws 0)) (tkB ws))
  have hm6 : m ≤ 6 := by have := OKP.out.1; unfold ptW at hm; omega
  have HM := Lib.hid hm
  have HN := Lib.hid hn
  have hn1 : 1 ≤ n := by omega
  have dm : ((m : Int) == 0) = false := by rw [beq_eq_false_iff_ne]; omega
  have d0 : ((n : Int) == 0) = false := by rw [beq_eq_false_iff_ne]; omega
  have EE := Lib.hid hE
  have MM := Lib.hid hM
  clear hE hM
  have dn : ((n : Int) != 1 + (m : Int)) = false := by rw [hn]; simp
  clear h hf hl hs hc hm hn
  go_enter Tryz.func17, Tryz.ntmps17
  go_wp2_with (first
    | (go_at_call 32; (with_reducible refine (ckind_any (wat ws 0) _ (HF.out.below (below_box2 _ _))).mono ?_); rintro e w1 ⟨rfl, rfl⟩)
    | ((with_reducible refine wpList_newfields ?hg1 ?ho1 ?hg2 (.tmp 6) (.tmp 22) ?ho2 ?hx (LV.new row (kdV (wat ws 0))) SlV.nil SlV.nil SlV.nil SlV.nil ?hy ?_); (case hg1 => rfl); (case ho1 => rfl); (case hg2 => rfl); (case ho2 => rfl); (case hx => rfl); (case hy => rfl); intro w9 bx9 bl9 lt9; rw [rd_sz] at bx9 bl9 lt9; have hb9 : b < w9.heap.size := (by omega); have W9 := Lib.hid (show Below w.heap.size w w9 from (below_box2 w _).trans (bl9.mono (by omega))))
    | (go_at_call 34; (with_reducible refine (tk_any _ n c ws _ (H.out.below W9.out)).mono ?_); rintro e w1 ⟨rfl, rfl⟩)
    | (go_at_call 33; (with_reducible refine (parts_any (kdV (wat ws 0)) _ _ _ (bx9.cell 1 (by omega))).mono ?_); rintro e w1 ⟨PA, pn, pc, rfl, hps, hb1, hpa⟩; have PN := (show pn = m from hps.1.symm.trans HM.out)))
  have R1 := Lib.hid (rd_start (below_box2 w _) bx9 bl9 lt9 hb1 hps hpa)
  subst PN
  clear hps hpa
  generalize hP : pts (kdV (wat ws 0)) (tkB ws) = ps at *
  have PW := Lib.hid (show ptW ws = ps from hP)
  clear hP
  have RN := Lib.hid (show rnC ws row = runC ps (ws.drop 1) (LV.new row (kdV (wat ws 0))) by unfold rnC; rw [PW.out])
  have NC := Lib.hid (cd_of (row := row) (show ¬ (ws = [] ∨ ptW ws = [] ∨ ws.length ≠ 1 + (ptW ws).length) by
    rintro (e | e | e)
    · rw [e] at hlen; have : (0 : Nat) = n := hlen; omega
    · have h := HM.out; rw [e] at h; have : (0 : Nat) = pn := h; omega
    · apply e; rw [HM.out, hlen]; exact HN.out))
  generalize kdV (wat ws 0) = kd at *
  have Z1 : BoxF w1 w.heap.size 17 (lc LV.zero SlV.nil SlV.nil SlV.nil SlV.nil) := ((zero_box w _).below (by omega) (by rw [rd_sz]; exact bl9)).below (by omega) hb1
  have ZZ1 := Lib.hid Z1
  clear Z1 hb1 bx9 bl9 lt9 hb9
  go_loopw [40] (fun i wr => ∃ (k : Nat) (L : LV) (s1 s2 s3 s4 : SlV), k ≤ pn ∧ i = .int .i64 (k : Int) ∧ runC ps (ws.drop 1) (LV.new row kd) = runC (ps.drop k) (ws.drop (k + 1)) L ∧ RdS w (w.heap.size + 1) ps PA pn pc L s1 s2 s3 s4 wr ∧ BoxF wr w.heap.size 17 (lc LV.zero SlV.nil SlV.nil SlV.nil SlV.nil)) (fun i _ => pn - (intOf i).toNat)
  case atStart => exact ⟨0, LV.new row kd, SlV.nil, SlV.nil, SlV.nil, SlV.nil, by omega, rfl, rfl, R1.out, ZZ1.out⟩
  case round =>
    obtain ⟨k, L, s1, s2, s3, s4, hk, rfl, hrun, hR, hZ⟩ := hrel
    have RR := Lib.hid hR
    have ZZ := Lib.hid hZ
    have RUN := Lib.hid hrun
    have hbw : b < wr.heap.size := Nat.lt_of_lt_of_le hb hR.bel.size
    have PL := Lib.hid hR.ps.1
    clear hR hZ hrun
    by_cases hlt : k < pn
    · obtain ⟨bp, rfl, hbp, hpc⟩ := RR.out.ps.2.2.2 (by omega)
      obtain ⟨x0, x1⟩ := hpc k hlt
      have N := Lib.hid (runC_at (ps := ps) (ws := ws) (k := k) (L := L) (by rw [PL.out]; exact hlt) (by have := HN.out; omega))
      have OK := Lib.hid (OKP.out.at_ k)
      obtain ⟨x, hx⟩ : ∃ x, ps.getD k (0, 0) = x := ⟨_, rfl⟩
      rw [hx] at x0 x1 N OK
      obtain ⟨wk, fk⟩ := x
      clear hpc hx
      dsimp only at x0 x1 N OK
      unfold fval at x1
      have cw : wr.cell? ⟨b, off + (1 + k), none⟩ = some (.string (str (wat ws (k + 1)))) := by
        rw [RR.out.bel.cell (p := ⟨b, off + (1 + k), none⟩) hb, HC.out (1 + k) (by have := HN.out; omega), Nat.add_comm 1 k]
        rfl
      have SL := Lib.hid (show (wat ws (k + 1)).length ≤ 300 by
        unfold wat
        rcases Nat.lt_or_ge (k + 1) ws.length with e | e
        · rw [List.getD, List.getElem?_eq_getElem e]; exact HS.out _ (List.getElem_mem e)
        · rw [List.getD, List.getElem?_eq_none e]; exact Nat.zero_le _)
      have kn : 1 + k < n := by have := HN.out; omega
      generalize wat ws (k + 1) = s at *
      have e1 : IntKind.i64.wrap (1 + (k : Int)) = 1 + (k : Int) := IntWalk.i64_in _ (by omega)
      have e2 : (0 : Int) ≤ 1 + (k : Int) := by omega
      have e3 : (1 + (k : Int)).toNat = 1 + k := by omega
      have e4 : 1 + (k : Int) < (n : Int) := by omega
      have RC := run_fnum fk OK.out.2
      obtain ⟨sb, hsb⟩ : ∃ sb, saidB wk s = sb := ⟨_, rfl⟩
      obtain ⟨V, hV⟩ : ∃ V, saidV wk s = V := ⟨_, rfl⟩
      have CS := Lib.hid (said_form (k := wk) (s := s) (V := V) (sb := sb) OK.out.1 (by have := SL.out; omega) hV hsb)
      have BW := Lib.hid RR.out.bel
      have HV := Lib.hid hV
      have HSB := Lib.hid hsb
      clear hV hsb
      go_wp2
      go_region_with (go_at_call 35; go_loud (refine (CS.out _ (by first
        | exact lds_drew (HL.out.below (BW.out.trans ((below_box2 wr _).mono BW.out.size)))
        | exact lds_drew (HL.out.below (BW.out.trans ((two_alloc wr _ _).mono BW.out.size))))).mono ?_); rintro e w2 ⟨t1, t2, rfl, hv, hb2, p1, p2⟩; first | (have vb := vbox hb2; have z0 : w2.cell? ⟨wr.heap.size + 1, 0, none⟩ = some (.string ⟨#[]⟩) := vb.cell 0 (by omega); have z1 : w2.cell? ⟨wr.heap.size + 1, 1, none⟩ = some (.int .i64 0) := vb.cell 1 (by omega); have z2 : w2.cell? ⟨wr.heap.size + 1, 2, none⟩ = some (.int .u64 0) := vb.cell 2 (by omega); have z3 : w2.cell? ⟨wr.heap.size + 1, 3, none⟩ = some (.int .u32 0) := vb.cell 3 (by omega); have z4 : w2.cell? ⟨wr.heap.size + 1, 4, none⟩ = some (.slice none 0 0) := vb.cell 4 (by omega); have z5 : w2.cell? ⟨wr.heap.size + 1, 5, none⟩ = some (.slice none 0 0) := vb.cell 5 (by omega); have zf := vb.2; have VB := Lib.hid vb; clear vb) | skip)
      all_goals first
        | (have RF := Lib.hid (RR.out.fvA hb2 hv p1 p2); obtain ⟨y0, y1, ylt⟩ := pboxA hb2)
        | (have RF := Lib.hid (RR.out.fvB (T := 77) hb2 hv p1 p2); obtain ⟨y0, y1, ylt⟩ := pboxB hb2)
      all_goals clear hv p1 p2 hb2
      all_goals
        cases sb with
        | true =>
          have VO := Lib.hid (show VOk V from HV.out ▸ said_vok wk OK.out.1 s (by have := SL.out; omega) HSB.out)
          have N2 := Lib.hid (show runC ps (ws.drop 1) (LV.new row kd) = runC (ps.drop (k + 1)) (ws.drop (k + 1 + 1)) (fput fk L V) by rw [RUN.out, N.out, if_pos HSB.out, HV.out])
          clear HV HSB N RUN
          go_wp2_with ((with_reducible refine (fld_any fk OK.out.2 RF.out.2.1).mono ?_); rintro e w3 ⟨rfl, r1, r2, r3, r4, u1, u2, F7, E7⟩; have R7 := Lib.hid (RF.out.1.next (by have := RF.out.2.2.2; have := RR.out.bel.size; omega) (fun ad e => by cases e; show bp ≠ _; have := RF.out.2.2.2; omega) F7 E7 (fput_sz RR.out.sz VO.out fk)); have Z7 := Lib.hid (((ZZ.out.below (by omega) RF.out.2.2.1)).ex2 (by omega) E7 (by omega) (by have := RF.out.2.2.2; have := RR.out.pl; omega)); clear F7 E7)
          go_roundw
          case rel => exact ⟨k + 1, fput fk L V, r1, r2, r3, r4, by omega, by go_num, N2.out, R7.out, Z7.out⟩
          case measure => simp [intOf]; omega
        | false =>
          have N2 := Lib.hid (show rnC ws row = (refE wk, L) by rw [RN.out, RUN.out, N.out, if_neg (by rw [HSB.out]; decide)])
          have E1 := Lib.hid (show E = refE wk by rw [← EE.out, NC.out, N2.out, if_neg (ref_ne wk)])
          have M1 := Lib.hid (show M = LV.zero by rw [← MM.out, if_neg (by rw [E1.out]; exact ref_ne wk)])
          have CR := Lib.hid (fun w => ref_any wk OK.out.1 w)
          have Z7 := Lib.hid (ZZ.out.below (by omega) RF.out.2.2.1)
          clear HV HSB N RUN
          go_wp2_with (first
            | (go_at_call 36; (with_reducible refine (CR.out _).mono ?_); rintro e w5 ⟨rfl, rfl⟩)
            | ((with_reducible refine wpList_line ?hg (.tmp 4) (.tmp 58) ?ho w.heap.size ?hx LV.zero SlV.nil SlV.nil SlV.nil SlV.nil ?hy (lc LV.zero SlV.nil SlV.nil SlV.nil SlV.nil) Z7.out ?_); (case hg => rfl); (case ho => rfl); (case hx => rfl); (case hy => rfl); intro w8 b8 e8))
          rw [E1.out, M1.out]
          exact bodyPost_ret (cread_results _ _ w.heap.size (refE wk) LV.zero SlV.nil SlV.nil SlV.nil SlV.nil rfl rfl b8) rfl (got_zero (Below.ex (RR.out.bel.trans (RF.out.2.2.1.mono RR.out.bel.size)) e8 (Nat.le_refl _) (by have := RR.out.bel.size; have := RF.out.2.2.1.size; omega)))
    · obtain rfl : k = pn := by omega
      have R2 := Lib.hid (show rnC ws row = (0, L) by rw [RN.out, RUN.out, runC_end (by rw [PL.out]; exact Nat.le_refl _)])
      have E0 := Lib.hid (show E = if apB L = true then 0 else 21 by rw [← EE.out, NC.out, R2.out, if_pos rfl])
      have CA := Lib.hid (fun w h => apart_any L s1 s2 s3 s4 w h)
      obtain ⟨ap, hap⟩ : ∃ ap, apB L = ap := ⟨_, rfl⟩
      rw [hap] at E0
      have AP := Lib.hid hap
      clear hap
      cases ap with
      | false =>
        have M1 := Lib.hid (show M = LV.zero by rw [← MM.out, if_neg (by rw [E0.out]; decide)])
        go_wp2_with (first
          | ((with_reducible refine wpList_lineOf ?hg (.tmp 66) ?ho (w.heap.size + 1) ?hx L s1 s2 s3 s4 RR.out.box ?_); (case hg => rfl); (case ho => rfl); (case hx => rfl))
          | (go_at_call 37; (with_reducible refine (CA.out _ RR.out.rd).mono ?_); rintro e w5 ⟨rfl, hb5⟩; rw [AP.out]; have Z7 := Lib.hid (ZZ.out.below (by omega) hb5))
          | ((with_reducible refine wpList_line ?hg (.tmp 4) (.tmp 70) ?ho w.heap.size ?hx LV.zero SlV.nil SlV.nil SlV.nil SlV.nil ?hy (lc LV.zero SlV.nil SlV.nil SlV.nil SlV.nil) Z7.out ?_); (case hg => rfl); (case ho => rfl); (case hx => rfl); (case hy => rfl); intro w8 b8 e8))
        rw [E0.out, M1.out]
        exact bodyPost_ret (cread_results _ _ w.heap.size 21 LV.zero SlV.nil SlV.nil SlV.nil SlV.nil rfl rfl b8) rfl (got_zero (Below.ex (RR.out.bel.trans (hb5.mono RR.out.bel.size)) e8 (Nat.le_refl _) (by have := RR.out.bel.size; have := hb5.size; omega)))
      | true =>
        have M1 := Lib.hid (show M = L by rw [← MM.out, if_pos (by rw [E0.out]; rfl), R2.out])
        have CC := Lib.hid (fun w h => copy_any L s1 s2 s3 s4 w h RR.out.sz)
        go_wp2_with (first
          | ((with_reducible refine wpList_lineOf ?hg (.tmp 66) ?ho (w.heap.size + 1) ?hx L s1 s2 s3 s4 RR.out.box ?_); (case hg => rfl); (case ho => rfl); (case hx => rfl))
          | (go_at_call 37; (with_reducible refine (CA.out _ RR.out.rd).mono ?_); rintro e w5 ⟨rfl, hb5⟩; rw [AP.out]; have Z7 := Lib.hid (ZZ.out.below (by omega) hb5); have R7 := Lib.hid (RR.out.keep hb5))
          | ((with_reducible refine wpList_lineOf ?hg (.tmp 71) ?ho (w.heap.size + 1) ?hx L s1 s2 s3 s4 R7.out.box ?_); (case hg => rfl); (case ho => rfl); (case hx => rfl))
          | (go_at_call 38; (with_reducible refine (CC.out _ R7.out.rd).mono ?_); rintro e w6 ⟨v1, v2, v3, v4, rfl, hr6, hn6, hb6⟩; have Z8 := Lib.hid (Z7.out.below (by omega) hb6))
          | ((with_reducible refine wpList_line ?hg (.tmp 4) (.tmp 73) ?ho w.heap.size ?hx L v1 v2 v3 v4 ?hy (lc LV.zero SlV.nil SlV.nil SlV.nil SlV.nil) Z8.out ?_); (case hg => rfl); (case ho => rfl); (case hx => rfl); (case hy => rfl); intro w8 b8 e8))
        rw [E0.out, M1.out]
        have hz5 : w.heap.size < w5.heap.size := by have := R7.out.pl; omega
        have key : ∀ (k : IntKind) (s : SlV) (xs : List Int), ISl w6 k s.A s.n s.c xs → (∀ ad, s.A = some ad → w5.heap.size ≤ ad.block) → ISl w8 k s.A s.n s.c xs := fun k s xs hi ho => ISl.exOff hi e8 (fun ad h => by have := ho ad h; omega)
        exact bodyPost_ret (cread_results _ _ w.heap.size 0 L v1 v2 v3 v4 rfl rfl b8) rfl ⟨v1, v2, v3, v4, rfl, ⟨key _ _ _ hr6.1 hn6.1, key _ _ _ hr6.2.1 hn6.2.1, key _ _ _ hr6.2.2.1 hn6.2.2.1, key _ _ _ hr6.2.2.2 hn6.2.2.2⟩,
          ⟨fun ad h => by have := hn6.1 ad h; omega, fun ad h => by have := hn6.2.1 ad h; omega, fun ad h => by have := hn6.2.2.1 ad h; omega, fun ad h => by have := hn6.2.2.2 ad h; omega⟩, Below.ex ((R7.out.bel).trans (hb6.mono R7.out.bel.size)) e8 (Nat.le_refl _) (by have := R7.out.bel.size; have := hb6.size; omega)⟩
end Go.Proofs.YtagbfklcbekceaaGreatDoor
