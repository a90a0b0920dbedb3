/- The contract of stmt.Read, where the words are no line by their number. -/
import Derived.Test.YtpbomfhlghljdaaGreatDoorStRdL
namespace Go.Proofs.YtpbomfhlghljdaaGreatDoor
open Go.RowKit

set_option maxRecDepth 100000 in
set_option maxHeartbeats 4000000 in
theorem cread_nil (A : Option Addr) (c : Nat) (row : Int) (w : World) : Calls Tryz.prog 7 #[.slice A 0 c, .int .i64 row] w (GotLine w LV.zero 22) := by
  go_enter Tryz.func7, Tryz.ntmps7
  go_wp2
  exact bodyPost_ret (cread_results _ _ w.heap.size 22 LV.zero SlV.nil SlV.nil SlV.nil SlV.nil rfl rfl (zero_box w _)) rfl (got_zero (below_box2 w _))
set_option maxRecDepth 100000 in
set_option maxHeartbeats 4000000 in
theorem cread_no (A : Option Addr) (n c : Nat) (ws : List (List UInt8)) (row : Int) (w : World) (h : SSl w A n c ws) (hf : FsIs w) (h0 : 0 < n) (hno : ptW ws = [] ∨ n ≠ 1 + (ptW ws).length) :
    Calls Tryz.prog 7 #[.slice A n c, .int .i64 row] w (GotLine w LV.zero 22) := by
  obtain ⟨b, off, rfl, hb, hc⟩ := h.at_ h0
  have c0 : w.cell? ⟨b, off, none⟩ = some (.string (str (wat ws 0))) := hc 0 h0
  have hle := h.le
  have hcap := h.cap
  have H := Lib.hid h
  have HF := Lib.hid hf
  have d0 : ((n : Int) == 0) = false := by rw [beq_eq_false_iff_ne]; omega
  have OKP := Lib.hid (pts_ok (kdV (wat ws 0)) (tkB ws))
  obtain ⟨m, hm⟩ : ∃ m, (ptW ws).length = m := ⟨_, rfl⟩
  have HM := Lib.hid (show (pts (kdV (wat ws 0)) (tkB ws)).length = m from hm)
  have hm6 : m ≤ 6 := by have := OKP.out.1; have := HM.out; omega
  by_cases m0 : m = 0
  · have dm : ((m : Int) == 0) = true := by rw [m0]; rfl
    clear h hf hc hno hm m0
    go_enter Tryz.func7, Tryz.ntmps7
    go_wp2_with (first
      | (go_at_call 14; (with_reducible refine (ckind_any (wat ws 0) _ (HF.out.below (below_box2 _ _))).mono ?_); rintro e w1 ⟨rfl, rfl⟩)
      | ((with_reducible refine wpList_newfields ?hg1 ?ho1 ?hg2 (.tmp 6) (.tmp 22) ?ho2 ?hx (LV.new row (kdV (wat ws 0))) SlV.nil SlV.nil SlV.nil SlV.nil ?hy ?_); (case hg1 => rfl); (case ho1 => rfl); (case hg2 => rfl); (case ho2 => rfl); (case hx => rfl); (case hy => rfl); intro w9 bx9 bl9 lt9; rw [rd_sz] at bx9 bl9 lt9; have hb9 : b < w9.heap.size := (by omega); have W9 := Lib.hid (show Below w.heap.size w w9 from (below_box2 w _).trans (bl9.mono (by omega))))
      | (go_at_call 16; (with_reducible refine (tk_any _ n c ws _ (H.out.below W9.out)).mono ?_); rintro e w1 ⟨rfl, rfl⟩)
      | (go_at_call 15; (with_reducible refine (parts_any (kdV (wat ws 0)) _ _ _ (bx9.cell 1 (by omega))).mono ?_); rintro e w1 ⟨PA, pn, pc, rfl, hps, hb1, hpa⟩; have PN := (show pn = m from hps.1.symm.trans HM.out); subst PN; have Z1 := Lib.hid (show BoxF w1 w.heap.size 17 (lc LV.zero SlV.nil SlV.nil SlV.nil SlV.nil) from ((zero_box w 30).below (by omega) (by rw [rd_sz]; exact bl9)).below (by omega) hb1); have B1 := Lib.hid (show Below w.heap.size w w1 from W9.out.trans (hb1.mono W9.out.size)))
      | ((with_reducible refine wpList_line ?hg (.tmp 4) (.tmp 37) ?ho w.heap.size ?hx LV.zero SlV.nil SlV.nil SlV.nil SlV.nil ?hy (lc LV.zero SlV.nil SlV.nil SlV.nil SlV.nil) Z1.out ?_); (case hg => rfl); (case ho => rfl); (case hx => rfl); (case hy => rfl); intro w8 b8 e8))
    exact bodyPost_ret (cread_results _ _ w.heap.size 22 LV.zero SlV.nil SlV.nil SlV.nil SlV.nil rfl rfl b8) rfl (got_zero (Below.ex B1.out e8 (Nat.le_refl _) B1.out.size))
  · have dm : ((m : Int) == 0) = false := by rw [beq_eq_false_iff_ne]; omega
    have dn : ((n : Int) != 1 + (m : Int)) = true := by
      rcases hno with e | e
      · rw [e] at hm; exact absurd hm.symm m0
      · rw [hm] at e; simp; omega
    clear h hf hc hno hm m0
    go_enter Tryz.func7, Tryz.ntmps7
    go_wp2_with (first
      | (go_at_call 14; (with_reducible refine (ckind_any (wat ws 0) _ (HF.out.below (below_box2 _ _))).mono ?_); rintro e w1 ⟨rfl, rfl⟩)
      | ((with_reducible refine wpList_newfields ?hg1 ?ho1 ?hg2 (.tmp 6) (.tmp 22) ?ho2 ?hx (LV.new row (kdV (wat ws 0))) SlV.nil SlV.nil SlV.nil SlV.nil ?hy ?_); (case hg1 => rfl); (case ho1 => rfl); (case hg2 => rfl); (case ho2 => rfl); (case hx => rfl); (case hy => rfl); intro w9 bx9 bl9 lt9; rw [rd_sz] at bx9 bl9 lt9; have hb9 : b < w9.heap.size := (by omega); have W9 := Lib.hid (show Below w.heap.size w w9 from (below_box2 w _).trans (bl9.mono (by omega))))
      | (go_at_call 16; (with_reducible refine (tk_any _ n c ws _ (H.out.below W9.out)).mono ?_); rintro e w1 ⟨rfl, rfl⟩)
      | (go_at_call 15; (with_reducible refine (parts_any (kdV (wat ws 0)) _ _ _ (bx9.cell 1 (by omega))).mono ?_); rintro e w1 ⟨PA, pn, pc, rfl, hps, hb1, hpa⟩; have PN := (show pn = m from hps.1.symm.trans HM.out); subst PN; have Z1 := Lib.hid (show BoxF w1 w.heap.size 17 (lc LV.zero SlV.nil SlV.nil SlV.nil SlV.nil) from ((zero_box w 30).below (by omega) (by rw [rd_sz]; exact bl9)).below (by omega) hb1); have B1 := Lib.hid (show Below w.heap.size w w1 from W9.out.trans (hb1.mono W9.out.size)))
      | ((with_reducible refine wpList_line ?hg (.tmp 4) (.tmp 37) ?ho w.heap.size ?hx LV.zero SlV.nil SlV.nil SlV.nil SlV.nil ?hy (lc LV.zero SlV.nil SlV.nil SlV.nil SlV.nil) Z1.out ?_); (case hg => rfl); (case ho => rfl); (case hx => rfl); (case hy => rfl); intro w8 b8 e8))
    exact bodyPost_ret (cread_results _ _ w.heap.size 22 LV.zero SlV.nil SlV.nil SlV.nil SlV.nil rfl rfl b8) rfl (got_zero (Below.ex B1.out e8 (Nat.le_refl _) B1.out.size))
end Go.Proofs.YtpbomfhlghljdaaGreatDoor
