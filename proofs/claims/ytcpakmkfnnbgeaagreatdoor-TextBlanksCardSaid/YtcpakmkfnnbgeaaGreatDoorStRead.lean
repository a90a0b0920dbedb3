/- The contract of palingref11.Read, the words gone through. -/
import Derived.Test.YtcpakmkfnnbgeaaGreatDoorStRes
import Derived.Test.YtcpakmkfnnbgeaaGreatDoorStPut
namespace Go.Proofs.YtcpakmkfnnbgeaaGreatDoor
open Go.RowKit

set_option maxRecDepth 100000 in
set_option maxHeartbeats 4000000 in
theorem rread_run (A : Option Addr) (n c : Nat) (ws : List (List UInt8)) (row : Int) (w : World) (h : SSl w A n c ws) (hs : ∀ p ∈ ws, p.length ≤ 1000000) (f : ¬ fmV ws = []) (f2 : n = (fmV ws).length + 1)
    (KV : Int) (hKV : kdV (wat ws 0) = KV) (RR : Int × LV) (hRR : runS (fmV ws) (ws.drop 1) 0 (LV.new row KV) = RR) (EV : Int) (hEV : (if RR.1 = 0 then (if RR.2.kind = 2 ∧ mbB RR.2 = false then 21 else 0) else RR.1) = EV) :
    Calls Tryz.prog 19 #[.slice A n c, .int .i64 row] w (GotLine w (if EV = 0 then RR.2 else LV.zero) EV) := by
  obtain ⟨M, hM⟩ : ∃ M, (if EV = 0 then RR.2 else LV.zero) = M := ⟨_, rfl⟩
  rw [hM]
  have HM := Lib.hid hM
  clear hM
  have hle := h.le
  have hcap := h.cap
  have hlen := h.len
  have H := Lib.hid h
  obtain ⟨b, off, rfl, hb, hc⟩ := h.at_ (by omega)
  have HC := Lib.hid hc
  have c0 : w.cell? ⟨b, off, none⟩ = some (.string (str (wat ws 0))) := hc 0 (by omega)
  have CF := Lib.hid (fun w h => form_any (some ⟨b, off, none⟩) n c ws w h)
  have CK := Lib.hid (fun w => kind_any (wat ws 0) w)
  have LT := Lib.hid (fm_lt ws)
  have HS := Lib.hid hs
  rw [hKV] at CK
  have d1 : (fmV ws == ([] : List UInt8)) = false := by simpa using f
  have d2 : ((n : Int) != ((fmV ws).length : Int) + 1) = false := by simp; omega
  have hF : (fmV ws).length + 1 = n := f2.symm
  have j0 : (0 : Int) < (n : Int) := by omega
  have hRRh := Lib.hid hRR
  have hEVh := Lib.hid hEV
  have RA := Lib.hid (fun (k kn : Nat) (L : LV) (hk : k < (fmV ws).length) => runS_at (f := fmV ws) (ws := ws) (i := k) (kn := kn) (L := L) hk (by omega))
  generalize fmV ws = F at *
  generalize wat ws 0 = w0 at *
  clear h hc hs f f2 hKV hRR hEV
  have ZB := Lib.hid (zero_box w 38)
  go_enter Tryz.func19, Tryz.ntmps19
  go_wp2_with (first
    | (go_at_call 26; (with_reducible refine (CF.out _ (H.out.alloc _)).mono ?_); rintro e w1 ⟨rfl, rfl⟩)
    | (go_at_call 27; (with_reducible refine (CK.out _).mono ?_); rintro e w2 ⟨rfl, hb2⟩; have B2 := Lib.hid hb2; clear hb2))
  have hz0 := Lib.hid (show w.heap.size < w2.heap.size from Nat.lt_of_lt_of_le (by simp) B2.out.size)
  have LB := Lib.hid (show LBox (w2.alloc (.cells #[.int .i64 row, .int .i64 KV, .string ⟨#[]⟩, .string ⟨#[]⟩, .string ⟨#[]⟩, .string ⟨#[]⟩, .string ⟨#[]⟩, .int .u64 0, .int .u32 0, .int .i64 0, .int .i64 0, .int .i64 0, .int .i64 0, .slice none 0 0, .slice none 0 0, .slice none 0 0, .slice none 0 0] 38)) w2.heap.size (LV.new row KV) SlV.nil SlV.nil SlV.nil SlV.nil from ⟨new_box w2 row KV _, FSl.nil, FSl.nil, FSl.nil, FSl.nil⟩)
  have WB := Lib.hid (show Below w2.heap.size w2 (w2.alloc (.cells #[.int .i64 row, .int .i64 KV, .string ⟨#[]⟩, .string ⟨#[]⟩, .string ⟨#[]⟩, .string ⟨#[]⟩, .string ⟨#[]⟩, .int .u64 0, .int .u32 0, .int .i64 0, .int .i64 0, .int .i64 0, .int .i64 0, .slice none 0 0, .slice none 0 0, .slice none 0 0, .slice none 0 0] 38)) from (Below.refl _ _).alloc (Nat.le_refl _) _)
  generalize w2.alloc (.cells #[.int .i64 row, .int .i64 KV, .string ⟨#[]⟩, .string ⟨#[]⟩, .string ⟨#[]⟩, .string ⟨#[]⟩, .string ⟨#[]⟩, .int .u64 0, .int .u32 0, .int .i64 0, .int .i64 0, .int .i64 0, .int .i64 0, .slice none 0 0, .slice none 0 0, .slice none 0 0, .slice none 0 0] 38) = W3 at *
  have B3 := Lib.hid (trans_below B2.out WB.out)
  have ZB3 := Lib.hid (ZB.out.below (by omega) B3.out)
  have BW := Lib.hid (one_below B3.out)
  have S3 := Lib.hid (fun j hj => (BW.out.cell (p := ⟨b, off + j, none⟩) hb).trans (HC.out j hj))
  have hq3 := Lib.hid (LB.out.lt)
  go_loopw [8, 9] (fun nm i wr => ∃ (k kn : Nat) (L : LV) (s1 s2 s3 s4 : SlV), k ≤ F.length ∧ i = .int .i64 (k : Int) ∧ nm = .int .i64 (kn : Int) ∧ kn ≤ k ∧ LBox wr w2.heap.size L s1 s2 s3 s4 ∧ Ex w2.heap.size W3 wr ∧ runS (F.drop k) (ws.drop (k + 1)) kn L = RR) (fun _ i _ => F.length - (intOf i).toNat)
  case atStart => exact ⟨0, 0, _, _, _, _, _, by omega, rfl, rfl, by omega, LB.out, Ex.refl _ _, hRRh.out⟩
  case round =>
    obtain ⟨k, kn, L, s1, s2, s3, s4, hk, rfl, rfl, hkn, hlb, hex, hrun⟩ := hrel
    have HR := Lib.hid hrun
    have HB := Lib.hid hlb
    have HX := Lib.hid hex
    clear hrun
    by_cases hlt : k < F.length
    · have hmem : F.getD k 0 ∈ F := by
        simp [List.getD, List.getElem?_eq_getElem hlt]
      have hl5 := LT.out _ hmem
      have hk1 : k + 1 < ws.length := by omega
      have hsl : (wat ws (k + 1)).length ≤ 1000000 := HS.out _ (by
        unfold wat
        simp [List.getD, List.getElem?_eq_getElem hk1])
      have hX : sb (str F) k = ((F.getD k 0).toNat : Int) := by simp [sb]
      have hb3 : b < W3.heap.size := Nat.lt_of_lt_of_le hb BW.out.size
      have hne : b ≠ w2.heap.size := by have := hz0.out; omega
      have cW : wr.cell? ⟨b, off + (k + 1), none⟩ = some (.string (str (wat ws (k + 1)))) := (HX.out.cell (off + (k + 1)) hb3 hne).trans (S3.out (k + 1) (by omega))
      have HK := Lib.hid (HR.out.symm.trans (RA.out k kn L hlt))
      have CW := Lib.hid (fun w h => rword_any (F.getD k 0) hl5 (sb (str F) k) hX (wat ws (k + 1)) (kn : Int) (by omega) w2.heap.size L s1 s2 s3 s4 w h hsl)
      rw [Int.toNat_natCast] at CW
      have IX := run_index_sb (str F) k k rfl (by rw [str_size]; exact hlt)
      have n78 : (sb (str F) k == 78) = decide (F.getD k 0 = 78) := by
        rw [hX]
        by_cases g : F.getD k 0 = 78
        · rw [g]; rfl
        · rw [decide_eq_false g]
          have : ¬ ((F.getD k 0).toNat : Int) = 78 := fun e => g (UInt8.toNat_inj.1 (by show _ = 78; omega))
          simpa using this
      have lim : (k : Int) + 1 < (n : Int) := by omega
      have lim2 : (k : Int) < (F.length : Int) := by omega
      have lim3 : (k : Int) < ((str F).size : Int) := by rw [str_size]; omega
      have wk : IntKind.i64.wrap ((k : Int) + 1) = (k : Int) + 1 := IntWalk.i64_in _ (by omega)
      have lo1 : (0 : Int) ≤ (k : Int) + 1 := by omega
      have lo2 : (0 : Int) ≤ (k : Int) := by omega
      have lo3 : ((k : Int) + 1).toNat = k + 1 := by omega
      have lo4 : (0 : Int) ≤ (k : Int) + 1 ∧ (k : Int) + 1 < (n : Int) := by omega
      have nlim : (n : Int) ≤ 9223372036854775807 := by omega
      have kn2 : (kn : Int) + 1 ≤ 9223372036854775807 := by omega
      generalize wat ws (k + 1) = x at *
      generalize wdE (F.getD k 0) x = E at *
      generalize wdL (F.getD k 0) x kn L = L2 at *
      generalize hN : decide (F.getD k 0 = 78) = N78 at n78
      have HN := Lib.hid hN
      generalize sb (str F) k = X at *
      have hq0 : w2.heap.size < wr.heap.size := HB.out.lt
      have HBd := Lib.hid (show LBox wr.drew w2.heap.size L s1 s2 s3 s4 from HB.out.drewN 1)
      have cWd : wr.drew.cell? ⟨b, off + (k + 1), none⟩ = some (.string (str x)) := cW
      have hbr : b < wr.heap.size := Nat.lt_of_lt_of_le hb3 HX.out.size
      have HBR := Lib.hid hbr
      have HNE := Lib.hid hne
      have HLT := Lib.hid hlt
      have HKN := Lib.hid hkn
      have HKK := Lib.hid hk
      have CWh := Lib.hid cW
      clear hlb hex hmem hl5 hX hN hsl hcap hle hlen j0 hF d1 d2 c0 hk hkn hk1 hb hb3 hbr hne hq0 hlt
      by_cases hE : E = 0
      · have K2 := Lib.hid (HK.out.trans (if_pos hE))
        clear HK
        subst hE
        cases N78
        · have K3 := Lib.hid (show runS (F.drop (k + 1)) (ws.drop (k + 1 + 1)) kn L2 = RR by have := K2.out; rw [if_neg (of_decide_eq_false HN.out)] at this; exact this.symm)
          go_wp2
          go_region_held_law (fun w' => w'.cell? ⟨b, off + (k + 1), none⟩ = some (.string (str x))) (first | exact cW5 | exact cWd | exact cW | fail)
            (first | (go_at_call 28; (with_reducible refine (CW.out _ HBd.out).mono ?_); rintro e w5 ⟨rfl, hl5, hx5⟩; have X5 := Lib.hid (HX.out.trans ((Ex.refl _ wr).drewN 1 |>.trans hx5)); have cW5 : w5.cell? ⟨b, off + (k + 1), none⟩ = some (.string (str x)) := (hx5.cell (off + (k + 1)) HBR.out HNE.out).trans CWh.out; have L5 := Lib.hid hl5; clear hl5 hx5))
          obtain ⟨L', t1, t2, t3, t4, hL, hEq⟩ := L5.out
          obtain rfl : L' = L2 := by first | exact hEq rfl | exact hEq trivial
          have HL := Lib.hid hL
          clear hL hEq
          go_wp2
          go_roundw
          case rel => exact ⟨k + 1, kn, L', t1, t2, t3, t4, by have := HLT.out; omega, by go_num, rfl, by have := HKN.out; omega, HL.out, X5.out, K3.out⟩
          case measure => have := HLT.out; simp [intOf]; omega
        · have K3 := Lib.hid (show runS (F.drop (k + 1)) (ws.drop (k + 1 + 1)) (kn + 1) L2 = RR by have := K2.out; rw [if_pos (of_decide_eq_true HN.out)] at this; exact this.symm)
          go_wp2
          go_region_held_law (fun w' => w'.cell? ⟨b, off + (k + 1), none⟩ = some (.string (str x))) (first | exact cW5 | exact cWd | exact cW | fail)
            (first | (go_at_call 28; (with_reducible refine (CW.out _ HBd.out).mono ?_); rintro e w5 ⟨rfl, hl5, hx5⟩; have X5 := Lib.hid (HX.out.trans ((Ex.refl _ wr).drewN 1 |>.trans hx5)); have cW5 : w5.cell? ⟨b, off + (k + 1), none⟩ = some (.string (str x)) := (hx5.cell (off + (k + 1)) HBR.out HNE.out).trans CWh.out; have L5 := Lib.hid hl5; clear hl5 hx5))
          obtain ⟨L', t1, t2, t3, t4, hL, hEq⟩ := L5.out
          obtain rfl : L' = L2 := by first | exact hEq rfl | exact hEq trivial
          have HL := Lib.hid hL
          clear hL hEq
          go_wp2
          go_roundw
          case rel => exact ⟨k + 1, kn + 1, L', t1, t2, t3, t4, by have := HLT.out; omega, by go_num, by go_num, by have := HKN.out; omega, HL.out, X5.out, K3.out⟩
          case measure => have := HLT.out; simp [intOf]; omega
      · have hR : RR = (E, L) := HK.out.trans (if_neg hE)
        have hEE : EV = E := by rw [← hEVh.out, hR]; show (if E = 0 then _ else E) = E; rw [if_neg hE]
        have hMM : M = LV.zero := by rw [← HM.out, hEE, if_neg hE]
        clear hR HK n78
        have EE := Lib.hid hEE
        have MM := Lib.hid hMM
        clear hEE hMM
        go_wp2
        go_region_held_law (fun w' => w'.cell? ⟨b, off + (k + 1), none⟩ = some (.string (str x))) (first | exact cW5 | exact cWd | exact cW | fail)
          (first | (go_at_call 28; (with_reducible refine (CW.out _ HBd.out).mono ?_); rintro e w5 ⟨rfl, hl5, hx5⟩; have X5 := Lib.hid (HX.out.trans ((Ex.refl _ wr).drewN 1 |>.trans hx5)); have cW5 : w5.cell? ⟨b, off + (k + 1), none⟩ = some (.string (str x)) := (hx5.cell (off + (k + 1)) HBR.out HNE.out).trans CWh.out; have L5 := Lib.hid hl5; clear hl5 hx5))
        have ZB5 := Lib.hid (ZB3.out.ex (by omega) X5.out (by have := hz0.out; omega))
        clear lim lim2 lim3 lo1 lo2 lo3 lo4 nlim wk kn2 IX cW cWd
        have hzz := hz0.out
        go_wp2_with (refine wpList_line rfl (.tmp 4) (.tmp 79) rfl w.heap.size (by rfl) LV.zero SlV.nil SlV.nil SlV.nil SlV.nil (by rfl) _ ZB5.out ?_; intro w9 hbx9 hex9; have RB := Lib.hid hbx9; have BB := Below.ex BW.out X5.out (Nat.le_of_lt hzz) BW.out.size; have QB := Lib.hid (Below.ex BB hex9 (Nat.le_refl _) BB.size); clear hbx9 hex9 BB)
        exact bodyPost_ret (read_results _ _ w.heap.size E LV.zero SlV.nil SlV.nil SlV.nil SlV.nil rfl rfl RB.out) rfl ⟨SlV.nil, SlV.nil, SlV.nil, SlV.nil, by rw [MM.out, EE.out], by rw [MM.out]; exact LRead.zero, LNew.nil _, QB.out⟩
    · obtain rfl : k = F.length := by omega
      have hR : RR = (0, L) := by rw [← HR.out]; exact runS_end (Nat.le_refl _)
      have hz1 := hz0.out
      have hzz := hz0.out
      have EV0 : (if L.kind = 2 ∧ mbB L = false then (21 : Int) else 0) = EV := by rw [← hEVh.out, hR]; rfl
      have M0 : (if EV = 0 then L else LV.zero) = M := by rw [← HM.out, hR]
      have HT := Lib.hid HB.out.2.1.1
      obtain ⟨z0, z1, z2, z3, z4, z5, z6, z7, z8, z9, z10, z11, z12, z13, z14, z15, z16⟩ := HB.out.cells
      have zf := HB.out.frozen
      have zl := HB.out.lt
      have fsz : (F.length : Int) < ((str F).size : Int) + 1 := by rw [str_size]; omega
      clear hR hlb hex hcap hle hlen j0 hF d1 d2 c0 hk hkn hlt
      by_cases k2 : L.kind = 2
      · have CM := Lib.hid (fun w h => members_any L s1 s2 s3 s4 w h)
        cases hm : mbB L
        · have EE := Lib.hid (show EV = 21 by rw [← EV0, if_pos ⟨k2, hm⟩])
          have MM := Lib.hid (show M = LV.zero by rw [← M0, EE.out]; rfl)
          rw [hm] at CM
          clear EV0 M0 hm
          rw [k2] at z1
          unfold lineV at CM
          rw [k2] at CM
          clear k2
          go_wp2_with (first | (go_at_call 29; (with_reducible refine (CM.out _ HT.out).mono ?_); rintro e w5 ⟨rfl, hb5⟩; have XW := Lib.hid (HX.out.trans (Ex.of_below hb5)); have LW := Lib.hid (HB.out.below hb5); clear hb5 z0 z1 z2 z3 z4 z5 z6 z7 z8 z9 z10 z11 z12 z13 z14 z15 z16 zf zl; have ZB5 := Lib.hid (ZB3.out.ex (by omega) XW.out (by omega))) | (refine wpList_line rfl (.tmp 4) (.tmp 95) rfl w.heap.size (by rfl) LV.zero SlV.nil SlV.nil SlV.nil SlV.nil (by rfl) _ ZB5.out ?_; intro w9 hbx9 hex9; have RB := Lib.hid hbx9; have BB := Below.ex BW.out XW.out (Nat.le_of_lt hzz) BW.out.size; have QB := Lib.hid (Below.ex BB hex9 (Nat.le_refl _) BB.size); clear hbx9 hex9 BB))
          exact bodyPost_ret (read_results _ _ w.heap.size 21 LV.zero SlV.nil SlV.nil SlV.nil SlV.nil rfl rfl RB.out) rfl ⟨SlV.nil, SlV.nil, SlV.nil, SlV.nil, by rw [MM.out, EE.out], by rw [MM.out]; exact LRead.zero, LNew.nil _, QB.out⟩
        · have EE := Lib.hid (show EV = 0 by rw [← EV0, if_neg (fun g => by rw [hm] at g; cases g.2)])
          have MM := Lib.hid (show M = L by rw [← M0, EE.out]; rfl)
          rw [hm] at CM
          clear EV0 M0 hm
          rw [k2] at z1
          unfold lineV at CM
          rw [k2] at CM
          clear k2
          go_wp2_with (first | (go_at_call 29; (with_reducible refine (CM.out _ HT.out).mono ?_); rintro e w5 ⟨rfl, hb5⟩; have XW := Lib.hid (HX.out.trans (Ex.of_below hb5)); have LW := Lib.hid (HB.out.below hb5); clear hb5 z0 z1 z2 z3 z4 z5 z6 z7 z8 z9 z10 z11 z12 z13 z14 z15 z16 zf zl; have ZB5 := Lib.hid (ZB3.out.ex (by omega) XW.out (by omega))) | (refine wpList_lineOf rfl (.tmp 7) rfl w2.heap.size (by rfl) L s1 s2 s3 s4 LW.out.1 ?_) | (refine wpList_line rfl (.tmp 4) (.tmp 96) rfl w.heap.size (by rfl) L s1 s2 s3 s4 (by rfl) _ ZB5.out ?_; intro w9 hbx9 hex9; have RB := Lib.hid hbx9; have BB := Below.ex BW.out XW.out (Nat.le_of_lt hzz) BW.out.size; have QB := Lib.hid (Below.ex BB hex9 (Nat.le_refl _) BB.size); have LR := Lib.hid (LRead.ex LW.out hex9 hzz); clear hbx9 hex9 BB))
          exact bodyPost_ret (read_results _ _ w.heap.size 0 L s1 s2 s3 s4 rfl rfl RB.out) rfl ⟨s1, s2, s3, s4, by rw [MM.out, EE.out], by rw [MM.out]; exact LR.out, LW.out.new (Nat.le_of_lt hz1), QB.out⟩
      · have EE := Lib.hid (show EV = 0 by rw [← EV0, if_neg (fun g => k2 g.1)])
        have MM := Lib.hid (show M = L by rw [← M0, EE.out]; rfl)
        have XW := Lib.hid HX.out
        have LW := Lib.hid HB.out
        have ZB5 := Lib.hid (ZB3.out.ex (by omega) XW.out (by omega))
        have kk : (L.kind == 2) = false := by simpa using k2
        clear EV0 M0 k2
        go_wp2_with (first | (refine wpList_lineOf rfl (.tmp 7) rfl w2.heap.size (by rfl) L s1 s2 s3 s4 LW.out.1 ?_) | (refine wpList_line rfl (.tmp 4) (.tmp 96) rfl w.heap.size (by rfl) L s1 s2 s3 s4 (by rfl) _ ZB5.out ?_; intro w9 hbx9 hex9; have RB := Lib.hid hbx9; have BB := Below.ex BW.out XW.out (Nat.le_of_lt hzz) BW.out.size; have QB := Lib.hid (Below.ex BB hex9 (Nat.le_refl _) BB.size); have LR := Lib.hid (LRead.ex LW.out hex9 hzz); clear hbx9 hex9 BB))
        exact bodyPost_ret (read_results _ _ w.heap.size 0 L s1 s2 s3 s4 rfl rfl RB.out) rfl ⟨s1, s2, s3, s4, by rw [MM.out, EE.out], by rw [MM.out]; exact LR.out, LW.out.new (Nat.le_of_lt hz1), QB.out⟩
end Go.Proofs.YtcpakmkfnnbgeaaGreatDoor

