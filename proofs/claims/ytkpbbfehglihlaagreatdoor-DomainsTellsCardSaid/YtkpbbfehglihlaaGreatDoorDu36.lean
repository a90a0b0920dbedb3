/- XDoRef; XNtInts; XDoTells; XWf -/
import Derived.Test.YtkpbbfehglihlaaGreatDoorDu24
import Derived.Test.YtkpbbfehglihlaaGreatDoorDu31
import Derived.Test.YtkpbbfehglihlaaGreatDoorDu17
import Derived.Test.YtkpbbfehglihlaaGreatDoorDu34
import Derived.Test.YtkpbbfehglihlaaGreatDoorDu33
import Derived.Test.YtkpbbfehglihlaaGreatDoorDu23
import Derived.Test.YtkpbbfehglihlaaGreatDoorDu25
import Derived.Test.YtkpbbfehglihlaaGreatDoorDu15
import Derived.Test.YtkpbbfehglihlaaGreatDoorDu12
import Derived.Test.YtkpbbfehglihlaaGreatDoorDu26
import Derived.Test.YtkpbbfehglihlaaGreatDoorDu03
import Derived.Test.YtkpbbfehglihlaaGreatDoorDu05
import Derived.Test.YtkpbbfehglihlaaGreatDoorDu35
import Derived.Deep.CutBlock
import Derived.Deep.DeepCutAuto
import Derived.Deep.RegionHeldLaw
import Derived.Test.YtkpbbfehglihlaaGreatDoorRows
/- palingref18.Lookup, Static, Hosts, Text; palingref15.Members. (Made by mk-doref.py.) -/
namespace Go.Proofs.YtkpbbfehglihlaaGreatDoor
open Go.RowKit

set_option maxRecDepth 20000 in
set_option maxHeartbeats 2000000 in
theorem rlook_any (N : NV) (S : NSl3) (d m : Int) (w : World) (h : NRead w (allB w) N S) : Calls Tryz.prog 16 #[netV S, .int .i64 d, .int .u64 m] w fun e w' => e = .returned (.int .i64 (lkF N d m)) ∧ Below w.heap.size w w' := by
  have H := Lib.hid h.st
  have hle := h.st.le
  have hcap := h.st.cap
  have HL := Lib.hid h.st.len
  have E := Lib.hid (show lkF N d m = stK (N.statics.drop 0) d m from rfl)
  generalize lkF N d m = V at *
  have NB := Lib.hid (NBox.new w S 31)
  clear h
  unfold netV
  go_enter Tryz.func16, Tryz.ntmps16
  go_wp2
  obtain ⟨w1, hw1⟩ : ∃ w1, w.alloc (.cells (nA S) 31) = w1 := ⟨_, rfl⟩
  have B1 := Lib.hid (show Below w.heap.size w w1 by rw [← hw1]; exact (Below.refl _ _).alloc (Nat.le_refl _) _)
  rw [hw1] at NB ⊢
  clear hw1
  have c3 := NB.out.c4
  go_loopw [7] (fun i wr => ∃ k : Nat, i = .int .i64 k ∧ k ≤ S.st.n ∧ wr = w1 ∧ V = stK (N.statics.drop k) d m) (fun i _ => match i with | .int _ y => (S.st.n - y).toNat | _ => 0)
  case atStart => exact ⟨0, rfl, by omega, rfl, E.out⟩
  case round =>
    obtain ⟨k, rfl, hk, hwr, hv⟩ := hrel
    subst hwr
    have HV := Lib.hid hv
    clear hv
    by_cases hlt : k < S.st.n
    · obtain ⟨b0, o0, vs, e0, _, hb0, hvs, r0⟩ := rsl_at H.out k hlt StatV.zero
      have hvs : vs = statC (N.statics.getD k StatV.zero) := hvs
      subst hvs
      have hk2 : k < N.statics.length := by rw [HL.out]; exact hlt
      have AT := Lib.hid (stK_at hk2 d m)
      generalize N.statics.getD k StatV.zero = D at *
      have R1 := rangeAt_keep r0 (B1.out.block b0 hb0)
      have d1 := R1 1 _ rfl
      have d2 := R1 2 _ rfl
      have d3 := R1 3 _ rfl
      rw [show o0 + k * statR.n = o0 + k * 4 from rfl] at d1 d2 d3
      have lt2 : (k : Int) < (S.st.n : Int) := by omega
      rw [e0] at c3 ⊢
      clear r0 R1 hk2
      by_cases ha : D.dom = d
      · have x1 : (D.dom == d) = true := by simpa using ha
        by_cases hb : D.mac = m
        · have x2 : (D.mac == m) = true := by simpa using hb
          have EV := Lib.hid (show V = D.port by rw [HV.out, AT.out, if_pos ⟨ha, hb⟩])
          clear ha hb
          go_wp2
          go_ret
          exact ⟨by rw [EV.out]; rfl, B1.out⟩
        have x2 : (D.mac == m) = false := by simpa using hb
        have EV := Lib.hid (show V = stK (N.statics.drop (k + 1)) d m by rw [HV.out, AT.out, if_neg (fun e => hb e.2)])
        clear ha hb
        go_wp2
        go_roundw
        case rel => exact ⟨k + 1, by simp, by omega, (by first | rfl | trivial), EV.out⟩
        case measure => simp only []; omega
      have x1 : (D.dom == d) = false := by simpa using ha
      have EV := Lib.hid (show V = stK (N.statics.drop (k + 1)) d m by rw [HV.out, AT.out, if_neg (fun e => ha e.1)])
      clear ha
      go_wp2
      go_roundw
      case rel => exact ⟨k + 1, by simp, by omega, (by first | rfl | trivial), EV.out⟩
      case measure => simp only []; omega
    · have lt2 : ¬ (k : Int) < (S.st.n : Int) := by omega
      have EV := Lib.hid (show V = -1 by rw [HV.out, List.drop_of_length_le (by rw [HL.out]; omega)]; rfl)
      go_wp2
      go_ret
      exact ⟨by rw [EV.out]; rfl, B1.out⟩
set_option maxRecDepth 20000 in
set_option maxHeartbeats 8000000 in
theorem rmembers_any (N : NV) (S : NSl3) (d : Int) (w : World) (h : NRead w (allB w) N S) (hs : NvSz N) : Calls Tryz.prog 47 #[netV S, .int .i64 d] w (GotIs (mmL N d) w) := by
  have HD := Lib.hid h.dm
  have HP := Lib.hid h.pt
  have hle := h.dm.le
  have hcap := h.dm.cap
  have hle2 := h.pt.le
  have hcap2 := h.pt.cap
  have dml := h.dm.len
  have ptl := h.pt.len
  have zpt := hs.zpt
  rw [ptl] at zpt
  have PLC := Lib.hid (fun w' => rplace_any d (S.dm.n : Int) w')
  obtain ⟨va, ha⟩ : ∃ v, plB d (S.dm.n : Int) = v := ⟨_, rfl⟩
  have LL := show mmL N d = if va = true then mmK N (N.domains.getD d.toNat DomV.zero) S.pt.n else [] by unfold mmL mmK; rw [dml, ha, ptl]
  rw [ha] at PLC
  have HA := Lib.hid ha
  generalize mmL N d = L at *
  replace LL := Lib.hid LL
  have NB := Lib.hid (NBox.new w S 31)
  clear h hs dml ha
  unfold netV
  go_enter Tryz.func47, Tryz.ntmps47
  go_upto_region 1 with fail
  obtain ⟨w1, hw1⟩ : ∃ w1, w.alloc (.cells (nA S) 31) = w1 := ⟨_, rfl⟩
  have B1 := Lib.hid (show Below w.heap.size w w1 by rw [← hw1]; exact alloc_below _ _)
  rw [hw1] at NB ⊢
  clear hw1
  obtain ⟨f0, f1, f2, f3, f4, f5, f6, f7, ql⟩ := NB.out
  cases va with
  | false =>
    have E := Lib.hid (show L = [] by rw [LL.out]; rfl)
    go_wp2_with ((go_at_call 48; (with_reducible refine (PLC.out _).mono ?_); rintro e wp ⟨rfl, hwp⟩; subst hwp))
    go_ret
    exact ⟨none, 0, 0, rfl, by rw [E.out]; exact RSl.nil, B1.out⟩
  | true =>
  obtain ⟨a1, a2⟩ := (plB_iff _ _).1 HA.out
  obtain ⟨x, hx⟩ := Int.eq_ofNat_of_zero_le a1
  subst hx
  have hxl : x < S.dm.n := by omega
  have lx : (x : Int) < (S.dm.n : Int) := by omega
  obtain ⟨bd, od, vd, ed, _, hbd, ⟨t, rfl, _⟩, rd⟩ := rsl_at HD.out x hxl DomV.zero
  have LE := Lib.hid (show L = mmK N (N.domains.getD x DomV.zero) S.pt.n by rw [LL.out, if_pos rfl]; rfl)
  clear LL
  generalize N.domains.getD x DomV.zero = D at *
  have RD := rangeAt_keep rd (B1.out.block bd hbd)
  have p0 := RD 0 _ rfl
  have p1 := RD 1 _ rfl
  have p2 := RD 2 _ rfl
  have p3 := RD 3 _ rfl
  have p4 := RD 4 _ rfl
  have p5 := RD 5 _ rfl
  simp only [Nat.add_zero] at p0
  rw [show od + x * domR.n = od + x * 6 from rfl] at p0 p1 p2 p3 p4 p5
  rw [ed] at f3
  clear rd RD a1 a2 HA ed
  go_upto_region 5 with ((go_at_call 48; (with_reducible refine (PLC.out _).mono ?_); rintro e wp ⟨rfl, hwp⟩; subst hwp))
  obtain ⟨W, hW⟩ : ∃ W, w1.alloc (.cells #[.int .i64 D.dev, .int .i64 D.vlan, .int .i64 D.vni, .int .i64 D.irb, .int .i64 D.row, .slice t.A t.n t.c] 63) = W := ⟨_, rfl⟩
  have C3 := Lib.hid (show Cs W w1.heap.size [.int .i64 D.dev, .int .i64 D.vlan, .int .i64 D.vni, .int .i64 D.irb, .int .i64 D.row, .slice t.A t.n t.c] by rw [← hW]; exact Cs.new _ [.int .i64 D.dev, .int .i64 D.vlan, .int .i64 D.vni, .int .i64 D.irb, .int .i64 D.row, .slice t.A t.n t.c] _)
  have Y3 := Lib.hid (show Below w1.heap.size w1 W by rw [← hW]; exact alloc_below _ _)
  have B0 := Lib.hid (trans_below B1.out Y3.out)
  rw [hW]
  clear hW p0 p1 p2 p3 p4 p5 f0 f1 f2 f3 f4 f5 f6 f7 ql
  go_wp2
  go_loopw [5, 7] (fun l i wr => ∃ k : Nat, i = .int .i64 k ∧ k ≤ S.pt.n ∧ ROwn (Rdr.int .i64) wr W.heap.size 3 l (mmK N D k) ∧ Below W.heap.size W wr) (fun _ i _ => match i with | .int _ y => (S.pt.n - y).toNat | _ => 0)
  case atStart => exact ⟨0, rfl, by omega, ROwn.nil _ _ _, Below.refl _ _⟩
  case round =>
    obtain ⟨k, rfl, hk, hown, hb⟩ := hrel
    have OW := Lib.hid hown
    have YR := Lib.hid hb
    obtain ⟨A, c, hsh⟩ := hown.shape
    subst hsh
    have XB := Lib.hid (trans_below B0.out hb)
    have NBR := (NB.out.below Y3.out).below hb
    clear hown hb
    rename World => w3
    have f1 := NBR.c1
    have ql := NBR.lt
    clear NBR
    by_cases hlt : k < S.pt.n
    rotate_left
    · have lt2 : ¬ (k : Int) < (S.pt.n : Int) := by omega
      obtain rfl : k = S.pt.n := by omega
      go_wp2
      go_ret
      exact ⟨A, _, c, rfl, by rw [LE.out]; exact OW.out.read, XB.out⟩
    have lt2 : (k : Int) < (S.pt.n : Int) := by omega
    obtain ⟨bp, op, vs, ep, _, hbp, ⟨s, rfl, lp⟩, rp⟩ := rsl_at HP.out k hlt PortV.zero
    have MM := mmK_more N D k
    have LN := Lib.hid (mmK_len N D k)
    generalize N.ports.getD k PortV.zero = P at *
    obtain ⟨mb, hmb⟩ : ∃ mb, mbrB P D.vlan = mb := ⟨_, rfl⟩
    rw [hmb] at MM
    have MB := Lib.hid (fun (w' : World) (hb : Below w.heap.size w w') => show Calls Tryz.prog 35 #[.agg #[.int .i64 P.row, .int .i64 P.dev, .int .i64 P.native, .int .i64 P.cost, .int .i64 P.link, .string (str P.name), .slice s.A s.n s.c], .int .i64 D.vlan] w' (fun e w2 => e = .returned (.bool mb) ∧ Below w'.heap.size w' w2) from hmb ▸ rmember_any P s D.vlan w' (allB w') (fun _ h => h) (up_rsl lp hb))
    have EP := Lib.hid ep
    have KR := Lib.hid (show ∀ wx, Below w3.heap.size w3 wx → wx.cell? ⟨w.heap.size, 1, none⟩ = some (.slice (some ⟨bp, op, none⟩) S.pt.n S.pt.c) ∧ (wx.cell? ⟨bp, op + k * 7, none⟩ = some (.int .i64 P.row) ∧ wx.cell? ⟨bp, op + k * 7 + 1, none⟩ = some (.int .i64 P.dev) ∧ wx.cell? ⟨bp, op + k * 7 + 2, none⟩ = some (.int .i64 P.native) ∧ wx.cell? ⟨bp, op + k * 7 + 3, none⟩ = some (.int .i64 P.cost) ∧ wx.cell? ⟨bp, op + k * 7 + 4, none⟩ = some (.int .i64 P.link) ∧ wx.cell? ⟨bp, op + k * 7 + 5, none⟩ = some (.string (str P.name)) ∧ wx.cell? ⟨bp, op + k * 7 + 6, none⟩ = some (.slice s.A s.n s.c)) ∧ wx.cell? ⟨w1.heap.size, 0, none⟩ = some (.int .i64 D.dev) ∧ wx.cell? ⟨w1.heap.size, 1, none⟩ = some (.int .i64 D.vlan) ∧ Below w.heap.size w wx from fun wx hx => by
      have f1 := (((NB.out.below Y3.out).below YR.out).below hx).c1
      rw [EP.out] at f1
      have hb := trans_below XB.out hx
      have r := rangeAt_keep rp (hb.block bp hbp)
      have cc := ((C3.out.below YR.out).below hx).1
      exact ⟨f1, ⟨r 0 _ rfl, r 1 _ rfl, r 2 _ rfl, r 3 _ rfl, r 4 _ rfl, r 5 _ rfl, r 6 _ rfl⟩, cc 0 _ rfl, cc 1 _ rfl, hb⟩)
    clear rp lp hmb
    go_upto_region 8 with fail
    clear f1 ql ep
    by_cases cd : P.dev = D.dev
    rotate_left
    · have x1 : (P.dev == D.dev) = false := by simpa using cd
      rw [decide_eq_false cd] at MM
      have MM := Lib.hid MM
      clear cd
      refine wp_region_text (fun wx => Below w3.heap.size w3 wx) (by kernel_rfl) (by kernel_rfl) ((Below.refl _ _).drew) ?_
      repeat
        first
          | (refine Seq.pass rfl ?_; simp only [Act.put, List.setIfInBounds_toArray, List.set_cons_zero, List.set_cons_succ])
          | (refine Seq.run ?_ rfl (fun wx hx => ?_) ?_
             rotate_left
             · obtain ⟨f1, ⟨p0, p1, p2, p3, p4, p5, p6⟩, c0_, c1_, hBx⟩ := KR.out wx hx
               go_simp
               first
                 | (refine StepRun.val ?_; exact hx)
      
             simp only [Act.put, List.setIfInBounds_toArray, List.set_cons_zero, List.set_cons_succ])
      refine Seq.last (fun w7 h7 => ?_)
      have Y7 := Lib.hid (trans_below YR.out h7)
      have O7 := Lib.hid (OW.out.below h7)
      clear h7
      go_wp2
      go_roundw
      case rel => exact ⟨k + 1, by simp, by omega, by rw [MM.out]; simpa using O7.out, Y7.out⟩
      case measure => simp only []; omega
    have x1 : (P.dev == D.dev) = true := by simpa using cd
    rw [decide_eq_true cd] at MM
    have MM := Lib.hid MM
    clear cd
    cases mb
    · skip
      refine wp_region_text (fun wx => Below w3.heap.size w3 wx) (by kernel_rfl) (by kernel_rfl) ((Below.refl _ _).drew) ?_
      repeat
        first
          | (refine Seq.pass rfl ?_; simp only [Act.put, List.setIfInBounds_toArray, List.set_cons_zero, List.set_cons_succ])
          | (refine Seq.run ?_ rfl (fun wx hx => ?_) ?_
             rotate_left
             · obtain ⟨f1, ⟨p0, p1, p2, p3, p4, p5, p6⟩, c0_, c1_, hBx⟩ := KR.out wx hx
               go_simp
               first
                 | (refine StepRun.val ?_; exact hx)
                 | (refine StepRun.call (v := .bool false) ?_; (with_reducible refine Calls.mono (MB.out _ hBx) ?_); rintro e w' ⟨rfl, hb⟩; exact ⟨rfl, trans_below hx hb⟩)
             simp only [Act.put, List.setIfInBounds_toArray, List.set_cons_zero, List.set_cons_succ])
      refine Seq.last (fun w7 h7 => ?_)
      have Y7 := Lib.hid (trans_below YR.out h7)
      have O7 := Lib.hid (OW.out.below h7)
      clear h7
      go_wp2
      go_roundw
      case rel => exact ⟨k + 1, by simp, by omega, by rw [MM.out]; simpa using O7.out, Y7.out⟩
      case measure => simp only []; omega
    · skip
      refine wp_region_text (fun wx => Below w3.heap.size w3 wx) (by kernel_rfl) (by kernel_rfl) ((Below.refl _ _).drew) ?_
      repeat
        first
          | (refine Seq.pass rfl ?_; simp only [Act.put, List.setIfInBounds_toArray, List.set_cons_zero, List.set_cons_succ])
          | (refine Seq.run ?_ rfl (fun wx hx => ?_) ?_
             rotate_left
             · obtain ⟨f1, ⟨p0, p1, p2, p3, p4, p5, p6⟩, c0_, c1_, hBx⟩ := KR.out wx hx
               go_simp
               first
                 | (refine StepRun.val ?_; exact hx)
                 | (refine StepRun.call (v := .bool true) ?_; (with_reducible refine Calls.mono (MB.out _ hBx) ?_); rintro e w' ⟨rfl, hb⟩; exact ⟨rfl, trans_below hx hb⟩)
             simp only [Act.put, List.setIfInBounds_toArray, List.set_cons_zero, List.set_cons_succ])
      refine Seq.last (fun w7 h7 => ?_)
      have Y7 := Lib.hid (trans_below YR.out h7)
      have O7 := Lib.hid (OW.out.below h7)
      clear h7
      go_wp2_with ((with_reducible refine wpList_iapps rfl (.tmp 45) (.tmp 47) rfl W.heap.size _ _ (O7.out.below ((Below.refl _ _).alloc (Nat.le_refl _) _)) (fun b => b = w7.heap.size) (some ⟨w7.heap.size, 0, none⟩) 1 1 [(k : Int)] (own_one w7 (k : Int) _) ?hF ?h1 ?h2 ?hs ?hx ?_); (case hF => exact fun b hb => ⟨by (subst hb; simp), fun e => by (have := (O7.out.lt b e).2; subst hb; omega)⟩); (case h1 => (have := LN.out; omega)); (case h2 => (have := Y7.out.size; simp; omega)); (case hs => rfl); (case hx => rfl); intro v8 w8 o8 b8; obtain ⟨A8, c8, rfl⟩ := o8.shape; have O8 := Lib.hid o8; have B8 := Lib.hid b8; clear o8 b8)
      go_roundw
      case rel => exact ⟨k + 1, by simp, by omega, by rw [MM.out]; simpa using O8.out, Y7.out.trans (((alloc_below _ _).mono Y7.out.size).trans B8.out)⟩
      case measure => simp only []; omega
set_option maxRecDepth 20000 in
set_option maxHeartbeats 8000000 in
theorem rhosts_any (N : NV) (S : NSl3) (d : Int) (w : World) (h : NRead w (allB w) N S) (hs : NvSz N) : Calls Tryz.prog 18 #[netV S, .int .i64 d] w (GotIs (hsL N d) w) := by
  have HP := Lib.hid h.pt
  have hle2 := h.pt.le
  have hcap2 := h.pt.cap
  have ptl := Lib.hid h.pt.len
  have RM := fun (w' : World) (hb : Below w.heap.size w w') => rmembers_any N S d w' (h.up hb) hs
  have ZL := Lib.hid (show (mmL N d).length ≤ 200 from Nat.le_trans (mm_len N d) hs.zpt)
  have MR := Lib.hid (fun x (hx : x ∈ mmL N d) => mm_range hx)
  have HM := Lib.hid (fun (k : Nat) (hk : k < (mmL N d).length) => hs_more hk)
  have EH := Lib.hid (show ((mmL N d).take (mmL N d).length).filter (fun x => decide ((ptA N x).link = -1)) = hsL N d by rw [List.take_length]; rfl)
  generalize mmL N d = M at *
  unfold netV at RM ⊢
  unfold GotIs at RM
  replace RM := Lib.hid RM
  have NB := Lib.hid (NBox.new w S 31)
  clear h hs
  go_enter Tryz.func18, Tryz.ntmps18
  go_upto_region 1 with fail
  obtain ⟨w1, hw1⟩ : ∃ w1, w.alloc (.cells (nA S) 31) = w1 := ⟨_, rfl⟩
  have B1 := Lib.hid (show Below w.heap.size w w1 by rw [← hw1]; exact alloc_below _ _)
  rw [hw1] at NB ⊢
  clear hw1
  obtain ⟨f0, f1, f2, f3, f4, f5, f6, f7, ql⟩ := NB.out
  go_upto_region 3 with (go_at_call 47; (with_reducible refine (RM.out _ B1.out).mono ?_); rintro e W ⟨LA, n, c, rfl, hr, hb⟩; have RM_ := Lib.hid hr; have Y3 := Lib.hid hb; clear hr hb)
  clear f0 f1 f2 f3 f4 f5 f6 f7 ql
  have B0 := Lib.hid (trans_below B1.out Y3.out)
  have hml := RM_.out.len
  have hle := RM_.out.le
  have hcap := RM_.out.cap
  go_wp2
  go_loopw [5, 7] (fun l i wr => ∃ k : Nat, i = .int .i64 k ∧ k ≤ n ∧ ROwn (Rdr.int .i64) wr W.heap.size 3 l ((M.take k).filter (fun x => decide ((ptA N x).link = -1))) ∧ Below W.heap.size W wr) (fun _ i _ => match i with | .int _ y => (n - y).toNat | _ => 0)
  case atStart => exact ⟨0, rfl, by omega, ROwn.nil _ _ _, Below.refl _ _⟩
  case round =>
    obtain ⟨k, rfl, hk, hown, hb⟩ := hrel
    have OW := Lib.hid hown
    have YR := Lib.hid hb
    obtain ⟨A, c2, hsh⟩ := hown.shape
    subst hsh
    have XB := Lib.hid (trans_below B0.out hb)
    clear hown hb
    rename World => w3
    by_cases hlt : k < n
    rotate_left
    · have lt2 : ¬ (k : Int) < (n : Int) := by omega
      obtain rfl : k = n := by omega
      go_wp2
      go_ret
      exact ⟨A, _, c2, rfl, by rw [← EH.out, hml]; exact OW.out.read, XB.out⟩
    have lt2 : (k : Int) < (n : Int) := by omega
    have hkm : k < M.length := by omega
    have MM := HM.out k hkm
    obtain ⟨b0, o0, us, rfl, _, hb0, hus, r0⟩ := rsl_at RM_.out k hlt 0
    have hus : us = [.int .i64 (M.getD k 0)] := hus
    subst hus
    obtain ⟨j, hj, ej⟩ := MR.out (M.getD k 0) (by simp [List.getD, hkm])
    rw [ej] at MM r0
    have hjl : j < S.pt.n := by have := ptl.out; omega
    have lj : (j : Int) < (S.pt.n : Int) := by omega
    obtain ⟨bp, op, vs, ep, _, hbp, ⟨s, rfl, _⟩, rp⟩ := rsl_at HP.out j hjl PortV.zero
    rw [show (ptA N (j : Int)).link = (N.ports.getD j PortV.zero).link from rfl] at MM
    generalize N.ports.getD j PortV.zero = P at *
    have LN := Lib.hid (show ((M.take k).filter (fun x => decide ((ptA N x).link = -1))).length ≤ 200 from Nat.le_trans (List.length_filter_le _ _) (Nat.le_trans (by simp; omega) ZL.out))
    have EP := Lib.hid ep
    have KR := Lib.hid (show ∀ wx, Below w3.heap.size w3 wx → wx.cell? ⟨w.heap.size, 1, none⟩ = some (.slice (some ⟨bp, op, none⟩) S.pt.n S.pt.c) ∧ wx.cell? ⟨b0, o0 + k, none⟩ = some (.int .i64 (j : Int)) ∧ wx.cell? ⟨bp, op + j * 7 + 4, none⟩ = some (.int .i64 P.link) from fun wx hx => by
      have f1 := (((NB.out.below Y3.out).below YR.out).below hx).c1
      rw [EP.out] at f1
      have hb := trans_below XB.out hx
      have r := rangeAt_keep rp (hb.block bp hbp)
      have q := rangeAt_keep r0 ((trans_below YR.out hx).block b0 hb0)
      have q0 := q 0 _ rfl
      rw [Nat.add_zero, show (Rdr.int .i64).n = 1 from rfl, Nat.mul_one] at q0
      exact ⟨f1, q0, r 4 _ rfl⟩)
    clear rp r0 ep ej
    go_upto_region 6 with fail
    by_cases cd : P.link = -1
    rotate_left
    · have x1 : (P.link == -1) = false := by simpa using cd
      rw [if_neg cd] at MM
      have MM := Lib.hid MM
      clear cd
      refine wp_region_text (fun wx => Below w3.heap.size w3 wx) (by kernel_rfl) (by kernel_rfl) ((Below.refl _ _).drew) ?_
      repeat
        first
          | (refine Seq.pass rfl ?_; simp only [Act.put, List.setIfInBounds_toArray, List.set_cons_zero, List.set_cons_succ])
          | (refine Seq.run ?_ rfl (fun wx hx => ?_) ?_
             rotate_left
             · obtain ⟨f1, c0_, p4_⟩ := KR.out wx hx
               go_simp
               first
                 | (refine StepRun.val ?_; exact hx)
      
             simp only [Act.put, List.setIfInBounds_toArray, List.set_cons_zero, List.set_cons_succ])
      refine Seq.last (fun w7 h7 => ?_)
      have Y7 := Lib.hid (trans_below YR.out h7)
      have O7 := Lib.hid (OW.out.below h7)
      clear h7
      go_wp2
      go_roundw
      case rel => exact ⟨k + 1, by simp, by omega, by rw [MM.out]; simpa using O7.out, Y7.out⟩
      case measure => simp only []; omega
    have x1 : (P.link == -1) = true := by simpa using cd
    rw [if_pos cd] at MM
    have MM := Lib.hid MM
    clear cd
    refine wp_region_text (fun wx => Below w3.heap.size w3 wx) (by kernel_rfl) (by kernel_rfl) ((Below.refl _ _).drew) ?_
    repeat
      first
        | (refine Seq.pass rfl ?_; simp only [Act.put, List.setIfInBounds_toArray, List.set_cons_zero, List.set_cons_succ])
        | (refine Seq.run ?_ rfl (fun wx hx => ?_) ?_
           rotate_left
           · obtain ⟨f1, c0_, p4_⟩ := KR.out wx hx
             go_simp
             first
               | (refine StepRun.val ?_; exact hx)
    
           simp only [Act.put, List.setIfInBounds_toArray, List.set_cons_zero, List.set_cons_succ])
    refine Seq.last (fun w7 h7 => ?_)
    have Y7 := Lib.hid (trans_below YR.out h7)
    have O7 := Lib.hid (OW.out.below h7)
    have rc := KR.out _ h7
    obtain ⟨_, rc2, _⟩ := rc
    clear h7
    go_wp2_with ((with_reducible refine wpList_iapps rfl (.tmp 27) (.tmp 32) rfl W.heap.size _ _ (O7.out.below ((Below.refl _ _).alloc (Nat.le_refl _) _)) (fun b => b = w7.heap.size) (some ⟨w7.heap.size, 0, none⟩) 1 1 [(j : Int)] (own_one w7 (j : Int) _) ?hF ?h1 ?h2 ?hs ?hx ?_); (case hF => exact fun b hb => ⟨by (subst hb; simp), fun e => by (have := (O7.out.lt b e).2; subst hb; omega)⟩); (case h1 => (have := LN.out; simp; omega)); (case h2 => (have := Y7.out.size; simp; omega)); (case hs => rfl); (case hx => rfl); intro v8 w8 o8 b8; obtain ⟨A8, c8, rfl⟩ := o8.shape; have O8 := Lib.hid o8; have B8 := Lib.hid b8; clear o8 b8)
    go_roundw
    case rel => exact ⟨k + 1, by simp, by omega, by rw [MM.out]; simpa using O8.out, Y7.out.trans (((alloc_below _ _).mono Y7.out.size).trans B8.out)⟩
    case measure => simp only []; omega
set_option maxRecDepth 20000 in
set_option maxHeartbeats 8000000 in
theorem rtext18_any (N : NV) (S : NSl3) (d : Int) (w : World) (h : NRead w (allB w) N S) (hn : NetOk N) (hm : NmSz N) : Calls Tryz.prog 19 #[netV S, .int .i64 d] w fun e w' => e = .returned (.string (str (tdF N d))) ∧ Below w.heap.size w w' := by
  have HD := Lib.hid h.dm
  have HV := Lib.hid h.dv
  have hle := h.dm.le
  have hcap := h.dm.cap
  have gle := h.dv.le
  have gcap := h.dv.cap
  have DL := h.dm.len
  have VL := h.dv.len
  have PLC := Lib.hid (fun w' => rplace_any d (S.dm.n : Int) w')
  obtain ⟨va, ha⟩ : ∃ v, plB d (S.dm.n : Int) = v := ⟨_, rfl⟩
  obtain ⟨V, hV⟩ : ∃ V, tdF N d = V := ⟨_, rfl⟩
  have LL := show V = if va = true then (N.devices.getD (N.domains.getD d.toNat DomV.zero).dev.toNat DevV.zero).name ++ (47 :: Lib.itoa (N.domains.getD d.toNat DomV.zero).vlan) else [] by rw [← hV]; unfold tdF; rw [DL, ha]
  rw [hV]
  rw [ha] at PLC
  have NB := Lib.hid (NBox.new w S 31)
  have HM := Lib.hid hm.dv
  clear h hV hm
  unfold netV
  go_enter Tryz.func19, Tryz.ntmps19
  go_upto_region 1 with fail
  obtain ⟨w1, hw1⟩ : ∃ w1, w.alloc (.cells (nA S) 31) = w1 := ⟨_, rfl⟩
  have B1 := Lib.hid (show Below w.heap.size w w1 by rw [← hw1]; exact alloc_below _ _)
  rw [hw1] at NB ⊢
  clear hw1
  obtain ⟨f0, f1, f2, f3, f4, f5, f6, f7, ql⟩ := NB.out
  cases va with
  | false =>
    have EV := Lib.hid (show V = [] by rw [LL]; rfl)
    clear LL hn
    go_wp2_with ((go_at_call 48; (with_reducible refine (PLC.out _).mono ?_); rintro e wp ⟨rfl, hwp⟩; subst hwp))
    go_ret
    exact ⟨by rw [EV.out]; rfl, B1.out⟩
  | true =>
  obtain ⟨q1, q2⟩ := (plB_iff _ _).1 ha
  obtain ⟨x, hx⟩ := Int.eq_ofNat_of_zero_le q1
  subst hx
  have hxl : x < S.dm.n := by omega
  have lx : (x : Int) < (S.dm.n : Int) := by omega
  clear q1 q2
  have DO := hn.dm.1 x (by omega)
  rw [if_pos rfl, show ((x : Int)).toNat = x from rfl] at LL
  obtain ⟨bd, od, vd, ed, _, hbd, ⟨t, rfl, _⟩, rd⟩ := rsl_at HD.out x hxl DomV.zero
  have dv := DO.dev
  have vl := DO.vlan
  generalize N.domains.getD x DomV.zero = D at *
  obtain ⟨y, hy, hyl⟩ := plB_nat dv
  rw [show D.dev.toNat = y by rw [hy]; rfl] at LL
  have hyn : y < S.dv.n := by omega
  obtain ⟨bv, ov, vv, ev, _, hbv, hvv, rv⟩ := rsl_at HV.out y hyn DevV.zero
  have hvv : vv = devC (N.devices.getD y DevV.zero) := hvv
  subst hvv
  have NM := HM.out y hyl
  generalize N.devices.getD y DevV.zero = X at *
  have ly : (y : Int) < (S.dv.n : Int) := by omega
  have IL := itoa_len D.vlan (by omega) (by omega)
  have IT := Lib.hid (fun (w' : World) => refNumText_any D.vlan (by omega) (by omega) w')
  obtain ⟨Z, hZ⟩ : ∃ Z, Lib.itoa D.vlan = Z := ⟨_, rfl⟩
  rw [hZ] at IT LL IL
  have EV := Lib.hid LL
  have a1 : ∀ W, (Op.stringOp .add (str X.name) ⟨#[47]⟩).run Tryz.prog W = .ok (.string (str (X.name ++ [47]))) W := fun W => by
    rw [show (⟨#[47]⟩ : ByteArray) = str [47] from rfl, run_string_add_sum W _ _ (by rw [str_size, str_size]; simp; omega), str_append]
  have a2 : ∀ W, (Op.stringOp .add (str (X.name ++ [47])) (str Z)).run Tryz.prog W = .ok (.string (str (X.name ++ [47] ++ Z))) W := fun W => by
    rw [run_string_add_sum W _ _ (by rw [str_size, str_size]; simp; omega), str_append]
  have RD := rangeAt_keep rd (B1.out.block bd hbd)
  have p0 := RD 0 _ rfl
  have p1 := RD 1 _ rfl
  have p2 := RD 2 _ rfl
  have p3 := RD 3 _ rfl
  have p4 := RD 4 _ rfl
  have p5 := RD 5 _ rfl
  simp only [Nat.add_zero] at p0
  rw [show od + x * domR.n = od + x * 6 from rfl] at p0 p1 p2 p3 p4 p5
  rw [ed] at f3
  rw [hy] at p0
  have EW := Lib.hid ev
  clear rd RD ed ha DO dv vl hy hZ LL hn DL VL NM IL
  go_upto_region 4 with ((go_at_call 48; (with_reducible refine (PLC.out _).mono ?_); rintro e wp ⟨rfl, hwp⟩; subst hwp))
  obtain ⟨W, hW⟩ : ∃ W, w1.alloc (.cells #[.int .i64 (y : Int), .int .i64 D.vlan, .int .i64 D.vni, .int .i64 D.irb, .int .i64 D.row, .slice t.A t.n t.c] 63) = W := ⟨_, rfl⟩
  have C3 := Lib.hid (show Cs W w1.heap.size [.int .i64 (y : Int), .int .i64 D.vlan, .int .i64 D.vni, .int .i64 D.irb, .int .i64 D.row, .slice t.A t.n t.c] by rw [← hW]; exact Cs.new _ [.int .i64 (y : Int), .int .i64 D.vlan, .int .i64 D.vni, .int .i64 D.irb, .int .i64 D.row, .slice t.A t.n t.c] _)
  have Y3 := Lib.hid (show Below w1.heap.size w1 W by rw [← hW]; exact alloc_below _ _)
  rw [hW]
  clear hW p0 p1 p2 p3 p4 p5 f0 f1 f2 f3 f4 f5 f6 f7 ql
  have KC := Lib.hid (show ∀ wx, Below W.heap.size W wx → wx.cell? ⟨w.heap.size, 0, none⟩ = some (.slice (some ⟨bv, ov, none⟩) S.dv.n S.dv.c) ∧ wx.cell? ⟨bv, ov + y * 5 + 2, none⟩ = some (.string (str X.name)) ∧ wx.cell? ⟨w1.heap.size, 0, none⟩ = some (.int .i64 (y : Int)) ∧ wx.cell? ⟨w1.heap.size, 1, none⟩ = some (.int .i64 D.vlan) from fun wx hx => by
    have f0 := ((NB.out.below Y3.out).below hx).c0
    rw [EW.out] at f0
    have q := rangeAt_keep rv ((trans_below (trans_below B1.out Y3.out) hx).block bv hbv)
    have cc := (C3.out.below hx).1
    exact ⟨f0, q 2 _ rfl, cc 0 _ rfl, cc 1 _ rfl⟩)
  clear rv ev
  refine wp_region_text (fun wx => Below W.heap.size W wx) (by kernel_rfl) (by kernel_rfl) ((Below.refl _ _).drew) ?_
  repeat
    first
      | (refine Seq.pass rfl ?_; simp only [Act.put, List.setIfInBounds_toArray, List.set_cons_zero, List.set_cons_succ])
      | (refine Seq.run ?_ rfl (fun wx hx => ?_) ?_
         rotate_left
         · obtain ⟨f0, n2, c0_, c1_⟩ := KC.out wx hx
           go_simp
           first
             | (refine StepRun.val ?_; exact hx)
             | (refine StepRun.call (v := .string (str Z)) ?_; (with_reducible refine Calls.mono (IT.out _) ?_); rintro e w' ⟨rfl, hb⟩; exact ⟨rfl, trans_below hx hb⟩)
         simp only [Act.put, List.setIfInBounds_toArray, List.set_cons_zero, List.set_cons_succ])
  refine Seq.last (fun w7 h7 => ?_)
  have B7 := Lib.hid (trans_below (trans_below B1.out Y3.out) h7)
  go_wp2
  go_ret
  exact ⟨by rw [EV.out, show (X.name ++ (47 :: Z) : List UInt8) = X.name ++ [47] ++ Z by simp]; rfl, B7.out⟩
end Go.Proofs.YtkpbbfehglihlaaGreatDoor

/- The contracts of palingref03.Ints and palingref03.Addrs of any two lists: are they alike? (Made by mk-ntints.py.) -/
namespace Go.Proofs.YtkpbbfehglihlaaGreatDoor
open Go.RowKit

theorem num_take (ps qs : List Int) (k : Nat) (h0 : k < ps.length) (h1 : k < qs.length) (g : ps.take k = qs.take k) : ps.take (k + 1) = qs.take (k + 1) ↔ ps.getD k 0 = qs.getD k 0 := by
  have e0 : ps.getD k 0 = ps[k] := by simp [List.getD, h0]
  have e1 : qs.getD k 0 = qs[k] := by simp [List.getD, h1]
  rw [List.take_succ_eq_append_getElem h0, List.take_succ_eq_append_getElem h1, g, e0, e1]
  exact ⟨fun e => by injection List.append_cancel_left e, fun e => by rw [e]⟩
set_option maxRecDepth 20000 in
theorem rints2_any (A : Option Addr) (n c : Nat) (ps : List Int) (B : Option Addr) (m d : Nat) (qs : List Int) (w : World) (h : ISl w .i64 A n c ps) (g : ISl w .i64 B m d qs) (v : Bool) (hv : v = true ↔ ps = qs) :
    Calls Tryz.prog 17 #[.slice A n c, .slice B m d] w fun e w' => e = .returned (.bool v) ∧ Below w.heap.size w w' := by
  have hl := h.len
  have gl := g.len
  have hcap := h.cap
  have hle := h.le
  have gcap := g.cap
  have gle := g.le
  have V1 := Lib.hid (show ps = qs → v = true from hv.2)
  have V0 := Lib.hid (show ¬ ps = qs → v = false from fun hn => by cases v with | false => rfl | true => exact absurd (hv.1 rfl) hn)
  by_cases hnm : n = m
  · subst hnm
    have H := Lib.hid h
    have G := Lib.hid g
    have HL := Lib.hid hl
    have GL := Lib.hid gl
    clear h g hv hl gl
    go_enter Tryz.func17, Tryz.ntmps17
    go_wp2
    go_loopw [5] (fun i wr => ∃ k q : Nat, i = .int .i64 k ∧ wr = w.drewN q ∧ k ≤ n ∧ ps.take k = qs.take k) (fun i _ => match i with | .int _ x => (n - x).toNat | _ => 0)
    case atStart => exact ⟨0, 0, rfl, rfl, by omega, by simp⟩
    case round =>
      obtain ⟨k, q, rfl, rfl, hk, hf⟩ := hrel
      have HF := Lib.hid hf
      clear hf
      by_cases hlt : k < n
      · obtain ⟨b0, o0, rfl, hb0, hc0⟩ := H.out.2.2.2 (by omega)
        obtain ⟨b1, o1, rfl, hb1, hc1⟩ := G.out.2.2.2 (by omega)
        have c0 := hc0 k hlt
        have c1 := hc1 k hlt
        have T := Lib.hid (num_take ps qs k (by rw [HL.out]; exact hlt) (by rw [GL.out]; exact hlt) HF.out)
        have i0 : (k : Int) < (n : Int) := by omega
        generalize hx : ps.getD k 0 = x at *
        generalize hy : qs.getD k 0 = y at *
        have HX := Lib.hid hx
        have HY := Lib.hid hy
        clear hc0 hc1 hx hy
        by_cases e : x = y
        · have s1 : (x == y) = true := by simpa using e
          have s2 : (x != y) = false := by simpa using e
          have R := Lib.hid (T.out.2 e)
          clear e
          go_wp2
          go_quiet (fail)
          go_wp2
          go_roundw
          case rel => exact ⟨k + 1, q + nq, by simp, rfl, by omega, R.out⟩
          case measure => simp only []; omega
        · have s1 : (x == y) = false := by simpa using e
          have s2 : (x != y) = true := by simpa using e
          have R := Lib.hid (V0.out (fun e2 => e (by rw [← HX.out, ← HY.out, e2])))
          clear e
          go_wp2
          go_quiet (fail)
          go_wp2
          go_ret
          exact ⟨by rw [R.out]; rfl, below_drewN (below_drewN (Below.refl _ _) _) _⟩
      · have R := Lib.hid (V1.out (by
          have e1 : ps.take k = ps := List.take_of_length_le (by rw [HL.out]; omega)
          have e2 : qs.take k = qs := List.take_of_length_le (by rw [GL.out]; omega)
          rw [← e1, ← e2, HF.out]))
        go_wp2
        go_ret
        exact ⟨by rw [R.out]; rfl, below_drewN (Below.refl _ _) _⟩
  · have R := Lib.hid (V0.out (fun e => hnm (by rw [← hl, ← gl, e])))
    have ne : ((n : Int) != (m : Int)) = true := by simp; omega
    clear h g hv hl gl
    go_enter Tryz.func17, Tryz.ntmps17
    go_wp2
    go_ret
    exact ⟨by rw [R.out]; rfl, Below.refl _ _⟩
end Go.Proofs.YtkpbbfehglihlaaGreatDoor

/- The walk of DomainsTells. (Made by mk-dotells.py.) -/
namespace Go.Proofs.YtkpbbfehglihlaaGreatDoor
open Go.RowKit

set_option maxRecDepth 20000 in
set_option maxHeartbeats 8000000 in
theorem dtells_walk (N : NV) (S : NSl3) (d m : Int) (w : World) (h : NRead w (allB w) N S) (hm : NmSz N) (hl : LdP w) : Calls Tryz.prog 4 #[netV S, .int .i64 d, .int .u64 m] w fun e w' => e = .returned (.bool true) ∧ Below w.heap.size w w' := by
  have U := Lib.hid (fun (w' : World) (hb : Below w.heap.size w w') => h.up hb)
  have HL := Lib.hid (fun (w' : World) (hb : Below w.heap.size w w') => hl.below hb)
  have HM := Lib.hid hm
  have NB := Lib.hid (NBox.new w S 31)
  have G1 := fun (w' : World) (hb : Below w.heap.size w w') => ngreat_any N S w' (h.up hb)
  clear h hm hl
  unfold netV at G1 ⊢
  replace G1 := Lib.hid G1
  go_enter Tryz.func4, Tryz.ntmps4
  go_upto_region 1 with fail
  obtain ⟨w1, hw1⟩ : ∃ w1, w.alloc (.cells (nA S) 31) = w1 := ⟨_, rfl⟩
  have B0 := Lib.hid (show Below w.heap.size w w1 by rw [← hw1]; exact alloc_below _ _)
  rw [hw1] at NB ⊢
  clear hw1
  have KN := Lib.hid (show ∀ wx, Below w1.heap.size w1 wx → (NF wx w.heap.size S) ∧ Below w.heap.size w wx from fun wx hx => by
    have nb := NB.out.below hx
    exact ⟨⟨nb.c0, nb.c1, nb.c2, nb.c3, nb.c4, nb.c5, nb.c6, nb.c7⟩, B0.out.trans (hx.mono B0.out.size)⟩)
  obtain ⟨f0, f1, f2, f3, f4, f5, f6, f7⟩ := (KN.out w1 (Below.refl _ _)).1
  have Y0 := Lib.hid (Below.refl w1.heap.size w1)
  have X0 := Lib.hid B0.out
  go_wp2_with ((go_at_call 11; (with_reducible refine (G1.out _ X0.out).mono ?_); rintro e w1_ ⟨g, rfl, hg, hb⟩; have Y1 := Lib.hid (trans_below Y0.out hb); have X1 := Lib.hid (KN.out _ Y1.out).2; obtain ⟨f0, f1, f2, f3, f4, f5, f6, f7⟩ := (KN.out _ Y1.out).1; clear hb; have HG := Lib.hid hg; clear hg; cases g))
  rotate_left
  · go_wp2_with ((go_at_call 7; (with_reducible refine (works18_any _ (HL.out _ X1.out)).mono ?_); rintro e w9_ ⟨rfl, hb⟩; have Y9 := Lib.hid (trans_below Y1.out hb); have X9 := Lib.hid (KN.out _ Y9.out).2; obtain ⟨f0, f1, f2, f3, f4, f5, f6, f7⟩ := (KN.out _ Y9.out).1; clear hb))
    go_ret
    exact ⟨rfl, X9.out⟩
  have SN := HG.out (by simp)
  have XL := fun (w' : World) (hb : Below w.heap.size w w') => xlook_any N S d m w' (U.out w' hb) SN
  have XH := fun (w' : World) (hb : Below w.heap.size w w') => xhosts_any N S d w' (U.out w' hb) SN
  have XT := fun (w' : World) (hb : Below w.heap.size w w') => xtext18_any N S d w' (U.out w' hb) SN HM.out (HL.out w' hb)
  have RR := fun (w' : World) (hb : Below w.heap.size w w') => rnright_any N S w' (U.out w' hb)
  by_cases hn : NetOk N
  rotate_left
  · have nb := netB_no hn
    rw [show lkX N d m = -1 by unfold lkX; rw [if_neg (by rw [nb]; decide)]] at XL
    rw [show hsX N d = [] by unfold hsX; rw [if_neg (by rw [nb]; decide)]] at XH
    rw [show tdX N d = [] by unfold tdX; rw [if_neg (by rw [nb]; decide)], show str [] = ⟨#[]⟩ from rfl] at XT
    rw [nb] at RR
    unfold netV at XL XH XT RR
    replace XL := Lib.hid XL
    replace XH := Lib.hid XH
    replace XT := Lib.hid XT
    replace RR := Lib.hid RR
    clear hn nb SN
    have Y1d := Lib.hid (show Below w1.heap.size w1 w1_.drew from below_drewN Y1.out 1)
    have X1d := Lib.hid (show Below w.heap.size w w1_.drew from below_drewN X1.out 1)
    go_region_held_law (fun w' => NF w' w.heap.size S) ((first | exact (KN.out _ Y4.out).1 | exact (KN.out _ Y3.out).1 | exact (KN.out _ Y2.out).1 | exact (KN.out _ Y1d.out).1)) (first
      | (go_at_call 12; (with_reducible refine (XL.out _ X1d.out).mono ?_); rintro e w2_ ⟨rfl, hb⟩; have Y2 := Lib.hid (trans_below Y1d.out hb); have X2 := Lib.hid (KN.out _ Y2.out).2; obtain ⟨f0, f1, f2, f3, f4, f5, f6, f7⟩ := (KN.out _ Y2.out).1; clear hb)
      | (go_at_call 13; (with_reducible refine (XH.out _ X2.out).mono ?_); rintro e w3_ ⟨A, n, c, rfl, hs, hb⟩; have Y3 := Lib.hid (trans_below Y2.out hb); have X3 := Lib.hid (KN.out _ Y3.out).2; obtain ⟨f0, f1, f2, f3, f4, f5, f6, f7⟩ := (KN.out _ Y3.out).1; clear hb; have hn := hs.len; obtain rfl : n = 0 := by { rw [← hn]; rfl }; have hle := hs.le; have hcap := hs.cap; clear hs hn)
      | (go_at_call 14; (with_reducible refine (XT.out _ X3.out).mono ?_); rintro e w4_ ⟨rfl, hb⟩; have Y4 := Lib.hid (trans_below Y3.out hb); have X4 := Lib.hid (KN.out _ Y4.out).2; obtain ⟨f0, f1, f2, f3, f4, f5, f6, f7⟩ := (KN.out _ Y4.out).1; clear hb))
    go_wp2_with (first
      | (go_at_call 15; (with_reducible refine (RR.out _ X4.out).mono ?_); rintro e w5_ ⟨rfl, hb⟩; have Y5 := Lib.hid (trans_below Y4.out hb); have X5 := Lib.hid (KN.out _ Y5.out).2; obtain ⟨f0, f1, f2, f3, f4, f5, f6, f7⟩ := (KN.out _ Y5.out).1; clear hb)
      | (go_at_call 7; (with_reducible refine (works18_any _ (HL.out _ X5.out)).mono ?_); rintro e w9_ ⟨rfl, hb⟩; have Y9 := Lib.hid (trans_below Y5.out hb); have X9 := Lib.hid (KN.out _ Y9.out).2; obtain ⟨f0, f1, f2, f3, f4, f5, f6, f7⟩ := (KN.out _ Y9.out).1; clear hb))
    go_ret
    exact ⟨by first | rfl | simp, X9.out⟩
  have SZ := Lib.hid SN
  have RL := fun (w' : World) (hb : Below w.heap.size w w') => rlook_any N S d m w' (U.out w' hb)
  have RH := fun (w' : World) (hb : Below w.heap.size w w') => rhosts_any N S d w' (U.out w' hb) SZ.out
  have RT := fun (w' : World) (hb : Below w.heap.size w w') => rtext18_any N S d w' (U.out w' hb) hn HM.out
  rw [netB_yes hn] at RR
  rw [lkX_ok hn] at XL
  rw [hsX_ok hn] at XH
  rw [tdX_ok hn] at XT
  clear hn SN
  generalize lkF N d m = a at *
  generalize hsL N d = H at *
  generalize tdF N d = T at *
  unfold netV at XL XH XT RR RL RH RT
  have e1 : (a == a) = true := by simp
  have e3 : (T == T) = true := by simp
  have II := Lib.hid (fun (A : Option Addr) (n c : Nat) (B : Option Addr) (m e : Nat) (w' : World) (h1 : RSl (Rdr.int .i64) w' (allB w') A n c H) (h2 : RSl (Rdr.int .i64) w' (allB w') B m e H) => rints2_any A n c H B m e H w' (isl_rsl h1) (isl_rsl h2) true (by simp))
  replace XL := Lib.hid XL
  replace XH := Lib.hid XH
  replace XT := Lib.hid XT
  replace RR := Lib.hid RR
  replace RL := Lib.hid RL
  replace RH := Lib.hid RH
  replace RT := Lib.hid RT
  have Y1d := Lib.hid (show Below w1.heap.size w1 w1_.drew from below_drewN Y1.out 1)
  have X1d := Lib.hid (show Below w.heap.size w w1_.drew from below_drewN X1.out 1)
  go_region_held_law (fun w' => NF w' w.heap.size S) ((first | exact (KN.out _ Y4.out).1 | exact (KN.out _ Y3.out).1 | exact (KN.out _ Y2.out).1 | exact (KN.out _ Y1d.out).1)) (first
    | (go_at_call 12; (with_reducible refine (XL.out _ X1d.out).mono ?_); rintro e w2_ ⟨rfl, hb⟩; have Y2 := Lib.hid (trans_below Y1d.out hb); have X2 := Lib.hid (KN.out _ Y2.out).2; obtain ⟨f0, f1, f2, f3, f4, f5, f6, f7⟩ := (KN.out _ Y2.out).1; clear hb)
    | (go_at_call 13; (with_reducible refine (XH.out _ X2.out).mono ?_); rintro e w3_ ⟨A, n, c, rfl, hs, hb⟩; have Y3 := Lib.hid (trans_below Y2.out hb); have X3 := Lib.hid (KN.out _ Y3.out).2; obtain ⟨f0, f1, f2, f3, f4, f5, f6, f7⟩ := (KN.out _ Y3.out).1; clear hb; have hle := hs.le; have hcap := hs.cap; have L3 := Lib.hid hs; clear hs)
    | (go_at_call 14; (with_reducible refine (XT.out _ X3.out).mono ?_); rintro e w4_ ⟨rfl, hb⟩; have Y4 := Lib.hid (trans_below Y3.out hb); have X4 := Lib.hid (KN.out _ Y4.out).2; obtain ⟨f0, f1, f2, f3, f4, f5, f6, f7⟩ := (KN.out _ Y4.out).1; have L4 := Lib.hid (up_rsl L3.out hb); clear hb))
  go_wp2_with (first
    | (go_at_call 15; (with_reducible refine (RR.out _ X4.out).mono ?_); rintro e w5_ ⟨rfl, hb⟩; have Y5 := Lib.hid (trans_below Y4.out hb); have X5 := Lib.hid (KN.out _ Y5.out).2; obtain ⟨f0, f1, f2, f3, f4, f5, f6, f7⟩ := (KN.out _ Y5.out).1; have L5 := Lib.hid (up_rsl L4.out hb); clear hb)
    | (go_at_call 16; (with_reducible refine (RL.out _ X5.out).mono ?_); rintro e w6_ ⟨rfl, hb⟩; have Y6 := Lib.hid (trans_below Y5.out hb); have X6 := Lib.hid (KN.out _ Y6.out).2; obtain ⟨f0, f1, f2, f3, f4, f5, f6, f7⟩ := (KN.out _ Y6.out).1; have L6 := Lib.hid (up_rsl L5.out hb); clear hb)
    | (go_at_call 18; (with_reducible refine (RH.out _ X6.out).mono ?_); rintro e w7_ ⟨A2, n2, c2, rfl, hs, hb⟩; have Y7 := Lib.hid (trans_below Y6.out hb); have X7 := Lib.hid (KN.out _ Y7.out).2; obtain ⟨f0, f1, f2, f3, f4, f5, f6, f7⟩ := (KN.out _ Y7.out).1; have L7 := Lib.hid (up_rsl L6.out hb); clear hb; have hle2 := hs.le; have hcap2 := hs.cap; have M7 := Lib.hid hs; clear hs)
    | (go_at_call 17; (with_reducible refine (II.out A n c A2 n2 c2 _ L7.out M7.out).mono ?_); rintro e w8_ ⟨rfl, hb⟩; have Y8 := Lib.hid (trans_below Y7.out hb); have X8 := Lib.hid (KN.out _ Y8.out).2; obtain ⟨f0, f1, f2, f3, f4, f5, f6, f7⟩ := (KN.out _ Y8.out).1; clear hb)
    | (go_at_call 19; (with_reducible refine (RT.out _ X8.out).mono ?_); rintro e w10_ ⟨rfl, hb⟩; have Y10 := Lib.hid (trans_below Y8.out hb); have X10 := Lib.hid (KN.out _ Y10.out).2; obtain ⟨f0, f1, f2, f3, f4, f5, f6, f7⟩ := (KN.out _ Y10.out).1; clear hb)
    | (go_at_call 7; (with_reducible refine (works18_any _ (HL.out _ X10.out)).mono ?_); rintro e w9_ ⟨rfl, hb⟩; have Y9 := Lib.hid (trans_below Y10.out hb); have X9 := Lib.hid (KN.out _ Y9.out).2; obtain ⟨f0, f1, f2, f3, f4, f5, f6, f7⟩ := (KN.out _ Y9.out).1; clear hb))
  go_ret
  exact ⟨by first | rfl | simp, X9.out⟩
end Go.Proofs.YtkpbbfehglihlaaGreatDoor

/- Bounds of integers that came in. -/
namespace Go.Proofs.YtkpbbfehglihlaaGreatDoor
theorem u64_of_wf {x : Int} (h : (Lit.int .u64 x).wf = true) : 0 ≤ x ∧ x < 18446744073709551616 := by
  simp [Lit.wf, IntKind.min, IntKind.max, IntKind.signed, IntKind.bits] at h
  exact ⟨by omega, by omega⟩
end Go.Proofs.YtkpbbfehglihlaaGreatDoor

