/- Only what the statement at hand leans on. -/
import Derived.Test.YtkpbbfehglihlaaGreatDoorDu24
import Derived.Test.YtkpbbfehglihlaaGreatDoorDu17
import Derived.Test.YtkpbbfehglihlaaGreatDoorDu26
import Derived.Test.YtkpbbfehglihlaaGreatDoorDu04
import Derived.Test.YtkpbbfehglihlaaGreatDoorDu03
import Derived.Test.YtkpbbfehglihlaaGreatDoorDu05
import Derived.Deep.CutBlock
import Derived.Deep.DeepCutAuto
/- Package domains: Lookup, refusal, Hosts, Text. (Made by mk-dolook.py.) -/
namespace Go.Proofs.YtkpbbfehglihlaaGreatDoor
open Go.RowKit

/-- what the listed variables hold: the table of powers of ten -/
def LdP (w : World) : Prop := Lib.TabIs Tryz.prog w tabName .u64 Lib.pow10Tab
theorem LdP.below {w w' : World} (h : LdP w) (hb : Below w.heap.size w w') : LdP w' := tab_below h hb
theorem xitoa18_any (n : Int) (h0 : -9223372036854775808 ≤ n) (h1 : n ≤ 9223372036854775807) (w : World) (hl : LdP w) : Calls Tryz.prog 42 #[.int .i64 n] w fun e w' => e = .returned (.string (str (Lib.itoa n))) ∧ Below w.heap.size w w' :=
  (Tryz.strconv_Itoa n h0 h1 _ hl).mono (by rintro e w1 ⟨rfl, k, os, rfl⟩; exact ⟨rfl, Lib.below_grow _ _ (Nat.le_refl _) _ _⟩)
set_option maxRecDepth 20000 in
set_option maxHeartbeats 4000000 in
theorem xlook_any (N : NV) (S : NSl3) (d m : Int) (w : World) (h : NRead w (allB w) N S) (hs : NvSz N) : Calls Tryz.prog 12 #[netV S, .int .i64 d, .int .u64 m] w fun e w' => e = .returned (.int .i64 (lkX N d m)) ∧ Below w.heap.size w w' := by
  have XR := fun (w' : World) (hb : Below w.heap.size w w') => xnright_any N S w' (h.up hb) hs
  obtain ⟨b, hb⟩ : ∃ b, netB N = b := ⟨_, rfl⟩
  rw [hb] at XR
  have EX : lkX N d m = if b = true then stK (N.statics.drop 0) d m else -1 := by unfold lkX; rw [hb]; rfl
  generalize lkX N d m = V at *
  replace EX := Lib.hid EX
  clear hb
  have hst := h.st
  obtain ⟨sd, sp, sl, sm, ⟨PA, pn, pc⟩, sf, sv, si⟩ := S
  dsimp only at hst
  have hle := hst.le
  have hcap := hst.cap
  have HL := Lib.hid hst.len
  have H := Lib.hid hst
  clear h hs hst
  have NB := NBox.new w ⟨sd, sp, sl, sm, ⟨PA, pn, pc⟩, sf, sv, si⟩ 31
  unfold netV at XR ⊢
  dsimp only at XR ⊢
  replace XR := Lib.hid XR
  go_enter Tryz.func12, Tryz.ntmps12
  go_upto_region 1 with fail
  generalize hw1 : World.alloc _ _ = w1
  have hw1 : w.alloc (.cells (nA ⟨sd, sp, sl, sm, ⟨PA, pn, pc⟩, sf, sv, si⟩) 31) = w1 := hw1
  have B1 := Lib.hid (show Below w.heap.size w w1 by rw [← hw1]; exact alloc_below _ _)
  rw [hw1] at NB
  clear hw1
  have K4 := Lib.hid (show ∀ wx, Below w1.heap.size w1 wx → wx.cell? ⟨w.heap.size, 4, none⟩ = some (.slice PA pn pc) ∧ w.heap.size < wx.heap.size ∧ Below w.heap.size w wx from fun wx hx => ⟨(NB.below hx).c4, (NB.below hx).lt, B1.out.trans (hx.mono B1.out.size)⟩)
  obtain ⟨f0, f1, f2, f3, f4, f5, f6, f7, ql⟩ := NB
  dsimp only at f0 f1 f2 f3 f4 f5 f6 f7
  cases b
  · have EV := Lib.hid (show V = -1 by rw [EX.out]; rfl)
    go_wp2_with (go_at_call 23; (with_reducible refine (XR.out _ B1.out).mono ?_); rintro e w2 ⟨rfl, hb⟩; have X2 := Lib.hid (trans_below B1.out hb); clear hb)
    go_ret
    exact ⟨by rw [EV.out]; rfl, X2.out⟩
  replace EX := Lib.hid (show V = stK (N.statics.drop 0) d m from EX.out.trans (if_pos rfl))
  go_wp2_with (go_at_call 23; (with_reducible refine (XR.out _ B1.out).mono ?_); rintro e w2 ⟨rfl, hb⟩; have Y2 := Lib.hid hb; clear f0 f1 f2 f3 f4 f5 f6 f7 ql; obtain ⟨f4, ql, hx2⟩ := K4.out _ hb; have X2 := Lib.hid hx2; clear hb hx2)
  go_loopw [15] (fun i wr => ∃ k : Nat, i = .int .i64 k ∧ k ≤ pn ∧ Below w1.heap.size w1 wr ∧ V = stK (N.statics.drop k) d m) (fun i _ => match i with | .int _ y => (pn - y).toNat | _ => 0)
  case atStart => exact ⟨0, rfl, by omega, Y2.out, EX.out⟩
  case round =>
    obtain ⟨k, rfl, hk, hb, hv⟩ := hrel
    have YR := Lib.hid hb
    have XB := Lib.hid (K4.out _ hb).2.2
    have HV := Lib.hid hv
    clear hb hv f4 ql
    by_cases hlt : k < pn
    · obtain ⟨b0, o0, vs, rfl, _, hb0, hvs, r0⟩ := rsl_at H.out k hlt StatV.zero
      have hvs : vs = statC (N.statics.getD k StatV.zero) := hvs
      subst hvs
      have hk2 : k < N.statics.length := by rw [HL.out]; exact hlt
      have AT := Lib.hid (stK_at hk2 d m)
      generalize N.statics.getD k StatV.zero = D at *
      have R1 := rangeAt_keep r0 (XB.out.block b0 hb0)
      have d0 := R1 0 _ rfl
      have d1 := R1 1 _ rfl
      have d2 := R1 2 _ rfl
      have d3 := R1 3 _ rfl
      simp only [Nat.add_zero] at d0
      rw [show o0 + k * statR.n = o0 + k * 4 from rfl] at d0 d1 d2 d3
      have lt2 : (k : Int) < (pn : Int) := by omega
      clear r0 R1 hk2
      by_cases ha : D.dom = d
      · have x1 : (D.dom == d) = true := by simpa using ha
        by_cases hb : D.mac = m
        · have x2 : (D.mac == m) = true := by simpa using hb
          have EV := Lib.hid (show V = D.port by rw [HV.out, AT.out, if_pos ⟨ha, hb⟩])
          clear ha hb
          go_wp2
          go_ret
          exact ⟨by rw [EV.out]; rfl, XB.out.alloc XB.out.size _⟩
        have x2 : (D.mac == m) = false := by simpa using hb
        have EV := Lib.hid (show V = stK (N.statics.drop (k + 1)) d m by rw [HV.out, AT.out, if_neg (fun e => hb e.2)])
        clear ha hb
        go_wp2
        go_roundw
        case rel => exact ⟨k + 1, by simp, by omega, YR.out.alloc YR.out.size _, EV.out⟩
        case measure => simp only []; omega
      have x1 : (D.dom == d) = false := by simpa using ha
      have EV := Lib.hid (show V = stK (N.statics.drop (k + 1)) d m by rw [HV.out, AT.out, if_neg (fun e => ha e.1)])
      clear ha
      go_wp2
      go_roundw
      case rel => exact ⟨k + 1, by simp, by omega, YR.out.alloc YR.out.size _, EV.out⟩
      case measure => simp only []; omega
    · have lt2 : ¬ (k : Int) < (pn : Int) := by omega
      have EV := Lib.hid (show V = -1 by rw [HV.out, List.drop_of_length_le (by rw [HL.out]; omega)]; rfl)
      go_wp2
      go_ret
      exact ⟨by rw [EV.out]; rfl, XB.out⟩
set_option maxRecDepth 20000 in
set_option maxHeartbeats 8000000 in
theorem crefusal18_any (N : NV) (S : NSl3) (tr td tp tm v : Int) (w : World) (h : NRead w (allB w) N S) (hs : NvSz N) (hn : NetOk N) (ha : tp = -1 ∨ ∃ x : Nat, x < N.ports.length ∧ tp = (x : Int)) (hb : td = -1 ∨ ∃ y : Nat, y < N.domains.length ∧ td = (y : Int) ∧ (N.domains.getD y DomV.zero).vlan = v) : Calls Tryz.prog 29 #[netV S, .agg #[.int .i64 tr, .int .i64 td, .int .i64 tp, .int .u64 tm]] w fun e w' => e = .returned (.int .i64 (doR N td tp v tm)) ∧ Below w.heap.size w w' := by
  have HP := Lib.hid h.pt
  have HD := Lib.hid h.dm
  have hle := h.pt.le
  have hcap := h.pt.cap
  have hle2 := h.dm.le
  have hcap2 := h.dm.cap
  have hle3 := h.st.le
  have hcap3 := h.st.cap
  have PL := h.pt.len
  have DL := h.dm.len
  have KLEN := Lib.hid h.st.len
  have LK := fun (w' : World) (hb : Below w.heap.size w w') => xlook_any N S td tm w' (h.up hb) hs
  rw [lkX_ok hn] at LK
  obtain ⟨V, hV⟩ : ∃ V, doR N td tp v tm = V := ⟨_, rfl⟩
  rw [hV]
  have E := Lib.hid (show V = doR N td tp v tm from hV.symm)
  unfold netV at LK ⊢
  replace LK := Lib.hid LK
  clear h hs hn hV
  go_enter Tryz.func29, Tryz.ntmps29
  go_upto_region 1 with fail
  obtain ⟨W, hW⟩ : ∃ W, (w.alloc (.cells (nA S) 31)).alloc (.cells #[.int .i64 tr, .int .i64 td, .int .i64 tp, .int .u64 tm] 67) = W := ⟨_, rfl⟩
  have NC := net_cs S _ _ [.int .i64 tr, .int .i64 td, .int .i64 tp, .int .u64 tm] hW
  rw [hW]
  clear hW
  have KQ := Lib.hid (show ∀ wx, Below W.heap.size W wx → (NF wx w.heap.size S) ∧ (wx.cell? ⟨w.heap.size + 1, 0, none⟩ = some (.int .i64 tr) ∧ wx.cell? ⟨w.heap.size + 1, 1, none⟩ = some (.int .i64 td) ∧ wx.cell? ⟨w.heap.size + 1, 2, none⟩ = some (.int .i64 tp) ∧ wx.cell? ⟨w.heap.size + 1, 3, none⟩ = some (.int .u64 tm)) ∧ w.heap.size + 1 < wx.heap.size ∧ Below w.heap.size w wx from fun wx hx => by
    have n := (NC.1.below hx).1
    have r := (NC.2.1.below hx).1
    exact ⟨⟨n 0 _ rfl, n 1 _ rfl, n 2 _ rfl, n 3 _ rfl, n 4 _ rfl, n 5 _ rfl, n 6 _ rfl, n 7 _ rfl⟩, ⟨r 0 _ rfl, r 1 _ rfl, r 2 _ rfl, r 3 _ rfl⟩, (NC.2.1.below hx).2, NC.2.2.trans (hx.mono NC.2.2.size)⟩)
  obtain ⟨⟨f0, f1, f2, f3, f4, f5, f6, f7⟩, ⟨g0, g1, g2, g3⟩, ql2, hB0⟩ := KQ.out W (Below.refl _ _)
  have ql : w.heap.size < W.heap.size := by omega
  have B0 := Lib.hid hB0
  clear hB0 NC
  by_cases a0 : tp = -1
  · have y0 : (tp == -1) = true := by simpa using a0
    have EV := Lib.hid (show V = 31 by rw [E.out]; unfold doR; rw [if_pos a0])
    clear a0 ha hb E
    go_wp2
    go_ret
    exact ⟨by rw [EV.out]; rfl, B0.out⟩
  have y0 : (tp == -1) = false := by simpa using a0
  obtain ⟨x, hx, rfl⟩ := ha.resolve_left a0
  replace E := Lib.hid (show V = if td = -1 ∨ mbrB (N.ports.getD x PortV.zero) v = false then 32 else if lkF N td tm ≠ -1 then 30 else if 64 ≤ N.statics.length then 3 else 0 by rw [E.out]; unfold doR; rw [if_neg a0]; rfl)
  have hxl : x < S.pt.n := by omega
  have lx : (x : Int) < (S.pt.n : Int) := by omega
  clear ha a0
  go_upto_region 3 with fail
  clear f0 f1 f2 f3 f4 f5 f6 f7 g0 g1 g2 g3 ql ql2
  by_cases d0 : td = -1
  · have y1 : (td == -1) = true := by simpa using d0
    have EV := Lib.hid (show V = 32 by rw [E.out, if_pos (.inl d0)])
    clear d0 hb E
    refine wp_region_text (fun wx => Below W.heap.size W wx) (by kernel_rfl) (by kernel_rfl) ((Below.refl _ _).drew) ?_
    repeat
      first
        | (refine Seq.pass rfl ?_; simp only [Act.put, List.setIfInBounds_toArray, List.set_cons_zero, List.set_cons_succ])
        | (refine Seq.run ?_ rfl (fun wx hx => ?_) ?_
           rotate_left
           · obtain ⟨⟨f0, f1, f2, f3, f4, f5, f6, f7⟩, ⟨g0, g1, g2, g3⟩, ql2, hBx⟩ := KQ.out wx hx
             go_simp
             first
               | (refine StepRun.val ?_; exact hx)
    
           simp only [Act.put, List.setIfInBounds_toArray, List.set_cons_zero, List.set_cons_succ])
    refine Seq.last (fun w7 h7 => ?_)
    have B7 := Lib.hid (KQ.out _ h7).2.2.2
    go_wp2
    go_ret
    exact ⟨by rw [EV.out]; rfl, B7.out⟩
  have y1 : (td == -1) = false := by simpa using d0
  obtain ⟨y, hy, rfl, hv⟩ := hb.resolve_left d0
  have hyl : y < S.dm.n := by omega
  have ly : (y : Int) < (S.dm.n : Int) := by omega
  obtain ⟨bp, op, vp, ep, _, hbp, ⟨s, rfl, lp⟩, rp⟩ := rsl_at HP.out x hxl PortV.zero
  obtain ⟨bd, od, vd, ed, _, hbd, ⟨t, rfl, _⟩, rd⟩ := rsl_at HD.out y hyl DomV.zero
  generalize N.ports.getD x PortV.zero = P at *
  generalize N.domains.getD y DomV.zero = D at *
  subst hv
  obtain ⟨mb, hmb⟩ : ∃ mb, mbrB P D.vlan = mb := ⟨_, rfl⟩
  have MB := Lib.hid (fun (w' : World) (hb : Below w.heap.size w w') => hmb ▸ member_any2 P s D.vlan w' (allB w') (fun _ h => h) (up_rsl lp hb))
  rw [hmb] at E
  have EP := Lib.hid ep
  have ED := Lib.hid ed
  have KR := Lib.hid (show ∀ wx, Below W.heap.size W wx → (wx.cell? ⟨w.heap.size, 1, none⟩ = some (.slice (some ⟨bp, op, none⟩) S.pt.n S.pt.c) ∧ wx.cell? ⟨w.heap.size, 3, none⟩ = some (.slice (some ⟨bd, od, none⟩) S.dm.n S.dm.c)) ∧ (wx.cell? ⟨w.heap.size + 1, 1, none⟩ = some (.int .i64 (y : Int)) ∧ wx.cell? ⟨w.heap.size + 1, 2, none⟩ = some (.int .i64 (x : Int))) ∧ (wx.cell? ⟨bp, op + x * 7, none⟩ = some (.int .i64 P.row) ∧ wx.cell? ⟨bp, op + x * 7 + 1, none⟩ = some (.int .i64 P.dev) ∧ wx.cell? ⟨bp, op + x * 7 + 2, none⟩ = some (.int .i64 P.native) ∧ wx.cell? ⟨bp, op + x * 7 + 3, none⟩ = some (.int .i64 P.cost) ∧ wx.cell? ⟨bp, op + x * 7 + 4, none⟩ = some (.int .i64 P.link) ∧ wx.cell? ⟨bp, op + x * 7 + 5, none⟩ = some (.string (str P.name)) ∧ wx.cell? ⟨bp, op + x * 7 + 6, none⟩ = some (.slice s.A s.n s.c)) ∧ wx.cell? ⟨bd, od + y * 6 + 1, none⟩ = some (.int .i64 D.vlan) ∧ Below w.heap.size w wx from fun wx hx => by
    obtain ⟨⟨_, f1, _, f3, _⟩, ⟨_, g1, g2, _⟩, _, hb⟩ := KQ.out wx hx
    rw [EP.out] at f1
    rw [ED.out] at f3
    have r := rangeAt_keep rp (hb.block bp hbp)
    have q := rangeAt_keep rd (hb.block bd hbd)
    exact ⟨⟨f1, f3⟩, ⟨g1, g2⟩, ⟨r 0 _ rfl, r 1 _ rfl, r 2 _ rfl, r 3 _ rfl, r 4 _ rfl, r 5 _ rfl, r 6 _ rfl⟩, q 1 _ rfl, hb⟩)
  clear rp rd lp ep ed hmb
  cases mb
  · have EV := Lib.hid (show V = 32 by rw [E.out, if_pos (.inr rfl)])
    clear d0 E
    refine wp_region_text (fun wx => Below W.heap.size W wx) (by kernel_rfl) (by kernel_rfl) ((Below.refl _ _).drew) ?_
    repeat
      first
        | (refine Seq.pass rfl ?_; simp only [Act.put, List.setIfInBounds_toArray, List.set_cons_zero, List.set_cons_succ])
        | (refine Seq.run ?_ rfl (fun wx hx => ?_) ?_
           rotate_left
           · obtain ⟨⟨f1, f3⟩, ⟨g1, g2⟩, ⟨p0, p1, p2, p3, p4, p5, p6⟩, q1, hBx⟩ := KR.out wx hx
             go_simp
             first
               | (refine StepRun.val ?_; exact hx)
               | (refine StepRun.call (v := .bool false) ?_; (with_reducible refine Calls.mono (MB.out _ hBx) ?_); rintro e w' ⟨rfl, hb⟩; exact ⟨rfl, trans_below hx hb⟩)
           simp only [Act.put, List.setIfInBounds_toArray, List.set_cons_zero, List.set_cons_succ])
    refine Seq.last (fun w7 h7 => ?_)
    have B7 := Lib.hid (KQ.out _ h7).2.2.2
    go_wp2
    go_ret
    exact ⟨by rw [EV.out]; rfl, B7.out⟩
  replace E := Lib.hid (show V = if lkF N (y : Int) tm ≠ -1 then 30 else if 64 ≤ N.statics.length then 3 else 0 by rw [E.out, if_neg (fun e => e.elim d0 (fun g => by cases g))])
  clear d0
  refine wp_region_text (fun wx => Below W.heap.size W wx) (by kernel_rfl) (by kernel_rfl) ((Below.refl _ _).drew) ?_
  repeat
    first
      | (refine Seq.pass rfl ?_; simp only [Act.put, List.setIfInBounds_toArray, List.set_cons_zero, List.set_cons_succ])
      | (refine Seq.run ?_ rfl (fun wx hx => ?_) ?_
         rotate_left
         · obtain ⟨⟨f1, f3⟩, ⟨g1, g2⟩, ⟨p0, p1, p2, p3, p4, p5, p6⟩, q1, hBx⟩ := KR.out wx hx
           go_simp
           first
             | (refine StepRun.val ?_; exact hx)
             | (refine StepRun.call (v := .bool true) ?_; (with_reducible refine Calls.mono (MB.out _ hBx) ?_); rintro e w' ⟨rfl, hb⟩; exact ⟨rfl, trans_below hx hb⟩)
         simp only [Act.put, List.setIfInBounds_toArray, List.set_cons_zero, List.set_cons_succ])
  refine Seq.last (fun w7 h7 => ?_)
  obtain ⟨⟨f0, f1, f2, f3, f4, f5, f6, f7⟩, ⟨g0, g1, g2, g3⟩, ql2, hB7⟩ := KQ.out _ h7
  have Y7 := Lib.hid h7
  have X7 := Lib.hid hB7
  clear h7 hB7
  generalize lkF N (y : Int) tm = k at *
  by_cases k0 : k = -1
  rotate_left
  · have y2 : (k != -1) = true := by simpa using k0
    have EV := Lib.hid (show V = 30 by rw [E.out, if_pos k0])
    clear k0 E
    go_wp2_with (go_at_call 12; (with_reducible refine (LK.out _ X7.out).mono ?_); rintro e w8 ⟨rfl, hb⟩; have X8 := Lib.hid (trans_below X7.out hb); obtain ⟨⟨f0, f1, f2, f3, f4, f5, f6, f7⟩, ⟨g0, g1, g2, g3⟩, ql2, _⟩ := KQ.out _ (trans_below Y7.out hb); clear hb)
    go_ret
    exact ⟨by rw [EV.out]; rfl, X8.out⟩
  have y2 : (k != -1) = false := by simpa using k0
  replace E := Lib.hid (show V = if 64 ≤ N.statics.length then 3 else 0 by rw [E.out, if_neg (fun e => e k0)])
  clear k0
  by_cases c4 : 64 ≤ S.st.n
  · have y4 : (S.st.n : Int) ≥ 64 := by omega
    have EV := Lib.hid (show V = 3 by rw [E.out, if_pos (by rw [KLEN.out]; exact c4)])
    clear c4 E
    go_wp2_with (go_at_call 12; (with_reducible refine (LK.out _ X7.out).mono ?_); rintro e w8 ⟨rfl, hb⟩; have X8 := Lib.hid (trans_below X7.out hb); obtain ⟨⟨f0, f1, f2, f3, f4, f5, f6, f7⟩, ⟨g0, g1, g2, g3⟩, ql2, _⟩ := KQ.out _ (trans_below Y7.out hb); clear hb)
    go_ret
    exact ⟨by rw [EV.out]; rfl, X8.out⟩
  have y4 : ¬ (S.st.n : Int) ≥ 64 := by omega
  have EV := Lib.hid (show V = 0 by rw [E.out, if_neg (by rw [KLEN.out]; exact c4)])
  clear c4 E
  go_wp2_with (go_at_call 12; (with_reducible refine (LK.out _ X7.out).mono ?_); rintro e w8 ⟨rfl, hb⟩; have X8 := Lib.hid (trans_below X7.out hb); obtain ⟨⟨f0, f1, f2, f3, f4, f5, f6, f7⟩, ⟨g0, g1, g2, g3⟩, ql2, _⟩ := KQ.out _ (trans_below Y7.out hb); clear hb)
  go_ret
  exact ⟨by rw [EV.out]; rfl, X8.out⟩
/-! Hosts. -/
noncomputable def hsX (N : NV) (d : Int) : List Int := if netB N = true then hsL N d else []
theorem hsX_ok {N : NV} (h : NetOk N) (d : Int) : hsX N d = hsL N d := by unfold hsX; rw [if_pos (netB_yes h)]
theorem rdall_ints {k : IntKind} {w : World} {G : Nat → Prop} : ∀ {xs : List Int} {vs : List Value}, RdAll (Rdr.int k) w G vs xs → vs = xs.map (Value.int k)
  | [], _, h => h
  | x :: r, _, ⟨us, ws, e, h1, h2⟩ => by
    have h1 : us = [.int k x] := h1
    subst h1
    rw [e, rdall_ints h2]
    rfl
theorem ROwn.owni {w : World} {B : Nat} {A : Option Addr} {n c : Nat} {xs : List Int} (h : ROwn (Rdr.int .i64) w B 3 (.slice A n c) xs) : OwnI .i64 3 w B ⟨A, n, c⟩ xs := by
  obtain ⟨vs, h1, h2⟩ := h
  rw [rdall_ints h2] at h1
  exact h1
set_option maxRecDepth 20000 in
theorem delf_none (f : FuncId) (caps : Array Value) (hcf : Enters Tryz.prog f) (A : Option Addr) (c : Nat) (w : World) (h : ISl w .i64 A 0 c []) :
    Calls Tryz.prog 38 #[.slice A 0 c, .func (.func f) #[] caps] w fun e w' => e = .returned (.slice A 0 c) ∧ Below w.heap.size w w' := by
  have IX := Lib.hid (idx_int f caps hcf A 0 c [] w h (fun _ => false) (fun k w' hk _ => absurd hk (Nat.not_lt_zero _)) (-1) (.inr ⟨rfl, fun _ _ => rfl⟩))
  clear h hcf
  go_enter Tryz.func38, Tryz.ntmps38
  go_wp2_with (go_at_call 109; (with_reducible refine IX.out.mono ?_); rintro e w2 ⟨rfl, hb⟩; have X2 := Lib.hid hb; clear hb)
  go_ret
  exact ⟨rfl, X2.out⟩
theorem hosts1_any (N : NV) (S : NSl3) (q k : Nat) (w : World) (h : NRead w (allB w) N S) (hb : NBox w q S) (hk : k < N.ports.length) : Calls Tryz.prog 40 #[.int .i64 (k : Int), .pointer (some ⟨q, 0, none⟩)] w fun e w' => e = .returned (.bool (!decide ((ptA N (k : Int)).link = -1))) ∧ Below w.heap.size w w' := by
  have hle := h.pt.le
  have hcap := h.pt.cap
  have hkn : k < S.pt.n := by have := h.pt.len; omega
  have lk : (k : Int) < (S.pt.n : Int) := by omega
  obtain ⟨bp, op, vp, ep, _, hbp, ⟨s, rfl, _⟩, rp⟩ := rsl_at h.pt k hkn PortV.zero
  have hE : (ptA N (k : Int)).link = (N.ports.getD k PortV.zero).link := rfl
  rw [hE]
  generalize N.ports.getD k PortV.zero = P at *
  have c1 := hb.c1
  have ql := hb.lt
  rw [ep] at c1
  have p4 := rp 4 _ rfl
  rw [show op + k * portR.n = op + k * 7 from rfl] at p4
  obtain ⟨v, hv⟩ : ∃ v, (P.link != -1) = v := ⟨_, rfl⟩
  have EV := Lib.hid (show (!decide (P.link = -1)) = v by rw [← hv]; by_cases e : P.link = -1 <;> simp [e])
  rw [EV.out]
  clear h hb rp ep hE
  go_enter Tryz.func40, Tryz.ntmps40
  go_wp2
  go_ret
  exact ⟨by first | rfl | simp [hv], Below.refl _ _⟩
theorem enters_hosts1 : Enters Tryz.prog 40 := enters_of Tryz.func40 (by kernel_rfl) rfl
set_option maxRecDepth 20000 in
theorem xnmembers_no (N : NV) (S : NSl3) (d : Int) (w : World) (h : NRead w (allB w) N S) (hs : NvSz N) (hn : netB N = false) : Calls Tryz.prog 39 #[netV S, .int .i64 d] w fun e w' => e = .returned (.slice none 0 0) ∧ Below w.heap.size w w' := by
  have RT := fun (w' : World) (hb : Below w.heap.size w w') => xnright_any N S w' (h.up hb) hs
  rw [hn] at RT
  unfold netV at RT ⊢
  have RT := Lib.hid RT
  clear h hs hn
  go_enter Tryz.func39, Tryz.ntmps39
  go_wp2_with (go_at_call 23; (with_reducible refine (RT.out _ (alloc_below _ _)).mono ?_); rintro e wr ⟨rfl, hb⟩; have X := Lib.hid (trans_below (alloc_below _ _) hb); clear hb)
  go_ret
  exact ⟨rfl, X.out⟩
set_option maxRecDepth 20000 in
set_option maxHeartbeats 2000000 in
theorem xhosts_any (N : NV) (S : NSl3) (d : Int) (w : World) (h : NRead w (allB w) N S) (hs : NvSz N) : Calls Tryz.prog 13 #[netV S, .int .i64 d] w (GotIs (hsX N d) w) := by
  have UP := Lib.hid (fun (w' : World) (hb : Below w.heap.size w w') => h.up hb)
  have NB := NBox.new w S 31
  have EN := enters_hosts1
  have key : ∃ (Q : Ending → World → Prop), (∀ w', Below w.heap.size w w' → NBox w' w.heap.size S → Calls Tryz.prog 39 #[netV S, .int .i64 d] w' (fun e w2 => ∃ A n c, e = .returned (.slice A n c) ∧ Below w'.heap.size w' w2 ∧ Calls Tryz.prog 38 #[.slice A n c, .func (.func 40) #[] #[.pointer (some ⟨w.heap.size, 0, none⟩)]] w2 (fun e w3 => Q e w3))) ∧ ∀ e w', Q e w' → GotIs (hsX N d) w e w' := by
    refine ⟨GotIs (hsX N d) w, fun w' hb nb => ?_, fun _ _ g => g⟩
    by_cases hn : NetOk N
    · refine (xnmembers_own N S d w' (h.up hb) hs hn).mono fun e w2 ⟨A, n, c, e1, ho, b2⟩ => ⟨A, n, c, e1, b2, ?_⟩
      have bw := trans_below hb b2
      rw [hsX_ok hn]
      by_cases h0 : 0 < (mmL N d).length
      · refine (delfm_any 40 #[.pointer (some ⟨w.heap.size, 0, none⟩)] EN w'.heap.size ⟨A, n, c⟩ (mmL N d) w2 ho.owni h0 b2.size (fun x => !decide ((ptA N x).link = -1)) (fun x w3 hx b3 => ?_)).mono fun e w4 ⟨m, e2, r4, b4⟩ => ⟨A, m, c, e2, ?_, hb.trans ((b2.trans b4).mono hb.size)⟩
        · obtain ⟨k, hk, rfl⟩ := mm_range hx
          have b03 := hb.trans ((b2.trans b3).mono hb.size)
          exact hosts1_any N S w.heap.size k w3 (UP.out _ b03) (nb.below (b2.trans b3)) hk
        · have e5 : ((mmL N d).filter fun x => !(!decide ((ptA N x).link = -1))) = hsL N d := by unfold hsL; congr 1; funext x; simp
          rw [e5] at r4
          exact r4.keep (fun _ _ => rfl) (fun b g => g.2.lt)
      · have e0 : mmL N d = [] := List.eq_nil_of_length_eq_zero (by omega)
        have el : hsL N d = [] := by unfold hsL; rw [e0]; rfl
        rw [e0] at ho
        have hr := ho.read
        obtain rfl : n = 0 := by have := hr.len; simpa using this.symm
        refine (delf_none 40 #[.pointer (some ⟨w.heap.size, 0, none⟩)] EN A c w2 (isl_rsl hr)).mono fun e w4 ⟨e2, b4⟩ => ⟨A, 0, c, e2, ?_, trans_below bw b4⟩
        rw [el]
        exact up_rsl hr b4
    · have nb0 := netB_no hn
      refine (xnmembers_no N S d w' (h.up hb) hs nb0).mono fun e w2 ⟨e1, b2⟩ => ⟨none, 0, 0, e1, b2, ?_⟩
      have bw := trans_below hb b2
      refine (delf_none 40 #[.pointer (some ⟨w.heap.size, 0, none⟩)] EN none 0 w2 ISl.nil).mono fun e w4 ⟨e2, b4⟩ => ⟨none, 0, 0, e2, ?_, trans_below bw b4⟩
      rw [show hsX N d = [] by unfold hsX; rw [if_neg (by rw [nb0]; decide)]]
      exact RSl.nil
  obtain ⟨Q, hk, hq⟩ := key
  have K := Lib.hid hk
  have HQ := Lib.hid hq
  clear h hs hk hq
  unfold netV at K ⊢
  go_enter Tryz.func13, Tryz.ntmps13
  go_upto_region 1 with fail
  obtain ⟨w1, hw1⟩ : ∃ w1, w.alloc (.cells (nA S) 31) = w1 := ⟨_, rfl⟩
  have B1 := Lib.hid (show Below w.heap.size w w1 by rw [← hw1]; exact alloc_below _ _)
  rw [hw1] at NB ⊢
  clear hw1
  have NB := Lib.hid NB
  obtain ⟨c0, c1, c2, c3, c4, c5, c6, c7, ql⟩ := NB.out
  go_wp2_with (first
    | (go_at_call 39; (with_reducible refine (K.out _ B1.out NB.out).mono ?_); rintro e w2 ⟨A, n, c, rfl, b2, k2⟩; have K2 := Lib.hid k2; clear b2 k2)
    | (go_at_call 38; (with_reducible refine K2.out.mono ?_); intro e w3 hq3; obtain ⟨A3, n3, c3_, rfl, hr3, hb3⟩ := HQ.out _ _ hq3; have R3 := Lib.hid hr3; have B3 := Lib.hid hb3; clear hq3 hr3 hb3))
  go_ret
  exact ⟨A3, n3, c3_, rfl, R3.out, B3.out⟩
/-! Text. -/
noncomputable def tdX (N : NV) (d : Int) : List UInt8 := if netB N = true then tdF N d else []
theorem tdX_ok {N : NV} (h : NetOk N) (d : Int) : tdX N d = tdF N d := by unfold tdX; rw [if_pos (netB_yes h)]
theorem itoa_small {v : Int} (h : 1 ≤ v ∧ v ≤ 4094) : (Lib.itoa v).length ≤ 20 := itoa_len v (by omega) (by omega)
set_option maxRecDepth 20000 in
theorem xtogether_any (q : Nat) (a b c : List UInt8) (w : World) (h0 : w.cell? ⟨q, 0, none⟩ = some (.string (str a))) (h1 : w.cell? ⟨q, 1, none⟩ = some (.string (str b))) (h2 : w.cell? ⟨q, 2, none⟩ = some (.string (str c))) (hl : a.length + (b.length + c.length) ≤ 140737488355328) : Calls Tryz.prog 41 #[.slice (some ⟨q, 0, none⟩) 3 3] w fun e w' => e = .returned (.string (str (a ++ (b ++ c)))) ∧ Below w.heap.size w w' := by
  have hq : q < w.heap.size := World.block_lt_of_cell? w _ h0
  have e0 : Lib.join [a, b, c] (ByteArray.data ⟨#[]⟩).toList = a ++ (b ++ c) := by
    rw [Lib.join_cons]
    simp [Lib.joinTail]
  have J : Calls Tryz.prog 112 #[.slice (some ⟨q, 0, none⟩) 3 3, .string ⟨#[]⟩] w fun e w' => e = .returned (.string (str (a ++ (b ++ c)))) ∧ Below w.heap.size w w' := by
    have e1 : ([a, b, c].map str).map (·.data.toList) = [a, b, c] := rfl
    have key := Tryz.strings_Join q 0 3 ([a, b, c].map str) ⟨#[]⟩ w (fun j x hx => by
      match j, hx with
      | 0, hx => obtain rfl : str a = x := by simpa using hx
                 simpa using h0
      | 1, hx => obtain rfl : str b = x := by simpa using hx
                 simpa using h1
      | 2, hx => obtain rfl : str c = x := by simpa using hx
                 simpa using h2
      | j + 3, hx => simp at hx) hq (by simp) (by simp) (by rw [e1, e0]; simpa using hl)
    rw [e1, e0] at key
    exact key
  have J := Lib.hid J
  clear h0 h1 h2 hl e0
  go_enter Tryz.func41, Tryz.ntmps41
  go_wp2_with (go_at_call 112; (with_reducible refine J.out.mono ?_); rintro e w1 ⟨rfl, hb1⟩)
  go_ret
  exact ⟨rfl, hb1⟩
set_option maxRecDepth 40000 in
set_option maxHeartbeats 8000000 in
theorem xtext18_any (N : NV) (S : NSl3) (d : Int) (w : World) (h : NRead w (allB w) N S) (hs : NvSz N) (hm : NmSz N) (hl : LdP w) : Calls Tryz.prog 14 #[netV S, .int .i64 d] w fun e w' => e = .returned (.string (str (tdX N d))) ∧ Below w.heap.size w w' := by
  have XR := fun (w' : World) (hb : Below w.heap.size w w') => xnright_any N S w' (h.up hb) hs
  have HD := Lib.hid h.dm
  have HV := Lib.hid h.dv
  have hle := h.dm.le
  have hcap := h.dm.cap
  have gle := h.dv.le
  have gcap := h.dv.cap
  have DL := h.dm.len
  have VL := h.dv.len
  have PL := Lib.hid (fun (w' : World) (hb : Below w.heap.size w w') => hl.below hb)
  obtain ⟨b, hb⟩ : ∃ b, netB N = b := ⟨_, rfl⟩
  rw [hb] at XR
  obtain ⟨V, hV⟩ : ∃ V, tdX N d = V := ⟨_, rfl⟩
  rw [hV]
  have EX := Lib.hid (show V = if b = true then tdF N d else [] by rw [← hV]; unfold tdX; rw [hb])
  have HN := Lib.hid (show b = true → NetOk N from fun g => (netB_iff N).1 (hb.trans g))
  have HM := Lib.hid hm.dv
  unfold netV at XR ⊢
  replace XR := Lib.hid XR
  clear h hs hm hl hV hb
  have NB := Lib.hid (NBox.new w S 31)
  go_enter Tryz.func14, Tryz.ntmps14
  go_upto_region 1 with fail
  obtain ⟨w1, hw1⟩ : ∃ w1, w.alloc (.cells (nA S) 31) = w1 := ⟨_, rfl⟩
  have B1 := Lib.hid (show Below w.heap.size w w1 by rw [← hw1]; exact alloc_below _ _)
  rw [hw1] at NB ⊢
  clear hw1
  have KN := Lib.hid (show ∀ wx, Below w1.heap.size w1 wx → (NF wx w.heap.size S) ∧ w.heap.size < wx.heap.size ∧ Below w.heap.size w wx from fun wx hx => by
    have nb := NB.out.below hx
    exact ⟨⟨nb.c0, nb.c1, nb.c2, nb.c3, nb.c4, nb.c5, nb.c6, nb.c7⟩, nb.lt, B1.out.trans (hx.mono B1.out.size)⟩)
  obtain ⟨⟨f0, f1, f2, f3, f4, f5, f6, f7⟩, ql, _⟩ := KN.out w1 (Below.refl _ _)
  cases b
  · have EV := Lib.hid (show V = [] by rw [EX.out]; rfl)
    go_wp2_with (go_at_call 23; (with_reducible refine (XR.out _ B1.out).mono ?_); rintro e w2 ⟨rfl, hb⟩; have Y2 := Lib.hid hb; have X2 := Lib.hid (trans_below B1.out hb); obtain ⟨⟨f0, f1, f2, f3, f4, f5, f6, f7⟩, ql, _⟩ := KN.out _ hb; clear hb)
    go_ret
    exact ⟨by rw [EV.out]; rfl, X2.out⟩
  have hn := HN.out rfl
  by_cases d0 : d < 0
  · have EV := Lib.hid (show V = [] by rw [EX.out, if_pos rfl]; unfold tdF; rw [if_neg]; intro g; have := (plB_iff _ _).1 g; omega)
    clear EX hn HN
    go_wp2_with (go_at_call 23; (with_reducible refine (XR.out _ B1.out).mono ?_); rintro e w2 ⟨rfl, hb⟩; have Y2 := Lib.hid hb; have X2 := Lib.hid (trans_below B1.out hb); obtain ⟨⟨f0, f1, f2, f3, f4, f5, f6, f7⟩, ql, _⟩ := KN.out _ hb; clear hb)
    go_ret
    exact ⟨by rw [EV.out]; rfl, X2.out⟩
  by_cases d1 : d < (S.dm.n : Int)
  rotate_left
  · have z1 : d ≥ (S.dm.n : Int) := by omega
    have EV := Lib.hid (show V = [] by rw [EX.out, if_pos rfl]; unfold tdF; rw [if_neg]; intro g; have := (plB_iff _ _).1 g; omega)
    clear EX hn HN
    go_wp2_with (go_at_call 23; (with_reducible refine (XR.out _ B1.out).mono ?_); rintro e w2 ⟨rfl, hb⟩; have Y2 := Lib.hid hb; have X2 := Lib.hid (trans_below B1.out hb); obtain ⟨⟨f0, f1, f2, f3, f4, f5, f6, f7⟩, ql, _⟩ := KN.out _ hb; clear hb)
    go_ret
    exact ⟨by rw [EV.out]; rfl, X2.out⟩
  have z1 : ¬ d ≥ (S.dm.n : Int) := by omega
  obtain ⟨x, rfl⟩ : ∃ x : Nat, d = (x : Int) := ⟨d.toNat, by omega⟩
  have hxl : x < S.dm.n := by omega
  have DO := hn.dm.1 x (by omega)
  have EV := show V = (N.devices.getD (N.domains.getD x DomV.zero).dev.toNat DevV.zero).name ++ (47 :: Lib.itoa (N.domains.getD x DomV.zero).vlan) by
    rw [EX.out, if_pos rfl]
    unfold tdF
    rw [if_pos ((plB_iff _ _).2 ⟨by omega, by omega⟩)]
    rfl
  obtain ⟨bd, od, vd, ed, _, hbd, ⟨t, rfl, _⟩, rd⟩ := rsl_at HD.out x hxl DomV.zero
  have dv := DO.dev
  have vl := DO.vlan
  generalize N.domains.getD x DomV.zero = D at *
  obtain ⟨y, hy, hyl⟩ := plB_nat dv
  rw [show D.dev.toNat = y by rw [hy]; rfl] at EV
  have hyn : y < S.dv.n := by omega
  obtain ⟨bv, ov, vv, ev, _, hbv, hvv, rv⟩ := rsl_at HV.out y hyn DevV.zero
  have hvv : vv = devC (N.devices.getD y DevV.zero) := hvv
  subst hvv
  have NM := HM.out y hyl
  generalize N.devices.getD y DevV.zero = X at *
  have ly : (y : Int) < (S.dv.n : Int) := by omega
  have lx : (x : Int) < (S.dm.n : Int) := by omega
  replace EV := Lib.hid EV
  have IT := Lib.hid (fun (w' : World) (hb : Below w.heap.size w w') => xitoa18_any D.vlan (by omega) (by omega) w' (PL.out w' hb))
  have IL := Lib.hid (itoa_small vl)
  obtain ⟨Z, hZ⟩ : ∃ Z, Lib.itoa D.vlan = Z := ⟨_, rfl⟩
  rw [hZ] at IT EV IL
  obtain ⟨nm, hnm⟩ : ∃ nm, X.name = nm := ⟨_, rfl⟩
  have EDD := Lib.hid hy
  have EE := Lib.hid ed
  have EW := Lib.hid ev
  rw [hnm] at EV NM
  have HNM := Lib.hid hnm
  have NM := Lib.hid NM
  have KC := Lib.hid (show ∀ wx, Below w1.heap.size w1 wx → wx.cell? ⟨w.heap.size, 3, none⟩ = some (.slice (some ⟨bd, od, none⟩) S.dm.n S.dm.c) ∧ wx.cell? ⟨w.heap.size, 0, none⟩ = some (.slice (some ⟨bv, ov, none⟩) S.dv.n S.dv.c) ∧ (wx.cell? ⟨bd, od + x * 6, none⟩ = some (.int .i64 (y : Int)) ∧ wx.cell? ⟨bd, od + x * 6 + 1, none⟩ = some (.int .i64 D.vlan) ∧ wx.cell? ⟨bd, od + x * 6 + 2, none⟩ = some (.int .i64 D.vni) ∧ wx.cell? ⟨bd, od + x * 6 + 3, none⟩ = some (.int .i64 D.irb) ∧ wx.cell? ⟨bd, od + x * 6 + 4, none⟩ = some (.int .i64 D.row) ∧ wx.cell? ⟨bd, od + x * 6 + 5, none⟩ = some (.slice t.A t.n t.c)) ∧ wx.cell? ⟨bv, ov + y * 5 + 2, none⟩ = some (.string (str nm)) ∧ w.heap.size < wx.heap.size ∧ Below w.heap.size w wx from fun wx hx => by
    obtain ⟨⟨f0, _, _, f3, _⟩, ql, hb⟩ := KN.out wx hx
    rw [EW.out] at f0
    rw [EE.out] at f3
    have r := rangeAt_keep rd (hb.block bd hbd)
    have q := rangeAt_keep rv (hb.block bv hbv)
    exact ⟨f3, f0, ⟨EDD.out ▸ r 0 _ rfl, r 1 _ rfl, r 2 _ rfl, r 3 _ rfl, r 4 _ rfl, r 5 _ rfl⟩, HNM.out ▸ q 2 _ rfl, ql, hb⟩)
  clear rd rv ed ev hy hZ hnm dv vl DO hn HN EX d0 d1
  go_upto_region 3 with (go_at_call 23; (with_reducible refine (XR.out _ B1.out).mono ?_); rintro e w2 ⟨rfl, hb⟩; have Y2 := Lib.hid hb; have X2 := Lib.hid (trans_below B1.out hb); obtain ⟨⟨f0, f1, f2, f3, f4, f5, f6, f7⟩, ql, _⟩ := KN.out _ hb; clear hb)
  clear f0 f1 f2 f3 f4 f5 f6 f7 ql
  obtain ⟨f3, f0, ⟨p0, p1, p2, p3, p4, p5⟩, n2, ql, _⟩ := KC.out _ Y2.out
  go_upto_region 4 with fail
  obtain ⟨w3, hw3⟩ : ∃ w3, w2.alloc (.cells #[.int .i64 (y : Int), .int .i64 D.vlan, .int .i64 D.vni, .int .i64 D.irb, .int .i64 D.row, .slice t.A t.n t.c] 63) = w3 := ⟨_, rfl⟩
  have C3 := Lib.hid (show Cs w3 w2.heap.size [.int .i64 (y : Int), .int .i64 D.vlan, .int .i64 D.vni, .int .i64 D.irb, .int .i64 D.row, .slice t.A t.n t.c] by rw [← hw3]; exact Cs.new _ [.int .i64 (y : Int), .int .i64 D.vlan, .int .i64 D.vni, .int .i64 D.irb, .int .i64 D.row, .slice t.A t.n t.c] _)
  have Y3 := Lib.hid (show Below w1.heap.size w1 w3 by rw [← hw3]; exact trans_below Y2.out (alloc_below _ _))
  rw [hw3]
  clear hw3 f3 f0 p0 p1 p2 p3 p4 p5 n2 ql
  refine wp_region_tail (fun wx => Below w3.heap.size w3 wx) 10 (by kernel_rfl) (by kernel_rfl) ((Below.refl _ _).drew) ?_
  simp only [List.take_succ_cons, List.take_zero, List.drop_succ_cons, List.drop_zero]
  repeat
    first
      | (refine SeqT.pass rfl ?_; simp only [Act.put, List.setIfInBounds_toArray, List.set_cons_zero, List.set_cons_succ])
      | (refine SeqT.run ?_ rfl (fun wx hx => ?_) ?_
         rotate_left
         · obtain ⟨f3, f0, ⟨p0, p1, p2, p3, p4, p5⟩, n2, ql, hBx⟩ := KC.out wx (trans_below Y3.out hx)
           have cc := (C3.out.below hx).1
           have c0_ := cc 0 _ rfl
           have c1_ := cc 1 _ rfl
           go_simp
           first
             | (refine StepRun.val ?_; exact hx)
             | (refine StepRun.call (v := .string (str Z)) ?_; (with_reducible refine Calls.mono (IT.out _ hBx) ?_); rintro e w' ⟨rfl, hb⟩; exact ⟨rfl, trans_below hx hb⟩)
         simp only [Act.put, List.setIfInBounds_toArray, List.set_cons_zero, List.set_cons_succ])
  refine SeqT.last (fun w5 h5 => ?_)
  have B5 := Lib.hid (KC.out _ (trans_below Y3.out h5)).2.2.2.2.2
  have TG := Lib.hid (fun T => xtogether_any w5.heap.size nm [47] Z (w5.alloc (.cells #[.string (str nm), .string ⟨#[47]⟩, .string (str Z)] T)) (by simp) (by simp) (by simp) (by have := NM.out; have := IL.out; simp; omega))
  clear h5
  go_wp2_with (go_at_call 41; refine (TG.out _).mono ?_; rintro e w6 ⟨rfl, b6⟩)
  go_ret
  exact ⟨by rw [EV.out]; rfl, trans_below (B5.out.alloc B5.out.size _) b6⟩
end Go.Proofs.YtkpbbfehglihlaaGreatDoor

