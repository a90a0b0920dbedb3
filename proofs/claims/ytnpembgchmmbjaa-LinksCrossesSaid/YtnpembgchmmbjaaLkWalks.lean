/- The walks of LinksCrosses and LinksBack. (Made by mk-lkw.py.) -/
import Derived.Test.YtnpembgchmmbjaaLkEx
import Derived.Test.YtnpembgchmmbjaaNtGreat
namespace Go.Proofs.Ytnpembgchmmbjaa
open Go.RowKit

set_option maxRecDepth 20000 in
set_option maxHeartbeats 8000000 in
theorem lcrosses_walk (N : NV) (S : NSl3) (p v : Int) (w : World) (h : NRead w (allB w) N S) : Calls Try.prog 3 #[netV S, .int .i64 p, .int .i64 v] w fun e w' => e = .returned (.bool true) ∧ Below w.heap.size w w' := by
  have U := Lib.hid (fun (w' : World) (hb : Below w.heap.size w w') => h.up hb)
  have NB := Lib.hid (NBox.new w S 31)
  have G1 := fun (w' : World) (hb : Below w.heap.size w w') => ngreat_any N S w' (h.up hb)
  clear h
  unfold netV at G1 ⊢
  replace G1 := Lib.hid G1
  go_enter Try.func3, Try.ntmps3
  go_upto_region 1 with fail
  obtain ⟨w1, hw1⟩ : ∃ w1, w.alloc (.cells (nA S) 31) = w1 := ⟨_, rfl⟩
  have B0 := Lib.hid (show Below w.heap.size w w1 by rw [← hw1]; exact alloc_below _ _)
  rw [hw1] at NB ⊢
  clear hw1
  have KN := Lib.hid (show ∀ wx, Below w1.heap.size w1 wx → (NF wx w.heap.size S) ∧ Below w.heap.size w wx from fun wx hx => by
    have nb := NB.out.below hx
    exact ⟨⟨nb.c0, nb.c1, nb.c2, nb.c3, nb.c4, nb.c5, nb.c6, nb.c7⟩, B0.out.trans (hx.mono B0.out.size)⟩)
  obtain ⟨f0, f1, f2, f3, f4, f5, f6, f7⟩ := (KN.out w1 (Below.refl _ _)).1
  have Y0 := Lib.hid (Below.refl w1.heap.size w1)
  have X0 := Lib.hid B0.out
  go_wp2_with ((go_at_call 5; (with_reducible refine (G1.out _ X0.out).mono ?_); rintro e w1_ ⟨g, rfl, hg, hb⟩; have Y1 := Lib.hid (trans_below Y0.out hb); have X1 := Lib.hid (KN.out _ Y1.out).2; obtain ⟨f0, f1, f2, f3, f4, f5, f6, f7⟩ := (KN.out _ Y1.out).1; clear hb; have HG := Lib.hid hg; clear hg; cases g))
  rotate_left
  · go_wp2_with ((go_at_call 6; (with_reducible refine (works17_any _).mono ?_); rintro e w9_ ⟨rfl, hb⟩; have Y9 := Lib.hid (trans_below Y1.out hb); have X9 := Lib.hid (KN.out _ Y9.out).2; obtain ⟨f0, f1, f2, f3, f4, f5, f6, f7⟩ := (KN.out _ Y9.out).1; clear hb))
    go_ret
    exact ⟨rfl, X9.out⟩
  have SN := HG.out (by simp)
  have XO := fun (w' : World) (hb : Below w.heap.size w w') => xother_any N S p w' (U.out w' hb) SN
  have XC := fun (w' : World) (hb : Below w.heap.size w w') => xcross_any N S p v w' (U.out w' hb) SN
  have XD := fun (w' : World) (hb : Below w.heap.size w w') => xdomain17_any N S p v w' (U.out w' hb) SN
  have RR := fun (w' : World) (hb : Below w.heap.size w w') => rnright_any N S w' (U.out w' hb)
  clear SN
  by_cases hn : NetOk N
  rotate_left
  · have nb := netB_no hn
    rw [show otX N p = -1 by unfold otX; rw [if_neg (by rw [nb]; decide)]] at XO
    rw [crV_no (show crX N p v = 0 by unfold crX; rw [if_neg (by rw [nb]; decide)])] at XC
    rw [dmV_no (show crX N p v = 0 by unfold crX; rw [if_neg (by rw [nb]; decide)])] at XD
    rw [nb] at RR
    unfold netV at XO XC XD RR
    replace XO := Lib.hid XO
    replace XC := Lib.hid XC
    replace XD := Lib.hid XD
    replace RR := Lib.hid RR
    clear hn nb
    go_wp2_with (first
      | (go_at_call 7; (with_reducible refine (XO.out _ X1.out).mono ?_); rintro e w2_ ⟨rfl, hb⟩; have Y2 := Lib.hid (trans_below Y1.out hb); have X2 := Lib.hid (KN.out _ Y2.out).2; obtain ⟨f0, f1, f2, f3, f4, f5, f6, f7⟩ := (KN.out _ Y2.out).1; clear hb)
      | (go_at_call 8; (with_reducible refine (XC.out _ X2.out).mono ?_); rintro e w3_ ⟨rfl, hb⟩; have Y3 := Lib.hid (trans_below Y2.out hb); have X3 := Lib.hid (KN.out _ Y3.out).2; obtain ⟨f0, f1, f2, f3, f4, f5, f6, f7⟩ := (KN.out _ Y3.out).1; clear hb)
      | (go_at_call 9; (with_reducible refine (XD.out _ X3.out).mono ?_); rintro e w4_ ⟨rfl, hb⟩; have Y4 := Lib.hid (trans_below Y3.out hb); have X4 := Lib.hid (KN.out _ Y4.out).2; obtain ⟨f0, f1, f2, f3, f4, f5, f6, f7⟩ := (KN.out _ Y4.out).1; clear hb)
      | (go_at_call 10; (with_reducible refine (RR.out _ X4.out).mono ?_); rintro e w5_ ⟨rfl, hb⟩; have Y5 := Lib.hid (trans_below Y4.out hb); have X5 := Lib.hid (KN.out _ Y5.out).2; obtain ⟨f0, f1, f2, f3, f4, f5, f6, f7⟩ := (KN.out _ Y5.out).1; clear hb)
      | (go_at_call 6; (with_reducible refine (works17_any _).mono ?_); rintro e w9_ ⟨rfl, hb⟩; have Y9 := Lib.hid (trans_below Y5.out hb); have X9 := Lib.hid (KN.out _ Y9.out).2; obtain ⟨f0, f1, f2, f3, f4, f5, f6, f7⟩ := (KN.out _ Y9.out).1; clear hb))
    go_ret
    exact ⟨by first | rfl | simp, X9.out⟩
  have RO := fun (w' : World) (hb : Below w.heap.size w w') => rother_any N S p w' (U.out w' hb)
  have RC := fun (w' : World) (hb : Below w.heap.size w w') => rcross_any N S p v w' (U.out w' hb) hn
  have RD := fun (w' : World) (hb : Below w.heap.size w w') => rdomain17_any N S p v w' (U.out w' hb) hn
  rw [netB_yes hn] at RR
  rw [ot_eq hn] at RO
  simp only [otX_ok hn, crX_ok hn] at XO XC XD
  clear hn
  generalize atF N (ptA N (otC N p)).dev (crT N p v) = D at *
  generalize crT N p v = T at *
  generalize otC N p = q at *
  unfold netV at XO XC XD RR RO RC RD
  have e1 : (q == q) = true := by simp
  have e2 : (T == T) = true := by simp
  have e3 : (D == D) = true := by simp
  by_cases t0 : T = 0
  · rw [crV_no t0] at XC RC
    rw [dmV_no t0] at XD RD
    clear t0
    replace XO := Lib.hid XO
    replace XC := Lib.hid XC
    replace XD := Lib.hid XD
    replace RR := Lib.hid RR
    replace RO := Lib.hid RO
    replace RC := Lib.hid RC
    replace RD := Lib.hid RD
    go_wp2_with (first
      | (go_at_call 7; (with_reducible refine (XO.out _ X1.out).mono ?_); rintro e w2_ ⟨rfl, hb⟩; have Y2 := Lib.hid (trans_below Y1.out hb); have X2 := Lib.hid (KN.out _ Y2.out).2; obtain ⟨f0, f1, f2, f3, f4, f5, f6, f7⟩ := (KN.out _ Y2.out).1; clear hb)
      | (go_at_call 8; (with_reducible refine (XC.out _ X2.out).mono ?_); rintro e w3_ ⟨rfl, hb⟩; have Y3 := Lib.hid (trans_below Y2.out hb); have X3 := Lib.hid (KN.out _ Y3.out).2; obtain ⟨f0, f1, f2, f3, f4, f5, f6, f7⟩ := (KN.out _ Y3.out).1; clear hb)
      | (go_at_call 9; (with_reducible refine (XD.out _ X3.out).mono ?_); rintro e w4_ ⟨rfl, hb⟩; have Y4 := Lib.hid (trans_below Y3.out hb); have X4 := Lib.hid (KN.out _ Y4.out).2; obtain ⟨f0, f1, f2, f3, f4, f5, f6, f7⟩ := (KN.out _ Y4.out).1; clear hb)
      | (go_at_call 10; (with_reducible refine (RR.out _ X4.out).mono ?_); rintro e w5_ ⟨rfl, hb⟩; have Y5 := Lib.hid (trans_below Y4.out hb); have X5 := Lib.hid (KN.out _ Y5.out).2; obtain ⟨f0, f1, f2, f3, f4, f5, f6, f7⟩ := (KN.out _ Y5.out).1; clear hb)
      | (go_at_call 11; (with_reducible refine (RC.out _ X5.out).mono ?_); rintro e w6_ ⟨rfl, hb⟩; have Y6 := Lib.hid (trans_below Y5.out hb); have X6 := Lib.hid (KN.out _ Y6.out).2; obtain ⟨f0, f1, f2, f3, f4, f5, f6, f7⟩ := (KN.out _ Y6.out).1; clear hb)
      | (go_at_call 12; (with_reducible refine (RD.out _ X6.out).mono ?_); rintro e w7_ ⟨rfl, hb⟩; have Y7 := Lib.hid (trans_below Y6.out hb); have X7 := Lib.hid (KN.out _ Y7.out).2; obtain ⟨f0, f1, f2, f3, f4, f5, f6, f7⟩ := (KN.out _ Y7.out).1; clear hb)
      | (go_at_call 13; (with_reducible refine (RO.out _ X7.out).mono ?_); rintro e w8_ ⟨rfl, hb⟩; have Y8 := Lib.hid (trans_below Y7.out hb); have X8 := Lib.hid (KN.out _ Y8.out).2; obtain ⟨f0, f1, f2, f3, f4, f5, f6, f7⟩ := (KN.out _ Y8.out).1; clear hb)
      | (go_at_call 6; (with_reducible refine (works17_any _).mono ?_); rintro e w9_ ⟨rfl, hb⟩; have Y9 := Lib.hid (trans_below Y8.out hb); have X9 := Lib.hid (KN.out _ Y9.out).2; obtain ⟨f0, f1, f2, f3, f4, f5, f6, f7⟩ := (KN.out _ Y9.out).1; clear hb))
    go_ret
    exact ⟨by first | rfl | simp, X9.out⟩
  · rw [crV_yes t0] at XC RC
    rw [dmV_yes t0] at XD RD
    clear t0
    replace XO := Lib.hid XO
    replace XC := Lib.hid XC
    replace XD := Lib.hid XD
    replace RR := Lib.hid RR
    replace RO := Lib.hid RO
    replace RC := Lib.hid RC
    replace RD := Lib.hid RD
    go_wp2_with (first
      | (go_at_call 7; (with_reducible refine (XO.out _ X1.out).mono ?_); rintro e w2_ ⟨rfl, hb⟩; have Y2 := Lib.hid (trans_below Y1.out hb); have X2 := Lib.hid (KN.out _ Y2.out).2; obtain ⟨f0, f1, f2, f3, f4, f5, f6, f7⟩ := (KN.out _ Y2.out).1; clear hb)
      | (go_at_call 8; (with_reducible refine (XC.out _ X2.out).mono ?_); rintro e w3_ ⟨rfl, hb⟩; have Y3 := Lib.hid (trans_below Y2.out hb); have X3 := Lib.hid (KN.out _ Y3.out).2; obtain ⟨f0, f1, f2, f3, f4, f5, f6, f7⟩ := (KN.out _ Y3.out).1; clear hb)
      | (go_at_call 9; (with_reducible refine (XD.out _ X3.out).mono ?_); rintro e w4_ ⟨rfl, hb⟩; have Y4 := Lib.hid (trans_below Y3.out hb); have X4 := Lib.hid (KN.out _ Y4.out).2; obtain ⟨f0, f1, f2, f3, f4, f5, f6, f7⟩ := (KN.out _ Y4.out).1; clear hb)
      | (go_at_call 10; (with_reducible refine (RR.out _ X4.out).mono ?_); rintro e w5_ ⟨rfl, hb⟩; have Y5 := Lib.hid (trans_below Y4.out hb); have X5 := Lib.hid (KN.out _ Y5.out).2; obtain ⟨f0, f1, f2, f3, f4, f5, f6, f7⟩ := (KN.out _ Y5.out).1; clear hb)
      | (go_at_call 11; (with_reducible refine (RC.out _ X5.out).mono ?_); rintro e w6_ ⟨rfl, hb⟩; have Y6 := Lib.hid (trans_below Y5.out hb); have X6 := Lib.hid (KN.out _ Y6.out).2; obtain ⟨f0, f1, f2, f3, f4, f5, f6, f7⟩ := (KN.out _ Y6.out).1; clear hb)
      | (go_at_call 12; (with_reducible refine (RD.out _ X6.out).mono ?_); rintro e w7_ ⟨rfl, hb⟩; have Y7 := Lib.hid (trans_below Y6.out hb); have X7 := Lib.hid (KN.out _ Y7.out).2; obtain ⟨f0, f1, f2, f3, f4, f5, f6, f7⟩ := (KN.out _ Y7.out).1; clear hb)
      | (go_at_call 13; (with_reducible refine (RO.out _ X7.out).mono ?_); rintro e w8_ ⟨rfl, hb⟩; have Y8 := Lib.hid (trans_below Y7.out hb); have X8 := Lib.hid (KN.out _ Y8.out).2; obtain ⟨f0, f1, f2, f3, f4, f5, f6, f7⟩ := (KN.out _ Y8.out).1; clear hb)
      | (go_at_call 6; (with_reducible refine (works17_any _).mono ?_); rintro e w9_ ⟨rfl, hb⟩; have Y9 := Lib.hid (trans_below Y8.out hb); have X9 := Lib.hid (KN.out _ Y9.out).2; obtain ⟨f0, f1, f2, f3, f4, f5, f6, f7⟩ := (KN.out _ Y9.out).1; clear hb))
    go_ret
    exact ⟨by first | rfl | simp, X9.out⟩
set_option maxRecDepth 20000 in
set_option maxHeartbeats 8000000 in
theorem lback_walk (N : NV) (S : NSl3) (p a b : Int) (w : World) (h : NRead w (allB w) N S) : Calls Try.prog 4 #[netV S, .int .i64 p, .int .i64 a, .int .i64 b] w fun e w' => e = .returned (.bool true) ∧ Below w.heap.size w w' := by
  have U := Lib.hid (fun (w' : World) (hb : Below w.heap.size w w') => h.up hb)
  have NB := Lib.hid (NBox.new w S 31)
  have G1 := fun (w' : World) (hb : Below w.heap.size w w') => ngreat_any N S w' (h.up hb)
  have hpt := h.pt
  clear h
  unfold netV at G1 ⊢
  replace G1 := Lib.hid G1
  have HP := Lib.hid hpt
  have hle := hpt.le
  have hcap := hpt.cap
  clear hpt
  go_enter Try.func4, Try.ntmps4
  go_upto_region 1 with fail
  obtain ⟨w1, hw1⟩ : ∃ w1, w.alloc (.cells (nA S) 31) = w1 := ⟨_, rfl⟩
  have B0 := Lib.hid (show Below w.heap.size w w1 by rw [← hw1]; exact alloc_below _ _)
  rw [hw1] at NB ⊢
  clear hw1
  have KN := Lib.hid (show ∀ wx, Below w1.heap.size w1 wx → (NF wx w.heap.size S) ∧ Below w.heap.size w wx from fun wx hx => by
    have nb := NB.out.below hx
    exact ⟨⟨nb.c0, nb.c1, nb.c2, nb.c3, nb.c4, nb.c5, nb.c6, nb.c7⟩, B0.out.trans (hx.mono B0.out.size)⟩)
  obtain ⟨f0, f1, f2, f3, f4, f5, f6, f7⟩ := (KN.out w1 (Below.refl _ _)).1
  have Y0 := Lib.hid (Below.refl w1.heap.size w1)
  have X0 := Lib.hid B0.out
  go_wp2_with (first | (go_at_call 6; (with_reducible refine (works17_any _).mono ?_); rintro e w1_ ⟨rfl, hb⟩; have Y1 := Lib.hid (trans_below Y0.out hb); have X1 := Lib.hid (KN.out _ Y1.out).2; obtain ⟨f0, f1, f2, f3, f4, f5, f6, f7⟩ := (KN.out _ Y1.out).1; clear hb) | (go_at_call 5; (with_reducible refine (G1.out _ X1.out).mono ?_); rintro e w2_ ⟨g, rfl, hg, hb⟩; have Y2 := Lib.hid (trans_below Y1.out hb); have X2 := Lib.hid (KN.out _ Y2.out).2; obtain ⟨f0, f1, f2, f3, f4, f5, f6, f7⟩ := (KN.out _ Y2.out).1; clear hb; have HG := Lib.hid hg; clear hg; cases g))
  rotate_left
  · go_wp2
    go_ret
    exact ⟨rfl, X2.out⟩
  have SN := HG.out (by simp)
  have XC := fun (p v : Int) (w' : World) (hb : Below w.heap.size w w') => xcross_any N S p v w' (U.out w' hb) SN
  clear SN
  by_cases t0 : crX N p a = 0
  · have XA := XC p a
    rw [crV_no t0] at XA
    unfold netV at XA
    replace XA := Lib.hid XA
    clear t0 XC
    go_wp2_with ((go_at_call 8; (with_reducible refine (XA.out _ X2.out).mono ?_); rintro e w3_ ⟨rfl, hb⟩; have Y3 := Lib.hid (trans_below Y2.out hb); have X3 := Lib.hid (KN.out _ Y3.out).2; obtain ⟨f0, f1, f2, f3, f4, f5, f6, f7⟩ := (KN.out _ Y3.out).1; clear hb))
    go_ret
    exact ⟨by first | rfl | simp, X3.out⟩
  have hb : netB N = true := by
    unfold crX at t0
    by_cases e : netB N = true
    · exact e
    · rw [if_neg e] at t0; exact absurd rfl t0
  have hn := (netB_iff N).1 hb
  simp only [otX_ok hn, crX_ok hn] at t0 XC
  have XA := XC p a
  have XB := XC (otC N p) (crT N p a)
  have XE := XC p b
  have bk := cr_back hn t0
  have ho := cr_no t0
  obtain ⟨i1, i2, i3, i4, _⟩ := ot_ok hn ho
  have ha : a ≠ 0 := fun e => t0 (by rw [cr_ac ho, e]; unfold acF; rw [if_neg (fun g => g.1 rfl)]; split <;> rfl)
  rw [crV_yes t0] at XA
  rw [i3, bk, crV_yes ha] at XB
  have mb : mbrB (ptA N (otC N p)) (crT N p a) = true := by rw [cr_ac ho]; rw [cr_ac ho] at t0; exact ac_member t0
  have hbb : crT N p b ≠ 0 → (crT N p b == crT N p a) = (a == b) := fun g => by
    by_cases e : a = b
    · rw [e]; simp
    · rw [beq_eq_false_iff_ne.2 e, beq_eq_false_iff_ne]
      intro f
      have := cr_back hn g
      rw [f, bk] at this
      exact e this
  obtain ⟨x, hx, hx2⟩ := plB_nat i1
  obtain ⟨y, hy, hy2⟩ := plB_nat i2
  have PL := HP.out.len
  have hxl : x < S.pt.n := by omega
  have hyl : y < S.pt.n := by omega
  unfold ptA at mb i4
  rw [hy, hx, show ((x : Int)).toNat = x from rfl, show ((y : Int)).toNat = y from rfl] at i4
  rw [hy, show ((y : Int)).toNat = y from rfl] at mb
  subst hx
  rw [hy] at XA XB XE
  generalize crT N (x : Int) a = T at *
  generalize crT N (x : Int) b = T2 at *
  clear hb hn ho i1 i2 i3 hy t0 ha bk PL XC hx2 hy2
  obtain ⟨bp, op, vp, ep, _, hbp, ⟨s, rfl, lp⟩, rp⟩ := rsl_at HP.out x hxl PortV.zero
  obtain ⟨bq, oq, vq, eq_, _, _, ⟨t, rfl, lq⟩, rq⟩ := rsl_at HP.out y hyl PortV.zero
  rw [ep] at eq_
  injection eq_ with eq_
  injection eq_ with h1 h2
  subst h1 h2
  have RP := rangeAt_keep rp (B0.out.block bp hbp)
  have RQ := rangeAt_keep rq (B0.out.block bp hbp)
  have p0 := RP 0 _ rfl
  have q0 := RQ 0 _ rfl
  have p1 := RP 1 _ rfl
  have q1 := RQ 1 _ rfl
  have p2 := RP 2 _ rfl
  have q2 := RQ 2 _ rfl
  have p3 := RP 3 _ rfl
  have q3 := RQ 3 _ rfl
  have p4 := RP 4 _ rfl
  have q4 := RQ 4 _ rfl
  have p5 := RP 5 _ rfl
  have q5 := RQ 5 _ rfl
  have p6 := RP 6 _ rfl
  have q6 := RQ 6 _ rfl
  simp only [Nat.add_zero] at p0 q0
  rw [show op + x * portR.n = op + x * 7 from rfl] at p0 p1 p2 p3 p4 p5 p6
  rw [show op + y * portR.n = op + y * 7 from rfl] at q0 q1 q2 q3 q4 q5 q6
  have lx : (x : Int) < (S.pt.n : Int) := by omega
  have ly : (y : Int) < (S.pt.n : Int) := by omega
  generalize N.ports.getD x PortV.zero = P at *
  generalize N.ports.getD y PortV.zero = Q at *
  have MB := fun (w' : World) (hb : Below w.heap.size w w') => member_any2 Q t T w' (allB w') (fun _ h => h) (up_rsl lq hb)
  rw [mb] at MB
  have EQ := Lib.hid ep
  have z4 : (Q.dev != P.dev) = true := by simpa using i4
  have e1 : ((x : Int) == (x : Int)) = true := by simp
  have e2 : (a == a) = true := by simp
  have lx1 : ¬ (x : Int) < 0 := by omega
  have ly1 : ¬ (y : Int) < 0 := by omega
  have lx2 : ¬ (x : Int) ≥ (S.pt.n : Int) := by omega
  have ly2 : ¬ (y : Int) ≥ (S.pt.n : Int) := by omega
  have hbp1 : bp < w1.heap.size := Nat.lt_of_lt_of_le hbp B0.out.size
  have SK := show ∀ wx, Below w1.heap.size w1 wx → (wx.cell? ⟨bp, op + x * 7, none⟩ = some (.int .i64 P.row) ∧ wx.cell? ⟨bp, op + x * 7 + 1, none⟩ = some (.int .i64 P.dev) ∧ wx.cell? ⟨bp, op + x * 7 + 2, none⟩ = some (.int .i64 P.native) ∧ wx.cell? ⟨bp, op + x * 7 + 3, none⟩ = some (.int .i64 P.cost) ∧ wx.cell? ⟨bp, op + x * 7 + 4, none⟩ = some (.int .i64 P.link) ∧ wx.cell? ⟨bp, op + x * 7 + 5, none⟩ = some (.string (str P.name)) ∧ wx.cell? ⟨bp, op + x * 7 + 6, none⟩ = some (.slice s.A s.n s.c) ∧ wx.cell? ⟨bp, op + y * 7, none⟩ = some (.int .i64 Q.row) ∧ wx.cell? ⟨bp, op + y * 7 + 1, none⟩ = some (.int .i64 Q.dev) ∧ wx.cell? ⟨bp, op + y * 7 + 2, none⟩ = some (.int .i64 Q.native) ∧ wx.cell? ⟨bp, op + y * 7 + 3, none⟩ = some (.int .i64 Q.cost) ∧ wx.cell? ⟨bp, op + y * 7 + 4, none⟩ = some (.int .i64 Q.link) ∧ wx.cell? ⟨bp, op + y * 7 + 5, none⟩ = some (.string (str Q.name)) ∧ wx.cell? ⟨bp, op + y * 7 + 6, none⟩ = some (.slice t.A t.n t.c)) from fun wx hx => ⟨(hx.cell (p := ⟨bp, _, none⟩) hbp1).trans p0, (hx.cell (p := ⟨bp, _, none⟩) hbp1).trans p1, (hx.cell (p := ⟨bp, _, none⟩) hbp1).trans p2, (hx.cell (p := ⟨bp, _, none⟩) hbp1).trans p3, (hx.cell (p := ⟨bp, _, none⟩) hbp1).trans p4, (hx.cell (p := ⟨bp, _, none⟩) hbp1).trans p5, (hx.cell (p := ⟨bp, _, none⟩) hbp1).trans p6, (hx.cell (p := ⟨bp, _, none⟩) hbp1).trans q0, (hx.cell (p := ⟨bp, _, none⟩) hbp1).trans q1, (hx.cell (p := ⟨bp, _, none⟩) hbp1).trans q2, (hx.cell (p := ⟨bp, _, none⟩) hbp1).trans q3, (hx.cell (p := ⟨bp, _, none⟩) hbp1).trans q4, (hx.cell (p := ⟨bp, _, none⟩) hbp1).trans q5, (hx.cell (p := ⟨bp, _, none⟩) hbp1).trans q6⟩
  replace SK := Lib.hid SK
  clear rp rq RP RQ lp lq i4 mb ep p0 p1 p2 p3 p4 p5 p6 q0 q1 q2 q3 q4 q5 q6
  unfold netV at XA XB XE
  by_cases g2 : T2 = 0
  · rw [crV_no g2] at XE
    clear g2 hbb
    replace XA := Lib.hid XA
    replace XB := Lib.hid XB
    replace XE := Lib.hid XE
    replace MB := Lib.hid MB
    have KN2 := KN.out
    unfold NF at KN2
    rw [EQ.out] at KN2
    replace KN2 := Lib.hid KN2
    go_upto_region 12 with (first | (go_at_call 8; (with_reducible refine (XA.out _ X2.out).mono ?_); rintro e w3_ ⟨rfl, hb⟩; have Y3 := Lib.hid (trans_below Y2.out hb); have X3 := Lib.hid (KN.out _ Y3.out).2; obtain ⟨f0, f1, f2, f3, f4, f5, f6, f7⟩ := (KN.out _ Y3.out).1; clear hb) | (go_at_call 8; (with_reducible refine (XB.out _ X3.out).mono ?_); rintro e w4_ ⟨rfl, hb⟩; have Y4 := Lib.hid (trans_below Y3.out hb); have X4 := Lib.hid (KN.out _ Y4.out).2; obtain ⟨f0, f1, f2, f3, f4, f5, f6, f7⟩ := (KN.out _ Y4.out).1; clear hb) | (go_at_call 8; (with_reducible refine (XE.out _ X4.out).mono ?_); rintro e w5_ ⟨rfl, hb⟩; have Y5 := Lib.hid (trans_below Y4.out hb); have X5 := Lib.hid (KN.out _ Y5.out).2; obtain ⟨f0, f1, f2, f3, f4, f5, f6, f7⟩ := (KN.out _ Y5.out).1; clear hb))
    refine wp_region_text (fun wx => Below w1.heap.size w1 wx) (by kernel_rfl) (by kernel_rfl) (below_drewN Y5.out 1) ?_
    repeat
      first
        | (refine Seq.pass rfl ?_; simp only [Act.put, List.setIfInBounds_toArray, List.set_cons_zero, List.set_cons_succ])
        | (refine Seq.run ?_ rfl (fun wx hx => ?_) ?_
           rotate_left
           · obtain ⟨⟨f0, f1, f2, f3, f4, f5, f6, f7⟩, hBx⟩ := KN2.out wx hx
             obtain ⟨p0, p1, p2, p3, p4, p5, p6, q0, q1, q2, q3, q4, q5, q6⟩ := SK.out wx hx
             go_simp
             first
               | (refine StepRun.val ?_; exact hx)
               | (refine StepRun.call (v := .bool true) ?_; (with_reducible refine Calls.mono (MB.out _ hBx) ?_); rintro e w' ⟨rfl, hb⟩; exact ⟨rfl, trans_below hx hb⟩)
           simp only [Act.put, List.setIfInBounds_toArray, List.set_cons_zero, List.set_cons_succ])
    refine Seq.last (fun w7 h7 => ?_)
    have B7 := Lib.hid (KN2.out _ h7).2
    go_wp2
    go_ret
    exact ⟨by first | rfl | simp, B7.out⟩
  rw [crV_yes g2] at XE
  have ee := hbb g2
  clear g2 hbb
  obtain ⟨c, hc⟩ : ∃ c, (a == b) = c := ⟨_, rfl⟩
  rw [hc] at ee
  have e3 : (c == c) = true := by cases c <;> rfl
  cases c
  · replace XA := Lib.hid XA
    replace XB := Lib.hid XB
    replace XE := Lib.hid XE
    replace MB := Lib.hid MB
    have KN2 := KN.out
    unfold NF at KN2
    rw [EQ.out] at KN2
    replace KN2 := Lib.hid KN2
    go_upto_region 12 with (first | (go_at_call 8; (with_reducible refine (XA.out _ X2.out).mono ?_); rintro e w3_ ⟨rfl, hb⟩; have Y3 := Lib.hid (trans_below Y2.out hb); have X3 := Lib.hid (KN.out _ Y3.out).2; obtain ⟨f0, f1, f2, f3, f4, f5, f6, f7⟩ := (KN.out _ Y3.out).1; clear hb) | (go_at_call 8; (with_reducible refine (XB.out _ X3.out).mono ?_); rintro e w4_ ⟨rfl, hb⟩; have Y4 := Lib.hid (trans_below Y3.out hb); have X4 := Lib.hid (KN.out _ Y4.out).2; obtain ⟨f0, f1, f2, f3, f4, f5, f6, f7⟩ := (KN.out _ Y4.out).1; clear hb) | (go_at_call 8; (with_reducible refine (XE.out _ X4.out).mono ?_); rintro e w5_ ⟨rfl, hb⟩; have Y5 := Lib.hid (trans_below Y4.out hb); have X5 := Lib.hid (KN.out _ Y5.out).2; obtain ⟨f0, f1, f2, f3, f4, f5, f6, f7⟩ := (KN.out _ Y5.out).1; clear hb))
    refine wp_region_text (fun wx => Below w1.heap.size w1 wx) (by kernel_rfl) (by kernel_rfl) (below_drewN Y5.out 1) ?_
    repeat
      first
        | (refine Seq.pass rfl ?_; simp only [Act.put, List.setIfInBounds_toArray, List.set_cons_zero, List.set_cons_succ])
        | (refine Seq.run ?_ rfl (fun wx hx => ?_) ?_
           rotate_left
           · obtain ⟨⟨f0, f1, f2, f3, f4, f5, f6, f7⟩, hBx⟩ := KN2.out wx hx
             obtain ⟨p0, p1, p2, p3, p4, p5, p6, q0, q1, q2, q3, q4, q5, q6⟩ := SK.out wx hx
             go_simp
             first
               | (refine StepRun.val ?_; exact hx)
               | (refine StepRun.call (v := .bool true) ?_; (with_reducible refine Calls.mono (MB.out _ hBx) ?_); rintro e w' ⟨rfl, hb⟩; exact ⟨rfl, trans_below hx hb⟩)
           simp only [Act.put, List.setIfInBounds_toArray, List.set_cons_zero, List.set_cons_succ])
    refine Seq.last (fun w7 h7 => ?_)
    have B7 := Lib.hid (KN2.out _ h7).2
    go_wp2
    go_ret
    exact ⟨by first | rfl | simp, B7.out⟩
  · replace XA := Lib.hid XA
    replace XB := Lib.hid XB
    replace XE := Lib.hid XE
    replace MB := Lib.hid MB
    have KN2 := KN.out
    unfold NF at KN2
    rw [EQ.out] at KN2
    replace KN2 := Lib.hid KN2
    go_upto_region 12 with (first | (go_at_call 8; (with_reducible refine (XA.out _ X2.out).mono ?_); rintro e w3_ ⟨rfl, hb⟩; have Y3 := Lib.hid (trans_below Y2.out hb); have X3 := Lib.hid (KN.out _ Y3.out).2; obtain ⟨f0, f1, f2, f3, f4, f5, f6, f7⟩ := (KN.out _ Y3.out).1; clear hb) | (go_at_call 8; (with_reducible refine (XB.out _ X3.out).mono ?_); rintro e w4_ ⟨rfl, hb⟩; have Y4 := Lib.hid (trans_below Y3.out hb); have X4 := Lib.hid (KN.out _ Y4.out).2; obtain ⟨f0, f1, f2, f3, f4, f5, f6, f7⟩ := (KN.out _ Y4.out).1; clear hb) | (go_at_call 8; (with_reducible refine (XE.out _ X4.out).mono ?_); rintro e w5_ ⟨rfl, hb⟩; have Y5 := Lib.hid (trans_below Y4.out hb); have X5 := Lib.hid (KN.out _ Y5.out).2; obtain ⟨f0, f1, f2, f3, f4, f5, f6, f7⟩ := (KN.out _ Y5.out).1; clear hb))
    refine wp_region_text (fun wx => Below w1.heap.size w1 wx) (by kernel_rfl) (by kernel_rfl) (below_drewN Y5.out 1) ?_
    repeat
      first
        | (refine Seq.pass rfl ?_; simp only [Act.put, List.setIfInBounds_toArray, List.set_cons_zero, List.set_cons_succ])
        | (refine Seq.run ?_ rfl (fun wx hx => ?_) ?_
           rotate_left
           · obtain ⟨⟨f0, f1, f2, f3, f4, f5, f6, f7⟩, hBx⟩ := KN2.out wx hx
             obtain ⟨p0, p1, p2, p3, p4, p5, p6, q0, q1, q2, q3, q4, q5, q6⟩ := SK.out wx hx
             go_simp
             first
               | (refine StepRun.val ?_; exact hx)
               | (refine StepRun.call (v := .bool true) ?_; (with_reducible refine Calls.mono (MB.out _ hBx) ?_); rintro e w' ⟨rfl, hb⟩; exact ⟨rfl, trans_below hx hb⟩)
           simp only [Act.put, List.setIfInBounds_toArray, List.set_cons_zero, List.set_cons_succ])
    refine Seq.last (fun w7 h7 => ?_)
    have B7 := Lib.hid (KN2.out _ h7).2
    go_wp2
    go_ret
    exact ⟨by first | rfl | simp, B7.out⟩
end Go.Proofs.Ytnpembgchmmbjaa
