/- palingref17.Other, Cross, Domain. (Made by mk-lkref.py.) -/
import Derived.Test.YtnpembgchmmbjaaLkMath
import Derived.Test.YtnpembgchmmbjaaNnLink
import Derived.Deep.CutBlock
import Derived.Deep.DeepCutAuto
import Derived.Deep.RegionHeldLaw
namespace Go.Proofs.Ytnpembgchmmbjaa
open Go.RowKit

set_option maxRecDepth 20000 in
set_option maxHeartbeats 2000000 in
theorem rother_any (N : NV) (S : NSl3) (p : Int) (w : World) (h : NRead w (allB w) N S) : Calls Try.prog 13 #[netV S, .int .i64 p] w fun e w' => e = .returned (.int .i64 (otF N p)) ∧ Below w.heap.size w w' := by
  have H := Lib.hid h.lk
  have hle := h.lk.le
  have hcap := h.lk.cap
  have HL := Lib.hid h.lk.len
  have E := Lib.hid (show otF N p = otK (N.links.drop 0) p from rfl)
  generalize otF N p = V at *
  have NB := Lib.hid (NBox.new w S 31)
  clear h
  unfold netV
  go_enter Try.func13, Try.ntmps13
  go_wp2
  obtain ⟨w1, hw1⟩ : ∃ w1, w.alloc (.cells (nA S) 31) = w1 := ⟨_, rfl⟩
  have B1 := Lib.hid (show Below w.heap.size w w1 by rw [← hw1]; exact (Below.refl _ _).alloc (Nat.le_refl _) _)
  rw [hw1] at NB ⊢
  clear hw1
  have c3 := NB.out.c2
  go_loopw [5] (fun i wr => ∃ k : Nat, i = .int .i64 k ∧ k ≤ S.lk.n ∧ wr = w1 ∧ V = otK (N.links.drop k) p) (fun i _ => match i with | .int _ y => (S.lk.n - y).toNat | _ => 0)
  case atStart => exact ⟨0, rfl, by omega, rfl, E.out⟩
  case round =>
    obtain ⟨k, rfl, hk, hwr, hv⟩ := hrel
    subst hwr
    have HV := Lib.hid hv
    clear hv
    by_cases hlt : k < S.lk.n
    · obtain ⟨b0, o0, vs, e0, _, hb0, hvs, r0⟩ := rsl_at H.out k hlt LinkV.zero
      have hvs : vs = linkC (N.links.getD k LinkV.zero) := hvs
      subst hvs
      have hk2 : k < N.links.length := by rw [HL.out]; exact hlt
      have AT := Lib.hid (otK_at hk2 p)
      generalize N.links.getD k LinkV.zero = D at *
      have R1 := rangeAt_keep r0 (B1.out.block b0 hb0)
      have d1 := R1 1 _ rfl
      have d2 := R1 2 _ rfl
      rw [show o0 + k * linkR.n = o0 + k * 3 from rfl] at d1 d2
      have lt2 : (k : Int) < (S.lk.n : Int) := by omega
      rw [e0] at c3 ⊢
      clear r0 R1 hk2
      by_cases ha : D.a = p
      · have x1 : (D.a == p) = true := by simpa using ha
        have EV := Lib.hid (show V = D.b by rw [HV.out, AT.out, if_pos ha])
        clear ha
        go_wp2
        go_ret
        exact ⟨by rw [EV.out]; rfl, B1.out⟩
      have x1 : (D.a == p) = false := by simpa using ha
      by_cases hb : D.b = p
      · have x2 : (D.b == p) = true := by simpa using hb
        have EV := Lib.hid (show V = D.a by rw [HV.out, AT.out, if_neg ha, if_pos hb])
        clear ha hb
        go_wp2
        go_ret
        exact ⟨by rw [EV.out]; rfl, B1.out⟩
      have x2 : (D.b == p) = false := by simpa using hb
      have EV := Lib.hid (show V = otK (N.links.drop (k + 1)) p by rw [HV.out, AT.out, if_neg ha, if_neg hb])
      clear ha hb
      go_wp2
      go_roundw
      case rel => exact ⟨k + 1, by simp, by omega, (by first | rfl | trivial), EV.out⟩
      case measure => simp only []; omega
    · have lt2 : ¬ (k : Int) < (S.lk.n : Int) := by omega
      have EV := Lib.hid (show V = -1 by rw [HV.out, List.drop_of_length_le (by rw [HL.out]; omega)]; rfl)
      go_wp2
      go_ret
      exact ⟨by rw [EV.out]; rfl, B1.out⟩
/-- what crosses, as a call tells it: the port q, the VLAN t, or nothing -/
def crV (q t : Int) : Value := if t = 0 then .tuple #[.int .i64 0, .int .i64 0, .bool false] else .tuple #[.int .i64 q, .int .i64 t, .bool true]
theorem crV_no {q t : Int} (h : t = 0) : crV q t = .tuple #[.int .i64 0, .int .i64 0, .bool false] := if_pos h
theorem crV_yes {q t : Int} (h : t ≠ 0) : crV q t = .tuple #[.int .i64 q, .int .i64 t, .bool true] := if_neg h
set_option maxRecDepth 20000 in
set_option maxHeartbeats 8000000 in
theorem rcross_any (N : NV) (S : NSl3) (p v : Int) (w : World) (h : NRead w (allB w) N S) (hn : NetOk N) : Calls Try.prog 11 #[netV S, .int .i64 p, .int .i64 v] w fun e w' => e = .returned (crV (otC N p) (crT N p v)) ∧ Below w.heap.size w w' := by
  have HP := Lib.hid h.pt
  have hle := h.pt.le
  have hcap := h.pt.cap
  have PL := h.pt.len
  have U := Lib.hid (fun (w' : World) (hb : Below w.heap.size w w') => h.up hb)
  have RO := fun (w' : World) (hb : Below w.heap.size w w') => rother_any N S p w' (h.up hb)
  rw [ot_eq hn] at RO
  have HO := fun g => ot_ok hn (p := p) g
  have HC := fun g => cr_ac (N := N) (p := p) (v := v) g
  have H0 : otC N p = -1 → crT N p v = 0 := fun g => by unfold crT; rw [if_pos g]
  have PX := fun (x : Nat) (hx : x < N.ports.length) => hn.pt x hx
  unfold ptA at HO HC
  generalize crT N p v = T at *
  generalize otC N p = q at *
  unfold netV at RO ⊢
  replace RO := Lib.hid RO
  replace HO := Lib.hid HO
  replace HC := Lib.hid HC
  replace H0 := Lib.hid H0
  replace PX := Lib.hid PX
  have NB := Lib.hid (NBox.new w S 31)
  clear h hn
  go_enter Try.func11, Try.ntmps11
  go_upto_region 1 with fail
  obtain ⟨w1, hw1⟩ : ∃ w1, w.alloc (.cells (nA S) 31) = w1 := ⟨_, rfl⟩
  have B1 := Lib.hid (show Below w.heap.size w w1 by rw [← hw1]; exact alloc_below _ _)
  rw [hw1] at NB ⊢
  clear hw1
  obtain ⟨c0, c1, c2, c3, c4, c5, c6, c7, ql⟩ := NB.out
  go_upto_region 2 with (go_at_call 13; (with_reducible refine (RO.out _ B1.out).mono ?_); rintro e W ⟨rfl, hb⟩; have B0 := Lib.hid (trans_below B1.out hb); have YB := Lib.hid (NB.out.below hb); clear hb)
  clear c0 c1 c2 c3 c4 c5 c6 c7 ql
  rename World => W
  obtain ⟨_, c1, _, _, _, _, _, _, ql⟩ := YB.out
  by_cases g0 : q = -1
  · have EV := Lib.hid (show T = 0 from H0.out g0)
    subst g0
    have z1 : (-1 : Int) < 0 := by omega
    clear HO HC H0 PX
    go_wp2
    exact bodyPost_ret (v := .tuple #[.int .i64 0, .int .i64 0, .bool false]) (by simp [results, Try.results11, go_sem]) rfl ⟨by rw [crV_no EV.out], B0.out⟩
  obtain ⟨i1, i2, _, _, _⟩ := HO.out g0
  have ET := Lib.hid (HC.out g0)
  obtain ⟨x, rfl, hx⟩ := plB_nat i1
  obtain ⟨y, rfl, hy⟩ := plB_nat i2
  have hxl : x < S.pt.n := by omega
  have hyl : y < S.pt.n := by omega
  rw [show ((x : Int)).toNat = x from rfl, show ((y : Int)).toNat = y from rfl] at ET
  have OX := PX.out x hx
  have OY := PX.out y hy
  clear i1 i2 g0 HO HC H0 PX RO PL
  have z1 : ¬ (y : Int) < 0 := by omega
  by_cases v0 : v = 0
  · have z2 : (v == 0) = true := by simpa using v0
    have EV := Lib.hid (show T = 0 by rw [ET.out, ← ac_eq OX OY]; unfold racF; rw [if_pos v0])
    clear OX OY v0 ET
    go_wp2
    exact bodyPost_ret (v := .tuple #[.int .i64 0, .int .i64 0, .bool false]) (by simp [results, Try.results11, go_sem]) rfl ⟨by rw [crV_no EV.out], B0.out⟩
  have z2 : (v == 0) = false := by simpa using v0
  go_upto_region 4 with fail
  obtain ⟨bp, op, vp, ep, _, hbp, ⟨s, rfl, lp⟩, rp⟩ := rsl_at HP.out x hxl PortV.zero
  obtain ⟨bq, oq, vq, eq_, _, _, ⟨t, rfl, lq⟩, rq⟩ := rsl_at HP.out y hyl PortV.zero
  rw [ep] at eq_
  injection eq_ with eq_
  injection eq_ with h1 h2
  subst h1 h2
  have RP := rangeAt_keep rp (B0.out.block bp hbp)
  have RQ := rangeAt_keep rq (B0.out.block bp hbp)
  have p0 := RP 0 _ rfl
  have q0 := RQ 0 _ rfl
  have p1 := RP 1 _ rfl
  have q1 := RQ 1 _ rfl
  have p2 := RP 2 _ rfl
  have q2 := RQ 2 _ rfl
  have p3 := RP 3 _ rfl
  have q3 := RQ 3 _ rfl
  have p4 := RP 4 _ rfl
  have q4 := RQ 4 _ rfl
  have p5 := RP 5 _ rfl
  have q5 := RQ 5 _ rfl
  have p6 := RP 6 _ rfl
  have q6 := RQ 6 _ rfl
  simp only [Nat.add_zero] at p0 q0
  rw [show op + x * portR.n = op + x * 7 from rfl] at p0 p1 p2 p3 p4 p5 p6
  rw [show op + y * portR.n = op + y * 7 from rfl] at q0 q1 q2 q3 q4 q5 q6
  have lx : (x : Int) < (S.pt.n : Int) := by omega
  have ly : (y : Int) < (S.pt.n : Int) := by omega
  generalize N.ports.getD x PortV.zero = P at *
  generalize N.ports.getD y PortV.zero = Q at *
  replace ET := Lib.hid (show T = racF P Q v by rw [ET.out, ac_eq OX OY])
  have LP := Lib.hid lp
  have LQ := Lib.hid lq
  rw [ep] at c1
  have hbp1 : bp < W.heap.size := Nat.lt_of_lt_of_le hbp B0.out.size
  clear rp rq RP RQ ep OX OY lp lq
  have SK := Lib.hid (show ∀ wx, Below W.heap.size W wx → (wx.cell? ⟨w.heap.size, 1, none⟩ = some (.slice (some ⟨bp, op, none⟩) S.pt.n S.pt.c) ∧ wx.cell? ⟨bp, op + x * 7, none⟩ = some (.int .i64 P.row) ∧ wx.cell? ⟨bp, op + x * 7 + 1, none⟩ = some (.int .i64 P.dev) ∧ wx.cell? ⟨bp, op + x * 7 + 2, none⟩ = some (.int .i64 P.native) ∧ wx.cell? ⟨bp, op + x * 7 + 3, none⟩ = some (.int .i64 P.cost) ∧ wx.cell? ⟨bp, op + x * 7 + 4, none⟩ = some (.int .i64 P.link) ∧ wx.cell? ⟨bp, op + x * 7 + 5, none⟩ = some (.string (str P.name)) ∧ wx.cell? ⟨bp, op + x * 7 + 6, none⟩ = some (.slice s.A s.n s.c) ∧ wx.cell? ⟨bp, op + y * 7, none⟩ = some (.int .i64 Q.row) ∧ wx.cell? ⟨bp, op + y * 7 + 1, none⟩ = some (.int .i64 Q.dev) ∧ wx.cell? ⟨bp, op + y * 7 + 2, none⟩ = some (.int .i64 Q.native) ∧ wx.cell? ⟨bp, op + y * 7 + 3, none⟩ = some (.int .i64 Q.cost) ∧ wx.cell? ⟨bp, op + y * 7 + 4, none⟩ = some (.int .i64 Q.link) ∧ wx.cell? ⟨bp, op + y * 7 + 5, none⟩ = some (.string (str Q.name)) ∧ wx.cell? ⟨bp, op + y * 7 + 6, none⟩ = some (.slice t.A t.n t.c)) from fun wx hx => ⟨(hx.cell (p := ⟨_, 1, none⟩) ql).trans c1, (hx.cell (p := ⟨bp, _, none⟩) hbp1).trans p0, (hx.cell (p := ⟨bp, _, none⟩) hbp1).trans p1, (hx.cell (p := ⟨bp, _, none⟩) hbp1).trans p2, (hx.cell (p := ⟨bp, _, none⟩) hbp1).trans p3, (hx.cell (p := ⟨bp, _, none⟩) hbp1).trans p4, (hx.cell (p := ⟨bp, _, none⟩) hbp1).trans p5, (hx.cell (p := ⟨bp, _, none⟩) hbp1).trans p6, (hx.cell (p := ⟨bp, _, none⟩) hbp1).trans q0, (hx.cell (p := ⟨bp, _, none⟩) hbp1).trans q1, (hx.cell (p := ⟨bp, _, none⟩) hbp1).trans q2, (hx.cell (p := ⟨bp, _, none⟩) hbp1).trans q3, (hx.cell (p := ⟨bp, _, none⟩) hbp1).trans q4, (hx.cell (p := ⟨bp, _, none⟩) hbp1).trans q5, (hx.cell (p := ⟨bp, _, none⟩) hbp1).trans q6⟩)
  go_cut [10, 11] (fun p q wx => ∃ b7 b8, p = .pointer (some ⟨b7, 0, none⟩) ∧ q = .pointer (some ⟨b8, 0, none⟩) ∧ Cs wx b7 (portC P s) ∧ Cs wx b8 (portC Q t) ∧ Below W.heap.size W wx)
  case first =>
    go_region_held_law (fun w' => (w'.cell? ⟨w.heap.size, 1, none⟩ = some (.slice (some ⟨bp, op, none⟩) S.pt.n S.pt.c) ∧ w'.cell? ⟨bp, op + x * 7, none⟩ = some (.int .i64 P.row) ∧ w'.cell? ⟨bp, op + x * 7 + 1, none⟩ = some (.int .i64 P.dev) ∧ w'.cell? ⟨bp, op + x * 7 + 2, none⟩ = some (.int .i64 P.native) ∧ w'.cell? ⟨bp, op + x * 7 + 3, none⟩ = some (.int .i64 P.cost) ∧ w'.cell? ⟨bp, op + x * 7 + 4, none⟩ = some (.int .i64 P.link) ∧ w'.cell? ⟨bp, op + x * 7 + 5, none⟩ = some (.string (str P.name)) ∧ w'.cell? ⟨bp, op + x * 7 + 6, none⟩ = some (.slice s.A s.n s.c) ∧ w'.cell? ⟨bp, op + y * 7, none⟩ = some (.int .i64 Q.row) ∧ w'.cell? ⟨bp, op + y * 7 + 1, none⟩ = some (.int .i64 Q.dev) ∧ w'.cell? ⟨bp, op + y * 7 + 2, none⟩ = some (.int .i64 Q.native) ∧ w'.cell? ⟨bp, op + y * 7 + 3, none⟩ = some (.int .i64 Q.cost) ∧ w'.cell? ⟨bp, op + y * 7 + 4, none⟩ = some (.int .i64 Q.link) ∧ w'.cell? ⟨bp, op + y * 7 + 5, none⟩ = some (.string (str Q.name)) ∧ w'.cell? ⟨bp, op + y * 7 + 6, none⟩ = some (.slice t.A t.n t.c))) ((refine SK.out _ ?_; (repeat (first | exact Below.refl _ _ | exact alloc_below _ _ | exact alloc2_below _ _ _ | (with_reducible refine Below.alloc ?_ (by simp <;> omega) _) | refine below_drewN ?_ 1)))) (fail)
    all_goals (try go_wp2)
    all_goals go_meet
    all_goals (refine ⟨_, _, rfl, rfl, ?_, ?_, ?_⟩)
    all_goals first
      | (refine ⟨fun j v hj => ?_, by (simp <;> omega)⟩; unfold portC at hj; rcases j with _ | _ | _ | _ | _ | _ | _ | j <;> first | (simp at hj; done) | (simp at hj; subst hj; simp [go_sem]; done))
      | (repeat (first | exact Below.refl _ _ | exact alloc_below _ _ | exact alloc2_below _ _ _ | (with_reducible refine Below.alloc ?_ (by simp <;> omega) _) | refine below_drewN ?_ 1))
  case rest =>
  obtain ⟨b7, b8, rfl, rfl, C7, C8, hbw⟩ := hcut
  rename World => w7
  have B7 := Lib.hid (trans_below B0.out hbw)
  have m2 := C7.1 2 _ rfl
  have m6 := C7.1 6 _ rfl
  have o2 := C8.1 2 _ rfl
  have o6 := C8.1 6 _ rfl
  have IA := Lib.hid (rin_any _ _ _ _ v w7 (isl_rsl (up_rsl LP.out B7.out)))
  have IB := Lib.hid (rin_any _ _ _ _ v w7 (isl_rsl (up_rsl LQ.out B7.out)))
  clear p0 q0 p1 q1 p2 q2 p3 q3 p4 q4 p5 q5 p6 q6 hbw C7 C8 SK
  by_cases t1 : P.native = v
  · have z3 : (P.native == v) = true := by simpa using t1
    by_cases t2 : 0 < Q.native
    · have EV := Lib.hid (show T = Q.native by rw [ET.out]; unfold racF; rw [if_neg v0, if_pos ⟨t1, t2⟩])
      have NV0 := Lib.hid (show Q.native ≠ 0 by omega)
      clear t1
      go_wp2
      all_goals go_region
      all_goals go_wp2
      all_goals exact bodyPost_ret (v := .tuple #[.int .i64 y, .int .i64 Q.native, .bool true]) (by simp [results, Try.results11, go_sem]) rfl ⟨by rw [crV_yes (by rw [EV.out]; exact NV0.out), EV.out], (by first | exact B7.out | exact below_drewN B7.out 1)⟩
    have t3 : Q.native ≤ 0 := by omega
    have ET2 := Lib.hid (show T = if memB P.tagged v = true ∧ memB Q.tagged v = true then v else 0 by rw [ET.out]; unfold racF; rw [if_neg v0, if_neg (fun e => t2 e.2)])
    clear t1
    obtain ⟨b1, hb1⟩ : ∃ b, memB P.tagged v = b := ⟨_, rfl⟩
    obtain ⟨b2, hb2⟩ : ∃ b, memB Q.tagged v = b := ⟨_, rfl⟩
    rw [hb1] at IA ET2
    rw [hb2] at IB ET2
    clear hb1 hb2
    cases b1
    · have EV := Lib.hid (show T = 0 by rw [ET2.out]; rfl)
      go_wp2_with ((go_at_call 23; (with_reducible refine (IA.out).mono ?_); rintro e wi ⟨rfl, hwi⟩; subst hwi))
      exact bodyPost_ret (v := .tuple #[.int .i64 0, .int .i64 0, .bool false]) (by simp [results, Try.results11, go_sem]) rfl ⟨by rw [crV_no EV.out], B7.out⟩
    cases b2
    rotate_left
    · have EV := Lib.hid (show T = v by rw [ET2.out]; rfl)
      have VN := Lib.hid v0
      go_wp2_with (first | (go_at_call 23; (with_reducible refine (IA.out).mono ?_); rintro e wi ⟨rfl, hwi⟩; subst hwi) | (go_at_call 23; (with_reducible refine (IB.out).mono ?_); rintro e wi ⟨rfl, hwi⟩; subst hwi))
      exact bodyPost_ret (v := .tuple #[.int .i64 y, .int .i64 v, .bool true]) (by simp [results, Try.results11, go_sem]) rfl ⟨by rw [crV_yes (by rw [EV.out]; exact VN.out), EV.out], B7.out⟩
    have EV := Lib.hid (show T = 0 by rw [ET2.out]; rfl)
    go_wp2_with (first | (go_at_call 23; (with_reducible refine (IA.out).mono ?_); rintro e wi ⟨rfl, hwi⟩; subst hwi) | (go_at_call 23; (with_reducible refine (IB.out).mono ?_); rintro e wi ⟨rfl, hwi⟩; subst hwi))
    exact bodyPost_ret (v := .tuple #[.int .i64 0, .int .i64 0, .bool false]) (by simp [results, Try.results11, go_sem]) rfl ⟨by rw [crV_no EV.out], B7.out⟩
  have z3 : (P.native == v) = false := by simpa using t1
  have ET2 := Lib.hid (show T = if memB P.tagged v = true ∧ memB Q.tagged v = true then v else 0 by rw [ET.out]; unfold racF; rw [if_neg v0, if_neg (fun e => t1 e.1)])
  clear t1
  obtain ⟨b1, hb1⟩ : ∃ b, memB P.tagged v = b := ⟨_, rfl⟩
  obtain ⟨b2, hb2⟩ : ∃ b, memB Q.tagged v = b := ⟨_, rfl⟩
  rw [hb1] at IA ET2
  rw [hb2] at IB ET2
  clear hb1 hb2
  cases b1
  · have EV := Lib.hid (show T = 0 by rw [ET2.out]; rfl)
    go_wp2_with ((go_at_call 23; (with_reducible refine (IA.out).mono ?_); rintro e wi ⟨rfl, hwi⟩; subst hwi))
    exact bodyPost_ret (v := .tuple #[.int .i64 0, .int .i64 0, .bool false]) (by simp [results, Try.results11, go_sem]) rfl ⟨by rw [crV_no EV.out], B7.out⟩
  cases b2
  rotate_left
  · have EV := Lib.hid (show T = v by rw [ET2.out]; rfl)
    have VN := Lib.hid v0
    go_wp2_with (first | (go_at_call 23; (with_reducible refine (IA.out).mono ?_); rintro e wi ⟨rfl, hwi⟩; subst hwi) | (go_at_call 23; (with_reducible refine (IB.out).mono ?_); rintro e wi ⟨rfl, hwi⟩; subst hwi))
    exact bodyPost_ret (v := .tuple #[.int .i64 y, .int .i64 v, .bool true]) (by simp [results, Try.results11, go_sem]) rfl ⟨by rw [crV_yes (by rw [EV.out]; exact VN.out), EV.out], B7.out⟩
  have EV := Lib.hid (show T = 0 by rw [ET2.out]; rfl)
  go_wp2_with (first | (go_at_call 23; (with_reducible refine (IA.out).mono ?_); rintro e wi ⟨rfl, hwi⟩; subst hwi) | (go_at_call 23; (with_reducible refine (IB.out).mono ?_); rintro e wi ⟨rfl, hwi⟩; subst hwi))
  exact bodyPost_ret (v := .tuple #[.int .i64 0, .int .i64 0, .bool false]) (by simp [results, Try.results11, go_sem]) rfl ⟨by rw [crV_no EV.out], B7.out⟩
end Go.Proofs.Ytnpembgchmmbjaa
