/- Package names: whether two domains may be peers, whether a static entry and an interface may be. (Made by mk-nnmeet.py.) -/
import Derived.Test.YtnpembgchmmbjaaNnLink
namespace Go.Proofs.Ytnpembgchmmbjaa
open Go.RowKit

/-- may domain x have domain y as a peer? -/
def meetB (N : NV) (x y : Nat) : Bool := decide ((N.domains.getD x DomV.zero).dev ≠ (N.domains.getD y DomV.zero).dev) && (decide ((N.devices.getD (N.domains.getD x DomV.zero).dev.toNat DevV.zero).vtep ≠ 0) && (decide ((N.devices.getD (N.domains.getD y DomV.zero).dev.toNat DevV.zero).vtep ≠ 0) && (decide ((N.domains.getD x DomV.zero).vni ≠ 0) && (decide ((N.domains.getD x DomV.zero).vni = (N.domains.getD y DomV.zero).vni) && memB (N.domains.getD y DomV.zero).peers (x : Int)))))
theorem net_c1 {w : World} (S : NSl3) (T : TypeId) {W : World} (hW : w.alloc (.cells (nA S) T) = W) : Cs W w.heap.size (netC S) ∧ Below w.heap.size w W := by
  subst hW
  exact ⟨Cs.new w (netC S) T, alloc_below _ _⟩
set_option maxRecDepth 20000 in
set_option maxHeartbeats 8000000 in
theorem meet_any (N : NV) (S : NSl3) (x y : Nat) (w : World) (h : NRead w (allB w) N S) (hxl : x < S.dm.n) (hyl : y < S.dm.n) (hd : ∀ j, j < N.domains.length → plB (N.domains.getD j DomV.zero).dev (N.devices.length : Int) = true) :
    Calls Try.prog 66 #[netV S, .int .i64 (x : Int), .int .i64 (y : Int)] w fun e w' => e = .returned (.bool (meetB N x y)) ∧ Below w.heap.size w w' := by
  have HD := Lib.hid h.dm
  have HV := Lib.hid h.dv
  have hle := h.dm.le
  have hcap := h.dm.cap
  have hle2 := h.dv.le
  have hcap2 := h.dv.cap
  have dml := h.dm.len
  have dvl := h.dv.len
  rw [dml, dvl] at hd
  have HDD := Lib.hid hd
  obtain ⟨V, E⟩ : ∃ V, meetB N x y = V := ⟨_, rfl⟩
  rw [E]
  have E := Lib.hid E
  clear h hd dml dvl
  unfold netV
  go_enter Try.func66, Try.ntmps66
  go_upto_region 1 with fail
  obtain ⟨W, hW⟩ : ∃ W, w.alloc (.cells (nA S) 31) = W := ⟨_, rfl⟩
  have NC := net_c1 S _ hW
  rw [hW]
  clear hW
  have B0 := Lib.hid NC.2
  have f0 := NC.1.1 0 _ rfl
  have f3 := NC.1.1 3 _ rfl
  have ql : w.heap.size < W.heap.size := NC.1.2
  clear NC
  have HDX := HDD.out x hxl
  have HDY := HDD.out y hyl
  obtain ⟨bp, op, vp, ep, _, hbp, ⟨s, rfl, rs⟩, rp⟩ := rsl_at HD.out x hxl DomV.zero
  obtain ⟨bq, oq, vq, eq_, _, _, ⟨t, rfl, rt⟩, rq⟩ := rsl_at HD.out y hyl DomV.zero
  rw [ep] at eq_
  injection eq_ with eq_
  injection eq_ with h1 h2
  subst h1 h2
  have RP := rangeAt_keep rp (B0.out.block bp hbp)
  have RQ := rangeAt_keep rq (B0.out.block bp hbp)
  have E2 := E.out
  unfold meetB at E2
  clear E
  generalize N.domains.getD x DomV.zero = D at *
  generalize N.domains.getD y DomV.zero = G at *
  obtain ⟨c1, c2⟩ := (plB_iff _ _).1 HDX
  obtain ⟨c3, c4⟩ := (plB_iff _ _).1 HDY
  obtain ⟨dx, hx⟩ := Int.eq_ofNat_of_zero_le c1
  obtain ⟨dy, hy⟩ := Int.eq_ofNat_of_zero_le c3
  have hdx : dx < S.dv.n := by omega
  have hdy : dy < S.dv.n := by omega
  obtain ⟨bd, od, vd, ed, _, hbd, hvd, rd⟩ := rsl_at HV.out dx hdx DevV.zero
  obtain ⟨be, oe, ve, ee, _, _, hve, re⟩ := rsl_at HV.out dy hdy DevV.zero
  rw [ed] at ee
  injection ee with ee
  injection ee with h1 h2
  subst h1 h2
  have hvd : vd = devC (N.devices.getD dx DevV.zero) := hvd
  have hve : ve = devC (N.devices.getD dy DevV.zero) := hve
  subst hvd hve
  have RD := rangeAt_keep rd (B0.out.block bd hbd)
  have RE := rangeAt_keep re (B0.out.block bd hbd)
  rw [show D.dev.toNat = dx by rw [hx]; rfl, show G.dev.toNat = dy by rw [hy]; rfl] at E2
  generalize N.devices.getD dx DevV.zero = X at *
  generalize N.devices.getD dy DevV.zero = Y at *
  have E := Lib.hid E2
  clear E2
  have v4 := RD 4 _ rfl
  have u4 := RE 4 _ rfl
  rw [show od + dx * devR.n = od + dx * 5 from rfl] at v4
  rw [show od + dy * devR.n = od + dy * 5 from rfl] at u4
  have p0 := RP 0 _ rfl
  have q0 := RQ 0 _ rfl
  have p1 := RP 1 _ rfl
  have q1 := RQ 1 _ rfl
  have p2 := RP 2 _ rfl
  have q2 := RQ 2 _ rfl
  have p3 := RP 3 _ rfl
  have q3 := RQ 3 _ rfl
  have p4 := RP 4 _ rfl
  have q4 := RQ 4 _ rfl
  have p5 := RP 5 _ rfl
  have q5 := RQ 5 _ rfl
  simp only [Nat.add_zero] at p0 q0
  rw [show op + x * domR.n = op + x * 6 from rfl] at p0 p1 p2 p3 p4 p5
  rw [show op + y * domR.n = op + y * 6 from rfl] at q0 q1 q2 q3 q4 q5
  have lx : (x : Int) < (S.dm.n : Int) := by omega
  have ly : (y : Int) < (S.dm.n : Int) := by omega
  have ldx : (dx : Int) < (S.dv.n : Int) := by omega
  have ldy : (dy : Int) < (S.dv.n : Int) := by omega
  rw [ep] at f3
  rw [ed] at f0
  rw [hx] at p0
  rw [hy] at q0
  have hbp1 : bp < W.heap.size := Nat.lt_of_lt_of_le hbp B0.out.size
  have hbd1 : bd < W.heap.size := Nat.lt_of_lt_of_le hbd B0.out.size
  have CT := Lib.hid (fun (w' : World) (hb : Below w.heap.size w w') => cont_of t.A t.n t.c G.peers (x : Int) w' (isl_rsl (up_rsl rt hb)))
  have HX := Lib.hid hx
  have HY := Lib.hid hy
  clear rp rq RP RQ rd re RD RE c1 c2 c3 c4 hx hy ep ed rs rt HDX HDY
  have SK := Lib.hid (show ∀ wx, Below W.heap.size W wx → (wx.cell? ⟨w.heap.size, 3, none⟩ = some (.slice (some ⟨bp, op, none⟩) S.dm.n S.dm.c) ∧ wx.cell? ⟨bp, op + x * 6, none⟩ = some (.int .i64 (dx : Int)) ∧ wx.cell? ⟨bp, op + x * 6 + 1, none⟩ = some (.int .i64 D.vlan) ∧ wx.cell? ⟨bp, op + x * 6 + 2, none⟩ = some (.int .i64 D.vni) ∧ wx.cell? ⟨bp, op + x * 6 + 3, none⟩ = some (.int .i64 D.irb) ∧ wx.cell? ⟨bp, op + x * 6 + 4, none⟩ = some (.int .i64 D.row) ∧ wx.cell? ⟨bp, op + x * 6 + 5, none⟩ = some (.slice s.A s.n s.c) ∧ wx.cell? ⟨bp, op + y * 6, none⟩ = some (.int .i64 (dy : Int)) ∧ wx.cell? ⟨bp, op + y * 6 + 1, none⟩ = some (.int .i64 G.vlan) ∧ wx.cell? ⟨bp, op + y * 6 + 2, none⟩ = some (.int .i64 G.vni) ∧ wx.cell? ⟨bp, op + y * 6 + 3, none⟩ = some (.int .i64 G.irb) ∧ wx.cell? ⟨bp, op + y * 6 + 4, none⟩ = some (.int .i64 G.row) ∧ wx.cell? ⟨bp, op + y * 6 + 5, none⟩ = some (.slice t.A t.n t.c)) from fun wx hx => ⟨(hx.cell (p := ⟨_, 3, none⟩) ql).trans f3, (hx.cell (p := ⟨bp, _, none⟩) hbp1).trans p0, (hx.cell (p := ⟨bp, _, none⟩) hbp1).trans p1, (hx.cell (p := ⟨bp, _, none⟩) hbp1).trans p2, (hx.cell (p := ⟨bp, _, none⟩) hbp1).trans p3, (hx.cell (p := ⟨bp, _, none⟩) hbp1).trans p4, (hx.cell (p := ⟨bp, _, none⟩) hbp1).trans p5, (hx.cell (p := ⟨bp, _, none⟩) hbp1).trans q0, (hx.cell (p := ⟨bp, _, none⟩) hbp1).trans q1, (hx.cell (p := ⟨bp, _, none⟩) hbp1).trans q2, (hx.cell (p := ⟨bp, _, none⟩) hbp1).trans q3, (hx.cell (p := ⟨bp, _, none⟩) hbp1).trans q4, (hx.cell (p := ⟨bp, _, none⟩) hbp1).trans q5⟩)
  have KW := Lib.hid (show ∀ wx, Below W.heap.size W wx → wx.cell? ⟨w.heap.size, 0, none⟩ = some (.slice (some ⟨bd, od, none⟩) S.dv.n S.dv.c) ∧ wx.cell? ⟨bd, od + dx * 5 + 4, none⟩ = some (.int .u32 X.vtep) ∧ wx.cell? ⟨bd, od + dy * 5 + 4, none⟩ = some (.int .u32 Y.vtep) ∧ Below w.heap.size w wx from fun wx hx => ⟨(hx.cell (p := ⟨_, 0, none⟩) ql).trans f0, (hx.cell (p := ⟨bd, _, none⟩) hbd1).trans v4, (hx.cell (p := ⟨bd, _, none⟩) hbd1).trans u4, B0.out.trans (hx.mono B0.out.size)⟩)
  go_cut [7, 8] (fun p q wx => ∃ b7 b8, p = .pointer (some ⟨b7, 0, none⟩) ∧ q = .pointer (some ⟨b8, 0, none⟩) ∧ Cs wx b7 [.int .i64 (dx : Int), .int .i64 D.vlan, .int .i64 D.vni, .int .i64 D.irb, .int .i64 D.row, .slice s.A s.n s.c] ∧ Cs wx b8 [.int .i64 (dy : Int), .int .i64 G.vlan, .int .i64 G.vni, .int .i64 G.irb, .int .i64 G.row, .slice t.A t.n t.c] ∧ Below W.heap.size W wx)
  case first =>
    go_region_held_law (fun w' => (w'.cell? ⟨w.heap.size, 3, none⟩ = some (.slice (some ⟨bp, op, none⟩) S.dm.n S.dm.c) ∧ w'.cell? ⟨bp, op + x * 6, none⟩ = some (.int .i64 (dx : Int)) ∧ w'.cell? ⟨bp, op + x * 6 + 1, none⟩ = some (.int .i64 D.vlan) ∧ w'.cell? ⟨bp, op + x * 6 + 2, none⟩ = some (.int .i64 D.vni) ∧ w'.cell? ⟨bp, op + x * 6 + 3, none⟩ = some (.int .i64 D.irb) ∧ w'.cell? ⟨bp, op + x * 6 + 4, none⟩ = some (.int .i64 D.row) ∧ w'.cell? ⟨bp, op + x * 6 + 5, none⟩ = some (.slice s.A s.n s.c) ∧ w'.cell? ⟨bp, op + y * 6, none⟩ = some (.int .i64 (dy : Int)) ∧ w'.cell? ⟨bp, op + y * 6 + 1, none⟩ = some (.int .i64 G.vlan) ∧ w'.cell? ⟨bp, op + y * 6 + 2, none⟩ = some (.int .i64 G.vni) ∧ w'.cell? ⟨bp, op + y * 6 + 3, none⟩ = some (.int .i64 G.irb) ∧ w'.cell? ⟨bp, op + y * 6 + 4, none⟩ = some (.int .i64 G.row) ∧ w'.cell? ⟨bp, op + y * 6 + 5, none⟩ = some (.slice t.A t.n t.c))) ((refine SK.out _ ?_; (repeat (first | exact Below.refl _ _ | exact alloc_below _ _ | exact alloc2_below _ _ _ | (with_reducible refine Below.alloc ?_ (by simp <;> omega) _) | refine below_drewN ?_ 1)))) (fail)
    all_goals (try go_wp2)
    all_goals go_meet
    all_goals (refine ⟨_, _, rfl, rfl, ?_, ?_, ?_⟩)
    all_goals first
      | (refine ⟨fun j v hj => ?_, by (simp <;> omega)⟩; rcases j with _ | _ | _ | _ | _ | _ | j <;> first | (simp at hj; done) | (simp at hj; subst hj; simp [go_sem]; done))
      | (repeat (first | exact Below.refl _ _ | exact alloc_below _ _ | exact alloc2_below _ _ _ | (with_reducible refine Below.alloc ?_ (by simp <;> omega) _) | refine below_drewN ?_ 1))
  case rest =>
  obtain ⟨b7, b8, rfl, rfl, C7, C8, hbw⟩ := hcut
  rename World => w7
  obtain ⟨k1, k2, k3, hB7⟩ := KW.out _ hbw
  have B7 := Lib.hid hB7
  have m0 := C7.1 0 _ rfl
  have m2 := C7.1 2 _ rfl
  have o0_ := C8.1 0 _ rfl
  have o2_ := C8.1 2 _ rfl
  have o5_ := C8.1 5 _ rfl
  clear p0 p1 p2 p3 p4 p5 q0 q1 q2 q3 q4 q5 f0 f3 v4 u4 hB7 hbw C7 C8
  have HE := Lib.hid (show (decide (dx ≠ dy) && (decide (X.vtep ≠ 0) && (decide (Y.vtep ≠ 0) && (decide (D.vni ≠ 0) && (decide (D.vni = G.vni) && memB G.peers (x : Int)))))) = V by
    rw [← E.out, HX.out, HY.out]
    congr 1
    by_cases g : dx = dy
    · rw [decide_eq_false (by simpa using g), decide_eq_false (show ¬ (dx : Int) ≠ (dy : Int) by simp; omega)]
    · rw [decide_eq_true (by simpa using g), decide_eq_true (show (dx : Int) ≠ (dy : Int) by omega)])
  generalize memB G.peers (x : Int) = M at *
  clear E HX HY
  by_cases t1 : dx ≠ dy
  rotate_left
  · have z1 : ((dx : Int) != (dy : Int)) = false := by simp; omega
    have EV := Lib.hid (show V = false by rw [← HE.out, decide_eq_false t1]; simp)
    clear t1
    go_wp2
    go_ret
    exact ⟨by rw [EV.out]; rfl, B7.out⟩
  have z1 : ((dx : Int) != (dy : Int)) = true := by simp; omega
  by_cases t2 : X.vtep ≠ 0
  rotate_left
  · have z2 : (X.vtep != 0) = false := by simp; omega
    have EV := Lib.hid (show V = false by rw [← HE.out, decide_eq_false t2]; simp)
    clear t1 t2
    go_wp2
    go_ret
    exact ⟨by rw [EV.out]; rfl, B7.out⟩
  have z2 : (X.vtep != 0) = true := by simp; omega
  by_cases t3 : Y.vtep ≠ 0
  rotate_left
  · have z3 : (Y.vtep != 0) = false := by simp; omega
    have EV := Lib.hid (show V = false by rw [← HE.out, decide_eq_false t3]; simp)
    clear t1 t2 t3
    go_wp2
    go_ret
    exact ⟨by rw [EV.out]; rfl, B7.out⟩
  have z3 : (Y.vtep != 0) = true := by simp; omega
  by_cases t4 : D.vni ≠ 0
  rotate_left
  · have z4 : (D.vni != 0) = false := by simp; omega
    have EV := Lib.hid (show V = false by rw [← HE.out, decide_eq_false t4]; simp)
    clear t1 t2 t3 t4
    go_wp2
    go_ret
    exact ⟨by rw [EV.out]; rfl, B7.out⟩
  have z4 : (D.vni != 0) = true := by simp; omega
  by_cases t5 : D.vni = G.vni
  rotate_left
  · have z5 : (D.vni == G.vni) = false := by simp; omega
    have EV := Lib.hid (show V = false by rw [← HE.out, decide_eq_false t5]; simp)
    clear t1 t2 t3 t4 t5
    go_wp2
    go_ret
    exact ⟨by rw [EV.out]; rfl, B7.out⟩
  have z5 : (D.vni == G.vni) = true := by simp; omega
  have EV := Lib.hid (show M = V by rw [← HE.out, decide_eq_true t1, decide_eq_true t2, decide_eq_true t3, decide_eq_true t4, decide_eq_true t5]; rfl)
  clear t1 t2 t3 t4 t5
  go_wp2_with (go_at_call 25; (with_reducible refine (CT.out _ B7.out).mono ?_); rintro e w8 ⟨rfl, rfl⟩)
  go_ret
  exact ⟨by rw [← EV.out]; rfl, B7.out⟩
end Go.Proofs.Ytnpembgchmmbjaa
