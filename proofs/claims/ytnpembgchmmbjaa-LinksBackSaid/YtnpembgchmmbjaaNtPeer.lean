/- The contract of palingref15.peer: may a domain have that peer? (Made by mk-ntpeer.py.) -/
import Derived.Test.YtnpembgchmmbjaaNtRef1
import Derived.Test.YtnpembgchmmbjaaSeqT
import Derived.Deep.DeepCutAuto
import Derived.RegionTactic
namespace Go.Proofs.Ytnpembgchmmbjaa
open Go.RowKit

/-- may a domain, at place i, have that peer? -/
def peerB (N : NV) (i : Nat) (k : Int) : Bool :=
  plB k (N.domains.length : Int) && (!decide (k = (i : Int)) && (decide ((N.domains.getD i DomV.zero).dev ≠ (N.domains.getD k.toNat DomV.zero).dev) && (decide ((N.domains.getD i DomV.zero).vni = (N.domains.getD k.toNat DomV.zero).vni) && (decide ((N.domains.getD i DomV.zero).vni ≠ 0) &&
    (decide ((N.devices.getD (N.domains.getD i DomV.zero).dev.toNat DevV.zero).vtep ≠ 0) && (decide ((N.devices.getD (N.domains.getD k.toNat DomV.zero).dev.toNat DevV.zero).vtep ≠ 0) && memB (N.domains.getD k.toNat DomV.zero).peers (i : Int)))))))
/-- a domain in a box -/
structure DBox (w : World) (q : Nat) (D : DomV) (s : Sl3) : Prop where
  c0 : w.cell? ⟨q, 0, none⟩ = some (.int .i64 D.dev)
  c1 : w.cell? ⟨q, 1, none⟩ = some (.int .i64 D.vlan)
  c2 : w.cell? ⟨q, 2, none⟩ = some (.int .i64 D.vni)
  c3 : w.cell? ⟨q, 3, none⟩ = some (.int .i64 D.irb)
  c4 : w.cell? ⟨q, 4, none⟩ = some (.int .i64 D.row)
  c5 : w.cell? ⟨q, 5, none⟩ = some (.slice s.A s.n s.c)
  lt : q < w.heap.size
theorem DBox.below {w w' : World} {q : Nat} {D : DomV} {s : Sl3} (h : DBox w q D s) (hb : Below w.heap.size w w') : DBox w' q D s :=
  ⟨(hb.cell (p := ⟨q, 0, none⟩) h.lt).trans h.c0, (hb.cell (p := ⟨q, 1, none⟩) h.lt).trans h.c1, (hb.cell (p := ⟨q, 2, none⟩) h.lt).trans h.c2, (hb.cell (p := ⟨q, 3, none⟩) h.lt).trans h.c3, (hb.cell (p := ⟨q, 4, none⟩) h.lt).trans h.c4, (hb.cell (p := ⟨q, 5, none⟩) h.lt).trans h.c5, Nat.lt_of_lt_of_le h.lt hb.size⟩
theorem DBox.new (w : World) (D : DomV) (s : Sl3) (T : TypeId) : DBox (w.alloc (.cells (domC D s).toArray T)) w.heap.size D s := by
  constructor <;> simp [domC]
theorem peerB_no1 {N : NV} {i : Nat} {k : Int} (h : plB k (N.domains.length : Int) = false) : peerB N i k = false := by unfold peerB; rw [h]; rfl
theorem peerB_no2 {N : NV} {i : Nat} {k : Int} (h : k = (i : Int)) : peerB N i k = false := by unfold peerB; rw [decide_eq_true h, Bool.not_true, Bool.false_and, Bool.and_false]
theorem peerB_at {N : NV} {i x : Nat} (h : plB (x : Int) (N.domains.length : Int) = true) (hn : ¬ (x : Int) = (i : Int)) : peerB N i (x : Int) =
    (decide ((N.domains.getD i DomV.zero).dev ≠ (N.domains.getD x DomV.zero).dev) && (decide ((N.domains.getD i DomV.zero).vni = (N.domains.getD x DomV.zero).vni) && (decide ((N.domains.getD i DomV.zero).vni ≠ 0) &&
    (decide ((N.devices.getD (N.domains.getD i DomV.zero).dev.toNat DevV.zero).vtep ≠ 0) && (decide ((N.devices.getD (N.domains.getD x DomV.zero).dev.toNat DevV.zero).vtep ≠ 0) && memB (N.domains.getD x DomV.zero).peers (i : Int)))))) := by
  unfold peerB
  rw [h, decide_eq_false hn]
  rfl
set_option maxRecDepth 20000 in
set_option maxHeartbeats 8000000 in
theorem peer_any (N : NV) (S : NSl3) (i : Nat) (k : Int) (w : World) (h : NRead w (allB w) N S) (hi : i < N.domains.length) (hd : ∀ j, j < N.domains.length → plB (N.domains.getD j DomV.zero).dev (N.devices.length : Int) = true) :
    Calls Try.prog 50 #[netV S, .int .i64 (i : Int), .int .i64 k] w fun e w' => e = .returned (.bool (peerB N i k)) ∧ Below w.heap.size w w' := by
  have HD := Lib.hid h.dm
  have HV := Lib.hid h.dv
  have hle := h.dm.le
  have hcap := h.dm.cap
  have hle2 := h.dv.le
  have hcap2 := h.dv.cap
  have dml := h.dm.len
  have dvl := h.dv.len
  rw [dml] at hi hd
  rw [dvl] at hd
  have N1 := Lib.hid (@peerB_no1 N i k)
  have N2 := Lib.hid (@peerB_no2 N i k)
  have N3 := Lib.hid (fun x => @peerB_at N i x)
  rw [dml] at N1 N3
  have NB := Lib.hid (NBox.new w S 31)
  have HDD := Lib.hid hd
  obtain ⟨V, hV⟩ : ∃ V, peerB N i k = V := ⟨_, rfl⟩
  rw [hV] at N1 N2 ⊢
  clear h hd dml dvl
  have PK := fun w' => rplace_any k (S.dm.n : Int) w'
  unfold netV
  go_enter Try.func50, Try.ntmps50
  go_upto_region 1 with fail
  obtain ⟨w1, hw1⟩ : ∃ w1, w.alloc (.cells (nA S) 31) = w1 := ⟨_, rfl⟩
  have B1 := Lib.hid (show Below w.heap.size w w1 by rw [← hw1]; exact (Below.refl _ _).alloc (Nat.le_refl _) _)
  rw [hw1] at NB ⊢
  clear hw1
  have n0 := NB.out.c0
  have n3 := NB.out.c3
  have nl := NB.out.lt
  cases hp : plB k (S.dm.n : Int) with
  | false =>
    rw [hp] at PK
    have PK := Lib.hid PK
    have E := Lib.hid (N1.out hp)
    clear hp
    go_wp2_with (go_at_call 49; (with_reducible refine (PK.out _).mono ?_); rintro e wp ⟨rfl, hwp⟩; subst hwp)
    go_ret
    exact ⟨by rw [E.out]; rfl, B1.out⟩
  | true =>
  rw [hp] at PK
  obtain ⟨a1, a2⟩ := (plB_iff _ _).1 hp
  obtain ⟨x, hx⟩ := Int.eq_ofNat_of_zero_le a1
  have hxl : x < S.dm.n := by omega
  subst hx
  have E1 := Lib.hid (fun hn => N3.out x hp hn)
  clear hp a1 a2 N3 N1
  have PK := Lib.hid PK
  have E1 := Lib.hid (fun hn => hV.symm.trans (E1.out hn))
  clear hV
  by_cases hki : x = i
  · have z : ((x : Int) == (i : Int)) = true := by simp; omega
    have EV := Lib.hid (N2.out (by omega))
    clear hki
    go_wp2_with (go_at_call 49; (with_reducible refine (PK.out _).mono ?_); rintro e wp ⟨rfl, hwp⟩; subst hwp)
    go_ret
    exact ⟨by rw [EV.out]; rfl, B1.out⟩
  have z : ((x : Int) == (i : Int)) = false := by simp; omega
  have E2 := E1.out (by omega)
  clear N2 E1
  have HDI := HDD.out i hi
  have HDX := HDD.out x hxl
  obtain ⟨bp, op, vp, ep, _, hbp, ⟨s, rfl, rs⟩, rp⟩ := rsl_at HD.out i hi DomV.zero
  obtain ⟨bq, oq, vq, eq_, _, _, ⟨t, rfl, rt⟩, rq⟩ := rsl_at HD.out x hxl DomV.zero
  rw [ep] at eq_
  injection eq_ with eq_
  injection eq_ with h1 h2
  subst h1 h2
  have RP := rangeAt_keep rp (B1.out.block bp hbp)
  have RQ := rangeAt_keep rq (B1.out.block bp hbp)
  generalize N.domains.getD i DomV.zero = D at *
  generalize N.domains.getD x DomV.zero = E at *
  obtain ⟨c1, c2⟩ := (plB_iff _ _).1 HDI
  obtain ⟨c3, c4⟩ := (plB_iff _ _).1 HDX
  obtain ⟨y, hy⟩ := Int.eq_ofNat_of_zero_le c1
  obtain ⟨z2, hz⟩ := Int.eq_ofNat_of_zero_le c3
  have hyl : y < S.dv.n := by omega
  have hzl : z2 < S.dv.n := by omega
  obtain ⟨bd, od, vd, ed, _, hbd, hvd, rd⟩ := rsl_at HV.out y hyl DevV.zero
  obtain ⟨be, oe, ve, ee, _, _, hve, re⟩ := rsl_at HV.out z2 hzl DevV.zero
  rw [ed] at ee
  injection ee with ee
  injection ee with h1 h2
  subst h1 h2
  have hvd : vd = devC (N.devices.getD y DevV.zero) := hvd
  have hve : ve = devC (N.devices.getD z2 DevV.zero) := hve
  subst hvd hve
  have RD := rangeAt_keep rd (B1.out.block bd hbd)
  have RE := rangeAt_keep re (B1.out.block bd hbd)
  rw [show D.dev.toNat = y by rw [hy]; rfl, show E.dev.toNat = z2 by rw [hz]; rfl] at E2
  generalize N.devices.getD y DevV.zero = X at *
  generalize N.devices.getD z2 DevV.zero = Y at *
  have E3 := Lib.hid E2
  have v4 := RD 4 _ rfl
  have u4 := RE 4 _ rfl
  rw [show od + y * devR.n = od + y * 5 from rfl] at v4
  rw [show od + z2 * devR.n = od + z2 * 5 from rfl] at u4
  have a0 := RP 0 _ rfl
  have b0 := RQ 0 _ rfl
  have a1 := RP 1 _ rfl
  have b1 := RQ 1 _ rfl
  have a2 := RP 2 _ rfl
  have b2 := RQ 2 _ rfl
  have a3 := RP 3 _ rfl
  have b3 := RQ 3 _ rfl
  have a4 := RP 4 _ rfl
  have b4 := RQ 4 _ rfl
  have a5 := RP 5 _ rfl
  have b5 := RQ 5 _ rfl
  simp only [Nat.add_zero] at a0 b0
  rw [show op + i * domR.n = op + i * 6 from rfl] at a0 a1 a2 a3 a4 a5
  rw [show op + x * domR.n = op + x * 6 from rfl] at b0 b1 b2 b3 b4 b5
  have li : (i : Int) < (S.dm.n : Int) := by omega
  have lx : (x : Int) < (S.dm.n : Int) := by omega
  have ly : (y : Int) < (S.dv.n : Int) := by omega
  have lz : (z2 : Int) < (S.dv.n : Int) := by omega
  have LD := Lib.hid hbd
  have IN := Lib.hid (fun (w' : World) (hb : Below w.heap.size w w') => rin_any t.A t.n t.c E.peers (i : Int) w' (isl_rsl (rt.below (fun _ h => h) hb)))
  have hbp1 : bp < w1.heap.size := Nat.lt_of_lt_of_le hbp B1.out.size
  have hbd1 : bd < w1.heap.size := Nat.lt_of_lt_of_le hbd B1.out.size
  have NL := Lib.hid nl
  rw [ep] at n3
  rw [ed] at n0
  rw [hy] at a0
  rw [hz] at b0
  have HY := Lib.hid hy
  have HZ := Lib.hid hz
  have KW := Lib.hid (show ∀ wx, Below w1.heap.size w1 wx → wx.cell? ⟨w.heap.size, 0, none⟩ = some (.slice (some ⟨bd, od, none⟩) S.dv.n S.dv.c) ∧ wx.cell? ⟨bd, od + y * 5 + 4, none⟩ = some (.int .u32 X.vtep) ∧ wx.cell? ⟨bd, od + z2 * 5 + 4, none⟩ = some (.int .u32 Y.vtep) ∧ Below w.heap.size w wx from fun wx hx => ⟨(hx.cell (p := ⟨_, 0, none⟩) NL.out).trans n0, (hx.cell (p := ⟨bd, _, none⟩) hbd1).trans v4, (hx.cell (p := ⟨bd, _, none⟩) hbd1).trans u4, B1.out.trans (hx.mono B1.out.size)⟩)
  clear rp rq RP RQ rd re RD RE c1 c2 c3 c4 hy hz HDI HDX HDD ep ed rs rt E2
  go_upto_region 3 with (go_at_call 49; (with_reducible refine (PK.out _).mono ?_); rintro e wp ⟨rfl, hwp⟩; subst hwp)
  go_cut [7, 8] (fun p q wx => ∃ b7 b8, p = .pointer (some ⟨b7, 0, none⟩) ∧ q = .pointer (some ⟨b8, 0, none⟩) ∧ DBox wx b7 D s ∧ DBox wx b8 E t ∧ Below w1.heap.size w1 wx)
  case first =>
    go_region
    all_goals (try go_wp2)
    all_goals go_meet
    all_goals (refine ⟨_, _, rfl, rfl, ?_, ?_, ?_⟩)
    all_goals first
      | exact (((Below.refl _ _).alloc (Nat.le_refl _) _).alloc (by simp) _).drew
      | exact ((Below.refl _ _).alloc (Nat.le_refl _) _).alloc (by simp) _
      | (constructor <;> (try rw [HY.out]) <;> (try rw [HZ.out]) <;> first | (simp; done) | (simp; omega))
  case rest =>
  obtain ⟨b7, b8, rfl, rfl, D7, E7, hbw⟩ := hcut
  obtain ⟨k1, k2, k3, k4⟩ := KW.out wc hbw
  have X7 := Lib.hid k4
  have m0 := D7.c0
  have m2 := D7.c2
  have o0_ := E7.c0
  have o2_ := E7.c2
  have o5_ := E7.c5
  rw [HY.out] at m0
  rw [HZ.out] at o0_
  clear n3 a0 a1 a2 a3 a4 a5 b0 b1 b2 b3 b4 b5 v4 u4 n0 nl k4 hbw D7 E7 PK
  have E4 := E3.out
  by_cases t1 : y = z2
  · have w1_ : ((y : Int) != (z2 : Int)) = false := by simp; omega
    have EV := Lib.hid (show V = false by rw [E4, decide_eq_false (show ¬ D.dev ≠ E.dev from fun g => g (by rw [HY.out, HZ.out, t1]))]; rfl)
    clear t1 E4
    go_wp2
    go_ret
    exact ⟨by rw [EV.out]; rfl, X7.out⟩
  have w1_ : ((y : Int) != (z2 : Int)) = true := by simp; omega
  rw [decide_eq_true (show D.dev ≠ E.dev by rw [HY.out, HZ.out]; omega), Bool.true_and] at E4
  by_cases t2 : D.vni = E.vni
  rotate_left
  · have w2_ : (D.vni == E.vni) = false := by simpa using t2
    have EV := Lib.hid (show V = false by rw [E4, decide_eq_false t2]; rfl)
    clear t1 t2 E4
    go_wp2
    go_ret
    exact ⟨by rw [EV.out]; rfl, X7.out⟩
  have w2_ : (D.vni == E.vni) = true := by simpa using t2
  rw [decide_eq_true t2, Bool.true_and] at E4
  by_cases t3 : D.vni = 0
  · have w3_ : (D.vni != 0) = false := by simpa using t3
    have EV := Lib.hid (show V = false by rw [E4, decide_eq_false (show ¬ D.vni ≠ 0 from fun g => g t3)]; rfl)
    clear t1 t2 t3 E4
    go_wp2
    go_ret
    exact ⟨by rw [EV.out]; rfl, X7.out⟩
  have w3_ : (D.vni != 0) = true := by simpa using t3
  rw [decide_eq_true (show D.vni ≠ 0 from t3), Bool.true_and] at E4
  by_cases t4 : X.vtep = 0
  · have w4_ : (X.vtep != 0) = false := by simpa using t4
    have EV := Lib.hid (show V = false by rw [E4, decide_eq_false (show ¬ X.vtep ≠ 0 from fun g => g t4)]; rfl)
    clear t1 t2 t3 t4 E4
    go_wp2
    go_ret
    exact ⟨by rw [EV.out]; rfl, X7.out⟩
  have w4_ : (X.vtep != 0) = true := by simpa using t4
  rw [decide_eq_true (show X.vtep ≠ 0 from t4), Bool.true_and] at E4
  by_cases t5 : Y.vtep = 0
  · have w5_ : (Y.vtep != 0) = false := by simpa using t5
    have EV := Lib.hid (show V = false by rw [E4, decide_eq_false (show ¬ Y.vtep ≠ 0 from fun g => g t5)]; rfl)
    clear t1 t2 t3 t4 t5 E4
    go_wp2
    go_ret
    exact ⟨by rw [EV.out]; rfl, X7.out⟩
  have w5_ : (Y.vtep != 0) = true := by simpa using t5
  rw [decide_eq_true (show Y.vtep ≠ 0 from t5), Bool.true_and] at E4
  have EV := Lib.hid E4
  generalize memB E.peers (i : Int) = M at *
  clear t1 t2 t3 t4 t5 E4
  go_wp2_with (go_at_call 23; (with_reducible refine (IN.out _ X7.out).mono ?_); rintro e wi ⟨rfl, hwi⟩; subst hwi)
  go_ret
  exact ⟨by rw [EV.out]; rfl, X7.out⟩
end Go.Proofs.Ytnpembgchmmbjaa
