/- Package names: whether a link, a static entry, an interface may be; whether two domains may be peers. (Made by mk-nnlink.py.) -/
import Derived.Test.YtnpembgchmmbjaaNnSmall
import Derived.Test.YtnpembgchmmbjaaNtRight
import Derived.Deep.CutBlock
import Derived.Deep.DeepCutAuto
import Derived.Deep.RegionHeldLaw
namespace Go.Proofs.Ytnpembgchmmbjaa
open Go.RowKit

/-- a block's first cells -/
def Cs (w : World) (q : Nat) (l : List Value) : Prop := (∀ j v, l[j]? = some v → w.cell? ⟨q, j, none⟩ = some v) ∧ q < w.heap.size
theorem Cs.below {w w' : World} {q : Nat} {l : List Value} (h : Cs w q l) (hb : Below w.heap.size w w') : Cs w' q l :=
  ⟨fun j v hj => (hb.cell (p := ⟨q, j, none⟩) h.2).trans (h.1 j v hj), Nat.lt_of_lt_of_le h.2 hb.size⟩
theorem Cs.new (w : World) (l : List Value) (T : TypeId) : Cs (w.alloc (.cells l.toArray T)) w.heap.size l :=
  ⟨fun j v hj => by rw [World.cell?_alloc_new]; simpa using hj, by simp⟩
theorem alloc_below (w : World) (o : Obj) : Below w.heap.size w (w.alloc o) := (Below.refl _ _).alloc (Nat.le_refl _) _
theorem alloc2_below (w : World) (o p : Obj) : Below w.heap.size w ((w.alloc o).alloc p) := (alloc_below w o).alloc (by simp) _
theorem alloc3_below (w : World) (o p q : Obj) : Below w.heap.size w (((w.alloc o).alloc p).alloc q) := (alloc2_below w o p).alloc (by simp; omega) _
/-- a net's cells, and a block's behind it -/
theorem net_cs {w : World} (S : NSl3) (T U : TypeId) (l : List Value) {W : World} (hW : (w.alloc (.cells (nA S) T)).alloc (.cells l.toArray U) = W) : Cs W w.heap.size (netC S) ∧ Cs W (w.heap.size + 1) l ∧ Below w.heap.size w W := by
  subst hW
  have h1 : Cs (w.alloc (.cells (nA S) T)) w.heap.size (netC S) := Cs.new w (netC S) T
  have h2 := Cs.new (w.alloc (.cells (nA S) T)) l U
  rw [show (w.alloc (.cells (nA S) T)).heap.size = w.heap.size + 1 by simp] at h2
  exact ⟨h1.below (alloc_below _ _), h2, alloc2_below _ _ _⟩
/-- what package names asks of a link -/
def lkB (N : NV) (i : Nat) (L : LinkV) : Bool := plB L.a (N.ports.length : Int) && (plB L.b (N.ports.length : Int) && (decide ((N.ports.getD L.a.toNat PortV.zero).dev ≠ (N.ports.getD L.b.toNat PortV.zero).dev) && (decide ((N.ports.getD L.a.toNat PortV.zero).link = (i : Int)) && decide ((N.ports.getD L.b.toNat PortV.zero).link = (i : Int)))))
theorem lkB_iff (N : NV) (i : Nat) (L : LinkV) : lkB N i L = true ↔ LinkOk N i L := by
  simp only [lkB, Bool.and_eq_true, decide_eq_true_eq]
  exact ⟨fun ⟨h1, h2, h3, h4, h5⟩ => ⟨h1, h2, h3, h4, h5⟩, fun h => ⟨h.a, h.b, h.dev, h.la, h.lb⟩⟩
set_option maxRecDepth 20000 in
set_option maxHeartbeats 8000000 in
theorem link_any (N : NV) (S : NSl3) (i : Nat) (L : LinkV) (w : World) (h : NRead w (allB w) N S) : Calls Try.prog 33 #[netV S, .int .i64 (i : Int), .agg #[.int .i64 L.row, .int .i64 L.a, .int .i64 L.b]] w fun e w' => e = .returned (.bool (lkB N i L)) ∧ Below w.heap.size w w' := by
  have HP := Lib.hid h.pt
  have hle := h.pt.le
  have hcap := h.pt.cap
  have PL := h.pt.len
  have PA := fun w' => place_port L.a S.pt.A S.pt.n S.pt.c hle hcap w'
  have PB := fun w' => place_port L.b S.pt.A S.pt.n S.pt.c hle hcap w'
  obtain ⟨V, E⟩ : ∃ V, lkB N i L = V := ⟨_, rfl⟩
  rw [E]
  unfold lkB at E
  rw [PL] at E
  obtain ⟨va, ha⟩ : ∃ v, plB L.a (S.pt.n : Int) = v := ⟨_, rfl⟩
  obtain ⟨vb, hb⟩ : ∃ v, plB L.b (S.pt.n : Int) = v := ⟨_, rfl⟩
  rw [ha] at PA E
  rw [hb] at PB E
  have E := Lib.hid E
  have HA := Lib.hid ha
  have HB := Lib.hid hb
  have PA := Lib.hid PA
  have PB := Lib.hid PB
  clear h PL ha hb
  unfold netV
  go_enter Try.func33, Try.ntmps33
  go_upto_region 1 with fail
  obtain ⟨W, hW⟩ : ∃ W, (w.alloc (.cells (nA S) 31)).alloc (.cells #[.int .i64 L.row, .int .i64 L.a, .int .i64 L.b] 57) = W := ⟨_, rfl⟩
  have NC := net_cs S _ _ [.int .i64 L.row, .int .i64 L.a, .int .i64 L.b] hW
  rw [hW]
  clear hW
  have KQ := Lib.hid (show ∀ wx, Below W.heap.size W wx → (NF wx w.heap.size S) ∧ (wx.cell? ⟨w.heap.size + 1, 0, none⟩ = some (.int .i64 L.row) ∧ wx.cell? ⟨w.heap.size + 1, 1, none⟩ = some (.int .i64 L.a) ∧ wx.cell? ⟨w.heap.size + 1, 2, none⟩ = some (.int .i64 L.b)) ∧ Below w.heap.size w wx from fun wx hx => by
    have n := (NC.1.below hx).1
    have r := (NC.2.1.below hx).1
    exact ⟨⟨n 0 _ rfl, n 1 _ rfl, n 2 _ rfl, n 3 _ rfl, n 4 _ rfl, n 5 _ rfl, n 6 _ rfl, n 7 _ rfl⟩, ⟨r 0 _ rfl, r 1 _ rfl, r 2 _ rfl⟩, NC.2.2.trans (hx.mono NC.2.2.size)⟩)
  obtain ⟨⟨f0, f1, f2, f3, f4, f5, f6, f7⟩, ⟨g0, g1, g2⟩, hB0⟩ := KQ.out W (Below.refl _ _)
  have ql : w.heap.size < W.heap.size := NC.1.2
  have ql2 : w.heap.size + 1 < W.heap.size := NC.2.1.2
  have B0 := Lib.hid hB0
  clear hB0 NC
  cases va with
  | false =>
    have EV := Lib.hid (show V = false by rw [← E.out]; rfl)
    go_wp2_with ((go_at_call 62; (with_reducible refine (PA.out _).mono ?_); rintro e wp ⟨rfl, hwp⟩; subst hwp))
    go_ret
    exact ⟨by rw [EV.out]; rfl, B0.out⟩
  | true =>
  cases vb with
  | false =>
    have EV := Lib.hid (show V = false by rw [← E.out]; rfl)
    go_wp2_with (first | (go_at_call 62; (with_reducible refine (PA.out _).mono ?_); rintro e wp ⟨rfl, hwp⟩; subst hwp) | (go_at_call 62; (with_reducible refine (PB.out _).mono ?_); rintro e wp ⟨rfl, hwp⟩; subst hwp))
    go_ret
    exact ⟨by rw [EV.out]; rfl, B0.out⟩
  | true =>
  go_upto_region 3 with (first | (go_at_call 62; (with_reducible refine (PA.out _).mono ?_); rintro e wp ⟨rfl, hwp⟩; subst hwp) | (go_at_call 62; (with_reducible refine (PB.out _).mono ?_); rintro e wp ⟨rfl, hwp⟩; subst hwp))
  obtain ⟨a1, a2⟩ := (plB_iff _ _).1 HA.out
  obtain ⟨c1, c2⟩ := (plB_iff _ _).1 HB.out
  obtain ⟨x, hx⟩ := Int.eq_ofNat_of_zero_le a1
  obtain ⟨y, hy⟩ := Int.eq_ofNat_of_zero_le c1
  have hxl : x < S.pt.n := by omega
  have hyl : y < S.pt.n := by omega
  obtain ⟨bp, op, vp, ep, _, hbp, ⟨s, rfl, _⟩, rp⟩ := rsl_at HP.out x hxl PortV.zero
  obtain ⟨bq, oq, vq, eq_, _, _, ⟨t, rfl, _⟩, rq⟩ := rsl_at HP.out y hyl PortV.zero
  rw [ep] at eq_
  injection eq_ with eq_
  injection eq_ with h1 h2
  subst h1 h2
  have RP := rangeAt_keep rp (B0.out.block bp hbp)
  have RQ := rangeAt_keep rq (B0.out.block bp hbp)
  have E2 := E.out
  rw [show L.a.toNat = x by rw [hx]; rfl, show L.b.toNat = y by rw [hy]; rfl] at E2
  rw [hx] at g1
  rw [hy] at g2
  clear E
  generalize N.ports.getD x PortV.zero = P at *
  generalize N.ports.getD y PortV.zero = Q at *
  have E := Lib.hid E2
  clear E2
  have p0 := RP 0 _ rfl
  have q0 := RQ 0 _ rfl
  have p1 := RP 1 _ rfl
  have q1 := RQ 1 _ rfl
  have p2 := RP 2 _ rfl
  have q2 := RQ 2 _ rfl
  have p3 := RP 3 _ rfl
  have q3 := RQ 3 _ rfl
  have p4 := RP 4 _ rfl
  have q4 := RQ 4 _ rfl
  have p5 := RP 5 _ rfl
  have q5 := RQ 5 _ rfl
  have p6 := RP 6 _ rfl
  have q6 := RQ 6 _ rfl
  simp only [Nat.add_zero] at p0 q0
  rw [show op + x * portR.n = op + x * 7 from rfl] at p0 p1 p2 p3 p4 p5 p6
  rw [show op + y * portR.n = op + y * 7 from rfl] at q0 q1 q2 q3 q4 q5 q6
  have lx : (x : Int) < (S.pt.n : Int) := by omega
  have ly : (y : Int) < (S.pt.n : Int) := by omega
  rw [ep] at f1
  have hbp1 : bp < W.heap.size := Nat.lt_of_lt_of_le hbp B0.out.size
  clear rp rq RP RQ a1 a2 c1 c2 hx hy ep PA PB HA HB
  have SK := Lib.hid (show ∀ wx, Below W.heap.size W wx → (wx.cell? ⟨w.heap.size, 1, none⟩ = some (.slice (some ⟨bp, op, none⟩) S.pt.n S.pt.c) ∧ wx.cell? ⟨w.heap.size + 1, 1, none⟩ = some (.int .i64 (x : Int)) ∧ wx.cell? ⟨w.heap.size + 1, 2, none⟩ = some (.int .i64 (y : Int)) ∧ wx.cell? ⟨bp, op + x * 7, none⟩ = some (.int .i64 P.row) ∧ wx.cell? ⟨bp, op + x * 7 + 1, none⟩ = some (.int .i64 P.dev) ∧ wx.cell? ⟨bp, op + x * 7 + 2, none⟩ = some (.int .i64 P.native) ∧ wx.cell? ⟨bp, op + x * 7 + 3, none⟩ = some (.int .i64 P.cost) ∧ wx.cell? ⟨bp, op + x * 7 + 4, none⟩ = some (.int .i64 P.link) ∧ wx.cell? ⟨bp, op + x * 7 + 5, none⟩ = some (.string (str P.name)) ∧ wx.cell? ⟨bp, op + x * 7 + 6, none⟩ = some (.slice s.A s.n s.c) ∧ wx.cell? ⟨bp, op + y * 7, none⟩ = some (.int .i64 Q.row) ∧ wx.cell? ⟨bp, op + y * 7 + 1, none⟩ = some (.int .i64 Q.dev) ∧ wx.cell? ⟨bp, op + y * 7 + 2, none⟩ = some (.int .i64 Q.native) ∧ wx.cell? ⟨bp, op + y * 7 + 3, none⟩ = some (.int .i64 Q.cost) ∧ wx.cell? ⟨bp, op + y * 7 + 4, none⟩ = some (.int .i64 Q.link) ∧ wx.cell? ⟨bp, op + y * 7 + 5, none⟩ = some (.string (str Q.name)) ∧ wx.cell? ⟨bp, op + y * 7 + 6, none⟩ = some (.slice t.A t.n t.c)) from fun wx hx => ⟨(hx.cell (p := ⟨_, 1, none⟩) ql).trans f1, (hx.cell (p := ⟨_, 1, none⟩) ql2).trans g1, (hx.cell (p := ⟨_, 2, none⟩) ql2).trans g2, (hx.cell (p := ⟨bp, _, none⟩) hbp1).trans p0, (hx.cell (p := ⟨bp, _, none⟩) hbp1).trans p1, (hx.cell (p := ⟨bp, _, none⟩) hbp1).trans p2, (hx.cell (p := ⟨bp, _, none⟩) hbp1).trans p3, (hx.cell (p := ⟨bp, _, none⟩) hbp1).trans p4, (hx.cell (p := ⟨bp, _, none⟩) hbp1).trans p5, (hx.cell (p := ⟨bp, _, none⟩) hbp1).trans p6, (hx.cell (p := ⟨bp, _, none⟩) hbp1).trans q0, (hx.cell (p := ⟨bp, _, none⟩) hbp1).trans q1, (hx.cell (p := ⟨bp, _, none⟩) hbp1).trans q2, (hx.cell (p := ⟨bp, _, none⟩) hbp1).trans q3, (hx.cell (p := ⟨bp, _, none⟩) hbp1).trans q4, (hx.cell (p := ⟨bp, _, none⟩) hbp1).trans q5, (hx.cell (p := ⟨bp, _, none⟩) hbp1).trans q6⟩)
  go_cut [7, 8] (fun p q wx => ∃ b7 b8, p = .pointer (some ⟨b7, 0, none⟩) ∧ q = .pointer (some ⟨b8, 0, none⟩) ∧ Cs wx b7 [.int .i64 P.row, .int .i64 P.dev, .int .i64 P.native, .int .i64 P.cost, .int .i64 P.link, .string (str P.name), .slice s.A s.n s.c] ∧ Cs wx b8 [.int .i64 Q.row, .int .i64 Q.dev, .int .i64 Q.native, .int .i64 Q.cost, .int .i64 Q.link, .string (str Q.name), .slice t.A t.n t.c] ∧ Below W.heap.size W wx)
  case first =>
    go_region_held_law (fun w' => (w'.cell? ⟨w.heap.size, 1, none⟩ = some (.slice (some ⟨bp, op, none⟩) S.pt.n S.pt.c) ∧ w'.cell? ⟨w.heap.size + 1, 1, none⟩ = some (.int .i64 (x : Int)) ∧ w'.cell? ⟨w.heap.size + 1, 2, none⟩ = some (.int .i64 (y : Int)) ∧ w'.cell? ⟨bp, op + x * 7, none⟩ = some (.int .i64 P.row) ∧ w'.cell? ⟨bp, op + x * 7 + 1, none⟩ = some (.int .i64 P.dev) ∧ w'.cell? ⟨bp, op + x * 7 + 2, none⟩ = some (.int .i64 P.native) ∧ w'.cell? ⟨bp, op + x * 7 + 3, none⟩ = some (.int .i64 P.cost) ∧ w'.cell? ⟨bp, op + x * 7 + 4, none⟩ = some (.int .i64 P.link) ∧ w'.cell? ⟨bp, op + x * 7 + 5, none⟩ = some (.string (str P.name)) ∧ w'.cell? ⟨bp, op + x * 7 + 6, none⟩ = some (.slice s.A s.n s.c) ∧ w'.cell? ⟨bp, op + y * 7, none⟩ = some (.int .i64 Q.row) ∧ w'.cell? ⟨bp, op + y * 7 + 1, none⟩ = some (.int .i64 Q.dev) ∧ w'.cell? ⟨bp, op + y * 7 + 2, none⟩ = some (.int .i64 Q.native) ∧ w'.cell? ⟨bp, op + y * 7 + 3, none⟩ = some (.int .i64 Q.cost) ∧ w'.cell? ⟨bp, op + y * 7 + 4, none⟩ = some (.int .i64 Q.link) ∧ w'.cell? ⟨bp, op + y * 7 + 5, none⟩ = some (.string (str Q.name)) ∧ w'.cell? ⟨bp, op + y * 7 + 6, none⟩ = some (.slice t.A t.n t.c))) ((refine SK.out _ ?_; (repeat (first | exact Below.refl _ _ | exact alloc_below _ _ | exact alloc2_below _ _ _ | (with_reducible refine Below.alloc ?_ (by simp <;> omega) _) | refine below_drewN ?_ 1)))) (fail)
    all_goals (try go_wp2)
    all_goals go_meet
    all_goals (refine ⟨_, _, rfl, rfl, ?_, ?_, ?_⟩)
    all_goals first
      | (refine ⟨fun j v hj => ?_, by (simp <;> omega)⟩; rcases j with _ | _ | _ | _ | _ | _ | _ | j <;> first | (simp at hj; done) | (simp at hj; subst hj; simp [go_sem]; done))
      | (repeat (first | exact Below.refl _ _ | exact alloc_below _ _ | exact alloc2_below _ _ _ | (with_reducible refine Below.alloc ?_ (by simp <;> omega) _) | refine below_drewN ?_ 1))
  case rest =>
  obtain ⟨b7, b8, rfl, rfl, C7, C8, hbw⟩ := hcut
  rename World => w7
  obtain ⟨_, _, hB7⟩ := KQ.out _ hbw
  have B7 := Lib.hid hB7
  have m1 := C7.1 1 _ rfl
  have m4 := C7.1 4 _ rfl
  have o1_ := C8.1 1 _ rfl
  have o4_ := C8.1 4 _ rfl
  clear p0 p1 p2 p3 p4 p5 p6 q0 q1 q2 q3 q4 q5 q6 f0 f1 f2 f3 f4 f5 f6 f7 g0 g1 g2 hB7 hbw C7 C8
  by_cases t1 : P.dev = Q.dev
  · have z1 : (P.dev != Q.dev) = false := by simpa using t1
    have EV := Lib.hid (show V = false by rw [← E.out, decide_eq_false (show ¬ P.dev ≠ Q.dev from fun g => g t1)]; rfl)
    clear t1
    go_wp2
    go_ret
    exact ⟨by rw [EV.out]; rfl, B7.out⟩
  have z1 : (P.dev != Q.dev) = true := by simpa using t1
  by_cases t2 : P.link = (i : Int)
  rotate_left
  · have z2 : (P.link == (i : Int)) = false := by simpa using t2
    have EV := Lib.hid (show V = false by rw [← E.out, decide_eq_false t2]; simp)
    clear t1 t2
    go_wp2
    go_ret
    exact ⟨by rw [EV.out]; rfl, B7.out⟩
  have z2 : (P.link == (i : Int)) = true := by simpa using t2
  by_cases t3 : Q.link = (i : Int)
  rotate_left
  · have z3 : (Q.link == (i : Int)) = false := by simpa using t3
    have EV := Lib.hid (show V = false by rw [← E.out, decide_eq_false t3]; simp)
    clear t1 t2 t3
    go_wp2
    go_ret
    exact ⟨by rw [EV.out]; rfl, B7.out⟩
  have z3 : (Q.link == (i : Int)) = true := by simpa using t3
  have EV := Lib.hid (show V = true by rw [← E.out, decide_eq_true t1, decide_eq_true t2, decide_eq_true t3]; rfl)
  clear t1 t2 t3
  go_wp2
  go_ret
  exact ⟨by rw [EV.out]; rfl, B7.out⟩
end Go.Proofs.Ytnpembgchmmbjaa
