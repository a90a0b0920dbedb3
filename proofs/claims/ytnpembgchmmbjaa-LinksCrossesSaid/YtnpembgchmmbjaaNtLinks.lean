/- The contracts of palingref15.links and palingref15.peer: may all links be; may a domain have that peer? (Made by mk-ntlinks.py.) -/
import Derived.Test.YtnpembgchmmbjaaNtRef1
import Derived.Test.YtnpembgchmmbjaaSeq
import Derived.Deep.DeepCutAuto
namespace Go.Proofs.Ytnpembgchmmbjaa
open Go.RowKit

/-- may a link be, at place i? -/
structure LinkOk (N : NV) (i : Nat) (L : LinkV) : Prop where
  a : plB L.a (N.ports.length : Int) = true
  b : plB L.b (N.ports.length : Int) = true
  dev : (N.ports.getD L.a.toNat PortV.zero).dev ≠ (N.ports.getD L.b.toNat PortV.zero).dev
  la : (N.ports.getD L.a.toNat PortV.zero).link = (i : Int)
  lb : (N.ports.getD L.b.toNat PortV.zero).link = (i : Int)
noncomputable def lksB (N : NV) : Bool := @decide (∀ i, i < N.links.length → LinkOk N i (N.links.getD i LinkV.zero)) (Classical.propDecidable _)
theorem lksB_no {N : NV} {i : Nat} (h : i < N.links.length) (hn : ¬ LinkOk N i (N.links.getD i LinkV.zero)) : lksB N = false := by
  unfold lksB
  exact @decide_eq_false _ (Classical.propDecidable _) (fun g => hn (g i h))
theorem lksB_yes {N : NV} (h : ∀ i, i < N.links.length → LinkOk N i (N.links.getD i LinkV.zero)) : lksB N = true := by
  unfold lksB
  exact @decide_eq_true _ (Classical.propDecidable _) h
theorem lksB_iff (N : NV) : lksB N = true ↔ ∀ i, i < N.links.length → LinkOk N i (N.links.getD i LinkV.zero) := by
  unfold lksB
  exact @decide_eq_true_iff _ (Classical.propDecidable _)
set_option maxRecDepth 20000 in
set_option maxHeartbeats 8000000 in
theorem links_any (N : NV) (S : NSl3) (w : World) (h : NRead w (allB w) N S) : Calls Try.prog 21 #[netV S] w fun e w' => e = .returned (.bool (lksB N)) ∧ Below w.heap.size w w' := by
  have H := Lib.hid h.lk
  have HP := Lib.hid h.pt
  have hle := h.lk.le
  have hcap := h.lk.cap
  have hle2 := h.pt.le
  have hcap2 := h.pt.cap
  have HL := Lib.hid h.lk.len
  have PL := Lib.hid h.pt.len
  have NO := Lib.hid (fun i => @lksB_no N i)
  have YES := Lib.hid (@lksB_yes N)
  have NB := Lib.hid (NBox.new w S 31)
  generalize lksB N = V at *
  clear h
  unfold netV
  go_enter Try.func21, Try.ntmps21
  go_wp2
  obtain ⟨w1, hw1⟩ : ∃ w1, w.alloc (.cells (nA S) 31) = w1 := ⟨_, rfl⟩
  have B1 := Lib.hid (show Below w.heap.size w w1 by rw [← hw1]; exact (Below.refl _ _).alloc (Nat.le_refl _) _)
  rw [hw1] at NB ⊢
  clear hw1
  go_loopw [3] (fun i wr => ∃ k : Nat, i = .int .i64 k ∧ k ≤ S.lk.n ∧ Below w1.heap.size w1 wr ∧ ∀ j, j < k → LinkOk N j (N.links.getD j LinkV.zero)) (fun i _ => match i with | .int _ y => (S.lk.n - y).toNat | _ => 0)
  case atStart => exact ⟨0, rfl, by omega, Below.refl _ _, fun j hj => absurd hj (by omega)⟩
  case round =>
    obtain ⟨k, rfl, hk, hb, hall⟩ := hrel
    have W := Lib.hid hb
    have W0 := Lib.hid (B1.out.trans (hb.mono B1.out.size))
    have AL := Lib.hid hall
    clear hb hall
    have NBr := NB.out.below W.out
    have n1 := NBr.c1
    have n2 := NBr.c2
    have nl := NBr.lt
    by_cases hlt : k < S.lk.n
    rotate_left
    · have lt2 : ¬ (k : Int) < (S.lk.n : Int) := by omega
      have EV := Lib.hid (show V = true from YES.out (fun i hi => AL.out i (by rw [HL.out] at hi; omega)))
      clear NBr
      go_wp2
      go_ret
      exact ⟨by rw [EV.out]; rfl, W0.out⟩
    obtain ⟨b0, o0, vs, e0, _, hb0, hvs, r0⟩ := rsl_at H.out k hlt LinkV.zero
    have hvs : vs = linkC (N.links.getD k LinkV.zero) := hvs
    subst hvs
    have hk2 : k < N.links.length := by rw [HL.out]; exact hlt
    have NOk := Lib.hid (fun hn => NO.out k hk2 hn)
    have ALk := Lib.hid (show LinkOk N k (N.links.getD k LinkV.zero) → ∀ j, j < k + 1 → LinkOk N j (N.links.getD j LinkV.zero) from fun hp j hj => by
      rcases Nat.lt_or_ge j k with h' | h'
      · exact AL.out j h'
      · obtain rfl : j = k := by omega
        exact hp)
    obtain ⟨L, hL⟩ : ∃ L, N.links.getD k LinkV.zero = L := ⟨_, rfl⟩
    rw [hL] at NOk r0 ALk
    have R1 := rangeAt_keep r0 (W0.out.block b0 hb0)
    have d0 := R1 0 _ rfl
    have d1 := R1 1 _ rfl
    have d2 := R1 2 _ rfl
    simp only [Nat.add_zero] at d0
    rw [show o0 + k * linkR.n = o0 + k * 3 from rfl] at d0 d1 d2
    have lt2 : (k : Int) < (S.lk.n : Int) := by omega
    rw [e0] at n2
    clear r0 R1 hk2 hL
    go_upto_region 5 with fail
    obtain ⟨w4, hw4⟩ : ∃ w4, wr.alloc (.cells #[.int .i64 L.row, .int .i64 L.a, .int .i64 L.b] 57) = w4 := ⟨_, rfl⟩
    rw [hw4]
    have k0 : Below wr.heap.size wr w4 := by rw [← hw4]; exact (Below.refl _ _).alloc (Nat.le_refl _) _
    have X4 := Lib.hid (W0.out.trans (k0.mono W0.out.size))
    have Y4 := Lib.hid (W.out.trans (k0.mono W.out.size))
    have nb := NBr.below k0
    have f1 := nb.c1
    have f2 := nb.c2
    obtain ⟨g0, g1, g2⟩ : w4.cell? ⟨wr.heap.size, 0, none⟩ = some (.int .i64 L.row) ∧ w4.cell? ⟨wr.heap.size, 1, none⟩ = some (.int .i64 L.a) ∧ w4.cell? ⟨wr.heap.size, 2, none⟩ = some (.int .i64 L.b) := by rw [← hw4]; simp
    clear hw4 n1 n2 d0 d1 d2 nl e0 nb k0 NBr
    have PA := fun w' => rplace_any L.a (S.pt.n : Int) w'
    have PB := fun w' => rplace_any L.b (S.pt.n : Int) w'
    cases ha : plB L.a (S.pt.n : Int) with
    | false =>
      rw [ha] at PA
      have PA := Lib.hid PA
      have EV := Lib.hid (NOk.out (fun g => by have := g.a; rw [PL.out, ha] at this; cases this))
      clear ha PB
      go_wp2_with (go_at_call 49; (with_reducible refine (PA.out _).mono ?_); rintro e wp ⟨rfl, hwp⟩; subst hwp)
      go_ret
      exact ⟨by rw [EV.out]; rfl, X4.out⟩
    | true =>
    rw [ha] at PA
    have PA := Lib.hid PA
    cases hb : plB L.b (S.pt.n : Int) with
    | false =>
      rw [hb] at PB
      have PB := Lib.hid PB
      have EV := Lib.hid (NOk.out (fun g => by have := g.b; rw [PL.out, hb] at this; cases this))
      clear ha hb
      go_wp2_with (first
        | (go_at_call 49; (with_reducible refine (PA.out _).mono ?_); rintro e wp ⟨rfl, hwp⟩; subst hwp)
        | (go_at_call 49; (with_reducible refine (PB.out _).mono ?_); rintro e wp ⟨rfl, hwp⟩; subst hwp))
      go_ret
      exact ⟨by rw [EV.out]; rfl, X4.out⟩
    | true =>
    rw [hb] at PB
    have PB := Lib.hid PB
    obtain ⟨a1, a2⟩ := (plB_iff _ _).1 ha
    obtain ⟨c1, c2⟩ := (plB_iff _ _).1 hb
    obtain ⟨x, hx⟩ := Int.eq_ofNat_of_zero_le a1
    obtain ⟨y, hy⟩ := Int.eq_ofNat_of_zero_le c1
    have hxl : x < S.pt.n := by omega
    have hyl : y < S.pt.n := by omega
    have AH := Lib.hid (show plB L.a (N.ports.length : Int) = true by rw [PL.out]; exact ha)
    have BH := Lib.hid (show plB L.b (N.ports.length : Int) = true by rw [PL.out]; exact hb)
    obtain ⟨bp, op, vp, ep, _, hbp, ⟨sp, rfl, _⟩, rp⟩ := rsl_at HP.out x hxl PortV.zero
    obtain ⟨bq, oq, vq, eq_, _, _, ⟨sq, rfl, _⟩, rq⟩ := rsl_at HP.out y hyl PortV.zero
    rw [ep] at eq_
    injection eq_ with eq_
    injection eq_ with h1 h2
    subst h1 h2
    have RP := rangeAt_keep rp (X4.out.block bp hbp)
    have RQ := rangeAt_keep rq (X4.out.block bp hbp)
    have GX := Lib.hid (show N.ports.getD L.a.toNat PortV.zero = N.ports.getD x PortV.zero by rw [hx]; rfl)
    have GY := Lib.hid (show N.ports.getD L.b.toNat PortV.zero = N.ports.getD y PortV.zero by rw [hy]; rfl)
    generalize N.ports.getD x PortV.zero = P at *
    generalize N.ports.getD y PortV.zero = Q at *
    have p1 := RP 1 _ rfl
    have p4 := RP 4 _ rfl
    have q1 := RQ 1 _ rfl
    have q4 := RQ 4 _ rfl
    rw [show op + x * portR.n = op + x * 7 from rfl] at p1 p4
    rw [show op + y * portR.n = op + y * 7 from rfl] at q1 q4
    have lx : (x : Int) < (S.pt.n : Int) := by omega
    have ly : (y : Int) < (S.pt.n : Int) := by omega
    rw [ep] at f1
    rw [hx] at g1
    rw [hy] at g2
    have PA := PA.out
    have PB := PB.out
    rw [hx] at PA
    rw [hy] at PB
    have PA := Lib.hid PA
    have PB := Lib.hid PB
    clear rp rq RP RQ a1 a2 c1 c2 ha hb hx hy ep
    by_cases t1 : P.dev = Q.dev
    · have z1 : (P.dev == Q.dev) = true := by simpa using t1
      have EV := Lib.hid (NOk.out (fun g => g.dev (by rw [GX.out, GY.out]; exact t1)))
      clear t1
      go_wp2_with (first
        | (go_at_call 49; (with_reducible refine (PA.out _).mono ?_); rintro e wp ⟨rfl, hwp⟩; subst hwp)
        | (go_at_call 49; (with_reducible refine (PB.out _).mono ?_); rintro e wp ⟨rfl, hwp⟩; subst hwp))
      go_quiet (fail)
      go_wp2
      go_ret
      exact ⟨by rw [EV.out]; rfl, below_drewN X4.out _⟩
    have z1 : (P.dev == Q.dev) = false := by simpa using t1
    by_cases t2 : P.link = (k : Int)
    rotate_left
    · have z2 : (P.link != (k : Int)) = true := by simpa using t2
      have EV := Lib.hid (NOk.out (fun g => t2 (by rw [← GX.out]; exact g.la)))
      clear t1 t2
      go_wp2_with (first
        | (go_at_call 49; (with_reducible refine (PA.out _).mono ?_); rintro e wp ⟨rfl, hwp⟩; subst hwp)
        | (go_at_call 49; (with_reducible refine (PB.out _).mono ?_); rintro e wp ⟨rfl, hwp⟩; subst hwp))
      go_quiet (fail)
      go_wp2
      go_ret
      exact ⟨by rw [EV.out]; rfl, below_drewN X4.out _⟩
    have z2 : (P.link != (k : Int)) = false := by simpa using t2
    by_cases t3 : Q.link = (k : Int)
    rotate_left
    · have z3 : (Q.link != (k : Int)) = true := by simpa using t3
      have EV := Lib.hid (NOk.out (fun g => t3 (by rw [← GY.out]; exact g.lb)))
      clear t1 t2 t3
      go_wp2_with (first
        | (go_at_call 49; (with_reducible refine (PA.out _).mono ?_); rintro e wp ⟨rfl, hwp⟩; subst hwp)
        | (go_at_call 49; (with_reducible refine (PB.out _).mono ?_); rintro e wp ⟨rfl, hwp⟩; subst hwp))
      go_quiet (fail)
      go_wp2
      go_ret
      exact ⟨by rw [EV.out]; rfl, below_drewN X4.out _⟩
    have z3 : (Q.link != (k : Int)) = false := by simpa using t3
    have OK := Lib.hid (ALk.out ⟨AH.out, BH.out, by rw [GX.out, GY.out]; exact t1, by rw [GX.out]; exact t2, by rw [GY.out]; exact t3⟩)
    clear t1 t2 t3
    go_wp2_with (first
      | (go_at_call 49; (with_reducible refine (PA.out _).mono ?_); rintro e wp ⟨rfl, hwp⟩; subst hwp)
      | (go_at_call 49; (with_reducible refine (PB.out _).mono ?_); rintro e wp ⟨rfl, hwp⟩; subst hwp))
    go_quiet (fail)
    go_wp2
    go_roundw
    case rel => exact ⟨k + 1, by simp, by omega, below_drewN Y4.out _, OK.out⟩
    case measure => simp only []; omega
end Go.Proofs.Ytnpembgchmmbjaa
