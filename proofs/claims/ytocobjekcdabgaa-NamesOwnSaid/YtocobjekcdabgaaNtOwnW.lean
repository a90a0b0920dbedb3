/- The walk of NamesOwn. (Made by mk-ntownw.py.) -/
import Derived.Test.YtocobjekcdabgaaNtInc
import Derived.Test.YtocobjekcdabgaaNnSame
import Derived.Test.YtocobjekcdabgaaNnCopy
import Derived.Deep.CutBlock
import Derived.Deep.DeepCutAuto
namespace Go.Proofs.Ytocobjekcdabgaa
open Go.RowKit

set_option maxRecDepth 20000 in
set_option maxHeartbeats 8000000 in
theorem nown_walk (N : NV) (S : NSl3) (w : World) (h : NRead w (allB w) N S) (hm : NmSz N) : Calls Try.prog 4 #[netV S] w fun e w' => e = .returned (.bool true) ∧ Below w.heap.size w w' := by
  have HM := Lib.hid hm
  clear hm
  have NB := Lib.hid (NBox.new w S 31)
  have B0 := Lib.hid (show Below w.heap.size w (w.alloc (.cells #[.slice S.dv.A S.dv.n S.dv.c, .slice S.pt.A S.pt.n S.pt.c, .slice S.lk.A S.lk.n S.lk.c, .slice S.dm.A S.dm.n S.dm.c, .slice S.st.A S.st.n S.st.c, .slice S.fl.A S.fl.n S.fl.c, .slice S.vr.A S.vr.n S.vr.c, .slice S.ir.A S.ir.n S.ir.c] 31)) from (Below.refl _ _).alloc (Nat.le_refl _) _)
  have U1 := Lib.hid (fun (w' : World) (hb : Below w.heap.size w w') => h.up hb)
  have G1 := fun (w' : World) (hb : Below w.heap.size w w') => ngreat_any N S w' (h.up hb)
  clear h
  unfold netV at G1 ⊢
  have G1 := Lib.hid G1
  go_enter Try.func4, Try.ntmps4
  go_upto_region 1 with fail
  obtain ⟨w1, hw1⟩ : ∃ w1, w.alloc (.cells #[.slice S.dv.A S.dv.n S.dv.c, .slice S.pt.A S.pt.n S.pt.c, .slice S.lk.A S.lk.n S.lk.c, .slice S.dm.A S.dm.n S.dm.c, .slice S.st.A S.st.n S.st.c, .slice S.fl.A S.fl.n S.fl.c, .slice S.vr.A S.vr.n S.vr.c, .slice S.ir.A S.ir.n S.ir.c] 31) = w1 := ⟨_, rfl⟩
  rw [hw1] at NB B0 ⊢
  clear hw1
  have KN := Lib.hid (show ∀ wx, Below w1.heap.size w1 wx → (wx.cell? ⟨w.heap.size, 0, none⟩ = some (.slice S.dv.A S.dv.n S.dv.c) ∧ wx.cell? ⟨w.heap.size, 1, none⟩ = some (.slice S.pt.A S.pt.n S.pt.c) ∧ wx.cell? ⟨w.heap.size, 2, none⟩ = some (.slice S.lk.A S.lk.n S.lk.c) ∧ wx.cell? ⟨w.heap.size, 3, none⟩ = some (.slice S.dm.A S.dm.n S.dm.c) ∧ wx.cell? ⟨w.heap.size, 4, none⟩ = some (.slice S.st.A S.st.n S.st.c) ∧ wx.cell? ⟨w.heap.size, 5, none⟩ = some (.slice S.fl.A S.fl.n S.fl.c) ∧ wx.cell? ⟨w.heap.size, 6, none⟩ = some (.slice S.vr.A S.vr.n S.vr.c) ∧ wx.cell? ⟨w.heap.size, 7, none⟩ = some (.slice S.ir.A S.ir.n S.ir.c)) ∧ Below w.heap.size w wx from fun wx hx => by
    have nb := NB.out.below hx
    exact ⟨⟨nb.c0, nb.c1, nb.c2, nb.c3, nb.c4, nb.c5, nb.c6, nb.c7⟩, B0.out.trans (hx.mono B0.out.size)⟩)
  obtain ⟨f0, f1, f2, f3, f4, f5, f6, f7⟩ := (KN.out w1 (Below.refl _ _)).1
  go_wp2_with (first
    | (go_at_call 5; (with_reducible refine (works15_any _).mono ?_); rintro e w2 ⟨rfl, b2⟩; have Y2 := Lib.hid (b2); have X2 := Lib.hid (KN.out _ Y2.out).2; obtain ⟨f0, f1, f2, f3, f4, f5, f6, f7⟩ := (KN.out _ Y2.out).1; clear b2)
    | (go_at_call 6; (with_reducible refine (G1.out _ X2.out).mono ?_); rintro e w3 ⟨g1, rfl, hg1, b3⟩; have Y3 := Lib.hid (trans_below Y2.out b3); have X3 := Lib.hid (KN.out _ Y3.out).2; have HG1 := Lib.hid hg1; obtain ⟨f0, f1, f2, f3, f4, f5, f6, f7⟩ := (KN.out _ Y3.out).1; clear hg1 b3; cases g1))
  rotate_left
  · go_wp2
    go_ret
    exact ⟨rfl, X3.out⟩
  have SN := Lib.hid (HG1.out (by simp))
  have XC := fun (w' : World) (hb : Below w.heap.size w w') => xncopy_any N S w' (U1.out w' hb) SN.out HM.out
  have XC2 := fun (w' : World) (S1 : NSl3) (hr : NRead w' (allB w') N S1) => xncopy_any N S1 w' hr SN.out HM.out
  have XS := fun (w' : World) (S1 : NSl3) (hr : NRead w' (allB w') N S1) (hb : Below w.heap.size w w') => xnsame_any N N S1 S w' hr (U1.out w' hb) SN.out SN.out
  rw [nsmB_yes rfl] at XS
  unfold netV at XS
  unfold GotNet netV at XC XC2
  have XC := Lib.hid XC
  have XC2 := Lib.hid XC2
  have XS := Lib.hid XS
  clear HG1 G1
  (with_reducible refine (XC.out _ X3.out).mono ?_); rintro e w4 ⟨S1, rfl, hr, hb⟩
  have HR := Lib.hid hr; have HB := Lib.hid (trans_below Y3.out hb); clear hb hr
  go_upto_region 6 with fail
  obtain ⟨w5, hw5⟩ : ∃ w5, w4.alloc (.cells #[.slice S1.dv.A S1.dv.n S1.dv.c, .slice S1.pt.A S1.pt.n S1.pt.c, .slice S1.lk.A S1.lk.n S1.lk.c, .slice S1.dm.A S1.dm.n S1.dm.c, .slice S1.st.A S1.st.n S1.st.c, .slice S1.fl.A S1.fl.n S1.fl.c, .slice S1.vr.A S1.vr.n S1.vr.c, .slice S1.ir.A S1.ir.n S1.ir.c] 31) = w5 := ⟨_, rfl⟩
  have K4 : Below w4.heap.size w4 w5 := by rw [← hw5]; exact (Below.refl _ _).alloc (Nat.le_refl _) _
  have NB1 := Lib.hid (show NBox w5 w4.heap.size S1 from by rw [← hw5]; exact NBox.new _ _ _)
  have R1 := Lib.hid (show NRead w5 (allB w5) N S1 from HR.out.keep (fun b hb => K4.block b hb.2.1) (fun b hb => Nat.lt_of_lt_of_le hb.2.1 K4.size))
  have B5 := Lib.hid (trans_below HB.out K4)
  have X5 := Lib.hid (KN.out _ B5.out).2
  have lt5 : w4.heap.size < w5.heap.size := NB1.out.lt
  rw [hw5]
  clear hw5 K4 HR HB f0 f1 f2 f3 f4 f5 f6 f7
  have KM := Lib.hid (show ∀ wx, Below w5.heap.size w5 wx → (wx.cell? ⟨w4.heap.size, 0, none⟩ = some (.slice S1.dv.A S1.dv.n S1.dv.c) ∧ wx.cell? ⟨w4.heap.size, 1, none⟩ = some (.slice S1.pt.A S1.pt.n S1.pt.c) ∧ wx.cell? ⟨w4.heap.size, 2, none⟩ = some (.slice S1.lk.A S1.lk.n S1.lk.c) ∧ wx.cell? ⟨w4.heap.size, 3, none⟩ = some (.slice S1.dm.A S1.dm.n S1.dm.c) ∧ wx.cell? ⟨w4.heap.size, 4, none⟩ = some (.slice S1.st.A S1.st.n S1.st.c) ∧ wx.cell? ⟨w4.heap.size, 5, none⟩ = some (.slice S1.fl.A S1.fl.n S1.fl.c) ∧ wx.cell? ⟨w4.heap.size, 6, none⟩ = some (.slice S1.vr.A S1.vr.n S1.vr.c) ∧ wx.cell? ⟨w4.heap.size, 7, none⟩ = some (.slice S1.ir.A S1.ir.n S1.ir.c)) ∧ (wx.cell? ⟨w.heap.size, 0, none⟩ = some (.slice S.dv.A S.dv.n S.dv.c) ∧ wx.cell? ⟨w.heap.size, 1, none⟩ = some (.slice S.pt.A S.pt.n S.pt.c) ∧ wx.cell? ⟨w.heap.size, 2, none⟩ = some (.slice S.lk.A S.lk.n S.lk.c) ∧ wx.cell? ⟨w.heap.size, 3, none⟩ = some (.slice S.dm.A S.dm.n S.dm.c) ∧ wx.cell? ⟨w.heap.size, 4, none⟩ = some (.slice S.st.A S.st.n S.st.c) ∧ wx.cell? ⟨w.heap.size, 5, none⟩ = some (.slice S.fl.A S.fl.n S.fl.c) ∧ wx.cell? ⟨w.heap.size, 6, none⟩ = some (.slice S.vr.A S.vr.n S.vr.c) ∧ wx.cell? ⟨w.heap.size, 7, none⟩ = some (.slice S.ir.A S.ir.n S.ir.c)) ∧ Below w.heap.size w wx from fun wx hx => by
    have nb := NB1.out.below hx
    exact ⟨⟨nb.c0, nb.c1, nb.c2, nb.c3, nb.c4, nb.c5, nb.c6, nb.c7⟩, (KN.out _ (trans_below B5.out hx)).1, X5.out.trans (hx.mono X5.out.size)⟩)
  obtain ⟨⟨f0, f1, f2, f3, f4, f5, f6, f7⟩, _⟩ := KM.out w5 (Below.refl _ _)
  go_cut [4] (fun p wx => ∃ q S2, p = .pointer (some ⟨q, 0, none⟩) ∧ NRead wx (fun b => w5.heap.size ≤ b ∧ b < q ∧ ∀ o, wx.frozen? ⟨b, o, none⟩ = false) N S2 ∧ NBox wx q S2 ∧ Below w5.heap.size w5 wx)
  case first =>
    go_wp2_with (go_at_call 11; (with_reducible refine (XC2.out _ S1 R1.out).mono ?_); rintro e w6 ⟨S2, rfl, hr, hb⟩; have HR := Lib.hid hr; have HB := Lib.hid hb; clear hb hr)
    go_meet
    exact ⟨_, S2, rfl, HR.out.keep (fun b hb => ((Below.refl w6.heap.size w6).alloc (Nat.le_refl _) _).block b hb.2.1) (fun b hb => ⟨hb.1, hb.2.1, fun o => (World.frozen?_of_block (w := w6) (a := ⟨b, o, none⟩) (((Below.refl w6.heap.size w6).alloc (Nat.le_refl _) _).block b hb.2.1)).trans (hb.2.2 o)⟩), NBox.new _ _ _, HB.out.trans (((Below.refl w6.heap.size w6).alloc (Nat.le_refl _) _).mono HB.out.size)⟩
  case rest =>
  obtain ⟨q, S2, rfl, hr2, hn2, hb2⟩ := hcut
  rename World => w7
  have R2 := Lib.hid hr2
  have NB2 := Lib.hid hn2
  have B7 := Lib.hid hb2
  have I0 := Lib.hid (show IntSt w5.heap.size (fun b => w5.heap.size ≤ b ∧ b < q ∧ ∀ o, w7.frozen? ⟨b, o, none⟩ = false) w7 w7 from ⟨Below.refl _ _, fun _ _ _ h => .inl h, fun b o hF => hF.2.2 o⟩)
  clear hr2 hn2 hb2 f0 f1 f2 f3 f4 f5 f6 f7
  have ES := Lib.hid (show IntSt w5.heap.size (fun b => w5.heap.size ≤ b ∧ b < q ∧ ∀ o, w7.frozen? ⟨b, o, none⟩ = false) w7 w7 from I0.out)
  have nx := I0.out.sl NB2.out.c0
  have hle := R2.out.dv.le
  have hcap := R2.out.dv.cap
  go_upto_block 0 with fail
  go_cut [] (fun wx => IntSt w5.heap.size (fun b => w5.heap.size ≤ b ∧ b < q ∧ ∀ o, w7.frozen? ⟨b, o, none⟩ = false) w7 wx)
  case first =>
    clear nx
    go_wp2_with fail
    go_loopw [23] (fun i wr => ∃ k : Nat, i = .int .i64 k ∧ k ≤ S2.dv.n ∧ IntSt w5.heap.size (fun b => w5.heap.size ≤ b ∧ b < q ∧ ∀ o, w7.frozen? ⟨b, o, none⟩ = false) w7 wr) (fun i _ => match i with | .int _ y => (S2.dv.n - y).toNat | _ => 0)
    case atStart => exact ⟨0, rfl, by omega, I0.out⟩
    case round =>
    obtain ⟨k, rfl, hk, hI⟩ := hrel
    have I := Lib.hid hI
    clear hI
    by_cases hlt : k < S2.dv.n
    rotate_left
    · have lt2 : ¬ (k : Int) < (S2.dv.n : Int) := by omega
      go_wp2
      go_meet
      exact I.out
    obtain ⟨b0, o0, vs, e0, hF, hb0, hvs, r0⟩ := rsl_at R2.out.dv k hlt DevV.zero
    have hvs : vs = devC (N.devices.getD k DevV.zero) := hvs
    subst hvs
    have HF := Lib.hid (show w5.heap.size ≤ b0 ∧ b0 < q ∧ ∀ o, w7.frozen? ⟨b0, o, none⟩ = false from hF)
    have E0 := Lib.hid e0
    have d := Lib.hid (r0 1 _ rfl)
    have lt2 : (k : Int) < (S2.dv.n : Int) := by omega
    clear hF e0 r0
    obtain ⟨y, c1⟩ := I.out.int d.out
    have z1 := I.out.free _ (o0 + k * 5 + 1) HF.out
    rw [show o0 + k * devR.n = o0 + k * 5 from rfl] at c1
    have J := Lib.hid (fun z => I.out.set HF.out.1 c1 z)
    have nx := I.out.sl NB2.out.c0
    rw [E0.out] at nx
    go_wp2
    go_roundw
    case rel => exact ⟨k + 1, by simp, by omega, J.out _⟩
    case measure => simp only []; omega
  case rest =>
  have I1 := Lib.hid hcut
  clear hcut nx I0 hle hcap
  have I0 := Lib.hid I1.out
  clear I1
  have nx := I0.out.sl NB2.out.c1
  have hle := R2.out.pt.le
  have hcap := R2.out.pt.cap
  go_upto_block 2 with fail
  go_cut [] (fun wx => IntSt w5.heap.size (fun b => w5.heap.size ≤ b ∧ b < q ∧ ∀ o, w7.frozen? ⟨b, o, none⟩ = false) w7 wx)
  case first =>
    clear nx
    go_wp2_with fail
    go_loopw [39] (fun i wr => ∃ k : Nat, i = .int .i64 k ∧ k ≤ S2.pt.n ∧ IntSt w5.heap.size (fun b => w5.heap.size ≤ b ∧ b < q ∧ ∀ o, w7.frozen? ⟨b, o, none⟩ = false) w7 wr) (fun i _ => match i with | .int _ y => (S2.pt.n - y).toNat | _ => 0)
    case atStart => exact ⟨0, rfl, by omega, I0.out⟩
    case round =>
    obtain ⟨k, rfl, hk, hI⟩ := hrel
    have I := Lib.hid hI
    clear hI
    by_cases hlt : k < S2.pt.n
    rotate_left
    · have lt2 : ¬ (k : Int) < (S2.pt.n : Int) := by omega
      go_wp2
      go_meet
      exact I.out
    obtain ⟨b0, o0, vs, e0, hF, hb0, ⟨s, rfl, l1⟩, r0⟩ := rsl_at R2.out.pt k hlt PortV.zero
    have HF := Lib.hid (show w5.heap.size ≤ b0 ∧ b0 < q ∧ ∀ o, w7.frozen? ⟨b0, o, none⟩ = false from hF)
    have E0 := Lib.hid e0
    have d := Lib.hid (r0 2 _ rfl)
    have lt2 : (k : Int) < (S2.pt.n : Int) := by omega
    have D := Lib.hid (show w7.cell? ⟨b0, o0 + k * 7 + 6, none⟩ = some (.slice s.A s.n s.c) from r0 6 _ rfl)
    have L1 := Lib.hid l1
    have hle1 := l1.le
    have hcap1 := l1.cap
    clear hF e0 r0 l1
    obtain ⟨y, c1⟩ := I.out.int d.out
    have z1 := I.out.free _ (o0 + k * 7 + 2) HF.out
    rw [show o0 + k * portR.n = o0 + k * 7 from rfl] at c1
    have J := Lib.hid (fun z => I.out.set HF.out.1 c1 z)
    have nx := I.out.sl NB2.out.c1
    rw [E0.out] at nx
    go_upto_region 15 with fail
    go_cut [] (fun wx => IntSt w5.heap.size (fun b => w5.heap.size ≤ b ∧ b < q ∧ ∀ o, w7.frozen? ⟨b, o, none⟩ = false) w7 wx)
    case first =>
      go_wp2
      go_meet
      exact J.out _
    case rest =>
    have I := Lib.hid hcut
    clear hcut J nx c1 z1
    have nx := I.out.sl NB2.out.c1
    rw [E0.out] at nx
    have c6 := I.out.sl D.out
    go_upto_block 4 with fail
    clear nx c6
    go_wp2_with fail
    have IS := Lib.hid I.out
    go_loopw [58] (fun i wr => ∃ k2 : Nat, i = .int .i64 k2 ∧ k2 ≤ s.n ∧ IntSt w5.heap.size (fun b => w5.heap.size ≤ b ∧ b < q ∧ ∀ o, w7.frozen? ⟨b, o, none⟩ = false) w7 wr) (fun i _ => match i with | .int _ y => (s.n - y).toNat | _ => 0)
    case atStart => exact ⟨0, rfl, by omega, IS.out⟩
    case round =>
    obtain ⟨k2, rfl, hk2, hI⟩ := hrel
    have I := Lib.hid hI
    clear hI
    by_cases hlt2 : k2 < s.n
    rotate_left
    · have lt3 : ¬ (k2 : Int) < (s.n : Int) := by omega
      go_wp2
      go_roundw
      case rel => exact ⟨k + 1, by simp, by omega, I.out⟩
      case measure => simp only []; omega
    obtain ⟨b1, o1, us, e1, hF1, hb1, hu, r1⟩ := rsl_at L1.out k2 hlt2 0
    have HF1 := Lib.hid (show w5.heap.size ≤ b1 ∧ b1 < q ∧ ∀ o, w7.frozen? ⟨b1, o, none⟩ = false from hF1)
    have hu : us = [.int .i64 _] := hu
    subst hu
    have d1 := r1 0 _ rfl
    rw [show o1 + k2 * (Rdr.int .i64).n + 0 = o1 + k2 from by show o1 + k2 * 1 + 0 = o1 + k2; omega] at d1
    have lt3 : (k2 : Int) < (s.n : Int) := by omega
    have c6 := I.out.sl D.out
    rw [e1] at c6
    obtain ⟨y2, c2⟩ := I.out.int d1
    have z2 := I.out.free _ (o1 + k2) HF1.out
    have J := Lib.hid (fun z => I.out.set HF1.out.1 c2 z)
    have nx := I.out.sl NB2.out.c1
    rw [E0.out] at nx
    clear e1 hF1 r1 d1
    go_wp2
    go_roundw
    case rel => exact ⟨k2 + 1, by simp, by omega, J.out _⟩
    case measure => simp only []; omega
  case rest =>
  have I2 := Lib.hid hcut
  clear hcut nx I0 hle hcap
  have I0 := Lib.hid I2.out
  clear I2
  have nx := I0.out.sl NB2.out.c3
  have hle := R2.out.dm.le
  have hcap := R2.out.dm.cap
  go_upto_block 6 with fail
  go_cut [] (fun wx => IntSt w5.heap.size (fun b => w5.heap.size ≤ b ∧ b < q ∧ ∀ o, w7.frozen? ⟨b, o, none⟩ = false) w7 wx)
  case first =>
    clear nx
    go_wp2_with fail
    go_loopw [77] (fun i wr => ∃ k : Nat, i = .int .i64 k ∧ k ≤ S2.dm.n ∧ IntSt w5.heap.size (fun b => w5.heap.size ≤ b ∧ b < q ∧ ∀ o, w7.frozen? ⟨b, o, none⟩ = false) w7 wr) (fun i _ => match i with | .int _ y => (S2.dm.n - y).toNat | _ => 0)
    case atStart => exact ⟨0, rfl, by omega, I0.out⟩
    case round =>
    obtain ⟨k, rfl, hk, hI⟩ := hrel
    have I := Lib.hid hI
    clear hI
    by_cases hlt : k < S2.dm.n
    rotate_left
    · have lt2 : ¬ (k : Int) < (S2.dm.n : Int) := by omega
      go_wp2
      go_meet
      exact I.out
    obtain ⟨b0, o0, vs, e0, hF, hb0, ⟨s, rfl, l1⟩, r0⟩ := rsl_at R2.out.dm k hlt DomV.zero
    have HF := Lib.hid (show w5.heap.size ≤ b0 ∧ b0 < q ∧ ∀ o, w7.frozen? ⟨b0, o, none⟩ = false from hF)
    have E0 := Lib.hid e0
    have d := Lib.hid (r0 1 _ rfl)
    have lt2 : (k : Int) < (S2.dm.n : Int) := by omega
    have D := Lib.hid (show w7.cell? ⟨b0, o0 + k * 6 + 5, none⟩ = some (.slice s.A s.n s.c) from r0 5 _ rfl)
    have L1 := Lib.hid l1
    have hle1 := l1.le
    have hcap1 := l1.cap
    clear hF e0 r0 l1
    obtain ⟨y, c1⟩ := I.out.int d.out
    have z1 := I.out.free _ (o0 + k * 6 + 1) HF.out
    rw [show o0 + k * domR.n = o0 + k * 6 from rfl] at c1
    have J := Lib.hid (fun z => I.out.set HF.out.1 c1 z)
    have nx := I.out.sl NB2.out.c3
    rw [E0.out] at nx
    go_upto_region 25 with fail
    go_cut [] (fun wx => IntSt w5.heap.size (fun b => w5.heap.size ≤ b ∧ b < q ∧ ∀ o, w7.frozen? ⟨b, o, none⟩ = false) w7 wx)
    case first =>
      go_wp2
      go_meet
      exact J.out _
    case rest =>
    have I := Lib.hid hcut
    clear hcut J nx c1 z1
    have nx := I.out.sl NB2.out.c3
    rw [E0.out] at nx
    have c6 := I.out.sl D.out
    go_upto_block 8 with fail
    clear nx c6
    go_wp2_with fail
    have IS := Lib.hid I.out
    go_loopw [96] (fun i wr => ∃ k2 : Nat, i = .int .i64 k2 ∧ k2 ≤ s.n ∧ IntSt w5.heap.size (fun b => w5.heap.size ≤ b ∧ b < q ∧ ∀ o, w7.frozen? ⟨b, o, none⟩ = false) w7 wr) (fun i _ => match i with | .int _ y => (s.n - y).toNat | _ => 0)
    case atStart => exact ⟨0, rfl, by omega, IS.out⟩
    case round =>
    obtain ⟨k2, rfl, hk2, hI⟩ := hrel
    have I := Lib.hid hI
    clear hI
    by_cases hlt2 : k2 < s.n
    rotate_left
    · have lt3 : ¬ (k2 : Int) < (s.n : Int) := by omega
      go_wp2
      go_roundw
      case rel => exact ⟨k + 1, by simp, by omega, I.out⟩
      case measure => simp only []; omega
    obtain ⟨b1, o1, us, e1, hF1, hb1, hu, r1⟩ := rsl_at L1.out k2 hlt2 0
    have HF1 := Lib.hid (show w5.heap.size ≤ b1 ∧ b1 < q ∧ ∀ o, w7.frozen? ⟨b1, o, none⟩ = false from hF1)
    have hu : us = [.int .i64 _] := hu
    subst hu
    have d1 := r1 0 _ rfl
    rw [show o1 + k2 * (Rdr.int .i64).n + 0 = o1 + k2 from by show o1 + k2 * 1 + 0 = o1 + k2; omega] at d1
    have lt3 : (k2 : Int) < (s.n : Int) := by omega
    have c6 := I.out.sl D.out
    rw [e1] at c6
    obtain ⟨y2, c2⟩ := I.out.int d1
    have z2 := I.out.free _ (o1 + k2) HF1.out
    have J := Lib.hid (fun z => I.out.set HF1.out.1 c2 z)
    have nx := I.out.sl NB2.out.c3
    rw [E0.out] at nx
    clear e1 hF1 r1 d1
    go_wp2
    go_roundw
    case rel => exact ⟨k2 + 1, by simp, by omega, J.out _⟩
    case measure => simp only []; omega
  case rest =>
  have I3 := Lib.hid hcut
  clear hcut nx I0 hle hcap
  have I0 := Lib.hid I3.out
  clear I3
  have nx := I0.out.sl NB2.out.c6
  have hle := R2.out.vr.le
  have hcap := R2.out.vr.cap
  go_upto_block 10 with fail
  go_cut [] (fun wx => IntSt w5.heap.size (fun b => w5.heap.size ≤ b ∧ b < q ∧ ∀ o, w7.frozen? ⟨b, o, none⟩ = false) w7 wx)
  case first =>
    clear nx
    go_wp2_with fail
    go_loopw [115] (fun i wr => ∃ k : Nat, i = .int .i64 k ∧ k ≤ S2.vr.n ∧ IntSt w5.heap.size (fun b => w5.heap.size ≤ b ∧ b < q ∧ ∀ o, w7.frozen? ⟨b, o, none⟩ = false) w7 wr) (fun i _ => match i with | .int _ y => (S2.vr.n - y).toNat | _ => 0)
    case atStart => exact ⟨0, rfl, by omega, I0.out⟩
    case round =>
    obtain ⟨k, rfl, hk, hI⟩ := hrel
    have I := Lib.hid hI
    clear hI
    by_cases hlt : k < S2.vr.n
    rotate_left
    · have lt2 : ¬ (k : Int) < (S2.vr.n : Int) := by omega
      go_wp2
      go_meet
      exact I.out
    obtain ⟨b0, o0, vs, e0, hF, hb0, ⟨s, t, rfl, l1, l2⟩, r0⟩ := rsl_at R2.out.vr k hlt VrfV.zero
    have HF := Lib.hid (show w5.heap.size ≤ b0 ∧ b0 < q ∧ ∀ o, w7.frozen? ⟨b0, o, none⟩ = false from hF)
    have E0 := Lib.hid e0
    have d := Lib.hid (r0 1 _ rfl)
    have lt2 : (k : Int) < (S2.vr.n : Int) := by omega
    have D := Lib.hid (show w7.cell? ⟨b0, o0 + k * 5 + 3, none⟩ = some (.slice s.A s.n s.c) from r0 3 _ rfl)
    have L1 := Lib.hid l1
    have hle1 := l1.le
    have hcap1 := l1.cap
    clear hF e0 r0 l1 l2
    obtain ⟨y, c1⟩ := I.out.int d.out
    have z1 := I.out.free _ (o0 + k * 5 + 1) HF.out
    rw [show o0 + k * vrfR.n = o0 + k * 5 from rfl] at c1
    have J := Lib.hid (fun z => I.out.set HF.out.1 c1 z)
    have nx := I.out.sl NB2.out.c6
    rw [E0.out] at nx
    go_upto_region 35 with fail
    go_cut [] (fun wx => IntSt w5.heap.size (fun b => w5.heap.size ≤ b ∧ b < q ∧ ∀ o, w7.frozen? ⟨b, o, none⟩ = false) w7 wx)
    case first =>
      go_wp2
      go_meet
      exact J.out _
    case rest =>
    have I := Lib.hid hcut
    clear hcut J nx c1 z1
    have nx := I.out.sl NB2.out.c6
    rw [E0.out] at nx
    have c6 := I.out.sl D.out
    go_upto_block 12 with fail
    clear nx c6
    go_wp2_with fail
    have IS := Lib.hid I.out
    go_loopw [134] (fun i wr => ∃ k2 : Nat, i = .int .i64 k2 ∧ k2 ≤ s.n ∧ IntSt w5.heap.size (fun b => w5.heap.size ≤ b ∧ b < q ∧ ∀ o, w7.frozen? ⟨b, o, none⟩ = false) w7 wr) (fun i _ => match i with | .int _ y => (s.n - y).toNat | _ => 0)
    case atStart => exact ⟨0, rfl, by omega, IS.out⟩
    case round =>
    obtain ⟨k2, rfl, hk2, hI⟩ := hrel
    have I := Lib.hid hI
    clear hI
    by_cases hlt2 : k2 < s.n
    rotate_left
    · have lt3 : ¬ (k2 : Int) < (s.n : Int) := by omega
      go_wp2
      go_roundw
      case rel => exact ⟨k + 1, by simp, by omega, I.out⟩
      case measure => simp only []; omega
    obtain ⟨b1, o1, us, e1, hF1, hb1, hu, r1⟩ := rsl_at L1.out k2 hlt2 0
    have HF1 := Lib.hid (show w5.heap.size ≤ b1 ∧ b1 < q ∧ ∀ o, w7.frozen? ⟨b1, o, none⟩ = false from hF1)
    have hu : us = [.int .i64 _] := hu
    subst hu
    have d1 := r1 0 _ rfl
    rw [show o1 + k2 * (Rdr.int .i64).n + 0 = o1 + k2 from by show o1 + k2 * 1 + 0 = o1 + k2; omega] at d1
    have lt3 : (k2 : Int) < (s.n : Int) := by omega
    have c6 := I.out.sl D.out
    rw [e1] at c6
    obtain ⟨y2, c2⟩ := I.out.int d1
    have z2 := I.out.free _ (o1 + k2) HF1.out
    have J := Lib.hid (fun z => I.out.set HF1.out.1 c2 z)
    have nx := I.out.sl NB2.out.c6
    rw [E0.out] at nx
    clear e1 hF1 r1 d1
    go_wp2
    go_roundw
    case rel => exact ⟨k2 + 1, by simp, by omega, J.out _⟩
    case measure => simp only []; omega
  case rest =>
  have I4 := Lib.hid hcut
  clear hcut nx I0 hle hcap
  have I0 := Lib.hid I4.out
  clear I4
  rename World => wz
  have Bz := Lib.hid (B7.out.trans (I0.out.low.mono (Nat.le_refl _)))
  obtain ⟨⟨f0, f1, f2, f3, f4, f5, f6, f7⟩, ⟨g0, g1, g2, g3, g4, g5, g6, g7⟩, hz⟩ := KM.out _ Bz.out
  have XZ := Lib.hid hz
  clear hz
  go_wp2_with (go_at_call 12; (with_reducible refine (XS.out _ S1 (R1.out.up Bz.out) XZ.out).mono ?_); rintro e wy ⟨rfl, by_⟩; have BY := Lib.hid (trans_below XZ.out by_); clear by_)
  go_ret
  exact ⟨rfl, BY.out⟩
end Go.Proofs.Ytocobjekcdabgaa
