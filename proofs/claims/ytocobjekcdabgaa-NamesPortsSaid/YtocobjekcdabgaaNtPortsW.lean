/- The walk of NamesPorts. (Made by mk-ntportsw.py.) -/
import Derived.Test.YtocobjekcdabgaaNtWorks
import Derived.Deep.CutBlock
import Derived.Deep.DeepCutAuto
import Derived.Deep.RegionHeldLaw
namespace Go.Proofs.Ytocobjekcdabgaa
open Go.RowKit

set_option maxRecDepth 20000 in
set_option maxHeartbeats 8000000 in
theorem nports_walk (N : NV) (S : NSl3) (w : World) (h : NRead w (allB w) N S) : Calls Try.prog 3 #[netV S] w fun e w' => e = .returned (.bool true) ∧ Below w.heap.size w w' := by
  have NB := Lib.hid (NBox.new w S 31)
  have U1 := Lib.hid (fun (w' : World) (hb : Below w.heap.size w w') => h.up hb)
  have G1 := fun (w' : World) (hb : Below w.heap.size w w') => ngreat_any N S w' (h.up hb)
  have XR := fun (hs : NvSz N) (w' : World) (hb : Below w.heap.size w w') => xnright_any N S w' (h.up hb) hs
  have XD := fun (hs : NvSz N) (hn : NetOk N) (dev v : Int) (w' : World) (hb : Below w.heap.size w w') => xndomain_any N S dev v w' (h.up hb) hs hn
  have XM := fun (hs : NvSz N) (hn : NetOk N) (d : Int) (w' : World) (hb : Below w.heap.size w w') => xnmembers_any N S d w' (h.up hb) hs hn
  have H_pt := h.pt
  have H_lk := h.lk
  clear h
  unfold netV at G1 XR XD XM ⊢
  obtain ⟨Ap, np, cp, hp⟩ : ∃ A n c, S.pt = ⟨A, n, c⟩ := ⟨_, _, _, rfl⟩
  obtain ⟨Al, nl, cl, hq⟩ : ∃ A n c, S.lk = ⟨A, n, c⟩ := ⟨_, _, _, rfl⟩
  have HP := Lib.hid hp
  have HL := Lib.hid hq
  rw [hp] at H_pt
  rw [hq] at H_lk
  rw [hp, hq] at G1 XR XD XM ⊢
  dsimp only at H_pt H_lk G1 XR XD XM ⊢
  clear hp hq
  have hlp := Lib.hid H_pt.len
  have hle_p := H_pt.le
  have hcap_p := H_pt.cap
  have hll := Lib.hid H_lk.len
  have hle_l := H_lk.le
  have hcap_l := H_lk.cap
  replace H_pt := Lib.hid H_pt
  replace H_lk := Lib.hid H_lk
  replace G1 := Lib.hid G1
  replace XR := Lib.hid XR
  replace XD := Lib.hid XD
  replace XM := Lib.hid XM
  obtain ⟨V, hV⟩ : ∃ V, netB N = V := ⟨_, rfl⟩
  rw [hV] at XR
  have HV := Lib.hid hV
  clear hV
  go_enter Try.func3, Try.ntmps3
  go_upto_region 1 with fail
  obtain ⟨w1, hw1⟩ : ∃ w1, w.alloc (.cells #[.slice S.dv.A S.dv.n S.dv.c, .slice Ap np cp, .slice Al nl cl, .slice S.dm.A S.dm.n S.dm.c, .slice S.st.A S.st.n S.st.c, .slice S.fl.A S.fl.n S.fl.c, .slice S.vr.A S.vr.n S.vr.c, .slice S.ir.A S.ir.n S.ir.c] 31) = w1 := ⟨_, rfl⟩
  have B0 := Lib.hid (show Below w.heap.size w w1 from by rw [← hw1]; exact (Below.refl _ _).alloc (Nat.le_refl _) _)
  have NB := Lib.hid (show NBox w1 w.heap.size S from by rw [← hw1]; have := NB.out; rw [HP.out, HL.out] at this; exact this)
  rw [hw1]
  clear hw1
  have KN := Lib.hid (show ∀ wx, Below w1.heap.size w1 wx → (wx.cell? ⟨w.heap.size, 0, none⟩ = some (.slice S.dv.A S.dv.n S.dv.c) ∧ wx.cell? ⟨w.heap.size, 1, none⟩ = some (.slice Ap np cp) ∧ wx.cell? ⟨w.heap.size, 2, none⟩ = some (.slice Al nl cl) ∧ wx.cell? ⟨w.heap.size, 3, none⟩ = some (.slice S.dm.A S.dm.n S.dm.c) ∧ wx.cell? ⟨w.heap.size, 4, none⟩ = some (.slice S.st.A S.st.n S.st.c) ∧ wx.cell? ⟨w.heap.size, 5, none⟩ = some (.slice S.fl.A S.fl.n S.fl.c) ∧ wx.cell? ⟨w.heap.size, 6, none⟩ = some (.slice S.vr.A S.vr.n S.vr.c) ∧ wx.cell? ⟨w.heap.size, 7, none⟩ = some (.slice S.ir.A S.ir.n S.ir.c)) ∧ Below w.heap.size w wx from fun wx hx => by
    have nb := NB.out.below hx
    have n1 := nb.c1
    have n2 := nb.c2
    rw [HP.out] at n1
    rw [HL.out] at n2
    exact ⟨⟨nb.c0, n1, n2, nb.c3, nb.c4, nb.c5, nb.c6, nb.c7⟩, B0.out.trans (hx.mono B0.out.size)⟩)
  clear NB
  obtain ⟨f0, f1, f2, f3, f4, f5, f6, f7⟩ := (KN.out w1 (Below.refl _ _)).1
  go_upto_region 5 with (first
    | (go_at_call 5; (with_reducible refine (works15_any _).mono ?_); rintro e w2 ⟨rfl, b2⟩; have Y2 := Lib.hid (b2); have X2 := Lib.hid (KN.out _ Y2.out).2; obtain ⟨f0, f1, f2, f3, f4, f5, f6, f7⟩ := (KN.out _ Y2.out).1; clear b2)
    | (go_at_call 6; (with_reducible refine (G1.out _ X2.out).mono ?_); rintro e w3 ⟨g1, rfl, hg1, b3⟩; have Y3 := Lib.hid (trans_below Y2.out b3); have X3 := Lib.hid (KN.out _ Y3.out).2; have HG1 := Lib.hid hg1; obtain ⟨f0, f1, f2, f3, f4, f5, f6, f7⟩ := (KN.out _ Y3.out).1; clear hg1 b3; cases g1)
    | (go_at_call 7; (with_reducible refine (XR.out (HG1.out (by simp)) _ X3.out).mono ?_); rintro e w4 ⟨rfl, b4⟩; have Y4 := Lib.hid (trans_below Y3.out b4); have X4 := Lib.hid (KN.out _ Y4.out).2; clear b4; cases V))
  · go_ret
    exact ⟨rfl, X4.out⟩
  rotate_left
  · go_ret
    exact ⟨rfl, X3.out⟩
  have SN := Lib.hid (HG1.out (by simp))
  have NK := Lib.hid ((netB_iff N).1 HV.out)
  replace XD := Lib.hid (XD.out SN.out NK.out)
  replace XM := Lib.hid (XM.out SN.out NK.out)
  clear HG1 G1 XR f0 f1 f2 f3 f4 f5 f6 f7 HV
  obtain ⟨f0, f1, f2, f3, f4, f5, f6, f7⟩ := (KN.out _ Y4.out).1
  go_upto_block 0 with fail
  clear f0 f1 f2 f3 f4 f5 f6 f7
  go_cut [] (fun wx => Below w1.heap.size w1 wx)
  case first =>
    go_wp2_with fail
    go_loopw [25] (fun i wr => ∃ k : Nat, i = .int .i64 k ∧ k ≤ np ∧ Below w1.heap.size w1 wr) (fun i _ => match i with | .int _ y => (np - y).toNat | _ => 0)
    case atStart => exact ⟨0, rfl, by omega, Y4.out⟩
    case round =>
    obtain ⟨k, rfl, hk, hb⟩ := hrel
    have W := Lib.hid hb
    have W0 := Lib.hid (KN.out _ hb).2
    clear hb
    by_cases hlt : k < np
    rotate_left
    · have lt2 : ¬ (k : Int) < (np : Int) := by omega
      go_wp2
      go_meet
      exact W.out
    obtain ⟨b0, o0, vs, e0, _, hb0, ⟨s, rfl, l1⟩, r0⟩ := rsl_at H_pt.out k hlt PortV.zero
    have hk2 : k < N.ports.length := by rw [hlp.out]; exact hlt
    have PK := Lib.hid (NK.out.pt k hk2)
    have TG := Lib.hid (SN.out.ipt k hk2)
    have HK2 := Lib.hid hk2
    clear hk2
    obtain ⟨P, hX⟩ : ∃ X, N.ports.getD k PortV.zero = X := ⟨_, rfl⟩
    have HXX := Lib.hid hX
    rw [hX] at r0 l1 PK TG
    have R1 := rangeAt_keep r0 (W0.out.block b0 hb0)
    have d0 := R1 0 _ rfl
    have d1 := R1 1 _ rfl
    have d2 := R1 2 _ rfl
    have d3 := R1 3 _ rfl
    have d4 := R1 4 _ rfl
    have d5 := R1 5 _ rfl
    have d6 := R1 6 _ rfl
    simp only [Nat.add_zero] at d0
    rw [show o0 + k * portR.n = o0 + k * 7 from rfl] at d0 d1 d2 d3 d4 d5 d6
    have lt2 : (k : Int) < (np : Int) := by omega
    subst e0
    have KP := Lib.hid (show ∀ w4, wr.alloc (.cells #[.int .i64 P.row, .int .i64 P.dev, .int .i64 P.native, .int .i64 P.cost, .int .i64 P.link, .string (str P.name), .slice s.A s.n s.c] 36) = w4 → ∀ wx, Below w4.heap.size w4 wx → (wx.cell? ⟨w.heap.size, 0, none⟩ = some (.slice S.dv.A S.dv.n S.dv.c) ∧ wx.cell? ⟨w.heap.size, 1, none⟩ = some (.slice (some ⟨b0, o0, none⟩) np cp) ∧ wx.cell? ⟨w.heap.size, 2, none⟩ = some (.slice Al nl cl) ∧ wx.cell? ⟨w.heap.size, 3, none⟩ = some (.slice S.dm.A S.dm.n S.dm.c) ∧ wx.cell? ⟨w.heap.size, 4, none⟩ = some (.slice S.st.A S.st.n S.st.c) ∧ wx.cell? ⟨w.heap.size, 5, none⟩ = some (.slice S.fl.A S.fl.n S.fl.c) ∧ wx.cell? ⟨w.heap.size, 6, none⟩ = some (.slice S.vr.A S.vr.n S.vr.c) ∧ wx.cell? ⟨w.heap.size, 7, none⟩ = some (.slice S.ir.A S.ir.n S.ir.c)) ∧ (wx.cell? ⟨wr.heap.size, 0, none⟩ = some (.int .i64 P.row) ∧ wx.cell? ⟨wr.heap.size, 1, none⟩ = some (.int .i64 P.dev) ∧ wx.cell? ⟨wr.heap.size, 2, none⟩ = some (.int .i64 P.native) ∧ wx.cell? ⟨wr.heap.size, 3, none⟩ = some (.int .i64 P.cost) ∧ wx.cell? ⟨wr.heap.size, 4, none⟩ = some (.int .i64 P.link) ∧ wx.cell? ⟨wr.heap.size, 5, none⟩ = some (.string (str P.name)) ∧ wx.cell? ⟨wr.heap.size, 6, none⟩ = some (.slice s.A s.n s.c)) ∧ Below w.heap.size w wx ∧ Below w1.heap.size w1 wx from fun w4 e wx hx => by
      have k0 : Below wr.heap.size wr w4 := by rw [← e]; exact (Below.refl _ _).alloc (Nat.le_refl _) _
      have k1 : Below wr.heap.size wr wx := k0.trans (hx.mono k0.size)
      have q : wr.heap.size < w4.heap.size := by rw [← e]; simp
      have pc : w4.cell? ⟨wr.heap.size, 0, none⟩ = some (.int .i64 P.row) ∧ w4.cell? ⟨wr.heap.size, 1, none⟩ = some (.int .i64 P.dev) ∧ w4.cell? ⟨wr.heap.size, 2, none⟩ = some (.int .i64 P.native) ∧ w4.cell? ⟨wr.heap.size, 3, none⟩ = some (.int .i64 P.cost) ∧ w4.cell? ⟨wr.heap.size, 4, none⟩ = some (.int .i64 P.link) ∧ w4.cell? ⟨wr.heap.size, 5, none⟩ = some (.string (str P.name)) ∧ w4.cell? ⟨wr.heap.size, 6, none⟩ = some (.slice s.A s.n s.c) := by rw [← e]; simp
      obtain ⟨p0, p1, p2, p3, p4, p5, p6⟩ := pc
      have kk := KN.out wx (W.out.trans (k1.mono W.out.size))
      exact ⟨kk.1, ⟨(hx.cell (p := ⟨_, 0, none⟩) q).trans p0, (hx.cell (p := ⟨_, 1, none⟩) q).trans p1, (hx.cell (p := ⟨_, 2, none⟩) q).trans p2, (hx.cell (p := ⟨_, 3, none⟩) q).trans p3, (hx.cell (p := ⟨_, 4, none⟩) q).trans p4, (hx.cell (p := ⟨_, 5, none⟩) q).trans p5, (hx.cell (p := ⟨_, 6, none⟩) q).trans p6⟩, kk.2, W.out.trans (k1.mono W.out.size)⟩)
    have L1 := Lib.hid l1
    have hsl1 := Lib.hid l1.len
    have qa1 := l1.le
    have qb1 := l1.cap
    clear r0 R1 hX l1
    go_upto_region 8 with fail
    obtain ⟨w5, hw5⟩ : ∃ w5, wr.alloc (.cells #[.int .i64 P.row, .int .i64 P.dev, .int .i64 P.native, .int .i64 P.cost, .int .i64 P.link, .string (str P.name), .slice s.A s.n s.c] 36) = w5 := ⟨_, rfl⟩
    have k5 := Lib.hid (show Below wr.heap.size wr w5 from by rw [← hw5]; exact (Below.refl _ _).alloc (Nat.le_refl _) _)
    have lt5 : wr.heap.size < w5.heap.size := by rw [← hw5]; simp
    rw [hw5]
    have KQ := Lib.hid (KP.out w5 hw5)
    have L5 := Lib.hid (show RSl (Rdr.int .i64) w5 (allB w5) s.A s.n s.c P.tagged from L1.out.keep (fun b hb => (W0.out.trans (k5.out.mono W0.out.size)).block b hb) (fun b hb => Nat.lt_of_lt_of_le hb (W0.out.trans (k5.out.mono W0.out.size)).size))
    clear hw5 KP d0 d1 d2 d3 d4 d5 d6
    obtain ⟨⟨f0, f1, f2, f3, f4, f5, f6, f7⟩, ⟨g0, g1, g2, g3, g4, g5, g6⟩, hB, hC⟩ := KQ.out w5 (Below.refl _ _)
    clear hB hC f0 f1 f2 f3 f4 f5 f6 f7
    go_cut [5] (fun v wx => ROwn (Rdr.int .i64) wx w5.heap.size 3 v P.tagged ∧ Below w5.heap.size w5 wx)
    case first =>
      go_wp2_with ((with_reducible refine wpList_iapps rfl (.tmp 30) (.tmp 32) rfl w5.heap.size _ [] (ROwn.lit0 w5 w5.heap.size 3 (Nat.le_refl _)) (allB w5) s.A s.n s.c P.tagged (L5.out.keep (fun b hb => Below.heap_alloc w5 _ b hb) (fun _ h => h)) ?hF ?h1 ?h2 ?hs ?hx ?_); (case hF => exact fun b hb => ⟨by (have h3 : b < w5.heap.size := hb; simp; omega), fun e => by (have e2 : w5.heap.size = b := Option.some.inj e; have h3 : b < w5.heap.size := hb; omega)⟩); (case h1 => (have := TG.out; have := hsl1.out; simp; omega)); (case h2 => simp); (case hs => rfl); (case hx => rfl); intro v6 w6 o6 b6; have O6 := Lib.hid o6; have K6 := Lib.hid (((Below.refl w5.heap.size w5).alloc (Nat.le_refl _) _).trans b6); clear o6 b6)
      go_meet
      exact ⟨O6.out, K6.out⟩
    case rest =>
    obtain ⟨ho6, hb6⟩ := hcut
    rename World => w6
    rename Value => v6
    have O6 := Lib.hid ho6
    have B6 := Lib.hid hb6
    have lt6 : wr.heap.size < w6.heap.size := Nat.lt_of_lt_of_le lt5 hb6.size
    clear ho6 hb6 g0 g1 g2 g3 g4 g5 g6
    obtain ⟨⟨f0, f1, f2, f3, f4, f5, f6, f7⟩, ⟨g0, g1, g2, g3, g4, g5, g6⟩, hB, hC⟩ := KQ.out w6 B6.out
    clear hB hC f0 f1 f2 f3 f4 f5 f6 f7
    obtain ⟨A6, c6, hv6⟩ := O6.out.shape
    subst hv6
    go_upto_if 36 with fail
    clear g0 g1 g2 g3 g4 g5 g6
    go_cut [5] (fun v wx => ∃ A c, v = .slice A (allV P).length c ∧ RSl (Rdr.int .i64) wx (allB wx) A (allV P).length c (allV P) ∧ Below w5.heap.size w5 wx)
    case first =>
      obtain ⟨⟨f0, f1, f2, f3, f4, f5, f6, f7⟩, ⟨g0, g1, g2, g3, g4, g5, g6⟩, hB, hC⟩ := KQ.out w6 B6.out
      clear hB hC f0 f1 f2 f3 f4 f5 f6 f7
      by_cases z : P.native = 0
      · have z1 : (P.native != 0) = false := by simpa using z
        have EA := Lib.hid (show allV P = P.tagged from by unfold allV; rw [if_pos z, List.append_nil])
        clear z
        go_wp2
        go_meet
        rw [EA.out]
        exact ⟨A6, c6, rfl, O6.out.read, B6.out⟩
      · have z1 : (P.native != 0) = true := by simpa using z
        have EA := Lib.hid (show allV P = P.tagged ++ [P.native] from by unfold allV; rw [if_neg z])
        clear z
        go_wp2_with ((with_reducible refine wpList_iapps rfl (.tmp 37) (.tmp 40) rfl w5.heap.size _ _ (O6.out.below ((Below.refl _ _).alloc (Nat.le_refl _) _)) (fun b => b = w6.heap.size) (some ⟨w6.heap.size, 0, none⟩) 1 1 [P.native] (own_one w6 P.native _) ?hF ?h1 ?h2 ?hs ?hx ?_); (case hF => exact fun b hb => ⟨by (subst hb; simp), fun e => by (have := (O6.out.lt b e).2; subst hb; omega)⟩); (case h1 => (have := TG.out; simp; omega)); (case h2 => (have := B6.out.size; simp; omega)); (case hs => rfl); (case hx => rfl); intro v7 w7 o7 b7; obtain ⟨A7, c7, rfl⟩ := o7.shape; have O7 := Lib.hid o7; have K7 := Lib.hid ((B6.out.trans ((Below.refl w5.heap.size w6).alloc B6.out.size _)).trans b7); clear o7 b7)
        go_meet
        rw [EA.out]
        exact ⟨A7, c7, by simp, by have := O7.out.read; simpa using this, K7.out⟩
    case rest =>
    obtain ⟨A7, c7, rfl, hr7, hb7⟩ := hcut
    rename World => w7
    have R7 := Lib.hid hr7
    have B7 := Lib.hid hb7
    have HLV := Lib.hid (show (allV P).length ≤ 101 from by have := allV_len P; have := TG.out; omega)
    obtain ⟨m, hm⟩ : ∃ m, (allV P).length = m := ⟨_, rfl⟩
    rw [hm] at R7 HLV ⊢
    have HM := Lib.hid hm
    have hm2 : m ≤ 101 := HLV.out
    have hm3 := R7.out.le
    have hm4 := R7.out.cap
    clear hr7 hb7 hm
    go_upto_block 2 with fail
    go_wp2_with fail
    go_loopw [44] (fun i wx => ∃ j : Nat, i = .int .i64 j ∧ j ≤ m ∧ Below w7.heap.size w7 wx) (fun i _ => match i with | .int _ y => (m - y).toNat | _ => 0)
    case atStart => exact ⟨0, rfl, by omega, Below.refl _ _⟩
    case round =>
    obtain ⟨j, rfl, hj, hb⟩ := hrel
    rename World => wx
    have W2 := Lib.hid hb
    have W5 := Lib.hid (B7.out.trans (hb.mono B7.out.size))
    clear hb
    by_cases hltj : j < m
    rotate_left
    · have lt3 : ¬ (j : Int) < (m : Int) := by omega
      have WW := Lib.hid (KQ.out _ W5.out).2.2.2
      go_wp2
      go_roundw
      case rel => exact ⟨k + 1, by simp, by omega, WW.out⟩
      case measure => simp only []; omega
    obtain ⟨b2, o2, us, e2, _, hb2, hu, r2⟩ := rsl_at R7.out j hltj 0
    have hu : us = [.int .i64 ((allV P).getD j 0)] := hu
    subst hu
    have AOK := allV_ok PK.out j (by rw [HM.out]; exact hltj)
    obtain ⟨v, hv⟩ : ∃ v, (allV P).getD j 0 = v := ⟨_, rfl⟩
    rw [hv] at AOK r2
    have c2 := (W2.out.cell (p := ⟨b2, _, none⟩) hb2).trans (r2 0 _ rfl)
    rw [show o2 + j * (Rdr.int .i64).n + 0 = o2 + j from by show o2 + j * 1 + 0 = o2 + j; omega] at c2
    have lt3 : (j : Int) < (m : Int) := by omega
    subst e2
    have MEM := Lib.hid (mmL_mem HK2.out HXX.out AOK.1 AOK.2)
    have MB := fun (wy : World) (hb : Below w5.heap.size w5 wy) => xnmember_any P s v wy (allB wy) (fun _ h => h) (L5.out.keep (fun b h => hb.block b h) (fun b h => Nat.lt_of_lt_of_le h hb.size)) TG.out
    rw [AOK.2] at MB
    unfold portC at MB
    replace MB := Lib.hid MB
    have XDv := XD.out P.dev v
    have XMv := XM.out (atF N P.dev v)
    generalize hML : mmL N (atF N P.dev v) = ML at MEM XMv
    generalize atF N P.dev v = D at XDv XMv hML
    replace XDv := Lib.hid XDv
    replace XMv := Lib.hid XMv
    clear r2 hv hML AOK
    have KR := Lib.hid (show ∀ w', Below w5.heap.size w5 w' → (w'.cell? ⟨w.heap.size, 0, none⟩ = some (.slice S.dv.A S.dv.n S.dv.c) ∧ w'.cell? ⟨w.heap.size, 1, none⟩ = some (.slice (some ⟨b0, o0, none⟩) np cp) ∧ w'.cell? ⟨w.heap.size, 2, none⟩ = some (.slice Al nl cl) ∧ w'.cell? ⟨w.heap.size, 3, none⟩ = some (.slice S.dm.A S.dm.n S.dm.c) ∧ w'.cell? ⟨w.heap.size, 4, none⟩ = some (.slice S.st.A S.st.n S.st.c) ∧ w'.cell? ⟨w.heap.size, 5, none⟩ = some (.slice S.fl.A S.fl.n S.fl.c) ∧ w'.cell? ⟨w.heap.size, 6, none⟩ = some (.slice S.vr.A S.vr.n S.vr.c) ∧ w'.cell? ⟨w.heap.size, 7, none⟩ = some (.slice S.ir.A S.ir.n S.ir.c)) ∧ w'.cell? ⟨wr.heap.size, 1, none⟩ = some (.int .i64 P.dev) from fun w' hb => ⟨(KQ.out w' hb).1, (KQ.out w' hb).2.1.2.1⟩)
    go_upto_region 15 with fail
    clear c2
    have Q0 := Lib.hid (show Below w5.heap.size w5 wx.drew from below_drewN W5.out 1)
    have T0 := Lib.hid (show Below w7.heap.size w7 wx.drew from below_drewN W2.out 1)
    have Z0 := Lib.hid (KQ.out _ Q0.out).2.2.1
    go_region_held_law (fun w' => (w'.cell? ⟨w.heap.size, 0, none⟩ = some (.slice S.dv.A S.dv.n S.dv.c) ∧ w'.cell? ⟨w.heap.size, 1, none⟩ = some (.slice (some ⟨b0, o0, none⟩) np cp) ∧ w'.cell? ⟨w.heap.size, 2, none⟩ = some (.slice Al nl cl) ∧ w'.cell? ⟨w.heap.size, 3, none⟩ = some (.slice S.dm.A S.dm.n S.dm.c) ∧ w'.cell? ⟨w.heap.size, 4, none⟩ = some (.slice S.st.A S.st.n S.st.c) ∧ w'.cell? ⟨w.heap.size, 5, none⟩ = some (.slice S.fl.A S.fl.n S.fl.c) ∧ w'.cell? ⟨w.heap.size, 6, none⟩ = some (.slice S.vr.A S.vr.n S.vr.c) ∧ w'.cell? ⟨w.heap.size, 7, none⟩ = some (.slice S.ir.A S.ir.n S.ir.c)) ∧ w'.cell? ⟨wr.heap.size, 1, none⟩ = some (.int .i64 P.dev))
      (first | exact KR.out _ Q2.out | exact KR.out _ Q1.out | exact KR.out _ Q0.out | fail)
      (first
        | (go_at_call 9; (with_reducible refine (XDv.out _ Z0.out).mono ?_); rintro e wa ⟨rfl, hba⟩; have Q1 := Lib.hid (trans_below Q0.out hba); have T1 := Lib.hid (trans_below T0.out hba); have Z1 := Lib.hid (KQ.out _ Q1.out).2.2.1; clear hba)
        | (go_at_call 8; (with_reducible refine (XMv.out _ Z1.out).mono ?_); rintro e wb ⟨A8, n8, c8, rfl, s8, hbb⟩; have Q2 := Lib.hid (trans_below Q1.out hbb); have T2 := Lib.hid (trans_below T1.out hbb); have S8 := Lib.hid s8; have hle8 := s8.le; have hcap8 := s8.cap; clear hbb s8))
    have N8 := Lib.hid S8.out.len
    go_wp2_with fail
    go_loopw [8, 56] (fun f i wy => ∃ t : Nat, f = .bool (decide ((k : Int) ∈ ML.take t)) ∧ i = .int .i64 t ∧ t ≤ n8 ∧ wb = wy) (fun _ i _ => match i with | .int _ y => (n8 - y).toNat | _ => 0)
    case atStart => exact ⟨0, by simp, rfl, by omega, rfl⟩
    case round =>
    obtain ⟨t, hf, rfl, ht, hwy⟩ := hrel
    subst hwy
    obtain ⟨q, hq⟩ : ∃ q, decide ((k : Int) ∈ ML.take t) = q := ⟨_, rfl⟩
    rw [hq] at hf
    subst hf
    have HQ := Lib.hid hq
    clear hq
    by_cases hltt : t < n8
    rotate_left
    · have lt4 : ¬ (t : Int) < (n8 : Int) := by omega
      obtain rfl : q = true := by rw [← HQ.out, List.take_of_length_le (by rw [N8.out]; omega)]; exact decide_eq_true MEM.out
      obtain ⟨⟨f0, f1, f2, f3, f4, f5, f6, f7⟩, ⟨g0, g1, g2, g3, g4, g5, g6⟩, hB, hC⟩ := KQ.out wb Q2.out
      clear hB hC f0 f1 f2 f3 f4 f5 f6 f7
      go_wp2_with (go_at_call 10; (with_reducible refine (MB.out _ Q2.out).mono ?_); rintro e wd ⟨rfl, hbd⟩; have T3 := Lib.hid (trans_below T2.out hbd); clear hbd)
      go_roundw
      case rel => exact ⟨j + 1, by simp, by omega, T3.out⟩
      case measure => simp only []; omega
    obtain ⟨b3, o3, us3, e3, _, hb3, hu3, r3⟩ := rsl_at S8.out t hltt 0
    have hu3 : us3 = [.int .i64 (ML.getD t 0)] := hu3
    subst hu3
    have c3 := r3 0 _ rfl
    rw [show o3 + t * (Rdr.int .i64).n + 0 = o3 + t from by show o3 + t * 1 + 0 = o3 + t; omega] at c3
    have TK := take_tell (show t < ML.length by rw [N8.out]; exact hltt) (k : Int)
    rw [HQ.out] at TK
    replace TK := Lib.hid TK
    obtain ⟨x, hx⟩ : ∃ x, ML.getD t 0 = x := ⟨_, rfl⟩
    rw [hx] at TK c3
    have lt4 : (t : Int) < (n8 : Int) := by omega
    subst e3
    clear r3 hx
    cases q with
    | true =>
      go_wp2
      go_roundw
      case rel => exact ⟨t + 1, by rw [TK.out]; rfl, by simp, by omega, by first | rfl | trivial⟩
      case measure => simp only []; omega
    | false =>
    by_cases hxk : x = (k : Int)
    · have z1 : (x == (k : Int)) = true := by simpa using hxk
      have TJ := Lib.hid (TK.out.trans (by rw [decide_eq_true hxk]))
      clear hxk
      go_wp2
      go_roundw
      case rel => exact ⟨t + 1, by rw [TJ.out]; rfl, by simp, by omega, by first | rfl | trivial⟩
      case measure => simp only []; omega
    · have z1 : (x == (k : Int)) = false := by simpa using hxk
      have TJ := Lib.hid (TK.out.trans (by rw [decide_eq_false hxk]))
      clear hxk
      go_wp2
      go_roundw
      case rel => exact ⟨t + 1, by rw [TJ.out]; rfl, by simp, by omega, by first | rfl | trivial⟩
      case measure => simp only []; omega
  case rest =>
  have W1 := Lib.hid hcut
  clear hcut
  rename World => wz
  obtain ⟨⟨f0, f1, f2, f3, f4, f5, f6, f7⟩, hB⟩ := KN.out _ W1.out
  clear hB
  go_wp2_with fail
  clear f0 f1 f2 f3 f4 f5 f6 f7
  go_loopw [80] (fun i wr => ∃ k : Nat, i = .int .i64 k ∧ k ≤ nl ∧ Below w1.heap.size w1 wr) (fun i _ => match i with | .int _ y => (nl - y).toNat | _ => 0)
  case atStart => exact ⟨0, rfl, by omega, W1.out⟩
  case round =>
  obtain ⟨k, rfl, hk, hb⟩ := hrel
  have W := Lib.hid hb
  have W0 := Lib.hid (KN.out _ hb).2
  clear hb
  by_cases hlt : k < nl
  rotate_left
  · have lt2 : ¬ (k : Int) < (nl : Int) := by omega
    go_wp2
    go_ret
    exact ⟨rfl, W0.out⟩
  obtain ⟨b0, o0, vs, e0, _, hb0, hvs, r0⟩ := rsl_at H_lk.out k hlt LinkV.zero
  have hvs : vs = linkC (N.links.getD k LinkV.zero) := hvs
  subst hvs
  have LK := NK.out.lk k (by rw [hll.out]; exact hlt)
  obtain ⟨L, hL⟩ : ∃ L, N.links.getD k LinkV.zero = L := ⟨_, rfl⟩
  rw [hL] at r0 LK
  have R1 := rangeAt_keep r0 (W0.out.block b0 hb0)
  have d0 := R1 0 _ rfl
  have d1 := R1 1 _ rfl
  have d2 := R1 2 _ rfl
  simp only [Nat.add_zero] at d0
  rw [show o0 + k * linkR.n = o0 + k * 3 from rfl] at d0 d1 d2
  have lt2 : (k : Int) < (nl : Int) := by omega
  subst e0
  clear r0 R1 hL
  have KQ := Lib.hid (show ∀ w4, wr.alloc (.cells #[.int .i64 L.row, .int .i64 L.a, .int .i64 L.b] 41) = w4 → w4.cell? ⟨w.heap.size, 1, none⟩ = some (.slice Ap np cp) ∧ (w4.cell? ⟨wr.heap.size, 0, none⟩ = some (.int .i64 L.row) ∧ w4.cell? ⟨wr.heap.size, 1, none⟩ = some (.int .i64 L.a) ∧ w4.cell? ⟨wr.heap.size, 2, none⟩ = some (.int .i64 L.b)) ∧ Below w.heap.size w w4 ∧ Below w1.heap.size w1 w4 from fun w4 e => by
    have k0 : Below wr.heap.size wr w4 := by rw [← e]; exact (Below.refl _ _).alloc (Nat.le_refl _) _
    have kk := KN.out w4 (W.out.trans (k0.mono W.out.size))
    exact ⟨kk.1.2.1, by rw [← e]; simp, kk.2, W.out.trans (k0.mono W.out.size)⟩)
  obtain ⟨a1, a2⟩ := (plB_iff _ _).1 LK.a
  obtain ⟨c1, c2⟩ := (plB_iff _ _).1 LK.b
  rw [hlp.out] at a2 c2
  obtain ⟨x, hx⟩ := Int.eq_ofNat_of_zero_le a1
  obtain ⟨y, hy⟩ := Int.eq_ofNat_of_zero_le c1
  have hxl : x < np := by omega
  have hyl : y < np := by omega
  obtain ⟨bp, op, vp, ep, _, hbp, ⟨sp, rfl, _⟩, rp⟩ := rsl_at H_pt.out x hxl PortV.zero
  obtain ⟨bq, oq, vq, eq_, _, _, ⟨sq, rfl, _⟩, rq⟩ := rsl_at H_pt.out y hyl PortV.zero
  subst ep
  injection eq_ with eq_
  injection eq_ with h1 h2
  subst h1 h2
  have GX : N.ports.getD L.a.toNat PortV.zero = N.ports.getD x PortV.zero := by rw [hx]; rfl
  have GY : N.ports.getD L.b.toNat PortV.zero = N.ports.getD y PortV.zero := by rw [hy]; rfl
  have t1 := LK.dev
  have t2 := LK.la
  have t3 := LK.lb
  rw [GX] at t1 t2
  rw [GY] at t1 t3
  replace hx := Lib.hid hx
  replace hy := Lib.hid hy
  clear GX GY
  generalize N.ports.getD x PortV.zero = P at *
  generalize N.ports.getD y PortV.zero = Q at *
  have z1 : (P.dev == Q.dev) = false := by simpa using t1
  have z2 : (P.link != (k : Int)) = false := by simpa using t2
  have z3 : (Q.link != (k : Int)) = false := by simpa using t3
  have n1 : decide ((x : Int) < 0) = false := decide_eq_false (by omega)
  have n2 : decide ((y : Int) < 0) = false := decide_eq_false (by omega)
  have m1 : decide ((np : Int) ≤ (x : Int)) = false := decide_eq_false (by omega)
  have m2 : decide ((np : Int) ≤ (y : Int)) = false := decide_eq_false (by omega)
  have lx : (x : Int) < (np : Int) := by omega
  have ly : (y : Int) < (np : Int) := by omega
  go_upto_region 27 with fail
  obtain ⟨w4, hw4⟩ : ∃ w4, wr.alloc (.cells #[.int .i64 L.row, .int .i64 L.a, .int .i64 L.b] 41) = w4 := ⟨_, rfl⟩
  rw [hw4]
  obtain ⟨f1, ⟨g0, g1, g2⟩, hB, hC⟩ := KQ.out w4 hw4
  have X4 := Lib.hid hB
  have Y4b := Lib.hid hC
  clear hB hC hw4 d0 d1 d2 KQ LK t1 t2 t3 a1 a2 c1 c2
  have RP := rangeAt_keep rp (X4.out.block bp hbp)
  have RQ := rangeAt_keep rq (X4.out.block bp hbp)
  have p1 := RP 1 _ rfl
  have p4 := RP 4 _ rfl
  have q1 := RQ 1 _ rfl
  have q4 := RQ 4 _ rfl
  rw [show op + x * portR.n = op + x * 7 from rfl] at p1 p4
  rw [show op + y * portR.n = op + y * 7 from rfl] at q1 q4
  rw [hx.out] at g1
  rw [hy.out] at g2
  clear rp rq RP RQ hx hy
  go_quiet (fail)
  go_wp2
  go_roundw
  case rel => exact ⟨k + 1, by simp, by omega, below_drewN Y4b.out _⟩
  case measure => simp only []; omega
end Go.Proofs.Ytocobjekcdabgaa
