/- The contracts of package policy: a row put behind tenants (add), a policy read (Read), a tenant's words (words), the text of tenants (Text). -/
import Derived.Test.YtkfhjmoocnhekaaTnTen
import Derived.Test.YtkfhjmoocnhekaaTnEq
import Derived.Test.YtkfhjmoocnhekaaTnRead
import Derived.Lib.AppendStr
namespace Go.Proofs.Ytkfhjmoocnhekaa
open Go.RowKit
open Go.Lib (byteCells)

theorem wl_all {l : List UInt8} (h : wlE l = 0) : ∀ p ∈ wsF (ahead l), p.length ≤ 40 := by
  cases hb : (wsF (ahead l)).all wordF with
  | false => rw [wlE_no hb] at h; cases h
  | true => exact fun p hp => ((wordF_iff p).1 (List.all_eq_true.1 hb p hp)).2.1
/-- tenants and an error, as add hands them back: where there is no error, a row of the call's own -/
def GotAd (w : World) (B : Nat) (T : List TV) (E : Int) (e : Ending) (w' : World) : Prop := ∃ A n c, e = .returned (.tuple #[.slice A n c, .int .i64 E]) ∧ (E = 0 → ROwn tenR w' B 40 (.slice A n c) T) ∧ Below B w w'
set_option maxRecDepth 20000 in
set_option maxHeartbeats 4000000 in
theorem padd_any (B : Nat) (A : Option Addr) (m c : Nat) (acc : List TV) (r : List UInt8) (k : Nat) (w : World) (hB : B ≤ w.heap.size) (h : ROwn tenR w B 40 (.slice A m c) acc) (hn : acc.length ≤ 1000) (hr : r.length ≤ 20000) :
    Calls Try.prog 18 #[.slice A m c, .string (str r), .int .i64 ((k : Int) + 1)] w (GotAd w B (acc ++ poL r k) (poE r acc.length)) := by
  have WD := fun w => xwords_any r w (by omega)
  unfold GotWords GotS at WD
  have HB := Lib.hid hB
  have O := Lib.hid h
  obtain rfl : m = acc.length := by
    obtain ⟨A', c', hv⟩ := h.shape
    injection hv
  clear h hB
  unfold GotAd
  by_cases hw : wlE r = 0
  · rw [hw, os_ok] at WD
    by_cases hn0 : wsF (ahead r) = []
    · have e1 : poE r acc.length = 0 := by unfold poE; rw [if_pos hw, if_pos hn0]
      have e2 : acc ++ poL r k = acc := by unfold poL; rw [if_pos hn0, List.append_nil]
      rw [e1, e2]
      rw [hn0] at WD
      have WD := Lib.hid WD
      clear hw hn0 e1 e2
      go_enter Try.func18, Try.ntmps18
      go_wp2_with (go_at_call 31; (with_reducible refine (WD.out _).mono ?_); rintro e w2 ⟨A2, n2, c2, rfl, s2, b2⟩; obtain rfl : n2 = 0 := s2.len.symm; have B2 := Lib.hid b2; clear s2 b2)
      go_ret2
      exact ⟨_, _, _, rfl, fun _ => O.out.below B2.out, B2.out.mono HB.out⟩
    · have hs : ∀ p ∈ wsF (ahead r), p.length ≤ 300 := fun p hp => by have := wl_all hw p hp; omega
      have e1 : poE r acc.length = if rnE (wsF (ahead r)) = 0 then (if acc.length = 10 then 3 else 0) else rnE (wsF (ahead r)) := by unfold poE; rw [if_pos hw, if_neg hn0]
      have e2 : poL r k = [rnT (wsF (ahead r)) ((k : Int) + 1)] := by unfold poL; rw [if_neg hn0]
      rw [e1, e2]
      have hn2 : 1 ≤ (wsF (ahead r)).length := List.length_pos_iff.2 hn0
      have RD := fun A n c w h hn => ptenant_any A n c (wsF (ahead r)) ((k : Int) + 1) w h hn hs
      generalize wsF (ahead r) = ws at *
      obtain ⟨n2, hn3⟩ : ∃ n2, ws.length = n2 := ⟨_, rfl⟩
      have HN := Lib.hid hn3
      rw [hn3] at hn2
      have z2 : ((n2 : Int) == 0) = false := by simp; omega
      generalize rnT ws ((k : Int) + 1) = T at *
      unfold GotTn tenV at RD
      have WD := Lib.hid WD
      clear hw hn0 e1 e2 hs hn3
      by_cases hE : rnE ws = 0
      · rw [if_pos hE]
        rw [hE] at RD
        have RD := Lib.hid RD
        clear hE
        by_cases h10 : acc.length = 10
        · have z3 : ((acc.length : Int) == 10) = true := by simp; omega
          rw [if_pos h10]
          clear h10
          go_enter Try.func18, Try.ntmps18
          go_wp2_with (first
            | (go_at_call 31; (with_reducible refine (WD.out _).mono ?_); rintro e w2 ⟨A2, n4, c2, rfl, s2, b2⟩; obtain rfl : n4 = n2 := by { rw [← s2.len, HN.out] }; have B2 := Lib.hid b2; have S2 := Lib.hid s2; have q5 := s2.le; have q6 := s2.cap; clear s2 b2)
            | (go_at_call 32; (with_reducible refine (RD.out _ _ _ _ S2.out hn2).mono ?_); rintro e w4 ⟨s1, s2, rfl, r4, b4⟩; have K4 := Lib.hid (fun o => (trans_below B2.out b4).alloc (by have := B2.out.size; have := b4.size; omega) o); clear r4 b4))
          go_ret2
          exact ⟨_, _, _, rfl, fun e => absurd e (by decide), (K4.out _).mono HB.out⟩
        · have z3 : ((acc.length : Int) == 10) = false := by simp; omega
          rw [if_neg h10]
          clear h10
          go_enter Try.func18, Try.ntmps18
          go_wp2_with (first
            | (go_at_call 31; (with_reducible refine (WD.out _).mono ?_); rintro e w2 ⟨A2, n4, c2, rfl, s2, b2⟩; obtain rfl : n4 = n2 := by { rw [← s2.len, HN.out] }; have B2 := Lib.hid b2; have S2 := Lib.hid s2; have q5 := s2.le; have q6 := s2.cap; clear s2 b2)
            | (go_at_call 32; (with_reducible refine (RD.out _ _ _ _ S2.out hn2).mono ?_); rintro e w4 ⟨s1, s2, rfl, r4, b4⟩; have K5 := Lib.hid (fun o => ((trans_below B2.out b4).mono HB.out).alloc (by have := HB.out; have := B2.out.size; have := b4.size; omega) o); have O5 := Lib.hid (fun o => O.out.below (trans_below B2.out (b4.alloc b4.size o))); have N5 := Lib.hid (fun o => tenR.keep (w' := w4.alloc o) (F' := fun b => w2.heap.size ≤ b ∧ b < w4.heap.size) r4 (fun b hb => Below.heap_alloc w4 o b hb.2) (fun b hb => hb)); have F5 := Lib.hid (show ∀ o b, (w2.heap.size ≤ b ∧ b < w4.heap.size) → offRow (w4.alloc o) (.slice A acc.length c) b from fun o b hb => ⟨by rw [World.size_alloc]; omega, fun e => by { have h1 := (O.out.lt b e).2; have h2 := B2.out.size; omega }⟩); clear r4 b4)
            | ((with_reducible refine wpList_tenSl rfl (.tmp 40) rfl T s1 s2 ?hx ?_); (case hx => rfl))
            | (at_builtin; (with_reducible refine wpList_tenapp rfl (.tmp 39) (.tmp 41) rfl B _ acc (O5.out _) T s1 s2 _ (N5.out _) (F5.out _) ?hn (Nat.le_trans HB.out (K5.out _).size) ?hs ?hx ?_); (case hn => omega); (case hs => rfl); (case hx => rfl); intro v6 w6 o6 b6; obtain ⟨A6, c6, hv6⟩ := o6.shape; subst hv6; have O6 := Lib.hid o6; have K6 := Lib.hid ((K5.out _).trans b6); clear o6 b6))
          go_ret2
          exact ⟨_, _, _, rfl, fun _ => by { have h6 := O6.out; rwa [show (acc ++ [T]).length = acc.length + 1 by simp] at h6 }, K6.out⟩
      · have ne : (rnE ws != 0) = true := by simpa using hE
        have nf : (rnE ws == 0) = false := by simpa using hE
        rw [if_neg hE]
        have RD := Lib.hid RD
        have HE := Lib.hid hE
        generalize rnE ws = E at *
        clear hE
        go_enter Try.func18, Try.ntmps18
        go_wp2_with (first
          | (go_at_call 31; (with_reducible refine (WD.out _).mono ?_); rintro e w2 ⟨A2, n4, c2, rfl, s2, b2⟩; obtain rfl : n4 = n2 := by { rw [← s2.len, HN.out] }; have B2 := Lib.hid b2; have S2 := Lib.hid s2; have q5 := s2.le; have q6 := s2.cap; clear s2 b2)
          | (go_at_call 32; (with_reducible refine (RD.out _ _ _ _ S2.out hn2).mono ?_); rintro e w4 ⟨s1, s2, rfl, r4, b4⟩; have K4 := Lib.hid (fun o => (trans_below B2.out b4).alloc (by have := B2.out.size; have := b4.size; omega) o); clear r4 b4))
        go_ret2
        exact ⟨_, _, _, rfl, fun e => absurd e HE.out, (K4.out _).mono HB.out⟩
  · rw [os_no hw] at WD
    have ne : (wlE r != 0) = true := by simpa using hw
    have e1 : poE r acc.length = wlE r := by unfold poE; rw [if_neg hw]
    rw [e1]
    have HE := Lib.hid hw
    have WD := Lib.hid WD
    generalize wlE r = E at *
    clear hw e1
    go_enter Try.func18, Try.ntmps18
    go_wp2_with (go_at_call 31; (with_reducible refine (WD.out _).mono ?_); rintro e w2 ⟨A2, n2, c2, rfl, s2, b2⟩; obtain rfl : n2 = 0 := s2.len.symm; have B2 := Lib.hid b2; clear s2 b2)
    go_ret2
    exact ⟨_, _, _, rfl, fun e => absurd e HE.out, B2.out.mono HB.out⟩
/-! Read. -/
theorem xpol_no (A : Option Addr) (n c : Nat) (l : List UInt8) (w : World) (h : BSl w A n c l) (he : ¬ rwE l = 0) : Calls Try.prog 7 #[.slice A n c] w (GotPol w (0, rwE l, [])) := by
  have R := xrows_any A n c l w h
  unfold GotRows at R
  rw [os_no he] at R
  generalize rwE l = E at *
  have R := Lib.hid R
  have ne : (E != 0) = true := by simpa using he
  clear h he
  go_enter Try.func7, Try.ntmps7
  go_wp2_with (go_at_call 17; (with_reducible refine R.out.mono ?_); rintro e w1 ⟨A1, n1, c1, rfl, s1, b1⟩)
  exact bodyPost_ret (v := .tuple #[.slice none 0 0, .int .i64 0, .int .i64 E]) (by simp [results, Try.results7, go_sem]) rfl ⟨none, 0, 0, rfl, RSl.nil, b1⟩
set_option maxRecDepth 20000 in
set_option maxHeartbeats 4000000 in
theorem xpol_yes (A : Option Addr) (n c : Nat) (l : List UInt8) (w : World) (h : BSl w A n c l) (he : rwE l = 0) (RR : Int × Int × List TV) (hRR : poF (rwF l) 0 [] = RR) : Calls Try.prog 7 #[.slice A n c] w (GotPol w RR) := by
  have R := xrows_any A n c l w h
  unfold GotRows at R
  rw [he, os_ok] at R
  have R := Lib.hid R
  obtain ⟨g1, g2⟩ := rwE_zero he
  have RP := Lib.hid (fun (p : List UInt8) (hp : p ∈ rwF l) => (show p.length ≤ 20000 by have := rwS_part l p hp; omega))
  generalize rwF l = rows at *
  have HRR := Lib.hid (show poF (rows.drop 0) 0 [] = RR from hRR)
  obtain ⟨m, hm⟩ : ∃ m, rows.length = m := ⟨_, rfl⟩
  have HM := Lib.hid hm
  rw [hm] at g2
  clear h he hRR hm g1
  go_enter Try.func7, Try.ntmps7
  go_wp2_with (go_at_call 17; (with_reducible refine R.out.mono ?_); rintro e w1 ⟨A1, n1, c1, rfl, s1, b1⟩; obtain rfl : n1 = m := by { rw [← s1.len, HM.out] }; have S1 := Lib.hid s1; have B1 := Lib.hid b1; have q1 := s1.le; have q2 := s1.cap; clear s1 b1)
  go_loopw [2, 4, 18] (fun v ve i wr => ∃ (k : Nat) (acc : List TV), ve = .int .i64 0 ∧ i = .int .i64 (k : Int) ∧ k ≤ n1 ∧ ROwn tenR wr w1.heap.size 40 v acc ∧ acc.length ≤ k ∧ Below w1.heap.size w1 wr ∧ poF (rows.drop k) k acc = RR) (fun _ _ i _ => match i with | .int _ x => (n1 - x).toNat | _ => 0)
  case atStart => exact ⟨0, [], rfl, rfl, by omega, ROwn.nil _ _ _, Nat.le_refl _, Below.refl _ _, HRR.out⟩
  case round =>
    obtain ⟨k, acc, rfl, rfl, hk, ho, hacc, hb, ht⟩ := hrel
    obtain ⟨Av, cv, hv⟩ := ho.shape
    subst hv
    have O := Lib.hid ho
    have B := Lib.hid hb
    have HT := Lib.hid ht
    clear ho hb ht
    by_cases hlt : k < n1
    · obtain ⟨b0, o0, rfl, hb0, hc0⟩ := S1.out.at_ (by omega)
      have c0 := (B.out.cell (p := ⟨b0, o0 + k, none⟩) hb0).trans (hc0 k hlt)
      have hkm : k < rows.length := by rw [HM.out]; exact hlt
      have ST := HT.out.symm.trans (poF_at (acc := acc) hkm)
      have hrl : (rows.getD k []).length ≤ 20000 := RP.out _ (by simp [List.getD, List.getElem?_eq_getElem hkm])
      have PA := padd_any w1.heap.size Av acc.length cv acc (rows.getD k []) k wr B.out.size O.out (by omega) hrl
      unfold GotAd at PA
      have hpl : (poL (rows.getD k []) k).length ≤ 1 := by unfold poL; split <;> simp
      generalize rows.getD k [] = r at *
      generalize poL r k = L at *
      have i0 : (k : Int) < (n1 : Int) := by omega
      have wk : IntKind.i64.wrap ((k : Int) + 1) = (k : Int) + 1 := IntWalk.i64_in _ (by omega)
      clear hc0 hkm hrl
      by_cases hE : poE r acc.length = 0
      · rw [if_pos hE] at ST
        rw [hE] at PA
        have PA := Lib.hid PA
        have ST := Lib.hid ST.symm
        clear hE
        go_wp2_with (go_at_call 18; (with_reducible refine PA.out.mono ?_); rintro e w2 ⟨A2, n2, c2, rfl, o2, b2⟩; have O2 := Lib.hid (o2 rfl); have B2 := Lib.hid (B.out.trans b2); clear o2 b2)
        go_roundw
        case rel => exact ⟨k + 1, acc ++ L, rfl, by simp, by omega, O2.out, by rw [List.length_append]; omega, B2.out, ST.out⟩
        case measure => simp only []; omega
      · rw [if_neg hE] at ST
        have ne : (poE r acc.length != 0) = true := by simpa using hE
        have PA := Lib.hid PA
        generalize poE r acc.length = E at *
        have ST := Lib.hid ST
        clear hE
        go_wp2_with (go_at_call 18; (with_reducible refine PA.out.mono ?_); rintro e w2 ⟨A2, n2, c2, rfl, o2, b2⟩; have B2 := Lib.hid (B.out.trans b2); clear o2 b2)
        exact bodyPost_ret (v := .tuple #[.slice none 0 0, .int .i64 ((k : Int) + 1), .int .i64 E]) (by simp [results, Try.results7, go_sem]) rfl ⟨none, 0, 0, by rw [ST.out], by rw [ST.out]; exact RSl.nil, trans_below B1.out B2.out⟩
    · have ST3 := Lib.hid (show RR = (0, 0, acc) from HT.out.symm.trans (poF_end (by rw [HM.out]; omega)))
      go_wp2
      exact bodyPost_ret (v := .tuple #[.slice Av acc.length cv, .int .i64 0, .int .i64 0]) (by simp [results, Try.results7, go_sem]) rfl ⟨Av, acc.length, cv, by rw [ST3.out], by rw [ST3.out]; exact O.out.read, trans_below B1.out B.out⟩
theorem xpol_any (A : Option Addr) (n c : Nat) (l : List UInt8) (w : World) (h : BSl w A n c l) : Calls Try.prog 7 #[.slice A n c] w (GotPol w (poV l)) := by
  unfold poV
  by_cases he : rwE l = 0
  · rw [if_pos he]; exact xpol_yes A n c l w h he _ rfl
  · rw [if_neg he]; exact xpol_no A n c l w h he
/-! Text. -/
set_option maxRecDepth 20000 in
set_option maxHeartbeats 4000000 in
theorem pwords_any (T : TV) (s1 s2 : SlT) (w : World) (h1 : SSl w s1.A s1.n s1.c T.devs) (h2 : SSl w s2.A s2.n s2.c T.ports) (hs1 : ∀ p ∈ T.devs, p.length ≤ 1000000) (hs2 : ∀ p ∈ T.ports, p.length ≤ 1000000) (hln : T.devs.length ≤ 1000) (heq : T.devs.length = T.ports.length) :
    Calls Try.prog 23 #[tenV T s1 s2] w (GotTx w (twF T)) := by
  unfold tenV
  obtain ⟨A1, n1, c1⟩ := s1
  obtain ⟨A2, n2, c2⟩ := s2
  obtain ⟨rw_, nm, dv, pt⟩ := T
  simp only [] at h1 h2 hs1 hs2 hln heq ⊢
  obtain rfl : n1 = n2 := by rw [← h1.len, ← h2.len]; exact heq
  have q1 := h1.le
  have q2 := h1.cap
  have q3 := h2.le
  have q4 := h2.cap
  have HD := Lib.hid h1
  have HP := Lib.hid h2
  have LD := Lib.hid h1.len
  have LP := Lib.hid h2.len
  have D1 := Lib.hid hs1
  have D2 := Lib.hid hs2
  have hln2 : n1 ≤ 1000 := by rw [← h1.len]; exact hln
  clear h1 h2 hs1 hs2 hln heq
  go_enter Try.func23, Try.ntmps23
  go_wp2
  have BS : Below w.heap.size w ((w.alloc (.cells #[.int .i64 rw_, .string (str nm), .slice A1 n1 c1, .slice A2 n1 c2] 40)).alloc (.cells #[.string (str sTen), .string (str nm)] 9)) := two_alloc w _ _
  have OW := own_two_txt (w.alloc (.cells #[.int .i64 rw_, .string (str nm), .slice A1 n1 c1, .slice A2 n1 c2] 40)) (w.heap.size + 1) 9 sTen nm (by simp)
  rw [show (w.alloc (.cells #[.int .i64 rw_, .string (str nm), .slice A1 n1 c1, .slice A2 n1 c2] 40)).heap.size = w.heap.size + 1 by simp] at OW
  have x3 : ((w.alloc (.cells #[.int .i64 rw_, .string (str nm), .slice A1 n1 c1, .slice A2 n1 c2] 40)).alloc (.cells #[.string (str sTen), .string (str nm)] 9)).cell? ⟨w.heap.size, 3, none⟩ = some (.slice A2 n1 c2) := by simp [go_sem]
  have sz : w.heap.size + 1 ≤ ((w.alloc (.cells #[.int .i64 rw_, .string (str nm), .slice A1 n1 c1, .slice A2 n1 c2] 40)).alloc (.cells #[.string (str sTen), .string (str nm)] 9)).heap.size := by simp
  rw [show (⟨#[116, 101, 110, 97, 110, 116]⟩ : ByteArray) = str sTen from rfl]
  generalize (w.alloc (.cells #[.int .i64 rw_, .string (str nm), .slice A1 n1 c1, .slice A2 n1 c2] 40)).alloc (.cells #[.string (str sTen), .string (str nm)] 9) = wS at *
  have BS := Lib.hid BS
  have X3 := Lib.hid x3
  clear x3
  go_loopw [3, 12] (fun v i wr => ∃ k : Nat, i = .int .i64 k ∧ k ≤ n1 ∧ wr.ownsRow (w.heap.size + 1) 9 1 v (twK ⟨rw_, nm, dv, pt⟩ k).length (txts (twK ⟨rw_, nm, dv, pt⟩ k)) ∧ Below (w.heap.size + 1) wS wr ∧ w.heap.size + 1 ≤ wr.heap.size) (fun _ i _ => match i with | .int _ x => (n1 - x).toNat | _ => 0)
  case atStart => exact ⟨0, rfl, by omega, by simpa [twK] using OW, Below.refl _ _, sz⟩
  case round =>
    obtain ⟨k, rfl, hk, ho, hb, hz⟩ := hrel
    have TL := twK_len ⟨rw_, nm, dv, pt⟩ k
    obtain ⟨vA, vN, vC, hv⟩ := tn_shape ho
    subst hv
    have O := Lib.hid ho
    have B := Lib.hid hb
    have g3 : wr.cell? ⟨w.heap.size, 3, none⟩ = some (.slice A2 n1 c2) := (B.out.cell (p := ⟨w.heap.size, 3, none⟩) (Nat.lt_succ_self _)).trans X3.out
    have BW := Lib.hid (show Below w.heap.size w wr from BS.out.trans (B.out.mono (Nat.le_succ _)))
    by_cases hlt : k < n1
    · have NX := Lib.hid (twK_next (T := ⟨rw_, nm, dv, pt⟩) (k := k) (by show k < dv.length; rw [LD.out]; exact hlt) (by show k < pt.length; rw [LP.out]; exact hlt))
      obtain ⟨b0, o0, rfl, hb0, e0⟩ := HD.out.at_ (by omega)
      obtain ⟨b1, o1, rfl, hb1, e1⟩ := HP.out.at_ (by omega)
      have g4 := (BW.out.cell (p := ⟨b0, o0 + k, none⟩) hb0).trans (e0 k hlt)
      have g5 := (BW.out.cell (p := ⟨b1, o1 + k, none⟩) hb1).trans (e1 k hlt)
      have l0 : (dv.getD k []).length ≤ 1000000 := D1.out _ (by have : k < dv.length := by rw [LD.out]; exact hlt
                                                                simp [List.getD, List.getElem?_eq_getElem this])
      have l1 : (pt.getD k []).length ≤ 1000000 := D2.out _ (by have : k < pt.length := by rw [LP.out]; exact hlt
                                                                simp [List.getD, List.getElem?_eq_getElem this])
      have NX2 := Lib.hid (show twK ⟨rw_, nm, dv, pt⟩ (k + 1) = twK ⟨rw_, nm, dv, pt⟩ k ++ [dpF (dv.getD k []) (pt.getD k [])] from NX.out)
      generalize dv.getD k [] = x at *
      generalize pt.getD k [] = y at *
      generalize twK ⟨rw_, nm, dv, pt⟩ k = ws at *
      have i0 : (k : Int) < (n1 : Int) := by omega
      have a1 : ∀ W, (Op.stringOp .add (str x) ⟨#[46]⟩).run Try.prog W = .ok (.string (str (x ++ [46]))) W := fun W => by
        rw [show (⟨#[46]⟩ : ByteArray) = str [46] from rfl, run_string_add_sum W _ _ (by rw [str_size, str_size]; simp; omega), str_append]
      have a2 : ∀ W, (Op.stringOp .add (str (x ++ [46])) (str y)).run Try.prog W = .ok (.string (str (dpF x y))) W := fun W => by
        rw [run_string_add_sum W _ _ (by rw [str_size, str_size]; simp; omega), str_append]; rfl
      clear ho hb e0 e1 l0 l1 NX
      go_wp2_with (at_builtin
                   (with_reducible refine wpList_tappT rfl (.tmp 17) (.tmp 26) rfl rfl (w.heap.size + 1) (.slice vA vN vC) ws (dpF x y) O.out ?hn hz wr.heap.size ?hq ?hs ?hx ?_)
                   (case hn => omega)
                   (case hq => rfl)
                   (case hs => rfl)
                   (case hx => rfl)
                   intro v7 w7 h7 g7 _
                   have N7 := Lib.hid h7
                   have B7 := Lib.hid (((B.out.alloc hz (.cells #[.string (str (dpF x y))] 9)).grown g7 (by rw [World.size_alloc]; omega) (fun k hk => (O.out.lt k hk).1)))
                   have z7 : w.heap.size + 1 ≤ w7.heap.size := by { have := g7.size; rw [World.size_alloc] at this; omega }
                   clear h7 g7)
      go_roundw
      case rel => exact ⟨k + 1, by simp, by omega, by rw [NX2.out, List.length_append]; exact N7.out, B7.out, z7⟩
      case measure => simp only []; omega
    · have i0 : ¬ (k : Int) < (n1 : Int) := by omega
      have E := Lib.hid (twK_all (T := ⟨rw_, nm, dv, pt⟩) (k := k) (.inl (by show ¬ k < dv.length; rw [LD.out]; exact hlt)))
      go_wp2
      go_ret
      exact ⟨vA, vN, vC, rfl, by rw [← E.out]; exact SSl.of_own (tn_len O.out), BW.out⟩
theorem strCells_eq (l : List UInt8) : Lib.strCells (str l) = byteCells l := rfl
theorem bsl_ten (w : World) (fr : Nat × Nat) : BSl (w.alloc (.cells #[.int .u8 10] 5 fr)) (some ⟨w.heap.size, 0, none⟩) 1 1 [10] := by
  have h := bsl_one w 10 fr (by decide)
  rwa [show u8 10 = 10 by decide] at h
/-- what tenants are written as: nothing, where they may not be -/
noncomputable def tpO (xs : List TV) : List UInt8 := if tpE xs = 0 then tpF xs else []
/-- bytes and an error, as policy.Text hands them back -/
def GotPt (w : World) (l : List UInt8) (E : Int) (e : Ending) (w' : World) : Prop := ∃ A n c, e = .returned (.tuple #[.slice A n c, .int .i64 E]) ∧ BSl w' A n c l ∧ Below w.heap.size w w'
theorem bsl_nil (w : World) : BSl w none 0 0 [] := ⟨⟨rfl, Nat.le_refl _, Nat.zero_le _, fun h => absurd h (by omega)⟩, fun _ => rfl⟩
set_option maxRecDepth 20000 in
set_option maxHeartbeats 4000000 in
theorem xptext_any (A : Option Addr) (n c : Nat) (xs : List TV) (w : World) (h : RSl tenR w (allB w) A n c xs) (hn : n ≤ 40) (hs : ∀ T ∈ xs, TvSz T) : Calls Try.prog 11 #[.slice A n c] w (GotPt w (tpO xs) (tpE xs)) := by
  obtain ⟨j0, hi, hz0, hz1, hz2⟩ := info_parts Try.info5
  have Hi := Lib.hid hi; have Hz0 := Lib.hid hz0; have Hz1 := Lib.hid hz1; have Hz2 := Lib.hid hz2
  clear hi hz0 hz1 hz2
  have hlen := h.len
  have hle := h.le
  have hcap := h.cap
  have H := Lib.hid h
  have HS := Lib.hid hs
  have HL := Lib.hid hlen
  have E2 := Lib.hid (show ∀ k, k < n → rgTB (xs.getD k TV.zero) = false → tpE xs = 2 ∧ tpO xs = [] from fun k hk hr => by
    have e : tpE xs = 2 := by
      unfold tpE
      rw [if_neg]
      intro ha
      have hl : k < xs.length := by omega
      have := List.all_eq_true.1 ha xs[k] (List.getElem_mem hl)
      rw [show xs[k] = xs.getD k TV.zero by simp [List.getD, hl], hr] at this
      cases this
    exact ⟨e, by unfold tpO; rw [if_neg (by rw [e]; decide)]⟩)
  have E3 := Lib.hid (show xs.all rgTB = true → (10 < n ∨ 20000 < (tpF xs).length) → tpE xs = 3 ∧ tpO xs = [] from fun ha hb => by
    have e : tpE xs = 3 := by unfold tpE; rw [if_pos ha, if_pos (by rw [hlen]; exact hb)]
    exact ⟨e, by unfold tpO; rw [if_neg (by rw [e]; decide)]⟩)
  have E0 := Lib.hid (show xs.all rgTB = true → ¬ (10 < n ∨ 20000 < (tpF xs).length) → tpE xs = 0 ∧ tpO xs = tpF xs from fun ha hb => by
    have e : tpE xs = 0 := by unfold tpE; rw [if_pos ha, if_neg (by rw [hlen]; exact hb)]
    exact ⟨e, by unfold tpO; rw [if_pos e]⟩)
  generalize tpO xs = O at *
  generalize tpE xs = E at *
  clear h hs hlen
  go_enter Try.func11, Try.ntmps11
  go_wp2
  go_loopw [11] (fun i wr => ∃ k : Nat, i = .int .i64 k ∧ k ≤ n ∧ (xs.take k).all rgTB = true ∧ Below w.heap.size w wr) (fun i _ => match i with | .int _ x => (n - x).toNat | _ => 0)
  case atStart => exact ⟨0, rfl, by omega, rfl, Below.refl _ _⟩
  case round =>
    obtain ⟨k, rfl, hk, hall, hb⟩ := hrel
    have W := Lib.hid hb
    have AL := Lib.hid hall
    clear hb hall
    by_cases hlt : k < n
    · obtain ⟨b0, o0, s1, s2, rfl, _, hb0, l1, l2, r0⟩ := tens_rd H.out k hlt
      have hk2 : k < xs.length := by rw [HL.out]; exact hlt
      have hT := HS.out (xs.getD k TV.zero) (by simp [List.getD, hk2])
      have AS := Lib.hid (fun hr => all_snoc hk2 AL.out hr)
      have E2k := Lib.hid (E2.out k hlt)
      generalize xs.getD k TV.zero = T at *
      have r1 := rangeAt_keep r0 (W.out.block b0 hb0)
      have c0 : wr.cell? ⟨b0, o0 + k * 4, none⟩ = some (.int .i64 T.row) := r1 0 _ rfl
      have c1 : wr.cell? ⟨b0, o0 + k * 4 + 1, none⟩ = some (.string (str T.name)) := r1 1 _ rfl
      have c2 : wr.cell? ⟨b0, o0 + k * 4 + 2, none⟩ = some (.slice s1.A s1.n s1.c) := r1 2 _ rfl
      have c3 : wr.cell? ⟨b0, o0 + k * 4 + 3, none⟩ = some (.slice s2.A s2.n s2.c) := r1 3 _ rfl
      have RT := fun (w' : World) (hb : Below w.heap.size w w') => xpright_any T s1 s2 w' _ (l1.below (fun _ h => h) hb) (l2.below (fun _ h => h) hb) (fun b h => Nat.lt_of_lt_of_le h hb.size) hT
      unfold tenV at RT
      have RT := Lib.hid (fun o => RT (wr.alloc o) (W.out.alloc W.out.size o))
      have WA := Lib.hid (fun o => W.out.alloc W.out.size o)
      have lt2 : (k : Int) < (n : Int) := by omega
      clear l1 l2 r0 r1 hT hk2
      cases hr : rgTB T with
      | false =>
        rw [hr] at RT
        have EK := Lib.hid (E2k.out hr)
        clear hr
        go_wp2_with (go_at_call 13; (with_reducible refine (RT.out _).mono ?_); rintro e w2 ⟨rfl, b2⟩; have W2 := Lib.hid (trans_below (WA.out _) b2); clear b2)
        go_ret2
        exact ⟨none, 0, 0, by rw [EK.out.1]; rfl, by rw [EK.out.2]; exact bsl_nil _, W2.out⟩
      | true =>
        rw [hr] at RT
        have AS2 := Lib.hid (AS.out hr)
        clear hr
        go_wp2_with (go_at_call 13; (with_reducible refine (RT.out _).mono ?_); rintro e w2 ⟨rfl, b2⟩; have W2 := Lib.hid (trans_below (WA.out _) b2); clear b2)
        go_roundw
        case rel => exact ⟨k + 1, by simp, by omega, AS2.out, W2.out⟩
        case measure => simp only []; omega
    · obtain rfl : k = n := by omega
      have ALL := Lib.hid (show xs.all rgTB = true by have := AL.out; rwa [List.take_of_length_le (by rw [HL.out]; omega)] at this)
      have lt2 : ¬ (k : Int) < (k : Int) := by omega
      by_cases h10 : 10 < k
      · have i0 : (10 : Int) < (k : Int) := by omega
        have EK := Lib.hid (E3.out ALL.out (.inl h10))
        go_wp2
        go_ret2
        exact ⟨none, 0, 0, by rw [EK.out.1]; rfl, by rw [EK.out.2]; exact bsl_nil _, W.out⟩
      · have i0 : ¬ (10 : Int) < (k : Int) := by omega
        rename World => w1
        clear AL lt2 E2
        go_wp2
        go_loopw [6, 24] (fun v i wr => ∃ j : Nat, i = .int .i64 j ∧ j ≤ k ∧ wr.ownsRow w.heap.size 5 1 v (tpF (xs.take j)).length (byteCells (tpF (xs.take j))) ∧ (tpF (xs.take j)).length ≤ 1000 * j ∧ Below w.heap.size w wr) (fun _ i _ => match i with | .int _ x => (k - x).toNat | _ => 0)
        case atStart => exact ⟨0, rfl, by omega, World.ownsRow_nil _ _ _ _, by simp [tpF, endF], W.out⟩
        case round =>
          obtain ⟨j, rfl, hj, ho, hsz, hb⟩ := hrel
          have B := Lib.hid hb
          obtain ⟨m, hm⟩ : ∃ m, (tpF (xs.take j)).length = m := ⟨_, rfl⟩
          rw [hm] at ho hsz
          obtain ⟨A3, c3, rfl⟩ := own_shape ho
          have OO := Lib.hid ho
          clear ho hb
          by_cases hlt : j < k
          · obtain ⟨b0, o0, s1, s2, rfl, _, hb0, l1, l2, r0⟩ := tens_rd H.out j hlt
            have hk2 : j < xs.length := by rw [HL.out]; exact hlt
            have hmem : xs.getD j TV.zero ∈ xs := by simp [List.getD, hk2]
            have hT := HS.out _ hmem
            have hR := (rgTB_iff _).1 (List.all_eq_true.1 ALL.out _ hmem)
            have TK := Lib.hid (tpF_take xs j hk2)
            generalize xs.getD j TV.zero = T at *
            have r1 := rangeAt_keep r0 (B.out.block b0 hb0)
            have c0 : wr.cell? ⟨b0, o0 + j * 4, none⟩ = some (.int .i64 T.row) := r1 0 _ rfl
            have c1 : wr.cell? ⟨b0, o0 + j * 4 + 1, none⟩ = some (.string (str T.name)) := r1 1 _ rfl
            have c2 : wr.cell? ⟨b0, o0 + j * 4 + 2, none⟩ = some (.slice s1.A s1.n s1.c) := r1 2 _ rfl
            have c3 : wr.cell? ⟨b0, o0 + j * 4 + 3, none⟩ = some (.slice s2.A s2.n s2.c) := r1 3 _ rfl
            have WD := fun (w' : World) (hb : Below w.heap.size w w') => pwords_any T s1 s2 w' (ssl_of (l1.below (fun _ h => h) hb)) (ssl_of (l2.below (fun _ h => h) hb)) (fun p hp => by have := hT.devs p hp; omega) (fun p hp => by have := hT.ports p hp; omega) (by have := hT.nd; omega) hR.1
            unfold GotTx tenV at WD
            have WD := Lib.hid (fun o => WD (wr.alloc o) (B.out.alloc B.out.size o))
            have BA := Lib.hid (fun o => B.out.alloc B.out.size o)
            have OA := Lib.hid (fun o => OO.out.alloc o)
            have hrl := hR.short.2
            have JS := Lib.hid hR.short.1
            have WL := (rn_words hR.2.2.1).2.2.1
            have hjn : joinF (twF T) = trF T := rfl
            have JJ := fun A n c (w : World) (h : SSl w A n c (twF T)) => xjoin_any A n c (twF T) w h JS.out (by rw [← h.len]; omega)
            rw [hjn] at JJ
            have JJ := Lib.hid JJ
            clear l1 l2 r0 r1 hT hk2 hmem hR hjn WL
            generalize trF T = r at *
            generalize twF T = ws at *
            generalize tpF (xs.take j) = q at *
            have hsz2 := str_size r
            have HM := Lib.hid hm
            have lt2 : (j : Int) < (k : Int) := by omega
            clear hm
            go_wp2_with (first
              | (go_at_call 23; (with_reducible refine (WD.out _).mono ?_); rintro e w4 ⟨A4, n4, c4, rfl, g4, b4⟩; have S4 := Lib.hid g4; have B4 := Lib.hid (trans_below (BA.out _) b4); have O4 := Lib.hid (own_below (OA.out _) b4); clear g4 b4)
              | (go_at_call 22; (with_reducible refine (JJ.out _ _ _ _ S4.out).mono ?_); rintro e w5 ⟨rfl, b5⟩; have B5 := Lib.hid (trans_below B4.out b5); have O5 := Lib.hid (own_below O4.out b5); clear b5)
              | (at_builtin; (with_reducible refine Lib.wpList_append_own_string _ rfl (.tmp 28) (.tmp 31) 22 9 rfl w.heap.size 5 j0 Try.underlying22 Try.underlying9 Hi.out Hz0.out Hz1.out Hz2.out _ _ _ ?hs O5.out (str r) ?hx ?h1 ?h2 ?h3 ?_); (case hs => rfl); (case hx => rfl); (case h1 => (unfold maxLen; rw [hsz2]; omega)); (case h2 => (rw [hsz2]; omega)); (case h3 => exact B5.out.size); intro v6 w6 hown6 hgrow6 _; have B6 := Lib.hid (below_app B5.out O5.out hgrow6); rw [strCells_eq, ← bcells_app, hsz2] at hown6; have O6 := Lib.hid hown6; obtain ⟨A6, c6, rfl⟩ := own_shape hown6; clear hown6 hgrow6)
              | (at_builtin; refine wpList_bapp rfl (.tmp 32) (.tmp 33) 22 rfl w.heap.size 5 j0 (.int .u8 0) 1 Try.underlying22 Hi.out Hz0.out Hz1.out Hz2.out rfl _ _ _ (by rfl) (O6.out.alloc _) (some ⟨w6.heap.size, 0, none⟩) 1 1 [10] (by rfl) (bsl_ten w6 _) (by unfold maxLen; omega) (by omega) (Nat.le_trans B6.out.size (by simp)) ?_; intro v8 w8 hown8 hgrow8; have B8 := Lib.hid (below_app (B6.out.alloc B6.out.size _) (O6.out.alloc _) hgrow8); rw [← bcells_app] at hown8; have O8 := Lib.hid hown8; clear hown8 hgrow8))
            go_roundw
            case rel =>
              refine ⟨j + 1, by simp, by omega, ?_, ?_, B8.out⟩
              · have h8 := O8.out
                rw [TK.out, List.length_append, List.length_append, HM.out]
                exact h8
              · rw [TK.out, List.length_append, List.length_append, HM.out, List.length_singleton]; omega
            case measure => simp only []; omega
          · obtain rfl : j = k := by omega
            have EE := Lib.hid (show xs.take j = xs from List.take_of_length_le (by rw [HL.out]; omega))
            rw [EE.out] at OO hm
            have S := Lib.hid (BSl.of_own OO.out)
            have lt2 : ¬ (j : Int) < (j : Int) := by omega
            by_cases hbig : 20000 < m
            · have i1 : (20000 : Int) < (m : Int) := by omega
              have EK := Lib.hid (E3.out ALL.out (.inr (by rw [hm]; exact hbig)))
              clear hm
              go_wp2
              go_ret2
              exact ⟨none, 0, 0, by rw [EK.out.1]; rfl, by rw [EK.out.2]; exact bsl_nil _, B.out⟩
            · have i1 : ¬ (20000 : Int) < (m : Int) := by omega
              have EK := Lib.hid (E0.out ALL.out (by rw [hm]; omega))
              clear hm
              go_wp2
              go_ret2
              exact ⟨_, _, _, by rw [EK.out.1]; rfl, by rw [EK.out.2]; exact S.out, B.out⟩
end Go.Proofs.Ytkfhjmoocnhekaa
