/- The contract of palingref14.Read. -/
import Derived.Test.YtkfhjmoocnhekaaTnRef
namespace Go.Proofs.Ytkfhjmoocnhekaa
open Go.RowKit
theorem rpol_no (A : Option Addr) (n c : Nat) (l : List UInt8) (w : World) (h : BSl w A n c l) (he : ¬ rwE l = 0) : Calls Try.prog 8 #[.slice A n c] w (GotPol w (0, rwE l, [])) := by
  have R := rrows_any A n c l w h
  unfold GotRows at R
  rw [os_no he] at R
  generalize rwE l = E at *
  have R := Lib.hid R
  have ne : (E != 0) = true := by simpa using he
  clear h he
  go_enter Try.func8, Try.ntmps8
  go_wp2_with (go_at_call 19; (with_reducible refine R.out.mono ?_); rintro e w1 ⟨A1, n1, c1, rfl, s1, b1⟩)
  exact bodyPost_ret (v := .tuple #[.slice none 0 0, .int .i64 0, .int .i64 E]) (by simp [results, Try.results8, go_sem]) rfl ⟨none, 0, 0, rfl, RSl.nil, b1⟩
set_option maxRecDepth 20000 in
set_option maxHeartbeats 4000000 in
theorem rpol_yes (A : Option Addr) (n c : Nat) (l : List UInt8) (w : World) (h : BSl w A n c l) (he : rwE l = 0) (RR : Int × Int × List TV) (hRR : poF (rwF l) 0 [] = RR) : Calls Try.prog 8 #[.slice A n c] w (GotPol w RR) := by
  have R := rrows_any A n c l w h
  unfold GotRows at R
  rw [he, os_ok] at R
  have R := Lib.hid R
  obtain ⟨g1, g2⟩ := rwE_zero he
  have RP := Lib.hid (fun (p : List UInt8) (hp : p ∈ rwF l) => (show p.length ≤ 20000 by have := rwS_part l p hp; omega))
  generalize rwF l = rows at *
  have HRR := Lib.hid (show poF (rows.drop 0) 0 [] = RR from hRR)
  obtain ⟨m, hm⟩ : ∃ m, rows.length = m := ⟨_, rfl⟩
  have HM := Lib.hid hm
  rw [hm] at g2
  clear h he hRR hm g1
  go_enter Try.func8, Try.ntmps8
  go_wp2_with (go_at_call 19; (with_reducible refine R.out.mono ?_); rintro e w1 ⟨A1, n1, c1, rfl, s1, b1⟩; obtain rfl : n1 = m := by { rw [← s1.len, HM.out] }; have S1 := Lib.hid s1; have B1 := Lib.hid b1; have q1 := s1.le; have q2 := s1.cap; clear s1 b1)
  go_loopw [7, 8] (fun v i wr => ∃ (k : Nat) (acc : List TV), i = .int .i64 (k : Int) ∧ k ≤ n1 ∧ ROwn tenR wr w1.heap.size 40 v acc ∧ acc.length ≤ k ∧ Below w1.heap.size w1 wr ∧ poF (rows.drop k) k acc = RR) (fun _ i _ => match i with | .int _ x => (n1 - x).toNat | _ => 0)
  case atStart => exact ⟨0, [], rfl, by omega, ROwn.nil _ _ _, Nat.le_refl _, Below.refl _ _, HRR.out⟩
  case round =>
    obtain ⟨k, acc, rfl, hk, ho, hacc, hb, ht⟩ := hrel
    obtain ⟨Av, cv, hv⟩ := ho.shape
    subst hv
    have O := Lib.hid ho
    have B := Lib.hid hb
    have HT := Lib.hid ht
    clear ho hb ht
    by_cases hlt : k < n1
    · obtain ⟨b0, o0, rfl, hb0, hc0⟩ := S1.out.at_ (by omega)
      have c0 := (B.out.cell (p := ⟨b0, o0 + k, none⟩) hb0).trans (hc0 k hlt)
      have hkm : k < rows.length := by rw [HM.out]; exact hlt
      have ST := Lib.hid (HT.out.symm.trans (poF_at (acc := acc) hkm))
      have hrl : (rows.getD k []).length ≤ 20000 := RP.out _ (by simp [List.getD, List.getElem?_eq_getElem hkm])
      have WD := fun w => rwords_any (rows.getD k []) w (by omega)
      unfold GotWords at WD
      generalize rows.getD k [] = r at *
      have i0 : (k : Int) < (n1 : Int) := by omega
      have wk : IntKind.i64.wrap ((k : Int) + 1) = (k : Int) + 1 := IntWalk.i64_in _ (by omega)
      have sr : (str r).size = r.length := str_size r
      clear hc0 hkm
      by_cases hw : wlE r = 0
      · rw [hw, os_ok] at WD
        by_cases hn : wsF (ahead r) = []
        · have e1 : poE r acc.length = 0 := by unfold poE; rw [if_pos hw, if_pos hn]
          have e2 : poL r k = [] := by unfold poL; rw [if_pos hn]
          have ST2 := Lib.hid (show poF (rows.drop (k + 1)) (k + 1) acc = RR by have := ST.out; rw [if_pos e1, e2, List.append_nil] at this; exact this.symm)
          rw [hn] at WD
          have WD := Lib.hid WD
          clear ST hw hn e1 e2 HT
          go_wp2_with (go_at_call 20; (with_reducible refine (WD.out _).mono ?_); rintro e w2 ⟨A2, n2, c2, rfl, s2, b2⟩; obtain rfl : n2 = 0 := s2.len.symm; have B2 := Lib.hid b2; clear s2 b2)
          go_roundw
          case rel => exact ⟨k + 1, acc, by simp, by omega, O.out.below B2.out, by omega, trans_below B.out B2.out, ST2.out⟩
          case measure => simp only []; omega
        · have hs : ∀ p ∈ wsF (ahead r), p.length ≤ 1000000 := fun p hp => by
            have h1 := wsS_part (ahead r) p hp
            have h2 := (ahead_spec r).1
            omega
          have e1 : poE r acc.length = if rnE (wsF (ahead r)) = 0 then (if acc.length = 10 then 3 else 0) else rnE (wsF (ahead r)) := by unfold poE; rw [if_pos hw, if_neg hn]
          have e2 : poL r k = [rnT (wsF (ahead r)) ((k : Int) + 1)] := by unfold poL; rw [if_neg hn]
          have ST2 := ST.out
          rw [e1, e2] at ST2
          have hn2 : 1 ≤ (wsF (ahead r)).length := List.length_pos_iff.2 hn
          have RD := fun A n c w h hn => refRow_any A n c (wsF (ahead r)) ((k : Int) + 1) w h hn hs
          generalize wsF (ahead r) = ws at *
          obtain ⟨n2, hn3⟩ : ∃ n2, ws.length = n2 := ⟨_, rfl⟩
          have HN := Lib.hid hn3
          rw [hn3] at hn2
          have z2 : ((n2 : Int) == 0) = false := by simp; omega
          generalize rnT ws ((k : Int) + 1) = T at *
          unfold GotTn tenV at RD
          have WD := Lib.hid WD
          clear ST hw hn e1 e2 HT hs hn3
          by_cases hE : rnE ws = 0
          · rw [if_pos hE] at ST2
            rw [hE] at RD
            have RD := Lib.hid RD
            clear hE
            by_cases h10 : acc.length = 10
            · have z3 : ((acc.length : Int) == 10) = true := by simp; omega
              rw [if_pos h10, if_neg (by decide)] at ST2
              have ST3 := Lib.hid ST2.symm
              clear ST2 h10
              go_wp2_with (first
                | (go_at_call 20; (with_reducible refine (WD.out _).mono ?_); rintro e w2 ⟨A2, n4, c2, rfl, s2, b2⟩; obtain rfl : n4 = n2 := by { rw [← s2.len, HN.out] }; have B2 := Lib.hid b2; have S2 := Lib.hid s2; have q5 := s2.le; have q6 := s2.cap; clear s2 b2)
                | (go_at_call 21; (with_reducible refine (RD.out _ _ _ _ S2.out hn2).mono ?_); rintro e w4 ⟨s1, s2, rfl, r4, b4⟩; have K4 := Lib.hid (fun o => (trans_below B.out (trans_below B2.out b4)).alloc (by have := B.out.size; have := B2.out.size; have := b4.size; omega) o); clear r4 b4))
              exact bodyPost_ret (v := .tuple #[.slice none 0 0, .int .i64 ((k : Int) + 1), .int .i64 3]) (by simp [results, Try.results8, go_sem]) rfl ⟨none, 0, 0, by rw [← ST3.out], by rw [← ST3.out]; exact RSl.nil, trans_below B1.out (K4.out _)⟩
            · have z3 : ((acc.length : Int) == 10) = false := by simp; omega
              rw [if_neg h10, if_pos rfl] at ST2
              have ST3 := Lib.hid ST2.symm
              clear ST2 h10
              go_wp2_with (first
                | (go_at_call 20; (with_reducible refine (WD.out _).mono ?_); rintro e w2 ⟨A2, n4, c2, rfl, s2, b2⟩; obtain rfl : n4 = n2 := by { rw [← s2.len, HN.out] }; have B2 := Lib.hid b2; have S2 := Lib.hid s2; have q5 := s2.le; have q6 := s2.cap; clear s2 b2)
                | (go_at_call 21; (with_reducible refine (RD.out _ _ _ _ S2.out hn2).mono ?_); rintro e w4 ⟨s1, s2, rfl, r4, b4⟩; have K5 := Lib.hid (fun o => (trans_below B.out (trans_below B2.out b4)).alloc (by have := B.out.size; have := B2.out.size; have := b4.size; omega) o); have O5 := Lib.hid (fun o => O.out.below (trans_below B2.out (b4.alloc b4.size o))); have N5 := Lib.hid (fun o => tenR.keep (w' := w4.alloc o) (F' := fun b => w2.heap.size ≤ b ∧ b < w4.heap.size) r4 (fun b hb => Below.heap_alloc w4 o b hb.2) (fun b hb => hb)); have F5 := Lib.hid (show ∀ o b, (w2.heap.size ≤ b ∧ b < w4.heap.size) → offRow (w4.alloc o) (.slice Av acc.length cv) b from fun o b hb => ⟨by rw [World.size_alloc]; omega, fun e => by { have h1 := (O.out.lt b e).2; have h2 := B2.out.size; omega }⟩); clear r4 b4)
                | ((with_reducible refine wpList_tenSl rfl (.tmp 62) rfl T s1 s2 ?hx ?_); (case hx => rfl))
                | (at_builtin; (with_reducible refine wpList_tenapp rfl (.tmp 61) (.tmp 63) rfl w1.heap.size _ acc (O5.out _) T s1 s2 _ (N5.out _) (F5.out _) ?hn (K5.out _).size ?hs ?hx ?_); (case hn => omega); (case hs => rfl); (case hx => rfl); intro v6 w6 o6 b6; have O6 := Lib.hid o6; have K6 := Lib.hid ((K5.out _).trans b6); clear o6 b6))
              go_roundw
              case rel => exact ⟨k + 1, acc ++ [T], by simp, by omega, O6.out, by simp; omega, K6.out, ST3.out⟩
              case measure => simp only []; omega
          · have ne : (rnE ws != 0) = true := by simpa using hE
            have nf : (rnE ws == 0) = false := by simpa using hE
            rw [if_neg hE, if_neg hE] at ST2
            have ST3 := Lib.hid ST2.symm
            have RD := Lib.hid RD
            generalize rnE ws = E at *
            clear ST2 hE
            go_wp2_with (first
              | (go_at_call 20; (with_reducible refine (WD.out _).mono ?_); rintro e w2 ⟨A2, n4, c2, rfl, s2, b2⟩; obtain rfl : n4 = n2 := by { rw [← s2.len, HN.out] }; have B2 := Lib.hid b2; have S2 := Lib.hid s2; have q5 := s2.le; have q6 := s2.cap; clear s2 b2)
              | (go_at_call 21; (with_reducible refine (RD.out _ _ _ _ S2.out hn2).mono ?_); rintro e w4 ⟨s1, s2, rfl, r4, b4⟩; have K4 := Lib.hid (fun o => (trans_below B.out (trans_below B2.out b4)).alloc (by have := B.out.size; have := B2.out.size; have := b4.size; omega) o); clear r4 b4))
            exact bodyPost_ret (v := .tuple #[.slice none 0 0, .int .i64 ((k : Int) + 1), .int .i64 E]) (by simp [results, Try.results8, go_sem]) rfl ⟨none, 0, 0, by rw [← ST3.out], by rw [← ST3.out]; exact RSl.nil, trans_below B1.out (K4.out _)⟩
      · rw [os_no hw] at WD
        have ne : (wlE r != 0) = true := by simpa using hw
        have ST3 := Lib.hid (show RR = ((k : Int) + 1, wlE r, []) by have e1 : poE r acc.length = wlE r := by { unfold poE; rw [if_neg hw] }; have := ST.out; rw [e1, if_neg hw] at this; exact this)
        have WD := Lib.hid WD
        generalize wlE r = E at *
        clear ST hw HT
        go_wp2_with (go_at_call 20; (with_reducible refine (WD.out _).mono ?_); rintro e w2 ⟨A2, n2, c2, rfl, s2, b2⟩; obtain rfl : n2 = 0 := s2.len.symm; have B2 := Lib.hid b2; clear s2 b2)
        exact bodyPost_ret (v := .tuple #[.slice none 0 0, .int .i64 ((k : Int) + 1), .int .i64 E]) (by simp [results, Try.results8, go_sem]) rfl ⟨none, 0, 0, by rw [ST3.out], by rw [ST3.out]; exact RSl.nil, trans_below B1.out (trans_below B.out B2.out)⟩
    · have ST3 := Lib.hid (show RR = (0, 0, acc) from HT.out.symm.trans (poF_end (by rw [HM.out]; omega)))
      go_wp2
      exact bodyPost_ret (v := .tuple #[.slice Av acc.length cv, .int .i64 0, .int .i64 0]) (by simp [results, Try.results8, go_sem]) rfl ⟨Av, acc.length, cv, by rw [ST3.out], by rw [ST3.out]; exact O.out.read, trans_below B1.out B.out⟩
theorem rpol_any (A : Option Addr) (n c : Nat) (l : List UInt8) (w : World) (h : BSl w A n c l) : Calls Try.prog 8 #[.slice A n c] w (GotPol w (poV l)) := by
  unfold poV
  by_cases he : rwE l = 0
  · rw [if_pos he]; exact rpol_yes A n c l w h he _ rfl
  · rw [if_neg he]; exact rpol_no A n c l w h he
end Go.Proofs.Ytkfhjmoocnhekaa
