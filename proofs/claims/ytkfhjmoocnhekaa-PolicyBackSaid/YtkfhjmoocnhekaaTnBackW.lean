/- The walk of PolicyBack. (Made by mk-tnback.py.) -/
import Derived.Test.YtkfhjmoocnhekaaTnWorks
namespace Go.Proofs.Ytkfhjmoocnhekaa
open Go.RowKit

theorem RgT.sz {T : TV} (h : RgT T) : TvSz T := by
  obtain ⟨h1, h2, h3, h4⟩ := h
  obtain ⟨_, _, _, g4, g5⟩ := rn_words h3
  have e : T = ⟨T.row, (twF T).getD 1 [], ((twF T).drop 2).map (headC 46), ((twF T).drop 2).map (tailC 46)⟩ := by
    unfold rnT at h4
    rw [if_pos h3] at h4
    exact h4.symm
  have en : T.name = (twF T).getD 1 [] := rfl
  have ed : T.devs = ((twF T).drop 2).map (headC 46) := by have := congrArg TV.devs e; exact this
  have ep : T.ports = ((twF T).drop 2).map (tailC 46) := by have := congrArg TV.ports e; exact this
  refine ⟨?_, fun p hp => ?_, fun p hp => ?_, by omega, by omega⟩
  · rw [en]
    have := (nw_mem g4).2.1
    omega
  · rw [ed] at hp
    obtain ⟨q, hq, rfl⟩ := List.mem_map.1 hp
    have := (nw_mem (dp_back (List.all_eq_true.1 g5 q hq)).2.1).2.1
    omega
  · rw [ep] at hp
    obtain ⟨q, hq, rfl⟩ := List.mem_map.1 hp
    have := (nw_mem (dp_back (List.all_eq_true.1 g5 q hq)).2.2).2.1
    omega
theorem tp_zero {xs : List TV} (h : tpE xs = 0) : (∀ T ∈ xs, RgT T) ∧ xs.length ≤ 10 ∧ (tpF xs).length ≤ 20000 ∧ tpO xs = tpF xs := by
  have h0 := h
  unfold tpE at h
  by_cases ha : xs.all rgTB = true
  · rw [if_pos ha] at h
    by_cases hb : 10 < xs.length ∨ 20000 < (tpF xs).length
    · rw [if_pos hb] at h; cases h
    · exact ⟨fun T hT => (rgTB_iff T).1 (List.all_eq_true.1 ha T hT), by omega, by omega, by unfold tpO; rw [if_pos h0]⟩
  · rw [if_neg ha] at h; cases h
theorem tp_ok {xs : List TV} (h : ∀ T ∈ xs, RgT T) (hl : xs.length ≤ 10) (hs : (tpF xs).length ≤ 20000) : tpE xs = 0 ∧ tpO xs = tpF xs := by
  have e : tpE xs = 0 := by
    unfold tpE
    rw [if_pos (List.all_eq_true.2 fun T hT => (rgTB_iff T).2 (h T hT)), if_neg (by omega)]
  exact ⟨e, by unfold tpO; rw [if_pos e]⟩
theorem up_ten {w w' : World} {A : Option Addr} {n c : Nat} {xs : List TV} (h : RSl tenR w (allB w) A n c xs) (hb : Below w.heap.size w w') : RSl tenR w' (allB w') A n c xs := h.keep (fun b h => hb.block b h) (fun _ h => Nat.lt_of_lt_of_le h hb.size)
set_option maxRecDepth 20000 in
set_option maxHeartbeats 8000000 in
theorem pback_walk (A : Option Addr) (n c : Nat) (xs : List TV) (B : Option Addr) (m d : Nat) (l : List UInt8) (w : World) (h : RSl tenR w (allB w) A n c xs) (g : BSl w B m d l) :
    Calls Try.prog 5 #[.slice A n c, .slice B m d] w fun e w' => e = .returned (.bool true) ∧ Below w.heap.size w w' := by
  have GL := Lib.hid (fun (w' : World) hb => great14_any A n c xs w' (up_ten h hb))
  unfold GotG at GL
  by_cases h3 : 3000 < m
  · have i0 : (3000 : Int) < (m : Int) := by omega
    clear h g h3
    go_enter Try.func5, Try.ntmps5
    go_wp2_with (first
      | (go_at_call 6; (with_reducible refine (works14_any _).mono ?_); rintro e w1 ⟨rfl, b1⟩; have B1 := Lib.hid b1; clear b1)
      | (go_at_call 10; (with_reducible refine (GL.out _ B1.out).mono ?_); rintro e w2 ⟨g1, rfl, hg1, hw1⟩; subst hw1; cases g1))
    · go_wp2
      go_ret
      exact ⟨rfl, B1.out⟩
    · go_wp2
      go_ret
      exact ⟨rfl, B1.out⟩
  have i0 : ¬ (3000 : Int) < (m : Int) := by omega
  have H := Lib.hid h
  have GB := fun (w' : World) (hb : Below w.heap.size w w') => xpol_any B m d l w' (g.below hb)
  have hll : l.length ≤ 3000 := by have := g.len; omega
  obtain ⟨⟨row, F, zs⟩, hT⟩ : ∃ T, poV l = T := ⟨_, rfl⟩
  rw [hT] at GB
  have GB := Lib.hid GB
  have HTT := Lib.hid hT
  have HLL := Lib.hid hll
  clear h g h3 hT hll
  go_enter Try.func5, Try.ntmps5
  go_wp2_with (first
    | (go_at_call 6; (with_reducible refine (works14_any _).mono ?_); rintro e w1 ⟨rfl, b1⟩; have B1 := Lib.hid b1; clear b1)
    | (go_at_call 10; (with_reducible refine (GL.out _ B1.out).mono ?_); rintro e w2 ⟨g1, rfl, hg1, hw1⟩; subst hw1; cases g1))
  rotate_left
  · go_wp2
    go_ret
    exact ⟨rfl, B1.out⟩
  have l40 := (hg1 trivial).1
  have SZ := Lib.hid (hg1 trivial).2
  have XT := xptext_any A n c xs _ (up_ten H.out B1.out) l40 SZ.out
  clear hg1 GL
  by_cases hE : tpE xs = 0
  rotate_left
  · obtain ⟨E, hE2⟩ : ∃ E, tpE xs = E := ⟨_, rfl⟩
    rw [hE2] at XT hE
    have ne : (E == 0) = false := by simpa using hE
    have XT := Lib.hid XT
    clear hE2 hE
    go_wp2_with (go_at_call 11; (with_reducible refine XT.out.mono ?_); rintro e w3 ⟨A3, n3, c3, rfl, _, b3⟩; have B3 := Lib.hid (trans_below B1.out b3); clear b3)
    by_cases hF : F = 0
    rotate_left
    · have ne2 : (F != 0) = true := by simpa using hF
      obtain ⟨hz, hor⟩ := po_wrong HTT.out hF
      subst hz
      by_cases h0 : 0 < row
      · have i5 : (0 : Int) < row := h0
        clear hor hF h0
        go_wp2_with (go_at_call 7; (with_reducible refine (GB.out _ B3.out).mono ?_); rintro e wa ⟨Aa, na, ca, rfl, sa, ba⟩; obtain rfl : na = 0 := sa.len.symm; have WA := Lib.hid (trans_below B3.out ba); clear sa ba)
        go_ret
        exact ⟨rfl, WA.out⟩
      · have i5 : ¬ (0 : Int) < row := h0
        obtain rfl : F = 3 := by rcases hor with e | e; exact absurd e h0; exact e
        clear hor hF h0
        go_wp2_with (go_at_call 7; (with_reducible refine (GB.out _ B3.out).mono ?_); rintro e wa ⟨Aa, na, ca, rfl, sa, ba⟩; obtain rfl : na = 0 := sa.len.symm; have WA := Lib.hid (trans_below B3.out ba); clear sa ba)
        go_ret
        exact ⟨rfl, WA.out⟩
    · subst hF
      obtain ⟨r1, r2, r3, r4⟩ := po_read HTT.out
      obtain ⟨TE, TO⟩ := tp_ok r1 r2 (by have := HLL.out; omega)
      have P2 := po_back r1 r2 (by have := HLL.out; omega)
      have XT2 := fun A n c w h hn => xptext_any A n c zs w h hn (fun T hT => (r1 T hT).sz)
      rw [TE, TO] at XT2
      have XP2 := fun A n c w h => xpol_any A n c (tpF zs) w h
      rw [P2] at XP2
      have SM := fun A n c B m d w F G h g => xpsame_any A n c B m d zs (reRow 0 zs) w F G h g
      rw [re_same] at SM
      have XT2 := Lib.hid XT2
      have XP2 := Lib.hid XP2
      have SM := Lib.hid SM
      have R2 := Lib.hid r2
      clear r1 r2 r3 r4 TE TO P2
      go_wp2_with (first
        | (go_at_call 7; (with_reducible refine (GB.out _ B3.out).mono ?_); rintro e wa ⟨Aa, na, ca, rfl, sa, ba⟩; have SA := Lib.hid sa; have WA := Lib.hid (trans_below B3.out ba); have la : na ≤ 40 := (by { have h1 := sa.len; have h2 := R2.out; dsimp only at h1; omega }); clear sa ba)
        | (go_at_call 11; (with_reducible refine (XT2.out _ _ _ _ SA.out la).mono ?_); rintro e wb ⟨Ab, nb, cb, rfl, sb_, bb⟩; have SB := Lib.hid sb_; have WB := Lib.hid (trans_below WA.out bb); have SA2 := Lib.hid (up_ten SA.out bb); clear sb_ bb)
        | (go_at_call 7; (with_reducible refine (XP2.out _ _ _ _ SB.out).mono ?_); rintro e wc ⟨Ac, nc, cc, rfl, sc, bc⟩; have SC := Lib.hid sc; have WC := Lib.hid (trans_below WB.out bc); have SA3 := Lib.hid (up_ten SA2.out bc); clear sc bc)
        | (go_at_call 15; (with_reducible refine (SM.out _ _ _ _ _ _ _ _ _ SA3.out SC.out).mono ?_); rintro e we ⟨rfl, be⟩; have WE := Lib.hid (trans_below WC.out be); clear be))
      go_ret
      exact ⟨rfl, WE.out⟩
  · obtain ⟨x1, x2, x3, x4⟩ := tp_zero hE
    have P1 := po_back x1 x2 x3
    rw [hE, x4] at XT
    have XP := fun A n c w h => xpol_any A n c (tpF xs) w h
    rw [P1] at XP
    have SM1 := fun A n c B m d w F G h g => xpsame_any A n c B m d xs (reRow 0 xs) w F G h g
    rw [re_same] at SM1
    have XT := Lib.hid XT
    have XP := Lib.hid XP
    have SM1 := Lib.hid SM1
    have RL := Lib.hid (re_len xs 0)
    have RA := Lib.hid (re_at xs 0)
    have RR := Lib.hid (show ∀ k, k < xs.length → RgT (xs.getD k TV.zero) from fun k hk => by
      have : xs.getD k TV.zero = xs[k] := by simp [List.getD, hk]
      rw [this]
      exact x1 _ (List.getElem_mem hk))
    clear x1 x2 x3 x4 P1 hE
    go_wp2_with (first
      | (go_at_call 11; (with_reducible refine XT.out.mono ?_); rintro e w3 ⟨A3, n3, c3, rfl, s3, b3⟩; have S3 := Lib.hid s3; have B3 := Lib.hid (trans_below B1.out b3); clear s3 b3)
      | (go_at_call 7; (with_reducible refine (XP.out _ _ _ _ S3.out).mono ?_); rintro e w4 ⟨A4, n4, c4, rfl, s4, b4⟩; have S4 := Lib.hid s4; have B4 := Lib.hid (trans_below B3.out b4); have q4 := s4.le; have q5 := s4.cap; clear s4 b4)
      | (go_at_call 15; (with_reducible refine (SM1.out _ _ _ _ _ _ _ _ _ (up_ten H.out B4.out) S4.out).mono ?_); rintro e w5 ⟨rfl, b5⟩; have S5 := Lib.hid (up_ten S4.out b5); have B5 := Lib.hid (trans_below B4.out b5); clear b5))
    go_loopw [55] (fun i wr => ∃ k : Nat, i = .int .i64 k ∧ k ≤ n4 ∧ Below w5.heap.size w5 wr) (fun i _ => match i with | .int _ x => (n4 - x).toNat | _ => 0)
    case atStart => exact ⟨0, rfl, by omega, Below.refl _ _⟩
    case round =>
      obtain ⟨k, rfl, hk, hb⟩ := hrel
      have W := Lib.hid hb
      have W0 := Lib.hid (trans_below B5.out hb)
      clear hb
      by_cases hlt : k < n4
      · obtain ⟨b0, o0, s1, s2, rfl, _, hb0, l1, l2, r0⟩ := tens_rd S5.out k hlt
        have hk2 : k < xs.length := by have h1 := S5.out.len; rw [RL.out] at h1; omega
        have e0 := RA.out k hk2
        have hR := (RR.out k hk2).at (((0 + k : Nat) : Int) + 1)
        rw [← e0] at hR
        have hrow : ((reRow 0 xs).getD k TV.zero).row = (k : Int) + 1 := by rw [e0, Nat.zero_add]; rfl
        generalize (reRow 0 xs).getD k TV.zero = T at *
        have c0 : wr.cell? ⟨b0, o0 + k * 4, none⟩ = some (.int .i64 ((k : Int) + 1)) := by
          have := (rangeAt_keep r0 (W.out.block b0 hb0)) 0 _ rfl
          rw [hrow] at this
          exact this
        have c1 : wr.cell? ⟨b0, o0 + k * 4 + 1, none⟩ = some (.string (str T.name)) := (rangeAt_keep r0 (W.out.block b0 hb0)) 1 _ rfl
        have c2 : wr.cell? ⟨b0, o0 + k * 4 + 2, none⟩ = some (.slice s1.A s1.n s1.c) := (rangeAt_keep r0 (W.out.block b0 hb0)) 2 _ rfl
        have c3_ : wr.cell? ⟨b0, o0 + k * 4 + 3, none⟩ = some (.slice s2.A s2.n s2.c) := (rangeAt_keep r0 (W.out.block b0 hb0)) 3 _ rfl
        have XR := xpright_any T s1 s2 wr _ (l1.below (fun _ h => h) W.out) (l2.below (fun _ h => h) W.out) (fun b h => Nat.lt_of_lt_of_le h W.out.size) hR.sz
        rw [(rgTB_iff T).2 hR] at XR
        unfold tenV at XR
        rw [hrow] at XR
        have XR := Lib.hid XR
        have lt2 : (k : Int) < (n4 : Int) := by omega
        have wk : IntKind.i64.wrap ((k : Int) + 1) = (k : Int) + 1 := by rw [IntKind.wrap_i64]; omega
        have nk : ((k : Int) + 1 != (k : Int) + 1) = false := by simp
        clear l1 l2 r0 hk2 e0 hR hrow
        go_wp2_with (go_at_call 13; (with_reducible refine XR.out.mono ?_); rintro e w6 ⟨rfl, b6⟩; have W6 := Lib.hid (trans_below W.out b6); clear b6)
        go_roundw
        case rel => exact ⟨k + 1, by simp, by omega, W6.out⟩
        case measure => simp only []; omega
      · have lt2 : ¬ (k : Int) < (n4 : Int) := by omega
        by_cases hF : F = 0
        rotate_left
        · have ne2 : (F != 0) = true := by simpa using hF
          obtain ⟨hz, hor⟩ := po_wrong HTT.out hF
          subst hz
          by_cases h0 : 0 < row
          · have i5 : (0 : Int) < row := h0
            clear hor hF h0
            go_wp2_with (go_at_call 7; (with_reducible refine (GB.out _ W0.out).mono ?_); rintro e wa ⟨Aa, na, ca, rfl, sa, ba⟩; obtain rfl : na = 0 := sa.len.symm; have WA := Lib.hid (trans_below W0.out ba); clear sa ba)
            go_ret
            exact ⟨rfl, WA.out⟩
          · have i5 : ¬ (0 : Int) < row := h0
            obtain rfl : F = 3 := by rcases hor with e | e; exact absurd e h0; exact e
            clear hor hF h0
            go_wp2_with (go_at_call 7; (with_reducible refine (GB.out _ W0.out).mono ?_); rintro e wa ⟨Aa, na, ca, rfl, sa, ba⟩; obtain rfl : na = 0 := sa.len.symm; have WA := Lib.hid (trans_below W0.out ba); clear sa ba)
            go_ret
            exact ⟨rfl, WA.out⟩
        · subst hF
          obtain ⟨r1, r2, r3, r4⟩ := po_read HTT.out
          obtain ⟨TE, TO⟩ := tp_ok r1 r2 (by have := HLL.out; omega)
          have P2 := po_back r1 r2 (by have := HLL.out; omega)
          have XT2 := fun A n c w h hn => xptext_any A n c zs w h hn (fun T hT => (r1 T hT).sz)
          rw [TE, TO] at XT2
          have XP2 := fun A n c w h => xpol_any A n c (tpF zs) w h
          rw [P2] at XP2
          have SM := fun A n c B m d w F G h g => xpsame_any A n c B m d zs (reRow 0 zs) w F G h g
          rw [re_same] at SM
          have XT2 := Lib.hid XT2
          have XP2 := Lib.hid XP2
          have SM := Lib.hid SM
          have R2 := Lib.hid r2
          clear r1 r2 r3 r4 TE TO P2
          go_wp2_with (first
            | (go_at_call 7; (with_reducible refine (GB.out _ W0.out).mono ?_); rintro e wa ⟨Aa, na, ca, rfl, sa, ba⟩; have SA := Lib.hid sa; have WA := Lib.hid (trans_below W0.out ba); have la : na ≤ 40 := (by { have h1 := sa.len; have h2 := R2.out; dsimp only at h1; omega }); clear sa ba)
            | (go_at_call 11; (with_reducible refine (XT2.out _ _ _ _ SA.out la).mono ?_); rintro e wb ⟨Ab, nb, cb, rfl, sb_, bb⟩; have SB := Lib.hid sb_; have WB := Lib.hid (trans_below WA.out bb); have SA2 := Lib.hid (up_ten SA.out bb); clear sb_ bb)
            | (go_at_call 7; (with_reducible refine (XP2.out _ _ _ _ SB.out).mono ?_); rintro e wc ⟨Ac, nc, cc, rfl, sc, bc⟩; have SC := Lib.hid sc; have WC := Lib.hid (trans_below WB.out bc); have SA3 := Lib.hid (up_ten SA2.out bc); clear sc bc)
            | (go_at_call 15; (with_reducible refine (SM.out _ _ _ _ _ _ _ _ _ SA3.out SC.out).mono ?_); rintro e we ⟨rfl, be⟩; have WE := Lib.hid (trans_below WC.out be); clear be))
          go_ret
          exact ⟨rfl, WE.out⟩
end Go.Proofs.Ytkfhjmoocnhekaa
