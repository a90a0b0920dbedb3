/- The walk of TextFirst. -/
import Derived.Test.YtcpakmkfnnbgeaaGreatDoorTxWorks
import Derived.Test.YtcpakmkfnnbgeaaGreatDoorTxLaw
namespace Go.Proofs.YtcpakmkfnnbgeaaGreatDoor
open Go.RowKit
open Go.Lib (byteCells)

theorem txV_err {b : List UInt8} (h : (txV b).2.1 ≠ 3) : rwE b = 0 := by
  unfold txV at h
  by_cases e : rwE b = 0
  · exact e
  · rw [if_neg e] at h
    have : rwE b = 3 := by
      unfold rwE at e ⊢
      by_cases g : 20000 < b.length
      · rw [if_pos g]
      · rw [if_neg g] at e ⊢
        by_cases g2 : 400 < (rwF b).length
        · rw [if_pos g2]
        · rw [if_neg g2] at e; exact absurd rfl e
    exact absurd this h
theorem txLs_len : ∀ (R : List (List UInt8)) (i : Nat), (txLs R i).length ≤ R.length
  | [], _ => Nat.le_refl _
  | r :: rs, i => by
    have := txLs_len rs (i + 1)
    rw [txLs, List.length_append, List.length_cons]
    unfold roL
    by_cases h : roW r = []
    · rw [if_pos h, List.length_nil]; omega
    · rw [if_neg h, List.length_singleton]; omega
theorem txV_len (b : List UInt8) : (txV b).2.2.length ≤ 400 := by
  by_cases h : rwE b = 0
  · rw [txV_eq h]
    cases txX (rwF b) with
    | some x => simp
    | none =>
      have h1 := txLs_len (rwF b) 0
      have h2 := (rwE_zero h).2
      show (txLs (rwF b) 0).length ≤ 400
      omega
  · unfold txV
    rw [if_neg h]
    simp

set_option maxRecDepth 20000 in
theorem tfirst_big (A : Option Addr) (n c : Nat) (B : Option Addr) (m d : Nat) (w : World) (hl : LdT w) (h : 3000 < n ∨ 3000 < m) :
    Calls Tryz.prog 6 #[.slice A n c, .slice B m d] w fun e w' => e = .returned (.bool true) ∧ Below w.heap.size w w' := by
  have HL := Lib.hid hl
  clear hl
  by_cases h1 : 3000 < n
  · have i0 : (3000 : Int) < (n : Int) := by omega
    clear h h1
    go_enter Tryz.func6, Tryz.ntmps6
    go_wp2_with (go_at_call 7; (with_reducible refine (works12_any _ HL.out).mono ?_); rintro e w0 ⟨rfl, b0⟩)
    go_ret
    exact ⟨rfl, b0⟩
  · have i0 : ¬ (3000 : Int) < (n : Int) := by omega
    have i1 : (3000 : Int) < (m : Int) := by omega
    clear h h1
    go_enter Tryz.func6, Tryz.ntmps6
    go_wp2_with (go_at_call 7; (with_reducible refine (works12_any _ HL.out).mono ?_); rintro e w0 ⟨rfl, b0⟩)
    go_ret
    exact ⟨rfl, b0⟩

set_option maxRecDepth 20000 in
set_option maxHeartbeats 4000000 in
theorem tfirst_a (A : Option Addr) (n c : Nat) (B : Option Addr) (m d : Nat) (la lb : List UInt8) (w : World) (hA : BSl w A n c la) (hB : BSl w B m d lb) (hl : LdT w) (hn : n ≤ 3000) (hm : m ≤ 3000)
    (ra ea rb eb rc ec : Int) (xa xb xc : List LV) (ta : txV la = (ra, ea, xa)) (tb : txV lb = (rb, eb, xb)) (tc : txV (la ++ 10 :: lb) = (rc, ec, xc)) (h : ea = 3) :
    Calls Tryz.prog 6 #[.slice A n c, .slice B m d] w fun e w' => e = .returned (.bool true) ∧ Below w.heap.size w w' := by
  obtain ⟨i0, hi, hz0, hz1, hz2⟩ := info_parts Tryz.info5
  have Hi := Lib.hid hi; have Hz0 := Lib.hid hz0; have Hz1 := Lib.hid hz1; have Hz2 := Lib.hid hz2
  clear hi hz0 hz1 hz2
  have HL := Lib.hid hl
  have HA := Lib.hid hA
  have HB := Lib.hid hB
  have RA := fun w h hl => xtext_any A n c la w h hl
  have RB := fun w h hl => xtext_any B m d lb w h hl
  have RC := fun w A c h hl => xtext_any A (n + 1 + m) c (la ++ 10 :: lb) w h hl
  rw [ta] at RA
  rw [tb] at RB
  rw [tc] at RC
  have la400 : xa.length ≤ 400 := by have := txV_len la; rw [ta] at this; exact this
  have lb400 : xb.length ≤ 400 := by have := txV_len lb; rw [tb] at this; exact this
  obtain ⟨na, hna⟩ : ∃ na, xa.length = na := ⟨_, rfl⟩
  obtain ⟨nb, hnb⟩ : ∃ nb, xb.length = nb := ⟨_, rfl⟩
  have NA := Lib.hid hna
  have NB := Lib.hid hnb
  rw [hna] at la400
  rw [hnb] at lb400
  have RA := Lib.hid RA
  have RB := Lib.hid RB
  have RC := Lib.hid RC
  have CC := Lib.hid (fun (w : World) (A : Option Addr) (c B : Nat) (h : w.ownsRow B 5 1 (.slice A (n + 1 + m) c) (n + 1 + m) (byteCells la ++ byteCells [u8 10] ++ byteCells lb)) => show BSl w A (n + 1 + m) c (la ++ 10 :: lb) from BSl.of_own (by rw [← bcells_app, ← bcells_app, List.append_assoc] at h; exact h))
  have j0 : ¬ (3000 : Int) < (n : Int) := by omega
  have j1 : ¬ (3000 : Int) < (m : Int) := by omega
  have an := hA.cap
  have bn := hB.cap
  have an2 := hA.le
  have bn2 := hB.le
  subst h
  clear hA hB hl ta tb tc hna hnb
  go_enter Tryz.func6, Tryz.ntmps6
  go_wp2_with (first
    | (go_at_call 7; (with_reducible refine (works12_any _ HL.out).mono ?_); rintro e w0 ⟨rfl, b0⟩; have B0 := Lib.hid b0; have HA0 := Lib.hid (HA.out.below b0); have HB0 := Lib.hid (HB.out.below b0); have HL0 := Lib.hid (HL.out.below b0); clear b0)
    | (go_at_call 8; (with_reducible refine (RA.out _ HA0.out HL0.out).mono ?_); rintro e w1 ⟨A1, n1, c1, rfl, s1, b1⟩; obtain rfl : n1 = na := by { rw [← s1.len, NA.out] }; have B1 := Lib.hid (trans_below B0.out b1); have S1 := Lib.hid s1; have HB1 := Lib.hid (HB0.out.below b1); have HA1 := Lib.hid (HA0.out.below b1); have HL1 := Lib.hid (HL0.out.below b1); clear s1 b1)
    | (go_at_call 8; (with_reducible refine (RB.out _ HB1.out HL1.out).mono ?_); rintro e w2 ⟨A2, n2, c2, rfl, s2, b2⟩; obtain rfl : n2 = nb := by { rw [← s2.len, NB.out] }; have B2 := Lib.hid (trans_below B1.out b2); have S2 := Lib.hid s2; have S1b := Lib.hid (S1.out.keep (F' := allB w2) (fun b hb => b2.block b hb) (fun b hb => Nat.lt_of_lt_of_le hb b2.size)); have HB2 := Lib.hid (HB1.out.below b2); have HA2 := Lib.hid (HA1.out.below b2); have HL2 := Lib.hid (HL1.out.below b2); clear s2 b2)
    | (at_builtin; (with_reducible refine wpList_bapp rfl (.tmp 37) (.tmp 38) 22 rfl w2.heap.size 5 i0 (.int .u8 0) 1 Tryz.underlying22 Hi.out Hz0.out Hz1.out Hz2.out ?hzs _ _ _ ?hs (own_new w2 w2.heap.size (Nat.le_refl _)) A n c la ?hx (HA2.out.alloc _) ?h1 ?h2 ?h3 ?_); (case hzs => rfl); (case hs => rfl); (case hx => rfl); (case h1 => (unfold maxLen; omega)); (case h2 => omega); (case h3 => (simp)); intro v3 w3 hown3 hgrow3; simp only [Nat.zero_add, List.nil_append] at hown3; have K3 := Lib.hid (((Below.refl w2.heap.size w2).alloc (Nat.le_refl _) _).grown hgrow3 (by simp) (fun k hk => ((own_new w2 w2.heap.size (Nat.le_refl _)).lt k hk).1)); have O3 := Lib.hid hown3; clear hown3 hgrow3)
    | (at_builtin; (with_reducible refine wpList_bapp rfl (.tmp 39) (.tmp 40) 22 rfl w2.heap.size 5 i0 (.int .u8 0) 1 Tryz.underlying22 Hi.out Hz0.out Hz1.out Hz2.out ?hzs _ _ _ ?hs (O3.out.alloc _) (some ⟨w3.heap.size, 0, none⟩) 1 1 [u8 10] ?hx (bsl_one w3 10 (0, 0) ⟨by decide, by decide⟩) ?h1 ?h2 ?h3 ?_); (case hzs => rfl); (case hs => rfl); (case hx => rfl); (case h1 => (unfold maxLen; omega)); (case h2 => omega); (case h3 => (have := K3.out.size; simp; omega)); intro v4 w4 hown4 hgrow4; have K4 := Lib.hid ((K3.out.alloc K3.out.size _).grown hgrow4 (by { have := K3.out.size; simp; omega }) (fun k hk => ((O3.out.alloc (.cells #[] 0)).lt k hk).1)); have O4 := Lib.hid hown4; clear hown4 hgrow4)
    | (at_builtin; (with_reducible refine wpList_bapp rfl (.tmp 41) (.tmp 42) 22 rfl w2.heap.size 5 i0 (.int .u8 0) 1 Tryz.underlying22 Hi.out Hz0.out Hz1.out Hz2.out ?hzs _ _ _ ?hs O4.out B m d lb ?hx (HB2.out.below K4.out) ?h1 ?h2 ?h3 ?_); (case hzs => rfl); (case hs => rfl); (case hx => rfl); (case h1 => (unfold maxLen; omega)); (case h2 => omega); (case h3 => exact K4.out.size); intro v5 w5 hown5 hgrow5; have K5 := Lib.hid (K4.out.grown hgrow5 K4.out.size (fun k hk => (O4.out.lt k hk).1)); obtain ⟨A5, c5, rfl⟩ := own_shape hown5; have O5 := Lib.hid (CC.out w5 A5 c5 w2.heap.size hown5); clear hown5 hgrow5)
    | (go_at_call 8; (with_reducible refine (RC.out _ _ _ O5.out (HL2.out.below K5.out)).mono ?_); rintro e w6 ⟨A6, n6, c6, rfl, s6, b6⟩; have K6 := Lib.hid (trans_below K5.out b6); have B6 := Lib.hid (trans_below B2.out K6.out); have S6 := Lib.hid s6; have S1c := Lib.hid (S1b.out.keep (F' := allB w6) (fun b hb => K6.out.block b hb) (fun b hb => Nat.lt_of_lt_of_le hb K6.out.size)); have S2c := Lib.hid (S2.out.keep (F' := allB w6) (fun b hb => K6.out.block b hb) (fun b hb => Nat.lt_of_lt_of_le hb K6.out.size)); clear s6 b6))
  go_ret
  exact ⟨rfl, B6.out⟩
set_option maxRecDepth 20000 in
set_option maxHeartbeats 4000000 in
theorem tfirst_b (A : Option Addr) (n c : Nat) (B : Option Addr) (m d : Nat) (la lb : List UInt8) (w : World) (hA : BSl w A n c la) (hB : BSl w B m d lb) (hl : LdT w) (hn : n ≤ 3000) (hm : m ≤ 3000)
    (ra ea rb eb rc ec : Int) (xa xb xc : List LV) (ta : txV la = (ra, ea, xa)) (tb : txV lb = (rb, eb, xb)) (tc : txV (la ++ 10 :: lb) = (rc, ec, xc)) (h0 : ¬ ea = 3) (h : eb = 3) :
    Calls Tryz.prog 6 #[.slice A n c, .slice B m d] w fun e w' => e = .returned (.bool true) ∧ Below w.heap.size w w' := by
  obtain ⟨i0, hi, hz0, hz1, hz2⟩ := info_parts Tryz.info5
  have Hi := Lib.hid hi; have Hz0 := Lib.hid hz0; have Hz1 := Lib.hid hz1; have Hz2 := Lib.hid hz2
  clear hi hz0 hz1 hz2
  have HL := Lib.hid hl
  have HA := Lib.hid hA
  have HB := Lib.hid hB
  have RA := fun w h hl => xtext_any A n c la w h hl
  have RB := fun w h hl => xtext_any B m d lb w h hl
  have RC := fun w A c h hl => xtext_any A (n + 1 + m) c (la ++ 10 :: lb) w h hl
  rw [ta] at RA
  rw [tb] at RB
  rw [tc] at RC
  have la400 : xa.length ≤ 400 := by have := txV_len la; rw [ta] at this; exact this
  have lb400 : xb.length ≤ 400 := by have := txV_len lb; rw [tb] at this; exact this
  obtain ⟨na, hna⟩ : ∃ na, xa.length = na := ⟨_, rfl⟩
  obtain ⟨nb, hnb⟩ : ∃ nb, xb.length = nb := ⟨_, rfl⟩
  have NA := Lib.hid hna
  have NB := Lib.hid hnb
  rw [hna] at la400
  rw [hnb] at lb400
  have RA := Lib.hid RA
  have RB := Lib.hid RB
  have RC := Lib.hid RC
  have CC := Lib.hid (fun (w : World) (A : Option Addr) (c B : Nat) (h : w.ownsRow B 5 1 (.slice A (n + 1 + m) c) (n + 1 + m) (byteCells la ++ byteCells [u8 10] ++ byteCells lb)) => show BSl w A (n + 1 + m) c (la ++ 10 :: lb) from BSl.of_own (by rw [← bcells_app, ← bcells_app, List.append_assoc] at h; exact h))
  have j0 : ¬ (3000 : Int) < (n : Int) := by omega
  have j1 : ¬ (3000 : Int) < (m : Int) := by omega
  have an := hA.cap
  have bn := hB.cap
  have an2 := hA.le
  have bn2 := hB.le
  subst h
  have f0 : (ea == 3) = false := by simpa using h0
  clear hA hB hl ta tb tc hna hnb
  go_enter Tryz.func6, Tryz.ntmps6
  go_wp2_with (first
    | (go_at_call 7; (with_reducible refine (works12_any _ HL.out).mono ?_); rintro e w0 ⟨rfl, b0⟩; have B0 := Lib.hid b0; have HA0 := Lib.hid (HA.out.below b0); have HB0 := Lib.hid (HB.out.below b0); have HL0 := Lib.hid (HL.out.below b0); clear b0)
    | (go_at_call 8; (with_reducible refine (RA.out _ HA0.out HL0.out).mono ?_); rintro e w1 ⟨A1, n1, c1, rfl, s1, b1⟩; obtain rfl : n1 = na := by { rw [← s1.len, NA.out] }; have B1 := Lib.hid (trans_below B0.out b1); have S1 := Lib.hid s1; have HB1 := Lib.hid (HB0.out.below b1); have HA1 := Lib.hid (HA0.out.below b1); have HL1 := Lib.hid (HL0.out.below b1); clear s1 b1)
    | (go_at_call 8; (with_reducible refine (RB.out _ HB1.out HL1.out).mono ?_); rintro e w2 ⟨A2, n2, c2, rfl, s2, b2⟩; obtain rfl : n2 = nb := by { rw [← s2.len, NB.out] }; have B2 := Lib.hid (trans_below B1.out b2); have S2 := Lib.hid s2; have S1b := Lib.hid (S1.out.keep (F' := allB w2) (fun b hb => b2.block b hb) (fun b hb => Nat.lt_of_lt_of_le hb b2.size)); have HB2 := Lib.hid (HB1.out.below b2); have HA2 := Lib.hid (HA1.out.below b2); have HL2 := Lib.hid (HL1.out.below b2); clear s2 b2)
    | (at_builtin; (with_reducible refine wpList_bapp rfl (.tmp 37) (.tmp 38) 22 rfl w2.heap.size 5 i0 (.int .u8 0) 1 Tryz.underlying22 Hi.out Hz0.out Hz1.out Hz2.out ?hzs _ _ _ ?hs (own_new w2 w2.heap.size (Nat.le_refl _)) A n c la ?hx (HA2.out.alloc _) ?h1 ?h2 ?h3 ?_); (case hzs => rfl); (case hs => rfl); (case hx => rfl); (case h1 => (unfold maxLen; omega)); (case h2 => omega); (case h3 => (simp)); intro v3 w3 hown3 hgrow3; simp only [Nat.zero_add, List.nil_append] at hown3; have K3 := Lib.hid (((Below.refl w2.heap.size w2).alloc (Nat.le_refl _) _).grown hgrow3 (by simp) (fun k hk => ((own_new w2 w2.heap.size (Nat.le_refl _)).lt k hk).1)); have O3 := Lib.hid hown3; clear hown3 hgrow3)
    | (at_builtin; (with_reducible refine wpList_bapp rfl (.tmp 39) (.tmp 40) 22 rfl w2.heap.size 5 i0 (.int .u8 0) 1 Tryz.underlying22 Hi.out Hz0.out Hz1.out Hz2.out ?hzs _ _ _ ?hs (O3.out.alloc _) (some ⟨w3.heap.size, 0, none⟩) 1 1 [u8 10] ?hx (bsl_one w3 10 (0, 0) ⟨by decide, by decide⟩) ?h1 ?h2 ?h3 ?_); (case hzs => rfl); (case hs => rfl); (case hx => rfl); (case h1 => (unfold maxLen; omega)); (case h2 => omega); (case h3 => (have := K3.out.size; simp; omega)); intro v4 w4 hown4 hgrow4; have K4 := Lib.hid ((K3.out.alloc K3.out.size _).grown hgrow4 (by { have := K3.out.size; simp; omega }) (fun k hk => ((O3.out.alloc (.cells #[] 0)).lt k hk).1)); have O4 := Lib.hid hown4; clear hown4 hgrow4)
    | (at_builtin; (with_reducible refine wpList_bapp rfl (.tmp 41) (.tmp 42) 22 rfl w2.heap.size 5 i0 (.int .u8 0) 1 Tryz.underlying22 Hi.out Hz0.out Hz1.out Hz2.out ?hzs _ _ _ ?hs O4.out B m d lb ?hx (HB2.out.below K4.out) ?h1 ?h2 ?h3 ?_); (case hzs => rfl); (case hs => rfl); (case hx => rfl); (case h1 => (unfold maxLen; omega)); (case h2 => omega); (case h3 => exact K4.out.size); intro v5 w5 hown5 hgrow5; have K5 := Lib.hid (K4.out.grown hgrow5 K4.out.size (fun k hk => (O4.out.lt k hk).1)); obtain ⟨A5, c5, rfl⟩ := own_shape hown5; have O5 := Lib.hid (CC.out w5 A5 c5 w2.heap.size hown5); clear hown5 hgrow5)
    | (go_at_call 8; (with_reducible refine (RC.out _ _ _ O5.out (HL2.out.below K5.out)).mono ?_); rintro e w6 ⟨A6, n6, c6, rfl, s6, b6⟩; have K6 := Lib.hid (trans_below K5.out b6); have B6 := Lib.hid (trans_below B2.out K6.out); have S6 := Lib.hid s6; have S1c := Lib.hid (S1b.out.keep (F' := allB w6) (fun b hb => K6.out.block b hb) (fun b hb => Nat.lt_of_lt_of_le hb K6.out.size)); have S2c := Lib.hid (S2.out.keep (F' := allB w6) (fun b hb => K6.out.block b hb) (fun b hb => Nat.lt_of_lt_of_le hb K6.out.size)); clear s6 b6))
  go_ret
  exact ⟨rfl, B6.out⟩
set_option maxRecDepth 20000 in
set_option maxHeartbeats 4000000 in
theorem tfirst_c (A : Option Addr) (n c : Nat) (B : Option Addr) (m d : Nat) (la lb : List UInt8) (w : World) (hA : BSl w A n c la) (hB : BSl w B m d lb) (hl : LdT w) (hn : n ≤ 3000) (hm : m ≤ 3000)
    (ra ea rb eb rc ec : Int) (xa xb xc : List LV) (ta : txV la = (ra, ea, xa)) (tb : txV lb = (rb, eb, xb)) (tc : txV (la ++ 10 :: lb) = (rc, ec, xc)) (h0 : ¬ ea = 3) (h1 : ¬ eb = 3) (h : ec = 3) :
    Calls Tryz.prog 6 #[.slice A n c, .slice B m d] w fun e w' => e = .returned (.bool true) ∧ Below w.heap.size w w' := by
  obtain ⟨i0, hi, hz0, hz1, hz2⟩ := info_parts Tryz.info5
  have Hi := Lib.hid hi; have Hz0 := Lib.hid hz0; have Hz1 := Lib.hid hz1; have Hz2 := Lib.hid hz2
  clear hi hz0 hz1 hz2
  have HL := Lib.hid hl
  have HA := Lib.hid hA
  have HB := Lib.hid hB
  have RA := fun w h hl => xtext_any A n c la w h hl
  have RB := fun w h hl => xtext_any B m d lb w h hl
  have RC := fun w A c h hl => xtext_any A (n + 1 + m) c (la ++ 10 :: lb) w h hl
  rw [ta] at RA
  rw [tb] at RB
  rw [tc] at RC
  have la400 : xa.length ≤ 400 := by have := txV_len la; rw [ta] at this; exact this
  have lb400 : xb.length ≤ 400 := by have := txV_len lb; rw [tb] at this; exact this
  obtain ⟨na, hna⟩ : ∃ na, xa.length = na := ⟨_, rfl⟩
  obtain ⟨nb, hnb⟩ : ∃ nb, xb.length = nb := ⟨_, rfl⟩
  have NA := Lib.hid hna
  have NB := Lib.hid hnb
  rw [hna] at la400
  rw [hnb] at lb400
  have RA := Lib.hid RA
  have RB := Lib.hid RB
  have RC := Lib.hid RC
  have CC := Lib.hid (fun (w : World) (A : Option Addr) (c B : Nat) (h : w.ownsRow B 5 1 (.slice A (n + 1 + m) c) (n + 1 + m) (byteCells la ++ byteCells [u8 10] ++ byteCells lb)) => show BSl w A (n + 1 + m) c (la ++ 10 :: lb) from BSl.of_own (by rw [← bcells_app, ← bcells_app, List.append_assoc] at h; exact h))
  have j0 : ¬ (3000 : Int) < (n : Int) := by omega
  have j1 : ¬ (3000 : Int) < (m : Int) := by omega
  have an := hA.cap
  have bn := hB.cap
  have an2 := hA.le
  have bn2 := hB.le
  subst h
  have f0 : (ea == 3) = false := by simpa using h0
  have f1 : (eb == 3) = false := by simpa using h1
  clear hA hB hl ta tb tc hna hnb
  go_enter Tryz.func6, Tryz.ntmps6
  go_wp2_with (first
    | (go_at_call 7; (with_reducible refine (works12_any _ HL.out).mono ?_); rintro e w0 ⟨rfl, b0⟩; have B0 := Lib.hid b0; have HA0 := Lib.hid (HA.out.below b0); have HB0 := Lib.hid (HB.out.below b0); have HL0 := Lib.hid (HL.out.below b0); clear b0)
    | (go_at_call 8; (with_reducible refine (RA.out _ HA0.out HL0.out).mono ?_); rintro e w1 ⟨A1, n1, c1, rfl, s1, b1⟩; obtain rfl : n1 = na := by { rw [← s1.len, NA.out] }; have B1 := Lib.hid (trans_below B0.out b1); have S1 := Lib.hid s1; have HB1 := Lib.hid (HB0.out.below b1); have HA1 := Lib.hid (HA0.out.below b1); have HL1 := Lib.hid (HL0.out.below b1); clear s1 b1)
    | (go_at_call 8; (with_reducible refine (RB.out _ HB1.out HL1.out).mono ?_); rintro e w2 ⟨A2, n2, c2, rfl, s2, b2⟩; obtain rfl : n2 = nb := by { rw [← s2.len, NB.out] }; have B2 := Lib.hid (trans_below B1.out b2); have S2 := Lib.hid s2; have S1b := Lib.hid (S1.out.keep (F' := allB w2) (fun b hb => b2.block b hb) (fun b hb => Nat.lt_of_lt_of_le hb b2.size)); have HB2 := Lib.hid (HB1.out.below b2); have HA2 := Lib.hid (HA1.out.below b2); have HL2 := Lib.hid (HL1.out.below b2); clear s2 b2)
    | (at_builtin; (with_reducible refine wpList_bapp rfl (.tmp 37) (.tmp 38) 22 rfl w2.heap.size 5 i0 (.int .u8 0) 1 Tryz.underlying22 Hi.out Hz0.out Hz1.out Hz2.out ?hzs _ _ _ ?hs (own_new w2 w2.heap.size (Nat.le_refl _)) A n c la ?hx (HA2.out.alloc _) ?h1 ?h2 ?h3 ?_); (case hzs => rfl); (case hs => rfl); (case hx => rfl); (case h1 => (unfold maxLen; omega)); (case h2 => omega); (case h3 => (simp)); intro v3 w3 hown3 hgrow3; simp only [Nat.zero_add, List.nil_append] at hown3; have K3 := Lib.hid (((Below.refl w2.heap.size w2).alloc (Nat.le_refl _) _).grown hgrow3 (by simp) (fun k hk => ((own_new w2 w2.heap.size (Nat.le_refl _)).lt k hk).1)); have O3 := Lib.hid hown3; clear hown3 hgrow3)
    | (at_builtin; (with_reducible refine wpList_bapp rfl (.tmp 39) (.tmp 40) 22 rfl w2.heap.size 5 i0 (.int .u8 0) 1 Tryz.underlying22 Hi.out Hz0.out Hz1.out Hz2.out ?hzs _ _ _ ?hs (O3.out.alloc _) (some ⟨w3.heap.size, 0, none⟩) 1 1 [u8 10] ?hx (bsl_one w3 10 (0, 0) ⟨by decide, by decide⟩) ?h1 ?h2 ?h3 ?_); (case hzs => rfl); (case hs => rfl); (case hx => rfl); (case h1 => (unfold maxLen; omega)); (case h2 => omega); (case h3 => (have := K3.out.size; simp; omega)); intro v4 w4 hown4 hgrow4; have K4 := Lib.hid ((K3.out.alloc K3.out.size _).grown hgrow4 (by { have := K3.out.size; simp; omega }) (fun k hk => ((O3.out.alloc (.cells #[] 0)).lt k hk).1)); have O4 := Lib.hid hown4; clear hown4 hgrow4)
    | (at_builtin; (with_reducible refine wpList_bapp rfl (.tmp 41) (.tmp 42) 22 rfl w2.heap.size 5 i0 (.int .u8 0) 1 Tryz.underlying22 Hi.out Hz0.out Hz1.out Hz2.out ?hzs _ _ _ ?hs O4.out B m d lb ?hx (HB2.out.below K4.out) ?h1 ?h2 ?h3 ?_); (case hzs => rfl); (case hs => rfl); (case hx => rfl); (case h1 => (unfold maxLen; omega)); (case h2 => omega); (case h3 => exact K4.out.size); intro v5 w5 hown5 hgrow5; have K5 := Lib.hid (K4.out.grown hgrow5 K4.out.size (fun k hk => (O4.out.lt k hk).1)); obtain ⟨A5, c5, rfl⟩ := own_shape hown5; have O5 := Lib.hid (CC.out w5 A5 c5 w2.heap.size hown5); clear hown5 hgrow5)
    | (go_at_call 8; (with_reducible refine (RC.out _ _ _ O5.out (HL2.out.below K5.out)).mono ?_); rintro e w6 ⟨A6, n6, c6, rfl, s6, b6⟩; have K6 := Lib.hid (trans_below K5.out b6); have B6 := Lib.hid (trans_below B2.out K6.out); have S6 := Lib.hid s6; have S1c := Lib.hid (S1b.out.keep (F' := allB w6) (fun b hb => K6.out.block b hb) (fun b hb => Nat.lt_of_lt_of_le hb K6.out.size)); have S2c := Lib.hid (S2.out.keep (F' := allB w6) (fun b hb => K6.out.block b hb) (fun b hb => Nat.lt_of_lt_of_le hb K6.out.size)); clear s6 b6))
  go_ret
  exact ⟨rfl, B6.out⟩
set_option maxRecDepth 20000 in
set_option maxHeartbeats 4000000 in
theorem tfirst_d (A : Option Addr) (n c : Nat) (B : Option Addr) (m d : Nat) (la lb : List UInt8) (w : World) (hA : BSl w A n c la) (hB : BSl w B m d lb) (hl : LdT w) (hn : n ≤ 3000) (hm : m ≤ 3000)
    (ra ea rb eb rc ec : Int) (xa xb xc : List LV) (ta : txV la = (ra, ea, xa)) (tb : txV lb = (rb, eb, xb)) (tc : txV (la ++ 10 :: lb) = (rc, ec, xc)) (h0 : ¬ ea = 3) (h1 : ¬ eb = 3) (h : ea ≠ 0) (g : ec = ea) (g2 : rc = ra) :
    Calls Tryz.prog 6 #[.slice A n c, .slice B m d] w fun e w' => e = .returned (.bool true) ∧ Below w.heap.size w w' := by
  obtain ⟨i0, hi, hz0, hz1, hz2⟩ := info_parts Tryz.info5
  have Hi := Lib.hid hi; have Hz0 := Lib.hid hz0; have Hz1 := Lib.hid hz1; have Hz2 := Lib.hid hz2
  clear hi hz0 hz1 hz2
  have HL := Lib.hid hl
  have HA := Lib.hid hA
  have HB := Lib.hid hB
  have RA := fun w h hl => xtext_any A n c la w h hl
  have RB := fun w h hl => xtext_any B m d lb w h hl
  have RC := fun w A c h hl => xtext_any A (n + 1 + m) c (la ++ 10 :: lb) w h hl
  rw [ta] at RA
  rw [tb] at RB
  rw [tc] at RC
  have la400 : xa.length ≤ 400 := by have := txV_len la; rw [ta] at this; exact this
  have lb400 : xb.length ≤ 400 := by have := txV_len lb; rw [tb] at this; exact this
  obtain ⟨na, hna⟩ : ∃ na, xa.length = na := ⟨_, rfl⟩
  obtain ⟨nb, hnb⟩ : ∃ nb, xb.length = nb := ⟨_, rfl⟩
  have NA := Lib.hid hna
  have NB := Lib.hid hnb
  rw [hna] at la400
  rw [hnb] at lb400
  have RA := Lib.hid RA
  have RB := Lib.hid RB
  have RC := Lib.hid RC
  have CC := Lib.hid (fun (w : World) (A : Option Addr) (c B : Nat) (h : w.ownsRow B 5 1 (.slice A (n + 1 + m) c) (n + 1 + m) (byteCells la ++ byteCells [u8 10] ++ byteCells lb)) => show BSl w A (n + 1 + m) c (la ++ 10 :: lb) from BSl.of_own (by rw [← bcells_app, ← bcells_app, List.append_assoc] at h; exact h))
  have j0 : ¬ (3000 : Int) < (n : Int) := by omega
  have j1 : ¬ (3000 : Int) < (m : Int) := by omega
  have an := hA.cap
  have bn := hB.cap
  have an2 := hA.le
  have bn2 := hB.le
  subst g g2
  have f0 : (ec == 3) = false := by simpa using h0
  have f1 : (eb == 3) = false := by simpa using h1
  have f3 : (ec != 0) = true := by simpa using h
  clear hA hB hl ta tb tc hna hnb
  go_enter Tryz.func6, Tryz.ntmps6
  go_wp2_with (first
    | (go_at_call 7; (with_reducible refine (works12_any _ HL.out).mono ?_); rintro e w0 ⟨rfl, b0⟩; have B0 := Lib.hid b0; have HA0 := Lib.hid (HA.out.below b0); have HB0 := Lib.hid (HB.out.below b0); have HL0 := Lib.hid (HL.out.below b0); clear b0)
    | (go_at_call 8; (with_reducible refine (RA.out _ HA0.out HL0.out).mono ?_); rintro e w1 ⟨A1, n1, c1, rfl, s1, b1⟩; obtain rfl : n1 = na := by { rw [← s1.len, NA.out] }; have B1 := Lib.hid (trans_below B0.out b1); have S1 := Lib.hid s1; have HB1 := Lib.hid (HB0.out.below b1); have HA1 := Lib.hid (HA0.out.below b1); have HL1 := Lib.hid (HL0.out.below b1); clear s1 b1)
    | (go_at_call 8; (with_reducible refine (RB.out _ HB1.out HL1.out).mono ?_); rintro e w2 ⟨A2, n2, c2, rfl, s2, b2⟩; obtain rfl : n2 = nb := by { rw [← s2.len, NB.out] }; have B2 := Lib.hid (trans_below B1.out b2); have S2 := Lib.hid s2; have S1b := Lib.hid (S1.out.keep (F' := allB w2) (fun b hb => b2.block b hb) (fun b hb => Nat.lt_of_lt_of_le hb b2.size)); have HB2 := Lib.hid (HB1.out.below b2); have HA2 := Lib.hid (HA1.out.below b2); have HL2 := Lib.hid (HL1.out.below b2); clear s2 b2)
    | (at_builtin; (with_reducible refine wpList_bapp rfl (.tmp 37) (.tmp 38) 22 rfl w2.heap.size 5 i0 (.int .u8 0) 1 Tryz.underlying22 Hi.out Hz0.out Hz1.out Hz2.out ?hzs _ _ _ ?hs (own_new w2 w2.heap.size (Nat.le_refl _)) A n c la ?hx (HA2.out.alloc _) ?h1 ?h2 ?h3 ?_); (case hzs => rfl); (case hs => rfl); (case hx => rfl); (case h1 => (unfold maxLen; omega)); (case h2 => omega); (case h3 => (simp)); intro v3 w3 hown3 hgrow3; simp only [Nat.zero_add, List.nil_append] at hown3; have K3 := Lib.hid (((Below.refl w2.heap.size w2).alloc (Nat.le_refl _) _).grown hgrow3 (by simp) (fun k hk => ((own_new w2 w2.heap.size (Nat.le_refl _)).lt k hk).1)); have O3 := Lib.hid hown3; clear hown3 hgrow3)
    | (at_builtin; (with_reducible refine wpList_bapp rfl (.tmp 39) (.tmp 40) 22 rfl w2.heap.size 5 i0 (.int .u8 0) 1 Tryz.underlying22 Hi.out Hz0.out Hz1.out Hz2.out ?hzs _ _ _ ?hs (O3.out.alloc _) (some ⟨w3.heap.size, 0, none⟩) 1 1 [u8 10] ?hx (bsl_one w3 10 (0, 0) ⟨by decide, by decide⟩) ?h1 ?h2 ?h3 ?_); (case hzs => rfl); (case hs => rfl); (case hx => rfl); (case h1 => (unfold maxLen; omega)); (case h2 => omega); (case h3 => (have := K3.out.size; simp; omega)); intro v4 w4 hown4 hgrow4; have K4 := Lib.hid ((K3.out.alloc K3.out.size _).grown hgrow4 (by { have := K3.out.size; simp; omega }) (fun k hk => ((O3.out.alloc (.cells #[] 0)).lt k hk).1)); have O4 := Lib.hid hown4; clear hown4 hgrow4)
    | (at_builtin; (with_reducible refine wpList_bapp rfl (.tmp 41) (.tmp 42) 22 rfl w2.heap.size 5 i0 (.int .u8 0) 1 Tryz.underlying22 Hi.out Hz0.out Hz1.out Hz2.out ?hzs _ _ _ ?hs O4.out B m d lb ?hx (HB2.out.below K4.out) ?h1 ?h2 ?h3 ?_); (case hzs => rfl); (case hs => rfl); (case hx => rfl); (case h1 => (unfold maxLen; omega)); (case h2 => omega); (case h3 => exact K4.out.size); intro v5 w5 hown5 hgrow5; have K5 := Lib.hid (K4.out.grown hgrow5 K4.out.size (fun k hk => (O4.out.lt k hk).1)); obtain ⟨A5, c5, rfl⟩ := own_shape hown5; have O5 := Lib.hid (CC.out w5 A5 c5 w2.heap.size hown5); clear hown5 hgrow5)
    | (go_at_call 8; (with_reducible refine (RC.out _ _ _ O5.out (HL2.out.below K5.out)).mono ?_); rintro e w6 ⟨A6, n6, c6, rfl, s6, b6⟩; have K6 := Lib.hid (trans_below K5.out b6); have B6 := Lib.hid (trans_below B2.out K6.out); have S6 := Lib.hid s6; have S1c := Lib.hid (S1b.out.keep (F' := allB w6) (fun b hb => K6.out.block b hb) (fun b hb => Nat.lt_of_lt_of_le hb K6.out.size)); have S2c := Lib.hid (S2.out.keep (F' := allB w6) (fun b hb => K6.out.block b hb) (fun b hb => Nat.lt_of_lt_of_le hb K6.out.size)); clear s6 b6))
  go_ret
  exact ⟨by simp, B6.out⟩
set_option maxRecDepth 20000 in
set_option maxHeartbeats 4000000 in
theorem tfirst_e (A : Option Addr) (n c : Nat) (B : Option Addr) (m d : Nat) (la lb : List UInt8) (w : World) (hA : BSl w A n c la) (hB : BSl w B m d lb) (hl : LdT w) (hn : n ≤ 3000) (hm : m ≤ 3000)
    (ra ea rb eb rc ec : Int) (xa xb xc : List LV) (ta : txV la = (ra, ea, xa)) (tb : txV lb = (rb, eb, xb)) (tc : txV (la ++ 10 :: lb) = (rc, ec, xc)) (h0 : ¬ ea = 3) (h1 : ¬ eb = 3) (h : ea = 0) (hb : eb ≠ 0) (g : ec = eb) (g2 : 0 < rc) :
    Calls Tryz.prog 6 #[.slice A n c, .slice B m d] w fun e w' => e = .returned (.bool true) ∧ Below w.heap.size w w' := by
  obtain ⟨i0, hi, hz0, hz1, hz2⟩ := info_parts Tryz.info5
  have Hi := Lib.hid hi; have Hz0 := Lib.hid hz0; have Hz1 := Lib.hid hz1; have Hz2 := Lib.hid hz2
  clear hi hz0 hz1 hz2
  have HL := Lib.hid hl
  have HA := Lib.hid hA
  have HB := Lib.hid hB
  have RA := fun w h hl => xtext_any A n c la w h hl
  have RB := fun w h hl => xtext_any B m d lb w h hl
  have RC := fun w A c h hl => xtext_any A (n + 1 + m) c (la ++ 10 :: lb) w h hl
  rw [ta] at RA
  rw [tb] at RB
  rw [tc] at RC
  have la400 : xa.length ≤ 400 := by have := txV_len la; rw [ta] at this; exact this
  have lb400 : xb.length ≤ 400 := by have := txV_len lb; rw [tb] at this; exact this
  obtain ⟨na, hna⟩ : ∃ na, xa.length = na := ⟨_, rfl⟩
  obtain ⟨nb, hnb⟩ : ∃ nb, xb.length = nb := ⟨_, rfl⟩
  have NA := Lib.hid hna
  have NB := Lib.hid hnb
  rw [hna] at la400
  rw [hnb] at lb400
  have RA := Lib.hid RA
  have RB := Lib.hid RB
  have RC := Lib.hid RC
  have CC := Lib.hid (fun (w : World) (A : Option Addr) (c B : Nat) (h : w.ownsRow B 5 1 (.slice A (n + 1 + m) c) (n + 1 + m) (byteCells la ++ byteCells [u8 10] ++ byteCells lb)) => show BSl w A (n + 1 + m) c (la ++ 10 :: lb) from BSl.of_own (by rw [← bcells_app, ← bcells_app, List.append_assoc] at h; exact h))
  have j0 : ¬ (3000 : Int) < (n : Int) := by omega
  have j1 : ¬ (3000 : Int) < (m : Int) := by omega
  have an := hA.cap
  have bn := hB.cap
  have an2 := hA.le
  have bn2 := hB.le
  subst g h
  have f1 : (ec == 3) = false := by simpa using h1
  have f3 : (ec != 0) = true := by simpa using hb
  clear hA hB hl ta tb tc hna hnb
  go_enter Tryz.func6, Tryz.ntmps6
  go_wp2_with (first
    | (go_at_call 7; (with_reducible refine (works12_any _ HL.out).mono ?_); rintro e w0 ⟨rfl, b0⟩; have B0 := Lib.hid b0; have HA0 := Lib.hid (HA.out.below b0); have HB0 := Lib.hid (HB.out.below b0); have HL0 := Lib.hid (HL.out.below b0); clear b0)
    | (go_at_call 8; (with_reducible refine (RA.out _ HA0.out HL0.out).mono ?_); rintro e w1 ⟨A1, n1, c1, rfl, s1, b1⟩; obtain rfl : n1 = na := by { rw [← s1.len, NA.out] }; have B1 := Lib.hid (trans_below B0.out b1); have S1 := Lib.hid s1; have HB1 := Lib.hid (HB0.out.below b1); have HA1 := Lib.hid (HA0.out.below b1); have HL1 := Lib.hid (HL0.out.below b1); clear s1 b1)
    | (go_at_call 8; (with_reducible refine (RB.out _ HB1.out HL1.out).mono ?_); rintro e w2 ⟨A2, n2, c2, rfl, s2, b2⟩; obtain rfl : n2 = nb := by { rw [← s2.len, NB.out] }; have B2 := Lib.hid (trans_below B1.out b2); have S2 := Lib.hid s2; have S1b := Lib.hid (S1.out.keep (F' := allB w2) (fun b hb => b2.block b hb) (fun b hb => Nat.lt_of_lt_of_le hb b2.size)); have HB2 := Lib.hid (HB1.out.below b2); have HA2 := Lib.hid (HA1.out.below b2); have HL2 := Lib.hid (HL1.out.below b2); clear s2 b2)
    | (at_builtin; (with_reducible refine wpList_bapp rfl (.tmp 37) (.tmp 38) 22 rfl w2.heap.size 5 i0 (.int .u8 0) 1 Tryz.underlying22 Hi.out Hz0.out Hz1.out Hz2.out ?hzs _ _ _ ?hs (own_new w2 w2.heap.size (Nat.le_refl _)) A n c la ?hx (HA2.out.alloc _) ?h1 ?h2 ?h3 ?_); (case hzs => rfl); (case hs => rfl); (case hx => rfl); (case h1 => (unfold maxLen; omega)); (case h2 => omega); (case h3 => (simp)); intro v3 w3 hown3 hgrow3; simp only [Nat.zero_add, List.nil_append] at hown3; have K3 := Lib.hid (((Below.refl w2.heap.size w2).alloc (Nat.le_refl _) _).grown hgrow3 (by simp) (fun k hk => ((own_new w2 w2.heap.size (Nat.le_refl _)).lt k hk).1)); have O3 := Lib.hid hown3; clear hown3 hgrow3)
    | (at_builtin; (with_reducible refine wpList_bapp rfl (.tmp 39) (.tmp 40) 22 rfl w2.heap.size 5 i0 (.int .u8 0) 1 Tryz.underlying22 Hi.out Hz0.out Hz1.out Hz2.out ?hzs _ _ _ ?hs (O3.out.alloc _) (some ⟨w3.heap.size, 0, none⟩) 1 1 [u8 10] ?hx (bsl_one w3 10 (0, 0) ⟨by decide, by decide⟩) ?h1 ?h2 ?h3 ?_); (case hzs => rfl); (case hs => rfl); (case hx => rfl); (case h1 => (unfold maxLen; omega)); (case h2 => omega); (case h3 => (have := K3.out.size; simp; omega)); intro v4 w4 hown4 hgrow4; have K4 := Lib.hid ((K3.out.alloc K3.out.size _).grown hgrow4 (by { have := K3.out.size; simp; omega }) (fun k hk => ((O3.out.alloc (.cells #[] 0)).lt k hk).1)); have O4 := Lib.hid hown4; clear hown4 hgrow4)
    | (at_builtin; (with_reducible refine wpList_bapp rfl (.tmp 41) (.tmp 42) 22 rfl w2.heap.size 5 i0 (.int .u8 0) 1 Tryz.underlying22 Hi.out Hz0.out Hz1.out Hz2.out ?hzs _ _ _ ?hs O4.out B m d lb ?hx (HB2.out.below K4.out) ?h1 ?h2 ?h3 ?_); (case hzs => rfl); (case hs => rfl); (case hx => rfl); (case h1 => (unfold maxLen; omega)); (case h2 => omega); (case h3 => exact K4.out.size); intro v5 w5 hown5 hgrow5; have K5 := Lib.hid (K4.out.grown hgrow5 K4.out.size (fun k hk => (O4.out.lt k hk).1)); obtain ⟨A5, c5, rfl⟩ := own_shape hown5; have O5 := Lib.hid (CC.out w5 A5 c5 w2.heap.size hown5); clear hown5 hgrow5)
    | (go_at_call 8; (with_reducible refine (RC.out _ _ _ O5.out (HL2.out.below K5.out)).mono ?_); rintro e w6 ⟨A6, n6, c6, rfl, s6, b6⟩; have K6 := Lib.hid (trans_below K5.out b6); have B6 := Lib.hid (trans_below B2.out K6.out); have S6 := Lib.hid s6; have S1c := Lib.hid (S1b.out.keep (F' := allB w6) (fun b hb => K6.out.block b hb) (fun b hb => Nat.lt_of_lt_of_le hb K6.out.size)); have S2c := Lib.hid (S2.out.keep (F' := allB w6) (fun b hb => K6.out.block b hb) (fun b hb => Nat.lt_of_lt_of_le hb K6.out.size)); clear s6 b6))
  go_ret
  exact ⟨by simp, B6.out⟩
set_option maxRecDepth 20000 in
set_option maxHeartbeats 4000000 in
theorem tfirst_f (A : Option Addr) (n c : Nat) (B : Option Addr) (m d : Nat) (la lb : List UInt8) (w : World) (hA : BSl w A n c la) (hB : BSl w B m d lb) (hl : LdT w) (hn : n ≤ 3000) (hm : m ≤ 3000)
    (ra ea rb eb rc ec : Int) (xa xb xc : List LV) (ta : txV la = (ra, ea, xa)) (tb : txV lb = (rb, eb, xb)) (tc : txV (la ++ 10 :: lb) = (rc, ec, xc)) (h : ea = 0) (hb : eb = 0) (g : ec = 0) (g2 : alike xc (xa ++ xb)) :
    Calls Tryz.prog 6 #[.slice A n c, .slice B m d] w fun e w' => e = .returned (.bool true) ∧ Below w.heap.size w w' := by
  obtain ⟨i0, hi, hz0, hz1, hz2⟩ := info_parts Tryz.info5
  have Hi := Lib.hid hi; have Hz0 := Lib.hid hz0; have Hz1 := Lib.hid hz1; have Hz2 := Lib.hid hz2
  clear hi hz0 hz1 hz2
  have HL := Lib.hid hl
  have HA := Lib.hid hA
  have HB := Lib.hid hB
  have RA := fun w h hl => xtext_any A n c la w h hl
  have RB := fun w h hl => xtext_any B m d lb w h hl
  have RC := fun w A c h hl => xtext_any A (n + 1 + m) c (la ++ 10 :: lb) w h hl
  rw [ta] at RA
  rw [tb] at RB
  rw [tc] at RC
  have la400 : xa.length ≤ 400 := by have := txV_len la; rw [ta] at this; exact this
  have lb400 : xb.length ≤ 400 := by have := txV_len lb; rw [tb] at this; exact this
  obtain ⟨na, hna⟩ : ∃ na, xa.length = na := ⟨_, rfl⟩
  obtain ⟨nb, hnb⟩ : ∃ nb, xb.length = nb := ⟨_, rfl⟩
  have NA := Lib.hid hna
  have NB := Lib.hid hnb
  rw [hna] at la400
  rw [hnb] at lb400
  have RA := Lib.hid RA
  have RB := Lib.hid RB
  have RC := Lib.hid RC
  have CC := Lib.hid (fun (w : World) (A : Option Addr) (c B : Nat) (h : w.ownsRow B 5 1 (.slice A (n + 1 + m) c) (n + 1 + m) (byteCells la ++ byteCells [u8 10] ++ byteCells lb)) => show BSl w A (n + 1 + m) c (la ++ 10 :: lb) from BSl.of_own (by rw [← bcells_app, ← bcells_app, List.append_assoc] at h; exact h))
  have j0 : ¬ (3000 : Int) < (n : Int) := by omega
  have j1 : ¬ (3000 : Int) < (m : Int) := by omega
  have an := hA.cap
  have bn := hB.cap
  have an2 := hA.le
  have bn2 := hB.le
  subst h hb g
  have lc400 : xc.length ≤ 400 := by have := txV_len (la ++ 10 :: lb); rw [tc] at this; exact this
  have AL := Lib.hid (show alikeB xc (xa ++ xb) = true from alikeB_yes g2)
  clear g2
  clear hA hB hl ta tb tc hna hnb
  go_enter Tryz.func6, Tryz.ntmps6
  go_wp2_with (first
    | (go_at_call 7; (with_reducible refine (works12_any _ HL.out).mono ?_); rintro e w0 ⟨rfl, b0⟩; have B0 := Lib.hid b0; have HA0 := Lib.hid (HA.out.below b0); have HB0 := Lib.hid (HB.out.below b0); have HL0 := Lib.hid (HL.out.below b0); clear b0)
    | (go_at_call 8; (with_reducible refine (RA.out _ HA0.out HL0.out).mono ?_); rintro e w1 ⟨A1, n1, c1, rfl, s1, b1⟩; obtain rfl : n1 = na := by { rw [← s1.len, NA.out] }; have B1 := Lib.hid (trans_below B0.out b1); have S1 := Lib.hid s1; have HB1 := Lib.hid (HB0.out.below b1); have HA1 := Lib.hid (HA0.out.below b1); have HL1 := Lib.hid (HL0.out.below b1); clear s1 b1)
    | (go_at_call 8; (with_reducible refine (RB.out _ HB1.out HL1.out).mono ?_); rintro e w2 ⟨A2, n2, c2, rfl, s2, b2⟩; obtain rfl : n2 = nb := by { rw [← s2.len, NB.out] }; have B2 := Lib.hid (trans_below B1.out b2); have S2 := Lib.hid s2; have S1b := Lib.hid (S1.out.keep (F' := allB w2) (fun b hb => b2.block b hb) (fun b hb => Nat.lt_of_lt_of_le hb b2.size)); have HB2 := Lib.hid (HB1.out.below b2); have HA2 := Lib.hid (HA1.out.below b2); have HL2 := Lib.hid (HL1.out.below b2); clear s2 b2)
    | (at_builtin; (with_reducible refine wpList_bapp rfl (.tmp 37) (.tmp 38) 22 rfl w2.heap.size 5 i0 (.int .u8 0) 1 Tryz.underlying22 Hi.out Hz0.out Hz1.out Hz2.out ?hzs _ _ _ ?hs (own_new w2 w2.heap.size (Nat.le_refl _)) A n c la ?hx (HA2.out.alloc _) ?h1 ?h2 ?h3 ?_); (case hzs => rfl); (case hs => rfl); (case hx => rfl); (case h1 => (unfold maxLen; omega)); (case h2 => omega); (case h3 => (simp)); intro v3 w3 hown3 hgrow3; simp only [Nat.zero_add, List.nil_append] at hown3; have K3 := Lib.hid (((Below.refl w2.heap.size w2).alloc (Nat.le_refl _) _).grown hgrow3 (by simp) (fun k hk => ((own_new w2 w2.heap.size (Nat.le_refl _)).lt k hk).1)); have O3 := Lib.hid hown3; clear hown3 hgrow3)
    | (at_builtin; (with_reducible refine wpList_bapp rfl (.tmp 39) (.tmp 40) 22 rfl w2.heap.size 5 i0 (.int .u8 0) 1 Tryz.underlying22 Hi.out Hz0.out Hz1.out Hz2.out ?hzs _ _ _ ?hs (O3.out.alloc _) (some ⟨w3.heap.size, 0, none⟩) 1 1 [u8 10] ?hx (bsl_one w3 10 (0, 0) ⟨by decide, by decide⟩) ?h1 ?h2 ?h3 ?_); (case hzs => rfl); (case hs => rfl); (case hx => rfl); (case h1 => (unfold maxLen; omega)); (case h2 => omega); (case h3 => (have := K3.out.size; simp; omega)); intro v4 w4 hown4 hgrow4; have K4 := Lib.hid ((K3.out.alloc K3.out.size _).grown hgrow4 (by { have := K3.out.size; simp; omega }) (fun k hk => ((O3.out.alloc (.cells #[] 0)).lt k hk).1)); have O4 := Lib.hid hown4; clear hown4 hgrow4)
    | (at_builtin; (with_reducible refine wpList_bapp rfl (.tmp 41) (.tmp 42) 22 rfl w2.heap.size 5 i0 (.int .u8 0) 1 Tryz.underlying22 Hi.out Hz0.out Hz1.out Hz2.out ?hzs _ _ _ ?hs O4.out B m d lb ?hx (HB2.out.below K4.out) ?h1 ?h2 ?h3 ?_); (case hzs => rfl); (case hs => rfl); (case hx => rfl); (case h1 => (unfold maxLen; omega)); (case h2 => omega); (case h3 => exact K4.out.size); intro v5 w5 hown5 hgrow5; have K5 := Lib.hid (K4.out.grown hgrow5 K4.out.size (fun k hk => (O4.out.lt k hk).1)); obtain ⟨A5, c5, rfl⟩ := own_shape hown5; have O5 := Lib.hid (CC.out w5 A5 c5 w2.heap.size hown5); clear hown5 hgrow5)
    | (go_at_call 8; (with_reducible refine (RC.out _ _ _ O5.out (HL2.out.below K5.out)).mono ?_); rintro e w6 ⟨A6, n6, c6, rfl, s6, b6⟩; have K6 := Lib.hid (trans_below K5.out b6); have B6 := Lib.hid (trans_below B2.out K6.out); have S6 := Lib.hid s6; have S1c := Lib.hid (S1b.out.keep (F' := allB w6) (fun b hb => K6.out.block b hb) (fun b hb => Nat.lt_of_lt_of_le hb K6.out.size)); have S2c := Lib.hid (S2.out.keep (F' := allB w6) (fun b hb => K6.out.block b hb) (fun b hb => Nat.lt_of_lt_of_le hb K6.out.size)); clear s6 b6)
    | ((with_reducible refine wpList_unguard ?hw (wpList_lapps rfl (.tmp 81) (.tmp 82) rfl w6.heap.size _ [] (ROwn.lit0 w6 w6.heap.size 38 (Nat.le_refl _)) (allB w6) A1 n1 c1 xa (S1c.out.keep (fun b hb => Below.heap_alloc w6 _ b hb) (fun _ h => h)) ?hF ?h1 ?h2 ?hs ?hx ?_)); (case hw => rfl); (case hF => exact fun b hb => ⟨by (have h3 : b < w6.heap.size := hb; simp; omega), fun e => by (have e2 : w6.heap.size = b := Option.some.inj e; have h3 : b < w6.heap.size := hb; omega)⟩); (case h1 => (simp; omega)); (case h2 => simp); (case hs => rfl); (case hx => rfl); intro v7 w7 o7 b7; have O7 := Lib.hid o7; have K7 := Lib.hid (((Below.refl w6.heap.size w6).alloc (Nat.le_refl _) _).trans b7); clear o7 b7)
    | ((with_reducible refine wpList_unguard ?hw (wpList_lapps rfl (.tmp 83) (.tmp 84) rfl w6.heap.size _ _ O7.out (allB w6) A2 n2 c2 xb (S2c.out.keep (fun b hb => K7.out.block b hb) (fun _ h => h)) ?hF ?h1 ?h2 ?hs ?hx ?_)); (case hw => rfl); (case hF => exact fun b hb => ⟨Nat.lt_of_lt_of_le hb K7.out.size, fun e => by (have h1 := (O7.out.lt b e).1; have h2 : b < w6.heap.size := hb; omega)⟩); (case h1 => (have := NA.out; simp; omega)); (case h2 => exact K7.out.size); (case hs => rfl); (case hx => rfl); intro v8 w8 o8 b8; obtain ⟨A8, c8, rfl⟩ := o8.shape; have S8 := Lib.hid (show RSl lineR w8 (allB w8) A8 (xa.length + xb.length) c8 (xa ++ xb) from by { have := o8.read; simpa using this }); have K8 := Lib.hid (K7.out.trans b8); have S6b := Lib.hid (S6.out.keep (F' := allB w8) (fun b hb => K8.out.block b hb) (fun b hb => Nat.lt_of_lt_of_le hb K8.out.size)); clear o8 b8)
    | (go_at_call 12; (with_reducible refine (xtsame_any A6 n6 c6 xc A8 _ c8 (xa ++ xb) _ S6b.out S8.out ?g1 ?g2).mono ?_); (case g1 => (have := S6.out.len; omega)); (case g2 => (have := NA.out; have := NB.out; omega)); rintro e w9 ⟨he9, b9⟩; rw [AL.out] at he9; subst he9; have B9 := Lib.hid (trans_below B6.out (K8.out.trans (b9.mono K8.out.size))); clear b9))
  go_ret
  exact ⟨rfl, B9.out⟩
theorem tfirst_walk (A : Option Addr) (n c : Nat) (B : Option Addr) (m d : Nat) (la lb : List UInt8) (w : World) (hA : BSl w A n c la) (hB : BSl w B m d lb) (hl : LdT w) :
    Calls Tryz.prog 6 #[.slice A n c, .slice B m d] w fun e w' => e = .returned (.bool true) ∧ Below w.heap.size w w' := by
  by_cases hb : 3000 < n ∨ 3000 < m
  · exact tfirst_big A n c B m d w hl hb
  obtain ⟨⟨ra, ea, xa⟩, ta⟩ : ∃ T, txV la = T := ⟨_, rfl⟩
  obtain ⟨⟨rb, eb, xb⟩, tb⟩ : ∃ T, txV lb = T := ⟨_, rfl⟩
  obtain ⟨⟨rc, ec, xc⟩, tc⟩ : ∃ T, txV (la ++ 10 :: lb) = T := ⟨_, rfl⟩
  by_cases h0 : ea = 3
  · exact tfirst_a A n c B m d la lb w hA hB hl (by omega) (by omega) ra ea rb eb rc ec xa xb xc ta tb tc h0
  by_cases h1 : eb = 3
  · exact tfirst_b A n c B m d la lb w hA hB hl (by omega) (by omega) ra ea rb eb rc ec xa xb xc ta tb tc h0 h1
  by_cases h2 : ec = 3
  · exact tfirst_c A n c B m d la lb w hA hB hl (by omega) (by omega) ra ea rb eb rc ec xa xb xc ta tb tc h0 h1 h2
  have key := tx_first la lb (txV_err (by rw [ta]; exact h0)) (txV_err (by rw [tb]; exact h1)) (txV_err (by rw [tc]; exact h2))
  rw [ta, tb, tc] at key
  obtain ⟨k1, k2, k3⟩ := key
  by_cases g0 : ea = 0
  · by_cases g1 : eb = 0
    · obtain ⟨e1, e2⟩ := k3 g0 g1
      exact tfirst_f A n c B m d la lb w hA hB hl (by omega) (by omega) ra ea rb eb rc ec xa xb xc ta tb tc g0 g1 e1 e2
    · obtain ⟨e1, e2⟩ := k2 g0 g1
      exact tfirst_e A n c B m d la lb w hA hB hl (by omega) (by omega) ra ea rb eb rc ec xa xb xc ta tb tc h0 h1 g0 g1 e1 e2
  · obtain ⟨e1, e2⟩ := k1 g0
    exact tfirst_d A n c B m d la lb w hA hB hl (by omega) (by omega) ra ea rb eb rc ec xa xb xc ta tb tc h0 h1 g0 e1 e2
end Go.Proofs.YtcpakmkfnnbgeaaGreatDoor
