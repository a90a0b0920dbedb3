/- The walk of TextBlanks. -/
import Derived.Test.YtcpakmkfnnbgeaaGreatDoorTxFirst
import Derived.Lib.AppendStr
namespace Go.Proofs.YtcpakmkfnnbgeaaGreatDoor
open Go.RowKit
open Go.Lib (byteCells)

theorem blanksF_len : ∀ d : Nat, (blanksF d).length = 4 * d
  | 0 => rfl
  | d + 1 => by rw [blanksF, List.length_append, blanksF_len d]; simp; omega
theorem tx_strCells (p : List UInt8) : Lib.strCells (str p) = byteCells p := by simp [Lib.strCells, Lib.byteCells]
theorem txLs_row : ∀ (R : List (List UInt8)) (i : Nat), txX R = none → ∀ L ∈ txLs R i, (i : Int) < L.row ∧ L.row ≤ (i : Int) + R.length
  | [], _, _, L, hL => by cases hL
  | r :: rs, i, h, L, hL => by
    rw [txX] at h
    by_cases e : roE r 0 = 0
    · rw [if_pos e] at h
      have h2 : txX rs = none := by
        cases hx : txX rs with
        | none => rfl
        | some x => rw [hx] at h; cases h
      rw [txLs] at hL
      rcases List.mem_append.1 hL with hL | hL
      · unfold roL at hL
        by_cases hw : roW r = []
        · rw [if_pos hw] at hL; cases hL
        · rw [if_neg hw] at hL
          have hwl : wlE r = 0 := by
            unfold roE at e
            by_cases g : wlE r = 0
            · exact g
            · rw [if_neg g] at e; exact absurd e g
          have hrd : rdE (roW r) ((i : Int) + 1) = 0 := by
            have e2 := roE_any r 0 i
            rw [e] at e2
            unfold roE at e2
            rw [if_pos hwl, if_neg hw] at e2
            exact e2.symm
          have rowi : (rdL (roW r) ((i : Int) + 1)).row = (i : Int) + 1 := by
            have := (rd_row_any (roW r) ((i : Int) + 1) ((i : Int) + 1)).2 hrd
            rw [this]
            rfl
          rw [List.mem_singleton.1 hL, rowi, List.length_cons]
          omega
      · have := txLs_row rs (i + 1) h2 L hL
        rw [List.length_cons]
        omega
    · rw [if_neg e] at h; cases h
theorem txX_lt : ∀ {R : List (List UInt8)} {x : Nat × Int}, txX R = some x → x.1 < R.length
  | [], x, h => by cases h
  | r :: rs, x, h => by
    rw [txX] at h
    by_cases e : roE r 0 = 0
    · rw [if_pos e] at h
      cases hx : txX rs with
      | none => rw [hx] at h; cases h
      | some y =>
        rw [hx] at h
        injection h with h
        have := txX_lt (x := y) hx
        rw [← h, List.length_cons]
        show y.1 + 1 < _
        omega
    · rw [if_neg e] at h
      injection h with h
      rw [← h, List.length_cons]
      show 0 < _
      omega
theorem txV_row {b : List UInt8} (h : rwE b = 0) : ∀ L ∈ (txV b).2.2, 0 < L.row ∧ L.row ≤ 400 := by
  rw [txV_eq h]
  cases hx : txX (rwF b) with
  | some x => intro L hL; cases hL
  | none =>
    intro L hL
    have h1 := txLs_row (rwF b) 0 hx L hL
    have h2 := (rwE_zero h).2
    omega

set_option maxRecDepth 20000 in
set_option maxHeartbeats 4000000 in
theorem tblanks_a (A : Option Addr) (n c : Nat) (dn : Nat) (lb rk : List UInt8) (w : World) (hA : BSl w A n c lb) (hl : LdT w) (hn : n ≤ 3000) (hd : dn ≤ 20) (hr : rk.length ≤ 300) (h10 : (10 : UInt8) ∉ rk)
    (ra ea rc ec : Int) (xa xc : List LV) (ta : txV lb = (ra, ea, xa)) (tc : txV (blanksF dn ++ (lb ++ 32 :: 35 :: rk)) = (rc, ec, xc)) (h : ea = 3) :
    Calls Tryz.prog 5 #[.slice A n c, .int .u8 (dn : Int), .string (str rk)] w fun e w' => e = .returned (.bool true) ∧ Below w.heap.size w w' := by
  obtain ⟨i0, hi, hz0, hz1, hz2⟩ := info_parts Tryz.info5
  have Hi := Lib.hid hi; have Hz0 := Lib.hid hz0; have Hz1 := Lib.hid hz1; have Hz2 := Lib.hid hz2
  clear hi hz0 hz1 hz2
  obtain ⟨r, hrl⟩ : ∃ r, rk.length = r := ⟨_, rfl⟩
  have HRL := Lib.hid hrl
  rw [hrl] at hr
  have HL := Lib.hid hl
  have HA := Lib.hid hA
  have RA := fun w h hl => xtext_any A n c lb w h hl
  have RC := fun w A c h hl => xtext_any A (4 * dn + n + (r + 2)) c (blanksF dn ++ (lb ++ 32 :: 35 :: rk)) w h hl
  rw [ta] at RA
  rw [tc] at RC
  have la400 : xa.length ≤ 400 := by have := txV_len lb; rw [ta] at this; exact this
  have lc400 : xc.length ≤ 400 := by have := txV_len (blanksF dn ++ (lb ++ 32 :: 35 :: rk)); rw [tc] at this; exact this
  obtain ⟨na, hna⟩ : ∃ na, xa.length = na := ⟨_, rfl⟩
  obtain ⟨nc, hnc⟩ : ∃ nc, xc.length = nc := ⟨_, rfl⟩
  have NA := Lib.hid hna
  have NC := Lib.hid hnc
  rw [hna] at la400
  rw [hnc] at lc400
  have RA := Lib.hid RA
  have RC := Lib.hid RC
  have CC := Lib.hid (fun (w : World) (A : Option Addr) (c B : Nat) (h : w.ownsRow B 5 1 (.slice A (4 * dn + n + (r + 2)) c) (4 * dn + n + (r + 2)) (byteCells (blanksF dn) ++ byteCells lb ++ byteCells (32 :: 35 :: rk))) => show BSl w A (4 * dn + n + (r + 2)) c (blanksF dn ++ (lb ++ 32 :: 35 :: rk)) from BSl.of_own (by rw [← bcells_app, ← bcells_app, List.append_assoc] at h; exact h))
  have j0 : ¬ (3000 : Int) < (n : Int) := by omega
  have j1 : ¬ (20 : Int) < (dn : Int) := by omega
  have j2 : ¬ (300 : Int) < (r : Int) := by omega
  have hsz : (str rk).size = r := by rw [str_size, hrl]
  have hsz2 : (str (32 :: 35 :: rk)).size = r + 2 := by rw [str_size]; simp [hrl]
  have ad : ∀ W, (Op.stringOp .add (⟨#[32, 35]⟩ : ByteArray) (str rk)).run Tryz.prog W = .ok (.string (str (32 :: 35 :: rk))) W := fun W => by
    rw [show (⟨#[32, 35]⟩ : ByteArray) = str [32, 35] from rfl, run_string_add_sum W _ _ (by rw [str_size, str_size, hrl]; simp; omega), str_append]
    rfl
  have N10 := Lib.hid (show ∀ k, k < r → ¬ bat rk k = 10 from fun k hk e => h10 (by
    have h1 := (bat_ten rk k).1 e
    have h2 : k < rk.length := by omega
    rw [show rk.getD k 0 = rk[k] by simp [List.getD, h2]] at h1
    rw [← h1]
    exact List.getElem_mem h2))
  have IX := Lib.hid (run_index_bat rk)
  have an := hA.cap
  have an2 := hA.le
  subst h
  clear hA hl ta tc hna hnc h10 hrl
  go_enter Tryz.func5, Tryz.ntmps5
  go_wp2_with (go_at_call 7; (with_reducible refine (works12_any _ HL.out).mono ?_); rintro e w0 ⟨rfl, b0⟩; have B0 := Lib.hid b0; have HA0 := Lib.hid (HA.out.below b0); have HL0 := Lib.hid (HL.out.below b0); clear b0)
  go_loopw [7] (fun i wr => ∃ k : Nat, i = .int .i64 k ∧ w0 = wr ∧ k ≤ r) (fun i _ => match i with | .int _ x => (r - x).toNat | _ => 0)
  case atStart => exact ⟨0, rfl, rfl, by omega⟩
  case round =>
    obtain ⟨k, rfl, rfl, hk⟩ := hrel
    by_cases hlt : k < r
    · have R := fun w => IX.out k (by rw [HRL.out]; exact hlt) w
      have nb := N10.out k hlt
      have i1 : (k : Int) < (r : Int) := by omega
      generalize bat rk k = x at *
      go_wp2
      go_roundw
      case rel => exact ⟨k + 1, by simp, trivial, by omega⟩
      case measure => simp only []; omega
    · have i1 : ¬ (k : Int) < (r : Int) := by omega
      go_wp2
      go_loopw [8, 41] (fun v i wx => ∃ k2 : Nat, i = .int .u8 (k2 : Int) ∧ k2 ≤ dn ∧ wx.ownsRow w0.heap.size 5 1 v (4 * k2) (byteCells (blanksF k2)) ∧ Below w0.heap.size w0 wx) (fun _ i _ => match i with | .int _ x => (dn - x).toNat | _ => 0)
      case atStart => exact ⟨0, rfl, by omega, World.ownsRow_nil _ _ _ _, Below.refl _ _⟩
      case round =>
        obtain ⟨k2, rfl, hk2, ho, hb⟩ := hrel
        have K := Lib.hid hb
        by_cases hlt2 : k2 < dn
        · have O := Lib.hid ho
          have wu : IntKind.u8.wrap ((k2 : Int) + 1) = (k2 : Int) + 1 := by rw [IntKind.wrap_u8]; omega
          clear ho hb
          go_wp2_with (at_builtin; (with_reducible refine Lib.wpList_append_own_string _ rfl (.tmp 43) (.const (.string ⟨#[32, 9, 35, 10]⟩)) 22 9 rfl w0.heap.size 5 i0 Tryz.underlying22 Tryz.underlying9 Hi.out Hz0.out Hz1.out Hz2.out _ _ _ ?hs O.out ⟨#[32, 9, 35, 10]⟩ ?hx ?h1 ?h2 ?h3 ?_); (case hs => rfl); (case hx => rfl); (case h1 => (unfold maxLen; show 4 * k2 + 4 ≤ _; omega)); (case h2 => (show 4 * k2 + 4 ≤ _; omega)); (case h3 => exact K.out.size); intro v2 w2 hown2 hgrow2 _; have K2 := Lib.hid (below_app K.out O.out hgrow2); have O2 := Lib.hid (show w2.ownsRow w0.heap.size 5 1 v2 (4 * (k2 + 1)) (byteCells (blanksF (k2 + 1))) from by { rw [blanksF, bcells_app, show 4 * (k2 + 1) = 4 * k2 + 4 by omega]; exact hown2 }); clear hown2 hgrow2)
          go_roundw
          case rel => exact ⟨k2 + 1, by simp, by omega, O2.out, K2.out⟩
          case measure => simp only []; omega
        · obtain rfl : k2 = dn := by omega
          obtain ⟨Ab, cb, hv⟩ := own_shape ho
          subst hv
          have O := Lib.hid ho
          clear ho hb
          go_wp2_with (first
          | (at_builtin; (with_reducible refine wpList_bapp rfl (.tmp 46) (.tmp 47) 22 rfl w0.heap.size 5 i0 (.int .u8 0) 1 Tryz.underlying22 Hi.out Hz0.out Hz1.out Hz2.out ?hzs _ _ _ ?hs O.out A n c lb ?hx (HA0.out.below K.out) ?h1 ?h2 ?h3 ?_); (case hzs => rfl); (case hs => rfl); (case hx => rfl); (case h1 => (unfold maxLen; omega)); (case h2 => omega); (case h3 => exact K.out.size); intro v2 w2 hown2 hgrow2; have K2 := Lib.hid (below_app K.out O.out hgrow2); have O2 := Lib.hid hown2; clear hown2 hgrow2)
          | (at_builtin; (with_reducible refine Lib.wpList_append_own_string _ rfl (.tmp 48) (.tmp 50) 22 9 rfl w0.heap.size 5 i0 Tryz.underlying22 Tryz.underlying9 Hi.out Hz0.out Hz1.out Hz2.out _ _ _ ?hs O2.out (str (32 :: 35 :: rk)) ?hx ?h1 ?h2 ?h3 ?_); (case hs => rfl); (case hx => rfl); (case h1 => (unfold maxLen; rw [hsz2]; omega)); (case h2 => (rw [hsz2]; omega)); (case h3 => exact K2.out.size); intro v3 w3 hown3 hgrow3 _; rw [tx_strCells, hsz2] at hown3; have K3 := Lib.hid (below_app K2.out O2.out hgrow3); obtain ⟨A3, c3, rfl⟩ := own_shape hown3; have O3 := Lib.hid (CC.out w3 A3 c3 w0.heap.size hown3); clear hown3 hgrow3)
          | (go_at_call 8; (with_reducible refine (RA.out _ (HA0.out.below K3.out) (HL0.out.below K3.out)).mono ?_); rintro e w4 ⟨A4, n4, c4, rfl, s4, b4⟩; obtain rfl : n4 = na := by { rw [← s4.len, NA.out] }; have K4 := Lib.hid (trans_below K3.out b4); have O4 := Lib.hid (O3.out.below b4); have S4 := Lib.hid s4; clear s4 b4)
          | (go_at_call 8; (with_reducible refine (RC.out _ _ _ O4.out (HL0.out.below K4.out)).mono ?_); rintro e w5 ⟨A5, n5, c5, rfl, s5, b5⟩; obtain rfl : n5 = nc := by { rw [← s5.len, NC.out] }; have K5 := Lib.hid (trans_below K4.out b5); have B5 := Lib.hid (trans_below B0.out K5.out); have S5 := Lib.hid s5; have S4b := Lib.hid (S4.out.keep (F' := allB w5) (fun b hb => b5.block b hb) (fun b hb => Nat.lt_of_lt_of_le hb b5.size)); clear s5 b5))
          go_ret
          exact ⟨rfl, B5.out⟩
set_option maxRecDepth 20000 in
set_option maxHeartbeats 4000000 in
theorem tblanks_b (A : Option Addr) (n c : Nat) (dn : Nat) (lb rk : List UInt8) (w : World) (hA : BSl w A n c lb) (hl : LdT w) (hn : n ≤ 3000) (hd : dn ≤ 20) (hr : rk.length ≤ 300) (h10 : (10 : UInt8) ∉ rk)
    (ra ea rc ec : Int) (xa xc : List LV) (ta : txV lb = (ra, ea, xa)) (tc : txV (blanksF dn ++ (lb ++ 32 :: 35 :: rk)) = (rc, ec, xc)) (h0 : ¬ ea = 3) (h : ec = 3) :
    Calls Tryz.prog 5 #[.slice A n c, .int .u8 (dn : Int), .string (str rk)] w fun e w' => e = .returned (.bool true) ∧ Below w.heap.size w w' := by
  obtain ⟨i0, hi, hz0, hz1, hz2⟩ := info_parts Tryz.info5
  have Hi := Lib.hid hi; have Hz0 := Lib.hid hz0; have Hz1 := Lib.hid hz1; have Hz2 := Lib.hid hz2
  clear hi hz0 hz1 hz2
  obtain ⟨r, hrl⟩ : ∃ r, rk.length = r := ⟨_, rfl⟩
  have HRL := Lib.hid hrl
  rw [hrl] at hr
  have HL := Lib.hid hl
  have HA := Lib.hid hA
  have RA := fun w h hl => xtext_any A n c lb w h hl
  have RC := fun w A c h hl => xtext_any A (4 * dn + n + (r + 2)) c (blanksF dn ++ (lb ++ 32 :: 35 :: rk)) w h hl
  rw [ta] at RA
  rw [tc] at RC
  have la400 : xa.length ≤ 400 := by have := txV_len lb; rw [ta] at this; exact this
  have lc400 : xc.length ≤ 400 := by have := txV_len (blanksF dn ++ (lb ++ 32 :: 35 :: rk)); rw [tc] at this; exact this
  obtain ⟨na, hna⟩ : ∃ na, xa.length = na := ⟨_, rfl⟩
  obtain ⟨nc, hnc⟩ : ∃ nc, xc.length = nc := ⟨_, rfl⟩
  have NA := Lib.hid hna
  have NC := Lib.hid hnc
  rw [hna] at la400
  rw [hnc] at lc400
  have RA := Lib.hid RA
  have RC := Lib.hid RC
  have CC := Lib.hid (fun (w : World) (A : Option Addr) (c B : Nat) (h : w.ownsRow B 5 1 (.slice A (4 * dn + n + (r + 2)) c) (4 * dn + n + (r + 2)) (byteCells (blanksF dn) ++ byteCells lb ++ byteCells (32 :: 35 :: rk))) => show BSl w A (4 * dn + n + (r + 2)) c (blanksF dn ++ (lb ++ 32 :: 35 :: rk)) from BSl.of_own (by rw [← bcells_app, ← bcells_app, List.append_assoc] at h; exact h))
  have j0 : ¬ (3000 : Int) < (n : Int) := by omega
  have j1 : ¬ (20 : Int) < (dn : Int) := by omega
  have j2 : ¬ (300 : Int) < (r : Int) := by omega
  have hsz : (str rk).size = r := by rw [str_size, hrl]
  have hsz2 : (str (32 :: 35 :: rk)).size = r + 2 := by rw [str_size]; simp [hrl]
  have ad : ∀ W, (Op.stringOp .add (⟨#[32, 35]⟩ : ByteArray) (str rk)).run Tryz.prog W = .ok (.string (str (32 :: 35 :: rk))) W := fun W => by
    rw [show (⟨#[32, 35]⟩ : ByteArray) = str [32, 35] from rfl, run_string_add_sum W _ _ (by rw [str_size, str_size, hrl]; simp; omega), str_append]
    rfl
  have N10 := Lib.hid (show ∀ k, k < r → ¬ bat rk k = 10 from fun k hk e => h10 (by
    have h1 := (bat_ten rk k).1 e
    have h2 : k < rk.length := by omega
    rw [show rk.getD k 0 = rk[k] by simp [List.getD, h2]] at h1
    rw [← h1]
    exact List.getElem_mem h2))
  have IX := Lib.hid (run_index_bat rk)
  have an := hA.cap
  have an2 := hA.le
  subst h
  have f0 : (ea == 3) = false := by simpa using h0
  clear hA hl ta tc hna hnc h10 hrl
  go_enter Tryz.func5, Tryz.ntmps5
  go_wp2_with (go_at_call 7; (with_reducible refine (works12_any _ HL.out).mono ?_); rintro e w0 ⟨rfl, b0⟩; have B0 := Lib.hid b0; have HA0 := Lib.hid (HA.out.below b0); have HL0 := Lib.hid (HL.out.below b0); clear b0)
  go_loopw [7] (fun i wr => ∃ k : Nat, i = .int .i64 k ∧ w0 = wr ∧ k ≤ r) (fun i _ => match i with | .int _ x => (r - x).toNat | _ => 0)
  case atStart => exact ⟨0, rfl, rfl, by omega⟩
  case round =>
    obtain ⟨k, rfl, rfl, hk⟩ := hrel
    by_cases hlt : k < r
    · have R := fun w => IX.out k (by rw [HRL.out]; exact hlt) w
      have nb := N10.out k hlt
      have i1 : (k : Int) < (r : Int) := by omega
      generalize bat rk k = x at *
      go_wp2
      go_roundw
      case rel => exact ⟨k + 1, by simp, trivial, by omega⟩
      case measure => simp only []; omega
    · have i1 : ¬ (k : Int) < (r : Int) := by omega
      go_wp2
      go_loopw [8, 41] (fun v i wx => ∃ k2 : Nat, i = .int .u8 (k2 : Int) ∧ k2 ≤ dn ∧ wx.ownsRow w0.heap.size 5 1 v (4 * k2) (byteCells (blanksF k2)) ∧ Below w0.heap.size w0 wx) (fun _ i _ => match i with | .int _ x => (dn - x).toNat | _ => 0)
      case atStart => exact ⟨0, rfl, by omega, World.ownsRow_nil _ _ _ _, Below.refl _ _⟩
      case round =>
        obtain ⟨k2, rfl, hk2, ho, hb⟩ := hrel
        have K := Lib.hid hb
        by_cases hlt2 : k2 < dn
        · have O := Lib.hid ho
          have wu : IntKind.u8.wrap ((k2 : Int) + 1) = (k2 : Int) + 1 := by rw [IntKind.wrap_u8]; omega
          clear ho hb
          go_wp2_with (at_builtin; (with_reducible refine Lib.wpList_append_own_string _ rfl (.tmp 43) (.const (.string ⟨#[32, 9, 35, 10]⟩)) 22 9 rfl w0.heap.size 5 i0 Tryz.underlying22 Tryz.underlying9 Hi.out Hz0.out Hz1.out Hz2.out _ _ _ ?hs O.out ⟨#[32, 9, 35, 10]⟩ ?hx ?h1 ?h2 ?h3 ?_); (case hs => rfl); (case hx => rfl); (case h1 => (unfold maxLen; show 4 * k2 + 4 ≤ _; omega)); (case h2 => (show 4 * k2 + 4 ≤ _; omega)); (case h3 => exact K.out.size); intro v2 w2 hown2 hgrow2 _; have K2 := Lib.hid (below_app K.out O.out hgrow2); have O2 := Lib.hid (show w2.ownsRow w0.heap.size 5 1 v2 (4 * (k2 + 1)) (byteCells (blanksF (k2 + 1))) from by { rw [blanksF, bcells_app, show 4 * (k2 + 1) = 4 * k2 + 4 by omega]; exact hown2 }); clear hown2 hgrow2)
          go_roundw
          case rel => exact ⟨k2 + 1, by simp, by omega, O2.out, K2.out⟩
          case measure => simp only []; omega
        · obtain rfl : k2 = dn := by omega
          obtain ⟨Ab, cb, hv⟩ := own_shape ho
          subst hv
          have O := Lib.hid ho
          clear ho hb
          go_wp2_with (first
          | (at_builtin; (with_reducible refine wpList_bapp rfl (.tmp 46) (.tmp 47) 22 rfl w0.heap.size 5 i0 (.int .u8 0) 1 Tryz.underlying22 Hi.out Hz0.out Hz1.out Hz2.out ?hzs _ _ _ ?hs O.out A n c lb ?hx (HA0.out.below K.out) ?h1 ?h2 ?h3 ?_); (case hzs => rfl); (case hs => rfl); (case hx => rfl); (case h1 => (unfold maxLen; omega)); (case h2 => omega); (case h3 => exact K.out.size); intro v2 w2 hown2 hgrow2; have K2 := Lib.hid (below_app K.out O.out hgrow2); have O2 := Lib.hid hown2; clear hown2 hgrow2)
          | (at_builtin; (with_reducible refine Lib.wpList_append_own_string _ rfl (.tmp 48) (.tmp 50) 22 9 rfl w0.heap.size 5 i0 Tryz.underlying22 Tryz.underlying9 Hi.out Hz0.out Hz1.out Hz2.out _ _ _ ?hs O2.out (str (32 :: 35 :: rk)) ?hx ?h1 ?h2 ?h3 ?_); (case hs => rfl); (case hx => rfl); (case h1 => (unfold maxLen; rw [hsz2]; omega)); (case h2 => (rw [hsz2]; omega)); (case h3 => exact K2.out.size); intro v3 w3 hown3 hgrow3 _; rw [tx_strCells, hsz2] at hown3; have K3 := Lib.hid (below_app K2.out O2.out hgrow3); obtain ⟨A3, c3, rfl⟩ := own_shape hown3; have O3 := Lib.hid (CC.out w3 A3 c3 w0.heap.size hown3); clear hown3 hgrow3)
          | (go_at_call 8; (with_reducible refine (RA.out _ (HA0.out.below K3.out) (HL0.out.below K3.out)).mono ?_); rintro e w4 ⟨A4, n4, c4, rfl, s4, b4⟩; obtain rfl : n4 = na := by { rw [← s4.len, NA.out] }; have K4 := Lib.hid (trans_below K3.out b4); have O4 := Lib.hid (O3.out.below b4); have S4 := Lib.hid s4; clear s4 b4)
          | (go_at_call 8; (with_reducible refine (RC.out _ _ _ O4.out (HL0.out.below K4.out)).mono ?_); rintro e w5 ⟨A5, n5, c5, rfl, s5, b5⟩; obtain rfl : n5 = nc := by { rw [← s5.len, NC.out] }; have K5 := Lib.hid (trans_below K4.out b5); have B5 := Lib.hid (trans_below B0.out K5.out); have S5 := Lib.hid s5; have S4b := Lib.hid (S4.out.keep (F' := allB w5) (fun b hb => b5.block b hb) (fun b hb => Nat.lt_of_lt_of_le hb b5.size)); clear s5 b5))
          go_ret
          exact ⟨rfl, B5.out⟩
set_option maxRecDepth 20000 in
set_option maxHeartbeats 4000000 in
theorem tblanks_c (A : Option Addr) (n c : Nat) (dn : Nat) (lb rk : List UInt8) (w : World) (hA : BSl w A n c lb) (hl : LdT w) (hn : n ≤ 3000) (hd : dn ≤ 20) (hr : rk.length ≤ 300) (h10 : (10 : UInt8) ∉ rk)
    (ra ea rc ec : Int) (xa xc : List LV) (ta : txV lb = (ra, ea, xa)) (tc : txV (blanksF dn ++ (lb ++ 32 :: 35 :: rk)) = (rc, ec, xc)) (h0 : ¬ ea = 3) (h : ea ≠ 0) (g : ec = ea) (g2 : rc = ra + dn) (g3 : xa = []) (g4 : xc = []) (q0 : 0 ≤ ra) (q1 : ra ≤ 401) :
    Calls Tryz.prog 5 #[.slice A n c, .int .u8 (dn : Int), .string (str rk)] w fun e w' => e = .returned (.bool true) ∧ Below w.heap.size w w' := by
  obtain ⟨i0, hi, hz0, hz1, hz2⟩ := info_parts Tryz.info5
  have Hi := Lib.hid hi; have Hz0 := Lib.hid hz0; have Hz1 := Lib.hid hz1; have Hz2 := Lib.hid hz2
  clear hi hz0 hz1 hz2
  obtain ⟨r, hrl⟩ : ∃ r, rk.length = r := ⟨_, rfl⟩
  have HRL := Lib.hid hrl
  rw [hrl] at hr
  have HL := Lib.hid hl
  have HA := Lib.hid hA
  have RA := fun w h hl => xtext_any A n c lb w h hl
  have RC := fun w A c h hl => xtext_any A (4 * dn + n + (r + 2)) c (blanksF dn ++ (lb ++ 32 :: 35 :: rk)) w h hl
  rw [ta] at RA
  rw [tc] at RC
  have la400 : xa.length ≤ 400 := by have := txV_len lb; rw [ta] at this; exact this
  have lc400 : xc.length ≤ 400 := by have := txV_len (blanksF dn ++ (lb ++ 32 :: 35 :: rk)); rw [tc] at this; exact this
  obtain ⟨na, hna⟩ : ∃ na, xa.length = na := ⟨_, rfl⟩
  obtain ⟨nc, hnc⟩ : ∃ nc, xc.length = nc := ⟨_, rfl⟩
  have NA := Lib.hid hna
  have NC := Lib.hid hnc
  rw [hna] at la400
  rw [hnc] at lc400
  have RA := Lib.hid RA
  have RC := Lib.hid RC
  have CC := Lib.hid (fun (w : World) (A : Option Addr) (c B : Nat) (h : w.ownsRow B 5 1 (.slice A (4 * dn + n + (r + 2)) c) (4 * dn + n + (r + 2)) (byteCells (blanksF dn) ++ byteCells lb ++ byteCells (32 :: 35 :: rk))) => show BSl w A (4 * dn + n + (r + 2)) c (blanksF dn ++ (lb ++ 32 :: 35 :: rk)) from BSl.of_own (by rw [← bcells_app, ← bcells_app, List.append_assoc] at h; exact h))
  have j0 : ¬ (3000 : Int) < (n : Int) := by omega
  have j1 : ¬ (20 : Int) < (dn : Int) := by omega
  have j2 : ¬ (300 : Int) < (r : Int) := by omega
  have hsz : (str rk).size = r := by rw [str_size, hrl]
  have hsz2 : (str (32 :: 35 :: rk)).size = r + 2 := by rw [str_size]; simp [hrl]
  have ad : ∀ W, (Op.stringOp .add (⟨#[32, 35]⟩ : ByteArray) (str rk)).run Tryz.prog W = .ok (.string (str (32 :: 35 :: rk))) W := fun W => by
    rw [show (⟨#[32, 35]⟩ : ByteArray) = str [32, 35] from rfl, run_string_add_sum W _ _ (by rw [str_size, str_size, hrl]; simp; omega), str_append]
    rfl
  have N10 := Lib.hid (show ∀ k, k < r → ¬ bat rk k = 10 from fun k hk e => h10 (by
    have h1 := (bat_ten rk k).1 e
    have h2 : k < rk.length := by omega
    rw [show rk.getD k 0 = rk[k] by simp [List.getD, h2]] at h1
    rw [← h1]
    exact List.getElem_mem h2))
  have IX := Lib.hid (run_index_bat rk)
  have an := hA.cap
  have an2 := hA.le
  subst g g2 g3 g4
  have zn : ((na : Int) == 0) = true := by rw [← hna]; rfl
  have zc : ((nc : Int) == 0) = true := by rw [← hnc]; rfl
  have f0 : (ec == 3) = false := by simpa using h0
  have f3 : (ec != 0) = true := by simpa using h
  have wr2 : IntKind.i64.wrap (ra + (dn : Int)) = ra + (dn : Int) := IntWalk.i64_in _ (by omega)
  have wd : IntKind.i64.wrap (dn : Int) = (dn : Int) := IntWalk.i64_in _ (by omega)
  clear hA hl ta tc hna hnc h10 hrl
  go_enter Tryz.func5, Tryz.ntmps5
  go_wp2_with (go_at_call 7; (with_reducible refine (works12_any _ HL.out).mono ?_); rintro e w0 ⟨rfl, b0⟩; have B0 := Lib.hid b0; have HA0 := Lib.hid (HA.out.below b0); have HL0 := Lib.hid (HL.out.below b0); clear b0)
  go_loopw [7] (fun i wr => ∃ k : Nat, i = .int .i64 k ∧ w0 = wr ∧ k ≤ r) (fun i _ => match i with | .int _ x => (r - x).toNat | _ => 0)
  case atStart => exact ⟨0, rfl, rfl, by omega⟩
  case round =>
    obtain ⟨k, rfl, rfl, hk⟩ := hrel
    by_cases hlt : k < r
    · have R := fun w => IX.out k (by rw [HRL.out]; exact hlt) w
      have nb := N10.out k hlt
      have i1 : (k : Int) < (r : Int) := by omega
      generalize bat rk k = x at *
      go_wp2
      go_roundw
      case rel => exact ⟨k + 1, by simp, trivial, by omega⟩
      case measure => simp only []; omega
    · have i1 : ¬ (k : Int) < (r : Int) := by omega
      go_wp2
      go_loopw [8, 41] (fun v i wx => ∃ k2 : Nat, i = .int .u8 (k2 : Int) ∧ k2 ≤ dn ∧ wx.ownsRow w0.heap.size 5 1 v (4 * k2) (byteCells (blanksF k2)) ∧ Below w0.heap.size w0 wx) (fun _ i _ => match i with | .int _ x => (dn - x).toNat | _ => 0)
      case atStart => exact ⟨0, rfl, by omega, World.ownsRow_nil _ _ _ _, Below.refl _ _⟩
      case round =>
        obtain ⟨k2, rfl, hk2, ho, hb⟩ := hrel
        have K := Lib.hid hb
        by_cases hlt2 : k2 < dn
        · have O := Lib.hid ho
          have wu : IntKind.u8.wrap ((k2 : Int) + 1) = (k2 : Int) + 1 := by rw [IntKind.wrap_u8]; omega
          clear ho hb
          go_wp2_with (at_builtin; (with_reducible refine Lib.wpList_append_own_string _ rfl (.tmp 43) (.const (.string ⟨#[32, 9, 35, 10]⟩)) 22 9 rfl w0.heap.size 5 i0 Tryz.underlying22 Tryz.underlying9 Hi.out Hz0.out Hz1.out Hz2.out _ _ _ ?hs O.out ⟨#[32, 9, 35, 10]⟩ ?hx ?h1 ?h2 ?h3 ?_); (case hs => rfl); (case hx => rfl); (case h1 => (unfold maxLen; show 4 * k2 + 4 ≤ _; omega)); (case h2 => (show 4 * k2 + 4 ≤ _; omega)); (case h3 => exact K.out.size); intro v2 w2 hown2 hgrow2 _; have K2 := Lib.hid (below_app K.out O.out hgrow2); have O2 := Lib.hid (show w2.ownsRow w0.heap.size 5 1 v2 (4 * (k2 + 1)) (byteCells (blanksF (k2 + 1))) from by { rw [blanksF, bcells_app, show 4 * (k2 + 1) = 4 * k2 + 4 by omega]; exact hown2 }); clear hown2 hgrow2)
          go_roundw
          case rel => exact ⟨k2 + 1, by simp, by omega, O2.out, K2.out⟩
          case measure => simp only []; omega
        · obtain rfl : k2 = dn := by omega
          obtain ⟨Ab, cb, hv⟩ := own_shape ho
          subst hv
          have O := Lib.hid ho
          clear ho hb
          go_wp2_with (first
          | (at_builtin; (with_reducible refine wpList_bapp rfl (.tmp 46) (.tmp 47) 22 rfl w0.heap.size 5 i0 (.int .u8 0) 1 Tryz.underlying22 Hi.out Hz0.out Hz1.out Hz2.out ?hzs _ _ _ ?hs O.out A n c lb ?hx (HA0.out.below K.out) ?h1 ?h2 ?h3 ?_); (case hzs => rfl); (case hs => rfl); (case hx => rfl); (case h1 => (unfold maxLen; omega)); (case h2 => omega); (case h3 => exact K.out.size); intro v2 w2 hown2 hgrow2; have K2 := Lib.hid (below_app K.out O.out hgrow2); have O2 := Lib.hid hown2; clear hown2 hgrow2)
          | (at_builtin; (with_reducible refine Lib.wpList_append_own_string _ rfl (.tmp 48) (.tmp 50) 22 9 rfl w0.heap.size 5 i0 Tryz.underlying22 Tryz.underlying9 Hi.out Hz0.out Hz1.out Hz2.out _ _ _ ?hs O2.out (str (32 :: 35 :: rk)) ?hx ?h1 ?h2 ?h3 ?_); (case hs => rfl); (case hx => rfl); (case h1 => (unfold maxLen; rw [hsz2]; omega)); (case h2 => (rw [hsz2]; omega)); (case h3 => exact K2.out.size); intro v3 w3 hown3 hgrow3 _; rw [tx_strCells, hsz2] at hown3; have K3 := Lib.hid (below_app K2.out O2.out hgrow3); obtain ⟨A3, c3, rfl⟩ := own_shape hown3; have O3 := Lib.hid (CC.out w3 A3 c3 w0.heap.size hown3); clear hown3 hgrow3)
          | (go_at_call 8; (with_reducible refine (RA.out _ (HA0.out.below K3.out) (HL0.out.below K3.out)).mono ?_); rintro e w4 ⟨A4, n4, c4, rfl, s4, b4⟩; obtain rfl : n4 = na := by { rw [← s4.len, NA.out] }; have K4 := Lib.hid (trans_below K3.out b4); have O4 := Lib.hid (O3.out.below b4); have S4 := Lib.hid s4; clear s4 b4)
          | (go_at_call 8; (with_reducible refine (RC.out _ _ _ O4.out (HL0.out.below K4.out)).mono ?_); rintro e w5 ⟨A5, n5, c5, rfl, s5, b5⟩; obtain rfl : n5 = nc := by { rw [← s5.len, NC.out] }; have K5 := Lib.hid (trans_below K4.out b5); have B5 := Lib.hid (trans_below B0.out K5.out); have S5 := Lib.hid s5; have S4b := Lib.hid (S4.out.keep (F' := allB w5) (fun b hb => b5.block b hb) (fun b hb => Nat.lt_of_lt_of_le hb b5.size)); clear s5 b5))
          go_ret
          exact ⟨by simp, B5.out⟩
set_option maxRecDepth 20000 in
set_option maxHeartbeats 4000000 in
theorem tblanks_d (A : Option Addr) (n c : Nat) (dn : Nat) (lb rk : List UInt8) (w : World) (hA : BSl w A n c lb) (hl : LdT w) (hn : n ≤ 3000) (hd : dn ≤ 20) (hr : rk.length ≤ 300) (h10 : (10 : UInt8) ∉ rk)
    (ra ea rc ec : Int) (xa xc : List LV) (ta : txV lb = (ra, ea, xa)) (tc : txV (blanksF dn ++ (lb ++ 32 :: 35 :: rk)) = (rc, ec, xc)) (h : ea = 0) (g : ec = 0) (g2 : xa.map (fun L => (L.at 0, L.row + (dn : Int))) = xc.map (fun L => (L.at 0, L.row))) (g3 : ∀ L ∈ xa, 0 < L.row ∧ L.row ≤ 400) :
    Calls Tryz.prog 5 #[.slice A n c, .int .u8 (dn : Int), .string (str rk)] w fun e w' => e = .returned (.bool true) ∧ Below w.heap.size w w' := by
  obtain ⟨i0, hi, hz0, hz1, hz2⟩ := info_parts Tryz.info5
  have Hi := Lib.hid hi; have Hz0 := Lib.hid hz0; have Hz1 := Lib.hid hz1; have Hz2 := Lib.hid hz2
  clear hi hz0 hz1 hz2
  obtain ⟨r, hrl⟩ : ∃ r, rk.length = r := ⟨_, rfl⟩
  have HRL := Lib.hid hrl
  rw [hrl] at hr
  have HL := Lib.hid hl
  have HA := Lib.hid hA
  have RA := fun w h hl => xtext_any A n c lb w h hl
  have RC := fun w A c h hl => xtext_any A (4 * dn + n + (r + 2)) c (blanksF dn ++ (lb ++ 32 :: 35 :: rk)) w h hl
  rw [ta] at RA
  rw [tc] at RC
  have la400 : xa.length ≤ 400 := by have := txV_len lb; rw [ta] at this; exact this
  have lc400 : xc.length ≤ 400 := by have := txV_len (blanksF dn ++ (lb ++ 32 :: 35 :: rk)); rw [tc] at this; exact this
  obtain ⟨na, hna⟩ : ∃ na, xa.length = na := ⟨_, rfl⟩
  obtain ⟨nc, hnc⟩ : ∃ nc, xc.length = nc := ⟨_, rfl⟩
  have NA := Lib.hid hna
  have NC := Lib.hid hnc
  rw [hna] at la400
  rw [hnc] at lc400
  have RA := Lib.hid RA
  have RC := Lib.hid RC
  have CC := Lib.hid (fun (w : World) (A : Option Addr) (c B : Nat) (h : w.ownsRow B 5 1 (.slice A (4 * dn + n + (r + 2)) c) (4 * dn + n + (r + 2)) (byteCells (blanksF dn) ++ byteCells lb ++ byteCells (32 :: 35 :: rk))) => show BSl w A (4 * dn + n + (r + 2)) c (blanksF dn ++ (lb ++ 32 :: 35 :: rk)) from BSl.of_own (by rw [← bcells_app, ← bcells_app, List.append_assoc] at h; exact h))
  have j0 : ¬ (3000 : Int) < (n : Int) := by omega
  have j1 : ¬ (20 : Int) < (dn : Int) := by omega
  have j2 : ¬ (300 : Int) < (r : Int) := by omega
  have hsz : (str rk).size = r := by rw [str_size, hrl]
  have hsz2 : (str (32 :: 35 :: rk)).size = r + 2 := by rw [str_size]; simp [hrl]
  have ad : ∀ W, (Op.stringOp .add (⟨#[32, 35]⟩ : ByteArray) (str rk)).run Tryz.prog W = .ok (.string (str (32 :: 35 :: rk))) W := fun W => by
    rw [show (⟨#[32, 35]⟩ : ByteArray) = str [32, 35] from rfl, run_string_add_sum W _ _ (by rw [str_size, str_size, hrl]; simp; omega), str_append]
    rfl
  have N10 := Lib.hid (show ∀ k, k < r → ¬ bat rk k = 10 from fun k hk e => h10 (by
    have h1 := (bat_ten rk k).1 e
    have h2 : k < rk.length := by omega
    rw [show rk.getD k 0 = rk[k] by simp [List.getD, h2]] at h1
    rw [← h1]
    exact List.getElem_mem h2))
  have IX := Lib.hid (run_index_bat rk)
  have an := hA.cap
  have an2 := hA.le
  subst h g
  have AL := Lib.hid (show alikeB xa xc = true from alikeB_yes (by have := congrArg (List.map Prod.fst) g2; rw [List.map_map, List.map_map] at this; exact this))
  have hac : xc.length = xa.length := by have := congrArg List.length g2; rw [List.length_map, List.length_map] at this; exact this.symm
  have RW := Lib.hid (show ∀ j, j < na → (xc.getD j LV.zero).row = (xa.getD j LV.zero).row + (dn : Int) ∧ 0 < (xa.getD j LV.zero).row ∧ (xa.getD j LV.zero).row ≤ 400 from fun j hj => by
    have h1 : j < xa.length := by omega
    have h2 : j < xc.length := by omega
    have e1 : xa.getD j LV.zero = xa[j] := by simp [List.getD, h1]
    have e2 : xc.getD j LV.zero = xc[j] := by simp [List.getD, h2]
    have e3 := congrArg (fun l => l[j]?) g2
    simp only [List.getElem?_map, List.getElem?_eq_getElem h1, List.getElem?_eq_getElem h2, Option.map_some, Option.some.injEq, Prod.mk.injEq] at e3
    rw [e1, e2]
    exact ⟨e3.2.symm, g3 _ (List.getElem_mem h1)⟩)
  have HN := Lib.hid (show nc = na by omega)
  clear g2 g3 hac
  clear hA hl ta tc hna hnc h10 hrl
  go_enter Tryz.func5, Tryz.ntmps5
  go_wp2_with (go_at_call 7; (with_reducible refine (works12_any _ HL.out).mono ?_); rintro e w0 ⟨rfl, b0⟩; have B0 := Lib.hid b0; have HA0 := Lib.hid (HA.out.below b0); have HL0 := Lib.hid (HL.out.below b0); clear b0)
  go_loopw [7] (fun i wr => ∃ k : Nat, i = .int .i64 k ∧ w0 = wr ∧ k ≤ r) (fun i _ => match i with | .int _ x => (r - x).toNat | _ => 0)
  case atStart => exact ⟨0, rfl, rfl, by omega⟩
  case round =>
    obtain ⟨k, rfl, rfl, hk⟩ := hrel
    by_cases hlt : k < r
    · have R := fun w => IX.out k (by rw [HRL.out]; exact hlt) w
      have nb := N10.out k hlt
      have i1 : (k : Int) < (r : Int) := by omega
      generalize bat rk k = x at *
      go_wp2
      go_roundw
      case rel => exact ⟨k + 1, by simp, trivial, by omega⟩
      case measure => simp only []; omega
    · have i1 : ¬ (k : Int) < (r : Int) := by omega
      go_wp2
      go_loopw [8, 41] (fun v i wx => ∃ k2 : Nat, i = .int .u8 (k2 : Int) ∧ k2 ≤ dn ∧ wx.ownsRow w0.heap.size 5 1 v (4 * k2) (byteCells (blanksF k2)) ∧ Below w0.heap.size w0 wx) (fun _ i _ => match i with | .int _ x => (dn - x).toNat | _ => 0)
      case atStart => exact ⟨0, rfl, by omega, World.ownsRow_nil _ _ _ _, Below.refl _ _⟩
      case round =>
        obtain ⟨k2, rfl, hk2, ho, hb⟩ := hrel
        have K := Lib.hid hb
        by_cases hlt2 : k2 < dn
        · have O := Lib.hid ho
          have wu : IntKind.u8.wrap ((k2 : Int) + 1) = (k2 : Int) + 1 := by rw [IntKind.wrap_u8]; omega
          clear ho hb
          go_wp2_with (at_builtin; (with_reducible refine Lib.wpList_append_own_string _ rfl (.tmp 43) (.const (.string ⟨#[32, 9, 35, 10]⟩)) 22 9 rfl w0.heap.size 5 i0 Tryz.underlying22 Tryz.underlying9 Hi.out Hz0.out Hz1.out Hz2.out _ _ _ ?hs O.out ⟨#[32, 9, 35, 10]⟩ ?hx ?h1 ?h2 ?h3 ?_); (case hs => rfl); (case hx => rfl); (case h1 => (unfold maxLen; show 4 * k2 + 4 ≤ _; omega)); (case h2 => (show 4 * k2 + 4 ≤ _; omega)); (case h3 => exact K.out.size); intro v2 w2 hown2 hgrow2 _; have K2 := Lib.hid (below_app K.out O.out hgrow2); have O2 := Lib.hid (show w2.ownsRow w0.heap.size 5 1 v2 (4 * (k2 + 1)) (byteCells (blanksF (k2 + 1))) from by { rw [blanksF, bcells_app, show 4 * (k2 + 1) = 4 * k2 + 4 by omega]; exact hown2 }); clear hown2 hgrow2)
          go_roundw
          case rel => exact ⟨k2 + 1, by simp, by omega, O2.out, K2.out⟩
          case measure => simp only []; omega
        · obtain rfl : k2 = dn := by omega
          obtain ⟨Ab, cb, hv⟩ := own_shape ho
          subst hv
          have O := Lib.hid ho
          clear ho hb
          go_wp2_with (first
          | (at_builtin; (with_reducible refine wpList_bapp rfl (.tmp 46) (.tmp 47) 22 rfl w0.heap.size 5 i0 (.int .u8 0) 1 Tryz.underlying22 Hi.out Hz0.out Hz1.out Hz2.out ?hzs _ _ _ ?hs O.out A n c lb ?hx (HA0.out.below K.out) ?h1 ?h2 ?h3 ?_); (case hzs => rfl); (case hs => rfl); (case hx => rfl); (case h1 => (unfold maxLen; omega)); (case h2 => omega); (case h3 => exact K.out.size); intro v2 w2 hown2 hgrow2; have K2 := Lib.hid (below_app K.out O.out hgrow2); have O2 := Lib.hid hown2; clear hown2 hgrow2)
          | (at_builtin; (with_reducible refine Lib.wpList_append_own_string _ rfl (.tmp 48) (.tmp 50) 22 9 rfl w0.heap.size 5 i0 Tryz.underlying22 Tryz.underlying9 Hi.out Hz0.out Hz1.out Hz2.out _ _ _ ?hs O2.out (str (32 :: 35 :: rk)) ?hx ?h1 ?h2 ?h3 ?_); (case hs => rfl); (case hx => rfl); (case h1 => (unfold maxLen; rw [hsz2]; omega)); (case h2 => (rw [hsz2]; omega)); (case h3 => exact K2.out.size); intro v3 w3 hown3 hgrow3 _; rw [tx_strCells, hsz2] at hown3; have K3 := Lib.hid (below_app K2.out O2.out hgrow3); obtain ⟨A3, c3, rfl⟩ := own_shape hown3; have O3 := Lib.hid (CC.out w3 A3 c3 w0.heap.size hown3); clear hown3 hgrow3)
          | (go_at_call 8; (with_reducible refine (RA.out _ (HA0.out.below K3.out) (HL0.out.below K3.out)).mono ?_); rintro e w4 ⟨A4, n4, c4, rfl, s4, b4⟩; obtain rfl : n4 = na := by { rw [← s4.len, NA.out] }; have K4 := Lib.hid (trans_below K3.out b4); have O4 := Lib.hid (O3.out.below b4); have S4 := Lib.hid s4; clear s4 b4)
          | (go_at_call 8; (with_reducible refine (RC.out _ _ _ O4.out (HL0.out.below K4.out)).mono ?_); rintro e w5 ⟨A5, n5, c5, rfl, s5, b5⟩; obtain rfl : n5 = nc := by { rw [← s5.len, NC.out] }; have K5 := Lib.hid (trans_below K4.out b5); have B5 := Lib.hid (trans_below B0.out K5.out); have S5 := Lib.hid s5; have S4b := Lib.hid (S4.out.keep (F' := allB w5) (fun b hb => b5.block b hb) (fun b hb => Nat.lt_of_lt_of_le hb b5.size)); clear s5 b5)
          | (go_at_call 12; (with_reducible refine (xtsame_any A4 n4 c4 xa A5 n5 c5 xc _ S4b.out S5.out (by omega) (by omega)).mono ?_); rintro e w6 ⟨he6, b6⟩; rw [AL.out] at he6; subst he6; have K6 := Lib.hid (trans_below K5.out b6); have B6 := Lib.hid (trans_below B5.out b6); have S4c := Lib.hid (S4b.out.keep (F' := allB w6) (fun b hb => b6.block b hb) (fun b hb => Nat.lt_of_lt_of_le hb b6.size)); have S5c := Lib.hid (S5.out.keep (F' := allB w6) (fun b hb => b6.block b hb) (fun b hb => Nat.lt_of_lt_of_le hb b6.size)); have m1 := S4.out.le; have m2 := S4.out.cap; have m3 := S5.out.le; have m4 := S5.out.cap; clear b6))
          go_loopw [103] (fun i wx => ∃ k3 : Nat, i = .int .i64 (k3 : Int) ∧ k3 ≤ n4 ∧ Below w6.heap.size w6 wx) (fun i _ => match i with | .int _ x => (n4 - x).toNat | _ => 0)
          case atStart => exact ⟨0, rfl, by omega, Below.refl _ _⟩
          case round =>
            obtain ⟨k3, rfl, hk3, hb3⟩ := hrel
            have K7 := Lib.hid hb3
            have hn5 := HN.out
            clear hb3
            by_cases hlt3 : k3 < n4
            · obtain ⟨p4, o4, s1, s2, s3, s4, rfl, hp4, _, r4⟩ := lines_at S4c.out k3 hlt3
              obtain ⟨p5, o5, t1, t2, t3, t4, rfl, hp5, _, r5⟩ := lines_at S5c.out k3 (by omega)
              obtain ⟨q1, q2, q3⟩ := RW.out k3 hlt3
              have y4 := (K7.out.cell (p := ⟨p4, o4 + k3 * 17, none⟩) hp4).trans (r4 0 _ rfl)
              have y5 := (K7.out.cell (p := ⟨p5, o5 + k3 * 17, none⟩) hp5).trans (r5 0 _ rfl)
              rw [q1] at y5
              generalize (xa.getD k3 LV.zero).row = x at *
              subst hn5
              have i6 : ¬ (n5 : Int) ≤ (k3 : Int) := by omega
              have i7 : (k3 : Int) < (n5 : Int) := by omega
              have wx : IntKind.i64.wrap (x + (k2 : Int)) = x + (k2 : Int) := IntWalk.i64_in _ (by omega)
              have wd : IntKind.i64.wrap (k2 : Int) = (k2 : Int) := IntWalk.i64_in _ (by omega)
              clear r4 r5 q1
              go_wp2
              go_quiet (fail)
              go_wp2
              go_roundw
              case rel => exact ⟨k3 + 1, by simp, by omega, below_drewN K7.out _⟩
              case measure => simp only []; omega
            · clear hn5
              go_wp2
              go_ret
              exact ⟨rfl, trans_below B6.out K7.out⟩
set_option maxRecDepth 20000 in
theorem tblanks_big (A : Option Addr) (n c : Nat) (dn : Nat) (rk : List UInt8) (w : World) (hl : LdT w) (h : 3000 < n ∨ 20 < dn ∨ 300 < rk.length) :
    Calls Tryz.prog 5 #[.slice A n c, .int .u8 (dn : Int), .string (str rk)] w fun e w' => e = .returned (.bool true) ∧ Below w.heap.size w w' := by
  have HL := Lib.hid hl
  have hsz : (str rk).size = rk.length := str_size rk
  clear hl
  by_cases h1 : 3000 < n
  · have i0 : (3000 : Int) < (n : Int) := by omega
    clear h h1
    go_enter Tryz.func5, Tryz.ntmps5
    go_wp2_with (go_at_call 7; (with_reducible refine (works12_any _ HL.out).mono ?_); rintro e w0 ⟨rfl, b0⟩)
    go_ret
    exact ⟨rfl, b0⟩
  · have i0 : ¬ (3000 : Int) < (n : Int) := by omega
    by_cases h2 : 20 < dn
    · have i1 : (20 : Int) < (dn : Int) := by omega
      clear h h1 h2
      go_enter Tryz.func5, Tryz.ntmps5
      go_wp2_with (go_at_call 7; (with_reducible refine (works12_any _ HL.out).mono ?_); rintro e w0 ⟨rfl, b0⟩)
      go_ret
      exact ⟨rfl, b0⟩
    · have i1 : ¬ (20 : Int) < (dn : Int) := by omega
      have i2 : (300 : Int) < (rk.length : Int) := by omega
      clear h h1 h2
      go_enter Tryz.func5, Tryz.ntmps5
      go_wp2_with (go_at_call 7; (with_reducible refine (works12_any _ HL.out).mono ?_); rintro e w0 ⟨rfl, b0⟩)
      go_ret
      exact ⟨rfl, b0⟩
set_option maxRecDepth 20000 in
theorem tblanks_ten (A : Option Addr) (n c : Nat) (dn : Nat) (rk : List UInt8) (w : World) (hl : LdT w) (hn : n ≤ 3000) (hd : dn ≤ 20) (hr : rk.length ≤ 300) (h10 : (10 : UInt8) ∈ rk) :
    Calls Tryz.prog 5 #[.slice A n c, .int .u8 (dn : Int), .string (str rk)] w fun e w' => e = .returned (.bool true) ∧ Below w.heap.size w w' := by
  have HL := Lib.hid hl
  obtain ⟨r, hrl⟩ : ∃ r, rk.length = r := ⟨_, rfl⟩
  have HRL := Lib.hid hrl
  have H10 := Lib.hid h10
  rw [hrl] at hr
  have j0 : ¬ (3000 : Int) < (n : Int) := by omega
  have j1 : ¬ (20 : Int) < (dn : Int) := by omega
  have j2 : ¬ (300 : Int) < (r : Int) := by omega
  have hsz : (str rk).size = r := by rw [str_size, hrl]
  have IX := Lib.hid (run_index_bat rk)
  clear hl h10 hrl
  go_enter Tryz.func5, Tryz.ntmps5
  go_wp2_with (go_at_call 7; (with_reducible refine (works12_any _ HL.out).mono ?_); rintro e w0 ⟨rfl, b0⟩; have B0 := Lib.hid b0; clear b0)
  go_loopw [7] (fun i wr => ∃ k : Nat, i = .int .i64 k ∧ w0 = wr ∧ k ≤ r ∧ (10 : UInt8) ∉ rk.take k) (fun i _ => match i with | .int _ x => (r - x).toNat | _ => 0)
  case atStart => exact ⟨0, rfl, rfl, by omega, by simp⟩
  case round =>
    obtain ⟨k, rfl, rfl, hk, hf⟩ := hrel
    by_cases hlt : k < r
    · have R := fun w => IX.out k (by rw [HRL.out]; exact hlt) w
      have i1 : (k : Int) < (r : Int) := by omega
      have T := Lib.hid (bat_ten rk k)
      have HF := Lib.hid (show rk.getD k 0 ≠ 10 → (10 : UInt8) ∉ rk.take (k + 1) from fun e => by
        have h2 : k < rk.length := by rw [HRL.out]; exact hlt
        rw [List.take_succ_eq_append_getElem h2]
        simp only [List.mem_append, List.mem_singleton, not_or]
        refine ⟨hf, fun e2 => e ?_⟩
        simp [List.getD, h2, ← e2])
      generalize bat rk k = x at *
      clear hf
      by_cases e : x = 10
      · subst e
        go_wp2
        go_ret
        exact ⟨rfl, B0.out⟩
      · have HG := Lib.hid (HF.out (fun g => e (T.out.2 g)))
        go_wp2
        go_roundw
        case rel => exact ⟨k + 1, by simp, trivial, by omega, HG.out⟩
        case measure => simp only []; omega
    · have : rk.take k = rk := List.take_of_length_le (by rw [HRL.out]; omega)
      rw [this] at hf
      exact absurd H10.out hf
theorem tblanks_walk (A : Option Addr) (n c : Nat) (dn : Nat) (lb rk : List UInt8) (w : World) (hA : BSl w A n c lb) (hl : LdT w) :
    Calls Tryz.prog 5 #[.slice A n c, .int .u8 (dn : Int), .string (str rk)] w fun e w' => e = .returned (.bool true) ∧ Below w.heap.size w w' := by
  by_cases hb : 3000 < n ∨ 20 < dn ∨ 300 < rk.length
  · exact tblanks_big A n c dn rk w hl hb
  by_cases ht : (10 : UInt8) ∈ rk
  · exact tblanks_ten A n c dn rk w hl (by omega) (by omega) (by omega) ht
  obtain ⟨⟨ra, ea, xa⟩, ta⟩ : ∃ T, txV lb = T := ⟨_, rfl⟩
  obtain ⟨⟨rc, ec, xc⟩, tc⟩ : ∃ T, txV (blanksF dn ++ (lb ++ 32 :: 35 :: rk)) = T := ⟨_, rfl⟩
  by_cases h0 : ea = 3
  · exact tblanks_a A n c dn lb rk w hA hl (by omega) (by omega) (by omega) ht ra ea rc ec xa xc ta tc h0
  by_cases h1 : ec = 3
  · exact tblanks_b A n c dn lb rk w hA hl (by omega) (by omega) (by omega) ht ra ea rc ec xa xc ta tc h0 h1
  have e0 := txV_err (b := lb) (by rw [ta]; exact h0)
  have key := tx_blanks lb rk dn ht e0 (txV_err (by rw [tc]; exact h1))
  rw [ta, tc] at key
  obtain ⟨k1, k2⟩ := key
  by_cases g0 : ea = 0
  · obtain ⟨e1, e2⟩ := k2 g0
    exact tblanks_d A n c dn lb rk w hA hl (by omega) (by omega) (by omega) ht ra ea rc ec xa xc ta tc g0 e1 e2 (by have := txV_row e0; rw [ta] at this; exact this)
  · obtain ⟨e1, e2, e3, e4⟩ := k1 g0
    have hra : 0 ≤ ra ∧ ra ≤ 401 := by
      have h := txV_eq e0
      rw [ta] at h
      cases hx : txX (rwF lb) with
      | none => rw [hx] at h; injection h with h _; omega
      | some x =>
        rw [hx] at h
        injection h with h _
        have h3 := txX_lt hx
        have h4 := (rwE_zero e0).2
        omega
    exact tblanks_c A n c dn lb rk w hA hl (by omega) (by omega) (by omega) ht ra ea rc ec xa xc ta tc h0 g0 e1 e2 e3 e4 hra.1 hra.2
end Go.Proofs.YtcpakmkfnnbgeaaGreatDoor
