/- The walk of the statement Ipv4Back. -/
import Derived.Test.YtkeialkknepgaaaPkAny
import Derived.Test.YtkeialkknepgaaaPkBack
import Derived.Test.YtkeialkknepgaaaSeq
namespace Go.Proofs.Ytkeialkknepgaaa
open Go.RowKit
open Go.Lib (byteCells)

theorem zero_yes (w : World) : Calls Try.prog 17 #[.int .u8 255, .int .u8 255, .int .u8 0, .int .u8 0] w fun e w' => e = .returned (.bool true) ∧ w' = w := by
  go_enter Try.func17, Try.ntmps17
  go_wp2
  go_ret
  exact ⟨rfl, rfl⟩
/-- what was put is taken, whatever stands behind it -/
theorem take_put (T I L R S D : Int) (l t : List UInt8) (h : pok T I L R) (hS : 0 ≤ S ∧ S < 4294967296) (hD : 0 ≤ D ∧ D < 4294967296) (hn : l.length ≤ 1480) (A : Option Addr) (n c : Nat) (w : World) (hb : BSl w A n c (pbs T I L R S D l ++ t)) (hm : n ≤ 1000000) :
    Calls Try.prog 9 #[.slice A n c] w (GotP w T I L R S D l 0) := by
  obtain ⟨e0, e1, e2, e3, e4, e5, e6, e7⟩ := taken T I L R S D l t h hS hD hn
  have := ptake_ok A n c _ w hb hm e0
  rw [e1, e2, e3, e4, e5, e6, e7] at this
  exact this

/-- a row's bytes, of another's four, and of their texts, wherever what was there is as it was -/
def BackS (W : World) (g h o : Nat) (x0 x1 y0 y1 : Int) (V1 V2 : Value) (p q : ByteArray) (w' : World) : Prop :=
  w'.cell? ⟨h, o + 10, none⟩ = some (.int .u8 x0) ∧ w'.cell? ⟨h, o + 11, none⟩ = some (.int .u8 x1) ∧ w'.cell? ⟨g, 10, none⟩ = some (.int .u8 y0) ∧ w'.cell? ⟨g, 11, none⟩ = some (.int .u8 y1) ∧
  (convert 22 9 V1).run Try.prog w' = .ok (.string p) w' ∧ (convert 22 9 V2).run Try.prog w' = .ok (.string q) w' ∧ Below W.heap.size W w'

theorem back_long (T I L R S D : Int) (A : Option Addr) (n c : Nat) (l : List UInt8) (Y : Option Addr) (a b : Nat) (t : List UInt8) (B : Option Addr) (m d : Nat) (k : List UInt8) (w : World) (_hl : BSl w A n c l) (_ht : BSl w Y a b t) (_hk : BSl w B m d k) (h : 4000 < n ∨ 4000 < a ∨ 4000 < m) :
    Calls Try.prog 5 #[.agg #[.int .i64 T, .int .i64 I, .int .i64 L, .int .i64 R, .int .u32 S, .int .u32 D, .slice A n c], .slice Y a b, .slice B m d] w fun e w' => e = .returned (.bool true) ∧ Below w.heap.size w w' := by
  have X0 := Lib.hid (Box7.new w (.int .i64 T) (.int .i64 I) (.int .i64 L) (.int .i64 R) (.int .u32 S) (.int .u32 D) (.slice A n c) 26 w.heap.size rfl)
  by_cases h1 : 4000 < n
  · clear h
    go_enter Try.func5, Try.ntmps5
    go_wp2_with (go_at_call 8; (with_reducible refine (works07_any _).mono ?_); rintro e w1 ⟨rfl, hb1⟩; have B1 := Lib.hid hb1; obtain ⟨a0, a1, a2, a3, a4, a5, a6, af⟩ := X0.out.below hb1; have az := (X0.out.below hb1).lt; clear hb1)
    go_ret
    exact ⟨rfl, one_below B1.out⟩
  · have i1 : (n : Int) ≤ 4000 := by omega
    by_cases h2 : 4000 < a
    · clear h h1
      go_enter Try.func5, Try.ntmps5
      go_wp2_with (go_at_call 8; (with_reducible refine (works07_any _).mono ?_); rintro e w1 ⟨rfl, hb1⟩; have B1 := Lib.hid hb1; obtain ⟨a0, a1, a2, a3, a4, a5, a6, af⟩ := X0.out.below hb1; have az := (X0.out.below hb1).lt; clear hb1)
      go_ret
      exact ⟨rfl, one_below B1.out⟩
    · have i2 : (a : Int) ≤ 4000 := by omega
      have h3 : 4000 < m := by omega
      clear h h1 h2
      go_enter Try.func5, Try.ntmps5
      go_wp2_with (go_at_call 8; (with_reducible refine (works07_any _).mono ?_); rintro e w1 ⟨rfl, hb1⟩; have B1 := Lib.hid hb1; obtain ⟨a0, a1, a2, a3, a4, a5, a6, af⟩ := X0.out.below hb1; have az := (X0.out.below hb1).lt; clear hb1)
      go_ret
      exact ⟨rfl, one_below B1.out⟩

set_option maxHeartbeats 8000000 in
theorem back_ok_none (T I L R S D : Int) (A : Option Addr) (n c : Nat) (l : List UInt8) (Y : Option Addr) (a b : Nat) (t : List UInt8) (B : Option Addr) (m d : Nat) (k : List UInt8) (w : World) (hl : BSl w A n c l) (ht : BSl w Y a b t) (hk : BSl w B m d k) (hS : 0 ≤ S ∧ S < 4294967296) (hD : 0 ≤ D ∧ D < 4294967296) (hn : n ≤ 4000) (ha : a ≤ 4000) (hm : m ≤ 4000) (hp : pok T I L R) (hn2 : n ≤ 1480) (hr : ¬ rE k = 0) :
    Calls Try.prog 5 #[.agg #[.int .i64 T, .int .i64 I, .int .i64 L, .int .i64 R, .int .u32 S, .int .u32 D, .slice A n c], .slice Y a b, .slice B m d] w fun e w' => e = .returned (.bool true) ∧ Below w.heap.size w w' := by
  have X0 := Lib.hid (Box7.new w (.int .i64 T) (.int .i64 I) (.int .i64 L) (.int .i64 R) (.int .u32 S) (.int .u32 D) (.slice A n c) 26 w.heap.size rfl)
  have HS := Lib.hid (show BSl (w.alloc (.cells #[.int .i64 T, .int .i64 I, .int .i64 L, .int .i64 R, .int .u32 S, .int .u32 D, .slice A n c] 26)) A n c l from hl.alloc _)
  have HT := Lib.hid (show BSl (w.alloc (.cells #[.int .i64 T, .int .i64 I, .int .i64 L, .int .i64 R, .int .u32 S, .int .u32 D, .slice A n c] 26)) Y a b t from ht.alloc _)
  have HB := Lib.hid (show BSl (w.alloc (.cells #[.int .i64 T, .int .i64 I, .int .i64 L, .int .i64 R, .int .u32 S, .int .u32 D, .slice A n c] 26)) B m d k from hk.alloc _)
  have i1 : (n : Int) ≤ 4000 := by omega
  have i2 : (a : Int) ≤ 4000 := by omega
  have i3 : (m : Int) ≤ 4000 := by omega
  obtain ⟨i0, hi, hz0, hz1, hz2⟩ := info_parts Try.info5
  have Hi := Lib.hid hi; have Hz0 := Lib.hid hz0; have Hz1 := Lib.hid hz1; have Hz2 := Lib.hid hz2
  clear hi hz0 hz1 hz2
  have hlen := hl.len
  have PP := Lib.hid (fun w hl => pput_ok T I L R S D A n c l w hl hp hS hD hn2)
  have TB := Lib.hid (fun A n c w h => take_put T I L R S D l t hp hS hD (by omega) A n c w h)
  generalize pbs T I L R S D l = P at *
  have TN := Lib.hid (fun w h => ptake_no B m d k w h hr)
  generalize rE k = G at *
  have Y1 : (G == 0) = false := by simpa using hr
  have Y2 : (G != 0) = true := by simpa using hr
  clear hr hl ht hk
  go_enter Try.func5, Try.ntmps5
  go_wp2_with (first
    | (go_at_call 8; (with_reducible refine (works07_any _).mono ?_); rintro e w1 ⟨rfl, hb1⟩; have B1 := Lib.hid hb1; obtain ⟨a0, a1, a2, a3, a4, a5, a6, af⟩ := X0.out.below hb1; have az := (X0.out.below hb1).lt; clear hb1)
    | (go_at_call 12; (with_reducible refine (PP.out _ (HS.out.below B1.out)).mono ?_); rintro e w2 ⟨v2, rfl, hown2, hb2⟩; have O2 := Lib.hid hown2; have H2 := Lib.hid hb2; have B2 := Lib.hid (trans_below B1.out hb2); clear hown2 hb2 a0 a1 a2 a3 a4 a5 a6 af az)
    | (at_builtin; refine wpList_bapp rfl (.tmp 39) (.tmp 40) 22 rfl w1.heap.size 5 i0 (.int .u8 0) 1 Try.underlying22 Hi.out Hz0.out Hz1.out Hz2.out rfl _ _ _ (by rfl) O2.out Y a b t (by rfl) (HT.out.below B2.out) (by unfold maxLen; omega) (by omega) H2.out.size ?_; intro v3 w3 hown3 hgrow3; rw [← bcells_app] at hown3; have B3 := Lib.hid (B1.out.trans ((below_app H2.out O2.out hgrow3).mono B1.out.size)); obtain ⟨A3, c3, rfl⟩ := own_shape hown3; have S3 := Lib.hid (BSl.of_own hown3); clear hown3 hgrow3)
    | (go_at_call 9; (with_reducible refine (TB.out _ _ _ _ S3.out (by omega)).mono ?_); rintro e w4 ⟨A4, n4, c4, rfl, s4, hb4⟩; have S4 := Lib.hid (s4.alloc (.cells #[.int .i64 T, .int .i64 I, .int .i64 L, .int .i64 R, .int .u32 S, .int .u32 D, .slice A4 n4 c4] 26)); have B4 := Lib.hid ((trans_below B3.out hb4).alloc (trans_below B3.out hb4).size (.cells #[.int .i64 T, .int .i64 I, .int .i64 L, .int .i64 R, .int .u32 S, .int .u32 D, .slice A4 n4 c4] 26)); obtain ⟨a0, a1, a2, a3, a4, a5, a6, af⟩ := X0.out.below (trans_below B3.out hb4); have az := (X0.out.below (trans_below B3.out hb4)).lt; clear s4 hb4)
    | (go_at_call 16; (with_reducible refine (psame_self T I L R S D l A n c A4 n4 c4 _ (HS.out.below B4.out) S4.out).mono ?_); rintro e w5 ⟨rfl, hb5⟩; have B5 := Lib.hid (trans_below B4.out hb5); clear hb5 a0 a1 a2 a3 a4 a5 a6 af az)
    | (go_at_call 9; (with_reducible refine (TN.out _ (HB.out.below B5.out)).mono ?_); rintro e w6 ⟨A6, n6, c6, rfl, s6, hb6⟩; have S6 := Lib.hid (s6.alloc (.cells #[.int .i64 0, .int .i64 0, .int .i64 0, .int .i64 0, .int .u32 0, .int .u32 0, .slice A6 n6 c6] 26)); have B6 := Lib.hid ((trans_below B5.out hb6).alloc (trans_below B5.out hb6).size (.cells #[.int .i64 0, .int .i64 0, .int .i64 0, .int .i64 0, .int .u32 0, .int .u32 0, .slice A6 n6 c6] 26)); clear s6 hb6)
    | (go_at_call 16; (with_reducible refine (psame_self 0 0 0 0 0 0 [] A6 n6 c6 none 0 0 _ S6.out BSl.nil).mono ?_); rintro e w7 ⟨rfl, hb7⟩; have B7 := Lib.hid (trans_below B6.out hb7)))
  go_ret
  exact ⟨by simp, one_below B7.out⟩

set_option maxHeartbeats 8000000 in
theorem back_ok_long (T I L R S D : Int) (A : Option Addr) (n c : Nat) (l : List UInt8) (Y : Option Addr) (a b : Nat) (t : List UInt8) (B : Option Addr) (m d : Nat) (k : List UInt8) (w : World) (hl : BSl w A n c l) (ht : BSl w Y a b t) (hk : BSl w B m d k) (hS : 0 ≤ S ∧ S < 4294967296) (hD : 0 ≤ D ∧ D < 4294967296) (hn : n ≤ 4000) (ha : a ≤ 4000) (hm : m ≤ 4000) (hp : pok T I L R) (hn2 : n ≤ 1480) (hr : rE k = 0) (hN : 1480 < (bodyF k).length) :
    Calls Try.prog 5 #[.agg #[.int .i64 T, .int .i64 I, .int .i64 L, .int .i64 R, .int .u32 S, .int .u32 D, .slice A n c], .slice Y a b, .slice B m d] w fun e w' => e = .returned (.bool true) ∧ Below w.heap.size w w' := by
  have X0 := Lib.hid (Box7.new w (.int .i64 T) (.int .i64 I) (.int .i64 L) (.int .i64 R) (.int .u32 S) (.int .u32 D) (.slice A n c) 26 w.heap.size rfl)
  have HS := Lib.hid (show BSl (w.alloc (.cells #[.int .i64 T, .int .i64 I, .int .i64 L, .int .i64 R, .int .u32 S, .int .u32 D, .slice A n c] 26)) A n c l from hl.alloc _)
  have HT := Lib.hid (show BSl (w.alloc (.cells #[.int .i64 T, .int .i64 I, .int .i64 L, .int .i64 R, .int .u32 S, .int .u32 D, .slice A n c] 26)) Y a b t from ht.alloc _)
  have HB := Lib.hid (show BSl (w.alloc (.cells #[.int .i64 T, .int .i64 I, .int .i64 L, .int .i64 R, .int .u32 S, .int .u32 D, .slice A n c] 26)) B m d k from hk.alloc _)
  have i1 : (n : Int) ≤ 4000 := by omega
  have i2 : (a : Int) ≤ 4000 := by omega
  have i3 : (m : Int) ≤ 4000 := by omega
  obtain ⟨i0, hi, hz0, hz1, hz2⟩ := info_parts Try.info5
  have Hi := Lib.hid hi; have Hz0 := Lib.hid hz0; have Hz1 := Lib.hid hz1; have Hz2 := Lib.hid hz2
  clear hi hz0 hz1 hz2
  have hlen := hl.len
  have PP := Lib.hid (fun w hl => pput_ok T I L R S D A n c l w hl hp hS hD hn2)
  have TB := Lib.hid (fun A n c w h => take_put T I L R S D l t hp hS hD (by omega) A n c w h)
  generalize pbs T I L R S D l = P at *
  have hm3 := hk.len
  obtain ⟨N, hNe⟩ : ∃ N, (bodyF k).length = N := ⟨_, rfl⟩
  have TK := Lib.hid (fun w h => ptake_ok B m d k w h (by omega) hr)
  have hq := pok_of k
  have hS2 := four_bd k 12
  have hD2 := four_bd k 16
  have PQ := Lib.hid (fun A c w => pput_long (bat k 1) (two k 4) (bat k 8) (bat k 9) (four k 12) (four k 16) A N c w hq (by omega))
  generalize bat k 1 = T2 at *
  generalize two k 4 = I2 at *
  generalize bat k 8 = L2 at *
  generalize bat k 9 = R2 at *
  generalize four k 12 = S2 at *
  generalize four k 16 = D2 at *
  generalize bodyF k = bk at *
  have HN := Lib.hid hNe
  rw [hNe] at hN
  clear hl ht hr hq hS2 hD2 hNe hm3
  clear hk
  go_enter Try.func5, Try.ntmps5
  go_wp2_with (first
    | (go_at_call 8; (with_reducible refine (works07_any _).mono ?_); rintro e w1 ⟨rfl, hb1⟩; have B1 := Lib.hid hb1; obtain ⟨a0, a1, a2, a3, a4, a5, a6, af⟩ := X0.out.below hb1; have az := (X0.out.below hb1).lt; clear hb1)
    | (go_at_call 12; (with_reducible refine (PP.out _ (HS.out.below B1.out)).mono ?_); rintro e w2 ⟨v2, rfl, hown2, hb2⟩; have O2 := Lib.hid hown2; have H2 := Lib.hid hb2; have B2 := Lib.hid (trans_below B1.out hb2); clear hown2 hb2 a0 a1 a2 a3 a4 a5 a6 af az)
    | (at_builtin; refine wpList_bapp rfl (.tmp 39) (.tmp 40) 22 rfl w1.heap.size 5 i0 (.int .u8 0) 1 Try.underlying22 Hi.out Hz0.out Hz1.out Hz2.out rfl _ _ _ (by rfl) O2.out Y a b t (by rfl) (HT.out.below B2.out) (by unfold maxLen; omega) (by omega) H2.out.size ?_; intro v3 w3 hown3 hgrow3; rw [← bcells_app] at hown3; have B3 := Lib.hid (B1.out.trans ((below_app H2.out O2.out hgrow3).mono B1.out.size)); obtain ⟨A3, c3, rfl⟩ := own_shape hown3; have S3 := Lib.hid (BSl.of_own hown3); clear hown3 hgrow3)
    | (go_at_call 9; (with_reducible refine (TB.out _ _ _ _ S3.out (by omega)).mono ?_); rintro e w4 ⟨A4, n4, c4, rfl, s4, hb4⟩; have S4 := Lib.hid (s4.alloc (.cells #[.int .i64 T, .int .i64 I, .int .i64 L, .int .i64 R, .int .u32 S, .int .u32 D, .slice A4 n4 c4] 26)); have B4 := Lib.hid ((trans_below B3.out hb4).alloc (trans_below B3.out hb4).size (.cells #[.int .i64 T, .int .i64 I, .int .i64 L, .int .i64 R, .int .u32 S, .int .u32 D, .slice A4 n4 c4] 26)); obtain ⟨a0, a1, a2, a3, a4, a5, a6, af⟩ := X0.out.below (trans_below B3.out hb4); have az := (X0.out.below (trans_below B3.out hb4)).lt; clear s4 hb4)
    | (go_at_call 16; (with_reducible refine (psame_self T I L R S D l A n c A4 n4 c4 _ (HS.out.below B4.out) S4.out).mono ?_); rintro e w5 ⟨rfl, hb5⟩; have B5 := Lib.hid (trans_below B4.out hb5); clear hb5 a0 a1 a2 a3 a4 a5 a6 af az)
    | (go_at_call 9; (with_reducible refine (TK.out _ (HB.out.below B5.out)).mono ?_); rintro e w6 ⟨A6, n6, c6, rfl, s6, hb6⟩; obtain rfl : N = n6 := by { have e1 := s6.len; have e2 := HN.out; omega }; have S6 := Lib.hid (s6.alloc (.cells #[.int .i64 T2, .int .i64 I2, .int .i64 L2, .int .i64 R2, .int .u32 S2, .int .u32 D2, .slice A6 N c6] 26)); have Y6 := Lib.hid (Box7.new w6 (.int .i64 T2) (.int .i64 I2) (.int .i64 L2) (.int .i64 R2) (.int .u32 S2) (.int .u32 D2) (.slice A6 N c6) 26 w6.heap.size rfl); have B6 := Lib.hid ((trans_below B5.out hb6).alloc (trans_below B5.out hb6).size (.cells #[.int .i64 T2, .int .i64 I2, .int .i64 L2, .int .i64 R2, .int .u32 S2, .int .u32 D2, .slice A6 N c6] 26)); clear s6 hb6)
    | (go_at_call 12; (with_reducible refine (PQ.out A6 c6 _).mono ?_); rintro e w7 ⟨rfl, hb7⟩; have B7 := Lib.hid (trans_below B6.out hb7); obtain ⟨a0, a1, a2, a3, a4, a5, a6, af⟩ := Y6.out.below hb7; have az := (Y6.out.below hb7).lt))
  go_ret
  exact ⟨by simp, one_below B7.out⟩

set_option maxHeartbeats 8000000 in
theorem back_ok_eq (T I L R S D : Int) (A : Option Addr) (n c : Nat) (l : List UInt8) (Y : Option Addr) (a b : Nat) (t : List UInt8) (B : Option Addr) (m d : Nat) (k : List UInt8) (w : World) (hl : BSl w A n c l) (ht : BSl w Y a b t) (hk : BSl w B m d k) (hS : 0 ≤ S ∧ S < 4294967296) (hD : 0 ≤ D ∧ D < 4294967296) (hn : n ≤ 4000) (ha : a ≤ 4000) (hm : m ≤ 4000) (hp : pok T I L R) (hn2 : n ≤ 1480) (hr : rE k = 0) (hN : (bodyF k).length ≤ 1480) (hlk : 20 + (bodyF k).length ≤ m) (he : pbs (bat k 1) (two k 4) (bat k 8) (bat k 9) (four k 12) (four k 16) (bodyF k) = k.take (20 + (bodyF k).length)) :
    Calls Try.prog 5 #[.agg #[.int .i64 T, .int .i64 I, .int .i64 L, .int .i64 R, .int .u32 S, .int .u32 D, .slice A n c], .slice Y a b, .slice B m d] w fun e w' => e = .returned (.bool true) ∧ Below w.heap.size w w' := by
  have X0 := Lib.hid (Box7.new w (.int .i64 T) (.int .i64 I) (.int .i64 L) (.int .i64 R) (.int .u32 S) (.int .u32 D) (.slice A n c) 26 w.heap.size rfl)
  have HS := Lib.hid (show BSl (w.alloc (.cells #[.int .i64 T, .int .i64 I, .int .i64 L, .int .i64 R, .int .u32 S, .int .u32 D, .slice A n c] 26)) A n c l from hl.alloc _)
  have HT := Lib.hid (show BSl (w.alloc (.cells #[.int .i64 T, .int .i64 I, .int .i64 L, .int .i64 R, .int .u32 S, .int .u32 D, .slice A n c] 26)) Y a b t from ht.alloc _)
  have HB := Lib.hid (show BSl (w.alloc (.cells #[.int .i64 T, .int .i64 I, .int .i64 L, .int .i64 R, .int .u32 S, .int .u32 D, .slice A n c] 26)) B m d k from hk.alloc _)
  have i1 : (n : Int) ≤ 4000 := by omega
  have i2 : (a : Int) ≤ 4000 := by omega
  have i3 : (m : Int) ≤ 4000 := by omega
  obtain ⟨i0, hi, hz0, hz1, hz2⟩ := info_parts Try.info5
  have Hi := Lib.hid hi; have Hz0 := Lib.hid hz0; have Hz1 := Lib.hid hz1; have Hz2 := Lib.hid hz2
  clear hi hz0 hz1 hz2
  have hlen := hl.len
  have PP := Lib.hid (fun w hl => pput_ok T I L R S D A n c l w hl hp hS hD hn2)
  have TB := Lib.hid (fun A n c w h => take_put T I L R S D l t hp hS hD (by omega) A n c w h)
  generalize pbs T I L R S D l = P at *
  have hm3 := hk.len
  obtain ⟨N, hNe⟩ : ∃ N, (bodyF k).length = N := ⟨_, rfl⟩
  have TK := Lib.hid (fun w h => ptake_ok B m d k w h (by omega) hr)
  have hq := pok_of k
  have hS2 := four_bd k 12
  have hD2 := four_bd k 16
  have PQ := Lib.hid (fun A c w h => pput_ok (bat k 1) (two k 4) (bat k 8) (bat k 9) (four k 12) (four k 16) A N c (bodyF k) w h hq hS2 hD2 (by omega))
  rw [hNe] at hlk he
  generalize pbs (bat k 1) (two k 4) (bat k 8) (bat k 9) (four k 12) (four k 16) (bodyF k) = Q at *
  generalize bat k 1 = T2 at *
  generalize two k 4 = I2 at *
  generalize bat k 8 = L2 at *
  generalize bat k 9 = R2 at *
  generalize four k 12 = S2 at *
  generalize four k 16 = D2 at *
  generalize bodyF k = bk at *
  have HN := Lib.hid hNe
  rw [hNe] at hN
  have EQ := Lib.hid he
  obtain ⟨x0, hx0⟩ : ∃ x, bat k 10 = x := ⟨_, rfl⟩
  obtain ⟨x1, hx1⟩ : ∃ x, bat k 11 = x := ⟨_, rfl⟩
  obtain ⟨y0, hy0⟩ : ∃ x, bat Q 10 = x := ⟨_, rfl⟩
  obtain ⟨y1, hy1⟩ : ∃ x, bat Q 11 = x := ⟨_, rfl⟩
  have G10 := Lib.hid hx0; have G11 := Lib.hid hx1; have Q10 := Lib.hid hy0; have Q11 := Lib.hid hy1
  clear he hx0 hx1 hy0 hy1
  clear hl ht hr hq hS2 hD2 hNe hm3
  obtain ⟨hb, of, rfl, hbl, hcs⟩ := hk.at_ (by omega)
  clear hcs
  clear hk
  go_enter Try.func5, Try.ntmps5
  go_wp2_with (first
    | (go_at_call 8; (with_reducible refine (works07_any _).mono ?_); rintro e w1 ⟨rfl, hb1⟩; have B1 := Lib.hid hb1; obtain ⟨a0, a1, a2, a3, a4, a5, a6, af⟩ := X0.out.below hb1; have az := (X0.out.below hb1).lt; clear hb1)
    | (go_at_call 12; (with_reducible refine (PP.out _ (HS.out.below B1.out)).mono ?_); rintro e w2 ⟨v2, rfl, hown2, hb2⟩; have O2 := Lib.hid hown2; have H2 := Lib.hid hb2; have B2 := Lib.hid (trans_below B1.out hb2); clear hown2 hb2 a0 a1 a2 a3 a4 a5 a6 af az)
    | (at_builtin; refine wpList_bapp rfl (.tmp 39) (.tmp 40) 22 rfl w1.heap.size 5 i0 (.int .u8 0) 1 Try.underlying22 Hi.out Hz0.out Hz1.out Hz2.out rfl _ _ _ (by rfl) O2.out Y a b t (by rfl) (HT.out.below B2.out) (by unfold maxLen; omega) (by omega) H2.out.size ?_; intro v3 w3 hown3 hgrow3; rw [← bcells_app] at hown3; have B3 := Lib.hid (B1.out.trans ((below_app H2.out O2.out hgrow3).mono B1.out.size)); obtain ⟨A3, c3, rfl⟩ := own_shape hown3; have S3 := Lib.hid (BSl.of_own hown3); clear hown3 hgrow3)
    | (go_at_call 9; (with_reducible refine (TB.out _ _ _ _ S3.out (by omega)).mono ?_); rintro e w4 ⟨A4, n4, c4, rfl, s4, hb4⟩; have S4 := Lib.hid (s4.alloc (.cells #[.int .i64 T, .int .i64 I, .int .i64 L, .int .i64 R, .int .u32 S, .int .u32 D, .slice A4 n4 c4] 26)); have B4 := Lib.hid ((trans_below B3.out hb4).alloc (trans_below B3.out hb4).size (.cells #[.int .i64 T, .int .i64 I, .int .i64 L, .int .i64 R, .int .u32 S, .int .u32 D, .slice A4 n4 c4] 26)); obtain ⟨a0, a1, a2, a3, a4, a5, a6, af⟩ := X0.out.below (trans_below B3.out hb4); have az := (X0.out.below (trans_below B3.out hb4)).lt; clear s4 hb4)
    | (go_at_call 16; (with_reducible refine (psame_self T I L R S D l A n c A4 n4 c4 _ (HS.out.below B4.out) S4.out).mono ?_); rintro e w5 ⟨rfl, hb5⟩; have B5 := Lib.hid (trans_below B4.out hb5); clear hb5 a0 a1 a2 a3 a4 a5 a6 af az)
    | (go_at_call 9; (with_reducible refine (TK.out _ (HB.out.below B5.out)).mono ?_); rintro e w6 ⟨A6, n6, c6, rfl, s6, hb6⟩; obtain rfl : N = n6 := by { have e1 := s6.len; have e2 := HN.out; omega }; have S6 := Lib.hid (s6.alloc (.cells #[.int .i64 T2, .int .i64 I2, .int .i64 L2, .int .i64 R2, .int .u32 S2, .int .u32 D2, .slice A6 N c6] 26)); have Y6 := Lib.hid (Box7.new w6 (.int .i64 T2) (.int .i64 I2) (.int .i64 L2) (.int .i64 R2) (.int .u32 S2) (.int .u32 D2) (.slice A6 N c6) 26 w6.heap.size rfl); have B6 := Lib.hid ((trans_below B5.out hb6).alloc (trans_below B5.out hb6).size (.cells #[.int .i64 T2, .int .i64 I2, .int .i64 L2, .int .i64 R2, .int .u32 S2, .int .u32 D2, .slice A6 N c6] 26)); clear s6 hb6)
    | (go_at_call 12; (with_reducible refine (PQ.out A6 c6 _ S6.out).mono ?_); rintro e w7 ⟨v7, rfl, hown7, hb7⟩; have B7 := Lib.hid (trans_below B6.out hb7); obtain ⟨a0, a1, a2, a3, a4, a5, a6, af⟩ := Y6.out.below hb7; have az := (Y6.out.below hb7).lt; obtain ⟨g, gc, rfl, hg0, hg1, hgc, hgm⟩ := own_form hown7 (by omega); have O7 := Lib.hid hown7; clear hown7 hb7))
  have HB7 := Lib.hid (HB.out.below B7.out)
  have HK := Lib.hid (show ∀ w', Below w7.heap.size w7 w' → BackS w7 g hb of x0 x1 y0 y1 (.slice (some ⟨g, 0, none⟩) (20 + N) gc) (.slice (some ⟨hb, of, none⟩) (20 + N) d) (str Q) (str (k.take (20 + N))) w' from fun w' b => by
    have og := own_below O7.out b
    have kb := HB7.out.below b
    obtain ⟨_, _, e, hbl2, hc⟩ := kb.at_ (by omega)
    cases e
    have c10 := hc 10 (by omega); have c11 := hc 11 (by omega)
    have d10 := own_cellB og 10 (by omega); have d11 := own_cellB og 11 (by omega)
    rw [G10.out] at c10; rw [G11.out] at c11; rw [Q10.out] at d10; rw [Q11.out] at d11
    exact ⟨c10, c11, d10, d11, run_string_bsl w' _ _ _ _ (BSl.of_own og), run_string_bsl w' _ _ _ _ (kb.head (20 + N) (by omega)), b⟩)
  have j1 : (20 : Int) ≤ 20 + (N : Int) := by omega
  have j2 : 20 + (N : Int) ≤ (m : Int) := by omega
  have j3 : (10 : Int) < (m : Int) := by omega
  have j4 : (11 : Int) < (m : Int) := by omega
  have j5 : (10 : Int) < 20 + (N : Int) := by omega
  have j6 : (11 : Int) < 20 + (N : Int) := by omega
  have j7 := HB7.out.le
  have j8 : 20 + (N : Int) ≤ (d : Int) := by omega
  have j9 : 20 + N ≤ d := by omega
  have j0 : (0 : Int) ≤ 20 + (N : Int) := by omega
  have jt : (20 + (N : Int)).toNat = 20 + N := by omega
  have jm : 20 + N ≤ m := by omega
  have jd : ¬ d = 0 := by omega
  clear a0 a1 a2 a3 a4 a5 a6 af az
  have hX0 := Lib.hid (HK.out w7.drew (below_drewN (Below.refl _ _) 1))
  refine wp_region_text (BackS w7 g hb of x0 x1 y0 y1 (.slice (some ⟨g, 0, none⟩) (20 + N) gc) (.slice (some ⟨hb, of, none⟩) (20 + N) d) (str Q) (str (k.take (20 + N)))) (by kernel_rfl) (by kernel_rfl) hX0.out ?_
  repeat
    first
      | (refine Seq.pass rfl ?_; simp only [Act.put, List.setIfInBounds_toArray, List.set_cons_zero, List.set_cons_succ])
      | (refine Seq.run ?_ rfl (fun wx hx => ?_) ?_
         rotate_left
         · have hx2 := hx
           obtain ⟨b0, b1, b2, b3, q1, q2, hbx⟩ := hx2
           have eq2 : (Q == k.take (20 + N)) = true := by rw [EQ.out]; exact beq_self_eq_true _
           go_simp
           first
             | (refine StepRun.val ?_; exact hx)
             | (refine StepRun.call (v := .bool true) ?_; (with_reducible refine Calls.mono (zero_yes _) ?_); rintro e w' ⟨rfl, rfl⟩; exact ⟨rfl, hx⟩)
         simp only [Act.put, List.setIfInBounds_toArray, List.set_cons_zero, List.set_cons_succ])
  refine Seq.last (fun wx hx => ?_)
  go_wp2
  go_ret
  exact ⟨by simp, one_below (trans_below B7.out hx.2.2.2.2.2.2)⟩

set_option maxHeartbeats 8000000 in
theorem back_ok_ne (T I L R S D : Int) (A : Option Addr) (n c : Nat) (l : List UInt8) (Y : Option Addr) (a b : Nat) (t : List UInt8) (B : Option Addr) (m d : Nat) (k : List UInt8) (w : World) (hl : BSl w A n c l) (ht : BSl w Y a b t) (hk : BSl w B m d k) (hS : 0 ≤ S ∧ S < 4294967296) (hD : 0 ≤ D ∧ D < 4294967296) (hn : n ≤ 4000) (ha : a ≤ 4000) (hm : m ≤ 4000) (hp : pok T I L R) (hn2 : n ≤ 1480) (hr : rE k = 0) (hN : (bodyF k).length ≤ 1480) (hlk : 20 + (bodyF k).length ≤ m) (hne : ¬ pbs (bat k 1) (two k 4) (bat k 8) (bat k 9) (four k 12) (four k 16) (bodyF k) = k.take (20 + (bodyF k).length)) (h0 : bat k 10 = 255 ∧ bat k 11 = 255 ∧ bat (pbs (bat k 1) (two k 4) (bat k 8) (bat k 9) (four k 12) (four k 16) (bodyF k)) 10 = 0 ∧ bat (pbs (bat k 1) (two k 4) (bat k 8) (bat k 9) (four k 12) (four k 16) (bodyF k)) 11 = 0) :
    Calls Try.prog 5 #[.agg #[.int .i64 T, .int .i64 I, .int .i64 L, .int .i64 R, .int .u32 S, .int .u32 D, .slice A n c], .slice Y a b, .slice B m d] w fun e w' => e = .returned (.bool true) ∧ Below w.heap.size w w' := by
  have X0 := Lib.hid (Box7.new w (.int .i64 T) (.int .i64 I) (.int .i64 L) (.int .i64 R) (.int .u32 S) (.int .u32 D) (.slice A n c) 26 w.heap.size rfl)
  have HS := Lib.hid (show BSl (w.alloc (.cells #[.int .i64 T, .int .i64 I, .int .i64 L, .int .i64 R, .int .u32 S, .int .u32 D, .slice A n c] 26)) A n c l from hl.alloc _)
  have HT := Lib.hid (show BSl (w.alloc (.cells #[.int .i64 T, .int .i64 I, .int .i64 L, .int .i64 R, .int .u32 S, .int .u32 D, .slice A n c] 26)) Y a b t from ht.alloc _)
  have HB := Lib.hid (show BSl (w.alloc (.cells #[.int .i64 T, .int .i64 I, .int .i64 L, .int .i64 R, .int .u32 S, .int .u32 D, .slice A n c] 26)) B m d k from hk.alloc _)
  have i1 : (n : Int) ≤ 4000 := by omega
  have i2 : (a : Int) ≤ 4000 := by omega
  have i3 : (m : Int) ≤ 4000 := by omega
  obtain ⟨i0, hi, hz0, hz1, hz2⟩ := info_parts Try.info5
  have Hi := Lib.hid hi; have Hz0 := Lib.hid hz0; have Hz1 := Lib.hid hz1; have Hz2 := Lib.hid hz2
  clear hi hz0 hz1 hz2
  have hlen := hl.len
  have PP := Lib.hid (fun w hl => pput_ok T I L R S D A n c l w hl hp hS hD hn2)
  have TB := Lib.hid (fun A n c w h => take_put T I L R S D l t hp hS hD (by omega) A n c w h)
  generalize pbs T I L R S D l = P at *
  have hm3 := hk.len
  obtain ⟨N, hNe⟩ : ∃ N, (bodyF k).length = N := ⟨_, rfl⟩
  have TK := Lib.hid (fun w h => ptake_ok B m d k w h (by omega) hr)
  have hq := pok_of k
  have hS2 := four_bd k 12
  have hD2 := four_bd k 16
  have PQ := Lib.hid (fun A c w h => pput_ok (bat k 1) (two k 4) (bat k 8) (bat k 9) (four k 12) (four k 16) A N c (bodyF k) w h hq hS2 hD2 (by omega))
  rw [hNe] at hlk hne
  generalize pbs (bat k 1) (two k 4) (bat k 8) (bat k 9) (four k 12) (four k 16) (bodyF k) = Q at *
  generalize bat k 1 = T2 at *
  generalize two k 4 = I2 at *
  generalize bat k 8 = L2 at *
  generalize bat k 9 = R2 at *
  generalize four k 12 = S2 at *
  generalize four k 16 = D2 at *
  generalize bodyF k = bk at *
  have HN := Lib.hid hNe
  rw [hNe] at hN
  obtain ⟨k10, k11, q10, q11⟩ := h0
  have G10 := Lib.hid k10; have G11 := Lib.hid k11; have Q10 := Lib.hid q10; have Q11 := Lib.hid q11
  have NE := Lib.hid (show (Q == k.take (20 + N)) = false by simpa using hne)
  clear k10 k11 q10 q11 hne
  clear hl ht hr hq hS2 hD2 hNe hm3
  obtain ⟨hb, of, rfl, hbl, hcs⟩ := hk.at_ (by omega)
  clear hcs
  clear hk
  go_enter Try.func5, Try.ntmps5
  go_wp2_with (first
    | (go_at_call 8; (with_reducible refine (works07_any _).mono ?_); rintro e w1 ⟨rfl, hb1⟩; have B1 := Lib.hid hb1; obtain ⟨a0, a1, a2, a3, a4, a5, a6, af⟩ := X0.out.below hb1; have az := (X0.out.below hb1).lt; clear hb1)
    | (go_at_call 12; (with_reducible refine (PP.out _ (HS.out.below B1.out)).mono ?_); rintro e w2 ⟨v2, rfl, hown2, hb2⟩; have O2 := Lib.hid hown2; have H2 := Lib.hid hb2; have B2 := Lib.hid (trans_below B1.out hb2); clear hown2 hb2 a0 a1 a2 a3 a4 a5 a6 af az)
    | (at_builtin; refine wpList_bapp rfl (.tmp 39) (.tmp 40) 22 rfl w1.heap.size 5 i0 (.int .u8 0) 1 Try.underlying22 Hi.out Hz0.out Hz1.out Hz2.out rfl _ _ _ (by rfl) O2.out Y a b t (by rfl) (HT.out.below B2.out) (by unfold maxLen; omega) (by omega) H2.out.size ?_; intro v3 w3 hown3 hgrow3; rw [← bcells_app] at hown3; have B3 := Lib.hid (B1.out.trans ((below_app H2.out O2.out hgrow3).mono B1.out.size)); obtain ⟨A3, c3, rfl⟩ := own_shape hown3; have S3 := Lib.hid (BSl.of_own hown3); clear hown3 hgrow3)
    | (go_at_call 9; (with_reducible refine (TB.out _ _ _ _ S3.out (by omega)).mono ?_); rintro e w4 ⟨A4, n4, c4, rfl, s4, hb4⟩; have S4 := Lib.hid (s4.alloc (.cells #[.int .i64 T, .int .i64 I, .int .i64 L, .int .i64 R, .int .u32 S, .int .u32 D, .slice A4 n4 c4] 26)); have B4 := Lib.hid ((trans_below B3.out hb4).alloc (trans_below B3.out hb4).size (.cells #[.int .i64 T, .int .i64 I, .int .i64 L, .int .i64 R, .int .u32 S, .int .u32 D, .slice A4 n4 c4] 26)); obtain ⟨a0, a1, a2, a3, a4, a5, a6, af⟩ := X0.out.below (trans_below B3.out hb4); have az := (X0.out.below (trans_below B3.out hb4)).lt; clear s4 hb4)
    | (go_at_call 16; (with_reducible refine (psame_self T I L R S D l A n c A4 n4 c4 _ (HS.out.below B4.out) S4.out).mono ?_); rintro e w5 ⟨rfl, hb5⟩; have B5 := Lib.hid (trans_below B4.out hb5); clear hb5 a0 a1 a2 a3 a4 a5 a6 af az)
    | (go_at_call 9; (with_reducible refine (TK.out _ (HB.out.below B5.out)).mono ?_); rintro e w6 ⟨A6, n6, c6, rfl, s6, hb6⟩; obtain rfl : N = n6 := by { have e1 := s6.len; have e2 := HN.out; omega }; have S6 := Lib.hid (s6.alloc (.cells #[.int .i64 T2, .int .i64 I2, .int .i64 L2, .int .i64 R2, .int .u32 S2, .int .u32 D2, .slice A6 N c6] 26)); have Y6 := Lib.hid (Box7.new w6 (.int .i64 T2) (.int .i64 I2) (.int .i64 L2) (.int .i64 R2) (.int .u32 S2) (.int .u32 D2) (.slice A6 N c6) 26 w6.heap.size rfl); have B6 := Lib.hid ((trans_below B5.out hb6).alloc (trans_below B5.out hb6).size (.cells #[.int .i64 T2, .int .i64 I2, .int .i64 L2, .int .i64 R2, .int .u32 S2, .int .u32 D2, .slice A6 N c6] 26)); clear s6 hb6)
    | (go_at_call 12; (with_reducible refine (PQ.out A6 c6 _ S6.out).mono ?_); rintro e w7 ⟨v7, rfl, hown7, hb7⟩; have B7 := Lib.hid (trans_below B6.out hb7); obtain ⟨a0, a1, a2, a3, a4, a5, a6, af⟩ := Y6.out.below hb7; have az := (Y6.out.below hb7).lt; obtain ⟨g, gc, rfl, hg0, hg1, hgc, hgm⟩ := own_form hown7 (by omega); have O7 := Lib.hid hown7; clear hown7 hb7))
  have HB7 := Lib.hid (HB.out.below B7.out)
  have HK := Lib.hid (show ∀ w', Below w7.heap.size w7 w' → BackS w7 g hb of 255 255 0 0 (.slice (some ⟨g, 0, none⟩) (20 + N) gc) (.slice (some ⟨hb, of, none⟩) (20 + N) d) (str Q) (str (k.take (20 + N))) w' from fun w' b => by
    have og := own_below O7.out b
    have kb := HB7.out.below b
    obtain ⟨_, _, e, hbl2, hc⟩ := kb.at_ (by omega)
    cases e
    have c10 := hc 10 (by omega); have c11 := hc 11 (by omega)
    have d10 := own_cellB og 10 (by omega); have d11 := own_cellB og 11 (by omega)
    rw [G10.out] at c10; rw [G11.out] at c11; rw [Q10.out] at d10; rw [Q11.out] at d11
    exact ⟨c10, c11, d10, d11, run_string_bsl w' _ _ _ _ (BSl.of_own og), run_string_bsl w' _ _ _ _ (kb.head (20 + N) (by omega)), b⟩)
  have j1 : (20 : Int) ≤ 20 + (N : Int) := by omega
  have j2 : 20 + (N : Int) ≤ (m : Int) := by omega
  have j3 : (10 : Int) < (m : Int) := by omega
  have j4 : (11 : Int) < (m : Int) := by omega
  have j5 : (10 : Int) < 20 + (N : Int) := by omega
  have j6 : (11 : Int) < 20 + (N : Int) := by omega
  have j7 := HB7.out.le
  have j8 : 20 + (N : Int) ≤ (d : Int) := by omega
  have j9 : 20 + N ≤ d := by omega
  have j0 : (0 : Int) ≤ 20 + (N : Int) := by omega
  have jt : (20 + (N : Int)).toNat = 20 + N := by omega
  have jm : 20 + N ≤ m := by omega
  have jd : ¬ d = 0 := by omega
  clear a0 a1 a2 a3 a4 a5 a6 af az
  have hX0 := Lib.hid (HK.out w7.drew (below_drewN (Below.refl _ _) 1))
  refine wp_region_text (BackS w7 g hb of 255 255 0 0 (.slice (some ⟨g, 0, none⟩) (20 + N) gc) (.slice (some ⟨hb, of, none⟩) (20 + N) d) (str Q) (str (k.take (20 + N)))) (by kernel_rfl) (by kernel_rfl) hX0.out ?_
  repeat
    first
      | (refine Seq.pass rfl ?_; simp only [Act.put, List.setIfInBounds_toArray, List.set_cons_zero, List.set_cons_succ])
      | (refine Seq.run ?_ rfl (fun wx hx => ?_) ?_
         rotate_left
         · have hx2 := hx
           obtain ⟨b0, b1, b2, b3, q1, q2, hbx⟩ := hx2
           have ne := NE.out
           go_simp
           first
             | (refine StepRun.val ?_; exact hx)
             | (refine StepRun.call (v := .bool true) ?_; (with_reducible refine Calls.mono (zero_yes _) ?_); rintro e w' ⟨rfl, rfl⟩; exact ⟨rfl, hx⟩)
         simp only [Act.put, List.setIfInBounds_toArray, List.set_cons_zero, List.set_cons_succ])
  refine Seq.last (fun wx hx => ?_)
  go_wp2
  go_ret
  exact ⟨by simp, one_below (trans_below B7.out hx.2.2.2.2.2.2)⟩

set_option maxHeartbeats 8000000 in
theorem back_bad_none (T I L R S D : Int) (A : Option Addr) (n c : Nat) (l : List UInt8) (Y : Option Addr) (a b : Nat) (t : List UInt8) (B : Option Addr) (m d : Nat) (k : List UInt8) (w : World) (hl : BSl w A n c l) (ht : BSl w Y a b t) (hk : BSl w B m d k) (hS : 0 ≤ S ∧ S < 4294967296) (hD : 0 ≤ D ∧ D < 4294967296) (hn : n ≤ 4000) (ha : a ≤ 4000) (hm : m ≤ 4000) (hE : ¬ pkE T I L R l.length = 0) (hr : ¬ rE k = 0) :
    Calls Try.prog 5 #[.agg #[.int .i64 T, .int .i64 I, .int .i64 L, .int .i64 R, .int .u32 S, .int .u32 D, .slice A n c], .slice Y a b, .slice B m d] w fun e w' => e = .returned (.bool true) ∧ Below w.heap.size w w' := by
  have X0 := Lib.hid (Box7.new w (.int .i64 T) (.int .i64 I) (.int .i64 L) (.int .i64 R) (.int .u32 S) (.int .u32 D) (.slice A n c) 26 w.heap.size rfl)
  have HS := Lib.hid (show BSl (w.alloc (.cells #[.int .i64 T, .int .i64 I, .int .i64 L, .int .i64 R, .int .u32 S, .int .u32 D, .slice A n c] 26)) A n c l from hl.alloc _)
  have HT := Lib.hid (show BSl (w.alloc (.cells #[.int .i64 T, .int .i64 I, .int .i64 L, .int .i64 R, .int .u32 S, .int .u32 D, .slice A n c] 26)) Y a b t from ht.alloc _)
  have HB := Lib.hid (show BSl (w.alloc (.cells #[.int .i64 T, .int .i64 I, .int .i64 L, .int .i64 R, .int .u32 S, .int .u32 D, .slice A n c] 26)) B m d k from hk.alloc _)
  have i1 : (n : Int) ≤ 4000 := by omega
  have i2 : (a : Int) ≤ 4000 := by omega
  have i3 : (m : Int) ≤ 4000 := by omega
  have PP := Lib.hid (fun w h => pput_any T I L R S D A n c l w h hS hD)
  unfold GotPut at PP
  generalize ol (pkE T I L R l.length) (pbs T I L R S D l) = X at *
  generalize pkE T I L R l.length = E at *
  have X1 : (E == 0) = false := by simpa using hE
  have X2 : (E != 0) = true := by simpa using hE
  clear hE
  have TN := Lib.hid (fun w h => ptake_no B m d k w h hr)
  generalize rE k = G at *
  have Y1 : (G == 0) = false := by simpa using hr
  have Y2 : (G != 0) = true := by simpa using hr
  clear hr hl ht hk
  go_enter Try.func5, Try.ntmps5
  go_wp2_with (first
    | (go_at_call 8; (with_reducible refine (works07_any _).mono ?_); rintro e w1 ⟨rfl, hb1⟩; have B1 := Lib.hid hb1; obtain ⟨a0, a1, a2, a3, a4, a5, a6, af⟩ := X0.out.below hb1; have az := (X0.out.below hb1).lt; clear hb1)
    | (go_at_call 12; (with_reducible refine (PP.out _ (HS.out.below B1.out)).mono ?_); rintro e w5 ⟨A2, n2, c2, rfl, s2, hb2⟩; have B5 := Lib.hid (trans_below B1.out hb2); clear s2 hb2 a0 a1 a2 a3 a4 a5 a6 af az)
    | (go_at_call 9; (with_reducible refine (TN.out _ (HB.out.below B5.out)).mono ?_); rintro e w6 ⟨A6, n6, c6, rfl, s6, hb6⟩; have S6 := Lib.hid (s6.alloc (.cells #[.int .i64 0, .int .i64 0, .int .i64 0, .int .i64 0, .int .u32 0, .int .u32 0, .slice A6 n6 c6] 26)); have B6 := Lib.hid ((trans_below B5.out hb6).alloc (trans_below B5.out hb6).size (.cells #[.int .i64 0, .int .i64 0, .int .i64 0, .int .i64 0, .int .u32 0, .int .u32 0, .slice A6 n6 c6] 26)); clear s6 hb6)
    | (go_at_call 16; (with_reducible refine (psame_self 0 0 0 0 0 0 [] A6 n6 c6 none 0 0 _ S6.out BSl.nil).mono ?_); rintro e w7 ⟨rfl, hb7⟩; have B7 := Lib.hid (trans_below B6.out hb7)))
  go_ret
  exact ⟨by simp, one_below B7.out⟩

set_option maxHeartbeats 8000000 in
theorem back_bad_long (T I L R S D : Int) (A : Option Addr) (n c : Nat) (l : List UInt8) (Y : Option Addr) (a b : Nat) (t : List UInt8) (B : Option Addr) (m d : Nat) (k : List UInt8) (w : World) (hl : BSl w A n c l) (ht : BSl w Y a b t) (hk : BSl w B m d k) (hS : 0 ≤ S ∧ S < 4294967296) (hD : 0 ≤ D ∧ D < 4294967296) (hn : n ≤ 4000) (ha : a ≤ 4000) (hm : m ≤ 4000) (hE : ¬ pkE T I L R l.length = 0) (hr : rE k = 0) (hN : 1480 < (bodyF k).length) :
    Calls Try.prog 5 #[.agg #[.int .i64 T, .int .i64 I, .int .i64 L, .int .i64 R, .int .u32 S, .int .u32 D, .slice A n c], .slice Y a b, .slice B m d] w fun e w' => e = .returned (.bool true) ∧ Below w.heap.size w w' := by
  have X0 := Lib.hid (Box7.new w (.int .i64 T) (.int .i64 I) (.int .i64 L) (.int .i64 R) (.int .u32 S) (.int .u32 D) (.slice A n c) 26 w.heap.size rfl)
  have HS := Lib.hid (show BSl (w.alloc (.cells #[.int .i64 T, .int .i64 I, .int .i64 L, .int .i64 R, .int .u32 S, .int .u32 D, .slice A n c] 26)) A n c l from hl.alloc _)
  have HT := Lib.hid (show BSl (w.alloc (.cells #[.int .i64 T, .int .i64 I, .int .i64 L, .int .i64 R, .int .u32 S, .int .u32 D, .slice A n c] 26)) Y a b t from ht.alloc _)
  have HB := Lib.hid (show BSl (w.alloc (.cells #[.int .i64 T, .int .i64 I, .int .i64 L, .int .i64 R, .int .u32 S, .int .u32 D, .slice A n c] 26)) B m d k from hk.alloc _)
  have i1 : (n : Int) ≤ 4000 := by omega
  have i2 : (a : Int) ≤ 4000 := by omega
  have i3 : (m : Int) ≤ 4000 := by omega
  have PP := Lib.hid (fun w h => pput_any T I L R S D A n c l w h hS hD)
  unfold GotPut at PP
  generalize ol (pkE T I L R l.length) (pbs T I L R S D l) = X at *
  generalize pkE T I L R l.length = E at *
  have X1 : (E == 0) = false := by simpa using hE
  have X2 : (E != 0) = true := by simpa using hE
  clear hE
  have hm3 := hk.len
  obtain ⟨N, hNe⟩ : ∃ N, (bodyF k).length = N := ⟨_, rfl⟩
  have TK := Lib.hid (fun w h => ptake_ok B m d k w h (by omega) hr)
  have hq := pok_of k
  have hS2 := four_bd k 12
  have hD2 := four_bd k 16
  have PQ := Lib.hid (fun A c w => pput_long (bat k 1) (two k 4) (bat k 8) (bat k 9) (four k 12) (four k 16) A N c w hq (by omega))
  generalize bat k 1 = T2 at *
  generalize two k 4 = I2 at *
  generalize bat k 8 = L2 at *
  generalize bat k 9 = R2 at *
  generalize four k 12 = S2 at *
  generalize four k 16 = D2 at *
  generalize bodyF k = bk at *
  have HN := Lib.hid hNe
  rw [hNe] at hN
  clear hl ht hr hq hS2 hD2 hNe hm3
  clear hk
  go_enter Try.func5, Try.ntmps5
  go_wp2_with (first
    | (go_at_call 8; (with_reducible refine (works07_any _).mono ?_); rintro e w1 ⟨rfl, hb1⟩; have B1 := Lib.hid hb1; obtain ⟨a0, a1, a2, a3, a4, a5, a6, af⟩ := X0.out.below hb1; have az := (X0.out.below hb1).lt; clear hb1)
    | (go_at_call 12; (with_reducible refine (PP.out _ (HS.out.below B1.out)).mono ?_); rintro e w5 ⟨A2, n2, c2, rfl, s2, hb2⟩; have B5 := Lib.hid (trans_below B1.out hb2); clear s2 hb2 a0 a1 a2 a3 a4 a5 a6 af az)
    | (go_at_call 9; (with_reducible refine (TK.out _ (HB.out.below B5.out)).mono ?_); rintro e w6 ⟨A6, n6, c6, rfl, s6, hb6⟩; obtain rfl : N = n6 := by { have e1 := s6.len; have e2 := HN.out; omega }; have S6 := Lib.hid (s6.alloc (.cells #[.int .i64 T2, .int .i64 I2, .int .i64 L2, .int .i64 R2, .int .u32 S2, .int .u32 D2, .slice A6 N c6] 26)); have Y6 := Lib.hid (Box7.new w6 (.int .i64 T2) (.int .i64 I2) (.int .i64 L2) (.int .i64 R2) (.int .u32 S2) (.int .u32 D2) (.slice A6 N c6) 26 w6.heap.size rfl); have B6 := Lib.hid ((trans_below B5.out hb6).alloc (trans_below B5.out hb6).size (.cells #[.int .i64 T2, .int .i64 I2, .int .i64 L2, .int .i64 R2, .int .u32 S2, .int .u32 D2, .slice A6 N c6] 26)); clear s6 hb6)
    | (go_at_call 12; (with_reducible refine (PQ.out A6 c6 _).mono ?_); rintro e w7 ⟨rfl, hb7⟩; have B7 := Lib.hid (trans_below B6.out hb7); obtain ⟨a0, a1, a2, a3, a4, a5, a6, af⟩ := Y6.out.below hb7; have az := (Y6.out.below hb7).lt))
  go_ret
  exact ⟨by simp, one_below B7.out⟩

set_option maxHeartbeats 8000000 in
theorem back_bad_eq (T I L R S D : Int) (A : Option Addr) (n c : Nat) (l : List UInt8) (Y : Option Addr) (a b : Nat) (t : List UInt8) (B : Option Addr) (m d : Nat) (k : List UInt8) (w : World) (hl : BSl w A n c l) (ht : BSl w Y a b t) (hk : BSl w B m d k) (hS : 0 ≤ S ∧ S < 4294967296) (hD : 0 ≤ D ∧ D < 4294967296) (hn : n ≤ 4000) (ha : a ≤ 4000) (hm : m ≤ 4000) (hE : ¬ pkE T I L R l.length = 0) (hr : rE k = 0) (hN : (bodyF k).length ≤ 1480) (hlk : 20 + (bodyF k).length ≤ m) (he : pbs (bat k 1) (two k 4) (bat k 8) (bat k 9) (four k 12) (four k 16) (bodyF k) = k.take (20 + (bodyF k).length)) :
    Calls Try.prog 5 #[.agg #[.int .i64 T, .int .i64 I, .int .i64 L, .int .i64 R, .int .u32 S, .int .u32 D, .slice A n c], .slice Y a b, .slice B m d] w fun e w' => e = .returned (.bool true) ∧ Below w.heap.size w w' := by
  have X0 := Lib.hid (Box7.new w (.int .i64 T) (.int .i64 I) (.int .i64 L) (.int .i64 R) (.int .u32 S) (.int .u32 D) (.slice A n c) 26 w.heap.size rfl)
  have HS := Lib.hid (show BSl (w.alloc (.cells #[.int .i64 T, .int .i64 I, .int .i64 L, .int .i64 R, .int .u32 S, .int .u32 D, .slice A n c] 26)) A n c l from hl.alloc _)
  have HT := Lib.hid (show BSl (w.alloc (.cells #[.int .i64 T, .int .i64 I, .int .i64 L, .int .i64 R, .int .u32 S, .int .u32 D, .slice A n c] 26)) Y a b t from ht.alloc _)
  have HB := Lib.hid (show BSl (w.alloc (.cells #[.int .i64 T, .int .i64 I, .int .i64 L, .int .i64 R, .int .u32 S, .int .u32 D, .slice A n c] 26)) B m d k from hk.alloc _)
  have i1 : (n : Int) ≤ 4000 := by omega
  have i2 : (a : Int) ≤ 4000 := by omega
  have i3 : (m : Int) ≤ 4000 := by omega
  have PP := Lib.hid (fun w h => pput_any T I L R S D A n c l w h hS hD)
  unfold GotPut at PP
  generalize ol (pkE T I L R l.length) (pbs T I L R S D l) = X at *
  generalize pkE T I L R l.length = E at *
  have X1 : (E == 0) = false := by simpa using hE
  have X2 : (E != 0) = true := by simpa using hE
  clear hE
  have hm3 := hk.len
  obtain ⟨N, hNe⟩ : ∃ N, (bodyF k).length = N := ⟨_, rfl⟩
  have TK := Lib.hid (fun w h => ptake_ok B m d k w h (by omega) hr)
  have hq := pok_of k
  have hS2 := four_bd k 12
  have hD2 := four_bd k 16
  have PQ := Lib.hid (fun A c w h => pput_ok (bat k 1) (two k 4) (bat k 8) (bat k 9) (four k 12) (four k 16) A N c (bodyF k) w h hq hS2 hD2 (by omega))
  rw [hNe] at hlk he
  generalize pbs (bat k 1) (two k 4) (bat k 8) (bat k 9) (four k 12) (four k 16) (bodyF k) = Q at *
  generalize bat k 1 = T2 at *
  generalize two k 4 = I2 at *
  generalize bat k 8 = L2 at *
  generalize bat k 9 = R2 at *
  generalize four k 12 = S2 at *
  generalize four k 16 = D2 at *
  generalize bodyF k = bk at *
  have HN := Lib.hid hNe
  rw [hNe] at hN
  have EQ := Lib.hid he
  obtain ⟨x0, hx0⟩ : ∃ x, bat k 10 = x := ⟨_, rfl⟩
  obtain ⟨x1, hx1⟩ : ∃ x, bat k 11 = x := ⟨_, rfl⟩
  obtain ⟨y0, hy0⟩ : ∃ x, bat Q 10 = x := ⟨_, rfl⟩
  obtain ⟨y1, hy1⟩ : ∃ x, bat Q 11 = x := ⟨_, rfl⟩
  have G10 := Lib.hid hx0; have G11 := Lib.hid hx1; have Q10 := Lib.hid hy0; have Q11 := Lib.hid hy1
  clear he hx0 hx1 hy0 hy1
  clear hl ht hr hq hS2 hD2 hNe hm3
  obtain ⟨hb, of, rfl, hbl, hcs⟩ := hk.at_ (by omega)
  clear hcs
  clear hk
  go_enter Try.func5, Try.ntmps5
  go_wp2_with (first
    | (go_at_call 8; (with_reducible refine (works07_any _).mono ?_); rintro e w1 ⟨rfl, hb1⟩; have B1 := Lib.hid hb1; obtain ⟨a0, a1, a2, a3, a4, a5, a6, af⟩ := X0.out.below hb1; have az := (X0.out.below hb1).lt; clear hb1)
    | (go_at_call 12; (with_reducible refine (PP.out _ (HS.out.below B1.out)).mono ?_); rintro e w5 ⟨A2, n2, c2, rfl, s2, hb2⟩; have B5 := Lib.hid (trans_below B1.out hb2); clear s2 hb2 a0 a1 a2 a3 a4 a5 a6 af az)
    | (go_at_call 9; (with_reducible refine (TK.out _ (HB.out.below B5.out)).mono ?_); rintro e w6 ⟨A6, n6, c6, rfl, s6, hb6⟩; obtain rfl : N = n6 := by { have e1 := s6.len; have e2 := HN.out; omega }; have S6 := Lib.hid (s6.alloc (.cells #[.int .i64 T2, .int .i64 I2, .int .i64 L2, .int .i64 R2, .int .u32 S2, .int .u32 D2, .slice A6 N c6] 26)); have Y6 := Lib.hid (Box7.new w6 (.int .i64 T2) (.int .i64 I2) (.int .i64 L2) (.int .i64 R2) (.int .u32 S2) (.int .u32 D2) (.slice A6 N c6) 26 w6.heap.size rfl); have B6 := Lib.hid ((trans_below B5.out hb6).alloc (trans_below B5.out hb6).size (.cells #[.int .i64 T2, .int .i64 I2, .int .i64 L2, .int .i64 R2, .int .u32 S2, .int .u32 D2, .slice A6 N c6] 26)); clear s6 hb6)
    | (go_at_call 12; (with_reducible refine (PQ.out A6 c6 _ S6.out).mono ?_); rintro e w7 ⟨v7, rfl, hown7, hb7⟩; have B7 := Lib.hid (trans_below B6.out hb7); obtain ⟨a0, a1, a2, a3, a4, a5, a6, af⟩ := Y6.out.below hb7; have az := (Y6.out.below hb7).lt; obtain ⟨g, gc, rfl, hg0, hg1, hgc, hgm⟩ := own_form hown7 (by omega); have O7 := Lib.hid hown7; clear hown7 hb7))
  have HB7 := Lib.hid (HB.out.below B7.out)
  have HK := Lib.hid (show ∀ w', Below w7.heap.size w7 w' → BackS w7 g hb of x0 x1 y0 y1 (.slice (some ⟨g, 0, none⟩) (20 + N) gc) (.slice (some ⟨hb, of, none⟩) (20 + N) d) (str Q) (str (k.take (20 + N))) w' from fun w' b => by
    have og := own_below O7.out b
    have kb := HB7.out.below b
    obtain ⟨_, _, e, hbl2, hc⟩ := kb.at_ (by omega)
    cases e
    have c10 := hc 10 (by omega); have c11 := hc 11 (by omega)
    have d10 := own_cellB og 10 (by omega); have d11 := own_cellB og 11 (by omega)
    rw [G10.out] at c10; rw [G11.out] at c11; rw [Q10.out] at d10; rw [Q11.out] at d11
    exact ⟨c10, c11, d10, d11, run_string_bsl w' _ _ _ _ (BSl.of_own og), run_string_bsl w' _ _ _ _ (kb.head (20 + N) (by omega)), b⟩)
  have j1 : (20 : Int) ≤ 20 + (N : Int) := by omega
  have j2 : 20 + (N : Int) ≤ (m : Int) := by omega
  have j3 : (10 : Int) < (m : Int) := by omega
  have j4 : (11 : Int) < (m : Int) := by omega
  have j5 : (10 : Int) < 20 + (N : Int) := by omega
  have j6 : (11 : Int) < 20 + (N : Int) := by omega
  have j7 := HB7.out.le
  have j8 : 20 + (N : Int) ≤ (d : Int) := by omega
  have j9 : 20 + N ≤ d := by omega
  have j0 : (0 : Int) ≤ 20 + (N : Int) := by omega
  have jt : (20 + (N : Int)).toNat = 20 + N := by omega
  have jm : 20 + N ≤ m := by omega
  have jd : ¬ d = 0 := by omega
  clear a0 a1 a2 a3 a4 a5 a6 af az
  have hX0 := Lib.hid (HK.out w7.drew (below_drewN (Below.refl _ _) 1))
  refine wp_region_text (BackS w7 g hb of x0 x1 y0 y1 (.slice (some ⟨g, 0, none⟩) (20 + N) gc) (.slice (some ⟨hb, of, none⟩) (20 + N) d) (str Q) (str (k.take (20 + N)))) (by kernel_rfl) (by kernel_rfl) hX0.out ?_
  repeat
    first
      | (refine Seq.pass rfl ?_; simp only [Act.put, List.setIfInBounds_toArray, List.set_cons_zero, List.set_cons_succ])
      | (refine Seq.run ?_ rfl (fun wx hx => ?_) ?_
         rotate_left
         · have hx2 := hx
           obtain ⟨b0, b1, b2, b3, q1, q2, hbx⟩ := hx2
           have eq2 : (Q == k.take (20 + N)) = true := by rw [EQ.out]; exact beq_self_eq_true _
           go_simp
           first
             | (refine StepRun.val ?_; exact hx)
             | (refine StepRun.call (v := .bool true) ?_; (with_reducible refine Calls.mono (zero_yes _) ?_); rintro e w' ⟨rfl, rfl⟩; exact ⟨rfl, hx⟩)
         simp only [Act.put, List.setIfInBounds_toArray, List.set_cons_zero, List.set_cons_succ])
  refine Seq.last (fun wx hx => ?_)
  go_wp2
  go_ret
  exact ⟨by simp, one_below (trans_below B7.out hx.2.2.2.2.2.2)⟩

set_option maxHeartbeats 8000000 in
theorem back_bad_ne (T I L R S D : Int) (A : Option Addr) (n c : Nat) (l : List UInt8) (Y : Option Addr) (a b : Nat) (t : List UInt8) (B : Option Addr) (m d : Nat) (k : List UInt8) (w : World) (hl : BSl w A n c l) (ht : BSl w Y a b t) (hk : BSl w B m d k) (hS : 0 ≤ S ∧ S < 4294967296) (hD : 0 ≤ D ∧ D < 4294967296) (hn : n ≤ 4000) (ha : a ≤ 4000) (hm : m ≤ 4000) (hE : ¬ pkE T I L R l.length = 0) (hr : rE k = 0) (hN : (bodyF k).length ≤ 1480) (hlk : 20 + (bodyF k).length ≤ m) (hne : ¬ pbs (bat k 1) (two k 4) (bat k 8) (bat k 9) (four k 12) (four k 16) (bodyF k) = k.take (20 + (bodyF k).length)) (h0 : bat k 10 = 255 ∧ bat k 11 = 255 ∧ bat (pbs (bat k 1) (two k 4) (bat k 8) (bat k 9) (four k 12) (four k 16) (bodyF k)) 10 = 0 ∧ bat (pbs (bat k 1) (two k 4) (bat k 8) (bat k 9) (four k 12) (four k 16) (bodyF k)) 11 = 0) :
    Calls Try.prog 5 #[.agg #[.int .i64 T, .int .i64 I, .int .i64 L, .int .i64 R, .int .u32 S, .int .u32 D, .slice A n c], .slice Y a b, .slice B m d] w fun e w' => e = .returned (.bool true) ∧ Below w.heap.size w w' := by
  have X0 := Lib.hid (Box7.new w (.int .i64 T) (.int .i64 I) (.int .i64 L) (.int .i64 R) (.int .u32 S) (.int .u32 D) (.slice A n c) 26 w.heap.size rfl)
  have HS := Lib.hid (show BSl (w.alloc (.cells #[.int .i64 T, .int .i64 I, .int .i64 L, .int .i64 R, .int .u32 S, .int .u32 D, .slice A n c] 26)) A n c l from hl.alloc _)
  have HT := Lib.hid (show BSl (w.alloc (.cells #[.int .i64 T, .int .i64 I, .int .i64 L, .int .i64 R, .int .u32 S, .int .u32 D, .slice A n c] 26)) Y a b t from ht.alloc _)
  have HB := Lib.hid (show BSl (w.alloc (.cells #[.int .i64 T, .int .i64 I, .int .i64 L, .int .i64 R, .int .u32 S, .int .u32 D, .slice A n c] 26)) B m d k from hk.alloc _)
  have i1 : (n : Int) ≤ 4000 := by omega
  have i2 : (a : Int) ≤ 4000 := by omega
  have i3 : (m : Int) ≤ 4000 := by omega
  have PP := Lib.hid (fun w h => pput_any T I L R S D A n c l w h hS hD)
  unfold GotPut at PP
  generalize ol (pkE T I L R l.length) (pbs T I L R S D l) = X at *
  generalize pkE T I L R l.length = E at *
  have X1 : (E == 0) = false := by simpa using hE
  have X2 : (E != 0) = true := by simpa using hE
  clear hE
  have hm3 := hk.len
  obtain ⟨N, hNe⟩ : ∃ N, (bodyF k).length = N := ⟨_, rfl⟩
  have TK := Lib.hid (fun w h => ptake_ok B m d k w h (by omega) hr)
  have hq := pok_of k
  have hS2 := four_bd k 12
  have hD2 := four_bd k 16
  have PQ := Lib.hid (fun A c w h => pput_ok (bat k 1) (two k 4) (bat k 8) (bat k 9) (four k 12) (four k 16) A N c (bodyF k) w h hq hS2 hD2 (by omega))
  rw [hNe] at hlk hne
  generalize pbs (bat k 1) (two k 4) (bat k 8) (bat k 9) (four k 12) (four k 16) (bodyF k) = Q at *
  generalize bat k 1 = T2 at *
  generalize two k 4 = I2 at *
  generalize bat k 8 = L2 at *
  generalize bat k 9 = R2 at *
  generalize four k 12 = S2 at *
  generalize four k 16 = D2 at *
  generalize bodyF k = bk at *
  have HN := Lib.hid hNe
  rw [hNe] at hN
  obtain ⟨k10, k11, q10, q11⟩ := h0
  have G10 := Lib.hid k10; have G11 := Lib.hid k11; have Q10 := Lib.hid q10; have Q11 := Lib.hid q11
  have NE := Lib.hid (show (Q == k.take (20 + N)) = false by simpa using hne)
  clear k10 k11 q10 q11 hne
  clear hl ht hr hq hS2 hD2 hNe hm3
  obtain ⟨hb, of, rfl, hbl, hcs⟩ := hk.at_ (by omega)
  clear hcs
  clear hk
  go_enter Try.func5, Try.ntmps5
  go_wp2_with (first
    | (go_at_call 8; (with_reducible refine (works07_any _).mono ?_); rintro e w1 ⟨rfl, hb1⟩; have B1 := Lib.hid hb1; obtain ⟨a0, a1, a2, a3, a4, a5, a6, af⟩ := X0.out.below hb1; have az := (X0.out.below hb1).lt; clear hb1)
    | (go_at_call 12; (with_reducible refine (PP.out _ (HS.out.below B1.out)).mono ?_); rintro e w5 ⟨A2, n2, c2, rfl, s2, hb2⟩; have B5 := Lib.hid (trans_below B1.out hb2); clear s2 hb2 a0 a1 a2 a3 a4 a5 a6 af az)
    | (go_at_call 9; (with_reducible refine (TK.out _ (HB.out.below B5.out)).mono ?_); rintro e w6 ⟨A6, n6, c6, rfl, s6, hb6⟩; obtain rfl : N = n6 := by { have e1 := s6.len; have e2 := HN.out; omega }; have S6 := Lib.hid (s6.alloc (.cells #[.int .i64 T2, .int .i64 I2, .int .i64 L2, .int .i64 R2, .int .u32 S2, .int .u32 D2, .slice A6 N c6] 26)); have Y6 := Lib.hid (Box7.new w6 (.int .i64 T2) (.int .i64 I2) (.int .i64 L2) (.int .i64 R2) (.int .u32 S2) (.int .u32 D2) (.slice A6 N c6) 26 w6.heap.size rfl); have B6 := Lib.hid ((trans_below B5.out hb6).alloc (trans_below B5.out hb6).size (.cells #[.int .i64 T2, .int .i64 I2, .int .i64 L2, .int .i64 R2, .int .u32 S2, .int .u32 D2, .slice A6 N c6] 26)); clear s6 hb6)
    | (go_at_call 12; (with_reducible refine (PQ.out A6 c6 _ S6.out).mono ?_); rintro e w7 ⟨v7, rfl, hown7, hb7⟩; have B7 := Lib.hid (trans_below B6.out hb7); obtain ⟨a0, a1, a2, a3, a4, a5, a6, af⟩ := Y6.out.below hb7; have az := (Y6.out.below hb7).lt; obtain ⟨g, gc, rfl, hg0, hg1, hgc, hgm⟩ := own_form hown7 (by omega); have O7 := Lib.hid hown7; clear hown7 hb7))
  have HB7 := Lib.hid (HB.out.below B7.out)
  have HK := Lib.hid (show ∀ w', Below w7.heap.size w7 w' → BackS w7 g hb of 255 255 0 0 (.slice (some ⟨g, 0, none⟩) (20 + N) gc) (.slice (some ⟨hb, of, none⟩) (20 + N) d) (str Q) (str (k.take (20 + N))) w' from fun w' b => by
    have og := own_below O7.out b
    have kb := HB7.out.below b
    obtain ⟨_, _, e, hbl2, hc⟩ := kb.at_ (by omega)
    cases e
    have c10 := hc 10 (by omega); have c11 := hc 11 (by omega)
    have d10 := own_cellB og 10 (by omega); have d11 := own_cellB og 11 (by omega)
    rw [G10.out] at c10; rw [G11.out] at c11; rw [Q10.out] at d10; rw [Q11.out] at d11
    exact ⟨c10, c11, d10, d11, run_string_bsl w' _ _ _ _ (BSl.of_own og), run_string_bsl w' _ _ _ _ (kb.head (20 + N) (by omega)), b⟩)
  have j1 : (20 : Int) ≤ 20 + (N : Int) := by omega
  have j2 : 20 + (N : Int) ≤ (m : Int) := by omega
  have j3 : (10 : Int) < (m : Int) := by omega
  have j4 : (11 : Int) < (m : Int) := by omega
  have j5 : (10 : Int) < 20 + (N : Int) := by omega
  have j6 : (11 : Int) < 20 + (N : Int) := by omega
  have j7 := HB7.out.le
  have j8 : 20 + (N : Int) ≤ (d : Int) := by omega
  have j9 : 20 + N ≤ d := by omega
  have j0 : (0 : Int) ≤ 20 + (N : Int) := by omega
  have jt : (20 + (N : Int)).toNat = 20 + N := by omega
  have jm : 20 + N ≤ m := by omega
  have jd : ¬ d = 0 := by omega
  clear a0 a1 a2 a3 a4 a5 a6 af az
  have hX0 := Lib.hid (HK.out w7.drew (below_drewN (Below.refl _ _) 1))
  refine wp_region_text (BackS w7 g hb of 255 255 0 0 (.slice (some ⟨g, 0, none⟩) (20 + N) gc) (.slice (some ⟨hb, of, none⟩) (20 + N) d) (str Q) (str (k.take (20 + N)))) (by kernel_rfl) (by kernel_rfl) hX0.out ?_
  repeat
    first
      | (refine Seq.pass rfl ?_; simp only [Act.put, List.setIfInBounds_toArray, List.set_cons_zero, List.set_cons_succ])
      | (refine Seq.run ?_ rfl (fun wx hx => ?_) ?_
         rotate_left
         · have hx2 := hx
           obtain ⟨b0, b1, b2, b3, q1, q2, hbx⟩ := hx2
           have ne := NE.out
           go_simp
           first
             | (refine StepRun.val ?_; exact hx)
             | (refine StepRun.call (v := .bool true) ?_; (with_reducible refine Calls.mono (zero_yes _) ?_); rintro e w' ⟨rfl, rfl⟩; exact ⟨rfl, hx⟩)
         simp only [Act.put, List.setIfInBounds_toArray, List.set_cons_zero, List.set_cons_succ])
  refine Seq.last (fun wx hx => ?_)
  go_wp2
  go_ret
  exact ⟨by simp, one_below (trans_below B7.out hx.2.2.2.2.2.2)⟩

theorem back_walk (T I L R S D : Int) (A : Option Addr) (n c : Nat) (l : List UInt8) (Y : Option Addr) (a b : Nat) (t : List UInt8) (B : Option Addr) (m d : Nat) (k : List UInt8) (w : World) (hl : BSl w A n c l) (ht : BSl w Y a b t) (hk : BSl w B m d k) (hS : 0 ≤ S ∧ S < 4294967296) (hD : 0 ≤ D ∧ D < 4294967296) :
    Calls Try.prog 5 #[.agg #[.int .i64 T, .int .i64 I, .int .i64 L, .int .i64 R, .int .u32 S, .int .u32 D, .slice A n c], .slice Y a b, .slice B m d] w fun e w' => e = .returned (.bool true) ∧ Below w.heap.size w w' := by
  by_cases hlim : 4000 < n ∨ 4000 < a ∨ 4000 < m
  · exact back_long T I L R S D A n c l Y a b t B m d k w hl ht hk hlim
  · have l1 := hl.len
    have l3 := hk.len
    have hn : n ≤ 4000 := by omega
    have ha : a ≤ 4000 := by omega
    have hm : m ≤ 4000 := by omega
    have hpk := pkE_cases T I L R l.length
    have hbad : ¬ (pok T I L R ∧ n ≤ 1480) → ¬ pkE T I L R l.length = 0 := fun h e => by
      rcases hpk with ⟨_, h1, h2⟩ | e2 | e2
      · exact h ⟨h1, by omega⟩
      · rw [e2] at e; cases e
      · rw [e2] at e; cases e
    by_cases hr : rE k = 0
    · by_cases hN : (bodyF k).length ≤ 1480
      · obtain ⟨q1, q2⟩ := put_back k hr hN
        rw [pbs_len] at q1 q2
        have hlk : 20 + (bodyF k).length ≤ m := by omega
        by_cases he : pbs (bat k 1) (two k 4) (bat k 8) (bat k 9) (four k 12) (four k 16) (bodyF k) = k.take (20 + (bodyF k).length)
        · by_cases hp : pok T I L R ∧ n ≤ 1480
          · exact back_ok_eq T I L R S D A n c l Y a b t B m d k w hl ht hk hS hD hn ha hm hp.1 hp.2 hr hN hlk he
          · exact back_bad_eq T I L R S D A n c l Y a b t B m d k w hl ht hk hS hD hn ha hm (hbad hp) hr hN hlk he
        · have h0 := q2.resolve_left he
          by_cases hp : pok T I L R ∧ n ≤ 1480
          · exact back_ok_ne T I L R S D A n c l Y a b t B m d k w hl ht hk hS hD hn ha hm hp.1 hp.2 hr hN hlk he h0
          · exact back_bad_ne T I L R S D A n c l Y a b t B m d k w hl ht hk hS hD hn ha hm (hbad hp) hr hN hlk he h0
      · by_cases hp : pok T I L R ∧ n ≤ 1480
        · exact back_ok_long T I L R S D A n c l Y a b t B m d k w hl ht hk hS hD hn ha hm hp.1 hp.2 hr (by omega)
        · exact back_bad_long T I L R S D A n c l Y a b t B m d k w hl ht hk hS hD hn ha hm (hbad hp) hr (by omega)
    · by_cases hp : pok T I L R ∧ n ≤ 1480
      · exact back_ok_none T I L R S D A n c l Y a b t B m d k w hl ht hk hS hD hn ha hm hp.1 hp.2 hr
      · exact back_bad_none T I L R S D A n c l Y a b t B m d k w hl ht hk hS hD hn ha hm (hbad hp) hr
end Go.Proofs.Ytkeialkknepgaaa
