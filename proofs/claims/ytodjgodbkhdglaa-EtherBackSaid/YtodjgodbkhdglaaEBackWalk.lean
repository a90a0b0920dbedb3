/- The walk of the statement EtherBack. (Made by wip/tools/mkback-ether.py.) -/
import Derived.Test.YtodjgodbkhdglaaFworks
namespace Go.Proofs.Ytodjgodbkhdglaa
open Go.RowKit
open Go.Lib (byteCells)

theorem same_self (D S T : Int) (l : List UInt8) (A : Option Addr) (n c : Nat) (B : Option Addr) (m d : Nat) (w : World) (h : BSl w A n c l) (g : BSl w B m d l) :
    Calls Try.prog 13 #[.agg #[.int .u64 D, .int .u64 S, .int .i64 T, .slice A n c], .agg #[.int .u64 D, .int .u64 S, .int .i64 T, .slice B m d]] w fun e w' => e = .returned (.bool true) ∧ Below w.heap.size w w' := by
  have := same_any D S T A n c l D S T B m d l w h g
  rw [smB_self] at this
  exact this
/-- what a frame was put as is taken as that frame -/
theorem take_back (D S T : Int) (l : List UInt8) (hD : 0 ≤ D) (hS : 0 ≤ S) (hf : fok D S T) (hl : l.length ≤ 1504) (A : Option Addr) (n c : Nat) (w : World) (h : BSl w A n c (fbs D S T l)) :
    Calls Try.prog 8 #[.slice A n c] w (GotF w D S T l 0) := by
  have h2 := ftake_any A n c _ w h
  have e : tE (fbs D S T l) = 0 := tE_mid (by rw [fbs_len]; omega) (by rw [fbs_len]; omega)
  obtain ⟨e1, e2, e3, e4⟩ := t_some e
  rw [e, e1, e2, e3, e4, mbAt_fbs0 D S T l hD hf.1, mbAt_fbs6 D S T l hS hf.2.1, two_fbs D S T l hf.2.2.1 hf.2.2.2, drop_fbs] at h2
  exact h2
theorem put_yes (D S T : Int) (l : List UInt8) (hf : fok D S T) (hl : l.length ≤ 1504) (A : Option Addr) (n c : Nat) (w : World) (h : BSl w A n c l) :
    Calls Try.prog 11 #[.agg #[.int .u64 D, .int .u64 S, .int .i64 T, .slice A n c]] w (GotB w (fbs D S T l) 0) := by
  have h2 := fput_any D S T A n c l w h
  have e : pE D S T l.length = 0 := by unfold pE; rw [if_pos hf, if_neg (by omega)]
  have e2 : pL D S T l = fbs D S T l := by unfold pL; rw [e]; rfl
  rw [e, e2] at h2
  exact h2
/-- what bytes were taken as is put as those bytes -/
theorem put_back (k : List UInt8) (h0 : 14 ≤ k.length) (h1 : k.length ≤ 1518) (A : Option Addr) (n c : Nat) (w : World) (h : BSl w A n c (k.drop 14)) :
    Calls Try.prog 11 #[.agg #[.int .u64 (mbAt k 0), .int .u64 (mbAt k 6), .int .i64 (two k 12), .slice A n c]] w (GotB w k 0) := by
  have hf : fok (mbAt k 0) (mbAt k 6) (two k 12) := ⟨(mbAt_bd k 0).2, (mbAt_bd k 6).2, (two_bd k 12).1, (two_bd k 12).2⟩
  have h2 := put_yes _ _ _ (k.drop 14) hf (by rw [List.length_drop]; omega) A n c w h
  rw [fbs_back k h0] at h2
  exact h2
theorem take_none (k : List UInt8) (E : Int) (hE : tE k = E) (h0 : E ≠ 0) (A : Option Addr) (n c : Nat) (w : World) (h : BSl w A n c k) :
    Calls Try.prog 8 #[.slice A n c] w (GotF w 0 0 0 [] E) := by
  have h2 := ftake_any A n c k w h
  obtain ⟨e1, e2, e3, e4⟩ := t_none (l := k) (by rw [hE]; exact h0)
  rw [hE, e1, e2, e3, e4] at h2
  exact h2
theorem take_some (k : List UInt8) (h0 : 14 ≤ k.length) (h1 : k.length ≤ 1518) (A : Option Addr) (n c : Nat) (w : World) (h : BSl w A n c k) :
    Calls Try.prog 8 #[.slice A n c] w (GotF w (mbAt k 0) (mbAt k 6) (two k 12) (k.drop 14) 0) := by
  have h2 := ftake_any A n c k w h
  have e := tE_mid h0 h1
  obtain ⟨e1, e2, e3, e4⟩ := t_some e
  rw [e, e1, e2, e3, e4] at h2
  exact h2

theorem eback_long (D S T : Int) (A : Option Addr) (n c : Nat) (l : List UInt8) (B : Option Addr) (m d : Nat) (k : List UInt8) (w : World) (_hA : BSl w A n c l) (_hB : BSl w B m d k) (h : 4000 < n ∨ 4000 < m) :
    Calls Try.prog 5 #[.agg #[.int .u64 D, .int .u64 S, .int .i64 T, .slice A n c], .slice B m d] w fun e w' => e = .returned (.bool true) ∧ Below w.heap.size w w' := by
  by_cases h1 : 4000 < n
  · clear h
    go_enter Try.func5, Try.ntmps5
    go_wp2_with (go_at_call 7; (with_reducible refine (works04_any _).mono ?_); rintro e w1 ⟨rfl, hb1⟩; obtain ⟨p1, q1⟩ := bcell hb1; have z1 : w.heap.size < w1.heap.size := by { have := hb1.size; simp at this; omega })
    go_ret
    exact ⟨rfl, one_below hb1⟩
  · have h2 : 4000 < m := by omega
    have h3 : (n : Int) ≤ 4000 := by omega
    clear h h1
    go_enter Try.func5, Try.ntmps5
    go_wp2_with (go_at_call 7; (with_reducible refine (works04_any _).mono ?_); rintro e w1 ⟨rfl, hb1⟩; obtain ⟨p1, q1⟩ := bcell hb1; have z1 : w.heap.size < w1.heap.size := by { have := hb1.size; simp at this; omega })
    go_ret
    exact ⟨rfl, one_below hb1⟩

set_option maxHeartbeats 4000000 in
theorem eback_yes_mid (D S T : Int) (A : Option Addr) (n c : Nat) (l : List UInt8) (B : Option Addr) (m d : Nat) (k : List UInt8) (w : World) (hA : BSl w A n c l) (hB : BSl w B m d k) (hn : n ≤ 4000) (hm4 : m ≤ 4000) (hD : 0 ≤ D) (hS : 0 ≤ S) (hf : fok D S T) (hl : l.length ≤ 1504) (h0 : 14 ≤ k.length) (h1 : k.length ≤ 1518) :
    Calls Try.prog 5 #[.agg #[.int .u64 D, .int .u64 S, .int .i64 T, .slice A n c], .slice B m d] w fun e w' => e = .returned (.bool true) ∧ Below w.heap.size w w' := by
  have HA := Lib.hid hA
  have HB := Lib.hid hB
  have i1 : (n : Int) ≤ 4000 := by omega
  have i2 : (m : Int) ≤ 4000 := by omega
  have HF := Lib.hid hf
  have HL := Lib.hid hl
  have H0 := Lib.hid h0
  have H1 := Lib.hid h1
  clear hA hB hf hl h0 h1
  go_enter Try.func5, Try.ntmps5
  go_wp2_with (first
    | (go_at_call 7; (with_reducible refine (works04_any _).mono ?_); rintro e w1 ⟨rfl, hb1⟩; obtain ⟨p1, q1⟩ := bcell hb1; have z1 : w.heap.size < w1.heap.size := by { have := hb1.size; simp at this; omega })
    | (go_at_call 11; (with_reducible refine (put_yes D S T l HF.out HL.out A n c _ ((HA.out.alloc _).below hb1)).mono ?_); rintro e w2 ⟨A2, n2, c2, rfl, s2, hb2⟩; obtain ⟨p2, q2⟩ := bcell hb2; have z2 : w.heap.size < w2.heap.size := Nat.lt_of_lt_of_le z1 hb2.size)
    | (go_at_call 8; (with_reducible refine (take_back D S T l hD hS HF.out HL.out A2 n2 c2 _ s2).mono ?_); rintro e w3 ⟨A3, n3, c3, rfl, s3, hb3⟩; obtain ⟨p3, q3⟩ := bcell hb3; have z3 : w.heap.size < w3.heap.size := Nat.lt_of_lt_of_le z2 hb3.size)
    | (go_at_call 13; (with_reducible refine (same_self D S T l A n c A3 n3 c3 _ (((((HA.out.alloc _).below hb1).below hb2).below hb3).alloc _) (s3.alloc _)).mono ?_); rintro e w4 ⟨rfl, hb4⟩; have B4 := trans_below (trans_below (trans_below hb1 hb2) hb3) (one_below hb4))
    | (go_at_call 8; (with_reducible refine (take_some k H0.out H1.out B m d _ ((HB.out.alloc _).below B4)).mono ?_); rintro e w5 ⟨A5, n5, c5, rfl, s5, hb5⟩)
    | (go_at_call 11; (with_reducible refine (put_back k H0.out H1.out A5 n5 c5 _ (s5.alloc _)).mono ?_); rintro e w6 ⟨A6, n6, c6, rfl, s6, hb6⟩; have B6 := trans_below (trans_below B4 hb5) (one_below hb6); have x1 := run_string_bsl w6 A6 n6 c6 k s6; have x2 := run_string_bsl w6 B m d k ((HB.out.alloc _).below B6)))
  go_ret
  exact ⟨by simp <;> omega, one_below B6⟩
set_option maxHeartbeats 4000000 in
theorem eback_yes_none (D S T : Int) (A : Option Addr) (n c : Nat) (l : List UInt8) (B : Option Addr) (m d : Nat) (k : List UInt8) (w : World) (hA : BSl w A n c l) (hB : BSl w B m d k) (hn : n ≤ 4000) (hm4 : m ≤ 4000) (hD : 0 ≤ D) (hS : 0 ≤ S) (hf : fok D S T) (hl : l.length ≤ 1504) (E : Int) (hk : tE k = E) (hE0 : E ≠ 0) (hm : m < 14 ∨ 1518 < m) :
    Calls Try.prog 5 #[.agg #[.int .u64 D, .int .u64 S, .int .i64 T, .slice A n c], .slice B m d] w fun e w' => e = .returned (.bool true) ∧ Below w.heap.size w w' := by
  have HA := Lib.hid hA
  have HB := Lib.hid hB
  have i1 : (n : Int) ≤ 4000 := by omega
  have i2 : (m : Int) ≤ 4000 := by omega
  have HF := Lib.hid hf
  have HL := Lib.hid hl
  have HK := Lib.hid hk
  have HE0 := Lib.hid hE0
  have Y1 : (E == 0) = false := by simpa using hE0
  have Y2 : (E != 0) = true := by simpa using hE0
  clear hA hB hf hl hk hE0
  by_cases hm0 : m < 14
  · clear hm
    go_enter Try.func5, Try.ntmps5
    go_wp2_with (first
      | (go_at_call 7; (with_reducible refine (works04_any _).mono ?_); rintro e w1 ⟨rfl, hb1⟩; obtain ⟨p1, q1⟩ := bcell hb1; have z1 : w.heap.size < w1.heap.size := by { have := hb1.size; simp at this; omega })
      | (go_at_call 11; (with_reducible refine (put_yes D S T l HF.out HL.out A n c _ ((HA.out.alloc _).below hb1)).mono ?_); rintro e w2 ⟨A2, n2, c2, rfl, s2, hb2⟩; obtain ⟨p2, q2⟩ := bcell hb2; have z2 : w.heap.size < w2.heap.size := Nat.lt_of_lt_of_le z1 hb2.size)
      | (go_at_call 8; (with_reducible refine (take_back D S T l hD hS HF.out HL.out A2 n2 c2 _ s2).mono ?_); rintro e w3 ⟨A3, n3, c3, rfl, s3, hb3⟩; obtain ⟨p3, q3⟩ := bcell hb3; have z3 : w.heap.size < w3.heap.size := Nat.lt_of_lt_of_le z2 hb3.size)
      | (go_at_call 13; (with_reducible refine (same_self D S T l A n c A3 n3 c3 _ (((((HA.out.alloc _).below hb1).below hb2).below hb3).alloc _) (s3.alloc _)).mono ?_); rintro e w4 ⟨rfl, hb4⟩; have B4 := trans_below (trans_below (trans_below hb1 hb2) hb3) (one_below hb4))
      | (go_at_call 8; (with_reducible refine (take_none k E HK.out HE0.out B m d _ ((HB.out.alloc _).below B4)).mono ?_); rintro e w5 ⟨A5, n5, c5, rfl, s5, hb5⟩)
      | (go_at_call 13; (with_reducible refine (same_self 0 0 0 [] A5 n5 c5 none 0 0 _ (s5.alloc _) BSl.nil).mono ?_); rintro e w6 ⟨rfl, hb6⟩; have B6 := trans_below (trans_below B4 hb5) (one_below hb6)))
    go_ret
    exact ⟨by simp <;> omega, one_below B6⟩
  · have hm1 : 1518 < m := by omega
    clear hm
    go_enter Try.func5, Try.ntmps5
    go_wp2_with (first
      | (go_at_call 7; (with_reducible refine (works04_any _).mono ?_); rintro e w1 ⟨rfl, hb1⟩; obtain ⟨p1, q1⟩ := bcell hb1; have z1 : w.heap.size < w1.heap.size := by { have := hb1.size; simp at this; omega })
      | (go_at_call 11; (with_reducible refine (put_yes D S T l HF.out HL.out A n c _ ((HA.out.alloc _).below hb1)).mono ?_); rintro e w2 ⟨A2, n2, c2, rfl, s2, hb2⟩; obtain ⟨p2, q2⟩ := bcell hb2; have z2 : w.heap.size < w2.heap.size := Nat.lt_of_lt_of_le z1 hb2.size)
      | (go_at_call 8; (with_reducible refine (take_back D S T l hD hS HF.out HL.out A2 n2 c2 _ s2).mono ?_); rintro e w3 ⟨A3, n3, c3, rfl, s3, hb3⟩; obtain ⟨p3, q3⟩ := bcell hb3; have z3 : w.heap.size < w3.heap.size := Nat.lt_of_lt_of_le z2 hb3.size)
      | (go_at_call 13; (with_reducible refine (same_self D S T l A n c A3 n3 c3 _ (((((HA.out.alloc _).below hb1).below hb2).below hb3).alloc _) (s3.alloc _)).mono ?_); rintro e w4 ⟨rfl, hb4⟩; have B4 := trans_below (trans_below (trans_below hb1 hb2) hb3) (one_below hb4))
      | (go_at_call 8; (with_reducible refine (take_none k E HK.out HE0.out B m d _ ((HB.out.alloc _).below B4)).mono ?_); rintro e w5 ⟨A5, n5, c5, rfl, s5, hb5⟩)
      | (go_at_call 13; (with_reducible refine (same_self 0 0 0 [] A5 n5 c5 none 0 0 _ (s5.alloc _) BSl.nil).mono ?_); rintro e w6 ⟨rfl, hb6⟩; have B6 := trans_below (trans_below B4 hb5) (one_below hb6)))
    go_ret
    exact ⟨by simp <;> omega, one_below B6⟩
set_option maxHeartbeats 4000000 in
theorem eback_no_mid (D S T : Int) (A : Option Addr) (n c : Nat) (l : List UInt8) (B : Option Addr) (m d : Nat) (k : List UInt8) (w : World) (hA : BSl w A n c l) (hB : BSl w B m d k) (hn : n ≤ 4000) (hm4 : m ≤ 4000) (hE : (pE D S T l.length == 0) = false) (h0 : 14 ≤ k.length) (h1 : k.length ≤ 1518) :
    Calls Try.prog 5 #[.agg #[.int .u64 D, .int .u64 S, .int .i64 T, .slice A n c], .slice B m d] w fun e w' => e = .returned (.bool true) ∧ Below w.heap.size w w' := by
  have HA := Lib.hid hA
  have HB := Lib.hid hB
  have i1 : (n : Int) ≤ 4000 := by omega
  have i2 : (m : Int) ≤ 4000 := by omega
  have X2 : (pE D S T l.length != 0) = true := by simp only [bne, hE]; rfl
  have H0 := Lib.hid h0
  have H1 := Lib.hid h1
  clear hA hB h0 h1
  go_enter Try.func5, Try.ntmps5
  go_wp2_with (first
    | (go_at_call 7; (with_reducible refine (works04_any _).mono ?_); rintro e w1 ⟨rfl, hb1⟩; obtain ⟨p1, q1⟩ := bcell hb1; have z1 : w.heap.size < w1.heap.size := by { have := hb1.size; simp at this; omega })
    | (go_at_call 11; (with_reducible refine (fput_any D S T A n c l _ ((HA.out.alloc _).below hb1)).mono ?_); rintro e w2 ⟨A2, n2, c2, rfl, s2, hb2⟩; have B4 := trans_below hb1 hb2)
    | (go_at_call 8; (with_reducible refine (take_some k H0.out H1.out B m d _ ((HB.out.alloc _).below B4)).mono ?_); rintro e w5 ⟨A5, n5, c5, rfl, s5, hb5⟩)
    | (go_at_call 11; (with_reducible refine (put_back k H0.out H1.out A5 n5 c5 _ (s5.alloc _)).mono ?_); rintro e w6 ⟨A6, n6, c6, rfl, s6, hb6⟩; have B6 := trans_below (trans_below B4 hb5) (one_below hb6); have x1 := run_string_bsl w6 A6 n6 c6 k s6; have x2 := run_string_bsl w6 B m d k ((HB.out.alloc _).below B6)))
  go_ret
  exact ⟨by simp <;> omega, one_below B6⟩
set_option maxHeartbeats 4000000 in
theorem eback_no_none (D S T : Int) (A : Option Addr) (n c : Nat) (l : List UInt8) (B : Option Addr) (m d : Nat) (k : List UInt8) (w : World) (hA : BSl w A n c l) (hB : BSl w B m d k) (hn : n ≤ 4000) (hm4 : m ≤ 4000) (hE : (pE D S T l.length == 0) = false) (E : Int) (hk : tE k = E) (hE0 : E ≠ 0) (hm : m < 14 ∨ 1518 < m) :
    Calls Try.prog 5 #[.agg #[.int .u64 D, .int .u64 S, .int .i64 T, .slice A n c], .slice B m d] w fun e w' => e = .returned (.bool true) ∧ Below w.heap.size w w' := by
  have HA := Lib.hid hA
  have HB := Lib.hid hB
  have i1 : (n : Int) ≤ 4000 := by omega
  have i2 : (m : Int) ≤ 4000 := by omega
  have X2 : (pE D S T l.length != 0) = true := by simp only [bne, hE]; rfl
  have HK := Lib.hid hk
  have HE0 := Lib.hid hE0
  have Y1 : (E == 0) = false := by simpa using hE0
  have Y2 : (E != 0) = true := by simpa using hE0
  clear hA hB hk hE0
  by_cases hm0 : m < 14
  · clear hm
    go_enter Try.func5, Try.ntmps5
    go_wp2_with (first
      | (go_at_call 7; (with_reducible refine (works04_any _).mono ?_); rintro e w1 ⟨rfl, hb1⟩; obtain ⟨p1, q1⟩ := bcell hb1; have z1 : w.heap.size < w1.heap.size := by { have := hb1.size; simp at this; omega })
      | (go_at_call 11; (with_reducible refine (fput_any D S T A n c l _ ((HA.out.alloc _).below hb1)).mono ?_); rintro e w2 ⟨A2, n2, c2, rfl, s2, hb2⟩; have B4 := trans_below hb1 hb2)
      | (go_at_call 8; (with_reducible refine (take_none k E HK.out HE0.out B m d _ ((HB.out.alloc _).below B4)).mono ?_); rintro e w5 ⟨A5, n5, c5, rfl, s5, hb5⟩)
      | (go_at_call 13; (with_reducible refine (same_self 0 0 0 [] A5 n5 c5 none 0 0 _ (s5.alloc _) BSl.nil).mono ?_); rintro e w6 ⟨rfl, hb6⟩; have B6 := trans_below (trans_below B4 hb5) (one_below hb6)))
    go_ret
    exact ⟨by simp <;> omega, one_below B6⟩
  · have hm1 : 1518 < m := by omega
    clear hm
    go_enter Try.func5, Try.ntmps5
    go_wp2_with (first
      | (go_at_call 7; (with_reducible refine (works04_any _).mono ?_); rintro e w1 ⟨rfl, hb1⟩; obtain ⟨p1, q1⟩ := bcell hb1; have z1 : w.heap.size < w1.heap.size := by { have := hb1.size; simp at this; omega })
      | (go_at_call 11; (with_reducible refine (fput_any D S T A n c l _ ((HA.out.alloc _).below hb1)).mono ?_); rintro e w2 ⟨A2, n2, c2, rfl, s2, hb2⟩; have B4 := trans_below hb1 hb2)
      | (go_at_call 8; (with_reducible refine (take_none k E HK.out HE0.out B m d _ ((HB.out.alloc _).below B4)).mono ?_); rintro e w5 ⟨A5, n5, c5, rfl, s5, hb5⟩)
      | (go_at_call 13; (with_reducible refine (same_self 0 0 0 [] A5 n5 c5 none 0 0 _ (s5.alloc _) BSl.nil).mono ?_); rintro e w6 ⟨rfl, hb6⟩; have B6 := trans_below (trans_below B4 hb5) (one_below hb6)))
    go_ret
    exact ⟨by simp <;> omega, one_below B6⟩

theorem eback_walk (D S T : Int) (A : Option Addr) (n c : Nat) (l : List UInt8) (B : Option Addr) (m d : Nat) (k : List UInt8) (w : World) (hA : BSl w A n c l) (hB : BSl w B m d k) (hD : 0 ≤ D) (hS : 0 ≤ S) :
    Calls Try.prog 5 #[.agg #[.int .u64 D, .int .u64 S, .int .i64 T, .slice A n c], .slice B m d] w fun e w' => e = .returned (.bool true) ∧ Below w.heap.size w w' := by
  by_cases hn : 4000 < n ∨ 4000 < m
  · exact eback_long D S T A n c l B m d k w hA hB hn
  · have h1 : n ≤ 4000 := by omega
    have h2 : m ≤ 4000 := by omega
    have la := hA.len
    have lb := hB.len
    rcases pE_cases D S T l.length with ⟨_, hf, hl⟩ | hno
    · rcases tE_cases k with ⟨_, t0, t1⟩ | ⟨he, ht⟩ | ⟨he, ht⟩
      · exact eback_yes_mid D S T A n c l B m d k w hA hB h1 h2 hD hS hf hl t0 t1
      · exact eback_yes_none D S T A n c l B m d k w hA hB h1 h2 hD hS hf hl 10 he (by decide) (by omega)
      · exact eback_yes_none D S T A n c l B m d k w hA hB h1 h2 hD hS hf hl 14 he (by decide) (by omega)
    · have hE : (pE D S T l.length == 0) = false := by
        rcases hno with ⟨e, _⟩ | ⟨e, _⟩ <;> rw [e] <;> rfl
      rcases tE_cases k with ⟨_, t0, t1⟩ | ⟨he, ht⟩ | ⟨he, ht⟩
      · exact eback_no_mid D S T A n c l B m d k w hA hB h1 h2 hE t0 t1
      · exact eback_no_none D S T A n c l B m d k w hA hB h1 h2 hE 10 he (by decide) (by omega)
      · exact eback_no_none D S T A n c l B m d k w hA hB h1 h2 hE 14 he (by decide) (by omega)
end Go.Proofs.Ytodjgodbkhdglaa
