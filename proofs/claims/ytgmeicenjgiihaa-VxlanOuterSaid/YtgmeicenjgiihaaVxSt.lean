/- The contracts of vxlan's steps of a reading. -/
import Derived.Test.YtgmeicenjgiihaaVxHd
import Derived.Test.YtgmeicenjgiihaaVxBox
import Derived.Test.YtgmeicenjgiihaaTagIs
import Derived.Test.YtgmeicenjgiihaaPkAny
import Derived.Test.YtgmeicenjgiihaaUdTake
import Derived.Test.YtgmeicenjgiihaaFpt
import Derived.RegionTactic
namespace Go.Proofs.Ytgmeicenjgiihaa
open Go.RowKit
open Go.Lib (byteCells)

/-- what a step leaves: the reading's block, the bytes that are left -/
def GotStep (w : World) (q : Nat) (v0 v1 v2 v3 v4 v5 v6 : Value) (l : List UInt8) (E : Int) (e : Ending) (w' : World) : Prop :=
  e = .returned (.tuple #[]) ∧ ∃ A n c, Box9 w' q v0 v1 v2 v3 v4 v5 v6 (.slice A n c) (.int .i64 E) ∧ BSl w' A n c l ∧ Ex q w w'
set_option maxRecDepth 20000 in
set_option maxHeartbeats 2000000 in
theorem outer_no (q : Nat) (v0 v1 v2 v3 v4 v5 v6 R : Value) (A : Option Addr) (n c : Nat) (k : List UInt8) (w : World) (hB : Box9 w q v0 v1 v2 v3 v4 v5 v6 (.slice A n c) R) (h : BSl w A n c k) (hG : ¬ tE k = 0) :
    Calls Try.prog 32 #[.pointer (some ⟨q, 0, none⟩)] w (GotStep w q v0 v1 v2 v3 v4 v5 v6 (tL k) (tE k)) := by
  have Y := Lib.hid hB
  have H := Lib.hid h
  have C1 := Lib.hid (fun w h => ftake_any A n c k w h)
  generalize tD k = D1 at *
  generalize tS k = S1 at *
  generalize tT k = T1 at *
  generalize tL k = l1 at *
  generalize tE k = G at *
  obtain ⟨y0, y1, y2, y3, y4, y5, y6, y7, y8, yf, _⟩ := hB
  clear h
  go_enter Try.func32, Try.ntmps32
  go_wp2_with (first
    | (go_at_call 17; (with_reducible refine (C1.out _ H.out).mono ?_); rintro e w1 ⟨A1, m1, c1, rfl, s1, hb1⟩; have B1 := Lib.hid hb1; have X1 := Lib.hid s1; clear s1 hb1 y0 y1 y2 y3 y4 y5 y6 y7 y8 yf; have Y1 := Lib.hid (Y.out.below B1.out); obtain ⟨z0, z1, z2, z3, z4, z5, z6, z7, z8, zf, _⟩ := Y1.out; have zl := Y1.out.lt))
  exact bodyPost_end (v := .tuple #[]) (by simp [results, Try.results32, go_sem]) rfl ⟨rfl, A1, m1, c1, ((Y1.out.set7 (noByte_slice _ _ _)).set8 (noByte_i64 _)).alloc _, ((X1.out.odd Y1.out.odd 7 _).odd (Y1.out.set7 (noByte_slice _ _ _)).odd 8 _).alloc _, (((Ex.of_below B1.out).set 7 _).set 8 _).alloc _⟩
set_option maxRecDepth 20000 in
set_option maxHeartbeats 2000000 in
theorem outer_form (q : Nat) (v0 v1 v2 v3 v4 v5 v6 R : Value) (A : Option Addr) (n c : Nat) (k : List UInt8) (w : World) (hB : Box9 w q v0 v1 v2 v3 v4 v5 v6 (.slice A n c) R) (h : BSl w A n c k) (hG : tE k = 0) (hT : ¬ tT k = 2048) :
    Calls Try.prog 32 #[.pointer (some ⟨q, 0, none⟩)] w (GotStep w q v0 v1 v2 v3 v4 v5 v6 (tL k) (11)) := by
  have Y := Lib.hid hB
  have H := Lib.hid h
  have C1 := Lib.hid (fun w h => ftake_any A n c k w h)
  generalize tD k = D1 at *
  generalize tS k = S1 at *
  generalize tT k = T1 at *
  generalize tL k = l1 at *
  generalize tE k = G at *
  subst hG
  obtain ⟨y0, y1, y2, y3, y4, y5, y6, y7, y8, yf, _⟩ := hB
  clear h
  go_enter Try.func32, Try.ntmps32
  go_wp2_with (first
    | (go_at_call 17; (with_reducible refine (C1.out _ H.out).mono ?_); rintro e w1 ⟨A1, m1, c1, rfl, s1, hb1⟩; have B1 := Lib.hid hb1; have X1 := Lib.hid s1; clear s1 hb1 y0 y1 y2 y3 y4 y5 y6 y7 y8 yf; have Y1 := Lib.hid (Y.out.below B1.out); obtain ⟨z0, z1, z2, z3, z4, z5, z6, z7, z8, zf, _⟩ := Y1.out; have zl := Y1.out.lt))
  exact bodyPost_end (v := .tuple #[]) (by simp [results, Try.results32, go_sem]) rfl ⟨rfl, A1, m1, c1, ((Y1.out.set7 (noByte_slice _ _ _)).set8 (noByte_i64 _)).alloc _, ((X1.out.odd Y1.out.odd 7 _).odd (Y1.out.set7 (noByte_slice _ _ _)).odd 8 _).alloc _, (((Ex.of_below B1.out).set 7 _).set 8 _).alloc _⟩
set_option maxRecDepth 20000 in
set_option maxHeartbeats 2000000 in
theorem outer_ok (q : Nat) (v0 v1 v2 v3 v4 v5 v6 R : Value) (A : Option Addr) (n c : Nat) (k : List UInt8) (w : World) (hB : Box9 w q v0 v1 v2 v3 v4 v5 v6 (.slice A n c) R) (h : BSl w A n c k) (hG : tE k = 0) (hT : tT k = 2048) :
    Calls Try.prog 32 #[.pointer (some ⟨q, 0, none⟩)] w (GotStep w q v0 v1 v2 v3 v4 v5 v6 (tL k) (0)) := by
  have Y := Lib.hid hB
  have H := Lib.hid h
  have C1 := Lib.hid (fun w h => ftake_any A n c k w h)
  generalize tD k = D1 at *
  generalize tS k = S1 at *
  generalize tT k = T1 at *
  generalize tL k = l1 at *
  generalize tE k = G at *
  subst hG
  subst hT
  obtain ⟨y0, y1, y2, y3, y4, y5, y6, y7, y8, yf, _⟩ := hB
  clear h
  go_enter Try.func32, Try.ntmps32
  go_wp2_with (first
    | (go_at_call 17; (with_reducible refine (C1.out _ H.out).mono ?_); rintro e w1 ⟨A1, m1, c1, rfl, s1, hb1⟩; have B1 := Lib.hid hb1; have X1 := Lib.hid s1; clear s1 hb1 y0 y1 y2 y3 y4 y5 y6 y7 y8 yf; have Y1 := Lib.hid (Y.out.below B1.out); obtain ⟨z0, z1, z2, z3, z4, z5, z6, z7, z8, zf, _⟩ := Y1.out; have zl := Y1.out.lt))
  exact bodyPost_end (v := .tuple #[]) (by simp [results, Try.results32, go_sem]) rfl ⟨rfl, A1, m1, c1, ((Y1.out.set7 (noByte_slice _ _ _)).set8 (noByte_i64 _)).alloc _, ((X1.out.odd Y1.out.odd 7 _).odd (Y1.out.set7 (noByte_slice _ _ _)).odd 8 _).alloc _, (((Ex.of_below B1.out).set 7 _).set 8 _).alloc _⟩
set_option maxRecDepth 20000 in
set_option maxHeartbeats 2000000 in
theorem packet_no (q : Nat) (v0 v1 v2 v3 v4 v5 v6 R : Value) (A : Option Addr) (n c : Nat) (k : List UInt8) (w : World) (hB : Box9 w q v0 v1 v2 v3 v4 v5 v6 (.slice A n c) R) (h : BSl w A n c k) (hn : n ≤ 1000000) (hG : ¬ rE k = 0) :
    Calls Try.prog 33 #[.pointer (some ⟨q, 0, none⟩)] w (GotStep w q (.int .u32 (oi (rE k) (four k 12))) (.int .u32 (oi (rE k) (four k 16))) v2 v3 v4 v5 v6 (ol (rE k) (bodyF k)) (rE k)) := by
  have Y := Lib.hid hB
  have H := Lib.hid h
  have C1 := Lib.hid (fun w h => ptake_any A n c k w h hn)
  unfold GotTake at C1
  generalize oi (rE k) (bat k 1) = P0 at *
  generalize oi (rE k) (two k 4) = P1 at *
  generalize oi (rE k) (bat k 8) = P2 at *
  generalize oi (rE k) (bat k 9) = P3 at *
  generalize oi (rE k) (four k 12) = P4 at *
  generalize oi (rE k) (four k 16) = P5 at *
  generalize ol (rE k) (bodyF k) = l1 at *
  generalize rE k = G at *
  obtain ⟨y0, y1, y2, y3, y4, y5, y6, y7, y8, yf, _⟩ := hB
  clear h
  go_enter Try.func33, Try.ntmps33
  go_wp2_with (first
    | (go_at_call 52; (with_reducible refine (C1.out _ H.out).mono ?_); rintro e w1 ⟨A1, m1, c1, rfl, s1, hb1⟩; have B1 := Lib.hid hb1; have X1 := Lib.hid s1; clear s1 hb1 y0 y1 y2 y3 y4 y5 y6 y7 y8 yf; have Y1 := Lib.hid (Y.out.below B1.out); obtain ⟨z0, z1, z2, z3, z4, z5, z6, z7, z8, zf, _⟩ := Y1.out; have zl := Y1.out.lt))
  go_region
  exact bodyPost_end (v := .tuple #[]) (by simp [results, Try.results33, go_sem]) rfl ⟨rfl, A1, m1, c1, (((((Y1.out.set0 (noByte_u32 _)).set1 (noByte_u32 _)).set7 (noByte_slice _ _ _)).set8 (noByte_i64 _)).alloc _).drewN 1, (((((X1.out.odd Y1.out.odd 0 _).odd (Y1.out.set0 (noByte_u32 _)).odd 1 _).odd ((Y1.out.set0 (noByte_u32 _)).set1 (noByte_u32 _)).odd 7 _).odd (((Y1.out.set0 (noByte_u32 _)).set1 (noByte_u32 _)).set7 (noByte_slice _ _ _)).odd 8 _).alloc _).drewN 1, ((((((Ex.of_below B1.out).set 0 _).set 1 _).set 7 _).set 8 _).alloc _).drewN 1⟩
set_option maxRecDepth 20000 in
set_option maxHeartbeats 2000000 in
theorem packet_form (q : Nat) (v0 v1 v2 v3 v4 v5 v6 R : Value) (A : Option Addr) (n c : Nat) (k : List UInt8) (w : World) (hB : Box9 w q v0 v1 v2 v3 v4 v5 v6 (.slice A n c) R) (h : BSl w A n c k) (hn : n ≤ 1000000) (hG : rE k = 0) (hT : ¬ oi (rE k) (bat k 9) = 17) :
    Calls Try.prog 33 #[.pointer (some ⟨q, 0, none⟩)] w (GotStep w q (.int .u32 (oi (rE k) (four k 12))) (.int .u32 (oi (rE k) (four k 16))) v2 v3 v4 v5 v6 (ol (rE k) (bodyF k)) (11)) := by
  have Y := Lib.hid hB
  have H := Lib.hid h
  have C1 := Lib.hid (fun w h => ptake_any A n c k w h hn)
  unfold GotTake at C1
  generalize oi (rE k) (bat k 1) = P0 at *
  generalize oi (rE k) (two k 4) = P1 at *
  generalize oi (rE k) (bat k 8) = P2 at *
  generalize oi (rE k) (bat k 9) = P3 at *
  generalize oi (rE k) (four k 12) = P4 at *
  generalize oi (rE k) (four k 16) = P5 at *
  generalize ol (rE k) (bodyF k) = l1 at *
  generalize rE k = G at *
  subst hG
  obtain ⟨y0, y1, y2, y3, y4, y5, y6, y7, y8, yf, _⟩ := hB
  clear h
  go_enter Try.func33, Try.ntmps33
  go_wp2_with (first
    | (go_at_call 52; (with_reducible refine (C1.out _ H.out).mono ?_); rintro e w1 ⟨A1, m1, c1, rfl, s1, hb1⟩; have B1 := Lib.hid hb1; have X1 := Lib.hid s1; clear s1 hb1 y0 y1 y2 y3 y4 y5 y6 y7 y8 yf; have Y1 := Lib.hid (Y.out.below B1.out); obtain ⟨z0, z1, z2, z3, z4, z5, z6, z7, z8, zf, _⟩ := Y1.out; have zl := Y1.out.lt))
  go_region
  exact bodyPost_end (v := .tuple #[]) (by simp [results, Try.results33, go_sem]) rfl ⟨rfl, A1, m1, c1, (((((Y1.out.set0 (noByte_u32 _)).set1 (noByte_u32 _)).set7 (noByte_slice _ _ _)).set8 (noByte_i64 _)).alloc _).drewN 1, (((((X1.out.odd Y1.out.odd 0 _).odd (Y1.out.set0 (noByte_u32 _)).odd 1 _).odd ((Y1.out.set0 (noByte_u32 _)).set1 (noByte_u32 _)).odd 7 _).odd (((Y1.out.set0 (noByte_u32 _)).set1 (noByte_u32 _)).set7 (noByte_slice _ _ _)).odd 8 _).alloc _).drewN 1, ((((((Ex.of_below B1.out).set 0 _).set 1 _).set 7 _).set 8 _).alloc _).drewN 1⟩
set_option maxRecDepth 20000 in
set_option maxHeartbeats 2000000 in
theorem packet_ok (q : Nat) (v0 v1 v2 v3 v4 v5 v6 R : Value) (A : Option Addr) (n c : Nat) (k : List UInt8) (w : World) (hB : Box9 w q v0 v1 v2 v3 v4 v5 v6 (.slice A n c) R) (h : BSl w A n c k) (hn : n ≤ 1000000) (hG : rE k = 0) (hT : oi (rE k) (bat k 9) = 17) :
    Calls Try.prog 33 #[.pointer (some ⟨q, 0, none⟩)] w (GotStep w q (.int .u32 (oi (rE k) (four k 12))) (.int .u32 (oi (rE k) (four k 16))) v2 v3 v4 v5 v6 (ol (rE k) (bodyF k)) (0)) := by
  have Y := Lib.hid hB
  have H := Lib.hid h
  have C1 := Lib.hid (fun w h => ptake_any A n c k w h hn)
  unfold GotTake at C1
  generalize oi (rE k) (bat k 1) = P0 at *
  generalize oi (rE k) (two k 4) = P1 at *
  generalize oi (rE k) (bat k 8) = P2 at *
  generalize oi (rE k) (bat k 9) = P3 at *
  generalize oi (rE k) (four k 12) = P4 at *
  generalize oi (rE k) (four k 16) = P5 at *
  generalize ol (rE k) (bodyF k) = l1 at *
  generalize rE k = G at *
  subst hG
  subst hT
  obtain ⟨y0, y1, y2, y3, y4, y5, y6, y7, y8, yf, _⟩ := hB
  clear h
  go_enter Try.func33, Try.ntmps33
  go_wp2_with (first
    | (go_at_call 52; (with_reducible refine (C1.out _ H.out).mono ?_); rintro e w1 ⟨A1, m1, c1, rfl, s1, hb1⟩; have B1 := Lib.hid hb1; have X1 := Lib.hid s1; clear s1 hb1 y0 y1 y2 y3 y4 y5 y6 y7 y8 yf; have Y1 := Lib.hid (Y.out.below B1.out); obtain ⟨z0, z1, z2, z3, z4, z5, z6, z7, z8, zf, _⟩ := Y1.out; have zl := Y1.out.lt))
  go_region
  exact bodyPost_end (v := .tuple #[]) (by simp [results, Try.results33, go_sem]) rfl ⟨rfl, A1, m1, c1, (((((Y1.out.set0 (noByte_u32 _)).set1 (noByte_u32 _)).set7 (noByte_slice _ _ _)).set8 (noByte_i64 _)).alloc _).drewN 1, (((((X1.out.odd Y1.out.odd 0 _).odd (Y1.out.set0 (noByte_u32 _)).odd 1 _).odd ((Y1.out.set0 (noByte_u32 _)).set1 (noByte_u32 _)).odd 7 _).odd (((Y1.out.set0 (noByte_u32 _)).set1 (noByte_u32 _)).set7 (noByte_slice _ _ _)).odd 8 _).alloc _).drewN 1, ((((((Ex.of_below B1.out).set 0 _).set 1 _).set 7 _).set 8 _).alloc _).drewN 1⟩
set_option maxRecDepth 20000 in
set_option maxHeartbeats 2000000 in
theorem datagram_no (q : Nat) (v0 v1 v2 v3 v4 v5 v6 R : Value) (A : Option Addr) (n c : Nat) (k : List UInt8) (w : World) (hB : Box9 w q v0 v1 v2 v3 v4 v5 v6 (.slice A n c) R) (h : BSl w A n c k) (hn : n ≤ 1000000) (hG : ¬ udE k = 0) :
    Calls Try.prog 34 #[.pointer (some ⟨q, 0, none⟩)] w (GotStep w q v0 v1 v2 v3 v4 v5 v6 (ol (udE k) (udB k)) (udE k)) := by
  have Y := Lib.hid hB
  have H := Lib.hid h
  have C1 := Lib.hid (fun w h => utake_any A n c k w h hn)
  unfold GotUTake at C1
  generalize oi (udE k) (two k 0) = P0 at *
  generalize oi (udE k) (two k 2) = P1 at *
  generalize ol (udE k) (udB k) = l1 at *
  generalize udE k = G at *
  obtain ⟨y0, y1, y2, y3, y4, y5, y6, y7, y8, yf, _⟩ := hB
  clear h
  go_enter Try.func34, Try.ntmps34
  go_wp2_with (first
    | (go_at_call 53; (with_reducible refine (C1.out _ H.out).mono ?_); rintro e w1 ⟨A1, m1, c1, rfl, s1, hb1⟩; have B1 := Lib.hid hb1; have X1 := Lib.hid s1; clear s1 hb1 y0 y1 y2 y3 y4 y5 y6 y7 y8 yf; have Y1 := Lib.hid (Y.out.below B1.out); obtain ⟨z0, z1, z2, z3, z4, z5, z6, z7, z8, zf, _⟩ := Y1.out; have zl := Y1.out.lt))
  exact bodyPost_end (v := .tuple #[]) (by simp [results, Try.results34, go_sem]) rfl ⟨rfl, A1, m1, c1, ((Y1.out.set7 (noByte_slice _ _ _)).set8 (noByte_i64 _)), ((X1.out.odd Y1.out.odd 7 _).odd (Y1.out.set7 (noByte_slice _ _ _)).odd 8 _), (((Ex.of_below B1.out).set 7 _).set 8 _)⟩
set_option maxRecDepth 20000 in
set_option maxHeartbeats 2000000 in
theorem datagram_form (q : Nat) (v0 v1 v2 v3 v4 v5 v6 R : Value) (A : Option Addr) (n c : Nat) (k : List UInt8) (w : World) (hB : Box9 w q v0 v1 v2 v3 v4 v5 v6 (.slice A n c) R) (h : BSl w A n c k) (hn : n ≤ 1000000) (hG : udE k = 0) (hT : ¬ oi (udE k) (two k 2) = 4789) :
    Calls Try.prog 34 #[.pointer (some ⟨q, 0, none⟩)] w (GotStep w q v0 v1 v2 v3 v4 v5 v6 (ol (udE k) (udB k)) (11)) := by
  have Y := Lib.hid hB
  have H := Lib.hid h
  have C1 := Lib.hid (fun w h => utake_any A n c k w h hn)
  unfold GotUTake at C1
  generalize oi (udE k) (two k 0) = P0 at *
  generalize oi (udE k) (two k 2) = P1 at *
  generalize ol (udE k) (udB k) = l1 at *
  generalize udE k = G at *
  subst hG
  obtain ⟨y0, y1, y2, y3, y4, y5, y6, y7, y8, yf, _⟩ := hB
  clear h
  go_enter Try.func34, Try.ntmps34
  go_wp2_with (first
    | (go_at_call 53; (with_reducible refine (C1.out _ H.out).mono ?_); rintro e w1 ⟨A1, m1, c1, rfl, s1, hb1⟩; have B1 := Lib.hid hb1; have X1 := Lib.hid s1; clear s1 hb1 y0 y1 y2 y3 y4 y5 y6 y7 y8 yf; have Y1 := Lib.hid (Y.out.below B1.out); obtain ⟨z0, z1, z2, z3, z4, z5, z6, z7, z8, zf, _⟩ := Y1.out; have zl := Y1.out.lt))
  exact bodyPost_end (v := .tuple #[]) (by simp [results, Try.results34, go_sem]) rfl ⟨rfl, A1, m1, c1, ((Y1.out.set7 (noByte_slice _ _ _)).set8 (noByte_i64 _)), ((X1.out.odd Y1.out.odd 7 _).odd (Y1.out.set7 (noByte_slice _ _ _)).odd 8 _), (((Ex.of_below B1.out).set 7 _).set 8 _)⟩
set_option maxRecDepth 20000 in
set_option maxHeartbeats 2000000 in
theorem datagram_ok (q : Nat) (v0 v1 v2 v3 v4 v5 v6 R : Value) (A : Option Addr) (n c : Nat) (k : List UInt8) (w : World) (hB : Box9 w q v0 v1 v2 v3 v4 v5 v6 (.slice A n c) R) (h : BSl w A n c k) (hn : n ≤ 1000000) (hG : udE k = 0) (hT : oi (udE k) (two k 2) = 4789) :
    Calls Try.prog 34 #[.pointer (some ⟨q, 0, none⟩)] w (GotStep w q v0 v1 v2 v3 v4 v5 v6 (ol (udE k) (udB k)) (0)) := by
  have Y := Lib.hid hB
  have H := Lib.hid h
  have C1 := Lib.hid (fun w h => utake_any A n c k w h hn)
  unfold GotUTake at C1
  generalize oi (udE k) (two k 0) = P0 at *
  generalize oi (udE k) (two k 2) = P1 at *
  generalize ol (udE k) (udB k) = l1 at *
  generalize udE k = G at *
  subst hG
  subst hT
  obtain ⟨y0, y1, y2, y3, y4, y5, y6, y7, y8, yf, _⟩ := hB
  clear h
  go_enter Try.func34, Try.ntmps34
  go_wp2_with (first
    | (go_at_call 53; (with_reducible refine (C1.out _ H.out).mono ?_); rintro e w1 ⟨A1, m1, c1, rfl, s1, hb1⟩; have B1 := Lib.hid hb1; have X1 := Lib.hid s1; clear s1 hb1 y0 y1 y2 y3 y4 y5 y6 y7 y8 yf; have Y1 := Lib.hid (Y.out.below B1.out); obtain ⟨z0, z1, z2, z3, z4, z5, z6, z7, z8, zf, _⟩ := Y1.out; have zl := Y1.out.lt))
  exact bodyPost_end (v := .tuple #[]) (by simp [results, Try.results34, go_sem]) rfl ⟨rfl, A1, m1, c1, ((Y1.out.set7 (noByte_slice _ _ _)).set8 (noByte_i64 _)), ((X1.out.odd Y1.out.odd 7 _).odd (Y1.out.set7 (noByte_slice _ _ _)).odd 8 _), (((Ex.of_below B1.out).set 7 _).set 8 _)⟩
set_option maxRecDepth 20000 in
set_option maxHeartbeats 2000000 in
theorem head_any (q : Nat) (v0 v1 v2 v3 v4 v5 v6 R : Value) (A : Option Addr) (n c : Nat) (k : List UInt8) (w : World) (hB : Box9 w q v0 v1 v2 v3 v4 v5 v6 (.slice A n c) R) (h : BSl w A n c k) (hn : n ≤ 1000000) :
    Calls Try.prog 35 #[.pointer (some ⟨q, 0, none⟩)] w (GotStep w q v0 v1 (.int .i64 (oi (vnE k) (three k))) v3 v4 v5 v6 (ol (vnE k) (k.drop 8)) (vnE k)) := by
  have Y := Lib.hid hB
  have H := Lib.hid h
  have C1 := Lib.hid (fun w h => xvni_any A n c k w h hn)
  unfold GotVni at C1
  generalize oi (vnE k) (three k) = P0 at *
  generalize ol (vnE k) (k.drop 8) = l1 at *
  generalize vnE k = G at *
  obtain ⟨y0, y1, y2, y3, y4, y5, y6, y7, y8, yf, _⟩ := hB
  clear h
  go_enter Try.func35, Try.ntmps35
  go_wp2_with (first
    | (go_at_call 10; (with_reducible refine (C1.out _ H.out).mono ?_); rintro e w1 ⟨A1, m1, c1, rfl, s1, hb1⟩; have B1 := Lib.hid hb1; have X1 := Lib.hid s1; clear s1 hb1 y0 y1 y2 y3 y4 y5 y6 y7 y8 yf; have Y1 := Lib.hid (Y.out.below B1.out); obtain ⟨z0, z1, z2, z3, z4, z5, z6, z7, z8, zf, _⟩ := Y1.out; have zl := Y1.out.lt))
  exact bodyPost_end (v := .tuple #[]) (by simp [results, Try.results35, go_sem]) rfl ⟨rfl, A1, m1, c1, (((Y1.out.set2 (noByte_i64 _)).set7 (noByte_slice _ _ _)).set8 (noByte_i64 _)), (((X1.out.odd Y1.out.odd 2 _).odd (Y1.out.set2 (noByte_i64 _)).odd 7 _).odd ((Y1.out.set2 (noByte_i64 _)).set7 (noByte_slice _ _ _)).odd 8 _), ((((Ex.of_below B1.out).set 2 _).set 7 _).set 8 _)⟩
/-- a frame and a number stored in a reading's block -/
theorem box9_frame {w : World} {q : Nat} {v0 v1 v2 v3 v4 v5 v6 v7 v8 : Value} {D S T E : Int} {A : Option Addr} {n c : Nat} (h : Box9 w q v0 v1 v2 v3 v4 v5 v6 v7 v8) :
    Box9 (((((w.setCell ⟨q, 3, none⟩ (.int .u64 D)).setCell ⟨q, 4, none⟩ (.int .u64 S)).setCell ⟨q, 5, none⟩ (.int .i64 T)).setCell ⟨q, 6, none⟩ (.slice A n c)).setCell ⟨q, 8, none⟩ (.int .i64 E)) q v0 v1 v2 (.int .u64 D) (.int .u64 S) (.int .i64 T) (.slice A n c) v7 (.int .i64 E) :=
  ((((h.set3 (noByte_u64 _)).set4 (noByte_u64 _)).set5 (noByte_i64 _)).set6 (noByte_slice _ _ _)).set8 (noByte_i64 _)
theorem bsl_frame {w : World} {q : Nat} {v0 v1 v2 v3 v4 v5 v6 v7 v8 : Value} {D S T E : Int} {A : Option Addr} {n c : Nat} {B : Option Addr} {m d : Nat} {l : List UInt8} (g : BSl w B m d l) (h : Box9 w q v0 v1 v2 v3 v4 v5 v6 v7 v8) :
    BSl (((((w.setCell ⟨q, 3, none⟩ (.int .u64 D)).setCell ⟨q, 4, none⟩ (.int .u64 S)).setCell ⟨q, 5, none⟩ (.int .i64 T)).setCell ⟨q, 6, none⟩ (.slice A n c)).setCell ⟨q, 8, none⟩ (.int .i64 E)) B m d l :=
  ((((g.odd h.odd 3 _).odd (h.set3 (noByte_u64 _)).odd 4 _).odd ((h.set3 (noByte_u64 _)).set4 (noByte_u64 _)).odd 5 _).odd (((h.set3 (noByte_u64 _)).set4 (noByte_u64 _)).set5 (noByte_i64 _)).odd 6 _).odd ((((h.set3 (noByte_u64 _)).set4 (noByte_u64 _)).set5 (noByte_i64 _)).set6 (noByte_slice _ _ _)).odd 8 _
theorem ex_frame {a w : World} {q : Nat} {u0 u1 u2 u3 u4 : Value} (h : Ex q a w) : Ex q a (((((w.setCell ⟨q, 3, none⟩ u0).setCell ⟨q, 4, none⟩ u1).setCell ⟨q, 5, none⟩ u2).setCell ⟨q, 6, none⟩ u3).setCell ⟨q, 8, none⟩ u4) :=
  ((((h.set 3 _).set 4 _).set 5 _).set 6 _).set 8 _
set_option maxRecDepth 20000 in
set_option maxHeartbeats 2000000 in
theorem inner_no (q : Nat) (v0 v1 v2 v3 v4 v5 v6 R : Value) (A : Option Addr) (n c : Nat) (k : List UInt8) (w : World) (hB : Box9 w q v0 v1 v2 v3 v4 v5 v6 (.slice A n c) R) (h : BSl w A n c k) (hG : ¬ tE k = 0) :
    Calls Try.prog 36 #[.pointer (some ⟨q, 0, none⟩)] w (fun e w' => e = .returned (.tuple #[]) ∧ ∃ A' n' c', Box9 w' q v0 v1 v2 (.int .u64 (tD k)) (.int .u64 (tS k)) (.int .i64 (tT k)) (.slice A' n' c') (.slice A n c) (.int .i64 (tE k)) ∧ BSl w' A' n' c' (tL k) ∧ Ex q w w') := by
  have Y := Lib.hid hB
  have H := Lib.hid h
  have C1 := Lib.hid (fun w h => ftake_any A n c k w h)
  generalize tD k = D1 at *
  generalize tS k = S1 at *
  generalize tT k = T1 at *
  generalize tL k = l1 at *
  generalize tE k = G at *
  obtain ⟨y0, y1, y2, y3, y4, y5, y6, y7, y8, yf, _⟩ := hB
  clear h
  go_enter Try.func36, Try.ntmps36
  go_wp2_with (first
    | (go_at_call 17; (with_reducible refine (C1.out _ H.out).mono ?_); rintro e w1 ⟨A1, m1, c1, rfl, s1, hb1⟩; have B1 := Lib.hid hb1; have X1 := Lib.hid s1; clear s1 hb1 y0 y1 y2 y3 y4 y5 y6 y7 y8 yf; have Y1 := Lib.hid (Y.out.below B1.out); obtain ⟨z0, z1, z2, z3, z4, z5, z6, z7, z8, zf, _⟩ := Y1.out; have zl := Y1.out.lt)
    | (go_at_call 21; (with_reducible refine (CI.out _ _ _ _).mono ?_); rintro e w2 ⟨rfl, hb2⟩; obtain ⟨k0, k1, k2, k3, _⟩ := fput_keep hb2; have B2 := Lib.hid (one_below hb2); have kl : w1.heap.size < w2.heap.size := Nat.lt_of_lt_of_le (by simp) hb2.size; have X2 := Lib.hid (X1.out.below B2.out); clear z0 z1 z2 z3 z4 z5 z6 z7 z8 zf; have Y2 := Lib.hid (Y1.out.below B2.out); obtain ⟨z0, z1, z2, z3, z4, z5, z6, z7, z8, zf, _⟩ := Y2.out; clear hb2))
  exact bodyPost_end (v := .tuple #[]) (by simp [results, Try.results36, go_sem]) rfl ⟨rfl, A1, m1, c1, (box9_frame Y1.out).alloc _, (bsl_frame X1.out Y1.out).alloc _, (ex_frame (Ex.of_below B1.out)).alloc _⟩
set_option maxRecDepth 20000 in
set_option maxHeartbeats 2000000 in
theorem inner_form (q : Nat) (v0 v1 v2 v3 v4 v5 v6 R : Value) (A : Option Addr) (n c : Nat) (k : List UInt8) (w : World) (hB : Box9 w q v0 v1 v2 v3 v4 v5 v6 (.slice A n c) R) (h : BSl w A n c k) (hG : tE k = 0) (hT : tT k = 33024) :
    Calls Try.prog 36 #[.pointer (some ⟨q, 0, none⟩)] w (fun e w' => e = .returned (.tuple #[]) ∧ ∃ A' n' c', Box9 w' q v0 v1 v2 (.int .u64 (tD k)) (.int .u64 (tS k)) (.int .i64 (tT k)) (.slice A' n' c') (.slice A n c) (.int .i64 (15)) ∧ BSl w' A' n' c' (tL k) ∧ Ex q w w') := by
  have Y := Lib.hid hB
  have H := Lib.hid h
  have C1 := Lib.hid (fun w h => ftake_any A n c k w h)
  generalize tD k = D1 at *
  generalize tS k = S1 at *
  generalize tT k = T1 at *
  generalize tL k = l1 at *
  generalize tE k = G at *
  subst hG
  subst hT
  have CI := Lib.hid (fun A n c w => is_as D1 S1 33024 A n c w true rfl)
  obtain ⟨y0, y1, y2, y3, y4, y5, y6, y7, y8, yf, _⟩ := hB
  clear h
  go_enter Try.func36, Try.ntmps36
  go_wp2_with (first
    | (go_at_call 17; (with_reducible refine (C1.out _ H.out).mono ?_); rintro e w1 ⟨A1, m1, c1, rfl, s1, hb1⟩; have B1 := Lib.hid hb1; have X1 := Lib.hid s1; clear s1 hb1 y0 y1 y2 y3 y4 y5 y6 y7 y8 yf; have Y1 := Lib.hid (Y.out.below B1.out); obtain ⟨z0, z1, z2, z3, z4, z5, z6, z7, z8, zf, _⟩ := Y1.out; have zl := Y1.out.lt)
    | (go_at_call 21; (with_reducible refine (CI.out _ _ _ _).mono ?_); rintro e w2 ⟨rfl, hb2⟩; obtain ⟨k0, k1, k2, k3, _⟩ := fput_keep hb2; have B2 := Lib.hid (one_below hb2); have kl : w1.heap.size < w2.heap.size := Nat.lt_of_lt_of_le (by simp) hb2.size; have X2 := Lib.hid (X1.out.below B2.out); clear z0 z1 z2 z3 z4 z5 z6 z7 z8 zf; have Y2 := Lib.hid (Y1.out.below B2.out); obtain ⟨z0, z1, z2, z3, z4, z5, z6, z7, z8, zf, _⟩ := Y2.out; clear hb2))
  exact bodyPost_end (v := .tuple #[]) (by simp [results, Try.results36, go_sem]) rfl ⟨rfl, A1, m1, c1, (box9_frame Y2.out), (bsl_frame X2.out Y2.out), (ex_frame (Ex.of_below (trans_below B1.out B2.out)))⟩
set_option maxRecDepth 20000 in
set_option maxHeartbeats 2000000 in
theorem inner_ok (q : Nat) (v0 v1 v2 v3 v4 v5 v6 R : Value) (A : Option Addr) (n c : Nat) (k : List UInt8) (w : World) (hB : Box9 w q v0 v1 v2 v3 v4 v5 v6 (.slice A n c) R) (h : BSl w A n c k) (hG : tE k = 0) (hT : ¬ tT k = 33024) :
    Calls Try.prog 36 #[.pointer (some ⟨q, 0, none⟩)] w (fun e w' => e = .returned (.tuple #[]) ∧ ∃ A' n' c', Box9 w' q v0 v1 v2 (.int .u64 (tD k)) (.int .u64 (tS k)) (.int .i64 (tT k)) (.slice A' n' c') (.slice A n c) (.int .i64 (0)) ∧ BSl w' A' n' c' (tL k) ∧ Ex q w w') := by
  have Y := Lib.hid hB
  have H := Lib.hid h
  have C1 := Lib.hid (fun w h => ftake_any A n c k w h)
  generalize tD k = D1 at *
  generalize tS k = S1 at *
  generalize tT k = T1 at *
  generalize tL k = l1 at *
  generalize tE k = G at *
  subst hG
  have CI := Lib.hid (fun A n c w => is_as D1 S1 T1 A n c w false (by simpa using hT))
  obtain ⟨y0, y1, y2, y3, y4, y5, y6, y7, y8, yf, _⟩ := hB
  clear h
  go_enter Try.func36, Try.ntmps36
  go_wp2_with (first
    | (go_at_call 17; (with_reducible refine (C1.out _ H.out).mono ?_); rintro e w1 ⟨A1, m1, c1, rfl, s1, hb1⟩; have B1 := Lib.hid hb1; have X1 := Lib.hid s1; clear s1 hb1 y0 y1 y2 y3 y4 y5 y6 y7 y8 yf; have Y1 := Lib.hid (Y.out.below B1.out); obtain ⟨z0, z1, z2, z3, z4, z5, z6, z7, z8, zf, _⟩ := Y1.out; have zl := Y1.out.lt)
    | (go_at_call 21; (with_reducible refine (CI.out _ _ _ _).mono ?_); rintro e w2 ⟨rfl, hb2⟩; obtain ⟨k0, k1, k2, k3, _⟩ := fput_keep hb2; have B2 := Lib.hid (one_below hb2); have kl : w1.heap.size < w2.heap.size := Nat.lt_of_lt_of_le (by simp) hb2.size; have X2 := Lib.hid (X1.out.below B2.out); clear z0 z1 z2 z3 z4 z5 z6 z7 z8 zf; have Y2 := Lib.hid (Y1.out.below B2.out); obtain ⟨z0, z1, z2, z3, z4, z5, z6, z7, z8, zf, _⟩ := Y2.out; clear hb2))
  exact bodyPost_end (v := .tuple #[]) (by simp [results, Try.results36, go_sem]) rfl ⟨rfl, A1, m1, c1, (box9_frame Y2.out), (bsl_frame X2.out Y2.out), (ex_frame (Ex.of_below (trans_below B1.out B2.out)))⟩

/-- why a step refuses -/
def sO (k : List UInt8) : Int := if tE k = 0 then (if tT k = 2048 then 0 else 11) else tE k
def sP (k : List UInt8) : Int := if rE k = 0 then (if oi (rE k) (bat k 9) = 17 then 0 else 11) else rE k
def sD (k : List UInt8) : Int := if udE k = 0 then (if oi (udE k) (two k 2) = 4789 then 0 else 11) else udE k
def sI (k : List UInt8) : Int := if tE k = 0 then (if tT k = 33024 then 15 else 0) else tE k
theorem outer_any (q : Nat) (v0 v1 v2 v3 v4 v5 v6 R : Value) (A : Option Addr) (n c : Nat) (k : List UInt8) (w : World) (hB : Box9 w q v0 v1 v2 v3 v4 v5 v6 (.slice A n c) R) (h : BSl w A n c k) :
    Calls Try.prog 32 #[.pointer (some ⟨q, 0, none⟩)] w (GotStep w q v0 v1 v2 v3 v4 v5 v6 (tL k) (sO k)) := by
  unfold sO
  by_cases hG : tE k = 0
  · by_cases hT : tT k = 2048
    · rw [if_pos hG, if_pos hT]
      exact outer_ok q v0 v1 v2 v3 v4 v5 v6 R A n c k w hB h hG hT
    · rw [if_pos hG, if_neg hT]
      exact outer_form q v0 v1 v2 v3 v4 v5 v6 R A n c k w hB h hG hT
  · rw [if_neg hG]
    exact outer_no q v0 v1 v2 v3 v4 v5 v6 R A n c k w hB h hG
theorem packet_any (q : Nat) (v0 v1 v2 v3 v4 v5 v6 R : Value) (A : Option Addr) (n c : Nat) (k : List UInt8) (w : World) (hB : Box9 w q v0 v1 v2 v3 v4 v5 v6 (.slice A n c) R) (h : BSl w A n c k) (hn : n ≤ 1000000) :
    Calls Try.prog 33 #[.pointer (some ⟨q, 0, none⟩)] w (GotStep w q (.int .u32 (oi (rE k) (four k 12))) (.int .u32 (oi (rE k) (four k 16))) v2 v3 v4 v5 v6 (ol (rE k) (bodyF k)) (sP k)) := by
  unfold sP
  by_cases hG : rE k = 0
  · by_cases hT : oi (rE k) (bat k 9) = 17
    · rw [if_pos hG, if_pos hT]
      exact packet_ok q v0 v1 v2 v3 v4 v5 v6 R A n c k w hB h hn hG hT
    · rw [if_pos hG, if_neg hT]
      exact packet_form q v0 v1 v2 v3 v4 v5 v6 R A n c k w hB h hn hG hT
  · rw [if_neg hG]
    exact packet_no q v0 v1 v2 v3 v4 v5 v6 R A n c k w hB h hn hG
theorem datagram_any (q : Nat) (v0 v1 v2 v3 v4 v5 v6 R : Value) (A : Option Addr) (n c : Nat) (k : List UInt8) (w : World) (hB : Box9 w q v0 v1 v2 v3 v4 v5 v6 (.slice A n c) R) (h : BSl w A n c k) (hn : n ≤ 1000000) :
    Calls Try.prog 34 #[.pointer (some ⟨q, 0, none⟩)] w (GotStep w q v0 v1 v2 v3 v4 v5 v6 (ol (udE k) (udB k)) (sD k)) := by
  unfold sD
  by_cases hG : udE k = 0
  · by_cases hT : oi (udE k) (two k 2) = 4789
    · rw [if_pos hG, if_pos hT]
      exact datagram_ok q v0 v1 v2 v3 v4 v5 v6 R A n c k w hB h hn hG hT
    · rw [if_pos hG, if_neg hT]
      exact datagram_form q v0 v1 v2 v3 v4 v5 v6 R A n c k w hB h hn hG hT
  · rw [if_neg hG]
    exact datagram_no q v0 v1 v2 v3 v4 v5 v6 R A n c k w hB h hn hG
theorem inner_any (q : Nat) (v0 v1 v2 v3 v4 v5 v6 R : Value) (A : Option Addr) (n c : Nat) (k : List UInt8) (w : World) (hB : Box9 w q v0 v1 v2 v3 v4 v5 v6 (.slice A n c) R) (h : BSl w A n c k) :
    Calls Try.prog 36 #[.pointer (some ⟨q, 0, none⟩)] w (fun e w' => e = .returned (.tuple #[]) ∧ ∃ A' n' c', Box9 w' q v0 v1 v2 (.int .u64 (tD k)) (.int .u64 (tS k)) (.int .i64 (tT k)) (.slice A' n' c') (.slice A n c) (.int .i64 (sI k)) ∧ BSl w' A' n' c' (tL k) ∧ Ex q w w') := by
  unfold sI
  by_cases hG : tE k = 0
  · by_cases hT : tT k = 33024
    · rw [if_pos hG, if_pos hT]
      exact inner_form q v0 v1 v2 v3 v4 v5 v6 R A n c k w hB h hG hT
    · rw [if_pos hG, if_neg hT]
      exact inner_ok q v0 v1 v2 v3 v4 v5 v6 R A n c k w hB h hG hT
  · rw [if_neg hG]
    exact inner_no q v0 v1 v2 v3 v4 v5 v6 R A n c k w hB h hG
end Go.Proofs.Ytgmeicenjgiihaa
