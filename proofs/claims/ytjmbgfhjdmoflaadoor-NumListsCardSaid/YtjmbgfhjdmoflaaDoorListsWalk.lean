/- The walk of the statement NumLists. -/
import Derived.Test.YtjmbgfhjdmoflaaDoorWorks3
import Derived.Test.YtjmbgfhjdmoflaaDoorRefLists
import Derived.Test.YtjmbgfhjdmoflaaDoorWrite
namespace Go.Proofs.YtjmbgfhjdmoflaaDoor
open Go.RowKit

theorem lists_long (l : List UInt8) (lo hi : Int) (A : Option Addr) (n c : Nat) (B : Option Addr) (m d : Nat) (w : World) (hl : Lds w) (h : 1000 < l.length ∨ 1000 < n ∨ 1000 < m) :
    Calls Tryd.prog 4 #[.string (str l), .int .i64 lo, .int .i64 hi, .slice A n c, .slice B m d] w fun e w' => e = .returned (.bool true) ∧ Below w.heap.size w w' := by
  have HL := Lib.hid hl
  clear hl
  by_cases h1 : 1000 < l.length
  · have g1 : (1000 : Int) < (l.length : Int) := by omega
    clear h
    go_enter Tryd.func4, Tryd.ntmps4
    go_wp2_with (go_at_call 7; refine (works_any _ HL.out).mono ?_; rintro e w1 ⟨rfl, hb1⟩)
    go_ret
    exact ⟨rfl, hb1⟩
  · have g1 : ¬ (1000 : Int) < (l.length : Int) := by omega
    by_cases h2 : 1000 < n
    · have g2 : (1000 : Int) < (n : Int) := by omega
      clear h
      go_enter Tryd.func4, Tryd.ntmps4
      go_wp2_with (go_at_call 7; refine (works_any _ HL.out).mono ?_; rintro e w1 ⟨rfl, hb1⟩)
      go_ret
      exact ⟨rfl, hb1⟩
    · have g2 : ¬ (1000 : Int) < (n : Int) := by omega
      have h3 : 1000 < m := by omega
      have g3 : (1000 : Int) < (m : Int) := by omega
      clear h
      go_enter Tryd.func4, Tryd.ntmps4
      go_wp2_with (go_at_call 7; refine (works_any _ HL.out).mono ?_; rintro e w1 ⟨rfl, hb1⟩)
      go_ret
      exact ⟨rfl, hb1⟩
set_option maxRecDepth 100000 in
set_option maxHeartbeats 4000000 in
theorem lists_walk (l : List UInt8) (lo hi : Int) (A : Option Addr) (n c : Nat) (xs : List Int) (B : Option Addr) (m d : Nat) (ys : List Int) (w : World) (hl : Lds w)
    (hx : ISl w .i64 A n c xs) (hy : ISl w .u32 B m d ys) (rx : In64 xs) (ry : InU32 ys) :
    Calls Tryd.prog 4 #[.string (str l), .int .i64 lo, .int .i64 hi, .slice A n c, .slice B m d] w fun e w' => e = .returned (.bool true) ∧ Below w.heap.size w w' := by
  by_cases h : 1000 < l.length ∨ 1000 < n ∨ 1000 < m
  · exact lists_long l lo hi A n c B m d w hl h
  · have h1 : l.length ≤ 1000 := by omega
    have h2 : n ≤ 1000 := by omega
    have h3 : m ≤ 1000 := by omega
    have HS := Lib.hid (show l.length ≤ 1000000 by omega)
    have HL := Lib.hid hl
    have X := Lib.hid hx
    have Y := Lib.hid hy
    have RX := Lib.hid rx
    have RY := Lib.hid ry
    have N1 := Lib.hid h2
    have M1 := Lib.hid h3
    have g1 : ¬ (1000 : Int) < (l.length : Int) := by omega
    have g2 : ¬ (1000 : Int) < (n : Int) := by omega
    have g3 : ¬ (1000 : Int) < (m : Int) := by omega
    clear h hl hx hy rx ry
    have Q1 := Lib.hid (fun w hl => readList_any l lo hi w HS.out hl)
    have Q2 := Lib.hid (fun w => refReadList_any l lo hi w HS.out)
    have Q3 := Lib.hid (fun w => readAddrs_any l w HS.out)
    have Q4 := Lib.hid (fun w => refReadAddrs_any l w HS.out)
    have Q5 := Lib.hid (fun w h => ris_any A n c xs lo hi w h)
    have Q6 := Lib.hid (fun w h => refRis_any A n c xs lo hi w h)
    have Q7 := Lib.hid (fun w h hl => listI_any A n c xs w h N1.out RX.out hl)
    have Q8 := Lib.hid (fun w h => refListI_any A n c xs w h N1.out RX.out)
    have Q9 := Lib.hid (fun w h hl => listA_any B m d ys w h M1.out RY.out hl)
    have Q0 := Lib.hid (fun w h => refListA_any B m d ys w h M1.out RY.out)
    generalize lsV (rdI lo hi) l = v1 at Q1 Q2
    generalize lsB (rdI lo hi) l = b1 at Q1 Q2
    generalize lsV rdA l = v2 at Q3 Q4
    generalize lsB rdA l = b2 at Q3 Q4
    generalize risIn xs lo hi = b3 at Q5 Q6
    generalize jn txI xs = t1 at Q7 Q8
    generalize jn txA ys = t2 at Q9 Q0
    go_enter Tryd.func4, Tryd.ntmps4
    go_wp2_with (first
      | (go_at_call 14; (with_reducible refine (Q1.out _ HL.out).mono ?_); rintro e w1 ⟨A1, n1, c1, rfl, i1, hB⟩; replace i1 := Lib.hid i1)
      | (go_at_call 15; (with_reducible refine (Q2.out _).mono ?_); rintro e w2 ⟨A2, n2, c2, rfl, i2, hb⟩; replace i2 := Lib.hid i2; replace i1 := Lib.hid (i1.out.below hb); replace hB := trans_below hB hb; clear hb)
      | (go_at_call 16; (with_reducible refine (Q3.out _).mono ?_); rintro e w3 ⟨A3, n3, c3, rfl, i3, hb⟩; replace i3 := Lib.hid i3; replace i1 := Lib.hid (i1.out.below hb); replace i2 := Lib.hid (i2.out.below hb); replace hB := trans_below hB hb; clear hb)
      | (go_at_call 17; (with_reducible refine (Q4.out _).mono ?_); rintro e w4 ⟨A4, n4, c4, rfl, i4, hb⟩; replace i4 := Lib.hid i4; replace i1 := Lib.hid (i1.out.below hb); replace i2 := Lib.hid (i2.out.below hb); replace i3 := Lib.hid (i3.out.below hb); replace hB := trans_below hB hb; clear hb)
      | (go_at_call 18; (with_reducible refine (ints_any _ _ _ _ _ _ v1 _ i1.out i2.out).mono ?_); rintro e w5 ⟨rfl, hd⟩; replace i3 := Lib.hid (i3.out.below hd.below); replace i4 := Lib.hid (i4.out.below hd.below); replace hB := trans_below hB hd.below; clear hd)
      | (go_at_call 19; (with_reducible refine (addrs_any _ _ _ _ _ _ v2 _ i3.out i4.out).mono ?_); rintro e w6 ⟨rfl, hd⟩; replace hB := trans_below hB hd.below; clear hd)
      | (go_at_call 20; (with_reducible refine (Q5.out _ (X.out.below hB)).mono ?_); rintro e w7 ⟨rfl, hd⟩; replace hB := trans_below hB hd.below; clear hd)
      | (go_at_call 21; (with_reducible refine (Q6.out _ (X.out.below hB)).mono ?_); rintro e w8 ⟨rfl, hd⟩; replace hB := trans_below hB hd.below; clear hd)
      | (go_at_call 22; (with_reducible refine (Q7.out _ (X.out.below hB) (HL.out.below hB)).mono ?_); rintro e w9 ⟨rfl, hb⟩; replace hB := trans_below hB hb; clear hb)
      | (go_at_call 23; (with_reducible refine (Q8.out _ (X.out.below hB)).mono ?_); rintro e w10 ⟨rfl, hb⟩; replace hB := trans_below hB hb; clear hb)
      | (go_at_call 24; (with_reducible refine (Q9.out _ (Y.out.below hB) (HL.out.below hB)).mono ?_); rintro e w11 ⟨rfl, hb⟩; replace hB := trans_below hB hb; clear hb)
      | (go_at_call 25; (with_reducible refine (Q0.out _ (Y.out.below hB)).mono ?_); rintro e w12 ⟨rfl, hb⟩; replace hB := trans_below hB hb; clear hb)
      | (go_at_call 7; (with_reducible refine (works_any _ (HL.out.below hB)).mono ?_); rintro e w13 ⟨rfl, hb⟩; replace hB := trans_below hB hb; clear hb))
    go_ret
    exact ⟨rfl, hB⟩
end Go.Proofs.YtjmbgfhjdmoflaaDoor
