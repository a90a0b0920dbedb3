/- The walk of StmtReads. -/
import Derived.Test.YtpbomfhlghljdaaGreatDoorStWorks
import Derived.Test.YtpbomfhlghljdaaGreatDoorStOk
namespace Go.Proofs.YtpbomfhlghljdaaGreatDoor
open Go.RowKit

set_option maxRecDepth 20000 in
set_option maxHeartbeats 2000000 in
theorem reads_walk (A : Option Addr) (n c : Nat) (ws : List (List UInt8)) (row : Int) (w : World) (h : SSl w A n c ws) (hl : LdS w) :
    Calls Tryz.prog 3 #[.slice A n c, .int .i64 row] w fun e w' => e = .returned (.bool true) ∧ Below w.heap.size w w' := by
  have G := fun w h => great_any A n c ws w h
  have H := Lib.hid h
  have HL := Lib.hid hl
  cases hg : greatB ws with
  | true =>
    rw [hg] at G
    have G := Lib.hid G
    clear h hl hg
    go_enter Tryz.func3, Tryz.ntmps3
    go_wp2_with (first
      | (go_at_call 5; (with_reducible refine (G.out _ H.out).mono ?_); rintro e w1 ⟨rfl, b1⟩; have B1 := Lib.hid b1; clear b1)
      | (go_at_call 6; (with_reducible refine (works11_any _ (HL.out.below B1.out)).mono ?_); rintro e w2 ⟨rfl, b2⟩; have B2 := Lib.hid (trans_below B1.out b2); clear b2))
    go_ret
    exact ⟨rfl, B2.out⟩
  | false =>
    rw [hg] at G
    have G := Lib.hid G
    have hs := (great_no hg).2
    have R1 := fun w h hl => xread_any A n c ws row w h hs hl
    have R2 := fun w h => rread_any A n c ws row w h (fun p hp => Nat.le_trans (hs p hp) (by decide))
    generalize rdL ws row = L at R1 R2
    generalize rdE ws row = E at R1 R2
    have R1 := Lib.hid R1
    have R2 := Lib.hid R2
    clear h hl hg hs
    go_enter Tryz.func3, Tryz.ntmps3
    go_wp2_with (first
      | (go_at_call 5; (with_reducible refine (G.out _ H.out).mono ?_); rintro e w1 ⟨rfl, b1⟩; have B1 := Lib.hid b1; clear b1)
      | (go_at_call 7; (with_reducible refine (R1.out _ (H.out.below B1.out) (HL.out.below B1.out)).mono ?_); rintro e w2 ⟨s1, s2, s3, s4, rfl, r2, _, b2⟩; have B2 := Lib.hid (trans_below B1.out b2); have L2 := Lib.hid r2; clear r2 b2)
      | ((with_reducible refine wpList_newline (w := w2) rfl rfl rfl (.tmp 5) (.tmp 16) rfl ?hx L s1 s2 s3 s4 ?hy ?_); (case hx => rfl); (case hy => rfl); intro w3 x3 y3; have X3 := Lib.hid x3; have B3 := Lib.hid (trans_below B2.out y3); have L3 := Lib.hid (L2.out.below y3); clear x3 y3)
      | (go_at_call 8; (with_reducible refine (R2.out _ (H.out.below B3.out)).mono ?_); rintro e w4 ⟨t1, t2, t3, t4, rfl, r4, _, b4⟩; have B4 := Lib.hid b4; have L4 := Lib.hid r4; clear r4 b4)
      | ((with_reducible refine wpList_newline (w := w4) rfl rfl rfl (.tmp 7) (.tmp 22) rfl ?hx L t1 t2 t3 t4 ?hy ?_); (case hx => rfl); (case hy => rfl); intro w5 x5 y5; have X5 := Lib.hid x5; have B5a := Lib.hid (trans_below B4.out y5); have B5 := Lib.hid (trans_below B3.out B5a.out); have X5b := Lib.hid (X3.out.below (by omega) B5a.out); have L5 := Lib.hid (L4.out.below y5); have L5b := Lib.hid (L3.out.below B5a.out); clear x5 y5)
      | ((with_reducible refine wpList_lineOf ?hw (.tmp 5) rfl w2.heap.size ?hx L s1 s2 s3 s4 X5b.out ?_); (case hw => rfl); (case hx => rfl))
      | ((with_reducible refine wpList_lineOf ?hw (.tmp 7) rfl w4.heap.size ?hx L t1 t2 t3 t4 X5.out ?_); (case hw => rfl); (case hx => rfl))
      | (go_at_call 9; (with_reducible refine (rsame_self L s1 s2 s3 s4 t1 t2 t3 t4 _ L5b.out L5.out).mono ?_); rintro e w6 ⟨rfl, b6⟩; have B6 := Lib.hid (trans_below B5.out b6); clear b6)
      | (go_at_call 6; (with_reducible refine (works11_any _ (HL.out.below B6.out)).mono ?_); rintro e w7 ⟨rfl, b7⟩; have B7 := Lib.hid (trans_below B6.out b7); clear b7))
    go_ret
    exact ⟨rfl, B7.out⟩
end Go.Proofs.YtpbomfhlghljdaaGreatDoor
