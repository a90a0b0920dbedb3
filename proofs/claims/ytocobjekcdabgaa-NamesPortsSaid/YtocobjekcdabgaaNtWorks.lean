/- The chapter's example, as the laws ask for it. (Made by mk-ntworks.py.) -/
import Derived.Test.YtocobjekcdabgaaNnFind
namespace Go.Proofs.Ytocobjekcdabgaa
open Go.RowKit

theorem ex_read {W : World} {q : Nat} {T0 T1 T2 : TypeId} (h0 : W.heap[q]? = some (.cells #[.int .i64 0, .int .i64 0, .string ⟨#[97]⟩, .int .u64 0, .int .u32 0] T0)) (h1 : W.heap[q + 1]? = some (.cells #[.int .i64 0, .int .i64 0, .int .i64 10, .int .i64 0, .int .i64 (-1), .string ⟨#[112]⟩, .slice none 0 0] T1)) (h2 : W.heap[q + 1 + 1]? = some (.cells #[.int .i64 0, .int .i64 10, .int .i64 0, .int .i64 (-1), .int .i64 0, .slice none 0 0] T2)) (hs : q + 1 + 1 < W.heap.size) : NRead W (allB W) exN (exS q) :=
  ⟨rsl_one devR W _ q (devC ⟨0, 0, [97], 0, 0⟩) _ (show q < W.heap.size by omega) (by omega) rfl (range_list (T := T0) h0), rsl_one portR W _ (q + 1) (portC ⟨0, 0, 10, 0, -1, [112], []⟩ Sl3.nil) _ (show q + 1 < W.heap.size by omega) (by omega) ⟨Sl3.nil, rfl, RSl.nil⟩ (range_list (T := T1) h1), RSl.nil, rsl_one domR W _ (q + 1 + 1) (domC ⟨0, 10, 0, -1, 0, []⟩ Sl3.nil) _ (show q + 1 + 1 < W.heap.size by omega) (by omega) ⟨Sl3.nil, rfl, RSl.nil⟩ (range_list (T := T2) h2), RSl.nil, RSl.nil, RSl.nil, RSl.nil⟩
set_option maxRecDepth 20000 in
set_option maxHeartbeats 8000000 in
theorem works15_any (w : World) : Calls Try.prog 5 #[] w fun e w' => e = .returned (.bool true) ∧ Below w.heap.size w w' := by
  go_enter Try.func5, Try.ntmps5
  go_upto_region 2 with fail
  have e1 : (w.alloc (.cells #[.int .i64 0, .int .i64 0, .string ⟨#[97]⟩, .int .u64 0, .int .u32 0] 46)).heap.size = w.heap.size + 1 := by simp
  have e2 : ((w.alloc (.cells #[.int .i64 0, .int .i64 0, .string ⟨#[97]⟩, .int .u64 0, .int .u32 0] 46)).alloc (.cells #[.int .i64 0, .int .i64 0, .int .i64 10, .int .i64 0, .int .i64 (-1), .string ⟨#[112]⟩, .slice none 0 0] 36)).heap.size = w.heap.size + 1 + 1 := by simp
  have e3 : (((w.alloc (.cells #[.int .i64 0, .int .i64 0, .string ⟨#[97]⟩, .int .u64 0, .int .u32 0] 46)).alloc (.cells #[.int .i64 0, .int .i64 0, .int .i64 10, .int .i64 0, .int .i64 (-1), .string ⟨#[112]⟩, .slice none 0 0] 36)).alloc (.cells #[.int .i64 0, .int .i64 10, .int .i64 0, .int .i64 (-1), .int .i64 0, .slice none 0 0] 48)).heap.size = w.heap.size + 1 + 1 + 1 := by simp
  have g0 := heap_alloc_new w (.cells #[.int .i64 0, .int .i64 0, .string ⟨#[97]⟩, .int .u64 0, .int .u32 0] 46)
  have g1 := heap_alloc_new (w.alloc (.cells #[.int .i64 0, .int .i64 0, .string ⟨#[97]⟩, .int .u64 0, .int .u32 0] 46)) (.cells #[.int .i64 0, .int .i64 0, .int .i64 10, .int .i64 0, .int .i64 (-1), .string ⟨#[112]⟩, .slice none 0 0] 36)
  rw [e1] at g1
  have g2 := heap_alloc_new ((w.alloc (.cells #[.int .i64 0, .int .i64 0, .string ⟨#[97]⟩, .int .u64 0, .int .u32 0] 46)).alloc (.cells #[.int .i64 0, .int .i64 0, .int .i64 10, .int .i64 0, .int .i64 (-1), .string ⟨#[112]⟩, .slice none 0 0] 36)) (.cells #[.int .i64 0, .int .i64 10, .int .i64 0, .int .i64 (-1), .int .i64 0, .slice none 0 0] 48)
  rw [e2] at g2
  have g3 : (((w.alloc (.cells #[.int .i64 0, .int .i64 0, .string ⟨#[97]⟩, .int .u64 0, .int .u32 0] 46)).alloc (.cells #[.int .i64 0, .int .i64 0, .int .i64 10, .int .i64 0, .int .i64 (-1), .string ⟨#[112]⟩, .slice none 0 0] 36)).alloc (.cells #[.int .i64 0, .int .i64 10, .int .i64 0, .int .i64 (-1), .int .i64 0, .slice none 0 0] 48)).heap[w.heap.size]? = _ := (Below.heap_alloc _ _ _ (by simp; omega)).trans ((Below.heap_alloc _ _ _ (by simp)).trans g0)
  have g4 : (((w.alloc (.cells #[.int .i64 0, .int .i64 0, .string ⟨#[97]⟩, .int .u64 0, .int .u32 0] 46)).alloc (.cells #[.int .i64 0, .int .i64 0, .int .i64 10, .int .i64 0, .int .i64 (-1), .string ⟨#[112]⟩, .slice none 0 0] 36)).alloc (.cells #[.int .i64 0, .int .i64 10, .int .i64 0, .int .i64 (-1), .int .i64 0, .slice none 0 0] 48)).heap[w.heap.size + 1]? = _ := (Below.heap_alloc _ _ _ (by simp)).trans g1
  obtain ⟨w4, hw4⟩ : ∃ w4, (((w.alloc (.cells #[.int .i64 0, .int .i64 0, .string ⟨#[97]⟩, .int .u64 0, .int .u32 0] 46)).alloc (.cells #[.int .i64 0, .int .i64 0, .int .i64 10, .int .i64 0, .int .i64 (-1), .string ⟨#[112]⟩, .slice none 0 0] 36)).alloc (.cells #[.int .i64 0, .int .i64 10, .int .i64 0, .int .i64 (-1), .int .i64 0, .slice none 0 0] 48)).alloc (.cells #[.slice (some ⟨w.heap.size, 0, none⟩) 1 1, .slice (some ⟨w.heap.size + 1, 0, none⟩) 1 1, .slice none 0 0, .slice (some ⟨w.heap.size + 1 + 1, 0, none⟩) 1 1, .slice none 0 0, .slice none 0 0, .slice none 0 0, .slice none 0 0] 31) = w4 := ⟨_, rfl⟩
  have K4 : Below (((w.alloc (.cells #[.int .i64 0, .int .i64 0, .string ⟨#[97]⟩, .int .u64 0, .int .u32 0] 46)).alloc (.cells #[.int .i64 0, .int .i64 0, .int .i64 10, .int .i64 0, .int .i64 (-1), .string ⟨#[112]⟩, .slice none 0 0] 36)).alloc (.cells #[.int .i64 0, .int .i64 10, .int .i64 0, .int .i64 (-1), .int .i64 0, .slice none 0 0] 48)).heap.size (((w.alloc (.cells #[.int .i64 0, .int .i64 0, .string ⟨#[97]⟩, .int .u64 0, .int .u32 0] 46)).alloc (.cells #[.int .i64 0, .int .i64 0, .int .i64 10, .int .i64 0, .int .i64 (-1), .string ⟨#[112]⟩, .slice none 0 0] 36)).alloc (.cells #[.int .i64 0, .int .i64 10, .int .i64 0, .int .i64 (-1), .int .i64 0, .slice none 0 0] 48)) w4 := by rw [← hw4]; exact (Below.refl _ _).alloc (Nat.le_refl _) _
  have K3 : Below w.heap.size w (((w.alloc (.cells #[.int .i64 0, .int .i64 0, .string ⟨#[97]⟩, .int .u64 0, .int .u32 0] 46)).alloc (.cells #[.int .i64 0, .int .i64 0, .int .i64 10, .int .i64 0, .int .i64 (-1), .string ⟨#[112]⟩, .slice none 0 0] 36)).alloc (.cells #[.int .i64 0, .int .i64 10, .int .i64 0, .int .i64 (-1), .int .i64 0, .slice none 0 0] 48)) := (two_alloc w (.cells #[.int .i64 0, .int .i64 0, .string ⟨#[97]⟩, .int .u64 0, .int .u32 0] 46) (.cells #[.int .i64 0, .int .i64 0, .int .i64 10, .int .i64 0, .int .i64 (-1), .string ⟨#[112]⟩, .slice none 0 0] 36)).alloc (by simp; omega) _
  have s4 : w4.heap.size = w.heap.size + 1 + 1 + 1 + 1 := by rw [← hw4]; simp
  have R4 : NRead w4 (allB w4) exN (exS w.heap.size) := ex_read ((K4.block _ (by rw [e3]; omega)).trans g3) ((K4.block _ (by rw [e3]; omega)).trans g4) ((K4.block _ (by rw [e3]; omega)).trans g2) (by omega)
  have g5 := heap_alloc_new (((w.alloc (.cells #[.int .i64 0, .int .i64 0, .string ⟨#[97]⟩, .int .u64 0, .int .u32 0] 46)).alloc (.cells #[.int .i64 0, .int .i64 0, .int .i64 10, .int .i64 0, .int .i64 (-1), .string ⟨#[112]⟩, .slice none 0 0] 36)).alloc (.cells #[.int .i64 0, .int .i64 10, .int .i64 0, .int .i64 (-1), .int .i64 0, .slice none 0 0] 48)) (.cells #[.slice (some ⟨w.heap.size, 0, none⟩) 1 1, .slice (some ⟨w.heap.size + 1, 0, none⟩) 1 1, .slice none 0 0, .slice (some ⟨w.heap.size + 1 + 1, 0, none⟩) 1 1, .slice none 0 0, .slice none 0 0, .slice none 0 0, .slice none 0 0] 31)
  rw [e3, hw4] at g5
  have rg := range_list (vs := [.slice (some ⟨w.heap.size, 0, none⟩) 1 1, .slice (some ⟨w.heap.size + 1, 0, none⟩) 1 1, .slice none 0 0, .slice (some ⟨w.heap.size + 1 + 1, 0, none⟩) 1 1, .slice none 0 0, .slice none 0 0, .slice none 0 0, .slice none 0 0]) g5
  have c4 : w4.cell? ⟨w.heap.size + 1 + 1 + 1, 0, none⟩ = some (.slice (some ⟨w.heap.size, 0, none⟩) 1 1) ∧ w4.cell? ⟨w.heap.size + 1 + 1 + 1, 1, none⟩ = some (.slice (some ⟨w.heap.size + 1, 0, none⟩) 1 1) ∧ w4.cell? ⟨w.heap.size + 1 + 1 + 1, 2, none⟩ = some (.slice none 0 0) ∧ w4.cell? ⟨w.heap.size + 1 + 1 + 1, 3, none⟩ = some (.slice (some ⟨w.heap.size + 1 + 1, 0, none⟩) 1 1) ∧ w4.cell? ⟨w.heap.size + 1 + 1 + 1, 4, none⟩ = some (.slice none 0 0) ∧ w4.cell? ⟨w.heap.size + 1 + 1 + 1, 5, none⟩ = some (.slice none 0 0) ∧ w4.cell? ⟨w.heap.size + 1 + 1 + 1, 6, none⟩ = some (.slice none 0 0) ∧ w4.cell? ⟨w.heap.size + 1 + 1 + 1, 7, none⟩ = some (.slice none 0 0) := ⟨by simpa using rg 0 _ rfl, by simpa using rg 1 _ rfl, by simpa using rg 2 _ rfl, by simpa using rg 3 _ rfl, by simpa using rg 4 _ rfl, by simpa using rg 5 _ rfl, by simpa using rg 6 _ rfl, by simpa using rg 7 _ rfl⟩
  have B4 : Below w.heap.size w w4 := K3.trans (K4.mono K3.size)
  have KN := Lib.hid (show ∀ wx, Below w4.heap.size w4 wx → (wx.cell? ⟨w.heap.size + 1 + 1 + 1, 0, none⟩ = some (.slice (some ⟨w.heap.size, 0, none⟩) 1 1) ∧ wx.cell? ⟨w.heap.size + 1 + 1 + 1, 1, none⟩ = some (.slice (some ⟨w.heap.size + 1, 0, none⟩) 1 1) ∧ wx.cell? ⟨w.heap.size + 1 + 1 + 1, 2, none⟩ = some (.slice none 0 0) ∧ wx.cell? ⟨w.heap.size + 1 + 1 + 1, 3, none⟩ = some (.slice (some ⟨w.heap.size + 1 + 1, 0, none⟩) 1 1) ∧ wx.cell? ⟨w.heap.size + 1 + 1 + 1, 4, none⟩ = some (.slice none 0 0) ∧ wx.cell? ⟨w.heap.size + 1 + 1 + 1, 5, none⟩ = some (.slice none 0 0) ∧ wx.cell? ⟨w.heap.size + 1 + 1 + 1, 6, none⟩ = some (.slice none 0 0) ∧ wx.cell? ⟨w.heap.size + 1 + 1 + 1, 7, none⟩ = some (.slice none 0 0)) ∧ NRead wx (allB wx) exN (exS w.heap.size) ∧ Below w.heap.size w wx from fun wx hx => by
    obtain ⟨c0, c1, c2, c3, c4, c5, c6, c7⟩ := c4
    exact ⟨⟨(hx.cell (p := ⟨_, 0, none⟩) (show w.heap.size + 1 + 1 + 1 < w4.heap.size by omega)).trans c0, (hx.cell (p := ⟨_, 1, none⟩) (show w.heap.size + 1 + 1 + 1 < w4.heap.size by omega)).trans c1, (hx.cell (p := ⟨_, 2, none⟩) (show w.heap.size + 1 + 1 + 1 < w4.heap.size by omega)).trans c2, (hx.cell (p := ⟨_, 3, none⟩) (show w.heap.size + 1 + 1 + 1 < w4.heap.size by omega)).trans c3, (hx.cell (p := ⟨_, 4, none⟩) (show w.heap.size + 1 + 1 + 1 < w4.heap.size by omega)).trans c4, (hx.cell (p := ⟨_, 5, none⟩) (show w.heap.size + 1 + 1 + 1 < w4.heap.size by omega)).trans c5, (hx.cell (p := ⟨_, 6, none⟩) (show w.heap.size + 1 + 1 + 1 < w4.heap.size by omega)).trans c6, (hx.cell (p := ⟨_, 7, none⟩) (show w.heap.size + 1 + 1 + 1 < w4.heap.size by omega)).trans c7⟩, R4.up hx, B4.trans (hx.mono B4.size)⟩)
  rw [hw4]
  clear e1 e2 e3 g0 g1 g2 g3 g4 g5 rg hw4 K4 K3 s4 R4 c4 B4
  have XM := fun (wx : World) (hx : Below w4.heap.size w4 wx) => xnmembers_any exN _ 0 wx (KN.out wx hx).2.1 ex_sz ex_ok
  have XR := fun (wx : World) (hx : Below w4.heap.size w4 wx) => xnright_any exN _ wx (KN.out wx hx).2.1 ex_sz
  have XZ := fun (wx : World) (_ : Below w4.heap.size w4 wx) => xnright_any NV.zero _ wx (none_read wx) none_sz
  have XD := fun (wx : World) (hx : Below w4.heap.size w4 wx) => xndevice_any exN _ [97] wx (KN.out wx hx).2.1 ex_sz ex_ok (by decide)
  have XP := fun (wx : World) (hx : Below w4.heap.size w4 wx) => xnport_any exN _ 0 [112] wx (KN.out wx hx).2.1 ex_sz ex_ok (by decide)
  have XA := fun (wx : World) (hx : Below w4.heap.size w4 wx) => xndomain_any exN _ 0 10 wx (KN.out wx hx).2.1 ex_sz ex_ok
  have XB := fun (wx : World) (hx : Below w4.heap.size w4 wx) => xndomain_any exN _ 0 11 wx (KN.out wx hx).2.1 ex_sz ex_ok
  rw [ex_mm] at XM
  rw [netB_yes ex_ok] at XR
  rw [netB_yes none_ok] at XZ
  rw [ex_dv, show str [97] = ⟨#[97]⟩ from rfl] at XD
  rw [ex_pt, show str [112] = ⟨#[112]⟩ from rfl] at XP
  rw [ex_at] at XA
  rw [ex_no] at XB
  unfold netV exS Sl3.nil at XM XR XD XP XA XB
  unfold netV NSl3.nil Sl3.nil at XZ
  dsimp only at XM XR XZ XD XP XA XB
  replace XM := Lib.hid XM
  replace XR := Lib.hid XR
  replace XZ := Lib.hid XZ
  replace XD := Lib.hid XD
  replace XP := Lib.hid XP
  replace XA := Lib.hid XA
  replace XB := Lib.hid XB
  obtain ⟨f0, f1, f2, f3, f4, f5, f6, f7⟩ := (KN.out _ (Below.refl _ _)).1
  go_wp2_with (first
    | (go_at_call 8; (with_reducible refine (XM.out _ (Below.refl _ _)).mono ?_); rintro e w5 ⟨A, n, c, rfl, s5, b5⟩; have Y5 := Lib.hid b5; have hn := s5.len; obtain rfl : n = 1 := by { rw [← hn]; rfl }; obtain ⟨b, o, rfl, _, hb, hc⟩ := s5.at_ (by omega); obtain ⟨us, hu, hr⟩ := hc 0 0 rfl; have hu : us = [.int .i64 0] := hu; subst hu; have c0 : w5.cell? ⟨b, o, none⟩ = some (.int .i64 0) := by { have := hr 0 _ rfl; simpa using this }; have KC := Lib.hid (show ∀ wx, Below w5.heap.size w5 wx → wx.cell? ⟨b, o, none⟩ = some (.int .i64 0) from fun wx hx => (hx.cell (p := ⟨b, o, none⟩) hb).trans c0); have D5 := Lib.hid (Below.refl w5.heap.size w5); obtain ⟨f0, f1, f2, f3, f4, f5, f6, f7⟩ := (KN.out _ Y5.out).1; clear b5 s5 hn hc hr)
    | (go_at_call 7; (with_reducible refine (XR.out _ Y5.out).mono ?_); rintro e w6 ⟨rfl, b6⟩; have Y6 := Lib.hid (trans_below Y5.out b6); have D6 := Lib.hid (trans_below D5.out b6); obtain ⟨f0, f1, f2, f3, f4, f5, f6, f7⟩ := (KN.out _ Y6.out).1; have c0 := KC.out _ D6.out; clear b6)
    | (go_at_call 7; (with_reducible refine (XZ.out _ Y6.out).mono ?_); rintro e w7 ⟨rfl, b7⟩; have Y7 := Lib.hid (trans_below Y6.out b7); have D7 := Lib.hid (trans_below D6.out b7); obtain ⟨f0, f1, f2, f3, f4, f5, f6, f7⟩ := (KN.out _ Y7.out).1; have c0 := KC.out _ D7.out; clear b7)
    | (go_at_call 13; (with_reducible refine (XD.out _ Y7.out).mono ?_); rintro e w8 ⟨rfl, b8⟩; have Y8 := Lib.hid (trans_below Y7.out b8); have D8 := Lib.hid (trans_below D7.out b8); obtain ⟨f0, f1, f2, f3, f4, f5, f6, f7⟩ := (KN.out _ Y8.out).1; have c0 := KC.out _ D8.out; clear b8)
    | (go_at_call 14; (with_reducible refine (XP.out _ Y8.out).mono ?_); rintro e w9 ⟨rfl, b9⟩; have Y9 := Lib.hid (trans_below Y8.out b9); have D9 := Lib.hid (trans_below D8.out b9); obtain ⟨f0, f1, f2, f3, f4, f5, f6, f7⟩ := (KN.out _ Y9.out).1; have c0 := KC.out _ D9.out; clear b9)
    | (go_at_call 9; (with_reducible refine (XA.out _ Y9.out).mono ?_); rintro e w10 ⟨rfl, b10⟩; have Y10 := Lib.hid (trans_below Y9.out b10); have D10 := Lib.hid (trans_below D9.out b10); obtain ⟨f0, f1, f2, f3, f4, f5, f6, f7⟩ := (KN.out _ Y10.out).1; have c0 := KC.out _ D10.out; clear b10)
    | (go_at_call 9; (with_reducible refine (XB.out _ Y10.out).mono ?_); rintro e w11 ⟨rfl, b11⟩; have Y11 := Lib.hid (trans_below Y10.out b11); have D11 := Lib.hid (trans_below D10.out b11); obtain ⟨f0, f1, f2, f3, f4, f5, f6, f7⟩ := (KN.out _ Y11.out).1; have c0 := KC.out _ D11.out; clear b11))
  go_ret
  exact ⟨by first | rfl | simp, (KN.out _ Y11.out).2.2⟩
end Go.Proofs.Ytocobjekcdabgaa
