/- Only what the statement at hand leans on. -/
import Derived.Test.YtkpbbfehglihlaaGreatDoorDu34
/- The chapter's example of stage 18: palinglaw18.works. (Made by mk-doex.py.) -/
namespace Go.Proofs.YtkpbbfehglihlaaGreatDoor
open Go.RowKit

def xL4 : LV := ⟨0, 4, [97], [112], [], [], [], 2, 0, 0, 10, 0, 0, [], [], [], []⟩
theorem nm_a4 : nmB [97] = true := (nmB_iff _).2 ⟨by decide, by decide, by unfold Lc; decide, fun j hj => by
  obtain rfl : j = 0 := by have h : j < 1 := hj; omega
  exact .inl (by unfold Lc; decide)⟩
theorem nm_p4 : nmB [112] = true := (nmB_iff _).2 ⟨by decide, by decide, by unfold Lc; decide, fun j hj => by
  obtain rfl : j = 0 := by have h : j < 1 := hj; omega
  exact .inl (by unfold Lc; decide)⟩
theorem ex4_rg : rgB xL4 = true := rgB_read 0 xL4 (.inr (.inr (.inr (.inl ⟨[97], 10, 2, [112], rfl, nm_a4, ⟨by decide, by decide⟩, ⟨by decide, by decide, by decide⟩, nm_p4⟩))))
theorem ex4_f : fitsB exN xL4 4 = true := fits_iff.2 ⟨rfl, ex4_rg, ex_ok⟩
def exN4 : NV := withStat exN 0 0 0 2
theorem ex4_p : doN exN xL4 = exN4 ∧ doE exN xL4 = 0 := do_0 ex4_f (by decide)
theorem ex4_ok : NetOk exN4 := withStat_ok 0 2 ex_ok (by decide) (by decide) (by decide) (by decide) (by decide)
theorem ex4_f2 : fitsB exN4 xL4 4 = true := fits_iff.2 ⟨rfl, ex4_rg, ex4_ok⟩
theorem ex4_p2 : doN exN4 xL4 = NV.zero ∧ doE exN4 xL4 = 30 := do_e ex4_f2 (by decide) (by decide)
theorem ex4_sz : NvSz exN4 := ws_sz 0 0 0 2 ex_sz (by decide)
theorem ex4_nm : NmSz exN := by
  refine ⟨fun k hk => ?_, fun k hk => ?_, fun k hk => absurd hk (by simp [exN])⟩
  · obtain rfl : k = 0 := by simp [exN] at hk; omega
    decide
  · obtain rfl : k = 0 := by simp [exN] at hk; omega
    decide
theorem ex4_nm4 : NmSz exN4 := ⟨ex4_nm.1, ex4_nm.2, ex4_nm.3⟩
theorem nil_read4 (w : World) : LRead w xL4 SlV.nil SlV.nil SlV.nil SlV.nil := ⟨ISl.nil, ISl.nil, ISl.nil, ISl.nil⟩
theorem ex4_put (N : NV) (S : NSl3) (w : World) (h : NRead w (allB w) N S) (hz : NvSz N) (hm : NmSz N) : Calls Tryz.prog 8 #[netV S, .agg #[.int .i64 0, .int .i64 4, .string ⟨#[97]⟩, .string ⟨#[112]⟩, .string ⟨#[]⟩, .string ⟨#[]⟩, .string ⟨#[]⟩, .int .u64 2, .int .u32 0, .int .i64 0, .int .i64 10, .int .i64 0, .int .i64 0, .slice none 0 0, .slice none 0 0, .slice none 0 0, .slice none 0 0]] w (GotPut (doN N xL4) (doE N xL4) w) :=
  cstatic_any N S xL4 SlV.nil SlV.nil SlV.nil SlV.nil w h (nil_read4 w) hz hm ⟨by decide, by decide⟩ ⟨by decide, by decide⟩
set_option maxRecDepth 40000 in
set_option maxHeartbeats 16000000 in
theorem works18_any (w : World) (hl : LdP w) : Calls Tryz.prog 7 #[] w fun e w' => e = .returned (.bool true) ∧ Below w.heap.size w w' := by
  have HL := Lib.hid hl
  clear hl
  go_enter Tryz.func7, Tryz.ntmps7
  go_upto_region 2 with fail
  have e1 : (w.alloc (.cells #[.int .i64 0, .int .i64 0, .string ⟨#[97]⟩, .int .u64 0, .int .u32 0] 61)).heap.size = w.heap.size + 1 := by simp
  have e2 : ((w.alloc (.cells #[.int .i64 0, .int .i64 0, .string ⟨#[97]⟩, .int .u64 0, .int .u32 0] 61)).alloc (.cells #[.int .i64 0, .int .i64 0, .int .i64 10, .int .i64 0, .int .i64 (-1), .string ⟨#[112]⟩, .slice none 0 0] 56)).heap.size = w.heap.size + 1 + 1 := by simp
  have e3 : (((w.alloc (.cells #[.int .i64 0, .int .i64 0, .string ⟨#[97]⟩, .int .u64 0, .int .u32 0] 61)).alloc (.cells #[.int .i64 0, .int .i64 0, .int .i64 10, .int .i64 0, .int .i64 (-1), .string ⟨#[112]⟩, .slice none 0 0] 56)).alloc (.cells #[.int .i64 0, .int .i64 10, .int .i64 0, .int .i64 (-1), .int .i64 0, .slice none 0 0] 63)).heap.size = w.heap.size + 1 + 1 + 1 := by simp
  have g0 := heap_alloc_new w (.cells #[.int .i64 0, .int .i64 0, .string ⟨#[97]⟩, .int .u64 0, .int .u32 0] 61)
  have g1 := heap_alloc_new (w.alloc (.cells #[.int .i64 0, .int .i64 0, .string ⟨#[97]⟩, .int .u64 0, .int .u32 0] 61)) (.cells #[.int .i64 0, .int .i64 0, .int .i64 10, .int .i64 0, .int .i64 (-1), .string ⟨#[112]⟩, .slice none 0 0] 56)
  rw [e1] at g1
  have g2 := heap_alloc_new ((w.alloc (.cells #[.int .i64 0, .int .i64 0, .string ⟨#[97]⟩, .int .u64 0, .int .u32 0] 61)).alloc (.cells #[.int .i64 0, .int .i64 0, .int .i64 10, .int .i64 0, .int .i64 (-1), .string ⟨#[112]⟩, .slice none 0 0] 56)) (.cells #[.int .i64 0, .int .i64 10, .int .i64 0, .int .i64 (-1), .int .i64 0, .slice none 0 0] 63)
  rw [e2] at g2
  have g3 : (((w.alloc (.cells #[.int .i64 0, .int .i64 0, .string ⟨#[97]⟩, .int .u64 0, .int .u32 0] 61)).alloc (.cells #[.int .i64 0, .int .i64 0, .int .i64 10, .int .i64 0, .int .i64 (-1), .string ⟨#[112]⟩, .slice none 0 0] 56)).alloc (.cells #[.int .i64 0, .int .i64 10, .int .i64 0, .int .i64 (-1), .int .i64 0, .slice none 0 0] 63)).heap[w.heap.size]? = _ := (Below.heap_alloc _ _ _ (by simp; omega)).trans ((Below.heap_alloc _ _ _ (by simp)).trans g0)
  have g4 : (((w.alloc (.cells #[.int .i64 0, .int .i64 0, .string ⟨#[97]⟩, .int .u64 0, .int .u32 0] 61)).alloc (.cells #[.int .i64 0, .int .i64 0, .int .i64 10, .int .i64 0, .int .i64 (-1), .string ⟨#[112]⟩, .slice none 0 0] 56)).alloc (.cells #[.int .i64 0, .int .i64 10, .int .i64 0, .int .i64 (-1), .int .i64 0, .slice none 0 0] 63)).heap[w.heap.size + 1]? = _ := (Below.heap_alloc _ _ _ (by simp)).trans g1
  obtain ⟨w4, hw4⟩ : ∃ w4, (((w.alloc (.cells #[.int .i64 0, .int .i64 0, .string ⟨#[97]⟩, .int .u64 0, .int .u32 0] 61)).alloc (.cells #[.int .i64 0, .int .i64 0, .int .i64 10, .int .i64 0, .int .i64 (-1), .string ⟨#[112]⟩, .slice none 0 0] 56)).alloc (.cells #[.int .i64 0, .int .i64 10, .int .i64 0, .int .i64 (-1), .int .i64 0, .slice none 0 0] 63)).alloc (.cells #[.slice (some ⟨w.heap.size, 0, none⟩) 1 1, .slice (some ⟨w.heap.size + 1, 0, none⟩) 1 1, .slice none 0 0, .slice (some ⟨w.heap.size + 1 + 1, 0, none⟩) 1 1, .slice none 0 0, .slice none 0 0, .slice none 0 0, .slice none 0 0] 31) = w4 := ⟨_, rfl⟩
  have K4 : Below (((w.alloc (.cells #[.int .i64 0, .int .i64 0, .string ⟨#[97]⟩, .int .u64 0, .int .u32 0] 61)).alloc (.cells #[.int .i64 0, .int .i64 0, .int .i64 10, .int .i64 0, .int .i64 (-1), .string ⟨#[112]⟩, .slice none 0 0] 56)).alloc (.cells #[.int .i64 0, .int .i64 10, .int .i64 0, .int .i64 (-1), .int .i64 0, .slice none 0 0] 63)).heap.size (((w.alloc (.cells #[.int .i64 0, .int .i64 0, .string ⟨#[97]⟩, .int .u64 0, .int .u32 0] 61)).alloc (.cells #[.int .i64 0, .int .i64 0, .int .i64 10, .int .i64 0, .int .i64 (-1), .string ⟨#[112]⟩, .slice none 0 0] 56)).alloc (.cells #[.int .i64 0, .int .i64 10, .int .i64 0, .int .i64 (-1), .int .i64 0, .slice none 0 0] 63)) w4 := by rw [← hw4]; exact (Below.refl _ _).alloc (Nat.le_refl _) _
  have K3 : Below w.heap.size w (((w.alloc (.cells #[.int .i64 0, .int .i64 0, .string ⟨#[97]⟩, .int .u64 0, .int .u32 0] 61)).alloc (.cells #[.int .i64 0, .int .i64 0, .int .i64 10, .int .i64 0, .int .i64 (-1), .string ⟨#[112]⟩, .slice none 0 0] 56)).alloc (.cells #[.int .i64 0, .int .i64 10, .int .i64 0, .int .i64 (-1), .int .i64 0, .slice none 0 0] 63)) := (two_alloc w (.cells #[.int .i64 0, .int .i64 0, .string ⟨#[97]⟩, .int .u64 0, .int .u32 0] 61) (.cells #[.int .i64 0, .int .i64 0, .int .i64 10, .int .i64 0, .int .i64 (-1), .string ⟨#[112]⟩, .slice none 0 0] 56)).alloc (by simp; omega) _
  have s4 : w4.heap.size = w.heap.size + 1 + 1 + 1 + 1 := by rw [← hw4]; simp
  have R4 : NRead w4 (allB w4) exN (exS w.heap.size) := ex_read ((K4.block _ (by rw [e3]; omega)).trans g3) ((K4.block _ (by rw [e3]; omega)).trans g4) ((K4.block _ (by rw [e3]; omega)).trans g2) (by omega)
  have g5 := heap_alloc_new (((w.alloc (.cells #[.int .i64 0, .int .i64 0, .string ⟨#[97]⟩, .int .u64 0, .int .u32 0] 61)).alloc (.cells #[.int .i64 0, .int .i64 0, .int .i64 10, .int .i64 0, .int .i64 (-1), .string ⟨#[112]⟩, .slice none 0 0] 56)).alloc (.cells #[.int .i64 0, .int .i64 10, .int .i64 0, .int .i64 (-1), .int .i64 0, .slice none 0 0] 63)) (.cells #[.slice (some ⟨w.heap.size, 0, none⟩) 1 1, .slice (some ⟨w.heap.size + 1, 0, none⟩) 1 1, .slice none 0 0, .slice (some ⟨w.heap.size + 1 + 1, 0, none⟩) 1 1, .slice none 0 0, .slice none 0 0, .slice none 0 0, .slice none 0 0] 31)
  rw [e3, hw4] at g5
  have rg := range_list (vs := [.slice (some ⟨w.heap.size, 0, none⟩) 1 1, .slice (some ⟨w.heap.size + 1, 0, none⟩) 1 1, .slice none 0 0, .slice (some ⟨w.heap.size + 1 + 1, 0, none⟩) 1 1, .slice none 0 0, .slice none 0 0, .slice none 0 0, .slice none 0 0]) g5
  have c4 : w4.cell? ⟨w.heap.size + 1 + 1 + 1, 0, none⟩ = some (.slice (some ⟨w.heap.size, 0, none⟩) 1 1) ∧ w4.cell? ⟨w.heap.size + 1 + 1 + 1, 1, none⟩ = some (.slice (some ⟨w.heap.size + 1, 0, none⟩) 1 1) ∧ w4.cell? ⟨w.heap.size + 1 + 1 + 1, 2, none⟩ = some (.slice none 0 0) ∧ w4.cell? ⟨w.heap.size + 1 + 1 + 1, 3, none⟩ = some (.slice (some ⟨w.heap.size + 1 + 1, 0, none⟩) 1 1) ∧ w4.cell? ⟨w.heap.size + 1 + 1 + 1, 4, none⟩ = some (.slice none 0 0) ∧ w4.cell? ⟨w.heap.size + 1 + 1 + 1, 5, none⟩ = some (.slice none 0 0) ∧ w4.cell? ⟨w.heap.size + 1 + 1 + 1, 6, none⟩ = some (.slice none 0 0) ∧ w4.cell? ⟨w.heap.size + 1 + 1 + 1, 7, none⟩ = some (.slice none 0 0) := ⟨by simpa using rg 0 _ rfl, by simpa using rg 1 _ rfl, by simpa using rg 2 _ rfl, by simpa using rg 3 _ rfl, by simpa using rg 4 _ rfl, by simpa using rg 5 _ rfl, by simpa using rg 6 _ rfl, by simpa using rg 7 _ rfl⟩
  have B4 : Below w.heap.size w w4 := K3.trans (K4.mono K3.size)
  have KN := Lib.hid (show ∀ wx, Below w4.heap.size w4 wx → (wx.cell? ⟨w.heap.size + 1 + 1 + 1, 0, none⟩ = some (.slice (some ⟨w.heap.size, 0, none⟩) 1 1) ∧ wx.cell? ⟨w.heap.size + 1 + 1 + 1, 1, none⟩ = some (.slice (some ⟨w.heap.size + 1, 0, none⟩) 1 1) ∧ wx.cell? ⟨w.heap.size + 1 + 1 + 1, 2, none⟩ = some (.slice none 0 0) ∧ wx.cell? ⟨w.heap.size + 1 + 1 + 1, 3, none⟩ = some (.slice (some ⟨w.heap.size + 1 + 1, 0, none⟩) 1 1) ∧ wx.cell? ⟨w.heap.size + 1 + 1 + 1, 4, none⟩ = some (.slice none 0 0) ∧ wx.cell? ⟨w.heap.size + 1 + 1 + 1, 5, none⟩ = some (.slice none 0 0) ∧ wx.cell? ⟨w.heap.size + 1 + 1 + 1, 6, none⟩ = some (.slice none 0 0) ∧ wx.cell? ⟨w.heap.size + 1 + 1 + 1, 7, none⟩ = some (.slice none 0 0)) ∧ NRead wx (allB wx) exN (exS w.heap.size) ∧ LdP wx ∧ Below w.heap.size w wx from fun wx hx => by
    obtain ⟨c0, c1, c2, c3, c4, c5, c6, c7⟩ := c4
    exact ⟨⟨(hx.cell (p := ⟨_, 0, none⟩) (show w.heap.size + 1 + 1 + 1 < w4.heap.size by omega)).trans c0, (hx.cell (p := ⟨_, 1, none⟩) (show w.heap.size + 1 + 1 + 1 < w4.heap.size by omega)).trans c1, (hx.cell (p := ⟨_, 2, none⟩) (show w.heap.size + 1 + 1 + 1 < w4.heap.size by omega)).trans c2, (hx.cell (p := ⟨_, 3, none⟩) (show w.heap.size + 1 + 1 + 1 < w4.heap.size by omega)).trans c3, (hx.cell (p := ⟨_, 4, none⟩) (show w.heap.size + 1 + 1 + 1 < w4.heap.size by omega)).trans c4, (hx.cell (p := ⟨_, 5, none⟩) (show w.heap.size + 1 + 1 + 1 < w4.heap.size by omega)).trans c5, (hx.cell (p := ⟨_, 6, none⟩) (show w.heap.size + 1 + 1 + 1 < w4.heap.size by omega)).trans c6, (hx.cell (p := ⟨_, 7, none⟩) (show w.heap.size + 1 + 1 + 1 < w4.heap.size by omega)).trans c7⟩, R4.up hx, HL.out.below (B4.trans (hx.mono B4.size)), B4.trans (hx.mono B4.size)⟩)
  have ql : w.heap.size + 1 + 1 + 1 < w4.heap.size := by omega
  rw [hw4]
  clear e1 e2 e3 g0 g1 g2 g3 g4 g5 rg hw4 K4 K3 s4 R4 c4 B4
  have P1 := fun (wx : World) (hx : Below w4.heap.size w4 wx) => ex4_put exN _ wx (KN.out wx hx).2.1 ex_sz ex4_nm
  rw [ex4_p.1, ex4_p.2] at P1
  have P2 := fun (U : NSl3) (wx : World) (h : NRead wx (allB wx) exN4 U) => ex4_put exN4 U wx h ex4_sz ex4_nm4
  rw [ex4_p2.1, ex4_p2.2] at P2
  have XK := fun (U : NSl3) (wx : World) (h : NRead wx (allB wx) exN4 U) => xlook_any exN4 U 0 2 wx h ex4_sz
  rw [lkX_ok ex4_ok, show lkF exN4 0 2 = 0 by decide] at XK
  have XL := fun (wx : World) (hx : Below w4.heap.size w4 wx) => xlook_any exN _ 0 2 wx (KN.out wx hx).2.1 ex_sz
  rw [lkX_ok ex_ok, show lkF exN 0 2 = -1 by decide] at XL
  have XT := fun (wx : World) (hx : Below w4.heap.size w4 wx) => xtext18_any exN _ 0 wx (KN.out wx hx).2.1 ex_sz ex4_nm (KN.out wx hx).2.2.1
  rw [tdX_ok ex_ok, show tdF exN 0 = [97, 47, 49, 48] by decide +kernel, show str [97, 47, 49, 48] = ⟨#[97, 47, 49, 48]⟩ from rfl] at XT
  have XH := fun (wx : World) (hx : Below w4.heap.size w4 wx) => xhosts_any exN _ 0 wx (KN.out wx hx).2.1 ex_sz
  rw [hsX_ok ex_ok, show hsL exN 0 = [0] by decide] at XH
  unfold GotPut at P1 P2
  unfold netV exS Sl3.nil at P1 XL XT XH
  unfold netV at P2 XK
  dsimp only at P1 XL XT XH
  replace P1 := Lib.hid P1
  replace P2 := Lib.hid P2
  replace XK := Lib.hid XK
  replace XL := Lib.hid XL
  replace XT := Lib.hid XT
  replace XH := Lib.hid XH
  obtain ⟨f0, f1, f2, f3, f4, f5, f6, f7⟩ := (KN.out _ (Below.refl _ _)).1
  go_upto_region 3 with (go_at_call 8; (refine (P1.out _ (Below.refl _ _)).mono ?_); rintro e w5 ⟨U, rfl, hr, hb⟩; have R5 := Lib.hid hr; have Y5 := Lib.hid hb; clear hr hb)
  clear f0 f1 f2 f3 f4 f5 f6 f7
  obtain ⟨w6, hw6⟩ : ∃ w6, w5.alloc (.cells #[.slice U.dv.A U.dv.n U.dv.c, .slice U.pt.A U.pt.n U.pt.c, .slice U.lk.A U.lk.n U.lk.c, .slice U.dm.A U.dm.n U.dm.c, .slice U.st.A U.st.n U.st.c, .slice U.fl.A U.fl.n U.fl.c, .slice U.vr.A U.vr.n U.vr.c, .slice U.ir.A U.ir.n U.ir.c] 31) = w6 := ⟨_, rfl⟩
  have A6 : Below w5.heap.size w5 w6 := by rw [← hw6]; exact alloc_below _ _
  have NB := Lib.hid (show NBox w6 w5.heap.size U by rw [← hw6]; exact NBox.new _ _ _)
  have R6 := Lib.hid (R5.out.up A6)
  have Y6 := Lib.hid (trans_below Y5.out A6)
  rw [hw6]
  clear hw6 A6
  have KM := Lib.hid (show ∀ wx, Below w6.heap.size w6 wx → (wx.cell? ⟨w5.heap.size, 0, none⟩ = some (.slice U.dv.A U.dv.n U.dv.c) ∧ wx.cell? ⟨w5.heap.size, 1, none⟩ = some (.slice U.pt.A U.pt.n U.pt.c) ∧ wx.cell? ⟨w5.heap.size, 2, none⟩ = some (.slice U.lk.A U.lk.n U.lk.c) ∧ wx.cell? ⟨w5.heap.size, 3, none⟩ = some (.slice U.dm.A U.dm.n U.dm.c) ∧ wx.cell? ⟨w5.heap.size, 4, none⟩ = some (.slice U.st.A U.st.n U.st.c) ∧ wx.cell? ⟨w5.heap.size, 5, none⟩ = some (.slice U.fl.A U.fl.n U.fl.c) ∧ wx.cell? ⟨w5.heap.size, 6, none⟩ = some (.slice U.vr.A U.vr.n U.vr.c) ∧ wx.cell? ⟨w5.heap.size, 7, none⟩ = some (.slice U.ir.A U.ir.n U.ir.c)) ∧ w5.heap.size < wx.heap.size ∧ NRead wx (allB wx) exN4 U ∧ Below w4.heap.size w4 wx from fun wx hx => by
    have nb := NB.out.below hx
    exact ⟨⟨nb.c0, nb.c1, nb.c2, nb.c3, nb.c4, nb.c5, nb.c6, nb.c7⟩, nb.lt, R6.out.up hx, trans_below Y6.out hx⟩)
  have D6 := Lib.hid (Below.refl w6.heap.size w6)
  obtain ⟨⟨g0, g1, g2, g3, g4, g5, g6, g7⟩, lm, rm, _⟩ := KM.out _ D6.out; obtain ⟨f0, f1, f2, f3, f4, f5, f6, f7⟩ := (KN.out _ Y6.out).1
  go_wp2_with (first
    | (go_at_call 8; (with_reducible refine (P2.out U _ rm).mono ?_); rintro e w7 ⟨V, rfl, hr, hb⟩; have D7 := Lib.hid (trans_below D6.out hb); clear rm hb; obtain ⟨⟨g0, g1, g2, g3, g4, g5, g6, g7⟩, lm, rm, hy⟩ := KM.out _ D7.out; have Y7 := Lib.hid hy; clear hy; obtain ⟨f0, f1, f2, f3, f4, f5, f6, f7⟩ := (KN.out _ Y7.out).1; clear hr)
    | (go_at_call 12; (with_reducible refine (XK.out U _ (rm.up (alloc_below _ _))).mono ?_); rintro e w8 ⟨rfl, hb⟩; have D8 := Lib.hid (trans_below (trans_below D7.out (alloc_below _ _)) hb); clear rm hb; obtain ⟨⟨g0, g1, g2, g3, g4, g5, g6, g7⟩, lm, rm, hy⟩ := KM.out _ D8.out; have Y8 := Lib.hid hy; clear hy; obtain ⟨f0, f1, f2, f3, f4, f5, f6, f7⟩ := (KN.out _ Y8.out).1)
    | (go_at_call 12; (with_reducible refine (XL.out _ Y8.out).mono ?_); rintro e w9 ⟨rfl, hb⟩; have D9 := Lib.hid (trans_below D8.out hb); clear rm hb; obtain ⟨⟨g0, g1, g2, g3, g4, g5, g6, g7⟩, lm, rm, hy⟩ := KM.out _ D9.out; have Y9 := Lib.hid hy; clear hy; obtain ⟨f0, f1, f2, f3, f4, f5, f6, f7⟩ := (KN.out _ Y9.out).1)
    | (go_at_call 14; (with_reducible refine (XT.out _ Y9.out).mono ?_); rintro e w10 ⟨rfl, hb⟩; have D10 := Lib.hid (trans_below D9.out hb); clear rm hb; obtain ⟨⟨g0, g1, g2, g3, g4, g5, g6, g7⟩, lm, rm, hy⟩ := KM.out _ D10.out; have Y10 := Lib.hid hy; clear hy; obtain ⟨f0, f1, f2, f3, f4, f5, f6, f7⟩ := (KN.out _ Y10.out).1)
    | (go_at_call 13; (with_reducible refine (XH.out _ Y10.out).mono ?_); rintro e w11 ⟨A, n, c, rfl, hs, hb⟩; have D11 := Lib.hid (trans_below D10.out hb); clear rm hb; obtain ⟨⟨g0, g1, g2, g3, g4, g5, g6, g7⟩, lm, rm, hy⟩ := KM.out _ D11.out; have Y11 := Lib.hid hy; clear hy; obtain ⟨f0, f1, f2, f3, f4, f5, f6, f7⟩ := (KN.out _ Y11.out).1; have hn := hs.len; obtain rfl : n = 1 := by { rw [← hn]; rfl }; have hle := hs.le; have hcap := hs.cap; clear hs hn))
  go_ret
  exact ⟨by first | rfl | simp, (KN.out _ (KM.out _ D11.out).2.2.2).2.2.2⟩
end Go.Proofs.YtkpbbfehglihlaaGreatDoor

