/- XNwWorks; XNwGreat; XNtTops; XNtNsm; XNwPuts; XNwMath -/
import Derived.Test.YthobolmedppneaaGreatKb38
import Derived.Test.YthobolmedppneaaGreatKb17
import Derived.Test.YthobolmedppneaaGreatKb15
import Derived.Test.YthobolmedppneaaGreatKb26
import Derived.Test.YthobolmedppneaaGreatKb10
import Derived.Test.YthobolmedppneaaGreatKb04
import Derived.Test.YthobolmedppneaaGreatKb03
import Derived.Test.YthobolmedppneaaGreatKb29
import Derived.Test.YthobolmedppneaaGreatKb36
import Derived.Test.YthobolmedppneaaGreatKb25
import Derived.Deep.CutBlock
import Derived.Deep.DeepCutAuto
import Derived.Laws.StructEq
import Derived.RegionTactic
/- The chapter's example of stage 16: palinglaw16.works. (Made by mk-nwworks.py.) -/
namespace Go.Proofs.YthobolmedppneaaGreat
open Go.RowKit

def xL1 : LV := ⟨0, 1, [97], [], [], [], [], 1, 0, 0, 0, 0, 0, [], [], [], []⟩
def xL2 : LV := ⟨0, 2, [97], [112], [], [], [], 0, 0, 0, 10, 0, 1, [], [], [], []⟩
def exN1 : NV := { NV.zero with devices := [⟨0, 0, [97], 1, 0⟩] }
def exN2 : NV := { NV.zero with devices := [⟨0, 0, [97], 1, 0⟩], ports := [⟨0, 0, 10, 1, -1, [112], []⟩], domains := [⟨0, 10, 0, -1, 0, []⟩] }
theorem nm_a : nmB [97] = true := (nmB_iff _).2 ⟨by decide, by decide, by unfold Lc; decide, fun j hj => by
  obtain rfl : j = 0 := by have h : j < 1 := hj; omega
  exact .inl (by unfold Lc; decide)⟩
theorem nm_p : nmB [112] = true := (nmB_iff _).2 ⟨by decide, by decide, by unfold Lc; decide, fun j hj => by
  obtain rfl : j = 0 := by have h : j < 1 := hj; omega
  exact .inl (by unfold Lc; decide)⟩
theorem ex_rg1 : rgB xL1 = true := rgB_read 0 xL1 (.inl ⟨[97], 0, 1, rfl, nm_a, ⟨by decide, by decide⟩, ⟨by decide, by decide, by decide⟩⟩)
theorem ex_rg2 : rgB xL2 = true := rgB_read 0 xL2 (.inr (.inl ⟨⟨[97], [112], 1, 10, [], rfl, nm_a, nm_p, ⟨by decide, by decide⟩, ⟨by decide, by decide⟩, .inl rfl⟩, by decide⟩))
theorem ex_f1 : fitsB NV.zero xL1 1 = true := fits_iff.2 ⟨rfl, ex_rg1, none_ok⟩
theorem ex_d1 : pdN NV.zero xL1 = exN1 ∧ pdE NV.zero xL1 = 0 := by
  have h := pd_0 ex_f1 (by decide) (by decide)
  exact ⟨h.1.trans rfl, h.2⟩
theorem ex_ok1 : NetOk exN1 := by
  have h := withDev_ok (L := xL1) none_ok (by decide)
  exact (show withDev NV.zero xL1 = exN1 from rfl) ▸ h
theorem ex_f2 : fitsB exN1 xL2 2 = true := fits_iff.2 ⟨rfl, ex_rg2, ex_ok1⟩
theorem ex_p2 : ppN exN1 xL2 = exN2 ∧ ppE exN1 xL2 = 0 := by
  have h := pp_0 ex_f2 (by decide) (by decide) (by decide)
  exact ⟨h.1.trans rfl, h.2⟩
theorem ex_ok2 : NetOk exN2 := by
  have k := rg_kd2 ex_rg2 rfl
  have h := withPort_ok (N := exN1) (L := xL2) ex_ok1 k.1 k.2 (by decide) (by decide) (by decide)
  exact (show withPort exN1 xL2 = exN2 from rfl) ▸ h
theorem ex_f3 : fitsB exN2 xL2 2 = true := fits_iff.2 ⟨rfl, ex_rg2, ex_ok2⟩
theorem ex_p3 : ppN exN2 xL2 = NV.zero ∧ ppE exN2 xL2 = 30 := pp_30 ex_f3 (by decide) (by decide)
theorem ex_sz1 : NvSz exN1 := by
  refine ⟨by decide, by decide, by decide, by decide, by decide, by decide, by decide, by decide, ?_, ?_, ?_, ?_⟩ <;> (intro j hj; exact absurd hj (by simp [exN1, NV.zero]))
theorem ex_sz2 : NvSz exN2 := by
  refine ⟨by decide, by decide, by decide, by decide, by decide, by decide, by decide, by decide, fun j hj => ?_, fun j hj => ?_, fun j hj => ?_, fun j hj => ?_⟩
  · obtain rfl : j = 0 := by simp [exN2] at hj; omega
    decide
  · obtain rfl : j = 0 := by simp [exN2] at hj; omega
    decide
  · exact absurd hj (by simp [exN2, NV.zero])
  · exact absurd hj (by simp [exN2, NV.zero])
theorem zero_nm : NmSz NV.zero := ⟨fun k hk => absurd hk (by simp [NV.zero]), fun k hk => absurd hk (by simp [NV.zero]), fun k hk => absurd hk (by simp [NV.zero])⟩
theorem ex_nm1 : NmSz exN1 := by
  refine ⟨fun k hk => ?_, fun k hk => absurd hk (by simp [exN1, NV.zero]), fun k hk => absurd hk (by simp [exN1, NV.zero])⟩
  obtain rfl : k = 0 := by simp [exN1] at hk; omega
  decide
theorem ex_nm2 : NmSz exN2 := by
  refine ⟨fun k hk => ?_, fun k hk => ?_, fun k hk => absurd hk (by simp [exN2, NV.zero])⟩
  · obtain rfl : k = 0 := by simp [exN2] at hk; omega
    decide
  · obtain rfl : k = 0 := by simp [exN2] at hk; omega
    decide
set_option maxRecDepth 20000 in
theorem ex_m1 : LvM xL1 := ⟨⟨by decide, by decide⟩, by decide, by decide⟩
set_option maxRecDepth 20000 in
theorem ex_m2 : LvM xL2 := ⟨⟨by decide, by decide⟩, by decide, by decide⟩
theorem nil_read (w : World) (L : LV) (h : L.tagged = [] ∧ L.imports = [] ∧ L.exports = [] ∧ L.addrs = []) : LRead w L SlV.nil SlV.nil SlV.nil SlV.nil := by
  obtain ⟨h1, h2, h3, h4⟩ := h
  unfold LRead
  rw [h1, h2, h3, h4]
  exact ⟨ISl.nil, ISl.nil, ISl.nil, ISl.nil⟩
theorem ex_put1 (w : World) : Calls Tryz.prog 7 #[.agg #[.slice none 0 0, .slice none 0 0, .slice none 0 0, .slice none 0 0, .slice none 0 0, .slice none 0 0, .slice none 0 0, .slice none 0 0], .agg #[.int .i64 0, .int .i64 1, .string ⟨#[97]⟩, .string ⟨#[]⟩, .string ⟨#[]⟩, .string ⟨#[]⟩, .string ⟨#[]⟩, .int .u64 1, .int .u32 0, .int .i64 0, .int .i64 0, .int .i64 0, .int .i64 0, .slice none 0 0, .slice none 0 0, .slice none 0 0, .slice none 0 0]] w (GotPut exN1 0 w) := by
  have h := pdev_any NV.zero NSl3.nil xL1 SlV.nil SlV.nil SlV.nil SlV.nil w (none_read w) (nil_read w xL1 ⟨rfl, rfl, rfl, rfl⟩) none_sz zero_nm ex_m1
  rw [ex_d1.1, ex_d1.2] at h
  exact h
theorem ex_put2 (N : NV) (S : NSl3) (w : World) (h : NRead w (allB w) N S) (hz : NvSz N) (hm : NmSz N) : Calls Tryz.prog 9 #[.agg #[.slice S.dv.A S.dv.n S.dv.c, .slice S.pt.A S.pt.n S.pt.c, .slice S.lk.A S.lk.n S.lk.c, .slice S.dm.A S.dm.n S.dm.c, .slice S.st.A S.st.n S.st.c, .slice S.fl.A S.fl.n S.fl.c, .slice S.vr.A S.vr.n S.vr.c, .slice S.ir.A S.ir.n S.ir.c], .agg #[.int .i64 0, .int .i64 2, .string ⟨#[97]⟩, .string ⟨#[112]⟩, .string ⟨#[]⟩, .string ⟨#[]⟩, .string ⟨#[]⟩, .int .u64 0, .int .u32 0, .int .i64 0, .int .i64 10, .int .i64 0, .int .i64 1, .slice none 0 0, .slice none 0 0, .slice none 0 0, .slice none 0 0]] w (GotPut (ppN N xL2) (ppE N xL2) w) :=
  pport_any N S xL2 SlV.nil SlV.nil SlV.nil SlV.nil w h (nil_read w xL2 ⟨rfl, rfl, rfl, rfl⟩) hz hm ex_m2
set_option maxRecDepth 40000 in
set_option maxHeartbeats 8000000 in
theorem works16_any (w : World) : Calls Tryz.prog 6 #[] w fun e w' => e = .returned (.bool true) ∧ Below w.heap.size w w' := by
  have P1 := fun (w' : World) => ex_put1 w'
  have P2 := fun (U : NSl3) (w' : World) (h : NRead w' (allB w') exN1 U) => ex_put2 exN1 U w' h ex_sz1 ex_nm1
  have P3 := fun (U : NSl3) (w' : World) (h : NRead w' (allB w') exN2 U) => ex_put2 exN2 U w' h ex_sz2 ex_nm2
  rw [ex_p2.1, ex_p2.2] at P2
  rw [ex_p3.1, ex_p3.2] at P3
  unfold GotPut netV at P1 P2 P3
  have P1 := Lib.hid P1
  have P2 := Lib.hid P2
  have P3 := Lib.hid P3
  go_enter Tryz.func6, Tryz.ntmps6
  go_upto_region 2 with (go_at_call 7; (refine (P1.out _).mono ?_); rintro e w1 ⟨U, rfl, hr, hb⟩; have R1 := Lib.hid hr; have B1 := Lib.hid hb; clear hr hb)
  obtain ⟨w2, hw2⟩ : ∃ w2, w1.alloc (.cells #[.slice U.dv.A U.dv.n U.dv.c, .slice U.pt.A U.pt.n U.pt.c, .slice U.lk.A U.lk.n U.lk.c, .slice U.dm.A U.dm.n U.dm.c, .slice U.st.A U.st.n U.st.c, .slice U.fl.A U.fl.n U.fl.c, .slice U.vr.A U.vr.n U.vr.c, .slice U.ir.A U.ir.n U.ir.c] 31) = w2 := ⟨_, rfl⟩
  have A2 : Below w1.heap.size w1 w2 := by rw [← hw2]; exact alloc_below _ _
  have NB2 := Lib.hid (show NBox w2 w1.heap.size U by rw [← hw2]; exact NBox.new _ _ _)
  have R2 := Lib.hid (R1.out.up A2)
  have B2 := Lib.hid (B1.out.trans (A2.mono B1.out.size))
  rw [hw2]
  clear hw2 A2
  have q1 := NB2.out.lt
  obtain ⟨f0, f1, f2, f3, f4, f5, f6, f7⟩ : w2.cell? ⟨w1.heap.size, 0, none⟩ = some (.slice U.dv.A U.dv.n U.dv.c) ∧ w2.cell? ⟨w1.heap.size, 1, none⟩ = some (.slice U.pt.A U.pt.n U.pt.c) ∧ w2.cell? ⟨w1.heap.size, 2, none⟩ = some (.slice U.lk.A U.lk.n U.lk.c) ∧ w2.cell? ⟨w1.heap.size, 3, none⟩ = some (.slice U.dm.A U.dm.n U.dm.c) ∧ w2.cell? ⟨w1.heap.size, 4, none⟩ = some (.slice U.st.A U.st.n U.st.c) ∧ w2.cell? ⟨w1.heap.size, 5, none⟩ = some (.slice U.fl.A U.fl.n U.fl.c) ∧ w2.cell? ⟨w1.heap.size, 6, none⟩ = some (.slice U.vr.A U.vr.n U.vr.c) ∧ w2.cell? ⟨w1.heap.size, 7, none⟩ = some (.slice U.ir.A U.ir.n U.ir.c) := by have nb := NB2.out; exact ⟨nb.c0, nb.c1, nb.c2, nb.c3, nb.c4, nb.c5, nb.c6, nb.c7⟩
  go_upto_region 3 with (go_at_call 9; (refine (P2.out U _ R2.out).mono ?_); rintro e w3 ⟨V, rfl, hr, hb⟩; have R3 := Lib.hid hr; have B3 := Lib.hid (B2.out.trans (hb.mono B2.out.size)); clear hr hb)
  clear f0 f1 f2 f3 f4 f5 f6 f7 q1
  obtain ⟨w4, hw4⟩ : ∃ w4, w3.alloc (.cells #[.slice V.dv.A V.dv.n V.dv.c, .slice V.pt.A V.pt.n V.pt.c, .slice V.lk.A V.lk.n V.lk.c, .slice V.dm.A V.dm.n V.dm.c, .slice V.st.A V.st.n V.st.c, .slice V.fl.A V.fl.n V.fl.c, .slice V.vr.A V.vr.n V.vr.c, .slice V.ir.A V.ir.n V.ir.c] 31) = w4 := ⟨_, rfl⟩
  have A4 : Below w3.heap.size w3 w4 := by rw [← hw4]; exact alloc_below _ _
  have NB4 := Lib.hid (show NBox w4 w3.heap.size V by rw [← hw4]; exact NBox.new _ _ _)
  have R4 := Lib.hid (R3.out.up A4)
  have B4 := Lib.hid (B3.out.trans (A4.mono B3.out.size))
  rw [hw4]
  clear hw4 A4
  have q1 := NB4.out.lt
  obtain ⟨f0, f1, f2, f3, f4, f5, f6, f7⟩ : w4.cell? ⟨w3.heap.size, 0, none⟩ = some (.slice V.dv.A V.dv.n V.dv.c) ∧ w4.cell? ⟨w3.heap.size, 1, none⟩ = some (.slice V.pt.A V.pt.n V.pt.c) ∧ w4.cell? ⟨w3.heap.size, 2, none⟩ = some (.slice V.lk.A V.lk.n V.lk.c) ∧ w4.cell? ⟨w3.heap.size, 3, none⟩ = some (.slice V.dm.A V.dm.n V.dm.c) ∧ w4.cell? ⟨w3.heap.size, 4, none⟩ = some (.slice V.st.A V.st.n V.st.c) ∧ w4.cell? ⟨w3.heap.size, 5, none⟩ = some (.slice V.fl.A V.fl.n V.fl.c) ∧ w4.cell? ⟨w3.heap.size, 6, none⟩ = some (.slice V.vr.A V.vr.n V.vr.c) ∧ w4.cell? ⟨w3.heap.size, 7, none⟩ = some (.slice V.ir.A V.ir.n V.ir.c) := by have nb := NB4.out; exact ⟨nb.c0, nb.c1, nb.c2, nb.c3, nb.c4, nb.c5, nb.c6, nb.c7⟩
  go_upto_region 4 with (go_at_call 9; (refine (P3.out V _ R4.out).mono ?_); rintro e w5 ⟨X, rfl, hr, hb⟩; have NB5 := Lib.hid (NB4.out.below hb); have R5 := Lib.hid (R4.out.up hb); have B5 := Lib.hid (B4.out.trans (hb.mono B4.out.size)); clear hr hb)
  clear f0 f1 f2 f3 f4 f5 f6 f7 q1
  obtain ⟨w6, hw6⟩ : ∃ w6, w5.alloc (.cells #[.slice X.dv.A X.dv.n X.dv.c, .slice X.pt.A X.pt.n X.pt.c, .slice X.lk.A X.lk.n X.lk.c, .slice X.dm.A X.dm.n X.dm.c, .slice X.st.A X.st.n X.st.c, .slice X.fl.A X.fl.n X.fl.c, .slice X.vr.A X.vr.n X.vr.c, .slice X.ir.A X.ir.n X.ir.c] 31) = w6 := ⟨_, rfl⟩
  have A6 : Below w5.heap.size w5 w6 := by rw [← hw6]; exact alloc_below _ _
  have nb := NB5.out.below A6
  have q1 := nb.lt
  have f1 := nb.c1
  have f3 := nb.c3
  have B6 := Lib.hid (B5.out.trans (A6.mono B5.out.size))
  have R6 := R5.out.up A6
  have n1 : V.pt.n = 1 := by have := R6.pt.len; exact this.symm
  have n3 : V.dm.n = 1 := by have := R6.dm.len; exact this.symm
  have lp := R6.dm.le
  have cp := R6.dm.cap
  obtain ⟨b0, o0, vs, e0, _, hb0, ⟨t, hvs, _⟩, r0⟩ := rsl_at R6.dm 0 (by omega) DomV.zero
  subst hvs
  have d1 : w6.cell? ⟨b0, o0 + 1, none⟩ = some (.int .i64 10) := by have := r0 1 _ rfl; simpa [exN2] using this
  rw [e0] at f3
  rw [n3] at f3 lp
  rw [n1] at f1
  rw [hw6]
  clear hw6 A6 nb R6 n1 n3 r0 e0
  go_wp2
  go_ret
  exact ⟨rfl, B6.out⟩
end Go.Proofs.YthobolmedppneaaGreat

/- Is a net, or a line, too great to be asked of: palinglaw16.Great. (Made by mk-nwgreat.py.) -/
namespace Go.Proofs.YthobolmedppneaaGreat
open Go.RowKit

theorem isl_nsl {w : World} {k : IntKind} {s : SlV} {xs : List Int} (h : ISl w k s.A s.n s.c xs) : NSl w (allB w) k s xs := ⟨h, fun hn ad e => by
  obtain ⟨b, off, e2, hl, _⟩ := h.2.2.2 hn
  rw [e] at e2
  injection e2 with e2
  rw [e2]
  exact hl⟩
/-- a row of one line -/
theorem line_row {w : World} {L : LV} {s1 s2 s3 s4 : SlV} {q : Nat} (h : LRead w L s1 s2 s3 s4) (e : w.heap[q]? = some (.cells (lineC L s1 s2 s3 s4).toArray 37)) : RSl lineR w (allB w) (some ⟨q, 0, none⟩) 1 1 [L] := by
  have hq : q < w.heap.size := by
    rcases Nat.lt_or_ge q w.heap.size with h' | h'
    · exact h'
    · rw [Array.getElem?_eq_none h'] at e; cases e
  exact rsl_one lineR w _ q (lineC L s1 s2 s3 s4) L hq hq ⟨s1, s2, s3, s4, rfl, isl_nsl h.1, isl_nsl h.2.1, isl_nsl h.2.2.1, isl_nsl h.2.2.2⟩ (range_list (T := 37) e)
set_option maxRecDepth 40000 in
set_option maxHeartbeats 8000000 in
theorem great16_any (N : NV) (S : NSl3) (L : LV) (s1 s2 s3 s4 : SlV) (w : World) (h : NRead w (allB w) N S) (hl : LRead w L s1 s2 s3 s4) : Calls Tryz.prog 5 #[netV S, lineV L s1 s2 s3 s4] w (GotGr N L w) := by
  have NA_ := Lib.hid (NBox.new w S 31)
  have LA_ := Lib.hid (line_boxed (w.alloc (.cells #[.slice S.dv.A S.dv.n S.dv.c, .slice S.pt.A S.pt.n S.pt.c, .slice S.lk.A S.lk.n S.lk.c, .slice S.dm.A S.dm.n S.dm.c, .slice S.st.A S.st.n S.st.c, .slice S.fl.A S.fl.n S.fl.c, .slice S.vr.A S.vr.n S.vr.c, .slice S.ir.A S.ir.n S.ir.c] 31)) L s1 s2 s3 s4 37)
  have NT_ := Lib.hid (TBx.new ((w.alloc (.cells #[.slice S.dv.A S.dv.n S.dv.c, .slice S.pt.A S.pt.n S.pt.c, .slice S.lk.A S.lk.n S.lk.c, .slice S.dm.A S.dm.n S.dm.c, .slice S.st.A S.st.n S.st.c, .slice S.fl.A S.fl.n S.fl.c, .slice S.vr.A S.vr.n S.vr.c, .slice S.ir.A S.ir.n S.ir.c] 31)).alloc (.cells #[.int .i64 L.row, .int .i64 L.kind, .string (str L.dev), .string (str L.port), .string (str L.peer), .string (str L.far), .string (str L.name), .int .u64 L.mac, .int .u32 L.addr, .int .i64 L.bits, .int .i64 L.vlan, .int .i64 L.num, .int .i64 L.cost, .slice s1.A s1.n s1.c, .slice s2.A s2.n s2.c, .slice s3.A s3.n s3.c, .slice s4.A s4.n s4.c] 37)) #[.slice none 0 0, .slice none 0 0, .slice none 0 0, .slice none 0 0, .slice none 0 0, .slice none 0 0, .slice none 0 0, .slice none 0 0] 31)
  have UP := Lib.hid (fun (w' : World) (hb : Below w.heap.size w w') => h.up hb)
  have UL := Lib.hid (fun (w' : World) (hb : Below w.heap.size w w') => lread_below hl hb)
  have G1 := fun (w' : World) (hb : Below w.heap.size w w') => ngreat_any N S w' (h.up hb)
  unfold GotNG netV at G1
  have G1 := Lib.hid G1
  have G2 := Lib.hid (fun (q : Nat) (w' : World) (hb : Below w.heap.size w w') (e : w'.heap[q]? = some (.cells (lineC L s1 s2 s3 s4).toArray 37)) => great12_any (some ⟨q, 0, none⟩) 1 1 [L] w' (line_row (lread_below hl hb) e))
  clear h hl
  unfold netV
  rw [show lineV L s1 s2 s3 s4 = .agg #[.int .i64 L.row, .int .i64 L.kind, .string (str L.dev), .string (str L.port), .string (str L.peer), .string (str L.far), .string (str L.name), .int .u64 L.mac, .int .u32 L.addr, .int .i64 L.bits, .int .i64 L.vlan, .int .i64 L.num, .int .i64 L.cost, .slice s1.A s1.n s1.c, .slice s2.A s2.n s2.c, .slice s3.A s3.n s3.c, .slice s4.A s4.n s4.c] from rfl]
  go_enter Tryz.func5, Tryz.ntmps5
  go_upto_region 1 with fail
  obtain ⟨w1, hw1⟩ : ∃ w1, (w.alloc (.cells #[.slice S.dv.A S.dv.n S.dv.c, .slice S.pt.A S.pt.n S.pt.c, .slice S.lk.A S.lk.n S.lk.c, .slice S.dm.A S.dm.n S.dm.c, .slice S.st.A S.st.n S.st.c, .slice S.fl.A S.fl.n S.fl.c, .slice S.vr.A S.vr.n S.vr.c, .slice S.ir.A S.ir.n S.ir.c] 31)).alloc (.cells #[.int .i64 L.row, .int .i64 L.kind, .string (str L.dev), .string (str L.port), .string (str L.peer), .string (str L.far), .string (str L.name), .int .u64 L.mac, .int .u32 L.addr, .int .i64 L.bits, .int .i64 L.vlan, .int .i64 L.num, .int .i64 L.cost, .slice s1.A s1.n s1.c, .slice s2.A s2.n s2.c, .slice s3.A s3.n s3.c, .slice s4.A s4.n s4.c] 37) = w1 := ⟨_, rfl⟩
  have B1 := Lib.hid (show Below w.heap.size w w1 by rw [← hw1]; exact ((Below.refl _ _).alloc (Nat.le_refl _) _).alloc (by simp) _)
  have NB := Lib.hid (show NBox w1 w.heap.size S by rw [← hw1]; exact NA_.out.below ((Below.refl _ _).alloc (Nat.le_refl _) _))
  have LB := Lib.hid (show BoxF w1 (w.heap.size + 1) 17 (lc L s1 s2 s3 s4) by
    have := LA_.out
    rw [show (w.alloc (.cells #[.slice S.dv.A S.dv.n S.dv.c, .slice S.pt.A S.pt.n S.pt.c, .slice S.lk.A S.lk.n S.lk.c, .slice S.dm.A S.dm.n S.dm.c, .slice S.st.A S.st.n S.st.c, .slice S.fl.A S.fl.n S.fl.c, .slice S.vr.A S.vr.n S.vr.c, .slice S.ir.A S.ir.n S.ir.c] 31)).heap.size = w.heap.size + 1 by simp] at this
    rw [← hw1]; exact this)
  have ql1 : w.heap.size + 1 < w1.heap.size := by rw [← hw1]; simp
  rw [hw1]
  clear hw1 NA_ LA_ NT_
  have KN := Lib.hid (show ∀ wx, Below w1.heap.size w1 wx → (wx.cell? ⟨w.heap.size, 0, none⟩ = some (.slice S.dv.A S.dv.n S.dv.c) ∧ wx.cell? ⟨w.heap.size, 1, none⟩ = some (.slice S.pt.A S.pt.n S.pt.c) ∧ wx.cell? ⟨w.heap.size, 2, none⟩ = some (.slice S.lk.A S.lk.n S.lk.c) ∧ wx.cell? ⟨w.heap.size, 3, none⟩ = some (.slice S.dm.A S.dm.n S.dm.c) ∧ wx.cell? ⟨w.heap.size, 4, none⟩ = some (.slice S.st.A S.st.n S.st.c) ∧ wx.cell? ⟨w.heap.size, 5, none⟩ = some (.slice S.fl.A S.fl.n S.fl.c) ∧ wx.cell? ⟨w.heap.size, 6, none⟩ = some (.slice S.vr.A S.vr.n S.vr.c) ∧ wx.cell? ⟨w.heap.size, 7, none⟩ = some (.slice S.ir.A S.ir.n S.ir.c)) ∧ (wx.cell? ⟨w.heap.size + 1, 1, none⟩ = some (.int .i64 L.kind)) ∧ BoxF wx (w.heap.size + 1) 17 (lc L s1 s2 s3 s4) ∧ NRead wx (allB wx) N S ∧ LRead wx L s1 s2 s3 s4 ∧ Below w.heap.size w wx from fun wx hx => by
    have nb := NB.out.below hx
    have bx := LB.out.below (by omega) hx
    have b0 := B1.out.trans (hx.mono B1.out.size)
    exact ⟨⟨nb.c0, nb.c1, nb.c2, nb.c3, nb.c4, nb.c5, nb.c6, nb.c7⟩, bx.cell 1 (by omega), bx, UP.out _ b0, UL.out _ b0, b0⟩)
  have BS := Lib.hid (Below.refl w1.heap.size w1)
  obtain ⟨⟨f0, f1, f2, f3, f4, f5, f6, f7⟩, g1, lb_, _⟩ := KN.out w1 (Below.refl _ _)
  go_wp2_with (first
    | (((with_reducible refine wpList_lineOf ?hg (.tmp 3) ?ho (w.heap.size + 1) ?hx L s1 s2 s3 s4 lb_ ?_); (case hg => rfl); (case ho => rfl); (case hx => rfl)); unfold lineV)
    | (go_at_call 18; (with_reducible refine (G1.out _ B1.out).mono ?_); rintro e w2 ⟨g, rfl, hg, b_⟩; have Y2 := Lib.hid b_; have X2 := Lib.hid (trans_below B1.out b_); have HG := Lib.hid hg; obtain ⟨⟨f0, f1, f2, f3, f4, f5, f6, f7⟩, g1, lb_, _⟩ := KN.out _ Y2.out; clear hg b_; cases g)
    | (go_at_call 19; (refine (G2.out w2.heap.size _ (trans_below X2.out (alloc_below _ _)) (heap_alloc_new _ _)).mono ?_); rintro e w3 ⟨g, rfl, hg, b_⟩; have X3 := Lib.hid (trans_below (X2.out.trans ((alloc_below _ _).mono X2.out.size)) b_); have HG3 := Lib.hid hg; clear hg b_))
  · go_ret
    exact ⟨g, rfl, fun e => ⟨HG.out (by simp), (HG3.out e).2 0 (by omega)⟩, X3.out⟩
  · go_ret
    exact ⟨true, rfl, (fun e => by cases e), X2.out⟩
end Go.Proofs.YthobolmedppneaaGreat

/- The contract of palingref15.tops: the same devices, links, statics and interfaces? (Made by mk-nttops.py.) -/
namespace Go.Proofs.YthobolmedppneaaGreat
open Go.RowKit

theorem list_eq_getD {α : Type} (d : α) {xs ys : List α} (hl : xs.length = ys.length) (h : ∀ j, j < xs.length → xs.getD j d = ys.getD j d) : xs = ys := by
  apply List.ext_getElem hl
  intro j h1 h2
  have := h j h1
  simpa [List.getD, List.getElem?_eq_getElem h1, List.getElem?_eq_getElem h2] using this
/-! Two records compared. -/
theorem eq_dev (X Y : DevV) (V : Bool) (hV : V = true ↔ X = Y) (W : World) : (Op.equalIn 10000 61 (.agg (devC X).toArray) (.agg (devC Y).toArray)).run Tryz.prog W = .ok V W := by
  rw [show (10000 : Nat) = 9999 + 1 from rfl, run_equalIn_struct W 9999 61 _ _ (by kernel_rfl) (by kernel_rfl)]
  obtain ⟨x0, x1, x2, x3, x4⟩ := X
  obtain ⟨y0, y1, y2, y3, y4⟩ := Y
  simp only [DevV.mk.injEq] at hV
  simp [Program.fieldsOf, Tryz.underlying61, Op.eqFields, go_sem, devC]
  cases V with
  | true =>
    have e := hV.1 rfl
    simp [e]
  | false =>
    have e := fun g => (show False by have := hV.2 g; cases this)
    repeat' split
    all_goals simp_all
theorem eq_link (X Y : LinkV) (V : Bool) (hV : V = true ↔ X = Y) (W : World) : (Op.equalIn 10000 77 (.agg (linkC X).toArray) (.agg (linkC Y).toArray)).run Tryz.prog W = .ok V W := by
  rw [show (10000 : Nat) = 9999 + 1 from rfl, run_equalIn_struct W 9999 77 _ _ (by kernel_rfl) (by kernel_rfl)]
  obtain ⟨x0, x1, x2⟩ := X
  obtain ⟨y0, y1, y2⟩ := Y
  simp only [LinkV.mk.injEq] at hV
  simp [Program.fieldsOf, Tryz.underlying77, Op.eqFields, go_sem, linkC]
  cases V with
  | true =>
    have e := hV.1 rfl
    simp [e]
  | false =>
    have e := fun g => (show False by have := hV.2 g; cases this)
    repeat' split
    all_goals simp_all
theorem eq_stat (X Y : StatV) (V : Bool) (hV : V = true ↔ X = Y) (W : World) : (Op.equalIn 10000 85 (.agg (statC X).toArray) (.agg (statC Y).toArray)).run Tryz.prog W = .ok V W := by
  rw [show (10000 : Nat) = 9999 + 1 from rfl, run_equalIn_struct W 9999 85 _ _ (by kernel_rfl) (by kernel_rfl)]
  obtain ⟨x0, x1, x2, x3⟩ := X
  obtain ⟨y0, y1, y2, y3⟩ := Y
  simp only [StatV.mk.injEq] at hV
  simp [Program.fieldsOf, Tryz.underlying85, Op.eqFields, go_sem, statC]
  cases V with
  | true =>
    have e := hV.1 rfl
    simp [e]
  | false =>
    have e := fun g => (show False by have := hV.2 g; cases this)
    repeat' split
    all_goals simp_all
theorem eq_irb (X Y : IrbV) (V : Bool) (hV : V = true ↔ X = Y) (W : World) : (Op.equalIn 10000 97 (.agg (irbC X).toArray) (.agg (irbC Y).toArray)).run Tryz.prog W = .ok V W := by
  rw [show (10000 : Nat) = 9999 + 1 from rfl, run_equalIn_struct W 9999 97 _ _ (by kernel_rfl) (by kernel_rfl)]
  obtain ⟨x0, x1, x2, x3, x4⟩ := X
  obtain ⟨y0, y1, y2, y3, y4⟩ := Y
  simp only [IrbV.mk.injEq] at hV
  simp [Program.fieldsOf, Tryz.underlying97, Op.eqFields, go_sem, irbC]
  cases V with
  | true =>
    have e := hV.1 rfl
    simp [e]
  | false =>
    have e := fun g => (show False by have := hV.2 g; cases this)
    repeat' split
    all_goals simp_all
def topsOk (N M : NV) : Prop := N.devices = M.devices ∧ N.links = M.links ∧ N.statics = M.statics ∧ N.irbs = M.irbs
end Go.Proofs.YthobolmedppneaaGreat

/- Two nets alike in all. (Made by mk-ntself.py.) -/
namespace Go.Proofs.YthobolmedppneaaGreat
open Go.RowKit

theorem port_ext {X Y : PortV} (h0 : X.row = Y.row) (h1 : X.dev = Y.dev) (h2 : X.native = Y.native) (h3 : X.cost = Y.cost) (h4 : X.link = Y.link) (h5 : X.name = Y.name) (h6 : X.tagged = Y.tagged) : X = Y := by
  cases X
  cases Y
  simp_all
theorem dom_ext {X Y : DomV} (h0 : X.dev = Y.dev) (h1 : X.vlan = Y.vlan) (h2 : X.vni = Y.vni) (h3 : X.irb = Y.irb) (h4 : X.row = Y.row) (h5 : X.peers = Y.peers) : X = Y := by
  cases X
  cases Y
  simp_all
theorem flood_ext {X Y : FloodV} (h0 : X.row = Y.row) (h1 : X.dev = Y.dev) (h2 : X.vni = Y.vni) (h3 : X.addrs = Y.addrs) : X = Y := by
  cases X
  cases Y
  simp_all
theorem vrf_ext {X Y : VrfV} (h0 : X.row = Y.row) (h1 : X.dev = Y.dev) (h2 : X.name = Y.name) (h3 : X.imports = Y.imports) (h4 : X.exports = Y.exports) : X = Y := by
  cases X
  cases Y
  simp_all
/-- alike? -/
noncomputable def nsmB (N M : NV) : Bool := @decide (N = M) (Classical.propDecidable _)
theorem nsmB_no {N M : NV} (h : ¬ N = M) : nsmB N M = false := by
  unfold nsmB
  exact @decide_eq_false _ (Classical.propDecidable _) h
theorem nsmB_yes {N M : NV} (h : N = M) : nsmB N M = true := by
  unfold nsmB
  exact @decide_eq_true _ (Classical.propDecidable _) h
theorem nv_ext {N M : NV} (ht : topsOk N M) (h1 : N.ports = M.ports) (h2 : N.domains = M.domains) (h3 : N.floods = M.floods) (h4 : N.vrfs = M.vrfs) : N = M := by
  obtain ⟨a, b, c, d⟩ := ht
  cases N
  cases M
  simp_all
end Go.Proofs.YthobolmedppneaaGreat

/- The walk of PortsPuts. (Made by mk-nwputs.py.) -/
namespace Go.Proofs.YthobolmedppneaaGreat
open Go.RowKit

theorem lvm_of {L : LV} (h : LvSm L) (g : LvW L) : LvM L := ⟨⟨by have := h.txt; omega, by have := h.lst; omega⟩, g.mac, g.addr⟩
end Go.Proofs.YthobolmedppneaaGreat

/- What PortsKeeps asks of a net with a device, or a port: plain facts. -/
namespace Go.Proofs.YthobolmedppneaaGreat
open Go.RowKit

theorem pd_inv {N : NV} {L : LV} (h : pdE N L = 0) : fitsB N L 1 = true ∧ dvDup N L = false ∧ N.devices.length < 8 ∧ pdN N L = withDev N L := by
  have hN : pdN N L = withDev N L := by unfold pdN; rw [if_pos h]
  unfold pdE at h
  by_cases a : fitsB N L 1 = false
  · rw [if_pos a] at h; exact absurd h (by decide)
  · rw [if_neg a] at h
    by_cases b : dvDup N L = true
    · rw [if_pos b] at h; exact absurd h (by decide)
    · rw [if_neg b] at h
      by_cases c : 8 ≤ N.devices.length
      · rw [if_pos c] at h; exact absurd h (by decide)
      · exact ⟨by cases e : fitsB N L 1 with | true => rfl | false => exact absurd e a, Bool.eq_false_iff.2 b, by omega, hN⟩
theorem pp_inv {N : NV} {L : LV} (h : ppE N L = 0) : fitsB N L 2 = true ∧ 0 ≤ dvF N L.dev ∧ ptF N (dvF N L.dev) L.port = -1 ∧ N.ports.length < 40 ∧ N.domains.length + (lkL N (dvF N L.dev) L).length ≤ 48 ∧ ppN N L = withPort N L := by
  have hN : ppN N L = withPort N L := by unfold ppN; rw [if_pos h]
  unfold ppE at h
  by_cases a : fitsB N L 2 = false
  · rw [if_pos a] at h; exact absurd h (by decide)
  · rw [if_neg a] at h
    by_cases b : dvF N L.dev < 0
    · rw [if_pos b] at h; exact absurd h (by decide)
    · rw [if_neg b] at h
      by_cases c : 0 ≤ ptF N (dvF N L.dev) L.port
      · rw [if_pos c] at h; exact absurd h (by decide)
      · rw [if_neg c] at h
        by_cases d : 40 ≤ N.ports.length ∨ 48 < N.domains.length + (lkL N (dvF N L.dev) L).length
        · rw [if_pos d] at h; exact absurd h (by decide)
        · refine ⟨by cases e : fitsB N L 2 with | true => rfl | false => exact absurd e a, by omega, ?_, by omega, by omega, hN⟩
          rcases ptF_cases N (dvF N L.dev) L.port with e | e
          · exact e
          · exact absurd e c
theorem pp_no {N : NV} {L : LV} (h : ppE N L ≠ 0) : ppN N L = NV.zero := by unfold ppN; rw [if_neg h]
theorem dev_fits {N : NV} {L : LV} (h : fitsB N L 1 = true) (z : N.devices.length < 8) : NetOk (withDev N L) := withDev_ok (fits_iff.1 h).2.2 z
theorem port_fits {N : NV} {L : LV} (h : fitsB N L 2 = true) (d : 0 ≤ dvF N L.dev) (z1 : N.ports.length < 40) (z2 : N.domains.length + (lkL N (dvF N L.dev) L).length ≤ 48) : NetOk (withPort N L) := by
  have f := fits_iff.1 h
  have k := rg_kd2 f.2.1 f.1
  exact withPort_ok f.2.2 k.1 k.2 d z1 z2
theorem dev_sz {N : NV} {L : LV} (h : NvSz N) (z : N.devices.length < 8) : NvSz (withDev N L) :=
  ⟨by simp [withDev]; omega, h.zpt, h.zlk, h.zdm, h.zst, h.zfl, h.zvr, h.zir, h.ipt, h.idm, h.ifl, h.ivr⟩
theorem port_sz {N : NV} {L : LV} (h : NvSz N) (f : fitsB N L 2 = true) (z1 : N.ports.length < 40) (z2 : N.domains.length + (lkL N (dvF N L.dev) L).length ≤ 48) : NvSz (withPort N L) := by
  have hlp : (withPort N L).ports.length = N.ports.length + 1 := by simp [withPort]
  have hld : (withPort N L).domains.length = N.domains.length + (lkL N (dvF N L.dev) L).length := by simp [withPort]
  have ft := fits_iff.1 f
  have k := (rg_kd2 ft.2.1 ft.1).1
  have t16 : L.tagged.length ≤ 16 := by
    obtain ⟨_, _, _, _, t, e, _, _, _, _, ht⟩ := k
    have := ls_len ht
    rw [e]; exact this
  refine ⟨h.zdv, by omega, h.zlk, by omega, h.zst, h.zfl, h.zvr, h.zir, fun j hj => ?_, fun j hj => ?_, h.ifl, h.ivr⟩
  · rw [hlp] at hj
    by_cases e : j < N.ports.length
    · rw [show (withPort N L).ports.getD j PortV.zero = N.ports.getD j PortV.zero from getD_old e]; exact h.ipt j e
    · obtain rfl : j = N.ports.length + 0 := by omega
      rw [show (withPort N L).ports.getD (N.ports.length + 0) PortV.zero = [portOf N L].getD 0 PortV.zero from getD_new]
      show L.tagged.length ≤ 100
      omega
  · rw [hld] at hj
    by_cases e : j < N.domains.length
    · rw [show (withPort N L).domains.getD j DomV.zero = N.domains.getD j DomV.zero from getD_old e]; exact h.idm j e
    · obtain ⟨i, rfl⟩ : ∃ i, j = N.domains.length + i := ⟨j - N.domains.length, by omega⟩
      rw [show (withPort N L).domains.getD (N.domains.length + i) DomV.zero = ((lkL N (dvF N L.dev) L).map (newD (dvF N L.dev))).getD i DomV.zero from getD_new]
      have hi : i < (lkL N (dvF N L.dev) L).length := by omega
      rw [show ((lkL N (dvF N L.dev) L).map (newD (dvF N L.dev))).getD i DomV.zero = newD (dvF N L.dev) (lkL N (dvF N L.dev) L)[i] by simp [List.getD, hi]]
      show ([] : List Int).length ≤ 100
      decide
theorem dv_with {N : NV} {L : LV} (h : dvDup N L = false) : dvF (withDev N L) L.dev = (N.devices.length : Int) := by
  have := dvK_app L.dev N.devices (devOf L) 0 (fun i hi e => by
    have g := dup_some (N := N) (L := L) hi (.inl e)
    rw [h] at g; cases g) rfl
  unfold dvF withDev
  rw [this, Nat.zero_add]
theorem pt_with {N : NV} {L : LV} (h : ptF N (dvF N L.dev) L.port = -1) : ptF (withPort N L) (dvF N L.dev) L.port = (N.ports.length : Int) := by
  have := ptK_app (dvF N L.dev) L.port N.ports (portOf N L) 0 h ⟨rfl, rfl⟩
  unfold ptF withPort
  rw [this, Nat.zero_add]
theorem rsl_take {α : Type} {R : Rdr α} {w : World} {F : Nat → Prop} {A : Option Addr} {n c m : Nat} {xs : List α} (h : RSl R w F A n c xs) (hm : m ≤ n) : RSl R w F A m c (xs.take m) := by
  refine ⟨by rw [List.length_take, h.1]; omega, by have := h.2.1; omega, h.2.2.1, h.2.2.2.1, fun hn => ?_⟩
  obtain ⟨b, off, e, hF, hl, hc⟩ := h.2.2.2.2 (by omega)
  refine ⟨b, off, e, hF, hl, fun j x hx => hc j x ?_⟩
  rw [List.getElem?_take] at hx
  by_cases hj : j < m
  · rwa [if_pos hj] at hx
  · rw [if_neg hj] at hx; cases hx
/-- the elder devices alone -/
theorem dev_cut {w : World} {F : Nat → Prop} {N : NV} {L : LV} {U : NSl3} (h : NRead w F (withDev N L) U) : NRead w F N { U with dv := ⟨U.dv.A, N.devices.length, U.dv.c⟩ } := by
  have e := rsl_take (m := N.devices.length) h.dv (by have := h.dv.len; simp [withDev] at this; omega)
  rw [show (withDev N L).devices.take N.devices.length = N.devices by simp [withDev]] at e
  exact ⟨e, h.pt, h.lk, h.dm, h.st, h.fl, h.vr, h.ir⟩
/-- the elder ports and domains alone -/
theorem port_cut {w : World} {F : Nat → Prop} {N : NV} {L : LV} {U : NSl3} (h : NRead w F (withPort N L) U) : NRead w F N { U with pt := ⟨U.pt.A, N.ports.length, U.pt.c⟩, dm := ⟨U.dm.A, N.domains.length, U.dm.c⟩ } := by
  have e := rsl_take (m := N.ports.length) h.pt (by have := h.pt.len; simp [withPort] at this; omega)
  have e2 := rsl_take (m := N.domains.length) h.dm (by have := h.dm.len; simp [withPort] at this; omega)
  rw [show (withPort N L).ports.take N.ports.length = N.ports by simp [withPort]] at e
  rw [show (withPort N L).domains.take N.domains.length = N.domains by simp [withPort]] at e2
  exact ⟨h.dv, e, h.lk, e2, h.st, h.fl, h.vr, h.ir⟩
end Go.Proofs.YthobolmedppneaaGreat

