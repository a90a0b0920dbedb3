/- Only what the statement at hand leans on. -/
import Derived.Test.YthobolmedppneaaGreatKb29
import Derived.Test.YthobolmedppneaaGreatKb03
import Derived.Test.YthobolmedppneaaGreatKb27
/- The contract of (*draft).device: a line's device written into a copy of a net. (Made by mk-npdev.py.) -/
namespace Go.Proofs.YthobolmedppneaaGreat
open Go.RowKit

/-- a draft, written or not, and what is told of it -/
def GotDr (N : NV) (E : Int) (q B : Nat) (F : Nat → Prop) (w : World) (e : Ending) (w' : World) : Prop := ∃ U, e = .returned (.int .i64 E) ∧ TBx w' q 116 (netC U) ∧ NOwn w' B F N U ∧ Below B w w'
theorem isb_draft : IsB 116 := by unfold IsB IsO; decide
/-- what is told of a device's line -/
def ddE (N : NV) (L : LV) : Int := if dvDup N L = true then 30 else if 8 ≤ N.devices.length then 3 else 0
/-- .. and what the draft is then -/
def ddN (N : NV) (L : LV) : NV := if ddE N L = 0 then withDev N L else N
theorem dd_err {N : NV} {L : LV} {E : Int} (h : ddE N L = E) (h0 : E ≠ 0) : ddN N L = N ∧ ddE N L = E := ⟨by unfold ddN; rw [if_neg (by rw [h]; exact h0)], h⟩
theorem dd_ok {N : NV} {L : LV} (h : ddE N L = 0) : ddN N L = withDev N L ∧ ddE N L = 0 := ⟨by unfold ddN; rw [if_pos h], h⟩
theorem dup_split (N : NV) (L : LV) : dvDup N L = (!decide (dvF N L.dev = -1) || macIn N L.mac) := by
  cases e : dvDup N L with
  | true =>
    symm
    unfold dvDup at e
    rw [List.any_eq_true] at e
    obtain ⟨X, hX, hp⟩ := e
    rw [Bool.or_eq_true, decide_eq_true_eq, decide_eq_true_eq] at hp
    rw [Bool.or_eq_true]
    rcases hp with h | h
    · left
      rw [Bool.not_eq_true', decide_eq_false_iff_not]
      intro g
      obtain ⟨k, hk, rfl⟩ := List.getElem_of_mem hX
      rcases dvF_fst N L.dev _ rfl with ⟨j, h1, h2, _, _⟩ | ⟨_, h2⟩
      · rw [g] at h2; omega
      · have := h2 k hk
        simp [List.getD, hk] at this
        exact this h
    · right
      unfold macIn
      rw [List.any_eq_true]
      exact ⟨X, hX, decide_eq_true h⟩
  | false =>
    symm
    rw [Bool.eq_false_iff]
    intro g
    rw [Bool.or_eq_true] at g
    have : dvDup N L = true := by
      rcases g with g | g
      · rw [Bool.not_eq_true', decide_eq_false_iff_not] at g
        rcases dvF_fst N L.dev _ rfl with ⟨j, h1, h2, h3, _⟩ | ⟨h1, _⟩
        · exact dup_some h1 (.inl (of_decide_eq_true h3))
        · exact absurd h1 g
      · unfold macIn at g
        rw [List.any_eq_true] at g
        obtain ⟨X, hX, hp⟩ := g
        obtain ⟨k, hk, rfl⟩ := List.getElem_of_mem hX
        exact dup_some hk (.inr (by have := of_decide_eq_true hp; simpa [List.getD, hk] using this))
    rw [e] at this
    cases this
set_option maxRecDepth 40000 in
set_option maxHeartbeats 20000000 in
theorem ddev_any (N : NV) (U : NSl3) (q B : Nat) (F : Nat → Prop) (L : LV) (s1 s2 s3 s4 : SlV) (w : World) (hN : NOwn w B F N U) (hF : ∀ b, F b → b < B) (hB : B ≤ q) (hb : TBx w q 116 (netC U)) (hz : NvSz N) (hn : NetOk N) (hdl : L.dev.length ≤ 9223372036854775807) :
    Calls Tryz.prog 21 #[.pointer (some ⟨q, 0, none⟩), lineV L s1 s2 s3 s4] w (GotDr (ddN N L) (ddE N L) q B F w) := by
  have DC := fun (w' : World) (hx : Below w.heap.size w w') => xndevice_any N U L.dev w' (hN.up hx).read hz hn hdl
  have KC := fun (w' : World) (hx : Below w.heap.size w w') => knows_any N U q L.mac w' (hN.up hx).read (hb.below hx)
  obtain ⟨a, ha⟩ : ∃ a, dvF N L.dev = a := ⟨_, rfl⟩
  obtain ⟨mk, hmk⟩ : ∃ m, macIn N L.mac = m := ⟨_, rfl⟩
  have DUP := dup_split N L
  rw [ha, hmk] at DUP
  rw [ha] at DC
  rw [hmk] at KC
  unfold netV at DC
  have NLEN := Lib.hid hN.dv.len
  have hle := hN.dv.le
  have mx : maxLen = 9223372036854775807 := rfl
  have NZ := Lib.hid hz
  have ON := Lib.hid hN
  have TB := Lib.hid hb
  have FF := Lib.hid hF
  have BQ := Lib.hid (show B ≤ q ∧ q < w.heap.size from ⟨hB, hb.lt⟩)
  clear ha hmk hz hn hN hb hF hB hdl
  rw [show lineV L s1 s2 s3 s4 = .agg #[.int .i64 L.row, .int .i64 L.kind, .string (str L.dev), .string (str L.port), .string (str L.peer), .string (str L.far), .string (str L.name), .int .u64 L.mac, .int .u32 L.addr, .int .i64 L.bits, .int .i64 L.vlan, .int .i64 L.num, .int .i64 L.cost, .slice s1.A s1.n s1.c, .slice s2.A s2.n s2.c, .slice s3.A s3.n s3.c, .slice s4.A s4.n s4.c] from rfl]
  go_enter Tryz.func21, Tryz.ntmps21
  go_upto_region 1 with fail
  obtain ⟨w1, hw1⟩ : ∃ w1, w.alloc (.cells #[.int .i64 L.row, .int .i64 L.kind, .string (str L.dev), .string (str L.port), .string (str L.peer), .string (str L.far), .string (str L.name), .int .u64 L.mac, .int .u32 L.addr, .int .i64 L.bits, .int .i64 L.vlan, .int .i64 L.num, .int .i64 L.cost, .slice s1.A s1.n s1.c, .slice s2.A s2.n s2.c, .slice s3.A s3.n s3.c, .slice s4.A s4.n s4.c] 37) = w1 := ⟨_, rfl⟩
  have B1 := Lib.hid (show Below w.heap.size w w1 by rw [← hw1]; exact alloc_below _ _)
  have LT := Lib.hid (show TBx w1 w.heap.size 37 [.int .i64 L.row, .int .i64 L.kind, .string (str L.dev), .string (str L.port), .string (str L.peer), .string (str L.far), .string (str L.name), .int .u64 L.mac, .int .u32 L.addr, .int .i64 L.bits, .int .i64 L.vlan, .int .i64 L.num, .int .i64 L.cost, .slice s1.A s1.n s1.c, .slice s2.A s2.n s2.c, .slice s3.A s3.n s3.c, .slice s4.A s4.n s4.c] by rw [← hw1]; exact TBx.new w #[.int .i64 L.row, .int .i64 L.kind, .string (str L.dev), .string (str L.port), .string (str L.peer), .string (str L.far), .string (str L.name), .int .u64 L.mac, .int .u32 L.addr, .int .i64 L.bits, .int .i64 L.vlan, .int .i64 L.num, .int .i64 L.cost, .slice s1.A s1.n s1.c, .slice s2.A s2.n s2.c, .slice s3.A s3.n s3.c, .slice s4.A s4.n s4.c] _)
  have TB1 := Lib.hid (TB.out.below B1.out)
  have ON1 := Lib.hid (ON.out.up B1.out)
  rw [hw1]
  clear hw1
  have DC := Lib.hid (fun w' (hx : Below w1.heap.size w1 w') => DC w' (B1.out.trans (hx.mono B1.out.size)))
  have KC := Lib.hid (fun w' (hx : Below w1.heap.size w1 w') => KC w' (B1.out.trans (hx.mono B1.out.size)))
  have DUP := Lib.hid DUP
  have KR := Lib.hid (show ∀ wx, Below w1.heap.size w1 wx → (wx.cell? ⟨q, 0, none⟩ = some (.slice U.dv.A U.dv.n U.dv.c) ∧ wx.cell? ⟨q, 1, none⟩ = some (.slice U.pt.A U.pt.n U.pt.c) ∧ wx.cell? ⟨q, 2, none⟩ = some (.slice U.lk.A U.lk.n U.lk.c) ∧ wx.cell? ⟨q, 3, none⟩ = some (.slice U.dm.A U.dm.n U.dm.c) ∧ wx.cell? ⟨q, 4, none⟩ = some (.slice U.st.A U.st.n U.st.c) ∧ wx.cell? ⟨q, 5, none⟩ = some (.slice U.fl.A U.fl.n U.fl.c) ∧ wx.cell? ⟨q, 6, none⟩ = some (.slice U.vr.A U.vr.n U.vr.c) ∧ wx.cell? ⟨q, 7, none⟩ = some (.slice U.ir.A U.ir.n U.ir.c)) ∧ (wx.cell? ⟨w.heap.size, 0, none⟩ = some (.int .i64 L.row) ∧ wx.cell? ⟨w.heap.size, 2, none⟩ = some (.string (str L.dev)) ∧ wx.cell? ⟨w.heap.size, 7, none⟩ = some (.int .u64 L.mac) ∧ wx.cell? ⟨w.heap.size, 11, none⟩ = some (.int .i64 L.num)) ∧ q < wx.heap.size ∧ w.heap.size < wx.heap.size from fun wx hx => by
    have tb := TB1.out.below hx
    have lt := LT.out.below hx
    exact ⟨⟨tb.cell 0 _ rfl, tb.cell 1 _ rfl, tb.cell 2 _ rfl, tb.cell 3 _ rfl, tb.cell 4 _ rfl, tb.cell 5 _ rfl, tb.cell 6 _ rfl, tb.cell 7 _ rfl⟩, ⟨lt.cell 0 _ rfl, lt.cell 2 _ rfl, lt.cell 7 _ rfl, lt.cell 11 _ rfl⟩, tb.lt, lt.lt⟩)
  by_cases az : a = -1
  rotate_left
  · have x2 : (a != -1) = true := by simpa using az
    have EV := Lib.hid (dd_err (show ddE N L = 30 by unfold ddE; rw [DUP.out]; simp [az]) (by decide))
    clear az
    refine wp_region_text (fun wx => Below w1.heap.size w1 wx) (by kernel_rfl) (by kernel_rfl) ((Below.refl _ _).drew) ?_
    repeat
      first
        | (refine Seq.pass rfl ?_; simp only [Act.put, List.setIfInBounds_toArray, List.set_cons_zero, List.set_cons_succ])
        | (refine Seq.run ?_ rfl (fun wx hx => ?_) ?_
           rotate_left
           · obtain ⟨⟨t0, t1, t2, t3, t4, t5, t6, t7⟩, ⟨g0, g2, g7, g11⟩, m0, m1⟩ := KR.out wx hx
             go_simp
             first
               | (refine StepRun.val ?_; exact hx)
               | (refine StepRun.call (v := .int .i64 a) ?_; (with_reducible refine Calls.mono (DC.out _ hx) ?_); rintro e w' ⟨rfl, hb⟩; exact ⟨rfl, trans_below hx hb⟩)
               | (refine StepRun.call (v := .bool mk) ?_; (with_reducible refine Calls.mono (KC.out _ hx) ?_); rintro e w' ⟨rfl, hb⟩; exact ⟨rfl, trans_below hx hb⟩)
           simp only [Act.put, List.setIfInBounds_toArray, List.set_cons_zero, List.set_cons_succ])
    refine Seq.last (fun w2 h2 => ?_)
    obtain ⟨⟨t0, t1, t2, t3, t4, t5, t6, t7⟩, ⟨g0, g2, g7, g11⟩, m0, m1⟩ := KR.out w2 h2
    go_wp2
    go_ret
    rw [EV.out.1, EV.out.2]
    exact ⟨U, rfl, TB1.out.below h2, ON1.out.up h2, (B1.out.trans (h2.mono B1.out.size)).mono (by have := BQ.out; omega)⟩
  have x2 : (a != -1) = false := by simpa using az
  cases mk with
  | true =>
    have EV := Lib.hid (dd_err (show ddE N L = 30 by unfold ddE; rw [DUP.out]; simp) (by decide))
    clear az
    refine wp_region_text (fun wx => Below w1.heap.size w1 wx) (by kernel_rfl) (by kernel_rfl) ((Below.refl _ _).drew) ?_
    repeat
      first
        | (refine Seq.pass rfl ?_; simp only [Act.put, List.setIfInBounds_toArray, List.set_cons_zero, List.set_cons_succ])
        | (refine Seq.run ?_ rfl (fun wx hx => ?_) ?_
           rotate_left
           · obtain ⟨⟨t0, t1, t2, t3, t4, t5, t6, t7⟩, ⟨g0, g2, g7, g11⟩, m0, m1⟩ := KR.out wx hx
             go_simp
             first
               | (refine StepRun.val ?_; exact hx)
               | (refine StepRun.call (v := .int .i64 a) ?_; (with_reducible refine Calls.mono (DC.out _ hx) ?_); rintro e w' ⟨rfl, hb⟩; exact ⟨rfl, trans_below hx hb⟩)
               | (refine StepRun.call (v := .bool true) ?_; (with_reducible refine Calls.mono (KC.out _ hx) ?_); rintro e w' ⟨rfl, hb⟩; exact ⟨rfl, trans_below hx hb⟩)
           simp only [Act.put, List.setIfInBounds_toArray, List.set_cons_zero, List.set_cons_succ])
    refine Seq.last (fun w2 h2 => ?_)
    obtain ⟨⟨t0, t1, t2, t3, t4, t5, t6, t7⟩, ⟨g0, g2, g7, g11⟩, m0, m1⟩ := KR.out w2 h2
    go_wp2
    go_ret
    rw [EV.out.1, EV.out.2]
    exact ⟨U, rfl, TB1.out.below h2, ON1.out.up h2, (B1.out.trans (h2.mono B1.out.size)).mono (by have := BQ.out; omega)⟩
  | false =>
  have ND := Lib.hid (show dvDup N L = false by rw [DUP.out]; simp [az])
  clear az
  refine wp_region_text (fun wx => Below w1.heap.size w1 wx) (by kernel_rfl) (by kernel_rfl) ((Below.refl _ _).drew) ?_
  repeat
    first
      | (refine Seq.pass rfl ?_; simp only [Act.put, List.setIfInBounds_toArray, List.set_cons_zero, List.set_cons_succ])
      | (refine Seq.run ?_ rfl (fun wx hx => ?_) ?_
         rotate_left
         · obtain ⟨⟨t0, t1, t2, t3, t4, t5, t6, t7⟩, ⟨g0, g2, g7, g11⟩, m0, m1⟩ := KR.out wx hx
           go_simp
           first
             | (refine StepRun.val ?_; exact hx)
             | (refine StepRun.call (v := .int .i64 a) ?_; (with_reducible refine Calls.mono (DC.out _ hx) ?_); rintro e w' ⟨rfl, hb⟩; exact ⟨rfl, trans_below hx hb⟩)
             | (refine StepRun.call (v := .bool false) ?_; (with_reducible refine Calls.mono (KC.out _ hx) ?_); rintro e w' ⟨rfl, hb⟩; exact ⟨rfl, trans_below hx hb⟩)
         simp only [Act.put, List.setIfInBounds_toArray, List.set_cons_zero, List.set_cons_succ])
  refine Seq.last (fun w2 h2 => ?_)
  obtain ⟨⟨t0, t1, t2, t3, t4, t5, t6, t7⟩, ⟨g0, g2, g7, g11⟩, m0, m1⟩ := KR.out w2 h2
  have Y2 := Lib.hid h2
  clear h2
  by_cases h8 : 8 ≤ U.dv.n
  · have lt8 : (8 : Int) ≤ (U.dv.n : Int) := by omega
    have EV := Lib.hid (dd_err (show ddE N L = 3 by unfold ddE; rw [ND.out, if_neg (by decide), if_pos (by rw [← NLEN.out]; exact h8)]) (by decide))
    go_wp2
    go_ret
    rw [EV.out.1, EV.out.2]
    exact ⟨U, rfl, TB1.out.below Y2.out, ON1.out.up Y2.out, (B1.out.trans (Y2.out.mono B1.out.size)).mono (by have := BQ.out; omega)⟩
  have lt8 : ¬ (8 : Int) ≤ (U.dv.n : Int) := by omega
  have EV := Lib.hid (dd_ok (show ddE N L = 0 by unfold ddE; rw [ND.out, if_neg (by decide), if_neg (by rw [← NLEN.out]; exact h8)]))
  have HLEN := Lib.hid (show N.devices.length ≤ 7 by have := NLEN.out; omega)
  go_upto_region 5 with fail
  clear t0 t1 t2 t3 t4 t5 t6 t7 g0 g2 g7 g11 m0 m1
  obtain ⟨W0, hW0⟩ : ∃ W0, w2.drew = W0 := ⟨_, rfl⟩
  have V0 := Lib.hid (show Below w1.heap.size w1 W0 from hW0 ▸ below_drewN Y2.out 1)
  have HX := Lib.hid hW0
  clear hW0
  have OO0 := Lib.hid (ON1.out.up V0.out)
  have T0 := Lib.hid (TB1.out.below V0.out)
  have L0 := Lib.hid (LT.out.below V0.out)
  obtain ⟨W1, hW1⟩ : ∃ W1, W0.alloc (.cells (devC (devOf L)).toArray 61) = W1 := ⟨_, rfl⟩
  have b1 : Below W0.heap.size W0 W1 := by rw [← hW1]; exact (Below.refl _ _).alloc (Nat.le_refl _) _
  have E1 : TBx W1 W0.heap.size 61 (devC (devOf L)) := by rw [← hW1]; exact TBx.new W0 _ _
  have gB : B ≤ W1.heap.size := by have := T0.out.lt; have := BQ.out; have := b1.size; omega
  obtain ⟨u', W2, hr, R2, C2, bb2⟩ := run_ri1 (P := Tryz.prog) 22 22 Tryz.underlying22 (Desc.of (by kernel_rfl)) (by decide) ((OO0.out.up b1).dv) iso_dev FF.out W0.heap.size (devC (devOf L)) (devOf L) E1.range rfl (by have := HLEN.out; omega) gB
  have T1 := Lib.hid (T0.out.below b1)
  have T2 := Lib.hid (T1.out.chg C2 (by decide))
  have L1 := Lib.hid (L0.out.below b1)
  have L2 := Lib.hid (L1.out.chg C2 (by decide))
  obtain ⟨W3, hW3⟩ : ∃ W3, W2.setCell ⟨q, 0, none⟩ (.slice u'.A u'.n u'.c) = W3 := ⟨_, rfl⟩
  have C3 := Lib.hid (show ChgT B 116 W2 W3 by rw [← hW3]; exact T2.out.chgT BQ.out.1 0 _)
  have L3 := Lib.hid (L2.out.chg C3.out (by decide))
  obtain ⟨U', hU'⟩ : ∃ U' : NSl3, ({ U with dv := u' } : NSl3) = U' := ⟨_, rfl⟩
  have T3 := Lib.hid (show TBx W3 q 116 (netC U') by rw [← hW3, ← hU']; exact T2.out.set 0 _)
  have O3 := Lib.hid (show NOwn W3 B F (withDev N L) U' by rw [← hU']; exact ((OO0.out.up b1).setDv C2 FF.out R2).box C3.out isb_draft FF.out)
  have Z3 := Lib.hid (show Below B w W3 by
    rw [← hW3]
    have hwB : B ≤ w.heap.size := by have := BQ.out; omega
    have hwB1 : B ≤ W0.heap.size := by have := T0.out.lt; have := BQ.out; omega
    have v0 : Below B w W0 := (B1.out.trans (V0.out.mono B1.out.size)).mono hwB
    exact ((v0.trans (b1.mono hwB1)).trans bb2).setCell BQ.out.1 _)
  have HR := Lib.hid hr
  have H1 := Lib.hid hW1
  have H3 := Lib.hid hW3
  have CB := Lib.hid (fun m wx (hx : PhL [W0, W1, W2, W3] m wx) => hx.all (P := fun x => (x.cell? ⟨w.heap.size, 0, none⟩ = some (.int .i64 L.row) ∧ x.cell? ⟨w.heap.size, 2, none⟩ = some (.string (str L.dev)) ∧ x.cell? ⟨w.heap.size, 7, none⟩ = some (.int .u64 L.mac) ∧ x.cell? ⟨w.heap.size, 11, none⟩ = some (.int .i64 L.num)) ∧ q < x.heap.size ∧ w.heap.size < x.heap.size) (by
    intro x hx
    simp only [List.mem_cons, List.not_mem_nil, or_false] at hx
    rcases hx with rfl | rfl | rfl | rfl
    · have lt := L0.out; exact ⟨⟨lt.cell 0 _ rfl, lt.cell 2 _ rfl, lt.cell 7 _ rfl, lt.cell 11 _ rfl⟩, T0.out.lt, lt.lt⟩
    · have lt := L1.out; exact ⟨⟨lt.cell 0 _ rfl, lt.cell 2 _ rfl, lt.cell 7 _ rfl, lt.cell 11 _ rfl⟩, T1.out.lt, lt.lt⟩
    · have lt := L2.out; exact ⟨⟨lt.cell 0 _ rfl, lt.cell 2 _ rfl, lt.cell 7 _ rfl, lt.cell 11 _ rfl⟩, T2.out.lt, lt.lt⟩
    · have lt := L3.out; exact ⟨⟨lt.cell 0 _ rfl, lt.cell 2 _ rfl, lt.cell 7 _ rfl, lt.cell 11 _ rfl⟩, T3.out.lt, lt.lt⟩))
  have CX := Lib.hid (fun m wx (hx : PhL [W0, W1, W2, W3] m wx) (hm : m ≤ 1) => hx.upto hm (P := fun x => x.cell? ⟨q, 0, none⟩ = some (.slice U.dv.A U.dv.n U.dv.c)) (by
    intro x hx
    simp only [List.take, List.mem_cons, List.not_mem_nil, or_false] at hx
    rcases hx with rfl | rfl
    · exact T0.out.cell 0 _ rfl
    · exact T1.out.cell 0 _ rfl))
  clear hr R2 C2 bb2 hW1 hW3 hU' E1 b1 gB
  refine wp_region_phases (PhL [W0, W1, W2, W3]) [15, 16, 20] (by kernel_rfl) (by kernel_rfl) (by kernel_rfl) (by rw [HX.out]; rfl) ?_
  repeat
    first
      | (refine SeqP.run ?_ 3 (limJ_le _ _ _ _) rfl (by decide) (fun m hm wx hx => ?_) ?_
         rotate_left
         · obtain ⟨⟨g0, g2, g7, g11⟩, m0, m1⟩ := CB.out m wx hx
           go_simp
           refine StepRun.val ?_; exact hx
         simp only [Act.put, List.setIfInBounds_toArray, List.set_cons_zero, List.set_cons_succ])
      | (refine SeqP.run (.slice U.dv.A U.dv.n U.dv.c) 1 (of_decide_eq_true (by kernel_rfl)) rfl (by decide) (fun m hm wx hx => ?_) ?_
         · have cx := CX.out m wx hx hm
           go_simp
           refine StepRun.val ?_; exact hx
         simp only [Act.put, List.setIfInBounds_toArray, List.set_cons_zero, List.set_cons_succ])
      | (refine SeqP.make (.slice (some ⟨W0.heap.size, 0, none⟩) 1 1) 0 rfl rfl (fun wx hx => ?_) ?_
         · obtain rfl : W0 = wx := Option.some.inj hx
           go_simp
           exact ⟨rfl, by have := H1.out; rw [← this]; rfl⟩
         simp only [Act.put, List.setIfInBounds_toArray, List.set_cons_zero, List.set_cons_succ])
      | (refine SeqP.make (.slice u'.A u'.n u'.c) 1 rfl rfl (fun wx hx => ?_) ?_
         · obtain rfl : W1 = wx := Option.some.inj hx
           rw [exec_app (t := 22) rfl rfl rfl HR.out]
           exact ⟨rfl, rfl⟩
         simp only [Act.put, List.setIfInBounds_toArray, List.set_cons_zero, List.set_cons_succ])
      | (refine SeqP.make undef 2 rfl rfl (fun wx hx => ?_) ?_
         · obtain rfl : W2 = wx := Option.some.inj hx
           have cx := T2.out.cell 0 (.slice U.dv.A U.dv.n U.dv.c) rfl
           have ff := T2.out.live 0
           have m2 := T2.out.lt
           go_simp
           exact ⟨rfl, by rw [H3.out]; rfl⟩
         simp only [Act.put])
  refine SeqP.last rfl (fun w9 h9 => ?_)
  obtain rfl : W3 = w9 := Option.some.inj h9
  go_wp2
  go_ret
  rw [EV.out.1, EV.out.2]
  exact ⟨U', rfl, T3.out, O3.out, Z3.out⟩
end Go.Proofs.YthobolmedppneaaGreat

