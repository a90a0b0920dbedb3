/- What stands between stmt.Read's calls. -/
import Derived.Test.YtpbomfhlghljdaaGreatDoorStRdS
import Derived.Test.YtpbomfhlghljdaaGreatDoorStDyn
import Derived.WalkMore
import Derived.Laws.EntriesVeiled
namespace Go.Proofs.YtpbomfhlghljdaaGreatDoor
open Go.RowKit

theorem new_sz (row kind : Int) : LvSz (LV.new row kind) := ⟨⟨vo_t, vo_t, vo_t, vo_t, vo_t⟩, ⟨vo_l.1, vo_l.1, vo_l.1, vo_l.1⟩⟩
theorem alloc_fields (ρ : Operand → Value) (o : Oper) (ho : o.op = .alloc 44) (w : World) :
    (execOp ρ o).run Tryz.prog w = .ok (.value (.pointer (some ⟨w.heap.size, 0, none⟩))) (w.alloc (.cells #[.int .i64 0, .int .i64 0, .string ⟨#[]⟩, .string ⟨#[]⟩, .string ⟨#[]⟩, .string ⟨#[]⟩, .string ⟨#[]⟩, .int .u64 0, .int .u32 0, .int .i64 0, .int .i64 0, .int .i64 0, .int .i64 0, .slice none 0 0, .slice none 0 0, .slice none 0 0, .slice none 0 0] 44)) := by
  unfold execOp
  rw [ho]
  simp [Instr.alloc, newVar, newRow, go_sem]
theorem fields_size : (Tryz.prog.info? 44).map (·.size) = some 17 := by kernel_rfl
/-- a new box of fields, and a line stored into it -/
theorem wpList_newfields {ops : Array Oper} {rest : List Oper} {o1 o2 : Oper} {a : Act} {w : World} {Q : Exit → Act → World → Prop} (hg1 : o1.guard = none) (ho1 : o1.op = .alloc 44) (hg2 : o2.guard = none) (x y : Operand) (ho2 : o2.op = .store 44 x y)
    (hx : (a.put o1.dst (.pointer (some ⟨w.heap.size, 0, none⟩))).eval x = .pointer (some ⟨w.heap.size, 0, none⟩)) (L : LV) (s1 s2 s3 s4 : SlV) (hy : (a.put o1.dst (.pointer (some ⟨w.heap.size, 0, none⟩))).eval y = lineV L s1 s2 s3 s4)
    (h : ∀ w9, BoxF w9 w.heap.size 17 (lc L s1 s2 s3 s4) → Below w.heap.size w w9 → w.heap.size < w9.heap.size → wpList Tryz.prog ops Q rest ((a.put o1.dst (.pointer (some ⟨w.heap.size, 0, none⟩))).put o2.dst undef) w9) : wpList Tryz.prog ops Q (o1 :: o2 :: rest) a w := by
  obtain ⟨C, hC⟩ : ∃ C, lineV L s1 s2 s3 s4 = .agg C := ⟨_, rfl⟩
  have hs : C.size = 17 := by injection hC with hC; subst hC; rfl
  have h1 : C.all (·.oneCell') = true := by injection hC with hC; subst hC; simp [Value.oneCell']
  have hb := zero_box w 44
  refine Great.wpList_runTo hg1 o1.dst rfl _ _ (alloc_fields _ o1 ho1 w) (wpList_put hg2 44 x y ho2 w.heap.size hx C (hy.trans hC) (fun j hj => by rw [hb.1 j (by omega)]; rfl) hb.2 (by rw [hs]; exact fields_size) h1 fun w9 h2 h3 h4 => ?_)
  exact h w9 ⟨fun j hj => h2 j _ (lc_list L s1 s2 s3 s4 j hj C hC), h3⟩ (Below.ex ((Below.refl _ _).alloc (Nat.le_refl _) _) h4 (Nat.le_refl _) (by simp)) (Nat.lt_of_lt_of_le (by simp) h4.size)
/-- the loop begins -/
theorem rd_start {w wa w9 w1 : World} {row kind : Int} {ps : List (Nat × Nat)} {A : Option Addr} {n c : Nat} (hw : Below w.heap.size w wa) (hx : BoxF w9 (w.heap.size + 1) 17 (lc (LV.new row kind) SlV.nil SlV.nil SlV.nil SlV.nil)) (h9 : Below (w.heap.size + 1) wa w9) (hl : w.heap.size + 1 < w9.heap.size)
    (hb1 : Below w9.heap.size w9 w1) (hps : PSl w1 (w.heap.size + 1) A n c ps) (hpa : ∀ ad, A = some ad → w9.heap.size ≤ ad.block) : RdS w (w.heap.size + 1) ps A n c (LV.new row kind) SlV.nil SlV.nil SlV.nil SlV.nil w1 := by
  have hn : ∀ q, OffP q SlV.nil := fun q ad e => by cases e
  refine ⟨by omega, by have := hb1.size; omega, hx.below (by omega) hb1, ⟨ISl.nil, ISl.nil, ISl.nil, ISl.nil⟩, hn _, hn _, hn _, hn _, hps, fun ad e => by have := hpa ad e; omega, ?_, new_sz _ _⟩
  exact (hw.trans (h9.mono (by omega))).trans (hb1.mono (by omega))
theorem rd_sz (w : World) (o : Obj) : (w.alloc o).heap.size = w.heap.size + 1 := by simp
theorem vbox {wr w2 : World} {o : Obj} {T : TypeId} (hb : Below ((wr.alloc o).alloc (.cells #[.string ⟨#[]⟩, .int .i64 0, .int .u64 0, .int .u32 0, .slice none 0 0, .slice none 0 0] T)).drew.heap.size ((wr.alloc o).alloc (.cells #[.string ⟨#[]⟩, .int .i64 0, .int .u64 0, .int .u32 0, .slice none 0 0, .slice none 0 0] T)).drew w2) :
    BoxF w2 (wr.heap.size + 1) 6 (vc WV.zero SlV.nil SlV.nil) := by
  have hs : wr.heap.size + 1 < ((wr.alloc o).alloc (.cells #[.string ⟨#[]⟩, .int .i64 0, .int .u64 0, .int .u32 0, .slice none 0 0, .slice none 0 0] T)).heap.size := by simp
  have B : BoxF ((wr.alloc o).alloc (.cells #[.string ⟨#[]⟩, .int .i64 0, .int .u64 0, .int .u32 0, .slice none 0 0, .slice none 0 0] T)).drew (wr.heap.size + 1) 6 (vc WV.zero SlV.nil SlV.nil) := by
    have := (SV.start (wr.alloc o) T).box
    rw [rd_sz] at this
    exact this
  exact B.below (by omega) hb
/-- a value's box beside the line's, where it was made ahead of the call .. -/
theorem RdS.fvA {w wr w2 : World} {p : Nat} {ps : List (Nat × Nat)} {A : Option Addr} {n c : Nat} {L : LV} {s1 s2 s3 s4 : SlV} (h : RdS w p ps A n c L s1 s2 s3 s4 wr) {V : WV} {t1 t2 : SlV} {o : Obj} {T : TypeId}
    (hb : Below ((wr.alloc o).alloc (.cells #[.string ⟨#[]⟩, .int .i64 0, .int .u64 0, .int .u32 0, .slice none 0 0, .slice none 0 0] T)).drew.heap.size ((wr.alloc o).alloc (.cells #[.string ⟨#[]⟩, .int .i64 0, .int .u64 0, .int .u32 0, .slice none 0 0, .slice none 0 0] T)).drew w2)
    (hv : VRead w2 V t1 t2) (p1 : ∀ ad, t1.A = some ad → ((wr.alloc o).alloc (.cells #[.string ⟨#[]⟩, .int .i64 0, .int .u64 0, .int .u32 0, .slice none 0 0, .slice none 0 0] T)).drew.heap.size ≤ ad.block) (p2 : ∀ ad, t2.A = some ad → ((wr.alloc o).alloc (.cells #[.string ⟨#[]⟩, .int .i64 0, .int .u64 0, .int .u32 0, .slice none 0 0, .slice none 0 0] T)).drew.heap.size ≤ ad.block) :
    RdS w p ps A n c L s1 s2 s3 s4 ((((((w2.setCell ⟨wr.heap.size + 1, 0, none⟩ (.string (str V.text))).setCell ⟨wr.heap.size + 1, 1, none⟩ (.int .i64 V.n)).setCell ⟨wr.heap.size + 1, 2, none⟩ (.int .u64 V.mac)).setCell ⟨wr.heap.size + 1, 3, none⟩ (.int .u32 V.addr)).setCell ⟨wr.heap.size + 1, 4, none⟩ (.slice t1.A t1.n t1.c)).setCell ⟨wr.heap.size + 1, 5, none⟩ (.slice t2.A t2.n t2.c)) ∧
    FV ((((((w2.setCell ⟨wr.heap.size + 1, 0, none⟩ (.string (str V.text))).setCell ⟨wr.heap.size + 1, 1, none⟩ (.int .i64 V.n)).setCell ⟨wr.heap.size + 1, 2, none⟩ (.int .u64 V.mac)).setCell ⟨wr.heap.size + 1, 3, none⟩ (.int .u32 V.addr)).setCell ⟨wr.heap.size + 1, 4, none⟩ (.slice t1.A t1.n t1.c)).setCell ⟨wr.heap.size + 1, 5, none⟩ (.slice t2.A t2.n t2.c)) p (wr.heap.size + 1) L s1 s2 s3 s4 V t1 t2 ∧ Below wr.heap.size wr ((((((w2.setCell ⟨wr.heap.size + 1, 0, none⟩ (.string (str V.text))).setCell ⟨wr.heap.size + 1, 1, none⟩ (.int .i64 V.n)).setCell ⟨wr.heap.size + 1, 2, none⟩ (.int .u64 V.mac)).setCell ⟨wr.heap.size + 1, 3, none⟩ (.int .u32 V.addr)).setCell ⟨wr.heap.size + 1, 4, none⟩ (.slice t1.A t1.n t1.c)).setCell ⟨wr.heap.size + 1, 5, none⟩ (.slice t2.A t2.n t2.c)) ∧ wr.heap.size ≤ wr.heap.size + 1 := by
  have hs : ((wr.alloc o).alloc (.cells #[.string ⟨#[]⟩, .int .i64 0, .int .u64 0, .int .u32 0, .slice none 0 0, .slice none 0 0] T)).drew.heap.size = wr.heap.size + 2 := by show ((wr.alloc o).alloc _).heap.size = _; rw [rd_sz, rd_sz]
  have vb := vbox hb
  have B0 : Below wr.heap.size wr w2 := by
    have b1 : Below wr.heap.size wr ((wr.alloc o).alloc (.cells #[.string ⟨#[]⟩, .int .i64 0, .int .u64 0, .int .u32 0, .slice none 0 0, .slice none 0 0] T)) := two_alloc wr _ _
    have b2 : Below wr.heap.size wr ((wr.alloc o).alloc (.cells #[.string ⟨#[]⟩, .int .i64 0, .int .u64 0, .int .u32 0, .slice none 0 0, .slice none 0 0] T)).drew := ⟨b1.os, b1.tape, b1.output, b1.size, b1.block⟩
    exact b2.trans (hb.mono (by rw [hs]; omega))
  rw [hs] at p1 p2 hb
  have B6 : Below wr.heap.size wr ((((((w2.setCell ⟨wr.heap.size + 1, 0, none⟩ (.string (str V.text))).setCell ⟨wr.heap.size + 1, 1, none⟩ (.int .i64 V.n)).setCell ⟨wr.heap.size + 1, 2, none⟩ (.int .u64 V.mac)).setCell ⟨wr.heap.size + 1, 3, none⟩ (.int .u32 V.addr)).setCell ⟨wr.heap.size + 1, 4, none⟩ (.slice t1.A t1.n t1.c)).setCell ⟨wr.heap.size + 1, 5, none⟩ (.slice t2.A t2.n t2.c)) :=
    (((((B0.setCell (Nat.le_succ _) _).setCell (Nat.le_succ _) _).setCell (Nat.le_succ _) _).setCell (Nat.le_succ _) _).setCell (Nat.le_succ _) _).setCell (Nat.le_succ _) _
  have key : ∀ (k : IntKind) (s : SlV) (xs : List Int), ISl w2 k s.A s.n s.c xs → (∀ ad, s.A = some ad → wr.heap.size + 2 ≤ ad.block) → ISl ((((((w2.setCell ⟨wr.heap.size + 1, 0, none⟩ (.string (str V.text))).setCell ⟨wr.heap.size + 1, 1, none⟩ (.int .i64 V.n)).setCell ⟨wr.heap.size + 1, 2, none⟩ (.int .u64 V.mac)).setCell ⟨wr.heap.size + 1, 3, none⟩ (.int .u32 V.addr)).setCell ⟨wr.heap.size + 1, 4, none⟩ (.slice t1.A t1.n t1.c)).setCell ⟨wr.heap.size + 1, 5, none⟩ (.slice t2.A t2.n t2.c)) k s.A s.n s.c xs := fun k s xs hi ho => by
    have oo : ∀ ad, s.A = some ad → 0 < s.n → ad.block ≠ wr.heap.size + 1 := fun ad e _ => by have := ho ad e; omega
    exact (((((hi.setOff2 oo).setOff2 oo).setOff2 oo).setOff2 oo).setOff2 oo).setOff2 oo
  have R6 := h.keep B6
  have hlt : p < wr.heap.size := h.pl
  have off : ∀ (k : IntKind) (s : SlV) (xs : List Int), ISl wr k s.A s.n s.c xs → OffP (wr.heap.size + 1) s := fun k s xs hi ad e e2 => by have := lt_isl hi ad e e2; omega
  exact ⟨R6, R6.fv (by omega) (val_stored vb V t1 t2) ⟨key _ _ _ hv.1 p1, key _ _ _ hv.2 p2⟩ (off _ _ _ h.rd.1) (off _ _ _ h.rd.2.1) (off _ _ _ h.rd.2.2.1) (off _ _ _ h.rd.2.2.2) (fun ad e _ => by have := p1 ad e; omega) (fun ad e _ => by have := p2 ad e; omega), B6, Nat.le_succ _⟩
/-- .. or behind it -/
theorem RdS.fvB {w wr w2 : World} {p : Nat} {ps : List (Nat × Nat)} {A : Option Addr} {n c : Nat} {L : LV} {s1 s2 s3 s4 : SlV} (h : RdS w p ps A n c L s1 s2 s3 s4 wr) {V : WV} {t1 t2 : SlV} {o : Obj} {T : TypeId}
    (hb : Below (wr.alloc o).drew.heap.size (wr.alloc o).drew w2) (hv : VRead w2 V t1 t2) (p1 : ∀ ad, t1.A = some ad → (wr.alloc o).drew.heap.size ≤ ad.block) (p2 : ∀ ad, t2.A = some ad → (wr.alloc o).drew.heap.size ≤ ad.block) :
    RdS w p ps A n c L s1 s2 s3 s4 (w2.alloc (.cells #[.string (str V.text), .int .i64 V.n, .int .u64 V.mac, .int .u32 V.addr, .slice t1.A t1.n t1.c, .slice t2.A t2.n t2.c] T)) ∧
    FV (w2.alloc (.cells #[.string (str V.text), .int .i64 V.n, .int .u64 V.mac, .int .u32 V.addr, .slice t1.A t1.n t1.c, .slice t2.A t2.n t2.c] T)) p w2.heap.size L s1 s2 s3 s4 V t1 t2 ∧ Below wr.heap.size wr (w2.alloc (.cells #[.string (str V.text), .int .i64 V.n, .int .u64 V.mac, .int .u32 V.addr, .slice t1.A t1.n t1.c, .slice t2.A t2.n t2.c] T)) ∧ wr.heap.size ≤ w2.heap.size := by
  have hs : (wr.alloc o).drew.heap.size = wr.heap.size + 1 := by show (wr.alloc o).heap.size = _; rw [rd_sz]
  have B0 : Below wr.heap.size wr w2 := by
    have b1 : Below wr.heap.size wr (wr.alloc o) := below_box2 wr _
    have b2 : Below wr.heap.size wr (wr.alloc o).drew := ⟨b1.os, b1.tape, b1.output, b1.size, b1.block⟩
    exact b2.trans (hb.mono (by rw [hs]; omega))
  have R2 := h.keep B0
  have R6 := R2.keep (below_box2 w2 (.cells #[.string (str V.text), .int .i64 V.n, .int .u64 V.mac, .int .u32 V.addr, .slice t1.A t1.n t1.c, .slice t2.A t2.n t2.c] T))
  rw [hs] at p1 p2
  have hlt : p < wr.heap.size := h.pl
  have hsz := B0.size
  have off : ∀ (k : IntKind) (s : SlV) (xs : List Int), ISl w2 k s.A s.n s.c xs → OffP w2.heap.size s := fun k s xs hi ad e e2 => by have := lt_isl hi ad e e2; omega
  exact ⟨R6, R6.fv (by omega) (val_new w2 V t1 t2 T) ⟨hv.1.alloc _, hv.2.alloc _⟩ (off _ _ _ R2.rd.1) (off _ _ _ R2.rd.2.1) (off _ _ _ R2.rd.2.2.1) (off _ _ _ R2.rd.2.2.2) (fun ad e e2 => ⟨by have := p1 ad e; omega, by have := lt_isl hv.1 ad e e2; omega⟩) (fun ad e e2 => ⟨by have := p2 ad e; omega, by have := lt_isl hv.2 ad e e2; omega⟩), B0.trans ((below_box2 w2 _).mono hsz), hsz⟩
theorem lds_drew {W : World} (h : Lds W) : Lds W.drew := h
theorem said_form {k : Nat} {s : List UInt8} {V : WV} {sb : Bool} (hk : k < 13) (hs : s.length ≤ 1000000) (hV : saidV k s = V) (hb : saidB k s = sb) : ∀ w, Lds w → Calls Tryz.prog 17 #[.int .i64 (k : Int), .string (str s)] w fun e w' =>
    ∃ t1 t2 : SlV, e = .returned (.tuple #[.agg #[.string (str V.text), .int .i64 V.n, .int .u64 V.mac, .int .u32 V.addr, .slice t1.A t1.n t1.c, .slice t2.A t2.n t2.c], .bool sb]) ∧ VRead w' V t1 t2 ∧ Below w.heap.size w w' ∧ (∀ ad, t1.A = some ad → w.heap.size ≤ ad.block) ∧ ∀ ad, t2.A = some ad → w.heap.size ≤ ad.block := by
  subst hV hb
  exact fun w hl => said_any k hk s w hs hl
theorem BoxF.ex2 {w w' : World} {p q b n : Nat} {f : Nat → Value} (h : BoxF w b n f) (hn : 0 < n) (g : Ex2 p q w w') (hp : b ≠ p) (hq : b ≠ q) : BoxF w' b n f :=
  h.same (fun o => g.cell o (h.lt hn) hp hq) (fun o => g.frozen o (h.lt hn) hp hq)
set_option maxRecDepth 20000 in
set_option maxHeartbeats 2000000 in
theorem cread_results (tmps : Array Value) (w : World) (q : Nat) (E : Int) (L : LV) (s1 s2 s3 s4 : SlV) (h4 : tmps[4]?.getD undef = .pointer (some ⟨q, 0, none⟩)) (h5 : tmps[5]?.getD undef = .int .i64 E) (hb : BoxF w q 17 (lc L s1 s2 s3 s4)) :
    (results Tryz.f7 tmps).run Tryz.prog w = .ok (.tuple #[lineV L s1 s2 s3 s4, .int .i64 E]) w := by
  have t0 : w.cell? ⟨q, 0, none⟩ = some (.int .i64 L.row) := hb.cell 0 (by omega)
  have t1 : w.cell? ⟨q, 1, none⟩ = some (.int .i64 L.kind) := hb.cell 1 (by omega)
  have t2 : w.cell? ⟨q, 2, none⟩ = some (.string (str L.dev)) := hb.cell 2 (by omega)
  have t3 : w.cell? ⟨q, 3, none⟩ = some (.string (str L.port)) := hb.cell 3 (by omega)
  have t4 : w.cell? ⟨q, 4, none⟩ = some (.string (str L.peer)) := hb.cell 4 (by omega)
  have t5 : w.cell? ⟨q, 5, none⟩ = some (.string (str L.far)) := hb.cell 5 (by omega)
  have t6 : w.cell? ⟨q, 6, none⟩ = some (.string (str L.name)) := hb.cell 6 (by omega)
  have t7 : w.cell? ⟨q, 7, none⟩ = some (.int .u64 L.mac) := hb.cell 7 (by omega)
  have t8 : w.cell? ⟨q, 8, none⟩ = some (.int .u32 L.addr) := hb.cell 8 (by omega)
  have t9 : w.cell? ⟨q, 9, none⟩ = some (.int .i64 L.bits) := hb.cell 9 (by omega)
  have t10 : w.cell? ⟨q, 10, none⟩ = some (.int .i64 L.vlan) := hb.cell 10 (by omega)
  have t11 : w.cell? ⟨q, 11, none⟩ = some (.int .i64 L.num) := hb.cell 11 (by omega)
  have t12 : w.cell? ⟨q, 12, none⟩ = some (.int .i64 L.cost) := hb.cell 12 (by omega)
  have t13 : w.cell? ⟨q, 13, none⟩ = some (.slice s1.A s1.n s1.c) := hb.cell 13 (by omega)
  have t14 : w.cell? ⟨q, 14, none⟩ = some (.slice s2.A s2.n s2.c) := hb.cell 14 (by omega)
  have t15 : w.cell? ⟨q, 15, none⟩ = some (.slice s3.A s3.n s3.c) := hb.cell 15 (by omega)
  have t16 : w.cell? ⟨q, 16, none⟩ = some (.slice s4.A s4.n s4.c) := hb.cell 16 (by omega)
  clear hb
  simp [results, Tryz.results7, go_sem, h4, h5, t0, t1, t2, t3, t4, t5, t6, t7, t8, t9, t10, t11, t12, t13, t14, t15, t16, lineV]
theorem cd_of {ws : List (List UInt8)} {row : Int} (h : ¬ (ws = [] ∨ ptW ws = [] ∨ ws.length ≠ 1 + (ptW ws).length)) : cdE ws row = if (rnC ws row).1 = 0 then (if apB (rnC ws row).2 = true then 0 else 21) else (rnC ws row).1 := by
  unfold cdE
  rw [if_neg h]
/-- a zero line, as a call returns it */ -/
theorem got_zero {w w' : World} {E : Int} (h : Below w.heap.size w w') : GotLine w LV.zero E (.returned (.tuple #[lineV LV.zero SlV.nil SlV.nil SlV.nil SlV.nil, .int .i64 E])) w' := ⟨_, _, _, _, rfl, LRead.zero, LNew.nil _, h⟩
end Go.Proofs.YtpbomfhlghljdaaGreatDoor
