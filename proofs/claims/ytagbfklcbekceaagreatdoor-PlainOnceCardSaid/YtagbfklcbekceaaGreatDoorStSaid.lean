/- What a word says: the contract of stmt.said (made by mk-stsaid.py). -/
import Derived.Test.YtagbfklcbekceaaGreatDoorStSmall
import Derived.RegionTactic
namespace Go.Proofs.YtagbfklcbekceaaGreatDoor
open Go.RowKit

/-- a value in a box, its lists elsewhere; what was there is as it was -/
structure SV (w : World) (q : Nat) (V : WV) (t1 t2 : SlV) (wx : World) : Prop where
  box : BoxF wx q 6 (vc V t1 t2)
  rd : VRead wx V t1 t2
  o1 : ∀ ad, t1.A = some ad → w.heap.size ≤ ad.block ∧ ad.block ≠ q
  o2 : ∀ ad, t2.A = some ad → w.heap.size ≤ ad.block ∧ ad.block ≠ q
  bel : Below w.heap.size w wx
  qle : w.heap.size ≤ q
theorem ISl.setOff {w : World} {k : IntKind} {A : Option Addr} {n c q j : Nat} {xs : List Int} {v : Value} (h : ISl w k A n c xs) (ho : ∀ ad, A = some ad → ad.block ≠ q) : ISl (w.setCell ⟨q, j, none⟩ v) k A n c xs := by
  refine ⟨h.1, h.2.1, h.2.2.1, fun hn => ?_⟩
  obtain ⟨b, off, e, hb, hc⟩ := h.2.2.2 hn
  have h2 := ho _ e
  refine ⟨b, off, e, by simpa using hb, fun i hi => ?_⟩
  rw [World.cell?_setCell_other _ _ _ _ (by intro e1; injection e1 with e2 _; exact h2 e2.symm)]
  exact hc i hi
section
variable {w wx : World} {q : Nat} {V U : WV} {t1 t2 u1 u2 : SlV}
theorem SV.put (h : SV w q V t1 t2 wx) (j : Nat) (v : Value) (hj : j < 6) (e : ∀ i, i < 6 → (if i = j then v else vc V t1 t2 i) = vc U u1 u2 i) (hr : VRead wx U u1 u2)
    (o1 : ∀ ad, u1.A = some ad → w.heap.size ≤ ad.block ∧ ad.block ≠ q) (o2 : ∀ ad, u2.A = some ad → w.heap.size ≤ ad.block ∧ ad.block ≠ q) : SV w q U u1 u2 (wx.setCell ⟨q, j, none⟩ v) :=
  ⟨(h.box.set j hj v).is e, ⟨hr.1.setOff fun ad he => (o1 ad he).2, hr.2.setOff fun ad he => (o2 ad he).2⟩, o1, o2, h.bel.setCell h.qle v, h.qle⟩
theorem SV.keep {w2 : World} (h : SV w q V t1 t2 wx) (hb : Below wx.heap.size wx w2) : SV w q V t1 t2 w2 :=
  ⟨h.box.below (by omega) hb, ⟨h.rd.1.below hb, h.rd.2.below hb⟩, h.o1, h.o2, h.bel.trans (hb.mono h.bel.size), h.qle⟩
theorem SV.drew (h : SV w q V t1 t2 wx) : SV w q V t1 t2 wx.drew := ⟨h.box, h.rd, h.o1, h.o2, ⟨h.bel.os, h.bel.tape, h.bel.output, h.bel.size, h.bel.block⟩, h.qle⟩
theorem SV.cells (h : SV w q V t1 t2 wx) : wx.cell? ⟨q, 0, none⟩ = some (.string (str V.text)) ∧ wx.cell? ⟨q, 1, none⟩ = some (.int .i64 V.n) ∧ wx.cell? ⟨q, 2, none⟩ = some (.int .u64 V.mac) ∧ wx.cell? ⟨q, 3, none⟩ = some (.int .u32 V.addr) ∧ wx.cell? ⟨q, 4, none⟩ = some (.slice t1.A t1.n t1.c) ∧ wx.cell? ⟨q, 5, none⟩ = some (.slice t2.A t2.n t2.c) ∧ ∀ o, wx.frozen? ⟨q, o, none⟩ = false :=
  ⟨h.box.cell 0 (by omega), h.box.cell 1 (by omega), h.box.cell 2 (by omega), h.box.cell 3 (by omega), h.box.cell 4 (by omega), h.box.cell 5 (by omega), h.box.2⟩
end
theorem SV.start (w : World) (T : TypeId) : SV w w.heap.size WV.zero SlV.nil SlV.nil (w.alloc (.cells #[.string ⟨#[]⟩, .int .i64 0, .int .u64 0, .int .u32 0, .slice none 0 0, .slice none 0 0] T)) := by
  refine ⟨⟨fun j hj => ?_, fun o => by simp⟩, ⟨ISl.nil, ISl.nil⟩, fun ad h => (by cases h), fun ad h => (by cases h), (Below.refl _ _).alloc (Nat.le_refl _) _, Nat.le_refl _⟩
  match j, hj with
  | 0, _ | 1, _ | 2, _ | 3, _ | 4, _ | 5, _ => simp [vc, WV.zero, SlV.nil, SlV.val, str]
  | j + 6, h => exact absurd h (by omega)
def GotSaid (k : Nat) (s : List UInt8) (w : World) (e : Ending) (w' : World) : Prop :=
  ∃ t1 t2, e = .returned (.tuple #[valV (saidV k s) t1 t2, .bool (saidB k s)]) ∧ VRead w' (saidV k s) t1 t2 ∧ Below w.heap.size w w' ∧ (∀ ad, t1.A = some ad → w.heap.size ≤ ad.block) ∧ ∀ ad, t2.A = some ad → w.heap.size ≤ ad.block
set_option maxRecDepth 20000 in
theorem said_results (tmps : Array Value) (w : World) (q : Nat) (b : Bool) (V : WV) (t1 t2 : SlV) (h4 : tmps[4]?.getD undef = .pointer (some ⟨q, 0, none⟩)) (h5 : tmps[5]?.getD undef = .bool b) (hb : BoxF w q 6 (vc V t1 t2)) :
    (results Tryz.f35 tmps).run Tryz.prog w = .ok (.tuple #[valV V t1 t2, .bool b]) w := by
  have c0 : w.cell? ⟨q, 0, none⟩ = some (.string (str V.text)) := hb.cell 0 (by omega)
  have c1 : w.cell? ⟨q, 1, none⟩ = some (.int .i64 V.n) := hb.cell 1 (by omega)
  have c2 : w.cell? ⟨q, 2, none⟩ = some (.int .u64 V.mac) := hb.cell 2 (by omega)
  have c3 : w.cell? ⟨q, 3, none⟩ = some (.int .u32 V.addr) := hb.cell 3 (by omega)
  have c4 : w.cell? ⟨q, 4, none⟩ = some (.slice t1.A t1.n t1.c) := hb.cell 4 (by omega)
  have c5 : w.cell? ⟨q, 5, none⟩ = some (.slice t2.A t2.n t2.c) := hb.cell 5 (by omega)
  clear hb
  simp [results, Tryz.results35, go_sem, h4, h5, c0, c1, c2, c3, c4, c5, valV]
theorem SV.self6 {w wx : World} {q : Nat} {V : WV} {t1 t2 : SlV} (h : SV w q V t1 t2 wx) : SV w q V t1 t2 ((((((wx.setCell ⟨q, 0, none⟩ (.string (str V.text))).setCell ⟨q, 1, none⟩ (.int .i64 V.n)).setCell ⟨q, 2, none⟩ (.int .u64 V.mac)).setCell ⟨q, 3, none⟩ (.int .u32 V.addr)).setCell ⟨q, 4, none⟩ (.slice t1.A t1.n t1.c)).setCell ⟨q, 5, none⟩ (.slice t2.A t2.n t2.c)) := by
  have E : ∀ j, j < 6 → ∀ i, i < 6 → (if i = j then vc V t1 t2 j else vc V t1 t2 i) = vc V t1 t2 i := fun j _ i _ => by
    by_cases e : i = j
    · rw [if_pos e, e]
    · rw [if_neg e]
  have h0 := h.put 0 (vc V t1 t2 0) (by omega) (E 0 (by omega)) h.rd h.o1 h.o2
  have h1 := h0.put 1 (vc V t1 t2 1) (by omega) (E 1 (by omega)) h0.rd h.o1 h.o2
  have h2 := h1.put 2 (vc V t1 t2 2) (by omega) (E 2 (by omega)) h1.rd h.o1 h.o2
  have h3 := h2.put 3 (vc V t1 t2 3) (by omega) (E 3 (by omega)) h2.rd h.o1 h.o2
  have h4 := h3.put 4 (vc V t1 t2 4) (by omega) (E 4 (by omega)) h3.rd h.o1 h.o2
  exact h4.put 5 (vc V t1 t2 5) (by omega) (E 5 (by omega)) h4.rd h.o1 h.o2
theorem val_desc : ∃ d, Tryz.prog.underlying 77 = some d ∧ d.isRow = true := ⟨_, Tryz.underlying77, rfl⟩
theorem val_size : (Tryz.prog.info? 77).map (·.size) = some 6 := by kernel_rfl
def valC (V : WV) (t1 t2 : SlV) : List Value := [.string (str V.text), .int .i64 V.n, .int .u64 V.mac, .int .u32 V.addr, .slice t1.A t1.n t1.c, .slice t2.A t2.n t2.c]
theorem valC_at (V : WV) (t1 t2 : SlV) (j : Nat) (v : Value) (h : (valC V t1 t2)[j]? = some v) : j < 6 ∧ v = vc V t1 t2 j := by
  match j with
  | 0 | 1 | 2 | 3 | 4 | 5 => exact ⟨by omega, by cases h; rfl⟩
  | j + 6 => cases h
theorem BoxF.rangeV {w : World} {q : Nat} {V : WV} {t1 t2 : SlV} (h : BoxF w q 6 (vc V t1 t2)) : w.rangeAt q 0 (valC V t1 t2) := fun j v hv => by
  obtain ⟨h1, rfl⟩ := valC_at V t1 t2 j v hv
  rw [Nat.zero_add]
  exact h.1 j h1
/-- a value loaded whole, in a region that draws its order -/
theorem step_val {w wx : World} {q : Nat} {V : WV} {t1 t2 : SlV} {ρ : Operand → Value} {o : Oper} {x : Operand} (h : SV w q V t1 t2 wx) (ho : o.op = .load 77 x) (hx : ρ x = .pointer (some ⟨q, 0, none⟩)) :
    StepRun Tryz.prog (SV w q V t1 t2) (valV V t1 t2) ((execOp ρ o).run Tryz.prog wx) := by
  obtain ⟨d, hd1, hd2⟩ := val_desc
  unfold execOp
  simp only [ho, hx, Instr.loadAt, Instr.sureAddr, Sem.run_bind, Sem.run_pure, Result.andThen_ok, run_loadVar_mid wx q 0 77 (valC V t1 t2) d h.box.rangeV hd1 hd2 val_size]
  exact ⟨rfl, h⟩
/-- .. stored as it was -/
theorem step_valput {w wx : World} {q : Nat} {V : WV} {t1 t2 : SlV} {ρ : Operand → Value} {o : Oper} {x y : Operand} (h : SV w q V t1 t2 wx) (ho : o.op = .store 77 x y) (hx : ρ x = .pointer (some ⟨q, 0, none⟩)) (hy : ρ y = valV V t1 t2) :
    StepRun Tryz.prog (SV w q V t1 t2) undef ((execOp ρ o).run Tryz.prog wx) := by
  have ht : wx.there q 0 (valC V t1 t2).toArray.size := there_all (fun j hj => by rw [h.box.1 j hj]; rfl) h.box.2
  unfold execOp
  simp only [ho, hx, show ρ y = .agg (valC V t1 t2).toArray from hy, Instr.storeAt, Instr.sureAddr, Sem.run_bind, Sem.run_pure, Result.andThen_ok, run_storeVar_mid wx q 0 77 (valC V t1 t2).toArray ht val_size (by simp [valC, Value.oneCell'])]
  exact ⟨rfl, h.self6⟩
theorem vo_t : ([] : List UInt8).length ≤ 1000000 := by decide
theorem vo_m : (0 : Int) ≤ 0 ∧ (0 : Int) < 281474976710656 := by decide
theorem vo_a : (0 : Int) ≤ 0 ∧ (0 : Int) < 4294967296 := by decide
theorem vo_l : ([] : List Int).length ≤ 1000000 ∧ ([] : List Int).length ≤ 1000000 := by decide
theorem vok_text {s : List UInt8} (h : s.length ≤ 1000000) : VOk { WV.zero with text := s } := ⟨h, vo_m, vo_a, vo_l⟩
theorem vok_n (x : Int) : VOk { WV.zero with n := x } := ⟨vo_t, vo_m, vo_a, vo_l⟩
theorem vok_mac (s : List UInt8) : VOk { WV.zero with mac := mcV s } := ⟨vo_t, shMac_bd s, vo_a, vo_l⟩
theorem vok_addr (s : List UInt8) : VOk { WV.zero with addr := rdV s } := ⟨vo_t, vo_m, ⟨(shAddr_bd s).1, by have := (shAddr_bd s).2; show rdV s < _; omega⟩, vo_l⟩
theorem vok_pf (s : List UInt8) : VOk { WV.zero with addr := paV s, n := pbV s } := ⟨vo_t, vo_m, ⟨(shPf_bd s).1.1, by have := (shPf_bd s).1.2; show paV s < _; omega⟩, vo_l⟩
theorem ris_len2 {xs : List Int} {lo hi : Int} (h : risIn xs lo hi = true) : xs.length ≤ 1000000 := by
  unfold risIn at h
  rw [Bool.and_eq_true] at h
  have := ((risB_iff xs).1 h.1).2.1
  omega
theorem vok_list {s : List UInt8} {hi : Int} (h : lsB (rdI 1 hi) s = true) : VOk { WV.zero with list := lsV (rdI 1 hi) s } := ⟨vo_t, vo_m, vo_a, ⟨ris_len2 (ls_ris h), Nat.zero_le _⟩⟩
theorem vok_addrs {s : List UInt8} (h : lsB rdA s = true) : VOk { WV.zero with addrs := lsV rdA s } := ⟨vo_t, vo_m, vo_a, ⟨Nat.zero_le _, ris_len2 (lsA_ris h)⟩⟩
theorem SV.off {w wx : World} {p q j : Nat} {V : WV} {t1 t2 : SlV} {v : Value} (h : SV w q V t1 t2 wx) (hp : q ≠ p) (hw : w.heap.size ≤ p) (o1 : ∀ ad, t1.A = some ad → ad.block ≠ p) (o2 : ∀ ad, t2.A = some ad → ad.block ≠ p) : SV w q V t1 t2 (wx.setCell ⟨p, j, none⟩ v) :=
  ⟨h.box.off hp, ⟨h.rd.1.setOff o1, h.rd.2.setOff o2⟩, h.o1, h.o2, h.bel.setCell hw v, h.qle⟩
theorem SV.starts (x : List UInt8) (w : World) (T : TypeId) : SV w w.heap.size { WV.zero with text := x } SlV.nil SlV.nil (w.alloc (.cells #[.string (str x), .int .i64 0, .int .u64 0, .int .u32 0, .slice none 0 0, .slice none 0 0] T)) := by
  refine ⟨⟨fun j hj => ?_, fun o => by simp⟩, ⟨ISl.nil, ISl.nil⟩, fun ad h => (by cases h), fun ad h => (by cases h), (Below.refl _ _).alloc (Nat.le_refl _) _, Nat.le_refl _⟩
  match j, hj with
  | 0, _ | 1, _ | 2, _ | 3, _ | 4, _ | 5, _ => simp [vc, WV.zero, SlV.nil, SlV.val]
  | j + 6, h => exact absurd h (by omega)
theorem SV.startm (m : Int) (w : World) (T : TypeId) : SV w w.heap.size { WV.zero with mac := m } SlV.nil SlV.nil (w.alloc (.cells #[.string ⟨#[]⟩, .int .i64 0, .int .u64 m, .int .u32 0, .slice none 0 0, .slice none 0 0] T)) := by
  refine ⟨⟨fun j hj => ?_, fun o => by simp⟩, ⟨ISl.nil, ISl.nil⟩, fun ad h => (by cases h), fun ad h => (by cases h), (Below.refl _ _).alloc (Nat.le_refl _) _, Nat.le_refl _⟩
  match j, hj with
  | 0, _ | 1, _ | 2, _ | 3, _ | 4, _ | 5, _ => simp [vc, WV.zero, SlV.nil, SlV.val, str]
  | j + 6, h => exact absurd h (by omega)
theorem pbox {w w1 : World} {o : Obj} {T : TypeId} (hb : Below ((w.alloc o).alloc (.cells #[.int .u32 0, .int .i64 0] T)).heap.size ((w.alloc o).alloc (.cells #[.int .u32 0, .int .i64 0] T)) w1) :
    w1.cell? ⟨w.heap.size + 1, 0, none⟩ = some (.int .u32 0) ∧ w1.cell? ⟨w.heap.size + 1, 1, none⟩ = some (.int .i64 0) ∧ (∀ o, w1.frozen? ⟨w.heap.size + 1, o, none⟩ = false) ∧ w.heap.size + 1 < w1.heap.size := by
  have hs : w.heap.size + 1 < ((w.alloc o).alloc (.cells #[.int .u32 0, .int .i64 0] T)).heap.size := by simp
  refine ⟨(hb.cell (p := ⟨w.heap.size + 1, 0, none⟩) hs).trans (by simp), (hb.cell (p := ⟨w.heap.size + 1, 1, none⟩) hs).trans (by simp), fun j => (hb.frozen (p := ⟨w.heap.size + 1, j, none⟩) hs).trans (by simp), Nat.lt_of_lt_of_le hs hb.size⟩
set_option maxRecDepth 20000 in
set_option maxHeartbeats 2000000 in
theorem said_0 (s : List UInt8) (w : World) (hs : s.length ≤ 1000000) (hl : Lds w) : Calls Tryz.prog 35 #[.int .i64 0, .string (str s)] w (GotSaid 0 s w) := by
  have C1 := Lib.hid (show ∀ w, Calls Tryz.prog 69 #[.int .i64 0] w fun e w' => e = .returned (.bool false) ∧ w = w' from fun w => opt_any 0 (by decide) w)
  have C2 := Lib.hid (show ∀ w, Calls Tryz.prog 70 #[.int .i64 0] w fun e w' => e = .returned (.tuple #[.int .i64 0, .int .i64 0]) ∧ w = w' from fun w => lim_any 0 (by decide) w)
  have HL := Lib.hid hl
  clear hl
  by_cases e : s = dash
  · have SV0 := Lib.hid (SV.start w 77)
    have R := Lib.hid (show saidV 0 s = WV.zero ∧ saidB 0 s = false by unfold saidV saidB; rw [if_pos e, if_pos e]; exact ⟨rfl, rfl⟩)
    have d0 : (s == ([45] : List UInt8)) = true := by subst e; rfl
    clear e
    go_enter Tryz.func35, Tryz.ntmps35
    go_wp2_with (go_at_call 69; refine (C1.out _).mono ?_; rintro e w1 ⟨rfl, rfl⟩)
    have S2 := SV0.out
    refine bodyPost_ret (v := .tuple #[valV WV.zero SlV.nil SlV.nil, .bool false]) (said_results _ _ w.heap.size false WV.zero SlV.nil SlV.nil rfl rfl S2.box) rfl ⟨SlV.nil, SlV.nil, by rw [R.out.1, R.out.2], by rw [R.out.1]; exact S2.rd, S2.bel, fun ad h => (by cases h), fun ad h => (by cases h)⟩
  · have d0 : (s == ([45] : List UInt8)) = false := by rw [beq_eq_false_iff_ne]; exact e
    obtain ⟨ok, hok⟩ : ∃ ok, true = ok := ⟨_, rfl⟩
    have OK := Lib.hid hok
    
    have SV0 := Lib.hid (SV.start w 77)
    have R := Lib.hid (show saidV 0 s = readV 0 s ∧ saidB 0 s = (ok && mayB 0 (readV 0 s)) by unfold saidV saidB; rw [if_neg e, if_neg e]; exact ⟨rfl, by rw [← hok]; rfl⟩)
    clear e
    cases ok with
    | false =>
      cases hok
    | true =>
      have VO : VOk (readV 0 s) := vok_text hs
      clear hok
      obtain ⟨z0, z1, z2, z3, z4, z5, zf⟩ := SV0.out.cells
      go_enter Tryz.func35, Tryz.ntmps35
      go_wp2_with (go_at_call 70; refine (C2.out _).mono ?_; rintro e w1 ⟨rfl, rfl⟩)
      have S2 : SV w w.heap.size (readV 0 s) SlV.nil SlV.nil _ := SV.starts s w 77
      obtain ⟨V, hV⟩ : ∃ V, readV 0 s = V := ⟨_, rfl⟩
      obtain ⟨t1, ht1⟩ : ∃ t : SlV, t = SlV.nil := ⟨_, rfl⟩
      obtain ⟨t2, ht2⟩ : ∃ t : SlV, t = SlV.nil := ⟨_, rfl⟩
      rw [hV] at S2 R VO
      have S3 := (show ∀ wx, SV w w.heap.size V SlV.nil SlV.nil wx → SV w w.heap.size V t1 t2 wx from fun wx h => by rw [ht1, ht2]; exact h) _ S2
      have C4 := Lib.hid (fun w h => may_0 V t1 t2 w VO h)
      clear hV ht1 ht2 S2 z0 z1 z2 z3 z4 z5 zf
      refine wp_region_text (SV w w.heap.size V t1 t2) (by kernel_rfl) (by kernel_rfl) S3.drew ?_
      repeat
        first
          | (refine Seq.pass rfl ?_; simp only [Act.put, List.setIfInBounds_toArray, List.set_cons_zero, List.set_cons_succ])
          | (refine Seq.run ?_ rfl (fun wx hx => ?_) ?_
             rotate_left
             · first
                 | (refine step_val (x := .tmp 4) hx ?_ ?_ <;> rfl)
                 | (refine step_valput (x := .tmp 4) (y := .tmp 87) hx ?_ ?_ ?_ <;> rfl)
                 | (go_simp
                    first
                      | (refine StepRun.val ?_; exact hx)
                      | (refine StepRun.call (v := .bool (mayB 0 V)) ?_; refine Calls.mono (C4.out _ hx.rd) ?_; rintro e w' ⟨rfl, hb⟩; exact ⟨rfl, hx.keep hb⟩))
             simp only [Act.put, List.setIfInBounds_toArray, List.set_cons_zero, List.set_cons_succ])
      refine Seq.last (fun wx hx => ?_)
      go_wp2
      exact bodyPost_ret (v := .tuple #[valV V t1 t2, .bool (mayB 0 V)]) (said_results _ _ w.heap.size (mayB 0 V) V t1 t2 rfl rfl hx.box) rfl ⟨t1, t2, by rw [R.out.1, R.out.2]; rfl, by rw [R.out.1]; exact hx.rd, hx.bel, fun ad h => (hx.o1 ad h).1, fun ad h => (hx.o2 ad h).1⟩
set_option maxRecDepth 20000 in
set_option maxHeartbeats 2000000 in
theorem said_1 (s : List UInt8) (w : World) (hs : s.length ≤ 1000000) (hl : Lds w) : Calls Tryz.prog 35 #[.int .i64 1, .string (str s)] w (GotSaid 1 s w) := by
  have C1 := Lib.hid (show ∀ w, Calls Tryz.prog 69 #[.int .i64 1] w fun e w' => e = .returned (.bool false) ∧ w = w' from fun w => opt_any 1 (by decide) w)
  have C2 := Lib.hid (show ∀ w, Calls Tryz.prog 70 #[.int .i64 1] w fun e w' => e = .returned (.tuple #[.int .i64 0, .int .i64 0]) ∧ w = w' from fun w => lim_any 1 (by decide) w)
  have HL := Lib.hid hl
  clear hl
  by_cases e : s = dash
  · have SV0 := Lib.hid (SV.start w 77)
    have R := Lib.hid (show saidV 1 s = WV.zero ∧ saidB 1 s = false by unfold saidV saidB; rw [if_pos e, if_pos e]; exact ⟨rfl, rfl⟩)
    have d0 : (s == ([45] : List UInt8)) = true := by subst e; rfl
    clear e
    go_enter Tryz.func35, Tryz.ntmps35
    go_wp2_with (go_at_call 69; refine (C1.out _).mono ?_; rintro e w1 ⟨rfl, rfl⟩)
    have S2 := SV0.out
    refine bodyPost_ret (v := .tuple #[valV WV.zero SlV.nil SlV.nil, .bool false]) (said_results _ _ w.heap.size false WV.zero SlV.nil SlV.nil rfl rfl S2.box) rfl ⟨SlV.nil, SlV.nil, by rw [R.out.1, R.out.2], by rw [R.out.1]; exact S2.rd, S2.bel, fun ad h => (by cases h), fun ad h => (by cases h)⟩
  · have d0 : (s == ([45] : List UInt8)) = false := by rw [beq_eq_false_iff_ne]; exact e
    obtain ⟨ok, hok⟩ : ∃ ok, true = ok := ⟨_, rfl⟩
    have OK := Lib.hid hok
    
    have SV0 := Lib.hid (SV.start w 77)
    have R := Lib.hid (show saidV 1 s = readV 1 s ∧ saidB 1 s = (ok && mayB 1 (readV 1 s)) by unfold saidV saidB; rw [if_neg e, if_neg e]; exact ⟨rfl, by rw [← hok]; rfl⟩)
    clear e
    cases ok with
    | false =>
      cases hok
    | true =>
      have VO : VOk (readV 1 s) := vok_text hs
      clear hok
      obtain ⟨z0, z1, z2, z3, z4, z5, zf⟩ := SV0.out.cells
      go_enter Tryz.func35, Tryz.ntmps35
      go_wp2_with (go_at_call 70; refine (C2.out _).mono ?_; rintro e w1 ⟨rfl, rfl⟩)
      have S2 : SV w w.heap.size (readV 1 s) SlV.nil SlV.nil _ := SV.starts s w 77
      obtain ⟨V, hV⟩ : ∃ V, readV 1 s = V := ⟨_, rfl⟩
      obtain ⟨t1, ht1⟩ : ∃ t : SlV, t = SlV.nil := ⟨_, rfl⟩
      obtain ⟨t2, ht2⟩ : ∃ t : SlV, t = SlV.nil := ⟨_, rfl⟩
      rw [hV] at S2 R VO
      have S3 := (show ∀ wx, SV w w.heap.size V SlV.nil SlV.nil wx → SV w w.heap.size V t1 t2 wx from fun wx h => by rw [ht1, ht2]; exact h) _ S2
      have C4 := Lib.hid (fun w h => may_1 V t1 t2 w VO h)
      clear hV ht1 ht2 S2 z0 z1 z2 z3 z4 z5 zf
      refine wp_region_text (SV w w.heap.size V t1 t2) (by kernel_rfl) (by kernel_rfl) S3.drew ?_
      repeat
        first
          | (refine Seq.pass rfl ?_; simp only [Act.put, List.setIfInBounds_toArray, List.set_cons_zero, List.set_cons_succ])
          | (refine Seq.run ?_ rfl (fun wx hx => ?_) ?_
             rotate_left
             · first
                 | (refine step_val (x := .tmp 4) hx ?_ ?_ <;> rfl)
                 | (refine step_valput (x := .tmp 4) (y := .tmp 87) hx ?_ ?_ ?_ <;> rfl)
                 | (go_simp
                    first
                      | (refine StepRun.val ?_; exact hx)
                      | (refine StepRun.call (v := .bool (mayB 1 V)) ?_; refine Calls.mono (C4.out _ hx.rd) ?_; rintro e w' ⟨rfl, hb⟩; exact ⟨rfl, hx.keep hb⟩))
             simp only [Act.put, List.setIfInBounds_toArray, List.set_cons_zero, List.set_cons_succ])
      refine Seq.last (fun wx hx => ?_)
      go_wp2
      exact bodyPost_ret (v := .tuple #[valV V t1 t2, .bool (mayB 1 V)]) (said_results _ _ w.heap.size (mayB 1 V) V t1 t2 rfl rfl hx.box) rfl ⟨t1, t2, by rw [R.out.1, R.out.2]; rfl, by rw [R.out.1]; exact hx.rd, hx.bel, fun ad h => (hx.o1 ad h).1, fun ad h => (hx.o2 ad h).1⟩
set_option maxRecDepth 20000 in
set_option maxHeartbeats 2000000 in
theorem said_2 (s : List UInt8) (w : World) (hs : s.length ≤ 1000000) (hl : Lds w) : Calls Tryz.prog 35 #[.int .i64 2, .string (str s)] w (GotSaid 2 s w) := by
  have C1 := Lib.hid (show ∀ w, Calls Tryz.prog 69 #[.int .i64 2] w fun e w' => e = .returned (.bool false) ∧ w = w' from fun w => opt_any 2 (by decide) w)
  have C2 := Lib.hid (show ∀ w, Calls Tryz.prog 70 #[.int .i64 2] w fun e w' => e = .returned (.tuple #[.int .i64 0, .int .i64 65535]) ∧ w = w' from fun w => lim_any 2 (by decide) w)
  have HL := Lib.hid hl
  clear hl
  by_cases e : s = dash
  · have SV0 := Lib.hid (SV.start w 77)
    have R := Lib.hid (show saidV 2 s = WV.zero ∧ saidB 2 s = false by unfold saidV saidB; rw [if_pos e, if_pos e]; exact ⟨rfl, rfl⟩)
    have d0 : (s == ([45] : List UInt8)) = true := by subst e; rfl
    clear e
    go_enter Tryz.func35, Tryz.ntmps35
    go_wp2_with (go_at_call 69; refine (C1.out _).mono ?_; rintro e w1 ⟨rfl, rfl⟩)
    have S2 := SV0.out
    refine bodyPost_ret (v := .tuple #[valV WV.zero SlV.nil SlV.nil, .bool false]) (said_results _ _ w.heap.size false WV.zero SlV.nil SlV.nil rfl rfl S2.box) rfl ⟨SlV.nil, SlV.nil, by rw [R.out.1, R.out.2], by rw [R.out.1]; exact S2.rd, S2.bel, fun ad h => (by cases h), fun ad h => (by cases h)⟩
  · have d0 : (s == ([45] : List UInt8)) = false := by rw [beq_eq_false_iff_ne]; exact e
    obtain ⟨ok, hok⟩ : ∃ ok, nB s 0 65535 = ok := ⟨_, rfl⟩
    have OK := Lib.hid hok
    have C3 := Lib.hid (fun w h => numRead_any s 0 65535 w (by unfold maxLen; omega) h)
    have SV0 := Lib.hid (SV.start w 77)
    have R := Lib.hid (show saidV 2 s = readV 2 s ∧ saidB 2 s = (ok && mayB 2 (readV 2 s)) by unfold saidV saidB; rw [if_neg e, if_neg e]; exact ⟨rfl, by rw [← hok]; rfl⟩)
    clear e
    cases ok with
    | false =>
      clear hok
      go_enter Tryz.func35, Tryz.ntmps35
      go_wp2_with (first
        | (go_at_call 70; refine (C2.out _).mono ?_; rintro e w1 ⟨rfl, rfl⟩)
        | (go_at_call 71; refine (C3.out _ (HL.out.below (below_box _ _))).mono ?_; rintro e w1 ⟨rfl, hb1⟩; rw [OK.out]; have S1 := Lib.hid (SV0.out.keep hb1); obtain ⟨z0, z1, z2, z3, z4, z5, zf⟩ := S1.out.cells))
      have S2 := S1.out.put (U := readV 2 s) (u1 := SlV.nil) (u2 := SlV.nil) 1 (.int .i64 (nV s 0 65535)) (by omega) (fun k hk => match k, hk with | 0, _ | 1, _ | 2, _ | 3, _ | 4, _ | 5, _ => rfl | k + 6, h => absurd h (by omega)) ⟨ISl.nil, ISl.nil⟩ (fun ad h => (by cases h)) (fun ad h => (by cases h))
      obtain ⟨V, hV⟩ : ∃ V, readV 2 s = V := ⟨_, rfl⟩
      obtain ⟨t1, ht1⟩ : ∃ t : SlV, t = SlV.nil := ⟨_, rfl⟩
      obtain ⟨t2, ht2⟩ : ∃ t : SlV, t = SlV.nil := ⟨_, rfl⟩
      rw [hV] at S2 R
      have S3 := (show ∀ wx, SV w w.heap.size V SlV.nil SlV.nil wx → SV w w.heap.size V t1 t2 wx from fun wx h => by rw [ht1, ht2]; exact h) _ S2
      clear hV ht1 ht2 S2 z0 z1 z2 z3 z4 z5 zf
      refine wp_region_text (SV w w.heap.size V t1 t2) (by kernel_rfl) (by kernel_rfl) S3.drew ?_
      repeat
        first
          | (refine Seq.pass rfl ?_; simp only [Act.put, List.setIfInBounds_toArray, List.set_cons_zero, List.set_cons_succ])
          | (refine Seq.run ?_ rfl (fun wx hx => ?_) ?_
             rotate_left
             · first
                 | (refine step_val (x := .tmp 4) hx ?_ ?_ <;> rfl)
                 | (refine step_valput (x := .tmp 4) (y := .tmp 87) hx ?_ ?_ ?_ <;> rfl)
                 | (go_simp
                    refine StepRun.val ?_; exact hx)
             simp only [Act.put, List.setIfInBounds_toArray, List.set_cons_zero, List.set_cons_succ])
      refine Seq.last (fun wx hx => ?_)
      go_wp2
      exact bodyPost_ret (v := .tuple #[valV V t1 t2, .bool false]) (said_results _ _ w.heap.size false V t1 t2 rfl rfl hx.box) rfl ⟨t1, t2, by rw [R.out.1, R.out.2]; rfl, by rw [R.out.1]; exact hx.rd, hx.bel, fun ad h => (hx.o1 ad h).1, fun ad h => (hx.o2 ad h).1⟩
    | true =>
      have VO : VOk (readV 2 s) := vok_n _
      clear hok
      go_enter Tryz.func35, Tryz.ntmps35
      go_wp2_with (first
        | (go_at_call 70; refine (C2.out _).mono ?_; rintro e w1 ⟨rfl, rfl⟩)
        | (go_at_call 71; refine (C3.out _ (HL.out.below (below_box _ _))).mono ?_; rintro e w1 ⟨rfl, hb1⟩; rw [OK.out]; have S1 := Lib.hid (SV0.out.keep hb1); obtain ⟨z0, z1, z2, z3, z4, z5, zf⟩ := S1.out.cells))
      have S2 := S1.out.put (U := readV 2 s) (u1 := SlV.nil) (u2 := SlV.nil) 1 (.int .i64 (nV s 0 65535)) (by omega) (fun k hk => match k, hk with | 0, _ | 1, _ | 2, _ | 3, _ | 4, _ | 5, _ => rfl | k + 6, h => absurd h (by omega)) ⟨ISl.nil, ISl.nil⟩ (fun ad h => (by cases h)) (fun ad h => (by cases h))
      obtain ⟨V, hV⟩ : ∃ V, readV 2 s = V := ⟨_, rfl⟩
      obtain ⟨t1, ht1⟩ : ∃ t : SlV, t = SlV.nil := ⟨_, rfl⟩
      obtain ⟨t2, ht2⟩ : ∃ t : SlV, t = SlV.nil := ⟨_, rfl⟩
      rw [hV] at S2 R VO
      have S3 := (show ∀ wx, SV w w.heap.size V SlV.nil SlV.nil wx → SV w w.heap.size V t1 t2 wx from fun wx h => by rw [ht1, ht2]; exact h) _ S2
      have C4 := Lib.hid (fun w h => may_2 V t1 t2 w VO h)
      clear hV ht1 ht2 S2 z0 z1 z2 z3 z4 z5 zf
      refine wp_region_text (SV w w.heap.size V t1 t2) (by kernel_rfl) (by kernel_rfl) S3.drew ?_
      repeat
        first
          | (refine Seq.pass rfl ?_; simp only [Act.put, List.setIfInBounds_toArray, List.set_cons_zero, List.set_cons_succ])
          | (refine Seq.run ?_ rfl (fun wx hx => ?_) ?_
             rotate_left
             · first
                 | (refine step_val (x := .tmp 4) hx ?_ ?_ <;> rfl)
                 | (refine step_valput (x := .tmp 4) (y := .tmp 87) hx ?_ ?_ ?_ <;> rfl)
                 | (go_simp
                    first
                      | (refine StepRun.val ?_; exact hx)
                      | (refine StepRun.call (v := .bool (mayB 2 V)) ?_; refine Calls.mono (C4.out _ hx.rd) ?_; rintro e w' ⟨rfl, hb⟩; exact ⟨rfl, hx.keep hb⟩))
             simp only [Act.put, List.setIfInBounds_toArray, List.set_cons_zero, List.set_cons_succ])
      refine Seq.last (fun wx hx => ?_)
      go_wp2
      exact bodyPost_ret (v := .tuple #[valV V t1 t2, .bool (mayB 2 V)]) (said_results _ _ w.heap.size (mayB 2 V) V t1 t2 rfl rfl hx.box) rfl ⟨t1, t2, by rw [R.out.1, R.out.2]; rfl, by rw [R.out.1]; exact hx.rd, hx.bel, fun ad h => (hx.o1 ad h).1, fun ad h => (hx.o2 ad h).1⟩
set_option maxRecDepth 20000 in
set_option maxHeartbeats 2000000 in
theorem said_3 (s : List UInt8) (w : World) (hs : s.length ≤ 1000000) (hl : Lds w) : Calls Tryz.prog 35 #[.int .i64 3, .string (str s)] w (GotSaid 3 s w) := by
  have C1 := Lib.hid (show ∀ w, Calls Tryz.prog 69 #[.int .i64 3] w fun e w' => e = .returned (.bool false) ∧ w = w' from fun w => opt_any 3 (by decide) w)
  have C2 := Lib.hid (show ∀ w, Calls Tryz.prog 70 #[.int .i64 3] w fun e w' => e = .returned (.tuple #[.int .i64 1, .int .i64 65535]) ∧ w = w' from fun w => lim_any 3 (by decide) w)
  have HL := Lib.hid hl
  clear hl
  by_cases e : s = dash
  · have SV0 := Lib.hid (SV.start w 77)
    have R := Lib.hid (show saidV 3 s = WV.zero ∧ saidB 3 s = false by unfold saidV saidB; rw [if_pos e, if_pos e]; exact ⟨rfl, rfl⟩)
    have d0 : (s == ([45] : List UInt8)) = true := by subst e; rfl
    clear e
    go_enter Tryz.func35, Tryz.ntmps35
    go_wp2_with (go_at_call 69; refine (C1.out _).mono ?_; rintro e w1 ⟨rfl, rfl⟩)
    have S2 := SV0.out
    refine bodyPost_ret (v := .tuple #[valV WV.zero SlV.nil SlV.nil, .bool false]) (said_results _ _ w.heap.size false WV.zero SlV.nil SlV.nil rfl rfl S2.box) rfl ⟨SlV.nil, SlV.nil, by rw [R.out.1, R.out.2], by rw [R.out.1]; exact S2.rd, S2.bel, fun ad h => (by cases h), fun ad h => (by cases h)⟩
  · have d0 : (s == ([45] : List UInt8)) = false := by rw [beq_eq_false_iff_ne]; exact e
    obtain ⟨ok, hok⟩ : ∃ ok, nB s 1 65535 = ok := ⟨_, rfl⟩
    have OK := Lib.hid hok
    have C3 := Lib.hid (fun w h => numRead_any s 1 65535 w (by unfold maxLen; omega) h)
    have SV0 := Lib.hid (SV.start w 77)
    have R := Lib.hid (show saidV 3 s = readV 3 s ∧ saidB 3 s = (ok && mayB 3 (readV 3 s)) by unfold saidV saidB; rw [if_neg e, if_neg e]; exact ⟨rfl, by rw [← hok]; rfl⟩)
    clear e
    cases ok with
    | false =>
      clear hok
      go_enter Tryz.func35, Tryz.ntmps35
      go_wp2_with (first
        | (go_at_call 70; refine (C2.out _).mono ?_; rintro e w1 ⟨rfl, rfl⟩)
        | (go_at_call 71; refine (C3.out _ (HL.out.below (below_box _ _))).mono ?_; rintro e w1 ⟨rfl, hb1⟩; rw [OK.out]; have S1 := Lib.hid (SV0.out.keep hb1); obtain ⟨z0, z1, z2, z3, z4, z5, zf⟩ := S1.out.cells))
      have S2 := S1.out.put (U := readV 3 s) (u1 := SlV.nil) (u2 := SlV.nil) 1 (.int .i64 (nV s 1 65535)) (by omega) (fun k hk => match k, hk with | 0, _ | 1, _ | 2, _ | 3, _ | 4, _ | 5, _ => rfl | k + 6, h => absurd h (by omega)) ⟨ISl.nil, ISl.nil⟩ (fun ad h => (by cases h)) (fun ad h => (by cases h))
      obtain ⟨V, hV⟩ : ∃ V, readV 3 s = V := ⟨_, rfl⟩
      obtain ⟨t1, ht1⟩ : ∃ t : SlV, t = SlV.nil := ⟨_, rfl⟩
      obtain ⟨t2, ht2⟩ : ∃ t : SlV, t = SlV.nil := ⟨_, rfl⟩
      rw [hV] at S2 R
      have S3 := (show ∀ wx, SV w w.heap.size V SlV.nil SlV.nil wx → SV w w.heap.size V t1 t2 wx from fun wx h => by rw [ht1, ht2]; exact h) _ S2
      clear hV ht1 ht2 S2 z0 z1 z2 z3 z4 z5 zf
      refine wp_region_text (SV w w.heap.size V t1 t2) (by kernel_rfl) (by kernel_rfl) S3.drew ?_
      repeat
        first
          | (refine Seq.pass rfl ?_; simp only [Act.put, List.setIfInBounds_toArray, List.set_cons_zero, List.set_cons_succ])
          | (refine Seq.run ?_ rfl (fun wx hx => ?_) ?_
             rotate_left
             · first
                 | (refine step_val (x := .tmp 4) hx ?_ ?_ <;> rfl)
                 | (refine step_valput (x := .tmp 4) (y := .tmp 87) hx ?_ ?_ ?_ <;> rfl)
                 | (go_simp
                    refine StepRun.val ?_; exact hx)
             simp only [Act.put, List.setIfInBounds_toArray, List.set_cons_zero, List.set_cons_succ])
      refine Seq.last (fun wx hx => ?_)
      go_wp2
      exact bodyPost_ret (v := .tuple #[valV V t1 t2, .bool false]) (said_results _ _ w.heap.size false V t1 t2 rfl rfl hx.box) rfl ⟨t1, t2, by rw [R.out.1, R.out.2]; rfl, by rw [R.out.1]; exact hx.rd, hx.bel, fun ad h => (hx.o1 ad h).1, fun ad h => (hx.o2 ad h).1⟩
    | true =>
      have VO : VOk (readV 3 s) := vok_n _
      clear hok
      go_enter Tryz.func35, Tryz.ntmps35
      go_wp2_with (first
        | (go_at_call 70; refine (C2.out _).mono ?_; rintro e w1 ⟨rfl, rfl⟩)
        | (go_at_call 71; refine (C3.out _ (HL.out.below (below_box _ _))).mono ?_; rintro e w1 ⟨rfl, hb1⟩; rw [OK.out]; have S1 := Lib.hid (SV0.out.keep hb1); obtain ⟨z0, z1, z2, z3, z4, z5, zf⟩ := S1.out.cells))
      have S2 := S1.out.put (U := readV 3 s) (u1 := SlV.nil) (u2 := SlV.nil) 1 (.int .i64 (nV s 1 65535)) (by omega) (fun k hk => match k, hk with | 0, _ | 1, _ | 2, _ | 3, _ | 4, _ | 5, _ => rfl | k + 6, h => absurd h (by omega)) ⟨ISl.nil, ISl.nil⟩ (fun ad h => (by cases h)) (fun ad h => (by cases h))
      obtain ⟨V, hV⟩ : ∃ V, readV 3 s = V := ⟨_, rfl⟩
      obtain ⟨t1, ht1⟩ : ∃ t : SlV, t = SlV.nil := ⟨_, rfl⟩
      obtain ⟨t2, ht2⟩ : ∃ t : SlV, t = SlV.nil := ⟨_, rfl⟩
      rw [hV] at S2 R VO
      have S3 := (show ∀ wx, SV w w.heap.size V SlV.nil SlV.nil wx → SV w w.heap.size V t1 t2 wx from fun wx h => by rw [ht1, ht2]; exact h) _ S2
      have C4 := Lib.hid (fun w h => may_3 V t1 t2 w VO h)
      clear hV ht1 ht2 S2 z0 z1 z2 z3 z4 z5 zf
      refine wp_region_text (SV w w.heap.size V t1 t2) (by kernel_rfl) (by kernel_rfl) S3.drew ?_
      repeat
        first
          | (refine Seq.pass rfl ?_; simp only [Act.put, List.setIfInBounds_toArray, List.set_cons_zero, List.set_cons_succ])
          | (refine Seq.run ?_ rfl (fun wx hx => ?_) ?_
             rotate_left
             · first
                 | (refine step_val (x := .tmp 4) hx ?_ ?_ <;> rfl)
                 | (refine step_valput (x := .tmp 4) (y := .tmp 87) hx ?_ ?_ ?_ <;> rfl)
                 | (go_simp
                    first
                      | (refine StepRun.val ?_; exact hx)
                      | (refine StepRun.call (v := .bool (mayB 3 V)) ?_; refine Calls.mono (C4.out _ hx.rd) ?_; rintro e w' ⟨rfl, hb⟩; exact ⟨rfl, hx.keep hb⟩))
             simp only [Act.put, List.setIfInBounds_toArray, List.set_cons_zero, List.set_cons_succ])
      refine Seq.last (fun wx hx => ?_)
      go_wp2
      exact bodyPost_ret (v := .tuple #[valV V t1 t2, .bool (mayB 3 V)]) (said_results _ _ w.heap.size (mayB 3 V) V t1 t2 rfl rfl hx.box) rfl ⟨t1, t2, by rw [R.out.1, R.out.2]; rfl, by rw [R.out.1]; exact hx.rd, hx.bel, fun ad h => (hx.o1 ad h).1, fun ad h => (hx.o2 ad h).1⟩
set_option maxRecDepth 20000 in
set_option maxHeartbeats 2000000 in
theorem said_4 (s : List UInt8) (w : World) (hs : s.length ≤ 1000000) (hl : Lds w) : Calls Tryz.prog 35 #[.int .i64 4, .string (str s)] w (GotSaid 4 s w) := by
  have C1 := Lib.hid (show ∀ w, Calls Tryz.prog 69 #[.int .i64 4] w fun e w' => e = .returned (.bool false) ∧ w = w' from fun w => opt_any 4 (by decide) w)
  have C2 := Lib.hid (show ∀ w, Calls Tryz.prog 70 #[.int .i64 4] w fun e w' => e = .returned (.tuple #[.int .i64 1, .int .i64 4094]) ∧ w = w' from fun w => lim_any 4 (by decide) w)
  have HL := Lib.hid hl
  clear hl
  by_cases e : s = dash
  · have SV0 := Lib.hid (SV.start w 77)
    have R := Lib.hid (show saidV 4 s = WV.zero ∧ saidB 4 s = false by unfold saidV saidB; rw [if_pos e, if_pos e]; exact ⟨rfl, rfl⟩)
    have d0 : (s == ([45] : List UInt8)) = true := by subst e; rfl
    clear e
    go_enter Tryz.func35, Tryz.ntmps35
    go_wp2_with (go_at_call 69; refine (C1.out _).mono ?_; rintro e w1 ⟨rfl, rfl⟩)
    have S2 := SV0.out
    refine bodyPost_ret (v := .tuple #[valV WV.zero SlV.nil SlV.nil, .bool false]) (said_results _ _ w.heap.size false WV.zero SlV.nil SlV.nil rfl rfl S2.box) rfl ⟨SlV.nil, SlV.nil, by rw [R.out.1, R.out.2], by rw [R.out.1]; exact S2.rd, S2.bel, fun ad h => (by cases h), fun ad h => (by cases h)⟩
  · have d0 : (s == ([45] : List UInt8)) = false := by rw [beq_eq_false_iff_ne]; exact e
    obtain ⟨ok, hok⟩ : ∃ ok, nB s 1 4094 = ok := ⟨_, rfl⟩
    have OK := Lib.hid hok
    have C3 := Lib.hid (fun w h => numRead_any s 1 4094 w (by unfold maxLen; omega) h)
    have SV0 := Lib.hid (SV.start w 77)
    have R := Lib.hid (show saidV 4 s = readV 4 s ∧ saidB 4 s = (ok && mayB 4 (readV 4 s)) by unfold saidV saidB; rw [if_neg e, if_neg e]; exact ⟨rfl, by rw [← hok]; rfl⟩)
    clear e
    cases ok with
    | false =>
      clear hok
      go_enter Tryz.func35, Tryz.ntmps35
      go_wp2_with (first
        | (go_at_call 70; refine (C2.out _).mono ?_; rintro e w1 ⟨rfl, rfl⟩)
        | (go_at_call 71; refine (C3.out _ (HL.out.below (below_box _ _))).mono ?_; rintro e w1 ⟨rfl, hb1⟩; rw [OK.out]; have S1 := Lib.hid (SV0.out.keep hb1); obtain ⟨z0, z1, z2, z3, z4, z5, zf⟩ := S1.out.cells))
      have S2 := S1.out.put (U := readV 4 s) (u1 := SlV.nil) (u2 := SlV.nil) 1 (.int .i64 (nV s 1 4094)) (by omega) (fun k hk => match k, hk with | 0, _ | 1, _ | 2, _ | 3, _ | 4, _ | 5, _ => rfl | k + 6, h => absurd h (by omega)) ⟨ISl.nil, ISl.nil⟩ (fun ad h => (by cases h)) (fun ad h => (by cases h))
      obtain ⟨V, hV⟩ : ∃ V, readV 4 s = V := ⟨_, rfl⟩
      obtain ⟨t1, ht1⟩ : ∃ t : SlV, t = SlV.nil := ⟨_, rfl⟩
      obtain ⟨t2, ht2⟩ : ∃ t : SlV, t = SlV.nil := ⟨_, rfl⟩
      rw [hV] at S2 R
      have S3 := (show ∀ wx, SV w w.heap.size V SlV.nil SlV.nil wx → SV w w.heap.size V t1 t2 wx from fun wx h => by rw [ht1, ht2]; exact h) _ S2
      clear hV ht1 ht2 S2 z0 z1 z2 z3 z4 z5 zf
      refine wp_region_text (SV w w.heap.size V t1 t2) (by kernel_rfl) (by kernel_rfl) S3.drew ?_
      repeat
        first
          | (refine Seq.pass rfl ?_; simp only [Act.put, List.setIfInBounds_toArray, List.set_cons_zero, List.set_cons_succ])
          | (refine Seq.run ?_ rfl (fun wx hx => ?_) ?_
             rotate_left
             · first
                 | (refine step_val (x := .tmp 4) hx ?_ ?_ <;> rfl)
                 | (refine step_valput (x := .tmp 4) (y := .tmp 87) hx ?_ ?_ ?_ <;> rfl)
                 | (go_simp
                    refine StepRun.val ?_; exact hx)
             simp only [Act.put, List.setIfInBounds_toArray, List.set_cons_zero, List.set_cons_succ])
      refine Seq.last (fun wx hx => ?_)
      go_wp2
      exact bodyPost_ret (v := .tuple #[valV V t1 t2, .bool false]) (said_results _ _ w.heap.size false V t1 t2 rfl rfl hx.box) rfl ⟨t1, t2, by rw [R.out.1, R.out.2]; rfl, by rw [R.out.1]; exact hx.rd, hx.bel, fun ad h => (hx.o1 ad h).1, fun ad h => (hx.o2 ad h).1⟩
    | true =>
      have VO : VOk (readV 4 s) := vok_n _
      clear hok
      go_enter Tryz.func35, Tryz.ntmps35
      go_wp2_with (first
        | (go_at_call 70; refine (C2.out _).mono ?_; rintro e w1 ⟨rfl, rfl⟩)
        | (go_at_call 71; refine (C3.out _ (HL.out.below (below_box _ _))).mono ?_; rintro e w1 ⟨rfl, hb1⟩; rw [OK.out]; have S1 := Lib.hid (SV0.out.keep hb1); obtain ⟨z0, z1, z2, z3, z4, z5, zf⟩ := S1.out.cells))
      have S2 := S1.out.put (U := readV 4 s) (u1 := SlV.nil) (u2 := SlV.nil) 1 (.int .i64 (nV s 1 4094)) (by omega) (fun k hk => match k, hk with | 0, _ | 1, _ | 2, _ | 3, _ | 4, _ | 5, _ => rfl | k + 6, h => absurd h (by omega)) ⟨ISl.nil, ISl.nil⟩ (fun ad h => (by cases h)) (fun ad h => (by cases h))
      obtain ⟨V, hV⟩ : ∃ V, readV 4 s = V := ⟨_, rfl⟩
      obtain ⟨t1, ht1⟩ : ∃ t : SlV, t = SlV.nil := ⟨_, rfl⟩
      obtain ⟨t2, ht2⟩ : ∃ t : SlV, t = SlV.nil := ⟨_, rfl⟩
      rw [hV] at S2 R VO
      have S3 := (show ∀ wx, SV w w.heap.size V SlV.nil SlV.nil wx → SV w w.heap.size V t1 t2 wx from fun wx h => by rw [ht1, ht2]; exact h) _ S2
      have C4 := Lib.hid (fun w h => may_4 V t1 t2 w VO h)
      clear hV ht1 ht2 S2 z0 z1 z2 z3 z4 z5 zf
      refine wp_region_text (SV w w.heap.size V t1 t2) (by kernel_rfl) (by kernel_rfl) S3.drew ?_
      repeat
        first
          | (refine Seq.pass rfl ?_; simp only [Act.put, List.setIfInBounds_toArray, List.set_cons_zero, List.set_cons_succ])
          | (refine Seq.run ?_ rfl (fun wx hx => ?_) ?_
             rotate_left
             · first
                 | (refine step_val (x := .tmp 4) hx ?_ ?_ <;> rfl)
                 | (refine step_valput (x := .tmp 4) (y := .tmp 87) hx ?_ ?_ ?_ <;> rfl)
                 | (go_simp
                    first
                      | (refine StepRun.val ?_; exact hx)
                      | (refine StepRun.call (v := .bool (mayB 4 V)) ?_; refine Calls.mono (C4.out _ hx.rd) ?_; rintro e w' ⟨rfl, hb⟩; exact ⟨rfl, hx.keep hb⟩))
             simp only [Act.put, List.setIfInBounds_toArray, List.set_cons_zero, List.set_cons_succ])
      refine Seq.last (fun wx hx => ?_)
      go_wp2
      exact bodyPost_ret (v := .tuple #[valV V t1 t2, .bool (mayB 4 V)]) (said_results _ _ w.heap.size (mayB 4 V) V t1 t2 rfl rfl hx.box) rfl ⟨t1, t2, by rw [R.out.1, R.out.2]; rfl, by rw [R.out.1]; exact hx.rd, hx.bel, fun ad h => (hx.o1 ad h).1, fun ad h => (hx.o2 ad h).1⟩
set_option maxRecDepth 20000 in
set_option maxHeartbeats 2000000 in
theorem said_5 (s : List UInt8) (w : World) (hs : s.length ≤ 1000000) (hl : Lds w) : Calls Tryz.prog 35 #[.int .i64 5, .string (str s)] w (GotSaid 5 s w) := by
  have C1 := Lib.hid (show ∀ w, Calls Tryz.prog 69 #[.int .i64 5] w fun e w' => e = .returned (.bool true) ∧ w = w' from fun w => opt_any 5 (by decide) w)
  have C2 := Lib.hid (show ∀ w, Calls Tryz.prog 70 #[.int .i64 5] w fun e w' => e = .returned (.tuple #[.int .i64 1, .int .i64 4094]) ∧ w = w' from fun w => lim_any 5 (by decide) w)
  have HL := Lib.hid hl
  clear hl
  by_cases e : s = dash
  · have SV0 := Lib.hid (SV.start w 77)
    have R := Lib.hid (show saidV 5 s = WV.zero ∧ saidB 5 s = true by unfold saidV saidB; rw [if_pos e, if_pos e]; exact ⟨rfl, rfl⟩)
    have d0 : (s == ([45] : List UInt8)) = true := by subst e; rfl
    clear e
    go_enter Tryz.func35, Tryz.ntmps35
    go_wp2_with (go_at_call 69; refine (C1.out _).mono ?_; rintro e w1 ⟨rfl, rfl⟩)
    have S2 := SV0.out
    refine bodyPost_ret (v := .tuple #[valV WV.zero SlV.nil SlV.nil, .bool true]) (said_results _ _ w.heap.size true WV.zero SlV.nil SlV.nil rfl rfl S2.box) rfl ⟨SlV.nil, SlV.nil, by rw [R.out.1, R.out.2], by rw [R.out.1]; exact S2.rd, S2.bel, fun ad h => (by cases h), fun ad h => (by cases h)⟩
  · have d0 : (s == ([45] : List UInt8)) = false := by rw [beq_eq_false_iff_ne]; exact e
    obtain ⟨ok, hok⟩ : ∃ ok, nB s 1 4094 = ok := ⟨_, rfl⟩
    have OK := Lib.hid hok
    have C3 := Lib.hid (fun w h => numRead_any s 1 4094 w (by unfold maxLen; omega) h)
    have SV0 := Lib.hid (SV.start w 77)
    have R := Lib.hid (show saidV 5 s = readV 5 s ∧ saidB 5 s = (ok && mayB 5 (readV 5 s)) by unfold saidV saidB; rw [if_neg e, if_neg e]; exact ⟨rfl, by rw [← hok]; rfl⟩)
    clear e
    cases ok with
    | false =>
      clear hok
      go_enter Tryz.func35, Tryz.ntmps35
      go_wp2_with (first
        | (go_at_call 70; refine (C2.out _).mono ?_; rintro e w1 ⟨rfl, rfl⟩)
        | (go_at_call 71; refine (C3.out _ (HL.out.below (below_box _ _))).mono ?_; rintro e w1 ⟨rfl, hb1⟩; rw [OK.out]; have S1 := Lib.hid (SV0.out.keep hb1); obtain ⟨z0, z1, z2, z3, z4, z5, zf⟩ := S1.out.cells))
      have S2 := S1.out.put (U := readV 5 s) (u1 := SlV.nil) (u2 := SlV.nil) 1 (.int .i64 (nV s 1 4094)) (by omega) (fun k hk => match k, hk with | 0, _ | 1, _ | 2, _ | 3, _ | 4, _ | 5, _ => rfl | k + 6, h => absurd h (by omega)) ⟨ISl.nil, ISl.nil⟩ (fun ad h => (by cases h)) (fun ad h => (by cases h))
      obtain ⟨V, hV⟩ : ∃ V, readV 5 s = V := ⟨_, rfl⟩
      obtain ⟨t1, ht1⟩ : ∃ t : SlV, t = SlV.nil := ⟨_, rfl⟩
      obtain ⟨t2, ht2⟩ : ∃ t : SlV, t = SlV.nil := ⟨_, rfl⟩
      rw [hV] at S2 R
      have S3 := (show ∀ wx, SV w w.heap.size V SlV.nil SlV.nil wx → SV w w.heap.size V t1 t2 wx from fun wx h => by rw [ht1, ht2]; exact h) _ S2
      clear hV ht1 ht2 S2 z0 z1 z2 z3 z4 z5 zf
      refine wp_region_text (SV w w.heap.size V t1 t2) (by kernel_rfl) (by kernel_rfl) S3.drew ?_
      repeat
        first
          | (refine Seq.pass rfl ?_; simp only [Act.put, List.setIfInBounds_toArray, List.set_cons_zero, List.set_cons_succ])
          | (refine Seq.run ?_ rfl (fun wx hx => ?_) ?_
             rotate_left
             · first
                 | (refine step_val (x := .tmp 4) hx ?_ ?_ <;> rfl)
                 | (refine step_valput (x := .tmp 4) (y := .tmp 87) hx ?_ ?_ ?_ <;> rfl)
                 | (go_simp
                    refine StepRun.val ?_; exact hx)
             simp only [Act.put, List.setIfInBounds_toArray, List.set_cons_zero, List.set_cons_succ])
      refine Seq.last (fun wx hx => ?_)
      go_wp2
      exact bodyPost_ret (v := .tuple #[valV V t1 t2, .bool false]) (said_results _ _ w.heap.size false V t1 t2 rfl rfl hx.box) rfl ⟨t1, t2, by rw [R.out.1, R.out.2]; rfl, by rw [R.out.1]; exact hx.rd, hx.bel, fun ad h => (hx.o1 ad h).1, fun ad h => (hx.o2 ad h).1⟩
    | true =>
      have VO : VOk (readV 5 s) := vok_n _
      clear hok
      go_enter Tryz.func35, Tryz.ntmps35
      go_wp2_with (first
        | (go_at_call 70; refine (C2.out _).mono ?_; rintro e w1 ⟨rfl, rfl⟩)
        | (go_at_call 71; refine (C3.out _ (HL.out.below (below_box _ _))).mono ?_; rintro e w1 ⟨rfl, hb1⟩; rw [OK.out]; have S1 := Lib.hid (SV0.out.keep hb1); obtain ⟨z0, z1, z2, z3, z4, z5, zf⟩ := S1.out.cells))
      have S2 := S1.out.put (U := readV 5 s) (u1 := SlV.nil) (u2 := SlV.nil) 1 (.int .i64 (nV s 1 4094)) (by omega) (fun k hk => match k, hk with | 0, _ | 1, _ | 2, _ | 3, _ | 4, _ | 5, _ => rfl | k + 6, h => absurd h (by omega)) ⟨ISl.nil, ISl.nil⟩ (fun ad h => (by cases h)) (fun ad h => (by cases h))
      obtain ⟨V, hV⟩ : ∃ V, readV 5 s = V := ⟨_, rfl⟩
      obtain ⟨t1, ht1⟩ : ∃ t : SlV, t = SlV.nil := ⟨_, rfl⟩
      obtain ⟨t2, ht2⟩ : ∃ t : SlV, t = SlV.nil := ⟨_, rfl⟩
      rw [hV] at S2 R VO
      have S3 := (show ∀ wx, SV w w.heap.size V SlV.nil SlV.nil wx → SV w w.heap.size V t1 t2 wx from fun wx h => by rw [ht1, ht2]; exact h) _ S2
      have C4 := Lib.hid (fun w h => may_5 V t1 t2 w VO h)
      clear hV ht1 ht2 S2 z0 z1 z2 z3 z4 z5 zf
      refine wp_region_text (SV w w.heap.size V t1 t2) (by kernel_rfl) (by kernel_rfl) S3.drew ?_
      repeat
        first
          | (refine Seq.pass rfl ?_; simp only [Act.put, List.setIfInBounds_toArray, List.set_cons_zero, List.set_cons_succ])
          | (refine Seq.run ?_ rfl (fun wx hx => ?_) ?_
             rotate_left
             · first
                 | (refine step_val (x := .tmp 4) hx ?_ ?_ <;> rfl)
                 | (refine step_valput (x := .tmp 4) (y := .tmp 87) hx ?_ ?_ ?_ <;> rfl)
                 | (go_simp
                    first
                      | (refine StepRun.val ?_; exact hx)
                      | (refine StepRun.call (v := .bool (mayB 5 V)) ?_; refine Calls.mono (C4.out _ hx.rd) ?_; rintro e w' ⟨rfl, hb⟩; exact ⟨rfl, hx.keep hb⟩))
             simp only [Act.put, List.setIfInBounds_toArray, List.set_cons_zero, List.set_cons_succ])
      refine Seq.last (fun wx hx => ?_)
      go_wp2
      exact bodyPost_ret (v := .tuple #[valV V t1 t2, .bool (mayB 5 V)]) (said_results _ _ w.heap.size (mayB 5 V) V t1 t2 rfl rfl hx.box) rfl ⟨t1, t2, by rw [R.out.1, R.out.2]; rfl, by rw [R.out.1]; exact hx.rd, hx.bel, fun ad h => (hx.o1 ad h).1, fun ad h => (hx.o2 ad h).1⟩
set_option maxRecDepth 20000 in
set_option maxHeartbeats 2000000 in
theorem said_6 (s : List UInt8) (w : World) (hs : s.length ≤ 1000000) (hl : Lds w) : Calls Tryz.prog 35 #[.int .i64 6, .string (str s)] w (GotSaid 6 s w) := by
  have C1 := Lib.hid (show ∀ w, Calls Tryz.prog 69 #[.int .i64 6] w fun e w' => e = .returned (.bool false) ∧ w = w' from fun w => opt_any 6 (by decide) w)
  have C2 := Lib.hid (show ∀ w, Calls Tryz.prog 70 #[.int .i64 6] w fun e w' => e = .returned (.tuple #[.int .i64 1, .int .i64 16777215]) ∧ w = w' from fun w => lim_any 6 (by decide) w)
  have HL := Lib.hid hl
  clear hl
  by_cases e : s = dash
  · have SV0 := Lib.hid (SV.start w 77)
    have R := Lib.hid (show saidV 6 s = WV.zero ∧ saidB 6 s = false by unfold saidV saidB; rw [if_pos e, if_pos e]; exact ⟨rfl, rfl⟩)
    have d0 : (s == ([45] : List UInt8)) = true := by subst e; rfl
    clear e
    go_enter Tryz.func35, Tryz.ntmps35
    go_wp2_with (go_at_call 69; refine (C1.out _).mono ?_; rintro e w1 ⟨rfl, rfl⟩)
    have S2 := SV0.out
    refine bodyPost_ret (v := .tuple #[valV WV.zero SlV.nil SlV.nil, .bool false]) (said_results _ _ w.heap.size false WV.zero SlV.nil SlV.nil rfl rfl S2.box) rfl ⟨SlV.nil, SlV.nil, by rw [R.out.1, R.out.2], by rw [R.out.1]; exact S2.rd, S2.bel, fun ad h => (by cases h), fun ad h => (by cases h)⟩
  · have d0 : (s == ([45] : List UInt8)) = false := by rw [beq_eq_false_iff_ne]; exact e
    obtain ⟨ok, hok⟩ : ∃ ok, nB s 1 16777215 = ok := ⟨_, rfl⟩
    have OK := Lib.hid hok
    have C3 := Lib.hid (fun w h => numRead_any s 1 16777215 w (by unfold maxLen; omega) h)
    have SV0 := Lib.hid (SV.start w 77)
    have R := Lib.hid (show saidV 6 s = readV 6 s ∧ saidB 6 s = (ok && mayB 6 (readV 6 s)) by unfold saidV saidB; rw [if_neg e, if_neg e]; exact ⟨rfl, by rw [← hok]; rfl⟩)
    clear e
    cases ok with
    | false =>
      clear hok
      go_enter Tryz.func35, Tryz.ntmps35
      go_wp2_with (first
        | (go_at_call 70; refine (C2.out _).mono ?_; rintro e w1 ⟨rfl, rfl⟩)
        | (go_at_call 71; refine (C3.out _ (HL.out.below (below_box _ _))).mono ?_; rintro e w1 ⟨rfl, hb1⟩; rw [OK.out]; have S1 := Lib.hid (SV0.out.keep hb1); obtain ⟨z0, z1, z2, z3, z4, z5, zf⟩ := S1.out.cells))
      have S2 := S1.out.put (U := readV 6 s) (u1 := SlV.nil) (u2 := SlV.nil) 1 (.int .i64 (nV s 1 16777215)) (by omega) (fun k hk => match k, hk with | 0, _ | 1, _ | 2, _ | 3, _ | 4, _ | 5, _ => rfl | k + 6, h => absurd h (by omega)) ⟨ISl.nil, ISl.nil⟩ (fun ad h => (by cases h)) (fun ad h => (by cases h))
      obtain ⟨V, hV⟩ : ∃ V, readV 6 s = V := ⟨_, rfl⟩
      obtain ⟨t1, ht1⟩ : ∃ t : SlV, t = SlV.nil := ⟨_, rfl⟩
      obtain ⟨t2, ht2⟩ : ∃ t : SlV, t = SlV.nil := ⟨_, rfl⟩
      rw [hV] at S2 R
      have S3 := (show ∀ wx, SV w w.heap.size V SlV.nil SlV.nil wx → SV w w.heap.size V t1 t2 wx from fun wx h => by rw [ht1, ht2]; exact h) _ S2
      clear hV ht1 ht2 S2 z0 z1 z2 z3 z4 z5 zf
      refine wp_region_text (SV w w.heap.size V t1 t2) (by kernel_rfl) (by kernel_rfl) S3.drew ?_
      repeat
        first
          | (refine Seq.pass rfl ?_; simp only [Act.put, List.setIfInBounds_toArray, List.set_cons_zero, List.set_cons_succ])
          | (refine Seq.run ?_ rfl (fun wx hx => ?_) ?_
             rotate_left
             · first
                 | (refine step_val (x := .tmp 4) hx ?_ ?_ <;> rfl)
                 | (refine step_valput (x := .tmp 4) (y := .tmp 87) hx ?_ ?_ ?_ <;> rfl)
                 | (go_simp
                    refine StepRun.val ?_; exact hx)
             simp only [Act.put, List.setIfInBounds_toArray, List.set_cons_zero, List.set_cons_succ])
      refine Seq.last (fun wx hx => ?_)
      go_wp2
      exact bodyPost_ret (v := .tuple #[valV V t1 t2, .bool false]) (said_results _ _ w.heap.size false V t1 t2 rfl rfl hx.box) rfl ⟨t1, t2, by rw [R.out.1, R.out.2]; rfl, by rw [R.out.1]; exact hx.rd, hx.bel, fun ad h => (hx.o1 ad h).1, fun ad h => (hx.o2 ad h).1⟩
    | true =>
      have VO : VOk (readV 6 s) := vok_n _
      clear hok
      go_enter Tryz.func35, Tryz.ntmps35
      go_wp2_with (first
        | (go_at_call 70; refine (C2.out _).mono ?_; rintro e w1 ⟨rfl, rfl⟩)
        | (go_at_call 71; refine (C3.out _ (HL.out.below (below_box _ _))).mono ?_; rintro e w1 ⟨rfl, hb1⟩; rw [OK.out]; have S1 := Lib.hid (SV0.out.keep hb1); obtain ⟨z0, z1, z2, z3, z4, z5, zf⟩ := S1.out.cells))
      have S2 := S1.out.put (U := readV 6 s) (u1 := SlV.nil) (u2 := SlV.nil) 1 (.int .i64 (nV s 1 16777215)) (by omega) (fun k hk => match k, hk with | 0, _ | 1, _ | 2, _ | 3, _ | 4, _ | 5, _ => rfl | k + 6, h => absurd h (by omega)) ⟨ISl.nil, ISl.nil⟩ (fun ad h => (by cases h)) (fun ad h => (by cases h))
      obtain ⟨V, hV⟩ : ∃ V, readV 6 s = V := ⟨_, rfl⟩
      obtain ⟨t1, ht1⟩ : ∃ t : SlV, t = SlV.nil := ⟨_, rfl⟩
      obtain ⟨t2, ht2⟩ : ∃ t : SlV, t = SlV.nil := ⟨_, rfl⟩
      rw [hV] at S2 R VO
      have S3 := (show ∀ wx, SV w w.heap.size V SlV.nil SlV.nil wx → SV w w.heap.size V t1 t2 wx from fun wx h => by rw [ht1, ht2]; exact h) _ S2
      have C4 := Lib.hid (fun w h => may_6 V t1 t2 w VO h)
      clear hV ht1 ht2 S2 z0 z1 z2 z3 z4 z5 zf
      refine wp_region_text (SV w w.heap.size V t1 t2) (by kernel_rfl) (by kernel_rfl) S3.drew ?_
      repeat
        first
          | (refine Seq.pass rfl ?_; simp only [Act.put, List.setIfInBounds_toArray, List.set_cons_zero, List.set_cons_succ])
          | (refine Seq.run ?_ rfl (fun wx hx => ?_) ?_
             rotate_left
             · first
                 | (refine step_val (x := .tmp 4) hx ?_ ?_ <;> rfl)
                 | (refine step_valput (x := .tmp 4) (y := .tmp 87) hx ?_ ?_ ?_ <;> rfl)
                 | (go_simp
                    first
                      | (refine StepRun.val ?_; exact hx)
                      | (refine StepRun.call (v := .bool (mayB 6 V)) ?_; refine Calls.mono (C4.out _ hx.rd) ?_; rintro e w' ⟨rfl, hb⟩; exact ⟨rfl, hx.keep hb⟩))
             simp only [Act.put, List.setIfInBounds_toArray, List.set_cons_zero, List.set_cons_succ])
      refine Seq.last (fun wx hx => ?_)
      go_wp2
      exact bodyPost_ret (v := .tuple #[valV V t1 t2, .bool (mayB 6 V)]) (said_results _ _ w.heap.size (mayB 6 V) V t1 t2 rfl rfl hx.box) rfl ⟨t1, t2, by rw [R.out.1, R.out.2]; rfl, by rw [R.out.1]; exact hx.rd, hx.bel, fun ad h => (hx.o1 ad h).1, fun ad h => (hx.o2 ad h).1⟩
set_option maxRecDepth 20000 in
set_option maxHeartbeats 2000000 in
theorem said_7 (s : List UInt8) (w : World) (hs : s.length ≤ 1000000) (hl : Lds w) : Calls Tryz.prog 35 #[.int .i64 7, .string (str s)] w (GotSaid 7 s w) := by
  have C1 := Lib.hid (show ∀ w, Calls Tryz.prog 69 #[.int .i64 7] w fun e w' => e = .returned (.bool false) ∧ w = w' from fun w => opt_any 7 (by decide) w)
  have C2 := Lib.hid (show ∀ w, Calls Tryz.prog 70 #[.int .i64 7] w fun e w' => e = .returned (.tuple #[.int .i64 0, .int .i64 0]) ∧ w = w' from fun w => lim_any 7 (by decide) w)
  have HL := Lib.hid hl
  clear hl
  by_cases e : s = dash
  · have SV0 := Lib.hid (SV.start w 77)
    have R := Lib.hid (show saidV 7 s = WV.zero ∧ saidB 7 s = false by unfold saidV saidB; rw [if_pos e, if_pos e]; exact ⟨rfl, rfl⟩)
    have d0 : (s == ([45] : List UInt8)) = true := by subst e; rfl
    clear e
    go_enter Tryz.func35, Tryz.ntmps35
    go_wp2_with (go_at_call 69; refine (C1.out _).mono ?_; rintro e w1 ⟨rfl, rfl⟩)
    have S2 := SV0.out
    refine bodyPost_ret (v := .tuple #[valV WV.zero SlV.nil SlV.nil, .bool false]) (said_results _ _ w.heap.size false WV.zero SlV.nil SlV.nil rfl rfl S2.box) rfl ⟨SlV.nil, SlV.nil, by rw [R.out.1, R.out.2], by rw [R.out.1]; exact S2.rd, S2.bel, fun ad h => (by cases h), fun ad h => (by cases h)⟩
  · have d0 : (s == ([45] : List UInt8)) = false := by rw [beq_eq_false_iff_ne]; exact e
    obtain ⟨ok, hok⟩ : ∃ ok, mcB s = ok := ⟨_, rfl⟩
    have OK := Lib.hid hok
    have C3 := Lib.hid (show ∀ w, Calls Tryz.prog 72 #[.string (str s)] w fun e w' => e = .returned (.tuple #[.int .u64 (mcV s), .bool (mcB s)]) ∧ w = w' from fun w => Mac.read_any (str s) w)
    have SV0 := Lib.hid (SV.start w 77)
    have R := Lib.hid (show saidV 7 s = readV 7 s ∧ saidB 7 s = (ok && mayB 7 (readV 7 s)) by unfold saidV saidB; rw [if_neg e, if_neg e]; exact ⟨rfl, by rw [← hok]; rfl⟩)
    clear e
    cases ok with
    | false =>
      clear hok
      obtain ⟨z0, z1, z2, z3, z4, z5, zf⟩ := SV0.out.cells
      go_enter Tryz.func35, Tryz.ntmps35
      go_wp2_with (first
        | (go_at_call 70; refine (C2.out _).mono ?_; rintro e w1 ⟨rfl, rfl⟩)
        | (go_at_call 72; refine (C3.out _).mono ?_; rintro e w1 ⟨rfl, rfl⟩; rw [OK.out]))
      have S2 : SV w w.heap.size (readV 7 s) SlV.nil SlV.nil _ := SV.startm (mcV s) w 77
      obtain ⟨V, hV⟩ : ∃ V, readV 7 s = V := ⟨_, rfl⟩
      obtain ⟨t1, ht1⟩ : ∃ t : SlV, t = SlV.nil := ⟨_, rfl⟩
      obtain ⟨t2, ht2⟩ : ∃ t : SlV, t = SlV.nil := ⟨_, rfl⟩
      rw [hV] at S2 R
      have S3 := (show ∀ wx, SV w w.heap.size V SlV.nil SlV.nil wx → SV w w.heap.size V t1 t2 wx from fun wx h => by rw [ht1, ht2]; exact h) _ S2
      clear hV ht1 ht2 S2 z0 z1 z2 z3 z4 z5 zf
      refine wp_region_text (SV w w.heap.size V t1 t2) (by kernel_rfl) (by kernel_rfl) S3.drew ?_
      repeat
        first
          | (refine Seq.pass rfl ?_; simp only [Act.put, List.setIfInBounds_toArray, List.set_cons_zero, List.set_cons_succ])
          | (refine Seq.run ?_ rfl (fun wx hx => ?_) ?_
             rotate_left
             · first
                 | (refine step_val (x := .tmp 4) hx ?_ ?_ <;> rfl)
                 | (refine step_valput (x := .tmp 4) (y := .tmp 87) hx ?_ ?_ ?_ <;> rfl)
                 | (go_simp
                    refine StepRun.val ?_; exact hx)
             simp only [Act.put, List.setIfInBounds_toArray, List.set_cons_zero, List.set_cons_succ])
      refine Seq.last (fun wx hx => ?_)
      go_wp2
      exact bodyPost_ret (v := .tuple #[valV V t1 t2, .bool false]) (said_results _ _ w.heap.size false V t1 t2 rfl rfl hx.box) rfl ⟨t1, t2, by rw [R.out.1, R.out.2]; rfl, by rw [R.out.1]; exact hx.rd, hx.bel, fun ad h => (hx.o1 ad h).1, fun ad h => (hx.o2 ad h).1⟩
    | true =>
      have VO : VOk (readV 7 s) := vok_mac s
      clear hok
      obtain ⟨z0, z1, z2, z3, z4, z5, zf⟩ := SV0.out.cells
      go_enter Tryz.func35, Tryz.ntmps35
      go_wp2_with (first
        | (go_at_call 70; refine (C2.out _).mono ?_; rintro e w1 ⟨rfl, rfl⟩)
        | (go_at_call 72; refine (C3.out _).mono ?_; rintro e w1 ⟨rfl, rfl⟩; rw [OK.out]))
      have S2 : SV w w.heap.size (readV 7 s) SlV.nil SlV.nil _ := SV.startm (mcV s) w 77
      obtain ⟨V, hV⟩ : ∃ V, readV 7 s = V := ⟨_, rfl⟩
      obtain ⟨t1, ht1⟩ : ∃ t : SlV, t = SlV.nil := ⟨_, rfl⟩
      obtain ⟨t2, ht2⟩ : ∃ t : SlV, t = SlV.nil := ⟨_, rfl⟩
      rw [hV] at S2 R VO
      have S3 := (show ∀ wx, SV w w.heap.size V SlV.nil SlV.nil wx → SV w w.heap.size V t1 t2 wx from fun wx h => by rw [ht1, ht2]; exact h) _ S2
      have C4 := Lib.hid (fun w h => may_7 V t1 t2 w VO h)
      clear hV ht1 ht2 S2 z0 z1 z2 z3 z4 z5 zf
      refine wp_region_text (SV w w.heap.size V t1 t2) (by kernel_rfl) (by kernel_rfl) S3.drew ?_
      repeat
        first
          | (refine Seq.pass rfl ?_; simp only [Act.put, List.setIfInBounds_toArray, List.set_cons_zero, List.set_cons_succ])
          | (refine Seq.run ?_ rfl (fun wx hx => ?_) ?_
             rotate_left
             · first
                 | (refine step_val (x := .tmp 4) hx ?_ ?_ <;> rfl)
                 | (refine step_valput (x := .tmp 4) (y := .tmp 87) hx ?_ ?_ ?_ <;> rfl)
                 | (go_simp
                    first
                      | (refine StepRun.val ?_; exact hx)
                      | (refine StepRun.call (v := .bool (mayB 7 V)) ?_; refine Calls.mono (C4.out _ hx.rd) ?_; rintro e w' ⟨rfl, hb⟩; exact ⟨rfl, hx.keep hb⟩))
             simp only [Act.put, List.setIfInBounds_toArray, List.set_cons_zero, List.set_cons_succ])
      refine Seq.last (fun wx hx => ?_)
      go_wp2
      exact bodyPost_ret (v := .tuple #[valV V t1 t2, .bool (mayB 7 V)]) (said_results _ _ w.heap.size (mayB 7 V) V t1 t2 rfl rfl hx.box) rfl ⟨t1, t2, by rw [R.out.1, R.out.2]; rfl, by rw [R.out.1]; exact hx.rd, hx.bel, fun ad h => (hx.o1 ad h).1, fun ad h => (hx.o2 ad h).1⟩
set_option maxRecDepth 20000 in
set_option maxHeartbeats 2000000 in
theorem said_8 (s : List UInt8) (w : World) (hs : s.length ≤ 1000000) (hl : Lds w) : Calls Tryz.prog 35 #[.int .i64 8, .string (str s)] w (GotSaid 8 s w) := by
  have C1 := Lib.hid (show ∀ w, Calls Tryz.prog 69 #[.int .i64 8] w fun e w' => e = .returned (.bool false) ∧ w = w' from fun w => opt_any 8 (by decide) w)
  have C2 := Lib.hid (show ∀ w, Calls Tryz.prog 70 #[.int .i64 8] w fun e w' => e = .returned (.tuple #[.int .i64 0, .int .i64 0]) ∧ w = w' from fun w => lim_any 8 (by decide) w)
  have HL := Lib.hid hl
  clear hl
  by_cases e : s = dash
  · have SV0 := Lib.hid (SV.start w 77)
    have R := Lib.hid (show saidV 8 s = WV.zero ∧ saidB 8 s = false by unfold saidV saidB; rw [if_pos e, if_pos e]; exact ⟨rfl, rfl⟩)
    have d0 : (s == ([45] : List UInt8)) = true := by subst e; rfl
    clear e
    go_enter Tryz.func35, Tryz.ntmps35
    go_wp2_with (go_at_call 69; refine (C1.out _).mono ?_; rintro e w1 ⟨rfl, rfl⟩)
    have S2 := SV0.out
    refine bodyPost_ret (v := .tuple #[valV WV.zero SlV.nil SlV.nil, .bool false]) (said_results _ _ w.heap.size false WV.zero SlV.nil SlV.nil rfl rfl S2.box) rfl ⟨SlV.nil, SlV.nil, by rw [R.out.1, R.out.2], by rw [R.out.1]; exact S2.rd, S2.bel, fun ad h => (by cases h), fun ad h => (by cases h)⟩
  · have d0 : (s == ([45] : List UInt8)) = false := by rw [beq_eq_false_iff_ne]; exact e
    obtain ⟨ok, hok⟩ : ∃ ok, rdB s = ok := ⟨_, rfl⟩
    have OK := Lib.hid hok
    have C3 := Lib.hid (show ∀ w, Calls Tryz.prog 73 #[.string (str s)] w fun e w' => e = .returned (.tuple #[.int .u32 (rdV s), .bool (rdB s)]) ∧ Below w.heap.size w w' from fun w => (by
      have h2 := read_any (str s) w (by rw [str_size]; unfold maxLen; omega)
      rw [show (str s).data.toList = s by simp] at h2
      exact h2.mono fun e w' ⟨he, hd⟩ => ⟨he, hd.below⟩))
    have SV0 := Lib.hid (SV.start w 77)
    have R := Lib.hid (show saidV 8 s = readV 8 s ∧ saidB 8 s = (ok && mayB 8 (readV 8 s)) by unfold saidV saidB; rw [if_neg e, if_neg e]; exact ⟨rfl, by rw [← hok]; rfl⟩)
    clear e
    cases ok with
    | false =>
      clear hok
      go_enter Tryz.func35, Tryz.ntmps35
      go_wp2_with (first
        | (go_at_call 70; refine (C2.out _).mono ?_; rintro e w1 ⟨rfl, rfl⟩)
        | (go_at_call 73; refine (C3.out _).mono ?_; rintro e w1 ⟨rfl, hb1⟩; rw [OK.out]; have S1 := Lib.hid (SV0.out.keep hb1); obtain ⟨z0, z1, z2, z3, z4, z5, zf⟩ := S1.out.cells))
      have S2 := S1.out.put (U := readV 8 s) (u1 := SlV.nil) (u2 := SlV.nil) 3 (.int .u32 (rdV s)) (by omega) (fun k hk => match k, hk with | 0, _ | 1, _ | 2, _ | 3, _ | 4, _ | 5, _ => rfl | k + 6, h => absurd h (by omega)) ⟨ISl.nil, ISl.nil⟩ (fun ad h => (by cases h)) (fun ad h => (by cases h))
      obtain ⟨V, hV⟩ : ∃ V, readV 8 s = V := ⟨_, rfl⟩
      obtain ⟨t1, ht1⟩ : ∃ t : SlV, t = SlV.nil := ⟨_, rfl⟩
      obtain ⟨t2, ht2⟩ : ∃ t : SlV, t = SlV.nil := ⟨_, rfl⟩
      rw [hV] at S2 R
      have S3 := (show ∀ wx, SV w w.heap.size V SlV.nil SlV.nil wx → SV w w.heap.size V t1 t2 wx from fun wx h => by rw [ht1, ht2]; exact h) _ S2
      clear hV ht1 ht2 S2 z0 z1 z2 z3 z4 z5 zf
      refine wp_region_text (SV w w.heap.size V t1 t2) (by kernel_rfl) (by kernel_rfl) S3.drew ?_
      repeat
        first
          | (refine Seq.pass rfl ?_; simp only [Act.put, List.setIfInBounds_toArray, List.set_cons_zero, List.set_cons_succ])
          | (refine Seq.run ?_ rfl (fun wx hx => ?_) ?_
             rotate_left
             · first
                 | (refine step_val (x := .tmp 4) hx ?_ ?_ <;> rfl)
                 | (refine step_valput (x := .tmp 4) (y := .tmp 87) hx ?_ ?_ ?_ <;> rfl)
                 | (go_simp
                    refine StepRun.val ?_; exact hx)
             simp only [Act.put, List.setIfInBounds_toArray, List.set_cons_zero, List.set_cons_succ])
      refine Seq.last (fun wx hx => ?_)
      go_wp2
      exact bodyPost_ret (v := .tuple #[valV V t1 t2, .bool false]) (said_results _ _ w.heap.size false V t1 t2 rfl rfl hx.box) rfl ⟨t1, t2, by rw [R.out.1, R.out.2]; rfl, by rw [R.out.1]; exact hx.rd, hx.bel, fun ad h => (hx.o1 ad h).1, fun ad h => (hx.o2 ad h).1⟩
    | true =>
      have VO : VOk (readV 8 s) := vok_addr s
      clear hok
      go_enter Tryz.func35, Tryz.ntmps35
      go_wp2_with (first
        | (go_at_call 70; refine (C2.out _).mono ?_; rintro e w1 ⟨rfl, rfl⟩)
        | (go_at_call 73; refine (C3.out _).mono ?_; rintro e w1 ⟨rfl, hb1⟩; rw [OK.out]; have S1 := Lib.hid (SV0.out.keep hb1); obtain ⟨z0, z1, z2, z3, z4, z5, zf⟩ := S1.out.cells))
      have S2 := S1.out.put (U := readV 8 s) (u1 := SlV.nil) (u2 := SlV.nil) 3 (.int .u32 (rdV s)) (by omega) (fun k hk => match k, hk with | 0, _ | 1, _ | 2, _ | 3, _ | 4, _ | 5, _ => rfl | k + 6, h => absurd h (by omega)) ⟨ISl.nil, ISl.nil⟩ (fun ad h => (by cases h)) (fun ad h => (by cases h))
      obtain ⟨V, hV⟩ : ∃ V, readV 8 s = V := ⟨_, rfl⟩
      obtain ⟨t1, ht1⟩ : ∃ t : SlV, t = SlV.nil := ⟨_, rfl⟩
      obtain ⟨t2, ht2⟩ : ∃ t : SlV, t = SlV.nil := ⟨_, rfl⟩
      rw [hV] at S2 R VO
      have S3 := (show ∀ wx, SV w w.heap.size V SlV.nil SlV.nil wx → SV w w.heap.size V t1 t2 wx from fun wx h => by rw [ht1, ht2]; exact h) _ S2
      have C4 := Lib.hid (fun w h => may_8 V t1 t2 w VO h)
      clear hV ht1 ht2 S2 z0 z1 z2 z3 z4 z5 zf
      refine wp_region_text (SV w w.heap.size V t1 t2) (by kernel_rfl) (by kernel_rfl) S3.drew ?_
      repeat
        first
          | (refine Seq.pass rfl ?_; simp only [Act.put, List.setIfInBounds_toArray, List.set_cons_zero, List.set_cons_succ])
          | (refine Seq.run ?_ rfl (fun wx hx => ?_) ?_
             rotate_left
             · first
                 | (refine step_val (x := .tmp 4) hx ?_ ?_ <;> rfl)
                 | (refine step_valput (x := .tmp 4) (y := .tmp 87) hx ?_ ?_ ?_ <;> rfl)
                 | (go_simp
                    first
                      | (refine StepRun.val ?_; exact hx)
                      | (refine StepRun.call (v := .bool (mayB 8 V)) ?_; refine Calls.mono (C4.out _ hx.rd) ?_; rintro e w' ⟨rfl, hb⟩; exact ⟨rfl, hx.keep hb⟩))
             simp only [Act.put, List.setIfInBounds_toArray, List.set_cons_zero, List.set_cons_succ])
      refine Seq.last (fun wx hx => ?_)
      go_wp2
      exact bodyPost_ret (v := .tuple #[valV V t1 t2, .bool (mayB 8 V)]) (said_results _ _ w.heap.size (mayB 8 V) V t1 t2 rfl rfl hx.box) rfl ⟨t1, t2, by rw [R.out.1, R.out.2]; rfl, by rw [R.out.1]; exact hx.rd, hx.bel, fun ad h => (hx.o1 ad h).1, fun ad h => (hx.o2 ad h).1⟩
set_option maxRecDepth 20000 in
set_option maxHeartbeats 2000000 in
theorem said_9 (s : List UInt8) (w : World) (hs : s.length ≤ 1000000) (hl : Lds w) : Calls Tryz.prog 35 #[.int .i64 9, .string (str s)] w (GotSaid 9 s w) := by
  have C1 := Lib.hid (show ∀ w, Calls Tryz.prog 69 #[.int .i64 9] w fun e w' => e = .returned (.bool false) ∧ w = w' from fun w => opt_any 9 (by decide) w)
  have C2 := Lib.hid (show ∀ w, Calls Tryz.prog 70 #[.int .i64 9] w fun e w' => e = .returned (.tuple #[.int .i64 0, .int .i64 0]) ∧ w = w' from fun w => lim_any 9 (by decide) w)
  have HL := Lib.hid hl
  clear hl
  by_cases e : s = dash
  · have SV0 := Lib.hid (SV.start w 77)
    have R := Lib.hid (show saidV 9 s = WV.zero ∧ saidB 9 s = false by unfold saidV saidB; rw [if_pos e, if_pos e]; exact ⟨rfl, rfl⟩)
    have d0 : (s == ([45] : List UInt8)) = true := by subst e; rfl
    clear e
    go_enter Tryz.func35, Tryz.ntmps35
    go_wp2_with (go_at_call 69; refine (C1.out _).mono ?_; rintro e w1 ⟨rfl, rfl⟩)
    have S2 := SV0.out
    refine bodyPost_ret (v := .tuple #[valV WV.zero SlV.nil SlV.nil, .bool false]) (said_results _ _ w.heap.size false WV.zero SlV.nil SlV.nil rfl rfl S2.box) rfl ⟨SlV.nil, SlV.nil, by rw [R.out.1, R.out.2], by rw [R.out.1]; exact S2.rd, S2.bel, fun ad h => (by cases h), fun ad h => (by cases h)⟩
  · have d0 : (s == ([45] : List UInt8)) = false := by rw [beq_eq_false_iff_ne]; exact e
    obtain ⟨ok, hok⟩ : ∃ ok, pfB s = ok := ⟨_, rfl⟩
    have OK := Lib.hid hok
    have C3 := Lib.hid (show ∀ w, Calls Tryz.prog 74 #[.string (str s)] w fun e w' => e = .returned (.tuple #[.agg #[.int .u32 (paV s), .int .i64 (pbV s)], .bool (pfB s)]) ∧ Below w.heap.size w w' from fun w => (by
      have h2 := readPrefix_any (str s) w (by rw [str_size]; unfold maxLen; omega)
      rw [show (str s).data.toList = s by simp] at h2
      exact h2))
    have SV0 := Lib.hid (SV.start w 77)
    have R := Lib.hid (show saidV 9 s = readV 9 s ∧ saidB 9 s = (ok && mayB 9 (readV 9 s)) by unfold saidV saidB; rw [if_neg e, if_neg e]; exact ⟨rfl, by rw [← hok]; rfl⟩)
    clear e
    cases ok with
    | false =>
      clear hok
      go_enter Tryz.func35, Tryz.ntmps35
      go_wp2_with (first
        | (go_at_call 70; refine (C2.out _).mono ?_; rintro e w1 ⟨rfl, rfl⟩)
        | (go_at_call 74; refine (C3.out _).mono ?_; rintro e w1 ⟨rfl, hb1⟩; rw [OK.out]; have S1 := Lib.hid ((SV0.out.keep (below_box _ _)).keep hb1); obtain ⟨z0, z1, z2, z3, z4, z5, zf⟩ := S1.out.cells; have PB := pbox hb1; obtain ⟨y0, y1, yf, yl⟩ := PB))
      go_region
      go_wp2
      have Sa := ((S1.out.off (p := w.heap.size + 1) (j := 0) (v := .int .u32 (paV s)) (by omega) (by omega) (fun ad h => (by cases h)) (fun ad h => (by cases h))).off (p := w.heap.size + 1) (j := 1) (v := .int .i64 (pbV s)) (by omega) (by omega) (fun ad h => (by cases h)) (fun ad h => (by cases h))).drew
      have Sb := Sa.put (U := { WV.zero with addr := paV s }) (u1 := SlV.nil) (u2 := SlV.nil) 3 (.int .u32 (paV s)) (by omega) (fun k hk => match k, hk with | 0, _ | 1, _ | 2, _ | 3, _ | 4, _ | 5, _ => rfl | k + 6, h => absurd h (by omega)) ⟨ISl.nil, ISl.nil⟩ (fun ad h => (by cases h)) (fun ad h => (by cases h))
      have S2 := Sb.put (U := readV 9 s) (u1 := SlV.nil) (u2 := SlV.nil) 1 (.int .i64 (pbV s)) (by omega) (fun k hk => match k, hk with | 0, _ | 1, _ | 2, _ | 3, _ | 4, _ | 5, _ => rfl | k + 6, h => absurd h (by omega)) ⟨ISl.nil, ISl.nil⟩ (fun ad h => (by cases h)) (fun ad h => (by cases h))
      obtain ⟨V, hV⟩ : ∃ V, readV 9 s = V := ⟨_, rfl⟩
      obtain ⟨t1, ht1⟩ : ∃ t : SlV, t = SlV.nil := ⟨_, rfl⟩
      obtain ⟨t2, ht2⟩ : ∃ t : SlV, t = SlV.nil := ⟨_, rfl⟩
      rw [hV] at S2 R
      have S3 := (show ∀ wx, SV w w.heap.size V SlV.nil SlV.nil wx → SV w w.heap.size V t1 t2 wx from fun wx h => by rw [ht1, ht2]; exact h) _ S2
      clear hV ht1 ht2 S2 z0 z1 z2 z3 z4 z5 zf
      refine wp_region_text (SV w w.heap.size V t1 t2) (by kernel_rfl) (by kernel_rfl) S3.drew ?_
      repeat
        first
          | (refine Seq.pass rfl ?_; simp only [Act.put, List.setIfInBounds_toArray, List.set_cons_zero, List.set_cons_succ])
          | (refine Seq.run ?_ rfl (fun wx hx => ?_) ?_
             rotate_left
             · first
                 | (refine step_val (x := .tmp 4) hx ?_ ?_ <;> rfl)
                 | (refine step_valput (x := .tmp 4) (y := .tmp 87) hx ?_ ?_ ?_ <;> rfl)
                 | (go_simp
                    refine StepRun.val ?_; exact hx)
             simp only [Act.put, List.setIfInBounds_toArray, List.set_cons_zero, List.set_cons_succ])
      refine Seq.last (fun wx hx => ?_)
      go_wp2
      exact bodyPost_ret (v := .tuple #[valV V t1 t2, .bool false]) (said_results _ _ w.heap.size false V t1 t2 rfl rfl hx.box) rfl ⟨t1, t2, by rw [R.out.1, R.out.2]; rfl, by rw [R.out.1]; exact hx.rd, hx.bel, fun ad h => (hx.o1 ad h).1, fun ad h => (hx.o2 ad h).1⟩
    | true =>
      have VO : VOk (readV 9 s) := vok_pf s
      clear hok
      go_enter Tryz.func35, Tryz.ntmps35
      go_wp2_with (first
        | (go_at_call 70; refine (C2.out _).mono ?_; rintro e w1 ⟨rfl, rfl⟩)
        | (go_at_call 74; refine (C3.out _).mono ?_; rintro e w1 ⟨rfl, hb1⟩; rw [OK.out]; have S1 := Lib.hid ((SV0.out.keep (below_box _ _)).keep hb1); obtain ⟨z0, z1, z2, z3, z4, z5, zf⟩ := S1.out.cells; have PB := pbox hb1; obtain ⟨y0, y1, yf, yl⟩ := PB))
      go_region
      go_wp2
      have Sa := ((S1.out.off (p := w.heap.size + 1) (j := 0) (v := .int .u32 (paV s)) (by omega) (by omega) (fun ad h => (by cases h)) (fun ad h => (by cases h))).off (p := w.heap.size + 1) (j := 1) (v := .int .i64 (pbV s)) (by omega) (by omega) (fun ad h => (by cases h)) (fun ad h => (by cases h))).drew
      have Sb := Sa.put (U := { WV.zero with addr := paV s }) (u1 := SlV.nil) (u2 := SlV.nil) 3 (.int .u32 (paV s)) (by omega) (fun k hk => match k, hk with | 0, _ | 1, _ | 2, _ | 3, _ | 4, _ | 5, _ => rfl | k + 6, h => absurd h (by omega)) ⟨ISl.nil, ISl.nil⟩ (fun ad h => (by cases h)) (fun ad h => (by cases h))
      have S2 := Sb.put (U := readV 9 s) (u1 := SlV.nil) (u2 := SlV.nil) 1 (.int .i64 (pbV s)) (by omega) (fun k hk => match k, hk with | 0, _ | 1, _ | 2, _ | 3, _ | 4, _ | 5, _ => rfl | k + 6, h => absurd h (by omega)) ⟨ISl.nil, ISl.nil⟩ (fun ad h => (by cases h)) (fun ad h => (by cases h))
      obtain ⟨V, hV⟩ : ∃ V, readV 9 s = V := ⟨_, rfl⟩
      obtain ⟨t1, ht1⟩ : ∃ t : SlV, t = SlV.nil := ⟨_, rfl⟩
      obtain ⟨t2, ht2⟩ : ∃ t : SlV, t = SlV.nil := ⟨_, rfl⟩
      rw [hV] at S2 R VO
      have S3 := (show ∀ wx, SV w w.heap.size V SlV.nil SlV.nil wx → SV w w.heap.size V t1 t2 wx from fun wx h => by rw [ht1, ht2]; exact h) _ S2
      have C4 := Lib.hid (fun w h => may_9 V t1 t2 w VO h)
      clear hV ht1 ht2 S2 z0 z1 z2 z3 z4 z5 zf
      refine wp_region_text (SV w w.heap.size V t1 t2) (by kernel_rfl) (by kernel_rfl) S3.drew ?_
      repeat
        first
          | (refine Seq.pass rfl ?_; simp only [Act.put, List.setIfInBounds_toArray, List.set_cons_zero, List.set_cons_succ])
          | (refine Seq.run ?_ rfl (fun wx hx => ?_) ?_
             rotate_left
             · first
                 | (refine step_val (x := .tmp 4) hx ?_ ?_ <;> rfl)
                 | (refine step_valput (x := .tmp 4) (y := .tmp 87) hx ?_ ?_ ?_ <;> rfl)
                 | (go_simp
                    first
                      | (refine StepRun.val ?_; exact hx)
                      | (refine StepRun.call (v := .bool (mayB 9 V)) ?_; refine Calls.mono (C4.out _ hx.rd) ?_; rintro e w' ⟨rfl, hb⟩; exact ⟨rfl, hx.keep hb⟩))
             simp only [Act.put, List.setIfInBounds_toArray, List.set_cons_zero, List.set_cons_succ])
      refine Seq.last (fun wx hx => ?_)
      go_wp2
      exact bodyPost_ret (v := .tuple #[valV V t1 t2, .bool (mayB 9 V)]) (said_results _ _ w.heap.size (mayB 9 V) V t1 t2 rfl rfl hx.box) rfl ⟨t1, t2, by rw [R.out.1, R.out.2]; rfl, by rw [R.out.1]; exact hx.rd, hx.bel, fun ad h => (hx.o1 ad h).1, fun ad h => (hx.o2 ad h).1⟩
set_option maxRecDepth 20000 in
set_option maxHeartbeats 2000000 in
theorem said_10 (s : List UInt8) (w : World) (hs : s.length ≤ 1000000) (hl : Lds w) : Calls Tryz.prog 35 #[.int .i64 10, .string (str s)] w (GotSaid 10 s w) := by
  have C1 := Lib.hid (show ∀ w, Calls Tryz.prog 69 #[.int .i64 10] w fun e w' => e = .returned (.bool true) ∧ w = w' from fun w => opt_any 10 (by decide) w)
  have C2 := Lib.hid (show ∀ w, Calls Tryz.prog 70 #[.int .i64 10] w fun e w' => e = .returned (.tuple #[.int .i64 1, .int .i64 4094]) ∧ w = w' from fun w => lim_any 10 (by decide) w)
  have HL := Lib.hid hl
  clear hl
  by_cases e : s = dash
  · have SV0 := Lib.hid (SV.start w 77)
    have R := Lib.hid (show saidV 10 s = WV.zero ∧ saidB 10 s = true by unfold saidV saidB; rw [if_pos e, if_pos e]; exact ⟨rfl, rfl⟩)
    have d0 : (s == ([45] : List UInt8)) = true := by subst e; rfl
    clear e
    go_enter Tryz.func35, Tryz.ntmps35
    go_wp2_with (go_at_call 69; refine (C1.out _).mono ?_; rintro e w1 ⟨rfl, rfl⟩)
    have S2 := SV0.out
    refine bodyPost_ret (v := .tuple #[valV WV.zero SlV.nil SlV.nil, .bool true]) (said_results _ _ w.heap.size true WV.zero SlV.nil SlV.nil rfl rfl S2.box) rfl ⟨SlV.nil, SlV.nil, by rw [R.out.1, R.out.2], by rw [R.out.1]; exact S2.rd, S2.bel, fun ad h => (by cases h), fun ad h => (by cases h)⟩
  · have d0 : (s == ([45] : List UInt8)) = false := by rw [beq_eq_false_iff_ne]; exact e
    obtain ⟨ok, hok⟩ : ∃ ok, lsB (rdI 1 4094) s = ok := ⟨_, rfl⟩
    have OK := Lib.hid hok
    have C3 := Lib.hid (fun w h => readListF_any s 1 4094 w hs h)
    have SV0 := Lib.hid (SV.start w 77)
    have R := Lib.hid (show saidV 10 s = readV 10 s ∧ saidB 10 s = (ok && mayB 10 (readV 10 s)) by unfold saidV saidB; rw [if_neg e, if_neg e]; exact ⟨rfl, by rw [← hok]; rfl⟩)
    clear e
    cases ok with
    | false =>
      clear hok
      go_enter Tryz.func35, Tryz.ntmps35
      go_wp2_with (first
        | (go_at_call 70; refine (C2.out _).mono ?_; rintro e w1 ⟨rfl, rfl⟩)
        | (go_at_call 75; refine (C3.out _ (HL.out.below (below_box _ _))).mono ?_; rintro e w1 ⟨A, n, c, rfl, hi1, hb1, hf1⟩; rw [OK.out]; have S1 := Lib.hid (SV0.out.keep hb1); obtain ⟨z0, z1, z2, z3, z4, z5, zf⟩ := S1.out.cells))
      have S2 := S1.out.put (U := readV 10 s) (u1 := ⟨A, n, c⟩) (u2 := SlV.nil) 4 (.slice A n c) (by omega) (fun k hk => match k, hk with | 0, _ | 1, _ | 2, _ | 3, _ | 4, _ | 5, _ => rfl | k + 6, h => absurd h (by omega)) ⟨hi1, ISl.nil⟩ (fun ad h => ⟨by have := hf1 ad h; simp at this; omega, by have := hf1 ad h; simp at this; omega⟩) (fun ad h => (by cases h))
      obtain ⟨V, hV⟩ : ∃ V, readV 10 s = V := ⟨_, rfl⟩
      obtain ⟨t1, ht1⟩ : ∃ t : SlV, t = ⟨A, n, c⟩ := ⟨_, rfl⟩
      obtain ⟨t2, ht2⟩ : ∃ t : SlV, t = SlV.nil := ⟨_, rfl⟩
      rw [hV] at S2 R
      have S3 := (show ∀ wx, SV w w.heap.size V ⟨A, n, c⟩ SlV.nil wx → SV w w.heap.size V t1 t2 wx from fun wx h => by rw [ht1, ht2]; exact h) _ S2
      clear hV ht1 ht2 S2 z0 z1 z2 z3 z4 z5 zf
      refine wp_region_text (SV w w.heap.size V t1 t2) (by kernel_rfl) (by kernel_rfl) S3.drew ?_
      repeat
        first
          | (refine Seq.pass rfl ?_; simp only [Act.put, List.setIfInBounds_toArray, List.set_cons_zero, List.set_cons_succ])
          | (refine Seq.run ?_ rfl (fun wx hx => ?_) ?_
             rotate_left
             · first
                 | (refine step_val (x := .tmp 4) hx ?_ ?_ <;> rfl)
                 | (refine step_valput (x := .tmp 4) (y := .tmp 87) hx ?_ ?_ ?_ <;> rfl)
                 | (go_simp
                    refine StepRun.val ?_; exact hx)
             simp only [Act.put, List.setIfInBounds_toArray, List.set_cons_zero, List.set_cons_succ])
      refine Seq.last (fun wx hx => ?_)
      go_wp2
      exact bodyPost_ret (v := .tuple #[valV V t1 t2, .bool false]) (said_results _ _ w.heap.size false V t1 t2 rfl rfl hx.box) rfl ⟨t1, t2, by rw [R.out.1, R.out.2]; rfl, by rw [R.out.1]; exact hx.rd, hx.bel, fun ad h => (hx.o1 ad h).1, fun ad h => (hx.o2 ad h).1⟩
    | true =>
      have VO : VOk (readV 10 s) := vok_list hok
      clear hok
      go_enter Tryz.func35, Tryz.ntmps35
      go_wp2_with (first
        | (go_at_call 70; refine (C2.out _).mono ?_; rintro e w1 ⟨rfl, rfl⟩)
        | (go_at_call 75; refine (C3.out _ (HL.out.below (below_box _ _))).mono ?_; rintro e w1 ⟨A, n, c, rfl, hi1, hb1, hf1⟩; rw [OK.out]; have S1 := Lib.hid (SV0.out.keep hb1); obtain ⟨z0, z1, z2, z3, z4, z5, zf⟩ := S1.out.cells))
      have S2 := S1.out.put (U := readV 10 s) (u1 := ⟨A, n, c⟩) (u2 := SlV.nil) 4 (.slice A n c) (by omega) (fun k hk => match k, hk with | 0, _ | 1, _ | 2, _ | 3, _ | 4, _ | 5, _ => rfl | k + 6, h => absurd h (by omega)) ⟨hi1, ISl.nil⟩ (fun ad h => ⟨by have := hf1 ad h; simp at this; omega, by have := hf1 ad h; simp at this; omega⟩) (fun ad h => (by cases h))
      obtain ⟨V, hV⟩ : ∃ V, readV 10 s = V := ⟨_, rfl⟩
      obtain ⟨t1, ht1⟩ : ∃ t : SlV, t = ⟨A, n, c⟩ := ⟨_, rfl⟩
      obtain ⟨t2, ht2⟩ : ∃ t : SlV, t = SlV.nil := ⟨_, rfl⟩
      rw [hV] at S2 R VO
      have S3 := (show ∀ wx, SV w w.heap.size V ⟨A, n, c⟩ SlV.nil wx → SV w w.heap.size V t1 t2 wx from fun wx h => by rw [ht1, ht2]; exact h) _ S2
      have C4 := Lib.hid (fun w h => may_10 V t1 t2 w VO h)
      clear hV ht1 ht2 S2 z0 z1 z2 z3 z4 z5 zf
      refine wp_region_text (SV w w.heap.size V t1 t2) (by kernel_rfl) (by kernel_rfl) S3.drew ?_
      repeat
        first
          | (refine Seq.pass rfl ?_; simp only [Act.put, List.setIfInBounds_toArray, List.set_cons_zero, List.set_cons_succ])
          | (refine Seq.run ?_ rfl (fun wx hx => ?_) ?_
             rotate_left
             · first
                 | (refine step_val (x := .tmp 4) hx ?_ ?_ <;> rfl)
                 | (refine step_valput (x := .tmp 4) (y := .tmp 87) hx ?_ ?_ ?_ <;> rfl)
                 | (go_simp
                    first
                      | (refine StepRun.val ?_; exact hx)
                      | (refine StepRun.call (v := .bool (mayB 10 V)) ?_; refine Calls.mono (C4.out _ hx.rd) ?_; rintro e w' ⟨rfl, hb⟩; exact ⟨rfl, hx.keep hb⟩))
             simp only [Act.put, List.setIfInBounds_toArray, List.set_cons_zero, List.set_cons_succ])
      refine Seq.last (fun wx hx => ?_)
      go_wp2
      exact bodyPost_ret (v := .tuple #[valV V t1 t2, .bool (mayB 10 V)]) (said_results _ _ w.heap.size (mayB 10 V) V t1 t2 rfl rfl hx.box) rfl ⟨t1, t2, by rw [R.out.1, R.out.2]; rfl, by rw [R.out.1]; exact hx.rd, hx.bel, fun ad h => (hx.o1 ad h).1, fun ad h => (hx.o2 ad h).1⟩
set_option maxRecDepth 20000 in
set_option maxHeartbeats 2000000 in
theorem said_11 (s : List UInt8) (w : World) (hs : s.length ≤ 1000000) (hl : Lds w) : Calls Tryz.prog 35 #[.int .i64 11, .string (str s)] w (GotSaid 11 s w) := by
  have C1 := Lib.hid (show ∀ w, Calls Tryz.prog 69 #[.int .i64 11] w fun e w' => e = .returned (.bool true) ∧ w = w' from fun w => opt_any 11 (by decide) w)
  have C2 := Lib.hid (show ∀ w, Calls Tryz.prog 70 #[.int .i64 11] w fun e w' => e = .returned (.tuple #[.int .i64 1, .int .i64 65535]) ∧ w = w' from fun w => lim_any 11 (by decide) w)
  have HL := Lib.hid hl
  clear hl
  by_cases e : s = dash
  · have SV0 := Lib.hid (SV.start w 77)
    have R := Lib.hid (show saidV 11 s = WV.zero ∧ saidB 11 s = true by unfold saidV saidB; rw [if_pos e, if_pos e]; exact ⟨rfl, rfl⟩)
    have d0 : (s == ([45] : List UInt8)) = true := by subst e; rfl
    clear e
    go_enter Tryz.func35, Tryz.ntmps35
    go_wp2_with (go_at_call 69; refine (C1.out _).mono ?_; rintro e w1 ⟨rfl, rfl⟩)
    have S2 := SV0.out
    refine bodyPost_ret (v := .tuple #[valV WV.zero SlV.nil SlV.nil, .bool true]) (said_results _ _ w.heap.size true WV.zero SlV.nil SlV.nil rfl rfl S2.box) rfl ⟨SlV.nil, SlV.nil, by rw [R.out.1, R.out.2], by rw [R.out.1]; exact S2.rd, S2.bel, fun ad h => (by cases h), fun ad h => (by cases h)⟩
  · have d0 : (s == ([45] : List UInt8)) = false := by rw [beq_eq_false_iff_ne]; exact e
    obtain ⟨ok, hok⟩ : ∃ ok, lsB (rdI 1 65535) s = ok := ⟨_, rfl⟩
    have OK := Lib.hid hok
    have C3 := Lib.hid (fun w h => readListF_any s 1 65535 w hs h)
    have SV0 := Lib.hid (SV.start w 77)
    have R := Lib.hid (show saidV 11 s = readV 11 s ∧ saidB 11 s = (ok && mayB 11 (readV 11 s)) by unfold saidV saidB; rw [if_neg e, if_neg e]; exact ⟨rfl, by rw [← hok]; rfl⟩)
    clear e
    cases ok with
    | false =>
      clear hok
      go_enter Tryz.func35, Tryz.ntmps35
      go_wp2_with (first
        | (go_at_call 70; refine (C2.out _).mono ?_; rintro e w1 ⟨rfl, rfl⟩)
        | (go_at_call 75; refine (C3.out _ (HL.out.below (below_box _ _))).mono ?_; rintro e w1 ⟨A, n, c, rfl, hi1, hb1, hf1⟩; rw [OK.out]; have S1 := Lib.hid (SV0.out.keep hb1); obtain ⟨z0, z1, z2, z3, z4, z5, zf⟩ := S1.out.cells))
      have S2 := S1.out.put (U := readV 11 s) (u1 := ⟨A, n, c⟩) (u2 := SlV.nil) 4 (.slice A n c) (by omega) (fun k hk => match k, hk with | 0, _ | 1, _ | 2, _ | 3, _ | 4, _ | 5, _ => rfl | k + 6, h => absurd h (by omega)) ⟨hi1, ISl.nil⟩ (fun ad h => ⟨by have := hf1 ad h; simp at this; omega, by have := hf1 ad h; simp at this; omega⟩) (fun ad h => (by cases h))
      obtain ⟨V, hV⟩ : ∃ V, readV 11 s = V := ⟨_, rfl⟩
      obtain ⟨t1, ht1⟩ : ∃ t : SlV, t = ⟨A, n, c⟩ := ⟨_, rfl⟩
      obtain ⟨t2, ht2⟩ : ∃ t : SlV, t = SlV.nil := ⟨_, rfl⟩
      rw [hV] at S2 R
      have S3 := (show ∀ wx, SV w w.heap.size V ⟨A, n, c⟩ SlV.nil wx → SV w w.heap.size V t1 t2 wx from fun wx h => by rw [ht1, ht2]; exact h) _ S2
      clear hV ht1 ht2 S2 z0 z1 z2 z3 z4 z5 zf
      refine wp_region_text (SV w w.heap.size V t1 t2) (by kernel_rfl) (by kernel_rfl) S3.drew ?_
      repeat
        first
          | (refine Seq.pass rfl ?_; simp only [Act.put, List.setIfInBounds_toArray, List.set_cons_zero, List.set_cons_succ])
          | (refine Seq.run ?_ rfl (fun wx hx => ?_) ?_
             rotate_left
             · first
                 | (refine step_val (x := .tmp 4) hx ?_ ?_ <;> rfl)
                 | (refine step_valput (x := .tmp 4) (y := .tmp 87) hx ?_ ?_ ?_ <;> rfl)
                 | (go_simp
                    refine StepRun.val ?_; exact hx)
             simp only [Act.put, List.setIfInBounds_toArray, List.set_cons_zero, List.set_cons_succ])
      refine Seq.last (fun wx hx => ?_)
      go_wp2
      exact bodyPost_ret (v := .tuple #[valV V t1 t2, .bool false]) (said_results _ _ w.heap.size false V t1 t2 rfl rfl hx.box) rfl ⟨t1, t2, by rw [R.out.1, R.out.2]; rfl, by rw [R.out.1]; exact hx.rd, hx.bel, fun ad h => (hx.o1 ad h).1, fun ad h => (hx.o2 ad h).1⟩
    | true =>
      have VO : VOk (readV 11 s) := vok_list hok
      clear hok
      go_enter Tryz.func35, Tryz.ntmps35
      go_wp2_with (first
        | (go_at_call 70; refine (C2.out _).mono ?_; rintro e w1 ⟨rfl, rfl⟩)
        | (go_at_call 75; refine (C3.out _ (HL.out.below (below_box _ _))).mono ?_; rintro e w1 ⟨A, n, c, rfl, hi1, hb1, hf1⟩; rw [OK.out]; have S1 := Lib.hid (SV0.out.keep hb1); obtain ⟨z0, z1, z2, z3, z4, z5, zf⟩ := S1.out.cells))
      have S2 := S1.out.put (U := readV 11 s) (u1 := ⟨A, n, c⟩) (u2 := SlV.nil) 4 (.slice A n c) (by omega) (fun k hk => match k, hk with | 0, _ | 1, _ | 2, _ | 3, _ | 4, _ | 5, _ => rfl | k + 6, h => absurd h (by omega)) ⟨hi1, ISl.nil⟩ (fun ad h => ⟨by have := hf1 ad h; simp at this; omega, by have := hf1 ad h; simp at this; omega⟩) (fun ad h => (by cases h))
      obtain ⟨V, hV⟩ : ∃ V, readV 11 s = V := ⟨_, rfl⟩
      obtain ⟨t1, ht1⟩ : ∃ t : SlV, t = ⟨A, n, c⟩ := ⟨_, rfl⟩
      obtain ⟨t2, ht2⟩ : ∃ t : SlV, t = SlV.nil := ⟨_, rfl⟩
      rw [hV] at S2 R VO
      have S3 := (show ∀ wx, SV w w.heap.size V ⟨A, n, c⟩ SlV.nil wx → SV w w.heap.size V t1 t2 wx from fun wx h => by rw [ht1, ht2]; exact h) _ S2
      have C4 := Lib.hid (fun w h => may_11 V t1 t2 w VO h)
      clear hV ht1 ht2 S2 z0 z1 z2 z3 z4 z5 zf
      refine wp_region_text (SV w w.heap.size V t1 t2) (by kernel_rfl) (by kernel_rfl) S3.drew ?_
      repeat
        first
          | (refine Seq.pass rfl ?_; simp only [Act.put, List.setIfInBounds_toArray, List.set_cons_zero, List.set_cons_succ])
          | (refine Seq.run ?_ rfl (fun wx hx => ?_) ?_
             rotate_left
             · first
                 | (refine step_val (x := .tmp 4) hx ?_ ?_ <;> rfl)
                 | (refine step_valput (x := .tmp 4) (y := .tmp 87) hx ?_ ?_ ?_ <;> rfl)
                 | (go_simp
                    first
                      | (refine StepRun.val ?_; exact hx)
                      | (refine StepRun.call (v := .bool (mayB 11 V)) ?_; refine Calls.mono (C4.out _ hx.rd) ?_; rintro e w' ⟨rfl, hb⟩; exact ⟨rfl, hx.keep hb⟩))
             simp only [Act.put, List.setIfInBounds_toArray, List.set_cons_zero, List.set_cons_succ])
      refine Seq.last (fun wx hx => ?_)
      go_wp2
      exact bodyPost_ret (v := .tuple #[valV V t1 t2, .bool (mayB 11 V)]) (said_results _ _ w.heap.size (mayB 11 V) V t1 t2 rfl rfl hx.box) rfl ⟨t1, t2, by rw [R.out.1, R.out.2]; rfl, by rw [R.out.1]; exact hx.rd, hx.bel, fun ad h => (hx.o1 ad h).1, fun ad h => (hx.o2 ad h).1⟩
set_option maxRecDepth 20000 in
set_option maxHeartbeats 2000000 in
theorem said_12 (s : List UInt8) (w : World) (hs : s.length ≤ 1000000) (hl : Lds w) : Calls Tryz.prog 35 #[.int .i64 12, .string (str s)] w (GotSaid 12 s w) := by
  have C1 := Lib.hid (show ∀ w, Calls Tryz.prog 69 #[.int .i64 12] w fun e w' => e = .returned (.bool false) ∧ w = w' from fun w => opt_any 12 (by decide) w)
  have C2 := Lib.hid (show ∀ w, Calls Tryz.prog 70 #[.int .i64 12] w fun e w' => e = .returned (.tuple #[.int .i64 0, .int .i64 0]) ∧ w = w' from fun w => lim_any 12 (by decide) w)
  have HL := Lib.hid hl
  clear hl
  by_cases e : s = dash
  · have SV0 := Lib.hid (SV.start w 77)
    have R := Lib.hid (show saidV 12 s = WV.zero ∧ saidB 12 s = false by unfold saidV saidB; rw [if_pos e, if_pos e]; exact ⟨rfl, rfl⟩)
    have d0 : (s == ([45] : List UInt8)) = true := by subst e; rfl
    clear e
    go_enter Tryz.func35, Tryz.ntmps35
    go_wp2_with (go_at_call 69; refine (C1.out _).mono ?_; rintro e w1 ⟨rfl, rfl⟩)
    have S2 := SV0.out
    refine bodyPost_ret (v := .tuple #[valV WV.zero SlV.nil SlV.nil, .bool false]) (said_results _ _ w.heap.size false WV.zero SlV.nil SlV.nil rfl rfl S2.box) rfl ⟨SlV.nil, SlV.nil, by rw [R.out.1, R.out.2], by rw [R.out.1]; exact S2.rd, S2.bel, fun ad h => (by cases h), fun ad h => (by cases h)⟩
  · have d0 : (s == ([45] : List UInt8)) = false := by rw [beq_eq_false_iff_ne]; exact e
    obtain ⟨ok, hok⟩ : ∃ ok, lsB rdA s = ok := ⟨_, rfl⟩
    have OK := Lib.hid hok
    have C3 := Lib.hid (fun w => readAddrsF_any s w hs)
    have SV0 := Lib.hid (SV.start w 77)
    have R := Lib.hid (show saidV 12 s = readV 12 s ∧ saidB 12 s = (ok && mayB 12 (readV 12 s)) by unfold saidV saidB; rw [if_neg e, if_neg e]; exact ⟨rfl, by rw [← hok]; rfl⟩)
    clear e
    cases ok with
    | false =>
      clear hok
      go_enter Tryz.func35, Tryz.ntmps35
      go_wp2_with (first
        | (go_at_call 70; refine (C2.out _).mono ?_; rintro e w1 ⟨rfl, rfl⟩)
        | (go_at_call 76; refine (C3.out _).mono ?_; rintro e w1 ⟨A, n, c, rfl, hi1, hb1, hf1⟩; rw [OK.out]; have S1 := Lib.hid (SV0.out.keep hb1); obtain ⟨z0, z1, z2, z3, z4, z5, zf⟩ := S1.out.cells))
      have S2 := S1.out.put (U := readV 12 s) (u1 := SlV.nil) (u2 := ⟨A, n, c⟩) 5 (.slice A n c) (by omega) (fun k hk => match k, hk with | 0, _ | 1, _ | 2, _ | 3, _ | 4, _ | 5, _ => rfl | k + 6, h => absurd h (by omega)) ⟨ISl.nil, hi1⟩ (fun ad h => (by cases h)) (fun ad h => ⟨by have := hf1 ad h; simp at this; omega, by have := hf1 ad h; simp at this; omega⟩)
      obtain ⟨V, hV⟩ : ∃ V, readV 12 s = V := ⟨_, rfl⟩
      obtain ⟨t1, ht1⟩ : ∃ t : SlV, t = SlV.nil := ⟨_, rfl⟩
      obtain ⟨t2, ht2⟩ : ∃ t : SlV, t = ⟨A, n, c⟩ := ⟨_, rfl⟩
      rw [hV] at S2 R
      have S3 := (show ∀ wx, SV w w.heap.size V SlV.nil ⟨A, n, c⟩ wx → SV w w.heap.size V t1 t2 wx from fun wx h => by rw [ht1, ht2]; exact h) _ S2
      clear hV ht1 ht2 S2 z0 z1 z2 z3 z4 z5 zf
      refine wp_region_text (SV w w.heap.size V t1 t2) (by kernel_rfl) (by kernel_rfl) S3.drew ?_
      repeat
        first
          | (refine Seq.pass rfl ?_; simp only [Act.put, List.setIfInBounds_toArray, List.set_cons_zero, List.set_cons_succ])
          | (refine Seq.run ?_ rfl (fun wx hx => ?_) ?_
             rotate_left
             · first
                 | (refine step_val (x := .tmp 4) hx ?_ ?_ <;> rfl)
                 | (refine step_valput (x := .tmp 4) (y := .tmp 87) hx ?_ ?_ ?_ <;> rfl)
                 | (go_simp
                    refine StepRun.val ?_; exact hx)
             simp only [Act.put, List.setIfInBounds_toArray, List.set_cons_zero, List.set_cons_succ])
      refine Seq.last (fun wx hx => ?_)
      go_wp2
      exact bodyPost_ret (v := .tuple #[valV V t1 t2, .bool false]) (said_results _ _ w.heap.size false V t1 t2 rfl rfl hx.box) rfl ⟨t1, t2, by rw [R.out.1, R.out.2]; rfl, by rw [R.out.1]; exact hx.rd, hx.bel, fun ad h => (hx.o1 ad h).1, fun ad h => (hx.o2 ad h).1⟩
    | true =>
      have VO : VOk (readV 12 s) := vok_addrs hok
      clear hok
      go_enter Tryz.func35, Tryz.ntmps35
      go_wp2_with (first
        | (go_at_call 70; refine (C2.out _).mono ?_; rintro e w1 ⟨rfl, rfl⟩)
        | (go_at_call 76; refine (C3.out _).mono ?_; rintro e w1 ⟨A, n, c, rfl, hi1, hb1, hf1⟩; rw [OK.out]; have S1 := Lib.hid (SV0.out.keep hb1); obtain ⟨z0, z1, z2, z3, z4, z5, zf⟩ := S1.out.cells))
      have S2 := S1.out.put (U := readV 12 s) (u1 := SlV.nil) (u2 := ⟨A, n, c⟩) 5 (.slice A n c) (by omega) (fun k hk => match k, hk with | 0, _ | 1, _ | 2, _ | 3, _ | 4, _ | 5, _ => rfl | k + 6, h => absurd h (by omega)) ⟨ISl.nil, hi1⟩ (fun ad h => (by cases h)) (fun ad h => ⟨by have := hf1 ad h; simp at this; omega, by have := hf1 ad h; simp at this; omega⟩)
      obtain ⟨V, hV⟩ : ∃ V, readV 12 s = V := ⟨_, rfl⟩
      obtain ⟨t1, ht1⟩ : ∃ t : SlV, t = SlV.nil := ⟨_, rfl⟩
      obtain ⟨t2, ht2⟩ : ∃ t : SlV, t = ⟨A, n, c⟩ := ⟨_, rfl⟩
      rw [hV] at S2 R VO
      have S3 := (show ∀ wx, SV w w.heap.size V SlV.nil ⟨A, n, c⟩ wx → SV w w.heap.size V t1 t2 wx from fun wx h => by rw [ht1, ht2]; exact h) _ S2
      have C4 := Lib.hid (fun w h => may_12 V t1 t2 w VO h)
      clear hV ht1 ht2 S2 z0 z1 z2 z3 z4 z5 zf
      refine wp_region_text (SV w w.heap.size V t1 t2) (by kernel_rfl) (by kernel_rfl) S3.drew ?_
      repeat
        first
          | (refine Seq.pass rfl ?_; simp only [Act.put, List.setIfInBounds_toArray, List.set_cons_zero, List.set_cons_succ])
          | (refine Seq.run ?_ rfl (fun wx hx => ?_) ?_
             rotate_left
             · first
                 | (refine step_val (x := .tmp 4) hx ?_ ?_ <;> rfl)
                 | (refine step_valput (x := .tmp 4) (y := .tmp 87) hx ?_ ?_ ?_ <;> rfl)
                 | (go_simp
                    first
                      | (refine StepRun.val ?_; exact hx)
                      | (refine StepRun.call (v := .bool (mayB 12 V)) ?_; refine Calls.mono (C4.out _ hx.rd) ?_; rintro e w' ⟨rfl, hb⟩; exact ⟨rfl, hx.keep hb⟩))
             simp only [Act.put, List.setIfInBounds_toArray, List.set_cons_zero, List.set_cons_succ])
      refine Seq.last (fun wx hx => ?_)
      go_wp2
      exact bodyPost_ret (v := .tuple #[valV V t1 t2, .bool (mayB 12 V)]) (said_results _ _ w.heap.size (mayB 12 V) V t1 t2 rfl rfl hx.box) rfl ⟨t1, t2, by rw [R.out.1, R.out.2]; rfl, by rw [R.out.1]; exact hx.rd, hx.bel, fun ad h => (hx.o1 ad h).1, fun ad h => (hx.o2 ad h).1⟩
theorem said_any (k : Nat) (hk : k < 13) (s : List UInt8) (w : World) (hs : s.length ≤ 1000000) (hl : Lds w) : Calls Tryz.prog 35 #[.int .i64 (k : Int), .string (str s)] w (GotSaid k s w) := by
  match k, hk with
  | 0, _ => exact said_0 s w hs hl
  | 1, _ => exact said_1 s w hs hl
  | 2, _ => exact said_2 s w hs hl
  | 3, _ => exact said_3 s w hs hl
  | 4, _ => exact said_4 s w hs hl
  | 5, _ => exact said_5 s w hs hl
  | 6, _ => exact said_6 s w hs hl
  | 7, _ => exact said_7 s w hs hl
  | 8, _ => exact said_8 s w hs hl
  | 9, _ => exact said_9 s w hs hl
  | 10, _ => exact said_10 s w hs hl
  | 11, _ => exact said_11 s w hs hl
  | 12, _ => exact said_12 s w hs hl
  | k + 13, h => exact absurd h (by omega)
end Go.Proofs.YtagbfklcbekceaaGreatDoor
