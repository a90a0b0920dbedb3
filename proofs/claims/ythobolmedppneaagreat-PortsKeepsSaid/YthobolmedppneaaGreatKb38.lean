/- Only what the statement at hand leans on. -/
import Derived.Test.YthobolmedppneaaGreatKb31
import Derived.Test.YthobolmedppneaaGreatKb32
import Derived.Test.YthobolmedppneaaGreatKb24
import Derived.Test.YthobolmedppneaaGreatKb37
/- Package ports: put, Device, Port. (Made by mk-npput.py.) -/
namespace Go.Proofs.YthobolmedppneaaGreat
open Go.RowKit

/-! The two puts' figures, beside the document's. -/
theorem pd_dd {N : NV} {L : LV} (h : fitsB N L 1 = true) : pdE N L = ddE N L := by unfold pdE ddE; rw [if_neg (by rw [h]; decide)]
theorem pd_h3 {N : NV} {L : LV} (h : fitsB N L 1 = true) (g : ddE N L ≠ 0) : pdN N L = NV.zero ∧ pdE N L = ddE N L := pd_err (pd_dd h) g
theorem pd_h0 {N : NV} {L : LV} (h : fitsB N L 1 = true) (g : ddE N L = 0) : pdN N L = ddN N L ∧ pdE N L = 0 := by
  have e := (pd_dd h).trans g
  exact ⟨by rw [(dd_ok g).1]; unfold pdN; rw [if_pos e], e⟩
theorem dvF_cases (N : NV) (s : List UInt8) : dvF N s = -1 ∨ 0 ≤ dvF N s := by
  rcases dvF_fst N s _ rfl with ⟨k, _, h, _⟩ | ⟨h, _⟩
  · exact .inr (by omega)
  · exact .inl h
theorem ptF_cases (N : NV) (dev : Int) (s : List UInt8) : ptF N dev s = -1 ∨ 0 ≤ ptF N dev s := by
  rcases ptF_fst N dev s _ rfl with ⟨k, _, h, _⟩ | ⟨h, _⟩
  · exact .inr (by omega)
  · exact .inl h
theorem pp_dp {N : NV} {L : LV} (h : fitsB N L 2 = true) : ppE N L = dpE N L := by
  unfold ppE dpE
  rw [if_neg (by rw [h]; decide)]
  rcases dvF_cases N L.dev with d | d
  · rw [if_pos (show dvF N L.dev < 0 by omega), if_pos d]
  · rw [if_neg (show ¬ dvF N L.dev < 0 by omega), if_neg (show ¬ dvF N L.dev = -1 by omega)]
    rcases ptF_cases N (dvF N L.dev) L.port with p | p
    · rw [if_neg (show ¬ 0 ≤ ptF N (dvF N L.dev) L.port by omega), if_neg (show ¬ ptF N (dvF N L.dev) L.port ≠ -1 from fun g => g p)]
    · rw [if_pos p, if_pos (show ptF N (dvF N L.dev) L.port ≠ -1 by omega)]
theorem pp_h3 {N : NV} {L : LV} (h : fitsB N L 2 = true) (g : dpE N L ≠ 0) : ppN N L = NV.zero ∧ ppE N L = dpE N L := pp_err (pp_dp h) g
theorem pp_h0 {N : NV} {L : LV} (h : fitsB N L 2 = true) (g : dpE N L = 0) : ppN N L = dpN N L ∧ ppE N L = 0 := by
  have e := (pp_dp h).trans g
  exact ⟨by unfold ppN dpN; rw [if_pos e, if_pos g], e⟩
theorem fits_tagged {N : NV} {L : LV} (h : fitsB N L 2 = true) : L.tagged.length ≤ 300 := by
  have f := fits_iff.1 h
  obtain ⟨_, _, _, _, t, e, _, _, _, _, ht⟩ := (rg_kd2 f.2.1 f.1).1
  rw [e]
  exact Nat.le_trans (ls_len ht) (by decide)
/-- a net read where another block is written -/
theorem NRead.st8 {w : World} {q : Nat} {A U : NSl3} {N : NV} {P : Nat → Prop} (h : NRead w P N U) (hq : ¬ P q) (hP : ∀ b, P b → b < w.heap.size) : NRead (Go.Proofs.YthobolmedppneaaGreat.st8 w q A) (allB (Go.Proofs.YthobolmedppneaaGreat.st8 w q A)) N U :=
  h.keep (fun b g => st8_other _ _ _ (fun e => hq (e ▸ g))) (fun b g => by unfold allB; rw [st8_size]; exact hP b g)
theorem RI.readB {α : Type} {R : Rdr α} {w : World} {B : Nat} {T : TypeId} {s : Sl3} {xs : List α} (h : RI R w B (fun _ => False) T s xs) : RSl R w (fun b => B ≤ b ∧ b < w.heap.size) s.A s.n s.c xs := by
  obtain ⟨vs, h1, h2⟩ := h
  obtain ⟨A, n, c⟩ := s
  rcases h1.2 with ⟨hv, hn⟩ | ⟨g, cap, cur, hv, hB, hh, hnc, hm, hs, ht⟩
  · injection hv with e1 e2 e3
    subst e1 e2 e3
    exact ⟨hn, Nat.le_refl _, Nat.zero_le _, fun _ => rfl, fun h => absurd h (Nat.lt_irrefl 0)⟩
  · injection hv with e1 e2 e3
    subst e1 e2 e3
    have hg : g < w.heap.size := by
      rcases Nat.lt_or_ge g w.heap.size with h' | h'
      · exact h'
      · rw [Array.getElem?_eq_none h'] at hh; cases hh
    refine ⟨rfl, hnc, hm, fun e => (by cases e), fun hn => ⟨g, 0, rfl, ⟨hB, hg⟩, hg, fun j x hx => ?_⟩⟩
    obtain ⟨us, g1, g2⟩ := h2.at_ j x hx
    refine ⟨us, R.keep g1 (fun _ _ => rfl) (fun b hb => ⟨hb.2.elim (fun f => f.elim) (fun g => g.1), hb.1⟩), fun i v hv => ?_⟩
    have hi := g2 i v hv
    rw [← ht] at hi
    have hlt : j * R.n + i < xs.length * R.n := by
      have := (List.getElem?_eq_some_iff.1 hi).1
      rw [List.length_take] at this
      omega
    rw [List.getElem?_take, if_pos hlt] at hi
    rw [Nat.zero_add]
    simp only [World.cell?, hh]
    simpa using hi
theorem NOwn.readB {w : World} {B : Nat} {N : NV} {S : NSl3} (h : NOwn w B (fun _ => False) N S) : NRead w (fun b => B ≤ b ∧ b < w.heap.size) N S := ⟨h.dv.readB, h.pt.readB, h.lk.readB, h.dm.readB, h.st.readB, h.fl.readB, h.vr.readB, h.ir.readB⟩
/-- a net of new blocks beside a number -/
def GotPutB (N : NV) (E : Int) (w : World) (e : Ending) (w' : World) : Prop := ∃ U, e = .returned (.tuple #[netV U, .int .i64 E]) ∧ NRead w' (fun b => w.heap.size ≤ b ∧ b < w'.heap.size) N U ∧ Below w.heap.size w w'
theorem none_readF (w : World) (F : Nat → Prop) : NRead w F NV.zero NSl3.nil := ⟨RSl.nil, RSl.nil, RSl.nil, RSl.nil, RSl.nil, RSl.nil, RSl.nil, RSl.nil⟩
def GotCo (N : NV) (w : World) (e : Ending) (w' : World) : Prop := ∃ S, e = .returned (netV S) ∧ NOwn w' w.heap.size (fun _ => False) N S ∧ Below w.heap.size w w'
theorem xncopy_co (N : NV) (S : NSl3) (w : World) (h : NRead w (allB w) N S) (hs : NvSz N) (hm : NmSz N) : Calls Tryz.prog 70 #[netV S] w (GotCo N w) := (xncopy_own N S w h hs hm).mono fun _ _ g => g.own
theorem res_put (tmps : Array Value) (W : World) (S : NSl3) (q : Nat) (E : Int) (h2 : tmps[8]?.getD undef = .pointer (some ⟨q, 0, none⟩)) (h5 : tmps[9]?.getD undef = .int .i64 E) (hb : TBx W q 31 (netC S)) :
    (results Tryz.f20 tmps).run Tryz.prog W = .ok (.tuple #[netV S, .int .i64 E]) W := by
  have t0 := hb.cell 0 _ rfl
  have t1 := hb.cell 1 _ rfl
  have t2 := hb.cell 2 _ rfl
  have t3 := hb.cell 3 _ rfl
  have t4 := hb.cell 4 _ rfl
  have t5 := hb.cell 5 _ rfl
  have t6 := hb.cell 6 _ rfl
  have t7 := hb.cell 7 _ rfl
  clear hb
  unfold netV
  simp [results, Tryz.results20, go_sem, h2, h5, t0, t1, t2, t3, t4, t5, t6, t7]
set_option maxRecDepth 40000 in
set_option maxHeartbeats 20000000 in
theorem put_any (f : FuncId) (hcf : Enters Tryz.prog f) (k : Int) (N : NV) (S : NSl3) (L : LV) (s1 s2 s3 s4 : SlV) (w : World) (h : NRead w (allB w) N S) (hl : LRead w L s1 s2 s3 s4) (hz : NvSz N) (hm : NmSz N) (hL : LvM L) (N' : NV) (E : Int) (RN : NV) (RE : Int)
    (h2 : fitsB N L k = false → RN = NV.zero ∧ RE = 2) (h3 : fitsB N L k = true → E ≠ 0 → RN = NV.zero ∧ RE = E) (h0 : fitsB N L k = true → E = 0 → RN = N' ∧ RE = 0)
    (hf : fitsB N L k = true → ∀ (U : NSl3) (q B : Nat) (t1 t2 t3 t4 : SlV) (w' : World), NOwn w' B (fun _ => False) N U → B ≤ q → TBx w' q 116 (netC U) → LRead w' L t1 t2 t3 t4 → RSl (Rdr.int .i64) w' (InB w' B (fun _ => False)) t1.A t1.n t1.c L.tagged → Calls Tryz.prog f #[.pointer (some ⟨q, 0, none⟩), lineV L t1 t2 t3 t4] w' (GotDr N' E q B (fun _ => False) w')) :
    Calls Tryz.prog 20 #[netV S, lineV L s1 s2 s3 s4, .int .i64 k, .func (.func f) #[] #[]] w (GotPutB RN RE w) := by
  have NA_ := Lib.hid (NBox.new w S 31)
  have LA_ := Lib.hid (line_boxed (w.alloc (.cells #[.slice S.dv.A S.dv.n S.dv.c, .slice S.pt.A S.pt.n S.pt.c, .slice S.lk.A S.lk.n S.lk.c, .slice S.dm.A S.dm.n S.dm.c, .slice S.st.A S.st.n S.st.c, .slice S.fl.A S.fl.n S.fl.c, .slice S.vr.A S.vr.n S.vr.c, .slice S.ir.A S.ir.n S.ir.c] 31)) L s1 s2 s3 s4 37)
  have NT_ := Lib.hid (TBx.new ((w.alloc (.cells #[.slice S.dv.A S.dv.n S.dv.c, .slice S.pt.A S.pt.n S.pt.c, .slice S.lk.A S.lk.n S.lk.c, .slice S.dm.A S.dm.n S.dm.c, .slice S.st.A S.st.n S.st.c, .slice S.fl.A S.fl.n S.fl.c, .slice S.vr.A S.vr.n S.vr.c, .slice S.ir.A S.ir.n S.ir.c] 31)).alloc (.cells #[.int .i64 L.row, .int .i64 L.kind, .string (str L.dev), .string (str L.port), .string (str L.peer), .string (str L.far), .string (str L.name), .int .u64 L.mac, .int .u32 L.addr, .int .i64 L.bits, .int .i64 L.vlan, .int .i64 L.num, .int .i64 L.cost, .slice s1.A s1.n s1.c, .slice s2.A s2.n s2.c, .slice s3.A s3.n s3.c, .slice s4.A s4.n s4.c] 37)) #[.slice none 0 0, .slice none 0 0, .slice none 0 0, .slice none 0 0, .slice none 0 0, .slice none 0 0, .slice none 0 0, .slice none 0 0] 31)
  have UP := Lib.hid (fun (w' : World) (hb : Below w.heap.size w w') => h.up hb)
  have UL := Lib.hid (fun (w' : World) (hb : Below w.heap.size w w') => lread_below hl hb)
  have RT := fun (w' : World) (hb : Below w.heap.size w w') => cright_m L s1 s2 s3 s4 w' (lread_below hl hb) hL
  have NR := fun (w' : World) (hb : Below w.heap.size w w') => xnright_any N S w' (h.up hb) hz
  have CP := fun (w' : World) (hb : Below w.heap.size w w') => xncopy_co N S w' (h.up hb) hz hm
  have CL := fun (w' : World) (hb : Below w.heap.size w w') => copy_nil L s1 s2 s3 s4 w' (lread_below hl hb) hL.sz
  obtain ⟨rv, hrv⟩ : ∃ v, rgB L = v := ⟨_, rfl⟩
  obtain ⟨nv, hnv⟩ : ∃ v, netB N = v := ⟨_, rfl⟩
  have FB : fitsB N L k = (decide (L.kind = k) && (rv && nv)) := by unfold fitsB; rw [hrv, hnv]
  rw [hrv] at RT
  rw [hnv] at NR
  rw [FB] at h2 h3 h0 hf
  unfold netV at NR
  unfold GotCo netV at CP
  unfold GotCpZ at CL
  have RT := Lib.hid RT
  have NR := Lib.hid NR
  have CP := Lib.hid CP
  have CL := Lib.hid CL
  have H2 := Lib.hid h2
  have H3 := Lib.hid h3
  have H0 := Lib.hid h0
  have HF := Lib.hid hf
  have CF := Lib.hid hcf
  have M0 := Lib.hid hL.mac.1
  clear hz hm hL hrv hnv FB h2 h3 h0 hf hcf
  clear h hl
  unfold netV
  rw [show lineV L s1 s2 s3 s4 = .agg #[.int .i64 L.row, .int .i64 L.kind, .string (str L.dev), .string (str L.port), .string (str L.peer), .string (str L.far), .string (str L.name), .int .u64 L.mac, .int .u32 L.addr, .int .i64 L.bits, .int .i64 L.vlan, .int .i64 L.num, .int .i64 L.cost, .slice s1.A s1.n s1.c, .slice s2.A s2.n s2.c, .slice s3.A s3.n s3.c, .slice s4.A s4.n s4.c] from rfl]
  go_enter Tryz.func20, Tryz.ntmps20
  go_upto_region 1 with fail
  obtain ⟨w1, hw1⟩ : ∃ w1, ((w.alloc (.cells #[.slice S.dv.A S.dv.n S.dv.c, .slice S.pt.A S.pt.n S.pt.c, .slice S.lk.A S.lk.n S.lk.c, .slice S.dm.A S.dm.n S.dm.c, .slice S.st.A S.st.n S.st.c, .slice S.fl.A S.fl.n S.fl.c, .slice S.vr.A S.vr.n S.vr.c, .slice S.ir.A S.ir.n S.ir.c] 31)).alloc (.cells #[.int .i64 L.row, .int .i64 L.kind, .string (str L.dev), .string (str L.port), .string (str L.peer), .string (str L.far), .string (str L.name), .int .u64 L.mac, .int .u32 L.addr, .int .i64 L.bits, .int .i64 L.vlan, .int .i64 L.num, .int .i64 L.cost, .slice s1.A s1.n s1.c, .slice s2.A s2.n s2.c, .slice s3.A s3.n s3.c, .slice s4.A s4.n s4.c] 37)).alloc (.cells #[.slice none 0 0, .slice none 0 0, .slice none 0 0, .slice none 0 0, .slice none 0 0, .slice none 0 0, .slice none 0 0, .slice none 0 0] 31) = w1 := ⟨_, rfl⟩
  have B1 := Lib.hid (show Below w.heap.size w w1 by rw [← hw1]; exact (((Below.refl _ _).alloc (Nat.le_refl _) _).alloc (by simp) _).alloc (by simp; omega) _)
  have NB := Lib.hid (show NBox w1 w.heap.size S by rw [← hw1]; exact (NA_.out.below ((Below.refl _ _).alloc (Nat.le_refl _) _)).below ((Below.refl _ _).alloc (Nat.le_refl _) _))
  have LB := Lib.hid (show BoxF w1 (w.heap.size + 1) 17 (lc L s1 s2 s3 s4) by
    have := LA_.out
    rw [show (w.alloc (.cells #[.slice S.dv.A S.dv.n S.dv.c, .slice S.pt.A S.pt.n S.pt.c, .slice S.lk.A S.lk.n S.lk.c, .slice S.dm.A S.dm.n S.dm.c, .slice S.st.A S.st.n S.st.c, .slice S.fl.A S.fl.n S.fl.c, .slice S.vr.A S.vr.n S.vr.c, .slice S.ir.A S.ir.n S.ir.c] 31)).heap.size = w.heap.size + 1 by simp] at this
    rw [← hw1]; exact this.below (by omega) (by first | exact (Below.refl _ _).alloc (by simp) _ | skip))
  have ql1 : w.heap.size + 1 < w1.heap.size := by rw [← hw1]; simp
  have RB := Lib.hid (show TBx w1 (w.heap.size + 2) 31 (netC NSl3.nil) by
    have := NT_.out
    rw [show ((w.alloc (.cells #[.slice S.dv.A S.dv.n S.dv.c, .slice S.pt.A S.pt.n S.pt.c, .slice S.lk.A S.lk.n S.lk.c, .slice S.dm.A S.dm.n S.dm.c, .slice S.st.A S.st.n S.st.c, .slice S.fl.A S.fl.n S.fl.c, .slice S.vr.A S.vr.n S.vr.c, .slice S.ir.A S.ir.n S.ir.c] 31)).alloc (.cells #[.int .i64 L.row, .int .i64 L.kind, .string (str L.dev), .string (str L.port), .string (str L.peer), .string (str L.far), .string (str L.name), .int .u64 L.mac, .int .u32 L.addr, .int .i64 L.bits, .int .i64 L.vlan, .int .i64 L.num, .int .i64 L.cost, .slice s1.A s1.n s1.c, .slice s2.A s2.n s2.c, .slice s3.A s3.n s3.c, .slice s4.A s4.n s4.c] 37)).heap.size = w.heap.size + 2 by simp] at this
    rw [← hw1]; exact this)
  rw [hw1]
  clear hw1 NA_ LA_ NT_
  have KN := Lib.hid (show ∀ wx, Below w1.heap.size w1 wx → (wx.cell? ⟨w.heap.size, 0, none⟩ = some (.slice S.dv.A S.dv.n S.dv.c) ∧ wx.cell? ⟨w.heap.size, 1, none⟩ = some (.slice S.pt.A S.pt.n S.pt.c) ∧ wx.cell? ⟨w.heap.size, 2, none⟩ = some (.slice S.lk.A S.lk.n S.lk.c) ∧ wx.cell? ⟨w.heap.size, 3, none⟩ = some (.slice S.dm.A S.dm.n S.dm.c) ∧ wx.cell? ⟨w.heap.size, 4, none⟩ = some (.slice S.st.A S.st.n S.st.c) ∧ wx.cell? ⟨w.heap.size, 5, none⟩ = some (.slice S.fl.A S.fl.n S.fl.c) ∧ wx.cell? ⟨w.heap.size, 6, none⟩ = some (.slice S.vr.A S.vr.n S.vr.c) ∧ wx.cell? ⟨w.heap.size, 7, none⟩ = some (.slice S.ir.A S.ir.n S.ir.c)) ∧ (wx.cell? ⟨w.heap.size + 1, 1, none⟩ = some (.int .i64 L.kind)) ∧ BoxF wx (w.heap.size + 1) 17 (lc L s1 s2 s3 s4) ∧ NRead wx (allB wx) N S ∧ LRead wx L s1 s2 s3 s4 ∧ Below w.heap.size w wx from fun wx hx => by
    have nb := NB.out.below hx
    have bx := LB.out.below (by omega) hx
    have b0 := B1.out.trans (hx.mono B1.out.size)
    exact ⟨⟨nb.c0, nb.c1, nb.c2, nb.c3, nb.c4, nb.c5, nb.c6, nb.c7⟩, bx.cell 1 (by omega), bx, UP.out _ b0, UL.out _ b0, b0⟩)
  have BS := Lib.hid (Below.refl w1.heap.size w1)
  obtain ⟨⟨f0, f1, f2, f3, f4, f5, f6, f7⟩, g1, lb_, _⟩ := KN.out w1 (Below.refl _ _)
  by_cases hk : L.kind = k
  rotate_left
  · have x1 : (L.kind != k) = true := by simpa using hk
    have EV := Lib.hid (H2.out (by simp [hk]))
    have rb_ := RB.out.below (Below.refl _ _); have rl_ := rb_.lt; have r0 := rb_.cell 0 (.slice none 0 0) rfl; have z0 := rb_.live 0; have r1 := rb_.cell 1 (.slice none 0 0) rfl; have z1 := rb_.live 1; have r2 := rb_.cell 2 (.slice none 0 0) rfl; have z2 := rb_.live 2; have r3 := rb_.cell 3 (.slice none 0 0) rfl; have z3 := rb_.live 3; have r4 := rb_.cell 4 (.slice none 0 0) rfl; have z4 := rb_.live 4; have r5 := rb_.cell 5 (.slice none 0 0) rfl; have z5 := rb_.live 5; have r6 := rb_.cell 6 (.slice none 0 0) rfl; have z6 := rb_.live 6; have r7 := rb_.cell 7 (.slice none 0 0) rfl; have z7 := rb_.live 7
    clear hk rb_
    go_wp2
    refine bodyPost_ret (res_put _ (st8 w1 (w.heap.size + 2) NSl3.nil) NSl3.nil (w.heap.size + 2) 2 rfl rfl ((RB.out.below (Below.refl _ _)).st8 NSl3.nil)) rfl ?_
    rw [EV.out.1, EV.out.2]
    exact ⟨NSl3.nil, rfl, none_readF _ _, Below.st8 (B1.out.trans ((Below.refl _ _).mono B1.out.size)) (by omega) NSl3.nil⟩
  have x1 : (L.kind != k) = false := by simpa using hk
  cases rv with
  | false =>
    have EV := Lib.hid (H2.out (by simp))
    clear hk
    go_wp2_with (first
      | ((with_reducible refine wpList_lineOf ?hg (.tmp 5) ?ho (w.heap.size + 1) ?hx L s1 s2 s3 s4 lb_ ?_); (case hg => rfl); (case ho => rfl); (case hx => rfl))
      | (go_at_call 69; (with_reducible refine (RT.out _ B1.out).mono ?_); rintro e w2 ⟨rfl, b_⟩; have Y2 := Lib.hid b_; have X2 := Lib.hid (trans_below B1.out b_); obtain ⟨⟨f0, f1, f2, f3, f4, f5, f6, f7⟩, g1, lb_, _⟩ := KN.out _ Y2.out; have rb_ := RB.out.below Y2.out; have rl_ := rb_.lt; have r0 := rb_.cell 0 (.slice none 0 0) rfl; have z0 := rb_.live 0; have r1 := rb_.cell 1 (.slice none 0 0) rfl; have z1 := rb_.live 1; have r2 := rb_.cell 2 (.slice none 0 0) rfl; have z2 := rb_.live 2; have r3 := rb_.cell 3 (.slice none 0 0) rfl; have z3 := rb_.live 3; have r4 := rb_.cell 4 (.slice none 0 0) rfl; have z4 := rb_.live 4; have r5 := rb_.cell 5 (.slice none 0 0) rfl; have z5 := rb_.live 5; have r6 := rb_.cell 6 (.slice none 0 0) rfl; have z6 := rb_.live 6; have r7 := rb_.cell 7 (.slice none 0 0) rfl; have z7 := rb_.live 7; clear b_ rb_))
    refine bodyPost_ret (res_put _ (st8 w2 (w.heap.size + 2) NSl3.nil) NSl3.nil (w.heap.size + 2) 2 rfl rfl ((RB.out.below Y2.out).st8 NSl3.nil)) rfl ?_
    rw [EV.out.1, EV.out.2]
    exact ⟨NSl3.nil, rfl, none_readF _ _, Below.st8 (B1.out.trans (Y2.out.mono B1.out.size)) (by omega) NSl3.nil⟩
  | true =>
  cases nv with
  | false =>
    have EV := Lib.hid (H2.out (by simp))
    clear hk
    go_wp2_with (first
      | ((with_reducible refine wpList_lineOf ?hg (.tmp 5) ?ho (w.heap.size + 1) ?hx L s1 s2 s3 s4 lb_ ?_); (case hg => rfl); (case ho => rfl); (case hx => rfl))
      | (go_at_call 69; (with_reducible refine (RT.out _ B1.out).mono ?_); rintro e w2 ⟨rfl, b_⟩; have Y2 := Lib.hid b_; have X2 := Lib.hid (trans_below B1.out b_); obtain ⟨⟨f0, f1, f2, f3, f4, f5, f6, f7⟩, g1, lb_, _⟩ := KN.out _ Y2.out; clear b_)
      | (go_at_call 14; (with_reducible refine (NR.out _ X2.out).mono ?_); rintro e w3 ⟨rfl, b_⟩; have Y3 := Lib.hid (trans_below Y2.out b_); have X3 := Lib.hid (trans_below X2.out b_); obtain ⟨⟨f0, f1, f2, f3, f4, f5, f6, f7⟩, g1, lb_, _⟩ := KN.out _ Y3.out; have rb_ := RB.out.below Y3.out; have rl_ := rb_.lt; have r0 := rb_.cell 0 (.slice none 0 0) rfl; have z0 := rb_.live 0; have r1 := rb_.cell 1 (.slice none 0 0) rfl; have z1 := rb_.live 1; have r2 := rb_.cell 2 (.slice none 0 0) rfl; have z2 := rb_.live 2; have r3 := rb_.cell 3 (.slice none 0 0) rfl; have z3 := rb_.live 3; have r4 := rb_.cell 4 (.slice none 0 0) rfl; have z4 := rb_.live 4; have r5 := rb_.cell 5 (.slice none 0 0) rfl; have z5 := rb_.live 5; have r6 := rb_.cell 6 (.slice none 0 0) rfl; have z6 := rb_.live 6; have r7 := rb_.cell 7 (.slice none 0 0) rfl; have z7 := rb_.live 7; clear b_ rb_))
    refine bodyPost_ret (res_put _ (st8 w3 (w.heap.size + 2) NSl3.nil) NSl3.nil (w.heap.size + 2) 2 rfl rfl ((RB.out.below Y3.out).st8 NSl3.nil)) rfl ?_
    rw [EV.out.1, EV.out.2]
    exact ⟨NSl3.nil, rfl, none_readF _ _, Below.st8 (B1.out.trans (Y3.out.mono B1.out.size)) (by omega) NSl3.nil⟩
  | true =>
  have TR := Lib.hid (show (decide (L.kind = k) && (true && true)) = true by simp [hk])
  clear hk
  go_upto_region 4 with (first
    | ((with_reducible refine wpList_lineOf ?hg (.tmp 5) ?ho (w.heap.size + 1) ?hx L s1 s2 s3 s4 lb_ ?_); (case hg => rfl); (case ho => rfl); (case hx => rfl))
    | (go_at_call 69; (with_reducible refine (RT.out _ B1.out).mono ?_); rintro e w2 ⟨rfl, b_⟩; have Y2 := Lib.hid b_; have X2 := Lib.hid (trans_below B1.out b_); obtain ⟨⟨f0, f1, f2, f3, f4, f5, f6, f7⟩, g1, lb_, _⟩ := KN.out _ Y2.out; clear b_)
    | (go_at_call 14; (with_reducible refine (NR.out _ X2.out).mono ?_); rintro e w3 ⟨rfl, b_⟩; have Y3 := Lib.hid (trans_below Y2.out b_); have X3 := Lib.hid (trans_below X2.out b_); obtain ⟨⟨f0, f1, f2, f3, f4, f5, f6, f7⟩, g1, lb_, _⟩ := KN.out _ Y3.out; clear b_)
    | (go_at_call 70; (with_reducible refine (CP.out _ X3.out).mono ?_); rintro e w4 ⟨U, rfl, hown, hb_⟩; have OW := Lib.hid hown; have B4 := Lib.hid hb_; have Y4 := Lib.hid (trans_below Y3.out hb_); clear hown hb_))
  obtain ⟨w5, hw5⟩ : ∃ w5, w4.alloc (.cells #[.slice U.dv.A U.dv.n U.dv.c, .slice U.pt.A U.pt.n U.pt.c, .slice U.lk.A U.lk.n U.lk.c, .slice U.dm.A U.dm.n U.dm.c, .slice U.st.A U.st.n U.st.c, .slice U.fl.A U.fl.n U.fl.c, .slice U.vr.A U.vr.n U.vr.c, .slice U.ir.A U.ir.n U.ir.c] 116) = w5 := ⟨_, rfl⟩
  have A5 : Below w4.heap.size w4 w5 := by rw [← hw5]; exact (Below.refl _ _).alloc (Nat.le_refl _) _
  obtain ⟨q7, hq7⟩ : ∃ q, w4.heap.size = q := ⟨_, rfl⟩
  have O5 := Lib.hid (OW.out.up A5)
  have T5 := Lib.hid (show TBx w5 q7 116 (netC U) by rw [← hw5, ← hq7]; exact TBx.new w4 _ _)
  have Y5 := Lib.hid (trans_below Y4.out A5)
  have X5 := Lib.hid (B1.out.trans (Y5.out.mono B1.out.size))
  have G5 := Lib.hid (show w3.heap.size ≤ q7 ∧ q7 < w5.heap.size from ⟨by rw [← hq7]; exact B4.out.size, T5.out.lt⟩)
  have Z3 := Lib.hid (show w.heap.size + 2 < w3.heap.size by have := (RB.out.below Y3.out).lt; exact this)
  rw [hw5, hq7]
  clear hw5 hq7 A5 f0 f1 f2 f3 f4 f5 f6 f7 g1 lb_ x1
  obtain ⟨_, _, lb_, _⟩ := KN.out _ Y5.out
  go_upto_region 5 with (first
    | ((with_reducible refine wpList_lineOf ?hg (.tmp 5) ?ho (w.heap.size + 1) ?hx L s1 s2 s3 s4 lb_ ?_); (case hg => rfl); (case ho => rfl); (case hx => rfl))
    | (go_at_call 71; (with_reducible refine (CL.out _ X5.out).mono ?_); rintro e w6 ⟨t1, t2, t3, t4, rfl, hlr, hnew, hty, hnil, hb_⟩; have LR := Lib.hid hlr; have TG := Lib.hid (isl_own hlr.1 hnew.1 hty.1 hnil.1); have Y6 := Lib.hid (trans_below Y5.out hb_); have T6 := Lib.hid (T5.out.below hb_); have O6 := Lib.hid (O5.out.up hb_); have S6 := Lib.hid hb_.size; clear hlr hnew hty hnil hb_)
    | ((rw [CF.out _ _]); (refine (HF.out TR.out U q7 w3.heap.size t1 t2 t3 t4 _ O6.out G5.out.1 T6.out LR.out (TG.out.keep (fun _ _ => rfl) (fun b hb => ⟨hb.2.lt, .inr ⟨by have := G5.out; have := hb.1; omega, hb.2⟩⟩))).mono ?_); rintro e w7 ⟨U9, rfl, htb, hno, hb_⟩; have T7 := Lib.hid htb; have O7 := Lib.hid hno; have B7 := Lib.hid hb_; clear htb hno hb_))
  clear lb_
  have Y7 := Lib.hid (show Below w1.heap.size w1 w7 from Y6.out.trans (B7.out.mono (by have := Y3.out.size; exact this)))
  have rb_ := RB.out.below Y7.out; have rl_ := rb_.lt; have r0 := rb_.cell 0 (.slice none 0 0) rfl; have z0 := rb_.live 0; have r1 := rb_.cell 1 (.slice none 0 0) rfl; have z1 := rb_.live 1; have r2 := rb_.cell 2 (.slice none 0 0) rfl; have z2 := rb_.live 2; have r3 := rb_.cell 3 (.slice none 0 0) rfl; have z3 := rb_.live 3; have r4 := rb_.cell 4 (.slice none 0 0) rfl; have z4 := rb_.live 4; have r5 := rb_.cell 5 (.slice none 0 0) rfl; have z5 := rb_.live 5; have r6 := rb_.cell 6 (.slice none 0 0) rfl; have z6 := rb_.live 6; have r7 := rb_.cell 7 (.slice none 0 0) rfl; have z7 := rb_.live 7
  by_cases he : E = 0
  rotate_left
  · have x1 : (E != 0) = true := by simpa using he
    have EV := Lib.hid (H3.out TR.out he)
    clear he rb_
    go_wp2
    refine bodyPost_ret (res_put _ (st8 w7 (w.heap.size + 2) NSl3.nil) NSl3.nil (w.heap.size + 2) E rfl rfl ((RB.out.below Y7.out).st8 NSl3.nil)) rfl ?_
    rw [EV.out.1, EV.out.2]
    exact ⟨NSl3.nil, rfl, none_readF _ _, Below.st8 (B1.out.trans (Y7.out.mono B1.out.size)) (by omega) NSl3.nil⟩
  have x1 : (E != 0) = false := by simpa using he
  have EV := Lib.hid (H0.out TR.out he)
  have tl_ := T7.out.lt
  have t_0 := T7.out.cell 0 (.slice U9.dv.A U9.dv.n U9.dv.c) rfl
  have t_1 := T7.out.cell 1 (.slice U9.pt.A U9.pt.n U9.pt.c) rfl
  have t_2 := T7.out.cell 2 (.slice U9.lk.A U9.lk.n U9.lk.c) rfl
  have t_3 := T7.out.cell 3 (.slice U9.dm.A U9.dm.n U9.dm.c) rfl
  have t_4 := T7.out.cell 4 (.slice U9.st.A U9.st.n U9.st.c) rfl
  have t_5 := T7.out.cell 5 (.slice U9.fl.A U9.fl.n U9.fl.c) rfl
  have t_6 := T7.out.cell 6 (.slice U9.vr.A U9.vr.n U9.vr.c) rfl
  have t_7 := T7.out.cell 7 (.slice U9.ir.A U9.ir.n U9.ir.c) rfl
  clear he rb_
  go_wp2
  refine bodyPost_ret (res_put _ (st8 w7 (w.heap.size + 2) U9) U9 (w.heap.size + 2) 0 rfl rfl ((RB.out.below Y7.out).st8 U9)) rfl ?_
  rw [EV.out.1, EV.out.2]
  have ON := O7.out.far (w' := st8 w7 (w.heap.size + 2) U9) (q := w.heap.size + 2) (by rw [st8_size]; exact Nat.le_refl _) (fun b hb => st8_other _ _ _ hb) Z3.out (fun g => g)
  exact ⟨U9, rfl, ON.readB.keep (fun _ _ => rfl) (fun b g => ⟨by have := B1.out.size; have := Y3.out.size; have := g.1; omega, g.2⟩), Below.st8 (B1.out.trans (Y7.out.mono B1.out.size)) (by omega) U9⟩
theorem res_pdev (tmps : Array Value) (W : World) (S : NSl3) (q : Nat) (E : Int) (h2 : tmps[4]?.getD undef = .pointer (some ⟨q, 0, none⟩)) (h5 : tmps[5]?.getD undef = .int .i64 E) (hb : TBx W q 31 (netC S)) :
    (results Tryz.f7 tmps).run Tryz.prog W = .ok (.tuple #[netV S, .int .i64 E]) W := by
  have t0 := hb.cell 0 _ rfl
  have t1 := hb.cell 1 _ rfl
  have t2 := hb.cell 2 _ rfl
  have t3 := hb.cell 3 _ rfl
  have t4 := hb.cell 4 _ rfl
  have t5 := hb.cell 5 _ rfl
  have t6 := hb.cell 6 _ rfl
  have t7 := hb.cell 7 _ rfl
  clear hb
  unfold netV
  simp [results, Tryz.results7, go_sem, h2, h5, t0, t1, t2, t3, t4, t5, t6, t7]
theorem enters_pdev : Enters Tryz.prog 21 := enters_of Tryz.func21 (by kernel_rfl) rfl
set_option maxRecDepth 40000 in
set_option maxHeartbeats 8000000 in
theorem pdev_any (N : NV) (S : NSl3) (L : LV) (s1 s2 s3 s4 : SlV) (w : World) (h : NRead w (allB w) N S) (hl : LRead w L s1 s2 s3 s4) (hz : NvSz N) (hm : NmSz N) (hL : LvM L) : Calls Tryz.prog 7 #[netV S, lineV L s1 s2 s3 s4] w (GotPut (pdN N L) (pdE N L) w) := by
  have PU := fun (w' : World) (hb : Below w.heap.size w w') => put_any 21 enters_pdev 1 N S L s1 s2 s3 s4 w' (h.up hb) (lread_below hl hb) hz hm hL (ddN N L) (ddE N L) (pdN N L) (pdE N L) pd_2 pd_h3 pd_h0 (fun f U q B t1 t2 t3 t4 w' hN hB hb _ _ => ddev_any N U q B _ L t1 t2 t3 t4 w' hN (fun _ g => g.elim) hB hb hz (fits_iff.1 f).2.2 (by have := hL.sz.txt.1; omega))
  have NA_ := Lib.hid (NBox.new w S 31)
  have LA_ := Lib.hid (line_boxed (w.alloc (.cells #[.slice S.dv.A S.dv.n S.dv.c, .slice S.pt.A S.pt.n S.pt.c, .slice S.lk.A S.lk.n S.lk.c, .slice S.dm.A S.dm.n S.dm.c, .slice S.st.A S.st.n S.st.c, .slice S.fl.A S.fl.n S.fl.c, .slice S.vr.A S.vr.n S.vr.c, .slice S.ir.A S.ir.n S.ir.c] 31)) L s1 s2 s3 s4 37)
  have NT_ := Lib.hid (TBx.new ((w.alloc (.cells #[.slice S.dv.A S.dv.n S.dv.c, .slice S.pt.A S.pt.n S.pt.c, .slice S.lk.A S.lk.n S.lk.c, .slice S.dm.A S.dm.n S.dm.c, .slice S.st.A S.st.n S.st.c, .slice S.fl.A S.fl.n S.fl.c, .slice S.vr.A S.vr.n S.vr.c, .slice S.ir.A S.ir.n S.ir.c] 31)).alloc (.cells #[.int .i64 L.row, .int .i64 L.kind, .string (str L.dev), .string (str L.port), .string (str L.peer), .string (str L.far), .string (str L.name), .int .u64 L.mac, .int .u32 L.addr, .int .i64 L.bits, .int .i64 L.vlan, .int .i64 L.num, .int .i64 L.cost, .slice s1.A s1.n s1.c, .slice s2.A s2.n s2.c, .slice s3.A s3.n s3.c, .slice s4.A s4.n s4.c] 37)) #[.slice none 0 0, .slice none 0 0, .slice none 0 0, .slice none 0 0, .slice none 0 0, .slice none 0 0, .slice none 0 0, .slice none 0 0] 31)
  have UP := Lib.hid (fun (w' : World) (hb : Below w.heap.size w w') => h.up hb)
  have UL := Lib.hid (fun (w' : World) (hb : Below w.heap.size w w') => lread_below hl hb)
  obtain ⟨RN, hRN⟩ : ∃ v, pdN N L = v := ⟨_, rfl⟩
  obtain ⟨RE, hRE⟩ : ∃ v, pdE N L = v := ⟨_, rfl⟩
  rw [hRN, hRE] at PU ⊢
  clear hRN hRE
  unfold GotPutB netV at PU
  have PU := Lib.hid PU
  clear hz hm hL
  clear h hl
  unfold netV
  rw [show lineV L s1 s2 s3 s4 = .agg #[.int .i64 L.row, .int .i64 L.kind, .string (str L.dev), .string (str L.port), .string (str L.peer), .string (str L.far), .string (str L.name), .int .u64 L.mac, .int .u32 L.addr, .int .i64 L.bits, .int .i64 L.vlan, .int .i64 L.num, .int .i64 L.cost, .slice s1.A s1.n s1.c, .slice s2.A s2.n s2.c, .slice s3.A s3.n s3.c, .slice s4.A s4.n s4.c] from rfl]
  go_enter Tryz.func7, Tryz.ntmps7
  go_upto_region 1 with fail
  obtain ⟨w1, hw1⟩ : ∃ w1, ((w.alloc (.cells #[.slice S.dv.A S.dv.n S.dv.c, .slice S.pt.A S.pt.n S.pt.c, .slice S.lk.A S.lk.n S.lk.c, .slice S.dm.A S.dm.n S.dm.c, .slice S.st.A S.st.n S.st.c, .slice S.fl.A S.fl.n S.fl.c, .slice S.vr.A S.vr.n S.vr.c, .slice S.ir.A S.ir.n S.ir.c] 31)).alloc (.cells #[.int .i64 L.row, .int .i64 L.kind, .string (str L.dev), .string (str L.port), .string (str L.peer), .string (str L.far), .string (str L.name), .int .u64 L.mac, .int .u32 L.addr, .int .i64 L.bits, .int .i64 L.vlan, .int .i64 L.num, .int .i64 L.cost, .slice s1.A s1.n s1.c, .slice s2.A s2.n s2.c, .slice s3.A s3.n s3.c, .slice s4.A s4.n s4.c] 37)).alloc (.cells #[.slice none 0 0, .slice none 0 0, .slice none 0 0, .slice none 0 0, .slice none 0 0, .slice none 0 0, .slice none 0 0, .slice none 0 0] 31) = w1 := ⟨_, rfl⟩
  have B1 := Lib.hid (show Below w.heap.size w w1 by rw [← hw1]; exact (((Below.refl _ _).alloc (Nat.le_refl _) _).alloc (by simp) _).alloc (by simp; omega) _)
  have NB := Lib.hid (show NBox w1 w.heap.size S by rw [← hw1]; exact (NA_.out.below ((Below.refl _ _).alloc (Nat.le_refl _) _)).below ((Below.refl _ _).alloc (Nat.le_refl _) _))
  have LB := Lib.hid (show BoxF w1 (w.heap.size + 1) 17 (lc L s1 s2 s3 s4) by
    have := LA_.out
    rw [show (w.alloc (.cells #[.slice S.dv.A S.dv.n S.dv.c, .slice S.pt.A S.pt.n S.pt.c, .slice S.lk.A S.lk.n S.lk.c, .slice S.dm.A S.dm.n S.dm.c, .slice S.st.A S.st.n S.st.c, .slice S.fl.A S.fl.n S.fl.c, .slice S.vr.A S.vr.n S.vr.c, .slice S.ir.A S.ir.n S.ir.c] 31)).heap.size = w.heap.size + 1 by simp] at this
    rw [← hw1]; exact this.below (by omega) (by first | exact (Below.refl _ _).alloc (by simp) _ | skip))
  have ql1 : w.heap.size + 1 < w1.heap.size := by rw [← hw1]; simp
  have RB := Lib.hid (show TBx w1 (w.heap.size + 2) 31 (netC NSl3.nil) by
    have := NT_.out
    rw [show ((w.alloc (.cells #[.slice S.dv.A S.dv.n S.dv.c, .slice S.pt.A S.pt.n S.pt.c, .slice S.lk.A S.lk.n S.lk.c, .slice S.dm.A S.dm.n S.dm.c, .slice S.st.A S.st.n S.st.c, .slice S.fl.A S.fl.n S.fl.c, .slice S.vr.A S.vr.n S.vr.c, .slice S.ir.A S.ir.n S.ir.c] 31)).alloc (.cells #[.int .i64 L.row, .int .i64 L.kind, .string (str L.dev), .string (str L.port), .string (str L.peer), .string (str L.far), .string (str L.name), .int .u64 L.mac, .int .u32 L.addr, .int .i64 L.bits, .int .i64 L.vlan, .int .i64 L.num, .int .i64 L.cost, .slice s1.A s1.n s1.c, .slice s2.A s2.n s2.c, .slice s3.A s3.n s3.c, .slice s4.A s4.n s4.c] 37)).heap.size = w.heap.size + 2 by simp] at this
    rw [← hw1]; exact this)
  rw [hw1]
  clear hw1 NA_ LA_ NT_
  have KN := Lib.hid (show ∀ wx, Below w1.heap.size w1 wx → (wx.cell? ⟨w.heap.size, 0, none⟩ = some (.slice S.dv.A S.dv.n S.dv.c) ∧ wx.cell? ⟨w.heap.size, 1, none⟩ = some (.slice S.pt.A S.pt.n S.pt.c) ∧ wx.cell? ⟨w.heap.size, 2, none⟩ = some (.slice S.lk.A S.lk.n S.lk.c) ∧ wx.cell? ⟨w.heap.size, 3, none⟩ = some (.slice S.dm.A S.dm.n S.dm.c) ∧ wx.cell? ⟨w.heap.size, 4, none⟩ = some (.slice S.st.A S.st.n S.st.c) ∧ wx.cell? ⟨w.heap.size, 5, none⟩ = some (.slice S.fl.A S.fl.n S.fl.c) ∧ wx.cell? ⟨w.heap.size, 6, none⟩ = some (.slice S.vr.A S.vr.n S.vr.c) ∧ wx.cell? ⟨w.heap.size, 7, none⟩ = some (.slice S.ir.A S.ir.n S.ir.c)) ∧ (wx.cell? ⟨w.heap.size + 1, 1, none⟩ = some (.int .i64 L.kind)) ∧ BoxF wx (w.heap.size + 1) 17 (lc L s1 s2 s3 s4) ∧ NRead wx (allB wx) N S ∧ LRead wx L s1 s2 s3 s4 ∧ Below w.heap.size w wx from fun wx hx => by
    have nb := NB.out.below hx
    have bx := LB.out.below (by omega) hx
    have b0 := B1.out.trans (hx.mono B1.out.size)
    exact ⟨⟨nb.c0, nb.c1, nb.c2, nb.c3, nb.c4, nb.c5, nb.c6, nb.c7⟩, bx.cell 1 (by omega), bx, UP.out _ b0, UL.out _ b0, b0⟩)
  have BS := Lib.hid (Below.refl w1.heap.size w1)
  obtain ⟨⟨f0, f1, f2, f3, f4, f5, f6, f7⟩, g1, lb_, _⟩ := KN.out w1 (Below.refl _ _)
  go_wp2_with (first
    | ((with_reducible refine wpList_lineOf ?hg (.tmp 3) ?ho (w.heap.size + 1) ?hx L s1 s2 s3 s4 lb_ ?_); (case hg => rfl); (case ho => rfl); (case hx => rfl))
    | (go_at_call 20; (with_reducible refine (PU.out _ B1.out).mono ?_); rintro e w2 ⟨U, rfl, hr, b_⟩; have R2 := Lib.hid hr; have Y2 := Lib.hid b_; have rb_ := RB.out.below Y2.out; have rl_ := rb_.lt; have r0 := rb_.cell 0 (.slice none 0 0) rfl; have z0 := rb_.live 0; have r1 := rb_.cell 1 (.slice none 0 0) rfl; have z1 := rb_.live 1; have r2 := rb_.cell 2 (.slice none 0 0) rfl; have z2 := rb_.live 2; have r3 := rb_.cell 3 (.slice none 0 0) rfl; have z3 := rb_.live 3; have r4 := rb_.cell 4 (.slice none 0 0) rfl; have z4 := rb_.live 4; have r5 := rb_.cell 5 (.slice none 0 0) rfl; have z5 := rb_.live 5; have r6 := rb_.cell 6 (.slice none 0 0) rfl; have z6 := rb_.live 6; have r7 := rb_.cell 7 (.slice none 0 0) rfl; have z7 := rb_.live 7; clear hr b_ rb_))
  refine bodyPost_ret (res_pdev _ (st8 w2 (w.heap.size + 2) U) U (w.heap.size + 2) RE rfl rfl ((RB.out.below Y2.out).st8 U)) rfl ?_
  exact ⟨U, rfl, R2.out.st8 (q := w.heap.size + 2) (A := U) (fun g => by have := g.1; have := ql1; have := RB.out.lt; omega) (fun b g => g.2), Below.st8 (B1.out.trans (Y2.out.mono B1.out.size)) (by omega) U⟩
theorem res_pport (tmps : Array Value) (W : World) (S : NSl3) (q : Nat) (E : Int) (h2 : tmps[4]?.getD undef = .pointer (some ⟨q, 0, none⟩)) (h5 : tmps[5]?.getD undef = .int .i64 E) (hb : TBx W q 31 (netC S)) :
    (results Tryz.f9 tmps).run Tryz.prog W = .ok (.tuple #[netV S, .int .i64 E]) W := by
  have t0 := hb.cell 0 _ rfl
  have t1 := hb.cell 1 _ rfl
  have t2 := hb.cell 2 _ rfl
  have t3 := hb.cell 3 _ rfl
  have t4 := hb.cell 4 _ rfl
  have t5 := hb.cell 5 _ rfl
  have t6 := hb.cell 6 _ rfl
  have t7 := hb.cell 7 _ rfl
  clear hb
  unfold netV
  simp [results, Tryz.results9, go_sem, h2, h5, t0, t1, t2, t3, t4, t5, t6, t7]
theorem enters_pport : Enters Tryz.prog 23 := enters_of Tryz.func23 (by kernel_rfl) rfl
set_option maxRecDepth 40000 in
set_option maxHeartbeats 8000000 in
theorem pport_any (N : NV) (S : NSl3) (L : LV) (s1 s2 s3 s4 : SlV) (w : World) (h : NRead w (allB w) N S) (hl : LRead w L s1 s2 s3 s4) (hz : NvSz N) (hm : NmSz N) (hL : LvM L) : Calls Tryz.prog 9 #[netV S, lineV L s1 s2 s3 s4] w (GotPut (ppN N L) (ppE N L) w) := by
  have PU := fun (w' : World) (hb : Below w.heap.size w w') => put_any 23 enters_pport 2 N S L s1 s2 s3 s4 w' (h.up hb) (lread_below hl hb) hz hm hL (dpN N L) (dpE N L) (ppN N L) (ppE N L) pp_2 pp_h3 pp_h0 (fun f U q B t1 t2 t3 t4 w' hN hB hb hl2 ht => dport_any N U q B _ L t1 t2 t3 t4 w' hN (fun _ g => g.elim) hB hb hz (fits_iff.1 f).2.2 hl2 ht (fits_tagged f) (by have := hL.sz.txt.1; omega) (by have := hL.sz.txt.2.1; omega))
  have NA_ := Lib.hid (NBox.new w S 31)
  have LA_ := Lib.hid (line_boxed (w.alloc (.cells #[.slice S.dv.A S.dv.n S.dv.c, .slice S.pt.A S.pt.n S.pt.c, .slice S.lk.A S.lk.n S.lk.c, .slice S.dm.A S.dm.n S.dm.c, .slice S.st.A S.st.n S.st.c, .slice S.fl.A S.fl.n S.fl.c, .slice S.vr.A S.vr.n S.vr.c, .slice S.ir.A S.ir.n S.ir.c] 31)) L s1 s2 s3 s4 37)
  have NT_ := Lib.hid (TBx.new ((w.alloc (.cells #[.slice S.dv.A S.dv.n S.dv.c, .slice S.pt.A S.pt.n S.pt.c, .slice S.lk.A S.lk.n S.lk.c, .slice S.dm.A S.dm.n S.dm.c, .slice S.st.A S.st.n S.st.c, .slice S.fl.A S.fl.n S.fl.c, .slice S.vr.A S.vr.n S.vr.c, .slice S.ir.A S.ir.n S.ir.c] 31)).alloc (.cells #[.int .i64 L.row, .int .i64 L.kind, .string (str L.dev), .string (str L.port), .string (str L.peer), .string (str L.far), .string (str L.name), .int .u64 L.mac, .int .u32 L.addr, .int .i64 L.bits, .int .i64 L.vlan, .int .i64 L.num, .int .i64 L.cost, .slice s1.A s1.n s1.c, .slice s2.A s2.n s2.c, .slice s3.A s3.n s3.c, .slice s4.A s4.n s4.c] 37)) #[.slice none 0 0, .slice none 0 0, .slice none 0 0, .slice none 0 0, .slice none 0 0, .slice none 0 0, .slice none 0 0, .slice none 0 0] 31)
  have UP := Lib.hid (fun (w' : World) (hb : Below w.heap.size w w') => h.up hb)
  have UL := Lib.hid (fun (w' : World) (hb : Below w.heap.size w w') => lread_below hl hb)
  obtain ⟨RN, hRN⟩ : ∃ v, ppN N L = v := ⟨_, rfl⟩
  obtain ⟨RE, hRE⟩ : ∃ v, ppE N L = v := ⟨_, rfl⟩
  rw [hRN, hRE] at PU ⊢
  clear hRN hRE
  unfold GotPutB netV at PU
  have PU := Lib.hid PU
  clear hz hm hL
  clear h hl
  unfold netV
  rw [show lineV L s1 s2 s3 s4 = .agg #[.int .i64 L.row, .int .i64 L.kind, .string (str L.dev), .string (str L.port), .string (str L.peer), .string (str L.far), .string (str L.name), .int .u64 L.mac, .int .u32 L.addr, .int .i64 L.bits, .int .i64 L.vlan, .int .i64 L.num, .int .i64 L.cost, .slice s1.A s1.n s1.c, .slice s2.A s2.n s2.c, .slice s3.A s3.n s3.c, .slice s4.A s4.n s4.c] from rfl]
  go_enter Tryz.func9, Tryz.ntmps9
  go_upto_region 1 with fail
  obtain ⟨w1, hw1⟩ : ∃ w1, ((w.alloc (.cells #[.slice S.dv.A S.dv.n S.dv.c, .slice S.pt.A S.pt.n S.pt.c, .slice S.lk.A S.lk.n S.lk.c, .slice S.dm.A S.dm.n S.dm.c, .slice S.st.A S.st.n S.st.c, .slice S.fl.A S.fl.n S.fl.c, .slice S.vr.A S.vr.n S.vr.c, .slice S.ir.A S.ir.n S.ir.c] 31)).alloc (.cells #[.int .i64 L.row, .int .i64 L.kind, .string (str L.dev), .string (str L.port), .string (str L.peer), .string (str L.far), .string (str L.name), .int .u64 L.mac, .int .u32 L.addr, .int .i64 L.bits, .int .i64 L.vlan, .int .i64 L.num, .int .i64 L.cost, .slice s1.A s1.n s1.c, .slice s2.A s2.n s2.c, .slice s3.A s3.n s3.c, .slice s4.A s4.n s4.c] 37)).alloc (.cells #[.slice none 0 0, .slice none 0 0, .slice none 0 0, .slice none 0 0, .slice none 0 0, .slice none 0 0, .slice none 0 0, .slice none 0 0] 31) = w1 := ⟨_, rfl⟩
  have B1 := Lib.hid (show Below w.heap.size w w1 by rw [← hw1]; exact (((Below.refl _ _).alloc (Nat.le_refl _) _).alloc (by simp) _).alloc (by simp; omega) _)
  have NB := Lib.hid (show NBox w1 w.heap.size S by rw [← hw1]; exact (NA_.out.below ((Below.refl _ _).alloc (Nat.le_refl _) _)).below ((Below.refl _ _).alloc (Nat.le_refl _) _))
  have LB := Lib.hid (show BoxF w1 (w.heap.size + 1) 17 (lc L s1 s2 s3 s4) by
    have := LA_.out
    rw [show (w.alloc (.cells #[.slice S.dv.A S.dv.n S.dv.c, .slice S.pt.A S.pt.n S.pt.c, .slice S.lk.A S.lk.n S.lk.c, .slice S.dm.A S.dm.n S.dm.c, .slice S.st.A S.st.n S.st.c, .slice S.fl.A S.fl.n S.fl.c, .slice S.vr.A S.vr.n S.vr.c, .slice S.ir.A S.ir.n S.ir.c] 31)).heap.size = w.heap.size + 1 by simp] at this
    rw [← hw1]; exact this.below (by omega) (by first | exact (Below.refl _ _).alloc (by simp) _ | skip))
  have ql1 : w.heap.size + 1 < w1.heap.size := by rw [← hw1]; simp
  have RB := Lib.hid (show TBx w1 (w.heap.size + 2) 31 (netC NSl3.nil) by
    have := NT_.out
    rw [show ((w.alloc (.cells #[.slice S.dv.A S.dv.n S.dv.c, .slice S.pt.A S.pt.n S.pt.c, .slice S.lk.A S.lk.n S.lk.c, .slice S.dm.A S.dm.n S.dm.c, .slice S.st.A S.st.n S.st.c, .slice S.fl.A S.fl.n S.fl.c, .slice S.vr.A S.vr.n S.vr.c, .slice S.ir.A S.ir.n S.ir.c] 31)).alloc (.cells #[.int .i64 L.row, .int .i64 L.kind, .string (str L.dev), .string (str L.port), .string (str L.peer), .string (str L.far), .string (str L.name), .int .u64 L.mac, .int .u32 L.addr, .int .i64 L.bits, .int .i64 L.vlan, .int .i64 L.num, .int .i64 L.cost, .slice s1.A s1.n s1.c, .slice s2.A s2.n s2.c, .slice s3.A s3.n s3.c, .slice s4.A s4.n s4.c] 37)).heap.size = w.heap.size + 2 by simp] at this
    rw [← hw1]; exact this)
  rw [hw1]
  clear hw1 NA_ LA_ NT_
  have KN := Lib.hid (show ∀ wx, Below w1.heap.size w1 wx → (wx.cell? ⟨w.heap.size, 0, none⟩ = some (.slice S.dv.A S.dv.n S.dv.c) ∧ wx.cell? ⟨w.heap.size, 1, none⟩ = some (.slice S.pt.A S.pt.n S.pt.c) ∧ wx.cell? ⟨w.heap.size, 2, none⟩ = some (.slice S.lk.A S.lk.n S.lk.c) ∧ wx.cell? ⟨w.heap.size, 3, none⟩ = some (.slice S.dm.A S.dm.n S.dm.c) ∧ wx.cell? ⟨w.heap.size, 4, none⟩ = some (.slice S.st.A S.st.n S.st.c) ∧ wx.cell? ⟨w.heap.size, 5, none⟩ = some (.slice S.fl.A S.fl.n S.fl.c) ∧ wx.cell? ⟨w.heap.size, 6, none⟩ = some (.slice S.vr.A S.vr.n S.vr.c) ∧ wx.cell? ⟨w.heap.size, 7, none⟩ = some (.slice S.ir.A S.ir.n S.ir.c)) ∧ (wx.cell? ⟨w.heap.size + 1, 1, none⟩ = some (.int .i64 L.kind)) ∧ BoxF wx (w.heap.size + 1) 17 (lc L s1 s2 s3 s4) ∧ NRead wx (allB wx) N S ∧ LRead wx L s1 s2 s3 s4 ∧ Below w.heap.size w wx from fun wx hx => by
    have nb := NB.out.below hx
    have bx := LB.out.below (by omega) hx
    have b0 := B1.out.trans (hx.mono B1.out.size)
    exact ⟨⟨nb.c0, nb.c1, nb.c2, nb.c3, nb.c4, nb.c5, nb.c6, nb.c7⟩, bx.cell 1 (by omega), bx, UP.out _ b0, UL.out _ b0, b0⟩)
  have BS := Lib.hid (Below.refl w1.heap.size w1)
  obtain ⟨⟨f0, f1, f2, f3, f4, f5, f6, f7⟩, g1, lb_, _⟩ := KN.out w1 (Below.refl _ _)
  go_wp2_with (first
    | ((with_reducible refine wpList_lineOf ?hg (.tmp 3) ?ho (w.heap.size + 1) ?hx L s1 s2 s3 s4 lb_ ?_); (case hg => rfl); (case ho => rfl); (case hx => rfl))
    | (go_at_call 20; (with_reducible refine (PU.out _ B1.out).mono ?_); rintro e w2 ⟨U, rfl, hr, b_⟩; have R2 := Lib.hid hr; have Y2 := Lib.hid b_; have rb_ := RB.out.below Y2.out; have rl_ := rb_.lt; have r0 := rb_.cell 0 (.slice none 0 0) rfl; have z0 := rb_.live 0; have r1 := rb_.cell 1 (.slice none 0 0) rfl; have z1 := rb_.live 1; have r2 := rb_.cell 2 (.slice none 0 0) rfl; have z2 := rb_.live 2; have r3 := rb_.cell 3 (.slice none 0 0) rfl; have z3 := rb_.live 3; have r4 := rb_.cell 4 (.slice none 0 0) rfl; have z4 := rb_.live 4; have r5 := rb_.cell 5 (.slice none 0 0) rfl; have z5 := rb_.live 5; have r6 := rb_.cell 6 (.slice none 0 0) rfl; have z6 := rb_.live 6; have r7 := rb_.cell 7 (.slice none 0 0) rfl; have z7 := rb_.live 7; clear hr b_ rb_))
  refine bodyPost_ret (res_pport _ (st8 w2 (w.heap.size + 2) U) U (w.heap.size + 2) RE rfl rfl ((RB.out.below Y2.out).st8 U)) rfl ?_
  exact ⟨U, rfl, R2.out.st8 (q := w.heap.size + 2) (A := U) (fun g => by have := g.1; have := ql1; have := RB.out.lt; omega) (fun b g => g.2), Below.st8 (B1.out.trans (Y2.out.mono B1.out.size)) (by omega) U⟩
end Go.Proofs.YthobolmedppneaaGreat

