/- What a loop over a line's parts keeps. -/
import Derived.Test.YtpbomfhlghljdaaGreatDoorStParts
import Derived.Test.YtpbomfhlghljdaaGreatDoorStCopy2
import Derived.Test.YtpbomfhlghljdaaGreatDoorStSaid
import Derived.Deep.RegionWith
namespace Go.Proofs.YtpbomfhlghljdaaGreatDoor
open Go.RowKit

theorem below_box2 (w : World) (o : Obj) : Below w.heap.size w (w.alloc o) := (Below.refl _ _).alloc (Nat.le_refl _) _
/-- a list not in block p -/
def OffP (p : Nat) (s : SlV) : Prop := ∀ ad, s.A = some ad → 0 < s.n → ad.block ≠ p
structure RdS (w : World) (p : Nat) (ps : List (Nat × Nat)) (A : Option Addr) (n c : Nat) (L : LV) (s1 s2 s3 s4 : SlV) (wr : World) : Prop where
  pw : w.heap.size ≤ p
  pl : p < wr.heap.size
  box : BoxF wr p 17 (lc L s1 s2 s3 s4)
  rd : LRead wr L s1 s2 s3 s4
  o1 : OffP p s1
  o2 : OffP p s2
  o3 : OffP p s3
  o4 : OffP p s4
  ps : PSl wr p A n c ps
  pa : ∀ ad, A = some ad → p < ad.block
  bel : Below w.heap.size w wr
  sz : LvSz L
section
variable {w wr w2 : World} {p : Nat} {ps : List (Nat × Nat)} {A : Option Addr} {n c : Nat} {L : LV} {s1 s2 s3 s4 : SlV}
theorem PSl.below (h : PSl wr p A n c ps) (hb : Below wr.heap.size wr w2) : PSl w2 p A n c ps := by
  refine ⟨h.1, h.2.1, h.2.2.1, fun hn => ?_⟩
  obtain ⟨b, e, hl, hc⟩ := h.2.2.2 hn
  exact ⟨b, e, Nat.lt_of_lt_of_le hl hb.size, fun j hj => ⟨(hb.cell (p := ⟨b, j * 2, none⟩) hl).trans (hc j hj).1, (hb.cell (p := ⟨b, j * 2 + 1, none⟩) hl).trans (hc j hj).2⟩⟩
theorem PSl.ex2 {q : Nat} (h : PSl wr p A n c ps) (g : Ex2 p q wr w2) (ha : ∀ ad, A = some ad → ad.block ≠ p ∧ ad.block ≠ q) : PSl w2 p A n c ps := by
  refine ⟨h.1, h.2.1, h.2.2.1, fun hn => ?_⟩
  obtain ⟨b, e, hl, hc⟩ := h.2.2.2 hn
  have := ha _ e
  exact ⟨b, e, Nat.lt_of_lt_of_le hl g.size, fun j hj => ⟨(g.cell (j * 2) hl this.1 this.2).trans (hc j hj).1, (g.cell (j * 2 + 1) hl this.1 this.2).trans (hc j hj).2⟩⟩
theorem RdS.keep (h : RdS w p ps A n c L s1 s2 s3 s4 wr) (hb : Below wr.heap.size wr w2) : RdS w p ps A n c L s1 s2 s3 s4 w2 :=
  ⟨h.pw, Nat.lt_of_lt_of_le h.pl hb.size, h.box.below (by omega) hb, ⟨h.rd.1.below hb, h.rd.2.1.below hb, h.rd.2.2.1.below hb, h.rd.2.2.2.below hb⟩, h.o1, h.o2, h.o3, h.o4, h.ps.below hb, h.pa, h.bel.trans (hb.mono h.bel.size), h.sz⟩
theorem lt_isl {k : IntKind} {s : SlV} {xs : List Int} (h : ISl wr k s.A s.n s.c xs) : ∀ ad, s.A = some ad → 0 < s.n → ad.block < wr.heap.size := fun ad he hn => by
  obtain ⟨b, off, e, hb, _⟩ := h.2.2.2 hn
  rw [he] at e
  cases e
  exact hb
/-- a value's box beside it: what a field's exchange asks -/
theorem RdS.fv (h : RdS w p ps A n c L s1 s2 s3 s4 wr) {q : Nat} {V : WV} {t1 t2 : SlV} (hq : p ≠ q) (hv : BoxF wr q 6 (vc V t1 t2)) (hr : VRead wr V t1 t2)
    (f1 : OffP q s1) (f2 : OffP q s2) (f3 : OffP q s3) (f4 : OffP q s4) (g1 : ∀ ad, t1.A = some ad → 0 < t1.n → ad.block ≠ p ∧ ad.block ≠ q) (g2 : ∀ ad, t2.A = some ad → 0 < t2.n → ad.block ≠ p ∧ ad.block ≠ q) : FV wr p q L s1 s2 s3 s4 V t1 t2 :=
  ⟨hq, h.box, hv, ⟨h.rd.1, fun ad e e2 => ⟨h.o1 ad e e2, f1 ad e e2⟩⟩, ⟨h.rd.2.1, fun ad e e2 => ⟨h.o2 ad e e2, f2 ad e e2⟩⟩, ⟨h.rd.2.2.1, fun ad e e2 => ⟨h.o3 ad e e2, f3 ad e e2⟩⟩, ⟨h.rd.2.2.2, fun ad e e2 => ⟨h.o4 ad e e2, f4 ad e e2⟩⟩, ⟨hr.1, g1⟩, ⟨hr.2, g2⟩⟩
/-- behind a field's exchange -/
theorem RdS.next (h : RdS w p ps A n c L s1 s2 s3 s4 wr) {q : Nat} {M : LV} {V : WV} {r1 r2 r3 r4 t1 t2 : SlV} (hq : w.heap.size ≤ q) (ha : ∀ ad, A = some ad → ad.block ≠ q) (hf : FV w2 p q M r1 r2 r3 r4 V t1 t2) (he : Ex2 p q wr w2) (hz : LvSz M) : RdS w p ps A n c M r1 r2 r3 r4 w2 :=
  ⟨h.pw, Nat.lt_of_lt_of_le h.pl he.size, hf.box, ⟨hf.l1.1, hf.l2.1, hf.l3.1, hf.l4.1⟩, fun ad e e2 => (hf.l1.2 ad e e2).1, fun ad e e2 => (hf.l2.2 ad e e2).1, fun ad e e2 => (hf.l3.2 ad e e2).1, fun ad e e2 => (hf.l4.2 ad e e2).1,
    h.ps.ex2 he (fun ad e => ⟨by have := h.pa ad e; omega, ha ad e⟩), h.pa, Below.ex2 h.bel he h.pw hq h.bel.size, hz⟩
end
theorem fput_sz {L : LV} {V : WV} (h : LvSz L) (hv : VOk V) (f : Nat) : LvSz (fput f L V) := by
  have h1 := h.txt
  have h2 := h.lst
  have h3 := hv.txt
  have h4 := hv.lst
  match f with
  | 0 => exact ⟨⟨h3, h1.2⟩, h2⟩
  | 1 => exact ⟨⟨h1.1, h3, h1.2.2⟩, h2⟩
  | 2 => exact ⟨⟨h1.1, h1.2.1, h3, h1.2.2.2⟩, h2⟩
  | 3 => exact ⟨⟨h1.1, h1.2.1, h1.2.2.1, h3, h1.2.2.2.2⟩, h2⟩
  | 4 => exact ⟨⟨h1.1, h1.2.1, h1.2.2.1, h1.2.2.2.1, h3⟩, h2⟩
  | 5 | 6 | 7 | 8 | 9 | 10 | 11 => exact ⟨h1, h2⟩
  | 12 => exact ⟨h1, ⟨h4.1, h2.2⟩⟩
  | 13 => exact ⟨h1, ⟨h2.1, h4.1, h2.2.2⟩⟩
  | 14 => exact ⟨h1, ⟨h2.1, h2.2.1, h4.1, h2.2.2.2⟩⟩
  | 15 => exact ⟨h1, ⟨h2.1, h2.2.1, h2.2.2.1, h4.2⟩⟩
  | f + 16 => exact ⟨h1, h2⟩
theorem vok_zero : VOk WV.zero := ⟨vo_t, vo_m, vo_a, vo_l⟩
theorem lsD_len {s : List UInt8} {hi : Int} (h : lsDB s hi = true) : (lsD s hi).length ≤ 1000000 := by
  rcases lsD_ok h with e | e
  · rw [e]; exact vo_l.1
  · exact ris_len2 e
theorem said_vok (k : Nat) (hk : k < 13) (s : List UInt8) (hs : s.length ≤ 1000000) (h : saidB k s = true) : VOk (saidV k s) := by
  match k, hk with
  | 0, _ => rw [saidV_plain rfl h]; exact vok_text hs
  | 1, _ => rw [saidV_plain rfl h]; exact vok_text hs
  | 2, _ => rw [saidV_plain rfl h]; exact vok_n _
  | 3, _ => rw [saidV_plain rfl h]; exact vok_n _
  | 4, _ => rw [saidV_plain rfl h]; exact vok_n _
  | 5, _ => rw [val5]; exact vok_n _
  | 6, _ => rw [saidV_plain rfl h]; exact vok_n _
  | 7, _ => rw [saidV_plain rfl h]; exact vok_mac s
  | 8, _ => rw [saidV_plain rfl h]; exact vok_addr s
  | 9, _ => rw [saidV_plain rfl h]; exact vok_pf s
  | 10, _ => rw [said10] at h; rw [val10]; exact ⟨vo_t, vo_m, vo_a, ⟨lsD_len h, Nat.zero_le _⟩⟩
  | 11, _ => rw [said11] at h; rw [val11]; exact ⟨vo_t, vo_m, vo_a, ⟨lsD_len h, Nat.zero_le _⟩⟩
  | 12, _ =>
    have h2 := h
    rw [said12, Bool.and_eq_true] at h2
    rw [saidV_plain rfl h]
    exact vok_addrs h2.1
  | k + 13, hk => exact absurd hk (by omega)
/-- parts that may be -/
def PsOk (ps : List (Nat × Nat)) : Prop := ps.length ≤ 6 ∧ ∀ x ∈ ps, x.1 < 13 ∧ x.2 < 16
theorem pts_ok (k : Int) (tg : Bool) : PsOk (pts k tg) :=
  pts_cases (P := PsOk) k tg (by unfold PsOk; decide) (by unfold PsOk; decide) (by unfold PsOk; decide) (by unfold PsOk; decide) (by unfold PsOk; decide) (by unfold PsOk; decide) (by unfold PsOk; decide) (by unfold PsOk; decide) (by unfold PsOk; decide) (by unfold PsOk; decide) (by unfold PsOk; decide)
theorem PsOk.at_ {ps : List (Nat × Nat)} (h : PsOk ps) (k : Nat) : (ps.getD k (0, 0)).1 < 13 ∧ (ps.getD k (0, 0)).2 < 16 := by
  rcases Nat.lt_or_ge k ps.length with e | e
  · rw [List.getD, List.getElem?_eq_getElem e]
    exact h.2 _ (List.getElem_mem e)
  · rw [List.getD, List.getElem?_eq_none e]
    decide
theorem runC_at {ps : List (Nat × Nat)} {ws : List (List UInt8)} {k : Nat} {L : LV} (h : k < ps.length) (g : k + 1 < ws.length) :
    runC (ps.drop k) (ws.drop (k + 1)) L = if saidB (ps.getD k (0, 0)).1 (wat ws (k + 1)) = true then runC (ps.drop (k + 1)) (ws.drop (k + 1 + 1)) (fput (ps.getD k (0, 0)).2 L (saidV (ps.getD k (0, 0)).1 (wat ws (k + 1)))) else (refE (ps.getD k (0, 0)).1, L) := by
  have e1 : ps.drop k = ps.getD k (0, 0) :: ps.drop (k + 1) := by rw [List.drop_eq_getElem_cons h]; simp [List.getD, List.getElem?_eq_getElem h]
  have e2 : ws.drop (k + 1) = wat ws (k + 1) :: ws.drop (k + 1 + 1) := by rw [List.drop_eq_getElem_cons g]; simp [wat, List.getD, List.getElem?_eq_getElem g]
  rw [e1, e2]
  obtain ⟨w, f⟩ := ps.getD k (0, 0)
  rw [runC]
theorem runC_end {ps : List (Nat × Nat)} {ws : List (List UInt8)} {k : Nat} {L : LV} (h : ps.length ≤ k) : runC (ps.drop k) ws L = (0, L) := by
  rw [List.drop_eq_nil_of_le h]
  cases ws <;> rfl
/-- six cells of a value's box stored -/
theorem val_stored {w : World} {q : Nat} {g : Nat → Value} (h : BoxF w q 6 g) (V : WV) (t1 t2 : SlV) : BoxF ((((((w.setCell ⟨q, 0, none⟩ (.string (str V.text))).setCell ⟨q, 1, none⟩ (.int .i64 V.n)).setCell ⟨q, 2, none⟩ (.int .u64 V.mac)).setCell ⟨q, 3, none⟩ (.int .u32 V.addr)).setCell ⟨q, 4, none⟩ (.slice t1.A t1.n t1.c)).setCell ⟨q, 5, none⟩ (.slice t2.A t2.n t2.c)) q 6 (vc V t1 t2) := by
  have H := (((((h.set 0 (by omega) (.string (str V.text))).set 1 (by omega) (.int .i64 V.n)).set 2 (by omega) (.int .u64 V.mac)).set 3 (by omega) (.int .u32 V.addr)).set 4 (by omega) (.slice t1.A t1.n t1.c)).set 5 (by omega) (.slice t2.A t2.n t2.c)
  exact H.is (fun i hi => match i, hi with | 0, _ | 1, _ | 2, _ | 3, _ | 4, _ | 5, _ => rfl | i + 6, h => absurd h (by omega))
theorem val_new (w : World) (V : WV) (t1 t2 : SlV) (T : TypeId) : BoxF (w.alloc (.cells #[.string (str V.text), .int .i64 V.n, .int .u64 V.mac, .int .u32 V.addr, .slice t1.A t1.n t1.c, .slice t2.A t2.n t2.c] T)) w.heap.size 6 (vc V t1 t2) := by
  refine ⟨fun j hj => ?_, fun o => by simp⟩
  match j, hj with
  | 0, _ | 1, _ | 2, _ | 3, _ | 4, _ | 5, _ => simp [vc, SlV.val]
  | j + 6, h => exact absurd h (by omega)
end Go.Proofs.YtpbomfhlghljdaaGreatDoor
