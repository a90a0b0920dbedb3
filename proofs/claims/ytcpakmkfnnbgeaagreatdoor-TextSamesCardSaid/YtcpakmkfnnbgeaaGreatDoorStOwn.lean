/- May a line be: the contract of stmt.Right. The contracts of package stmt. -/
import Derived.Test.YtcpakmkfnnbgeaaGreatDoorStRdL
import Derived.Test.YtcpakmkfnnbgeaaGreatDoorStSameC
import Derived.Test.YtcpakmkfnnbgeaaGreatDoorStReadAll
import Derived.Test.YtcpakmkfnnbgeaaGreatDoorStSame
import Derived.Test.YtcpakmkfnnbgeaaGreatDoorStRdC
namespace Go.Proofs.YtcpakmkfnnbgeaaGreatDoor
open Go.RowKit

/-- a line whose numbers may be taken out -/
structure LvM (L : LV) : Prop where
  sz : LvSz L
  mac : 0 ≤ L.mac ∧ L.mac < 281474976710656
  addr : 0 ≤ L.addr ∧ L.addr < 4294967296
theorem LvOk.m {L : LV} (h : LvOk L) : LvM L := ⟨h.sz, h.num.2.2.1, ⟨h.num.2.2.2.1.1, by have := h.num.2.2.2.1.2; omega⟩⟩
theorem LvM.put {L : LV} (h : LvM L) (f : Nat) : LvM (fput f L WV.zero) := by
  refine ⟨fput_sz h.sz vok_zero f, ?_, ?_⟩
  · match f with
    | 9 => exact vo_m
    | 0 | 1 | 2 | 3 | 4 | 5 | 6 | 7 | 8 | 10 | 11 | 12 | 13 | 14 | 15 => exact h.mac
    | f + 16 => exact h.mac
  · match f with
    | 10 | 11 => exact vo_a
    | 0 | 1 | 2 | 3 | 4 | 5 | 6 | 7 | 8 | 9 | 12 | 13 | 14 | 15 => exact h.addr
    | f + 16 => exact h.addr
theorem LvM.take {L : LV} (h : LvM L) (f : Nat) : VOk (ftake f L WV.zero) := by
  have t := h.sz.txt
  have l := h.sz.lst
  match f with
  | 0 => exact ⟨t.1, vo_m, vo_a, vo_l⟩
  | 1 => exact ⟨t.2.1, vo_m, vo_a, vo_l⟩
  | 2 => exact ⟨t.2.2.1, vo_m, vo_a, vo_l⟩
  | 3 => exact ⟨t.2.2.2.1, vo_m, vo_a, vo_l⟩
  | 4 => exact ⟨t.2.2.2.2, vo_m, vo_a, vo_l⟩
  | 5 => exact ⟨show ([116, 114, 117, 110, 107] : List UInt8).length ≤ 1000000 by decide, vo_m, vo_a, vo_l⟩
  | 6 | 7 | 8 => exact ⟨vo_t, vo_m, vo_a, vo_l⟩
  | 9 => exact ⟨vo_t, h.mac, vo_a, vo_l⟩
  | 10 => exact ⟨vo_t, vo_m, h.addr, vo_l⟩
  | 11 => exact ⟨vo_t, vo_m, h.addr, vo_l⟩
  | 12 => exact ⟨vo_t, vo_m, vo_a, ⟨l.1, vo_l.2⟩⟩
  | 13 => exact ⟨vo_t, vo_m, vo_a, ⟨l.2.1, vo_l.2⟩⟩
  | 14 => exact ⟨vo_t, vo_m, vo_a, ⟨l.2.2.1, vo_l.2⟩⟩
  | 15 => exact ⟨vo_t, vo_m, vo_a, ⟨vo_l.1, l.2.2.2⟩⟩
  | f + 16 => exact vok_zero
theorem rgRun_at {ps : List (Nat × Nat)} {k : Nat} {L : LV} (h : k < ps.length) :
    rgRun (ps.drop k) L = if mayB (ps.getD k (0, 0)).1 (ftake (ps.getD k (0, 0)).2 L WV.zero) = true then rgRun (ps.drop (k + 1)) (fput (ps.getD k (0, 0)).2 L WV.zero) else none := by
  have e1 : ps.drop k = ps.getD k (0, 0) :: ps.drop (k + 1) := by rw [List.drop_eq_getElem_cons h]; simp [List.getD, List.getElem?_eq_getElem h]
  rw [e1]
  obtain ⟨w, f⟩ := ps.getD k (0, 0)
  rw [rgRun]
/-- a value loaded whole -/
theorem wpList_valOf {ops : Array Oper} {rest : List Oper} {op : Oper} {a : Act} {w : World} {Q : Exit → Act → World → Prop} (hgd : op.guard = none) (x : Operand) (ho : op.op = .load 75 x)
    (p : Nat) (hx : a.eval x = .pointer (some ⟨p, 0, none⟩)) (V : WV) (t1 t2 : SlV) (hb : BoxF w p 6 (vc V t1 t2)) (h : wpList Tryz.prog ops Q rest (a.put op.dst (valV V t1 t2)) w) : wpList Tryz.prog ops Q (op :: rest) a w := by
  obtain ⟨d, hd1, hd2⟩ := val_desc
  exact wpList_load_mid hgd 75 x ho p 0 hx (valC V t1 t2) d hb.rangeV hd1 hd2 val_size h
/-- a zero value's box beside the line's -/
theorem RdS.fvZ {w wr : World} {p : Nat} {ps : List (Nat × Nat)} {A : Option Addr} {n c : Nat} {L : LV} {s1 s2 s3 s4 : SlV} (h : RdS w p ps A n c L s1 s2 s3 s4 wr) (o : Obj) (T : TypeId) :
    RdS w p ps A n c L s1 s2 s3 s4 ((wr.alloc o).alloc (.cells #[.string ⟨#[]⟩, .int .i64 0, .int .u64 0, .int .u32 0, .slice none 0 0, .slice none 0 0] T)) ∧
    FV ((wr.alloc o).alloc (.cells #[.string ⟨#[]⟩, .int .i64 0, .int .u64 0, .int .u32 0, .slice none 0 0, .slice none 0 0] T)) p (wr.heap.size + 1) L s1 s2 s3 s4 WV.zero SlV.nil SlV.nil ∧ Below wr.heap.size wr ((wr.alloc o).alloc (.cells #[.string ⟨#[]⟩, .int .i64 0, .int .u64 0, .int .u32 0, .slice none 0 0, .slice none 0 0] T)) := by
  have B := two_alloc wr o (.cells #[.string ⟨#[]⟩, .int .i64 0, .int .u64 0, .int .u32 0, .slice none 0 0, .slice none 0 0] T)
  have R6 := h.keep B
  have hlt : p < wr.heap.size := h.pl
  have vb := (SV.start (wr.alloc o) T).box
  rw [rd_sz] at vb
  have off : ∀ (k : IntKind) (s : SlV) (xs : List Int), ISl wr k s.A s.n s.c xs → OffP (wr.heap.size + 1) s := fun k s xs hi ad e e2 => by have := lt_isl hi ad e e2; omega
  exact ⟨R6, R6.fv (by omega) vb ⟨ISl.nil, ISl.nil⟩ (off _ _ _ h.rd.1) (off _ _ _ h.rd.2.1) (off _ _ _ h.rd.2.2.1) (off _ _ _ h.rd.2.2.2) (fun ad e => by cases e) (fun ad e => by cases e), B⟩
theorem rt_start {w wa w9 w1 : World} {L : LV} {s1 s2 s3 s4 : SlV} {ps : List (Nat × Nat)} {A : Option Addr} {n c : Nat} (hL : LRead w L s1 s2 s3 s4) (hz : LvSz L) (hw : Below w.heap.size w wa) (hx : BoxF w9 (w.heap.size + 1) 17 (lc L s1 s2 s3 s4)) (h9 : Below (w.heap.size + 1) wa w9) (hl : w.heap.size + 1 < w9.heap.size)
    (hb1 : Below w9.heap.size w9 w1) (hps : PSl w1 (w.heap.size + 1) A n c ps) (hpa : ∀ ad, A = some ad → w9.heap.size ≤ ad.block) : RdS w (w.heap.size + 1) ps A n c L s1 s2 s3 s4 w1 := by
  have B : Below w.heap.size w w1 := (hw.trans (h9.mono (by omega))).trans (hb1.mono (by omega))
  have off : ∀ (k : IntKind) (s : SlV) (xs : List Int), ISl w k s.A s.n s.c xs → OffP (w.heap.size + 1) s := fun k s xs hi ad e e2 => by have := lt_isl hi ad e e2; omega
  exact ⟨by omega, by have := hb1.size; omega, hx.below (by omega) hb1, ⟨hL.1.below B, hL.2.1.below B, hL.2.2.1.below B, hL.2.2.2.below B⟩, off _ _ _ hL.1, off _ _ _ hL.2.1, off _ _ _ hL.2.2.1, off _ _ _ hL.2.2.2, hps, fun ad e => by have := hpa ad e; omega, B, hz⟩
end Go.Proofs.YtcpakmkfnnbgeaaGreatDoor

namespace Go.Proofs.YtcpakmkfnnbgeaaGreatDoor
open Go.RowKit

/-- what the listed variables hold -/
structure LdT (w : World) : Prop where
  num : Lds w
  firsts : FsIs w
theorem LdT.below {w w' : World} (h : LdT w) (hb : Below w.heap.size w w') : LdT w' := ⟨h.num.below hb, h.firsts.below hb⟩
theorem rdL_no {ws : List (List UInt8)} {row : Int} (h : rdE ws row ≠ 0) : rdL ws row = LV.zero := by unfold rdL; rw [if_neg h]
theorem xread_any (A : Option Addr) (n c : Nat) (ws : List (List UInt8)) (row : Int) (w : World) (h : SSl w A n c ws) (hs : ∀ p ∈ ws, p.length ≤ 300) (hl : LdT w) :
    Calls Tryz.prog 24 #[.slice A n c, .int .i64 row] w (GotLine w (rdL ws row) (rdE ws row)) := by
  obtain ⟨e1, e2⟩ := cd_eq ws row
  have hlen := h.len
  by_cases h0 : n = 0
  · subst h0
    have hE : cdE ws row = 22 := by unfold cdE; rw [if_pos (.inl (List.eq_nil_of_length_eq_zero hlen))]
    rw [hE] at e1
    rw [rdL_no (by rw [← e1]; decide), ← e1]
    exact cread_nil A c row w
  · by_cases hno : ptW ws = [] ∨ n ≠ 1 + (ptW ws).length
    · have hE : cdE ws row = 22 := by unfold cdE; rw [if_pos (.inr (by rw [hlen]; exact hno))]
      rw [hE] at e1
      rw [rdL_no (by rw [← e1]; decide), ← e1]
      exact cread_no A n c ws row w h hl.firsts (by omega) hno
    · have h1 : ptW ws ≠ [] := fun e => hno (.inl e)
      have h2 : n = 1 + (ptW ws).length := Decidable.of_not_not fun e => hno (.inr e)
      refine cread_run A n c ws row w h hs hl.num hl.firsts (ptW ws).length rfl (List.length_pos_iff.2 h1) h2 (rdE ws row) (rdL ws row) e1 ?_
      by_cases e : rdE ws row = 0
      · rw [if_pos e, e2 e]
      · rw [if_neg e, rdL_no e]
theorem xsame_any (L M : LV) (s1 s2 s3 s4 t1 t2 t3 t4 : SlV) (w : World) (h : LRead w L s1 s2 s3 s4) (g : LRead w M t1 t2 t3 t4) (_hL : LvOk L) (_hM : LvOk M) :
    Calls Tryz.prog 32 #[lineV L s1 s2 s3 s4, lineV M t1 t2 t3 t4] w fun e w' => e = .returned (.bool (sameB L M)) ∧ Below w.heap.size w w' := csame_any L M s1 s2 s3 s4 t1 t2 t3 t4 w h g
theorem xcopy_any (L : LV) (s1 s2 s3 s4 : SlV) (w : World) (h : LRead w L s1 s2 s3 s4) (hL : LvOk L) :
    Calls Tryz.prog 41 #[lineV L s1 s2 s3 s4] w fun e w' => ∃ t1 t2 t3 t4, e = .returned (lineV L t1 t2 t3 t4) ∧ LRead w' L t1 t2 t3 t4 ∧ Below w.heap.size w w' :=
  (copy_any L s1 s2 s3 s4 w h hL.sz).mono fun _ _ ⟨t1, t2, t3, t4, e, hr, _, hb⟩ => ⟨t1, t2, t3, t4, e, hr, hb⟩
end Go.Proofs.YtcpakmkfnnbgeaaGreatDoor
