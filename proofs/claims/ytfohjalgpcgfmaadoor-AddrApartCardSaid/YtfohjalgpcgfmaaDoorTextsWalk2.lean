/- The walk of the statement AddrTexts. -/
import Derived.Test.YtfohjalgpcgfmaaDoorBackWalk2
namespace Go.Proofs.YtfohjalgpcgfmaaDoor
open Go.RowKit
open Go.Lib (decDigits byteCells)

def PX (l : List UInt8) : Int := (((pfF l).getD (0, 0)).1 : Nat)
def PY (l : List UInt8) : Int := (((pfF l).getD (0, 0)).2 : Nat)
theorem read_l (l : List UInt8) (hs : l.length ≤ maxLen) (w : World) : Calls Tryd.prog 8 #[.string (str l)] w fun e w' => e = .returned (.tuple #[.int .u32 (rdV l), .bool (rdB l)]) ∧ Below w.heap.size w w' := by
  have h2 := read_any (str l) w (by rw [str_size]; exact hs)
  rw [show (str l).data.toList = l by simp] at h2
  exact h2.mono fun e w' ⟨he, hd⟩ => ⟨he, hd.below⟩
theorem readPrefix_l (l : List UInt8) (hs : l.length ≤ maxLen) (w : World) : Calls Tryd.prog 10 #[.string (str l)] w fun e w' => e = .returned (.tuple #[.agg #[.int .u32 (PX l), .int .i64 (PY l)], .bool (pfB l)]) ∧ Below w.heap.size w w' := by
  have h2 := readPrefix_any (str l) w (by rw [str_size]; exact hs)
  rw [show (str l).data.toList = l by simp] at h2
  exact h2
theorem refReadPrefix_l (l : List UInt8) (hs : l.length < 4294967296) (w : World) : Calls Tryd.prog 11 #[.string (str l)] w fun e w' => e = .returned (.tuple #[.agg #[.int .u32 (PX l), .int .i64 (PY l)], .bool (pfB l)]) ∧ Below w.heap.size w w' :=
  refReadPrefix_any l w hs
def PT (a : Nat) (B : Int) : ByteArray := if RT B = true then str (ptxt a B.toNat) else ⟨#[]⟩
theorem prefixText_all (a : Nat) (B : Int) (ha : a < 4294967296) (w : World) (htab : Lib.TabIs Tryd.prog w pow10 .u64 Lib.pow10Tab) : Calls Tryd.prog 14 #[.agg #[.int .u32 (a : Int), .int .i64 B]] w fun e w' => e = .returned (.string (PT a B)) ∧ Below w.heap.size w w' := by
  cases hr : RT B with
  | false => rw [show PT a B = ⟨#[]⟩ by simp [PT, hr]]; exact prefixText_no a B hr w
  | true =>
    obtain ⟨b, rfl, hb⟩ := RT_nat hr
    rw [show PT a b = str (ptxt a b) by simp [PT, hr]]
    exact prefixText_yes a b ha hb w htab
theorem refPrefixText_all (a : Nat) (B : Int) (ha : a < 4294967296) (w : World) : Calls Tryd.prog 15 #[.agg #[.int .u32 (a : Int), .int .i64 B]] w fun e w' => e = .returned (.string (PT a B)) ∧ Below w.heap.size w w' := by
  cases hr : RT B with
  | false => rw [show PT a B = ⟨#[]⟩ by simp [PT, hr]]; exact refPrefixText_no a B hr w
  | true =>
    obtain ⟨b, rfl, hb⟩ := RT_nat hr
    rw [show PT a b = str (ptxt a b) by simp [PT, hr]]
    exact refPrefixText_yes a b ha hb w

/-- what the last test's region keeps -/
def Three (w : World) (b2 b3 : Nat) (A B X Y : Int) (w' : World) : Prop :=
  w'.cell? ⟨w.heap.size, 0, none⟩ = some (.int .u32 A) ∧ w'.cell? ⟨w.heap.size, 1, none⟩ = some (.int .i64 B) ∧ w'.cell? ⟨b2, 0, none⟩ = some (.int .u32 X) ∧ w'.cell? ⟨b2, 1, none⟩ = some (.int .i64 Y) ∧
    w'.cell? ⟨b3, 0, none⟩ = some (.int .u32 X) ∧ w'.cell? ⟨b3, 1, none⟩ = some (.int .i64 Y) ∧ Below w.heap.size w w' ∧ w.heap.size < w'.heap.size ∧ b2 < w'.heap.size ∧ b3 < w'.heap.size
theorem Three.keep {w W w' : World} {b2 b3 : Nat} {A B X Y : Int} (h : Three w b2 b3 A B X Y W) (hb : Below W.heap.size W w') : Three w b2 b3 A B X Y w' := by
  obtain ⟨h0, h1, h2, h3, h4, h5, hB, hl, hl2, hl3⟩ := h
  have hs := hb.size
  exact ⟨(hb.cell (p := ⟨_, 0, none⟩) hl).trans h0, (hb.cell (p := ⟨_, 1, none⟩) hl).trans h1, (hb.cell (p := ⟨_, 0, none⟩) hl2).trans h2, (hb.cell (p := ⟨_, 1, none⟩) hl2).trans h3,
    (hb.cell (p := ⟨_, 0, none⟩) hl3).trans h4, (hb.cell (p := ⟨_, 1, none⟩) hl3).trans h5, hB.trans (hb.mono hB.size), by omega, by omega, by omega⟩
theorem Three.drew {w W : World} {b2 b3 : Nat} {A B X Y : Int} (h : Three w b2 b3 A B X Y W) : Three w b2 b3 A B X Y W.drew := by
  obtain ⟨h0, h1, h2, h3, h4, h5, hB, hl, hl2, hl3⟩ := h
  exact ⟨h0, h1, h2, h3, h4, h5, ⟨hB.os, hB.tape, hB.output, hB.size, hB.block⟩, hl, hl2, hl3⟩

set_option maxRecDepth 100000 in
set_option maxHeartbeats 4000000 in
theorem texts_walk (l : List UInt8) (A B : Int) (hA0 : 0 ≤ A) (hA1 : A < 4294967296) (hs : l.length ≤ maxLen) (w : World) (htab : Lib.TabIs Tryd.prog w pow10 .u64 Lib.pow10Tab) :
    Calls Tryd.prog 3 #[.string (str l), .agg #[.int .u32 A, .int .i64 B]] w fun e w' => e = .returned (.bool true) ∧ Below w.heap.size w w' := by
  have HT := Lib.hid htab
  clear htab
  have HS := Lib.hid hs
  obtain ⟨a, rfl⟩ := Int.eq_ofNat_of_zero_le hA0
  have ha : a < 4294967296 := by omega
  by_cases hl : 1000 < l.length
  · have hli : (1000 : Int) < (l.length : Int) := by omega
    clear hs hl
    go_enter Tryd.func3, Tryd.ntmps3
    go_wp2_with (go_at_call 7; refine (works_any _ (tab_below HT.out ((Below.refl _ _).alloc (Nat.le_refl _) _))).mono ?_; rintro e w1 ⟨rfl, hb1⟩)
    go_ret
    exact ⟨rfl, one_below hb1⟩
  · have HL := Lib.hid hl
    have H32 := Lib.hid (show l.length < 4294967296 by omega)
    have hli : ¬ (1000 : Int) < (l.length : Int) := by omega
    clear hs hl
    go_enter Tryd.func3, Tryd.ntmps3
    go_wp2_with (first
      | (go_at_call 8; refine (read_l l HS.out _).mono ?_; rintro e w1 ⟨rfl, hb1⟩; obtain ⟨hc1, hf1⟩ := bcell hb1; have z1 : w.heap.size < w1.heap.size := (by have := hb1.size; simp at this; omega); have hB1 := one_below hb1)
      | (go_at_call 9; refine (refRead_any l _ H32.out).mono ?_; rintro e w2 ⟨rfl, hb2⟩; obtain ⟨hc2, hf2⟩ := bcell hb2; have z2 : w.heap.size < w2.heap.size := (by have := hb2.size; omega); have hB2 := trans_below hB1 hb2)
      | (go_at_call 10; refine (readPrefix_l l HS.out _).mono ?_; rintro e w3 ⟨rfl, hb3⟩; obtain ⟨hc3, hf3⟩ := bcell hb3; have z3 : w.heap.size < w3.heap.size := (by have := hb3.size; omega); have hB3 := trans_below hB2 hb3)
      | (go_at_call 11; refine (refReadPrefix_l l H32.out _).mono ?_; rintro e w4 ⟨rfl, hb4⟩; obtain ⟨hc4, hf4⟩ := bcell hb4; have z4 : w3.heap.size < w4.heap.size := (by have := hb4.size; simp at this; omega); have hB4 := trans_below (hB3.alloc (Nat.le_of_lt z3) (.cells #[.int .u32 (PX l), .int .i64 (PY l)] 24)) hb4))
    have hS : Three w w3.heap.size w4.heap.size (a : Int) B (PX l) (PY l) (w4.alloc (.cells #[.int .u32 (PX l), .int .i64 (PY l)] 24)) := by
      refine ⟨?_, ?_, ?_, ?_, by simp, by simp, hB4.alloc (by omega) _, by simp; omega, by simp; omega, by simp⟩
      · rw [World.cell?_alloc_lt _ _ _ (show w.heap.size < w4.heap.size by omega), hc4 _ _ (by simp; omega), World.cell?_alloc_lt _ _ _ (show w.heap.size < w3.heap.size by omega), hc3 _ _ z2, hc2 _ _ z1, hc1 _ _ (by simp)]; simp
      · rw [World.cell?_alloc_lt _ _ _ (show w.heap.size < w4.heap.size by omega), hc4 _ _ (by simp; omega), World.cell?_alloc_lt _ _ _ (show w.heap.size < w3.heap.size by omega), hc3 _ _ z2, hc2 _ _ z1, hc1 _ _ (by simp)]; simp
      · rw [World.cell?_alloc_lt _ _ _ (show w3.heap.size < w4.heap.size by omega), hc4 _ _ (by simp)]; simp
      · rw [World.cell?_alloc_lt _ _ _ (show w3.heap.size < w4.heap.size by omega), hc4 _ _ (by simp)]; simp
    refine wp_region_text (Three w w3.heap.size w4.heap.size (a : Int) B (PX l) (PY l)) (by kernel_rfl) (by kernel_rfl) hS.drew ?_
    clear hc1 hc2 hc3 hc4 hf1 hf2 hf3 hf4 hb1 hb2 hb3 hb4 hB1 hB2 hB3 hB4 z1 z2 z3 z4 hS
    repeat
      first
        | (refine Seq.pass rfl ?_; simp only [Act.put, List.setIfInBounds_toArray, List.set_cons_zero, List.set_cons_succ])
        | (refine Seq.run ?_ rfl (fun wx hx => ?_) ?_
           rotate_left
           · have hx2 := hx
             obtain ⟨h0, h1, h2, h3, h4, h5, hB, hl, hl2, hl3⟩ := hx2
             go_simp
             first
               | (refine StepRun.val ?_; exact hx)
               | (refine StepRun.call (v := .string (str (txt a))) ?_; (with_reducible refine Calls.mono (text_any a ha _ (tab_below HT.out hB)) ?_); rintro e w' ⟨rfl, hb⟩; exact ⟨rfl, hx.keep hb⟩)
               | (refine StepRun.call (v := .string (str (txt a))) ?_; (with_reducible refine Calls.mono (refText_any a ha _) ?_); rintro e w' ⟨rfl, hb⟩; exact ⟨rfl, hx.keep hb⟩)
               | (refine StepRun.call (v := .string (PT a B)) ?_; (with_reducible refine Calls.mono (prefixText_all a B ha _ (tab_below HT.out hB)) ?_); rintro e w' ⟨rfl, hb⟩; exact ⟨rfl, hx.keep hb⟩)
               | (refine StepRun.call (v := .string (PT a B)) ?_; (with_reducible refine Calls.mono (refPrefixText_all a B ha _) ?_); rintro e w' ⟨rfl, hb⟩; exact ⟨rfl, hx.keep hb⟩)
               | (refine StepRun.call (v := .bool true) ?_; (with_reducible refine Calls.mono (works_any _ (tab_below HT.out hB)) ?_); rintro e w' ⟨rfl, hb⟩; exact ⟨rfl, hx.keep hb⟩)
           simp only [Act.put, List.setIfInBounds_toArray, List.set_cons_zero, List.set_cons_succ])
    refine Seq.last (fun wx hx => ?_)
    go_wp2
    go_ret
    exact ⟨rfl, hx.2.2.2.2.2.2.1⟩
end Go.Proofs.YtfohjalgpcgfmaaDoor
