/- The contracts of palingref11's readers of one word. The contracts of palingref11.Subnet and word. The contracts of palingref11.word, letter by letter. The contracts of palingref11.word, the other letters. The contracts of palingref11.kind and form. The contracts of palingref11.members and Read. -/
import Derived.Test.YtagbfklcbekceaaGreatDoorStMath
import Derived.Test.YtagbfklcbekceaaGreatDoorRef3
import Derived.Test.YtagbfklcbekceaaGreatDoorSeq
import Derived.Test.YtagbfklcbekceaaGreatDoorSsl
import Derived.RegionTactic
namespace Go.Proofs.YtagbfklcbekceaaGreatDoor
open Go.RowKit

/-- what a call leaves that writes into a line's box -/
def GotW (w : World) (q : Nat) (L : LV) (v : Value) (e : Ending) (w' : World) : Prop :=
  e = .returned v ∧ (∃ s1 s2 s3 s4, LBox w' q L s1 s2 s3 s4) ∧ Ex q w w'

end Go.Proofs.YtagbfklcbekceaaGreatDoor

namespace Go.Proofs.YtagbfklcbekceaaGreatDoor
open Go.RowKit

/-- a prefix's box, and what was there is as it was -/
def One (w : World) (A B : Int) (w' : World) : Prop :=
  w'.cell? ⟨w.heap.size, 0, none⟩ = some (.int .u32 A) ∧ w'.cell? ⟨w.heap.size, 1, none⟩ = some (.int .i64 B) ∧ Below w.heap.size w w' ∧ w.heap.size < w'.heap.size
theorem One.keep {w W w' : World} {A B : Int} (h : One w A B W) (hb : Below W.heap.size W w') : One w A B w' := by
  obtain ⟨h0, h1, hB, hl⟩ := h
  exact ⟨(hb.cell (p := ⟨w.heap.size, 0, none⟩) hl).trans h0, (hb.cell (p := ⟨w.heap.size, 1, none⟩) hl).trans h1, hB.trans (hb.mono hB.size), Nat.lt_of_lt_of_le hl hb.size⟩
theorem One.drew {w W : World} {A B : Int} (h : One w A B W) : One w A B W.drew := by
  obtain ⟨h0, h1, hB, hl⟩ := h
  exact ⟨h0, h1, ⟨hB.os, hB.tape, hB.output, hB.size, hB.block⟩, hl⟩
theorem One.start (w : World) (A B : Int) (T : TypeId) : One w A B (w.alloc (.cells #[.int .u32 A, .int .i64 B] T)) :=
  ⟨by simp, by simp, (Below.refl _ _).alloc (Nat.le_refl _) _, by simp⟩
end Go.Proofs.YtagbfklcbekceaaGreatDoor

namespace Go.Proofs.YtagbfklcbekceaaGreatDoor
open Go.RowKit

/-- what reading a word leaves -/
def GotWd (w : World) (q : Nat) (E : Int) (M : LV) (e : Ending) (w' : World) : Prop :=
  e = .returned (.int .i64 E) ∧ (∃ L s1 s2 s3 s4, LBox w' q L s1 s2 s3 s4 ∧ (E = 0 → L = M)) ∧ Ex q w w'
theorem mc_bd (s : List UInt8) : 0 ≤ mcV s ∧ mcV s < 281474976710656 := by
  unfold mcV Mac.rdV
  by_cases h : Mac.rdB (str s) = true
  · rw [if_pos h]
    have := Mac.val_bd (str s) 6 ((Mac.rdB_iff (str s)).1 h).2
    omega
  · rw [if_neg h]
    omega
theorem pa_bd (s : List UInt8) : 0 ≤ paV s ∧ paV s < 4294967296 := by
  unfold paV
  cases h : pfF s with
  | none => simp
  | some p =>
    obtain ⟨a, b⟩ := p
    have := (pfF_iff.1 h).1
    simp
    omega
theorem rdV_bd (s : List UInt8) : 0 ≤ rdV s ∧ rdV s < 4294967296 := by
  unfold rdV
  cases h : rdF s with
  | none => simp
  | some a =>
    have := (rdF_iff.1 h).1
    simp
    omega
theorem lsA_some {s : List UInt8} (h : lsB rdA s = true) : 1 ≤ (lsV rdA s).length := by
  unfold lsB at h
  unfold lsV
  cases hx : rlF rdA s with
  | none => rw [hx] at h; cases h
  | some xs =>
    unfold rlF at hx
    cases hy : allRd rdA (splitC s) with
    | none => rw [hy] at hx; cases hx
    | some ys =>
      rw [hy] at hx
      simp only at hx
      by_cases hr : risB ys = true
      · rw [if_pos hr] at hx
        cases hx
        exact ((risB_iff xs).1 hr).1
      · rw [if_neg hr] at hx; cases hx
end Go.Proofs.YtagbfklcbekceaaGreatDoor

namespace Go.Proofs.YtagbfklcbekceaaGreatDoor
open Go.RowKit

theorem FSl.got {w w' : World} {q : Nat} {k : IntKind} {A : Option Addr} {n c : Nat} {xs : List Int} (h : ISl w' k A n c xs) (hf : ∀ ad, A = some ad → w.heap.size ≤ ad.block) (hq : q < w.heap.size) : FSl w' q k ⟨A, n, c⟩ xs :=
  ⟨h, fun ad g => by have := hf ad g; omega⟩
theorem sub_keep {w1 w2 : World} {q : Nat} {V U : Int} {T : TypeId} (hq : q < w1.heap.size) (h : Below (w1.alloc (.cells #[.int .u32 V, .int .i64 U] T)).heap.size (w1.alloc (.cells #[.int .u32 V, .int .i64 U] T)) w2) :
    w2.cell? ⟨w1.heap.size, 0, none⟩ = some (.int .u32 V) ∧ w2.cell? ⟨w1.heap.size, 1, none⟩ = some (.int .i64 U) ∧ (∀ u : Value, (w2.setCell ⟨q, 8, none⟩ u).cell? ⟨w1.heap.size, 1, none⟩ = some (.int .i64 U)) ∧ w1.heap.size < w2.heap.size ∧ Below w1.heap.size w1 w2 := by
  have hz : w1.heap.size < (w1.alloc (.cells #[.int .u32 V, .int .i64 U] T)).heap.size := by simp
  have k1 : w2.cell? ⟨w1.heap.size, 1, none⟩ = some (.int .i64 U) := (h.cell (p := ⟨w1.heap.size, 1, none⟩) hz).trans (by simp)
  have hne : w1.heap.size ≠ q := by omega
  exact ⟨(h.cell (p := ⟨w1.heap.size, 0, none⟩) hz).trans (by simp), k1, fun u => (World.cell?_setCell_other _ _ _ _ (by intro e; injection e with e1 _; exact hne e1.symm)).trans k1, Nat.lt_of_lt_of_le hz h.size, one_below h⟩
end Go.Proofs.YtagbfklcbekceaaGreatDoor

namespace Go.Proofs.YtagbfklcbekceaaGreatDoor
open Go.RowKit

end Go.Proofs.YtagbfklcbekceaaGreatDoor

namespace Go.Proofs.YtagbfklcbekceaaGreatDoor
open Go.RowKit

theorem mb_cons {L : LV} {n : Nat} (hl : L.tagged.length = n) (h : ∀ j, j < n → ¬ L.tagged.getD j 0 = L.vlan) : L.tagged.all (fun x => !decide (x = L.vlan)) = true := by
  rw [List.all_eq_true]
  intro x hx
  obtain ⟨i, hi, rfl⟩ := mem_getD hx
  simpa using h i (by omega)
theorem mb_some {L : LV} {k : Nat} (hk : k < L.tagged.length) (h : L.tagged.getD k 0 = L.vlan) : mbB L = false := by
  unfold mbB
  have : L.tagged.all (fun x => !decide (x = L.vlan)) = false := by
    rw [List.all_eq_false]
    refine ⟨L.tagged[k], List.getElem_mem hk, ?_⟩
    have : L.tagged.getD k 0 = L.tagged[k] := by simp [List.getD, List.getElem?_eq_getElem hk]
    rw [← this, h]
    simp
  rw [this]
  rfl
/-- the letters -/
def Lt (c : UInt8) : Prop := c = 78 ∨ c = 80 ∨ c = 67 ∨ c = 77 ∨ c = 86 ∨ c = 87 ∨ c = 84 ∨ c = 73 ∨ c = 65 ∨ c = 76 ∨ c = 82 ∨ c = 83 ∨ c = 75
end Go.Proofs.YtagbfklcbekceaaGreatDoor
