/- A line's words read one by one: the steps. What palingref11.Read hands back, read out of its box. -/
import Derived.Test.YtagbfklcbekceaaGreatDoorStRef
import Derived.Test.YtagbfklcbekceaaGreatDoorStPut
namespace Go.Proofs.YtagbfklcbekceaaGreatDoor
open Go.RowKit

theorem fm_lt (ws : List (List UInt8)) : ∀ c ∈ fmV ws, Lt c := by
  unfold fmV Lt
  by_cases h0 : ws = []
  · rw [if_pos h0]; intro c hc; cases hc
  rw [if_neg h0]
  by_cases h1 : kdV (wat ws 0) = 1
  · rw [if_pos h1]; decide
  rw [if_neg h1]
  by_cases h3 : kdV (wat ws 0) = 3
  · rw [if_pos h3]; decide
  rw [if_neg h3]
  by_cases h4 : kdV (wat ws 0) = 4
  · rw [if_pos h4]; decide
  rw [if_neg h4]
  by_cases h5 : kdV (wat ws 0) = 5
  · rw [if_pos h5]; decide
  rw [if_neg h5]
  by_cases h6 : kdV (wat ws 0) = 6
  · rw [if_pos h6]; decide
  rw [if_neg h6]
  by_cases h7 : kdV (wat ws 0) = 7
  · rw [if_pos h7]; decide
  rw [if_neg h7]
  by_cases h8 : kdV (wat ws 0) = 8
  · rw [if_pos h8]; decide
  rw [if_neg h8]
  by_cases h9 : kdV (wat ws 0) = 9
  · rw [if_pos h9]; decide
  rw [if_neg h9]
  by_cases h2 : kdV (wat ws 0) = 2
  · rw [if_pos h2]
    by_cases g : ws.length = 7 ∧ ¬ wat ws 4 = sAccess
    · rw [if_pos g]; decide
    rw [if_neg g]
    by_cases g2 : ws.length = 6 ∧ ¬ wat ws 4 = sTrunk
    · rw [if_pos g2]; decide
    rw [if_neg g2]; intro c hc; cases hc
  · rw [if_neg h2]; intro c hc; cases hc
theorem runS_at {f : List UInt8} {ws : List (List UInt8)} {i kn : Nat} {L : LV} (h : i < f.length) (g : i + 1 < ws.length) :
    runS (f.drop i) (ws.drop (i + 1)) kn L = if wdE (f.getD i 0) (wat ws (i + 1)) = 0 then runS (f.drop (i + 1)) (ws.drop (i + 1 + 1)) (if f.getD i 0 = 78 then kn + 1 else kn) (wdL (f.getD i 0) (wat ws (i + 1)) kn L) else (wdE (f.getD i 0) (wat ws (i + 1)), L) := by
  have e1 : f.drop i = f.getD i 0 :: f.drop (i + 1) := by rw [List.drop_eq_getElem_cons h]; simp [List.getD, List.getElem?_eq_getElem h]
  have e2 : ws.drop (i + 1) = wat ws (i + 1) :: ws.drop (i + 1 + 1) := by rw [List.drop_eq_getElem_cons g]; simp [wat, List.getD, List.getElem?_eq_getElem g]
  rw [e1, e2, runS]
theorem runS_end {f : List UInt8} {ws : List (List UInt8)} {i kn : Nat} {L : LV} (h : f.length ≤ i) : runS (f.drop i) ws kn L = (0, L) := by
  rw [List.drop_eq_nil_of_le h]
  cases ws <;> rfl

/-- seventeen cells of a block written, one behind the other -/
def put17 (w : World) (q : Nat) (f : Nat → Value) : World :=
  ((((((((((((((((w.setCell ⟨q, 0, none⟩ (f 0)).setCell ⟨q, 1, none⟩ (f 1)).setCell ⟨q, 2, none⟩ (f 2)).setCell ⟨q, 3, none⟩ (f 3)).setCell ⟨q, 4, none⟩ (f 4)).setCell ⟨q, 5, none⟩ (f 5)).setCell ⟨q, 6, none⟩ (f 6)).setCell ⟨q, 7, none⟩ (f 7)).setCell ⟨q, 8, none⟩ (f 8)).setCell ⟨q, 9, none⟩ (f 9)).setCell ⟨q, 10, none⟩ (f 10)).setCell ⟨q, 11, none⟩ (f 11)).setCell ⟨q, 12, none⟩ (f 12)).setCell ⟨q, 13, none⟩ (f 13)).setCell ⟨q, 14, none⟩ (f 14)).setCell ⟨q, 15, none⟩ (f 15)).setCell ⟨q, 16, none⟩ (f 16)
theorem put17_box {w : World} {q : Nat} {f g : Nat → Value} (h : BoxF w q 17 g) : BoxF (put17 w q f) q 17 f := by
  unfold put17
  have H := ((((((((((((((((h.set 0 (by omega) (f 0)).set 1 (by omega) (f 1)).set 2 (by omega) (f 2)).set 3 (by omega) (f 3)).set 4 (by omega) (f 4)).set 5 (by omega) (f 5)).set 6 (by omega) (f 6)).set 7 (by omega) (f 7)).set 8 (by omega) (f 8)).set 9 (by omega) (f 9)).set 10 (by omega) (f 10)).set 11 (by omega) (f 11)).set 12 (by omega) (f 12)).set 13 (by omega) (f 13)).set 14 (by omega) (f 14)).set 15 (by omega) (f 15)).set 16 (by omega) (f 16)
  exact H.is (fun i hi => match i, hi with | 0, _ | 1, _ | 2, _ | 3, _ | 4, _ | 5, _ | 6, _ | 7, _ | 8, _ | 9, _ | 10, _ | 11, _ | 12, _ | 13, _ | 14, _ | 15, _ | 16, _ => rfl | i + 17, h => absurd h (by omega))
theorem put17_below {B : Nat} {a w : World} {q : Nat} {f : Nat → Value} (h : Below B a w) (hq : B ≤ q) : Below B a (put17 w q f) := by
  unfold put17
  exact ((((((((((((((((h.setCell hq _).setCell hq _).setCell hq _).setCell hq _).setCell hq _).setCell hq _).setCell hq _).setCell hq _).setCell hq _).setCell hq _).setCell hq _).setCell hq _).setCell hq _).setCell hq _).setCell hq _).setCell hq _).setCell hq _
theorem put17_isl {w : World} {q : Nat} {f : Nat → Value} {k : IntKind} {s : SlV} {xs : List Int} (h : FSl w q k s xs) : FSl (put17 w q f) q k s xs := by
  unfold put17
  exact ((((((((((((((((h.set 0 _).set 1 _).set 2 _).set 3 _).set 4 _).set 5 _).set 6 _).set 7 _).set 8 _).set 9 _).set 10 _).set 11 _).set 12 _).set 13 _).set 14 _).set 15 _).set 16 _
theorem put17_read {w : World} {p q : Nat} {f : Nat → Value} {L : LV} {s1 s2 s3 s4 : SlV} (h : LBox w q L s1 s2 s3 s4) (hp : p < q) : LRead (put17 w p f) L s1 s2 s3 s4 :=
  ⟨(put17_isl (h.2.1.mono (Nat.le_of_lt hp))).1, (put17_isl (h.2.2.1.mono (Nat.le_of_lt hp))).1, (put17_isl (h.2.2.2.1.mono (Nat.le_of_lt hp))).1, (put17_isl (h.2.2.2.2.mono (Nat.le_of_lt hp))).1⟩
end Go.Proofs.YtagbfklcbekceaaGreatDoor

namespace Go.Proofs.YtagbfklcbekceaaGreatDoor
open Go.RowKit

/-- lists that lie behind B, or nil -/
def LNew (B : Nat) (s1 s2 s3 s4 : SlV) : Prop := (∀ ad, s1.A = some ad → B ≤ ad.block) ∧ (∀ ad, s2.A = some ad → B ≤ ad.block) ∧ (∀ ad, s3.A = some ad → B ≤ ad.block) ∧ ∀ ad, s4.A = some ad → B ≤ ad.block
theorem LNew.nil (B : Nat) : LNew B SlV.nil SlV.nil SlV.nil SlV.nil := ⟨fun _ h => (by cases h), fun _ h => (by cases h), fun _ h => (by cases h), fun _ h => (by cases h)⟩
theorem LBox.new {w : World} {q B : Nat} {L : LV} {s1 s2 s3 s4 : SlV} (h : LBox w q L s1 s2 s3 s4) (hB : B ≤ q) : LNew B s1 s2 s3 s4 := by
  have key : ∀ (k : IntKind) (s : SlV) (xs : List Int), FSl w q k s xs → ∀ ad, s.A = some ad → B ≤ ad.block := fun k s xs f ad e => Nat.le_of_lt (Nat.lt_of_le_of_lt hB (f.2 ad e))
  exact ⟨key _ _ _ h.2.1, key _ _ _ h.2.2.1, key _ _ _ h.2.2.2.1, key _ _ _ h.2.2.2.2⟩
/-- a line and a number, as a call returns them; the line's lists lie behind the world of the call -/
def GotLine (w : World) (L : LV) (E : Int) (e : Ending) (w' : World) : Prop :=
  ∃ s1 s2 s3 s4, e = .returned (.tuple #[lineV L s1 s2 s3 s4, .int .i64 E]) ∧ LRead w' L s1 s2 s3 s4 ∧ LNew w.heap.size s1 s2 s3 s4 ∧ Below w.heap.size w w'
theorem new_box (w : World) (row kind : Int) (T : TypeId) : BoxF (w.alloc (.cells #[.int .i64 row, .int .i64 kind, .string ⟨#[]⟩, .string ⟨#[]⟩, .string ⟨#[]⟩, .string ⟨#[]⟩, .string ⟨#[]⟩, .int .u64 0, .int .u32 0, .int .i64 0, .int .i64 0, .int .i64 0, .int .i64 0, .slice none 0 0, .slice none 0 0, .slice none 0 0, .slice none 0 0] T)) w.heap.size 17 (lc (LV.new row kind) SlV.nil SlV.nil SlV.nil SlV.nil) := by
  refine ⟨fun j hj => ?_, fun o => by simp⟩
  match j, hj with
  | 0, _ | 1, _ | 2, _ | 3, _ | 4, _ | 5, _ | 6, _ | 7, _ | 8, _ | 9, _ | 10, _ | 11, _ | 12, _ | 13, _ | 14, _ | 15, _ | 16, _ => simp [lc, LV.new, SlV.nil, SlV.val, str]
  | j + 17, h => exact absurd h (by omega)
end Go.Proofs.YtagbfklcbekceaaGreatDoor
