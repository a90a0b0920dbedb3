/- A store into a row of the call's own, of any values and of bytes. -/
import Derived.Test.YtjdejdkjngilaaaBsl
namespace Go.Proofs.Ytjdejdkjngilaaa
open Go.RowKit
open Go.Lib (byteCells)

theorem own_set {w : World} {B g n cap : Nat} {e : TypeId} {xs : List Value} (h : w.ownsRow B e 1 (.slice (some ⟨g, 0, none⟩) n cap) n xs) (i : Nat) (u : Value) :
    (w.setCell ⟨g, i, none⟩ u).ownsRow B e 1 (.slice (some ⟨g, 0, none⟩) n cap) n (xs.set i u) := by
  refine ⟨by rw [List.length_set]; exact h.1, ?_⟩
  rcases h.2 with ⟨hv, _⟩ | ⟨g', cap', cur, hv, hB, hh, h1, h2, h3, h4⟩
  · cases hv
  · injection hv with e1 e2 e3
    injection e1 with e1
    injection e1 with e1
    subst e1 e3
    refine .inr ⟨g, cap, cur.setIfInBounds i u, rfl, hB, ?_, h1, h2, by simpa using h3, ?_⟩
    · simp [World.setCell, Array.getElem?_modify, hh]
    · rw [Array.toList_setIfInBounds, List.take_set, h4]
theorem own_form {w : World} {B n : Nat} {e : TypeId} {v : Value} {xs : List Value} (h : w.ownsRow B e 1 v n xs) (hn : 0 < n) : ∃ g cap, v = .slice (some ⟨g, 0, none⟩) n cap ∧ B ≤ g ∧ g < w.heap.size ∧ n ≤ cap ∧ cap ≤ maxLen := by
  rcases h.2 with ⟨_, h0⟩ | ⟨g, cap, cur, rfl, hB, hh, h1, h2, _⟩
  · omega
  · refine ⟨g, cap, rfl, hB, ?_, h1, h2⟩
    rcases Nat.lt_or_ge g w.heap.size with h' | h'
    · exact h'
    · rw [Array.getElem?_eq_none h'] at hh; cases hh
theorem own_free {w : World} {B g n cap : Nat} {e : TypeId} {xs : List Value} (h : w.ownsRow B e 1 (.slice (some ⟨g, 0, none⟩) n cap) n xs) (i : Nat) : w.frozen? ⟨g, i, none⟩ = false := by
  rcases h.2 with ⟨hv, _⟩ | ⟨g', cap', cur, hv, hB, hh, _⟩
  · cases hv
  · injection hv with e1 e2 e3
    injection e1 with e1
    injection e1 with e1
    subst e1
    exact Joins.unfrozen_of_block hh i
theorem byteCells_set (l : List UInt8) (i : Nat) (v : UInt8) : byteCells (l.set i v) = (byteCells l).set i (.int .u8 (v.toNat : Int)) := by
  simp [Lib.byteCells, List.map_set]
theorem own_setB {w : World} {B g n cap : Nat} {e : TypeId} {l : List UInt8} (h : w.ownsRow B e 1 (.slice (some ⟨g, 0, none⟩) n cap) n (byteCells l)) (i : Nat) (x : Int) (x0 : 0 ≤ x) (x1 : x < 256) :
    (w.setCell ⟨g, i, none⟩ (.int .u8 x)).ownsRow B e 1 (.slice (some ⟨g, 0, none⟩) n cap) n (byteCells (l.set i (u8 x))) := by
  rw [byteCells_set, u8_val x x0 x1]
  exact own_set h i _
theorem own_cellB {w : World} {B g n cap : Nat} {e : TypeId} {l : List UInt8} (h : w.ownsRow B e 1 (.slice (some ⟨g, 0, none⟩) n cap) n (byteCells l)) (i : Nat) (hi : i < n) : w.cell? ⟨g, i, none⟩ = some (.int .u8 (bat l i)) := by
  have := BSl.of_own h
  obtain ⟨b, off, e, _, hc⟩ := this.at_ (by omega)
  injection e with e
  injection e with e1 e2
  subst e1 e2
  have := hc i hi
  rwa [Nat.zero_add] at this
/-- a row that is laid out -/
theorem own_lit (w : World) (B : Nat) (hB : B ≤ w.heap.size) (cs : Array Value) (l : List UInt8) (h : cs.toList = byteCells l) (n p : Nat) (hn : l.length = n) (hp : p = w.heap.size) (hm : n ≤ 1000) :
    (w.alloc (.cells cs 5)).ownsRow B 5 1 (.slice (some ⟨p, 0, none⟩) n n) n (byteCells l) := by
  subst hp
  have := World.ownsRow_lit (base := B) (e := 5) (size := 1) w cs n hB (by unfold maxLen; omega) (by rw [← Array.length_toList, h, Lib.byteCells_length, hn, Nat.mul_one])
  rw [h] at this
  exact this
/-- a row that was made later is no part of what an elder row grows by -/
theorem own_apart {w0 w w' : World} {B B' n m : Nat} {e e' : TypeId} {u v : Value} {xs ys : List Value} (ht : w.ownsRow B' e' 1 u m ys) (ha : w0.ownsRow B e 1 v n xs) (hB : w0.heap.size ≤ B') (hg : w.grownBy w' v.ownBlock) : w'.ownsRow B' e' 1 u m ys := by
  refine ht.kept hg ?_
  rcases hu : u.ownBlock with _ | k
  · exact .inl rfl
  · refine .inr ?_
    intro e
    have h1 := (ht.lt k hu).1
    have h2 := (ha.lt k e.symm).2
    omega
end Go.Proofs.Ytjdejdkjngilaaa
