/- What calls that make memory leave as it was. A slice of integers that reads as a list, nil or not. A slice of integers that came in, as the row tells of it, reads as a list. What is beside an error: zero, nothing. One bit of a byte turned. -/
import Derived.Test.YtnpembgchmmbjaaBase
import Derived.Test.YtnpembgchmmbjaaRows
namespace Go.Proofs.Ytnpembgchmmbjaa
open Go.RowKit

theorem bcell {W w1 : World} (hb : Below W.heap.size W w1) : (∀ b o, b < W.heap.size → w1.cell? ⟨b, o, none⟩ = W.cell? ⟨b, o, none⟩) ∧ (∀ b o, b < W.heap.size → w1.frozen? ⟨b, o, none⟩ = W.frozen? ⟨b, o, none⟩) :=
  ⟨fun b o h => hb.cell (p := ⟨b, o, none⟩) h, fun b o h => hb.frozen (p := ⟨b, o, none⟩) h⟩
theorem two_below {w w1 : World} {o1 o2 : Obj} (hb : Below ((w.alloc o1).alloc o2).heap.size ((w.alloc o1).alloc o2) w1) : Below w.heap.size w w1 :=
  (((Below.refl _ _).alloc (Nat.le_refl _) _).alloc (by simp) _).trans (hb.mono (by simp; omega))
theorem one_below {w w1 : World} {o1 : Obj} (hb : Below (w.alloc o1).heap.size (w.alloc o1) w1) : Below w.heap.size w w1 :=
  ((Below.refl _ _).alloc (Nat.le_refl _) _).trans (hb.mono (by simp))
theorem trans_below {w w1 w2 : World} (h : Below w.heap.size w w1) (g : Below w1.heap.size w1 w2) : Below w.heap.size w w2 := h.trans (g.mono h.size)
theorem two_alloc (w : World) (o1 o2 : Obj) : Below w.heap.size w ((w.alloc o1).alloc o2) := ((Below.refl _ _).alloc (Nat.le_refl _) _).alloc (by simp) _
end Go.Proofs.Ytnpembgchmmbjaa

namespace Go.Proofs.Ytnpembgchmmbjaa
open Go.RowKit

/-- The slice's elements read as the numbers xs. -/
def ISl (w : World) (k : IntKind) (A : Option Addr) (n c : Nat) (xs : List Int) : Prop :=
  xs.length = n ∧ n ≤ c ∧ c ≤ maxLen ∧ (0 < n → ∃ b off, A = some ⟨b, off, none⟩ ∧ b < w.heap.size ∧ ∀ j, j < n → w.cell? ⟨b, off + j, none⟩ = some (.int k (xs.getD j 0)))
section
variable {w w' : World} {k : IntKind} {A : Option Addr} {n c : Nat} {xs : List Int}
theorem ISl.below (h : ISl w k A n c xs) (hb : Below w.heap.size w w') : ISl w' k A n c xs :=
  ⟨h.1, h.2.1, h.2.2.1, fun hn => by
    obtain ⟨b, off, e, hl, hc⟩ := h.2.2.2 hn
    exact ⟨b, off, e, Nat.lt_of_lt_of_le hl hb.size, fun j hj => (hb.cell (p := ⟨b, off + j, none⟩) hl).trans (hc j hj)⟩⟩
theorem ISl.alloc (h : ISl w k A n c xs) (o : Obj) : ISl (w.alloc o) k A n c xs := h.below ((Below.refl _ _).alloc (Nat.le_refl _) o)
theorem ISl.drewN (h : ISl w k A n c xs) (m : Nat) : ISl (w.drewN m) k A n c xs := h
theorem ISl.drew (h : ISl w k A n c xs) (hd : Drew w w') : ISl w' k A n c xs := by obtain ⟨m, rfl⟩ := hd; exact h
theorem ISl.nil : ISl w k none 0 0 [] := ⟨rfl, Nat.le_refl _, Nat.zero_le _, fun h => absurd h (by omega)⟩
theorem ISl.le (h : ISl w k A n c xs) : n ≤ c := h.2.1
theorem ISl.len (h : ISl w k A n c xs) : xs.length = n := h.1
theorem ISl.cap (h : ISl w k A n c xs) : c ≤ 9223372036854775807 := by have := h.2.2.1; unfold maxLen at this; omega
theorem ISl.of_own {B : Nat} {e : TypeId} (h : w.ownsRow B e 1 (.slice A n c) n (xs.map (Value.int k))) : ISl w k A n c xs := by
  have hl := h.1
  rw [List.length_map, Nat.mul_one] at hl
  rcases h.2 with ⟨hv, hn⟩ | ⟨g, cap, cur, hv, hB, hh, hnc, hm, _⟩
  · injection hv with h1 h2 h3
    subst h1 h3 hn
    exact ⟨hl, Nat.le_refl _, Nat.zero_le _, fun h => absurd h (by omega)⟩
  · injection hv with h1 h2 h3
    subst h1 h3
    refine ⟨hl, hnc, hm, fun hn => ⟨g, 0, rfl, ?_, fun j hj => ?_⟩⟩
    · rcases Nat.lt_or_ge g w.heap.size with h' | h'
      · exact h'
      · rw [Array.getElem?_eq_none h'] at hh; cases hh
    · have := h.cells (g := g) rfl j (.int k (xs.getD j 0)) (by simp [List.getD, List.getElem?_eq_getElem (show j < xs.length by omega)])
      rw [← this]
      by_cases h0 : j = 0 <;> simp [Addr.add, h0]
end
end Go.Proofs.Ytnpembgchmmbjaa

namespace Go.Proofs.Ytnpembgchmmbjaa
open Go.RowKit

/-- what is told of a slice of integers that came in -/
def IsRow (k : IntKind) (w : World) (a : Option Addr) (len cap : Nat) (zs : List Int) : Prop :=
  (a = none ∧ len = 0 ∧ cap = 0 ∧ zs = []) ∨
  ∃ x, a = some x ∧ len ≤ cap ∧ cap ≤ maxLen ∧ zs.length = cap ∧ (∀ i, i < zs.length → w.cell? (x.add i) = some (.int k (zs.getD i 0))) ∧ ∀ n ∈ zs, (Lit.int k n).wf = true
theorem IsRow.isl {k : IntKind} {w : World} {a : Option Addr} {len cap : Nat} {zs : List Int} (h : IsRow k w a len cap zs) : ISl w k a len cap (zs.take len) := by
  rcases h with ⟨rfl, rfl, rfl, rfl⟩ | ⟨x, rfl, h1, h2, h3, h4, _⟩
  · exact ISl.nil
  · refine ⟨by rw [List.length_take]; omega, h1, h2, fun hl => ?_⟩
    obtain ⟨b, off, spot⟩ := x
    have hc := h4 0 (by omega)
    have hspot : spot = none := by simpa [Addr.add] using World.cell?_spot hc
    subst hspot
    have hadd : ∀ i, (⟨b, off, none⟩ : Addr).add i = ⟨b, off + i, none⟩ := fun i => by unfold Addr.add; split <;> simp_all
    refine ⟨b, off, rfl, ?_, fun i hi => ?_⟩
    · have := World.block_lt_of_cell? w _ hc
      rw [hadd] at this
      exact this
    · have hci := h4 i (by omega)
      rw [hadd] at hci
      rw [hci]
      simp [List.getD, hi]
theorem IsRow.wf {k : IntKind} {w : World} {a : Option Addr} {len cap : Nat} {zs : List Int} (h : IsRow k w a len cap zs) : ∀ n ∈ zs.take len, (Lit.int k n).wf = true := by
  rcases h with ⟨rfl, rfl, rfl, rfl⟩ | ⟨x, rfl, h1, h2, h3, _, h5⟩
  · intro n hn; cases hn
  · exact fun n hn => h5 n (List.mem_of_mem_take hn)
end Go.Proofs.Ytnpembgchmmbjaa

namespace Go.Proofs.Ytnpembgchmmbjaa

/-- x where there is no error, else 0 -/
def oi (E x : Int) : Int := if E = 0 then x else 0
/-- l where there is no error, else nothing -/
def ol (E : Int) (l : List UInt8) : List UInt8 := if E = 0 then l else []
theorem oi_ok {x : Int} : oi 0 x = x := rfl
theorem ol_ok {l : List UInt8} : ol 0 l = l := rfl
theorem oi_no {E x : Int} (h : ¬ E = 0) : oi E x = 0 := by unfold oi; rw [if_neg h]
theorem ol_no {E : Int} {l : List UInt8} (h : ¬ E = 0) : ol E l = [] := by unfold ol; rw [if_neg h]
end Go.Proofs.Ytnpembgchmmbjaa

namespace Go.Proofs.Ytnpembgchmmbjaa
open Go.RowKit

/-- a byte with one bit turned -/
theorem xor_bit (x : Int) (j : Nat) (x0 : 0 ≤ x) (x1 : x < 256) (hj : j < 8) :
    ∃ y, bits .xor .u8 x (2 ^ j % 256) = y ∧ 0 ≤ y ∧ y < 256 ∧ (y = x + 2 ^ j ∨ y = x - 2 ^ j) := by
  obtain ⟨n, rfl⟩ := Int.eq_ofNat_of_zero_le x0
  refine ⟨_, rfl, ?_⟩
  have key : ∀ (i : Fin 256) (k : Fin 8), 0 ≤ bits .xor .u8 ((i.val : Nat) : Int) (2 ^ k.val % 256) ∧ bits .xor .u8 ((i.val : Nat) : Int) (2 ^ k.val % 256) < 256 ∧
      (bits .xor .u8 ((i.val : Nat) : Int) (2 ^ k.val % 256) = ((i.val : Nat) : Int) + 2 ^ k.val ∨ bits .xor .u8 ((i.val : Nat) : Int) (2 ^ k.val % 256) = ((i.val : Nat) : Int) - 2 ^ k.val) := by decide +kernel
  exact key ⟨n, by omega⟩ ⟨j, hj⟩
end Go.Proofs.Ytnpembgchmmbjaa
