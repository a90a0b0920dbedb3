/- Bytes as a text, the block of an owned row. -/
import Derived.Test.YtjdejdkjngilaaaBsl
namespace Go.Proofs.Ytjdejdkjngilaaa
open Go.RowKit
open Go.Lib (byteCells)

/-- the text that bytes are turned into -/
theorem run_string_bsl (w : World) (A : Option Addr) (n c : Nat) (l : List UInt8) (h : BSl w A n c l) :
    (convert 22 9 (.slice A n c)).run Try.prog w = .ok (.string (str l)) w := by
  have hl := h.len
  rcases h.cells_ with ⟨rfl, rfl, rfl, rfl⟩ | ⟨ad, rfl, hc⟩
  · exact run_string_bytes w 0 _ [] (World.ownsRow_nil _ _ _ _)
  · rw [run_convert_bytes_string w _ _ _ _ _ _ Try.underlying22 Try.underlying5 Try.underlying9]
    have hld := run_loadCells_list (P := Try.prog) (w := w) ad (byteCells l) hc
    rw [Lib.byteCells_length, hl] at hld
    have hcells : byteCells l = (l.map fun b => (b.toNat : Int)).map (Value.int .u8) := by simp [Lib.byteCells]
    rw [hcells] at hld
    rw [run_bytesToString w _ _ _ (l.map fun b => (b.toNat : Int)) hld]
    congr 2
    have key : ∀ (l : List UInt8) (r : ByteArray), (l.map fun b => (b.toNat : Int)).foldl (fun r n => r.push (UInt8.ofNat n.toNat)) r = ⟨r.data ++ l.toArray⟩ := by
      intro l
      induction l with
      | nil => intro r; simp
      | cons c l ih =>
        intro r
        rw [List.map_cons, List.foldl_cons, ih]
        show ByteArray.mk (r.data.push _ ++ _) = _
        congr 1
        apply Array.ext'
        simp
    rw [key]
    simp [ByteArray.empty, ByteArray.emptyWithCapacity]
    rfl
theorem str_same (l m : List UInt8) : ((str l).toList == (str m).toList) = (l == m) := by rw [str_toList, str_toList]

theorem own_cur {w : World} {B g n c : Nat} {e : TypeId} {xs : List Value} (h : w.ownsRow B e 1 (.slice (some ⟨g, 0, none⟩) n c) n xs) :
    ∃ cur : List Value, w.heap[g]? = some (.cells cur.toArray e (0, 0)) ∧ cur.length = c ∧ n ≤ c ∧ c ≤ maxLen ∧ B ≤ g := by
  rcases h.2 with ⟨hv, _⟩ | ⟨g', cap, cur, hv, hB, hh, hc, hm, hs, _⟩
  · injection hv with h1; cases h1
  · injection hv with h1 h2 h3
    cases h1
    subst h3
    exact ⟨cur.toList, by simpa using hh, by simpa using hs, hc, hm, hB⟩
theorem own_of_blk {w : World} {B g n c : Nat} {e : TypeId} {cur : List Value} (h : w.heap[g]? = some (.cells cur.toArray e (0, 0))) (hl : cur.length = c) (hc : n ≤ c) (hm : c ≤ maxLen) (hB : B ≤ g) :
    w.ownsRow B e 1 (.slice (some ⟨g, 0, none⟩) n c) n (cur.take n) :=
  ⟨by simp; omega, .inr ⟨g, c, cur.toArray, rfl, hB, h, hc, hm, by simp [hl], by simp⟩⟩
end Go.Proofs.Ytjdejdkjngilaaa
