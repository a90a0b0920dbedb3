/- What the walks share: bytes as numbers, texts as rows of bytes, worlds. -/
import Derived.Test.YtnpembgchmmbjaaRows
import Derived.WalkKit
import Derived.ProofKit
import Derived.Lib.Hide
import Derived.Lib.IndexBytes
import Derived.Deep.AppendLies
import Derived.Deep.RegionLaw
import Derived.Deep.RegionHeld3
import Derived.Deep.QuietTactic
import Derived.BigQuiet
import Derived.ShutString
import Derived.StillTailTactics
import Derived.Deep.DeepFit
import Derived.IntWalk
import Derived.Lib.LaidTab
import Derived.Lib.UnsafeStr
import Derived.Lib.AppendStr
namespace Go.Proofs.Ytnpembgchmmbjaa
open Go.RowKit

theorem Try.info5 : (Try.prog.info? 5).map (fun i => (i.zero, i.size, i.bytes)) = some (some (.int .u8 0), 1, 1) := by kernel_rfl

/-- a text of these bytes -/
abbrev str (l : List UInt8) : ByteArray := ⟨l.toArray⟩
theorem str_data (s : ByteArray) : str s.data.toList = s := by cases s; simp [str]
theorem str_append (a b : List UInt8) : str a ++ str b = str (a ++ b) := by
  unfold str
  rw [ByteArray.mk_append_mk]
theorem str_size (l : List UInt8) : (str l).size = l.length := by simp [ByteArray.size]
theorem str_inj {a b : List UInt8} (h : str a = str b) : a = b := by
  have h2 := congrArg (fun s : ByteArray => s.data.toList) h
  simpa [str] using h2
theorem extract_str (s : ByteArray) (a : Nat) : s.extract a s.size = str (s.data.toList.drop a) := by
  rw [← str_data (s.extract a s.size), Lib.extract_to_end]
theorem bytes_ne (a b : ByteArray) (h : a ≠ b) : (a.toList == b.toList) = false := by
  rcases hx : (a.toList == b.toList) with _ | _
  · rfl
  · exfalso
    have e : a.toList = b.toList := by simpa using hx
    rw [ByteArray.toList_eq, ByteArray.toList_eq] at e
    apply h
    cases a
    cases b
    exact congrArg ByteArray.mk (Array.ext' e)

/-- the byte at j -/
def sb (s : ByteArray) (j : Nat) : Int := ((s.data.toList.getD j 0).toNat : Int)
theorem sb_lo (s : ByteArray) (j : Nat) : 0 ≤ sb s j := by unfold sb; omega
theorem sb_hi (s : ByteArray) (j : Nat) : sb s j < 256 := by unfold sb; have := (s.data.toList.getD j 0).toNat_lt; omega
theorem size_len (s : ByteArray) : s.data.toList.length = s.size := by simp
theorem run_index_sb (s : ByteArray) (j : Nat) (i : Int) (hi : i = (j : Int)) (hj : j < s.size) (w : World) : (Instr.index 9 (.string s) (.int .i64 i)).run Try.prog w = .ok (.int .u8 (sb s j)) w := by
  subst hi
  have h1 : ((j : Int)) < (s.size : Int) := by omega
  go_simp
  simp [sb, List.getD, List.getElem?_eq_getElem (show j < s.data.toList.length by simpa using hj)]
  rfl

theorem below_app {a w w' : World} {e : TypeId} {s n : Nat} {v : Value} {xs : List Value} (h : Below a.heap.size a w) (ho : w.ownsRow a.heap.size e s v n xs) (hg : w.grownBy w' v.ownBlock) : Below a.heap.size a w' :=
  h.grown hg h.size (fun k hk => (ho.lt k hk).1)
theorem below_drewN {B : Nat} {a w : World} (h : Below B a w) (n : Nat) : Below B a (w.drewN n) := ⟨h.os, h.tape, h.output, h.size, h.block⟩
theorem drewN_add (w : World) (m n : Nat) : (w.drewN m).drewN n = w.drewN (m + n) := by simp [World.drewN, Nat.add_assoc]
/-- a world that is as it was, but for draws -/
def Drew (w w' : World) : Prop := ∃ n, w' = w.drewN n
theorem Drew.refl (w : World) : Drew w w := ⟨0, rfl⟩
theorem Drew.trans {a b c : World} (h : Drew a b) (g : Drew b c) : Drew a c := by
  obtain ⟨m, rfl⟩ := h
  obtain ⟨n, rfl⟩ := g
  exact ⟨m + n, by rw [drewN_add]⟩
theorem Drew.below {w w' : World} (h : Drew w w') : Below w.heap.size w w' := by
  obtain ⟨n, rfl⟩ := h
  exact below_drewN (Below.refl _ _) n
theorem Drew.size {w w' : World} (h : Drew w w') : w'.heap.size = w.heap.size := by
  obtain ⟨n, rfl⟩ := h
  rfl
theorem Below.drew {B : Nat} {a w w' : World} (h : Below B a w) (g : Drew w w') : Below B a w' := by
  obtain ⟨n, rfl⟩ := g
  exact below_drewN h n
theorem str_empty : str [] = ⟨#[]⟩ := rfl
theorem str_toList (l : List UInt8) : (str l).toList = l := by rw [ByteArray.toList_eq]
theorem str_some {l : List UInt8} (h : l ≠ []) : (str l).toList.isEmpty = false := by
  rw [str_toList]
  cases l with
  | nil => exact absurd rfl h
  | cons c r => rfl

/-- a text, cut at the first byte c -/
def headC (c : UInt8) (l : List UInt8) : List UInt8 := l.takeWhile (fun x => x != c)
def tailC (c : UInt8) (l : List UInt8) : List UInt8 := (l.dropWhile (fun x => x != c)).drop 1
def hasC (c : UInt8) (l : List UInt8) : Bool := decide (c ∈ l)
theorem headC_cons (c b : UInt8) (l : List UInt8) (h : b ≠ c) : headC c (b :: l) = b :: headC c l ∧ tailC c (b :: l) = tailC c l := by
  have h2 : (b != c) = true := by simpa using h
  exact ⟨by rw [headC, List.takeWhile_cons, if_pos h2]; rfl, by rw [tailC, List.dropWhile_cons, if_pos h2]; rfl⟩
theorem headC_same (c : UInt8) (l : List UInt8) : headC c (c :: l) = [] ∧ tailC c (c :: l) = l := by
  have h2 : ¬ (c != c) = true := by simp
  exact ⟨by rw [headC, List.takeWhile_cons, if_neg h2], by rw [tailC, List.dropWhile_cons, if_neg h2]; rfl⟩
theorem index_cases (l : List UInt8) (c : UInt8) : (Lib.indexByte l c = -1 ∧ c ∉ l ∧ headC c l = l ∧ tailC c l = []) ∨ ∃ i : Nat, Lib.indexByte l c = (i : Int) ∧ i < l.length ∧ c ∈ l ∧ headC c l = l.take i ∧ tailC c l = l.drop (i + 1) := by
  induction l with
  | nil => left; simp [Lib.indexByte, headC, tailC]
  | cons b l ih =>
    by_cases hb : b = c
    · subst hb
      right
      exact ⟨0, by simp [Lib.indexByte], by simp, by simp, (headC_same b l).1, (headC_same b l).2⟩
    · have h1 : (b == c) = false := by simpa using hb
      obtain ⟨g1, g2⟩ := headC_cons c b l hb
      rcases ih with ⟨e1, e2, e3, e4⟩ | ⟨i, e1, e2, e3, e4, e5⟩
      · left
        exact ⟨by simp [Lib.indexByte, h1, e1], by simp [e2, Ne.symm hb], by rw [g1, e3], by rw [g2, e4]⟩
      · right
        refine ⟨i + 1, ?_, by simp <;> omega, by simp [e3], by rw [g1, e4]; rfl, by rw [g2, e5]; rfl⟩
        have h3 : ((i : Int) == -1) = false := by simp <;> omega
        simp [Lib.indexByte, h1, e1] <;> omega
theorem extract_take (s : ByteArray) (a : Nat) : s.extract 0 a = str (s.data.toList.take a) := by
  rw [← str_data (s.extract 0 a)]
  congr 1
  simp
theorem extract_one (l : List UInt8) (k : Nat) (h : k < l.length) : (str l).extract k (k + 1) = str [l.getD k 0] := by
  rw [← str_data ((str l).extract k (k + 1))]
  congr 1
  rw [Lib.extract_data]
  have e : l.drop k = l[k] :: l.drop (k + 1) := List.drop_eq_getElem_cons h
  rw [show (str l).data.toList = l by simp, show k + 1 - k = 1 by omega, e, List.getD, List.getElem?_eq_getElem h]
  rfl
/-- a variable that lies below the call's own blocks reads as it did -/
theorem tab_below {P : Program} {w w' : World} {name : String} {k : IntKind} {zs : List Int} (h : Lib.TabIs P w name k zs) (hb : Below w.heap.size w w') : Lib.TabIs P w' name k zs := by
  unfold Lib.TabIs World.var? at h ⊢
  cases hg : P.globalNamed name with
  | none => rw [hg] at h; cases h
  | some g =>
    rw [hg] at h
    change (match w.heap[g]? with | some (.cells cs _ _) => some cs | _ => none) = _ at h
    change (match w'.heap[g]? with | some (.cells cs _ _) => some cs | _ => none) = _
    have hlt : g < w.heap.size := by
      rcases Nat.lt_or_ge g w.heap.size with h' | h'
      · exact h'
      · rw [Array.getElem?_eq_none h'] at h; cases h
    rw [hb.block g hlt]
    exact h
end Go.Proofs.Ytnpembgchmmbjaa
