/- The example of package names: a net of one device, one port, one domain; what it is like, and how it lies when it is laid out. -/
import Derived.Test.YtnpembgchmmbjaaNtRight
import Derived.Test.YtnpembgchmmbjaaNtGreat
import Derived.Test.YtnpembgchmmbjaaNtMm
namespace Go.Proofs.Ytnpembgchmmbjaa
open Go.RowKit

/-- the first device of a name, from number k on -/
def dvK : List DevV → List UInt8 → Nat → Int
  | [], _, _ => -1
  | d :: r, s, k => if d.name = s then (k : Int) else dvK r s (k + 1)
def dvF (N : NV) (s : List UInt8) : Int := dvK N.devices s 0
/-- the first port of a device and a name, from number k on -/
def ptK : List PortV → Int → List UInt8 → Nat → Int
  | [], _, _, _ => -1
  | d :: r, dev, s, k => if d.dev = dev ∧ d.name = s then (k : Int) else ptK r dev s (k + 1)
def ptF (N : NV) (dev : Int) (s : List UInt8) : Int := ptK N.ports dev s 0
def exN : NV := ⟨[⟨0, 0, [97], 0, 0⟩], [⟨0, 0, 10, 0, -1, [112], []⟩], [], [⟨0, 10, 0, -1, 0, []⟩], [], [], [], []⟩
theorem ex_dv : dvF exN [97] = 0 := by decide
theorem ex_pt : ptF exN 0 [112] = 0 := by decide
theorem ex_at : atF exN 0 10 = 0 := by decide
theorem ex_no : atF exN 0 11 = -1 := by decide
theorem ex_mm : mmL exN 0 = [0] := by decide
theorem one_lt {i : Nat} (h : i < 1) : i = 0 := by omega
theorem ex_ok : NetOk exN := by
  refine ⟨by decide, by decide, by decide, by decide, by decide, by decide, by decide, by decide, ⟨?_, ?_⟩, ?_, ?_, ⟨?_, ?_, ?_, ?_⟩⟩
  · intro i hi
    obtain rfl := one_lt hi
    exact ⟨by decide, by decide, by decide, by decide, .inl rfl⟩
  · intro i hi
    obtain rfl := one_lt hi
    exact fun j hj => absurd hj (Nat.not_lt_zero _)
  · intro i hi
    obtain rfl := one_lt hi
    exact ⟨by decide, by decide, by decide, by decide, by decide, by decide, fun _ => by decide, fun j hj => absurd hj (Nat.not_lt_zero _), .inl rfl⟩
  all_goals exact fun i hi => absurd hi (Nat.not_lt_zero _)
theorem ex_sz : NvSz exN := by
  refine ⟨by decide, by decide, by decide, by decide, by decide, by decide, by decide, by decide, ?_, ?_, ?_, ?_⟩
  · intro i hi
    obtain rfl := one_lt hi
    decide
  · intro i hi
    obtain rfl := one_lt hi
    decide
  all_goals exact fun i hi => absurd hi (Nat.not_lt_zero _)
theorem none_ok : NetOk NV.zero := by
  refine ⟨by decide, by decide, by decide, by decide, by decide, by decide, by decide, by decide, ⟨?_, ?_⟩, ?_, ?_, ⟨?_, ?_, ?_, ?_⟩⟩
  all_goals exact fun i hi => absurd hi (Nat.not_lt_zero _)
theorem none_sz : NvSz NV.zero := by
  refine ⟨by decide, by decide, by decide, by decide, by decide, by decide, by decide, by decide, ?_, ?_, ?_, ?_⟩
  all_goals exact fun i hi => absurd hi (Nat.not_lt_zero _)
/-- a row of one -/
theorem rsl_one {α : Type} (R : Rdr α) (w : World) (F : Nat → Prop) (b : Nat) (vs : List Value) (x : α) (hF : F b) (hb : b < w.heap.size) (h : R.rd w F vs x) (hc : w.rangeAt b 0 vs) : RSl R w F (some ⟨b, 0, none⟩) 1 1 [x] := by
  refine ⟨rfl, Nat.le_refl _, by unfold maxLen; omega, (fun h => by cases h), fun _ => ⟨b, 0, rfl, hF, hb, ?_⟩⟩
  intro j y hy
  match j, hy with
  | 0, hy =>
    obtain rfl : x = y := by simpa using hy
    exact ⟨vs, h, by simpa using hc⟩
  | j + 1, hy => simp at hy
theorem none_read (w : World) : NRead w (allB w) NV.zero NSl3.nil := ⟨RSl.nil, RSl.nil, RSl.nil, RSl.nil, RSl.nil, RSl.nil, RSl.nil, RSl.nil⟩
def exS (b : Nat) : NSl3 := ⟨⟨some ⟨b, 0, none⟩, 1, 1⟩, ⟨some ⟨b + 1, 0, none⟩, 1, 1⟩, Sl3.nil, ⟨some ⟨b + 1 + 1, 0, none⟩, 1, 1⟩, Sl3.nil, Sl3.nil, Sl3.nil, Sl3.nil⟩
theorem range_list {w : World} {b : Nat} {vs : List Value} {T : TypeId} (h : w.heap[b]? = some (.cells vs.toArray T)) : w.rangeAt b 0 vs := by
  intro i v hv
  rw [Nat.zero_add, World.cell?, h]
  simpa using hv
end Go.Proofs.Ytnpembgchmmbjaa
