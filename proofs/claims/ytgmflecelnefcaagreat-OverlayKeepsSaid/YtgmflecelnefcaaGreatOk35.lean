/- XWf; XTxRow; XNwLine; XOlSz -/
import Derived.Test.YtgmflecelnefcaaGreatOk10
import Derived.Test.YtgmflecelnefcaaGreatOk01
import Derived.Test.YtgmflecelnefcaaGreatOk17
import Derived.Test.YtgmflecelnefcaaGreatOk25
import Derived.Test.YtgmflecelnefcaaGreatRows
import Derived.ProofKit
import Derived.Deep.Slices
/- Bounds of integers that came in. -/
namespace Go.Proofs.YtgmflecelnefcaaGreat
theorem u32_of_wf {x : Int} (h : (Lit.int .u32 x).wf = true) : 0 ≤ x ∧ x < 4294967296 := by
  simp [Lit.wf, IntKind.min, IntKind.max, IntKind.signed, IntKind.bits] at h
  exact ⟨by omega, by omega⟩
end Go.Proofs.YtgmflecelnefcaaGreat

/- From a law's parameter []api.Line to a list of lines. -/
namespace Go.Proofs.YtgmflecelnefcaaGreat
open Go.ChangeShapes Go.WideShapes Go.ChangeAt Go.RowKit

section
variable {H : Type} {enc : TypeId × Value → H} {P : Program} {w : World} {sp : Nat → Bool} {held : Bool}
theorem add_none (b off i : Nat) : (⟨b, off, none⟩ : Addr).add i = ⟨b, off + i, none⟩ := by unfold Addr.add; split <;> simp_all
/-- the number that a cell holds -/
def numOfC : Option Value → Int
  | some (.int _ z) => z
  | _ => 0
theorem at1 {cs : List Value} {o : Nat} {v : Value} (h : (cs.drop o).take 1 = [v]) : cs[o]? = some v := by
  have := congrArg (·[0]?) h
  simpa [List.getElem?_take, List.getElem?_drop] using this
theorem str_back (s : ByteArray) : str s.data.toList = s := by
  obtain ⟨⟨l⟩⟩ := s
  rfl
theorem cells_int : Tryz.prog.cellsOf 3 = 1 := by kernel_rfl
theorem cells_string : Tryz.prog.cellsOf 9 = 1 := by kernel_rfl
theorem cells_uint64 : Tryz.prog.cellsOf 32 = 1 := by kernel_rfl
theorem cells_uint32 : Tryz.prog.cellsOf 33 = 1 := by kernel_rfl
theorem cells_ints : Tryz.prog.cellsOf 34 = 1 := by kernel_rfl
theorem cells_uints : Tryz.prog.cellsOf 35 = 1 := by kernel_rfl
theorem cells_line : Tryz.prog.cellsOf 37 = 17 := by kernel_rfl
end
end Go.Proofs.YtgmflecelnefcaaGreat

/- From a law's parameter of type api.Line to a line whose numbers are within their kinds. (Made by mk-nwline.py.) -/
namespace Go.Proofs.YtgmflecelnefcaaGreat
open Go.ChangeShapes Go.WideShapes Go.ChangeAt Go.RowKit

section
variable {H : Type} {enc : TypeId × Value → H} {P : Program} {w : World} {sp : Nat → Bool} {held : Bool}
theorem wf_i {z : Int} (h : (Lit.int .i64 z).wf = true) : I64 z := by simp [Lit.wf, IntKind.min, IntKind.max, IntKind.signed, IntKind.bits] at h; exact ⟨by omega, by omega⟩
theorem wf_u {z : Int} (h : (Lit.int .u64 z).wf = true) : 0 ≤ z ∧ z < 18446744073709551616 := by simp [Lit.wf, IntKind.min, IntKind.max, IntKind.signed, IntKind.bits] at h; exact ⟨by omega, by omega⟩
theorem wf_v {z : Int} (h : (Lit.int .u32 z).wf = true) : 0 ≤ z ∧ z < 4294967296 := by simp [Lit.wf, IntKind.min, IntKind.max, IntKind.signed, IntKind.bits] at h; exact ⟨by omega, by omega⟩
theorem isl_wf {fuel : Nat} {t e : TypeId} {k : IntKind} {cs : List Value} {x : DataW H × List MemPlace} (ht : P.underlying t = some (.slice e)) (he : P.underlying e = some (.int k)) (hce : P.cellsOf e = 1) (h : DataW.trod enc P w 0 sp held fuel t cs = some x) :
    ∃ (s : SlV) (xs : List Int), cs = [.slice s.A s.n s.c] ∧ ISl w k s.A s.n s.c xs ∧ ∀ x ∈ xs, (Lit.int k x).wf = true := by
  rcases Go.Deep.open_slice ht h with ⟨rfl, _⟩ | ⟨a, len, cap, m, n, D, Pl, rfl, _, hl, hm, hmm, _, hx⟩
  · exact ⟨SlV.nil, [], rfl, ISl.nil, fun x hx => by cases hx⟩
  · have hlm : len ≤ m := by rw [hmm]; split <;> omega
    have hcell : ∀ i, i < len → ∃ z, w.cell? (a.add i) = some (.int k z) ∧ (Lit.int k z).wf = true := fun i hi => by
      obtain ⟨cs', h1, h2⟩ := hx i (by omega)
      obtain ⟨z, rfl, _, hwf⟩ := DataW.trod_int he h2
      have h3 := (World.cells?_some h1).2.2 0 (by rw [hce]; omega)
      rw [hce, Nat.mul_one] at h3
      refine ⟨z, ?_, hwf⟩
      have : (a.add i).add 0 = a.add i := by unfold Addr.add; simp
      rw [this] at h3
      exact h3
    refine ⟨⟨some a, len, cap⟩, (List.range len).map fun i => numOfC (w.cell? (a.add i)), rfl, ⟨by simp, hl, hm, fun hn => ?_⟩, fun x hx => ?_⟩
    · obtain ⟨b, off, spot⟩ := a
      obtain ⟨z0, hz0, _⟩ := hcell 0 hn
      have hspot : spot = none := by simpa [Addr.add] using World.cell?_spot hz0
      subst hspot
      refine ⟨b, off, rfl, ?_, fun i hi => ?_⟩
      · have := World.block_lt_of_cell? w _ hz0
        rw [add_none] at this
        exact this
      · obtain ⟨z, hz, _⟩ := hcell i hi
        have e2 : ((List.range len).map fun i => numOfC (w.cell? ((⟨b, off, none⟩ : Addr).add i))).getD i 0 = z := by
          rw [List.getD, List.getElem?_map, List.getElem?_range hi]
          show numOfC (w.cell? _) = z
          rw [hz]
          rfl
        rw [e2, ← hz, add_none]
    · obtain ⟨i, hi, rfl⟩ := List.mem_map.1 hx
      obtain ⟨z, hz, hwf⟩ := hcell i (List.mem_range.1 hi)
      rw [hz]
      exact hwf
set_option maxRecDepth 20000 in
set_option maxHeartbeats 2000000 in
theorem line_par {fuel : Nat} {cs : List Value} {x : DataW H × List MemPlace} (h : DataW.trod enc Tryz.prog w 0 sp held fuel 37 cs = some x) :
    ∃ (L : LV) (s1 s2 s3 s4 : SlV), cs = lineC L s1 s2 s3 s4 ∧ LRead w L s1 s2 s3 s4 ∧ LvW L := by
  obtain ⟨xs, n, _, rfl, hl, hlen, hf⟩ := DataW.trod_struct Tryz.underlying37 h
  rw [cells_line] at hl
  have hx : ∀ i, i < 17 → ∃ y, xs[i]? = some y := fun i hi => ⟨_, List.getElem?_eq_getElem (by rw [hlen]; exact hi)⟩
  obtain ⟨y0, g0⟩ := at_of (cs := cs) 0 (hf 0 _ rfl) (hx 0 (by omega)) cells_int
  obtain ⟨z0, q0, _, v0⟩ := DataW.trod_int Tryz.underlying3 g0
  obtain ⟨y1, g1⟩ := at_of 1 (hf 1 _ rfl) (hx 1 (by omega)) cells_int
  obtain ⟨z1, q1, _, v1⟩ := DataW.trod_int Tryz.underlying3 g1
  obtain ⟨y2, g2⟩ := at_of 2 (hf 2 _ rfl) (hx 2 (by omega)) cells_string
  obtain ⟨z2, q2, _⟩ := DataW.trod_string Tryz.underlying9 g2
  obtain ⟨y3, g3⟩ := at_of 3 (hf 3 _ rfl) (hx 3 (by omega)) cells_string
  obtain ⟨z3, q3, _⟩ := DataW.trod_string Tryz.underlying9 g3
  obtain ⟨y4, g4⟩ := at_of 4 (hf 4 _ rfl) (hx 4 (by omega)) cells_string
  obtain ⟨z4, q4, _⟩ := DataW.trod_string Tryz.underlying9 g4
  obtain ⟨y5, g5⟩ := at_of 5 (hf 5 _ rfl) (hx 5 (by omega)) cells_string
  obtain ⟨z5, q5, _⟩ := DataW.trod_string Tryz.underlying9 g5
  obtain ⟨y6, g6⟩ := at_of 6 (hf 6 _ rfl) (hx 6 (by omega)) cells_string
  obtain ⟨z6, q6, _⟩ := DataW.trod_string Tryz.underlying9 g6
  obtain ⟨y7, g7⟩ := at_of 7 (hf 7 _ rfl) (hx 7 (by omega)) cells_uint64
  obtain ⟨z7, q7, _, v7⟩ := DataW.trod_int Tryz.underlying32 g7
  obtain ⟨y8, g8⟩ := at_of 8 (hf 8 _ rfl) (hx 8 (by omega)) cells_uint32
  obtain ⟨z8, q8, _, v8⟩ := DataW.trod_int Tryz.underlying33 g8
  obtain ⟨y9, g9⟩ := at_of 9 (hf 9 _ rfl) (hx 9 (by omega)) cells_int
  obtain ⟨z9, q9, _, v9⟩ := DataW.trod_int Tryz.underlying3 g9
  obtain ⟨y10, g10⟩ := at_of 10 (hf 10 _ rfl) (hx 10 (by omega)) cells_int
  obtain ⟨z10, q10, _, v10⟩ := DataW.trod_int Tryz.underlying3 g10
  obtain ⟨y11, g11⟩ := at_of 11 (hf 11 _ rfl) (hx 11 (by omega)) cells_int
  obtain ⟨z11, q11, _, v11⟩ := DataW.trod_int Tryz.underlying3 g11
  obtain ⟨y12, g12⟩ := at_of 12 (hf 12 _ rfl) (hx 12 (by omega)) cells_int
  obtain ⟨z12, q12, _, v12⟩ := DataW.trod_int Tryz.underlying3 g12
  obtain ⟨y13, g13⟩ := at_of 13 (hf 13 _ rfl) (hx 13 (by omega)) cells_ints
  obtain ⟨z13, l13, q13, r13, v13⟩ := isl_wf Tryz.underlying34 Tryz.underlying3 cells_int g13
  obtain ⟨y14, g14⟩ := at_of 14 (hf 14 _ rfl) (hx 14 (by omega)) cells_ints
  obtain ⟨z14, l14, q14, r14, v14⟩ := isl_wf Tryz.underlying34 Tryz.underlying3 cells_int g14
  obtain ⟨y15, g15⟩ := at_of 15 (hf 15 _ rfl) (hx 15 (by omega)) cells_ints
  obtain ⟨z15, l15, q15, r15, v15⟩ := isl_wf Tryz.underlying34 Tryz.underlying3 cells_int g15
  obtain ⟨y16, g16⟩ := at_of 16 (hf 16 _ rfl) (hx 16 (by omega)) cells_uints
  obtain ⟨z16, l16, q16, r16, v16⟩ := isl_wf Tryz.underlying35 Tryz.underlying33 cells_uint32 g16
  refine ⟨⟨z0, z1, z2.data.toList, z3.data.toList, z4.data.toList, z5.data.toList, z6.data.toList, z7, z8, z9, z10, z11, z12, l13, l14, l15, l16⟩, z13, z14, z15, z16, ?_, ⟨r13, r14, r15, r16⟩, ⟨wf_i v0, wf_i v1, wf_u v7, wf_v v8, wf_i v9, wf_i v10, wf_i v11, wf_i v12, fun x hx => wf_i (v13 x hx), fun x hx => wf_i (v14 x hx), fun x hx => wf_i (v15 x hx), fun x hx => wf_v (v16 x hx)⟩⟩
  apply List.ext_getElem?
  intro i
  match i with
  | 0 => rw [at1 q0]; rfl
  | 1 => rw [at1 q1]; rfl
  | 2 => rw [at1 q2]; show _ = some (Value.string (str z2.data.toList)); rw [str_back]
  | 3 => rw [at1 q3]; show _ = some (Value.string (str z3.data.toList)); rw [str_back]
  | 4 => rw [at1 q4]; show _ = some (Value.string (str z4.data.toList)); rw [str_back]
  | 5 => rw [at1 q5]; show _ = some (Value.string (str z5.data.toList)); rw [str_back]
  | 6 => rw [at1 q6]; show _ = some (Value.string (str z6.data.toList)); rw [str_back]
  | 7 => rw [at1 q7]; rfl
  | 8 => rw [at1 q8]; rfl
  | 9 => rw [at1 q9]; rfl
  | 10 => rw [at1 q10]; rfl
  | 11 => rw [at1 q11]; rfl
  | 12 => rw [at1 q12]; rfl
  | 13 => rw [at1 q13]; rfl
  | 14 => rw [at1 q14]; rfl
  | 15 => rw [at1 q15]; rfl
  | 16 => rw [at1 q16]; rfl
  | i + 17 => rw [List.getElem?_eq_none (by omega)]; rfl
end
end Go.Proofs.YtgmflecelnefcaaGreat

/- What a law's parameter of a net reads as: no VTEP is negative. -/
namespace Go.Proofs.YtgmflecelnefcaaGreat
open Go.ChangeShapes Go.WideShapes Go.ChangeAt Go.RowKit

/-- the number in cell o of a struct -/
theorem int_cell {H : Type} {enc : TypeId × Value → H} {P : Program} {w : World} {sp : Nat → Bool} {held : Bool} {fuel : Nat} {t : TypeId} {cs : List Value} {x : DataW H × List MemPlace} {fs : Array Field} {k : IntKind} (ht : P.underlying t = some (.struct fs)) (h : DataW.trod enc P w 0 sp held fuel t cs = some x) (j : Nat) (f : Field) (hf : fs[j]? = some f) (hs : P.underlying f.type = some (.int k)) (hc : P.cellsOf f.type = 1)
    (v : Int) (hv : cs[f.offset]? = some (.int k v)) : (Lit.int k v).wf = true := by
  obtain ⟨y, n, hy, _⟩ := field_weights ht h j f hf
  obtain ⟨z, hc', _, hw⟩ := DataW.trod_int hs hy
  rw [hc] at hc'
  have e := cells_at1 hc'
  rw [hv] at e
  injection e with e
  injection e with _ e
  subst e
  exact hw
theorem vtep_dev {H : Type} {enc : TypeId × Value → H} {w : World} {sp : Nat → Bool} {held : Bool} {fuel : Nat} {A : Option Addr} {n c : Nat} {x : DataW H × List MemPlace} (h : DataW.trod enc Tryz.prog w 0 sp held fuel 22 [.slice A n c] = some x) (xs : List DevV) (hr : RSl devR w (allB w) A n c xs) (k : Nat) (hk : k < xs.length) : 0 ≤ (xs.getD k DevV.zero).vtep := by
  have hkn : k < n := by have := hr.len; omega
  obtain ⟨a, cs, y, m, rfl, h1, h2, h3⟩ := elem_weights Tryz.underlying22 h k hkn
  obtain ⟨b, off, vs, e, _, _, hvs, r0⟩ := rsl_at hr k hkn DevV.zero
  have hvs : vs = devC (xs.getD k DevV.zero) := hvs
  subst hvs
  injection e with e
  subst e
  generalize xs.getD k DevV.zero = X at *
  rw [ncells_dev] at h1
  have d := r0 4 (.int .u32 X.vtep) rfl
  have hc := (World.cells?_some h1).2.2 4 (by omega)
  rw [addr_none, addr_none] at hc
  rw [show off + k * devR.n = off + k * 5 from rfl] at d
  rw [d] at hc
  exact (u32_of_wf (int_cell Tryz.underlying58 h2 4 _ rfl Tryz.underlying33 (by kernel_rfl) X.vtep (by show cs[4]? = _; exact hc.symm))).1
set_option maxRecDepth 20000 in
theorem net_vt {H : Type} {enc : TypeId × Value → H} {w : World} {sp : Nat → Bool} {held : Bool} {fuel : Nat} {x : DataW H × List MemPlace} (N : NV) (S : NSl3) (h : DataW.trod enc Tryz.prog w 0 sp held fuel 31 (netC S) = some x) (hr : NRead w (allB w) N S) : VtOk N := by
  intro k hk
  obtain ⟨y, n, hy, hwy⟩ := field_weights Tryz.underlying31 h 0 _ rfl
  have hy2 : DataW.trod enc Tryz.prog w 0 sp held n 22 (((netC S).drop 0).take (Tryz.prog.cellsOf 22)) = some y := hy
  rw [ncells_devs] at hy2
  exact vtep_dev hy2 N.devices hr.dv k hk
end Go.Proofs.YtgmflecelnefcaaGreat

