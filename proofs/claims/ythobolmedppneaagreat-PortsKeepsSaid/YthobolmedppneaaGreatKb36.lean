/- Only what the statement at hand leans on. -/
import Derived.Test.YthobolmedppneaaGreatKb02
import Derived.SizedLaws
/- What a law's parameter of a net reads as, with its names' lengths: no longer than the row lets a text be. -/
namespace Go.Proofs.YthobolmedppneaaGreat
open Go.ChangeShapes Go.WideShapes Go.ChangeAt Go.RowKit

theorem weights_all {H : Type} {P : Program} {e : TypeId} {n : Nat} : ∀ {l : List (DataW H)} {d : DataW H}, d ∈ l → n ∈ d.weights P e → n ∈ DataW.weightsAll P e l
  | x :: r, d, hd, hn => by
    rw [DataW.weightsAll]
    rcases List.mem_cons.1 hd with h | h
    · subst h; exact List.mem_append.2 (.inl hn)
    · exact List.mem_append.2 (.inr (weights_all h hn))
/-- field j of a struct: its weights are among the struct's -/
theorem field_weights {H : Type} {enc : TypeId × Value → H} {P : Program} {w : World} {sp : Nat → Bool} {held : Bool} {fuel : Nat} {t : TypeId} {cs : List Value} {x : DataW H × List MemPlace} {fs : Array Field} (ht : P.underlying t = some (.struct fs)) (h : DataW.trod enc P w 0 sp held fuel t cs = some x) (j : Nat) (f : Field) (hf : fs[j]? = some f) :
    ∃ (y : DataW H × List MemPlace) (n : Nat), DataW.trod enc P w 0 sp held n f.type ((cs.drop f.offset).take (P.cellsOf f.type)) = some y ∧ ∀ k ∈ y.1.weights P f.type, k ∈ x.1.weights P t := by
  obtain ⟨xs, n, _, rfl, hl, hlen, hg⟩ := DataW.trod_struct ht h
  have hj : j < xs.length := by rw [hlen]; exact (Array.getElem?_eq_some_iff.1 hf).1
  refine ⟨xs[j], n, (hg j f hf).trans (List.getElem?_eq_getElem hj), fun k hk => ?_⟩
  show k ∈ DataW.weights P t (.agg (xs.map (·.1)))
  rw [DataW.weights, ht]
  refine DataW.weights_mem_each (j := j) (t := f.type) (d := xs[j].1) ?_ ?_ k hk
  · rw [List.getElem?_map, Array.getElem?_toList, hf]; rfl
  · rw [List.getElem?_map, List.getElem?_eq_getElem hj]; rfl
/-- the text in cell o of a struct -/
theorem text_weight {H : Type} {enc : TypeId × Value → H} {P : Program} {w : World} {sp : Nat → Bool} {held : Bool} {fuel : Nat} {t : TypeId} {cs : List Value} {x : DataW H × List MemPlace} {fs : Array Field} (ht : P.underlying t = some (.struct fs)) (h : DataW.trod enc P w 0 sp held fuel t cs = some x) (j : Nat) (f : Field) (hf : fs[j]? = some f) (hs : P.underlying f.type = some .string) (hc : P.cellsOf f.type = 1)
    (s : ByteArray) (hv : cs[f.offset]? = some (.string s)) : s.size ∈ x.1.weights P t := by
  obtain ⟨y, n, hy, hw⟩ := field_weights ht h j f hf
  obtain ⟨s', hc', rfl, _⟩ := DataW.trod_string hs hy
  rw [hc] at hc'
  have e := cells_at1 hc'
  rw [hv] at e
  injection e with e
  injection e with e
  subst e
  refine hw _ ?_
  rw [DataW.weights]
  simp
/-- element k of a slice: what its cells weigh is among the slice's -/
theorem elem_weights {H : Type} {enc : TypeId × Value → H} {P : Program} {w : World} {sp : Nat → Bool} {held : Bool} {fuel : Nat} {t e : TypeId} {A : Option Addr} {n c : Nat} {x : DataW H × List MemPlace} (ht : P.underlying t = some (.slice e)) (h : DataW.trod enc P w 0 sp held fuel t [.slice A n c] = some x) (k : Nat) (hk : k < n) :
    ∃ (a : Addr) (cs : List Value) (y : DataW H × List MemPlace) (m : Nat), A = some a ∧ w.cells? 0 (a.add (k * P.cellsOf e)) (P.cellsOf e) = some cs ∧ DataW.trod enc P w 0 sp held m e cs = some y ∧ ∀ i ∈ y.1.weights P e, i ∈ x.1.weights P t := by
  rcases Go.Deep.open_slice ht h with ⟨h0, _⟩ | ⟨a, len, cap, m, f, D, Pl, hcs, _, hl, hm, hmm, rfl, hx⟩
  · injection h0 with h0
    injection h0 with _ h1
    omega
  · injection hcs with hcs
    injection hcs with h1 h2 h3
    subst h1 h2 h3
    have hlm : n ≤ m := by rw [hmm]; split <;> omega
    obtain ⟨cs', g1, g2⟩ := hx k (by omega)
    refine ⟨a, cs', _, _, rfl, g1, g2, fun i hi => ?_⟩
    show i ∈ DataW.weights P t (.slice _ _)
    rw [DataW.weights, ht]
    refine List.mem_cons.2 (.inr (List.mem_append.2 (.inl ?_)))
    exact weights_all (List.mem_map.2 ⟨k, List.mem_range.2 hk, rfl⟩) hi
/-- a net's names are no longer than an argument's text may be -/
structure NmSz (N : NV) : Prop where
  dv : ∀ k, k < N.devices.length → (N.devices.getD k DevV.zero).name.length ≤ 140737488351232
  pt : ∀ k, k < N.ports.length → (N.ports.getD k PortV.zero).name.length ≤ 140737488351232
  vr : ∀ k, k < N.vrfs.length → (N.vrfs.getD k VrfV.zero).name.length ≤ 140737488351232
theorem names_dev {H : Type} {enc : TypeId × Value → H} {w : World} {sp : Nat → Bool} {held : Bool} {fuel : Nat} {A : Option Addr} {n c : Nat} {x : DataW H × List MemPlace} (h : DataW.trod enc Tryz.prog w 0 sp held fuel 22 [.slice A n c] = some x) (hw : ∀ i ∈ x.1.weights Tryz.prog 22, i ≤ reachBytes) (xs : List DevV) (hr : RSl devR w (allB w) A n c xs) (k : Nat) (hk : k < xs.length) : (xs.getD k DevV.zero).name.length ≤ 140737488351232 := by
  have hkn : k < n := by have := hr.len; omega
  obtain ⟨a, cs, y, m, rfl, h1, h2, h3⟩ := elem_weights Tryz.underlying22 h k hkn
  obtain ⟨b, off, vs, e, _, _, hvs, r0⟩ := rsl_at hr k hkn DevV.zero
  have hvs : vs = devC (xs.getD k DevV.zero) := hvs
  subst hvs
  injection e with e
  subst e
  generalize xs.getD k DevV.zero = X at *
  rw [ncells_dev] at h1
  have d := r0 2 (.string (str X.name)) rfl
  have hc := (World.cells?_some h1).2.2 2 (by omega)
  rw [addr_none, addr_none] at hc
  rw [show off + k * devR.n = off + k * 5 from rfl] at d
  rw [d] at hc
  have hs := text_weight Tryz.underlying61 h2 2 _ rfl Tryz.underlying9 ncells_string (str X.name) (by show cs[2]? = _; exact hc.symm)
  have := hw _ (h3 _ hs)
  rw [str_size] at this
  exact this
theorem names_port {H : Type} {enc : TypeId × Value → H} {w : World} {sp : Nat → Bool} {held : Bool} {fuel : Nat} {A : Option Addr} {n c : Nat} {x : DataW H × List MemPlace} (h : DataW.trod enc Tryz.prog w 0 sp held fuel 23 [.slice A n c] = some x) (hw : ∀ i ∈ x.1.weights Tryz.prog 23, i ≤ reachBytes) (xs : List PortV) (hr : RSl portR w (allB w) A n c xs) (k : Nat) (hk : k < xs.length) : (xs.getD k PortV.zero).name.length ≤ 140737488351232 := by
  have hkn : k < n := by have := hr.len; omega
  obtain ⟨a, cs, y, m, rfl, h1, h2, h3⟩ := elem_weights Tryz.underlying23 h k hkn
  obtain ⟨b, off, vs, e, _, _, ⟨s, rfl, _⟩, r0⟩ := rsl_at hr k hkn PortV.zero
  injection e with e
  subst e
  generalize xs.getD k PortV.zero = X at *
  rw [ncells_port] at h1
  have d := r0 5 (.string (str X.name)) rfl
  have hc := (World.cells?_some h1).2.2 5 (by omega)
  rw [addr_none, addr_none] at hc
  rw [show off + k * portR.n = off + k * 7 from rfl] at d
  rw [d] at hc
  have hs := text_weight Tryz.underlying63 h2 5 _ rfl Tryz.underlying9 ncells_string (str X.name) (by show cs[5]? = _; exact hc.symm)
  have := hw _ (h3 _ hs)
  rw [str_size] at this
  exact this
theorem names_vrf {H : Type} {enc : TypeId × Value → H} {w : World} {sp : Nat → Bool} {held : Bool} {fuel : Nat} {A : Option Addr} {n c : Nat} {x : DataW H × List MemPlace} (h : DataW.trod enc Tryz.prog w 0 sp held fuel 28 [.slice A n c] = some x) (hw : ∀ i ∈ x.1.weights Tryz.prog 28, i ≤ reachBytes) (xs : List VrfV) (hr : RSl vrfR w (allB w) A n c xs) (k : Nat) (hk : k < xs.length) : (xs.getD k VrfV.zero).name.length ≤ 140737488351232 := by
  have hkn : k < n := by have := hr.len; omega
  obtain ⟨a, cs, y, m, rfl, h1, h2, h3⟩ := elem_weights Tryz.underlying28 h k hkn
  obtain ⟨b, off, vs, e, _, _, ⟨s, t, rfl, _, _⟩, r0⟩ := rsl_at hr k hkn VrfV.zero
  injection e with e
  subst e
  generalize xs.getD k VrfV.zero = X at *
  rw [ncells_vrf] at h1
  have d := r0 2 (.string (str X.name)) rfl
  have hc := (World.cells?_some h1).2.2 2 (by omega)
  rw [addr_none, addr_none] at hc
  rw [show off + k * vrfR.n = off + k * 5 from rfl] at d
  rw [d] at hc
  have hs := text_weight Tryz.underlying69 h2 2 _ rfl Tryz.underlying9 ncells_string (str X.name) (by show cs[2]? = _; exact hc.symm)
  have := hw _ (h3 _ hs)
  rw [str_size] at this
  exact this
set_option maxRecDepth 20000 in
theorem net_sz {H : Type} {enc : TypeId × Value → H} {w : World} {sp : Nat → Bool} {held : Bool} {fuel : Nat} {x : DataW H × List MemPlace} (N : NV) (S : NSl3) (h : DataW.trod enc Tryz.prog w 0 sp held fuel 31 (netC S) = some x) (hw : ∀ i ∈ x.1.weights Tryz.prog 31, i ≤ reachBytes) (hr : NRead w (allB w) N S) : NmSz N := by
  refine ⟨fun k hk => ?_, fun k hk => ?_, fun k hk => ?_⟩
  · obtain ⟨y, n, hy, hwy⟩ := field_weights Tryz.underlying31 h 0 _ rfl
    have hy2 : DataW.trod enc Tryz.prog w 0 sp held n 22 (((netC S).drop 0).take (Tryz.prog.cellsOf 22)) = some y := hy
    rw [ncells_devs] at hy2
    exact names_dev hy2 (fun i hi => hw i (hwy i hi)) N.devices hr.dv k hk
  · obtain ⟨y, n, hy, hwy⟩ := field_weights Tryz.underlying31 h 1 _ rfl
    have hy2 : DataW.trod enc Tryz.prog w 0 sp held n 23 (((netC S).drop 1).take (Tryz.prog.cellsOf 23)) = some y := hy
    rw [ncells_ports] at hy2
    exact names_port hy2 (fun i hi => hw i (hwy i hi)) N.ports hr.pt k hk
  · obtain ⟨y, n, hy, hwy⟩ := field_weights Tryz.underlying31 h 6 _ rfl
    have hy2 : DataW.trod enc Tryz.prog w 0 sp held n 28 (((netC S).drop 6).take (Tryz.prog.cellsOf 28)) = some y := hy
    rw [ncells_vrfs] at hy2
    exact names_vrf hy2 (fun i hi => hw i (hwy i hi)) N.vrfs hr.vr k hk
end Go.Proofs.YthobolmedppneaaGreat

