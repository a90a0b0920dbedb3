/- XNtDat; XNumMath -/
import Derived.Test.YtgmflecelnefcaaGreatOk01
import Derived.Lib.ItoaNum
import Derived.Lib.AtoiAll
import Derived.Lib.AtoiAllCases
import Derived.Lib.AtoiTie
/- A net, and its devices, ports, links, domains, static entries, flood lists, VRFs and interfaces, as data that cells read as; what a law's parameter reads as. (Made by mk-ntdat.py.) -/
namespace Go.Proofs.YtgmflecelnefcaaGreat
open Go.ChangeShapes Go.WideShapes Go.ChangeAt Go.RowKit

/-- a slice as its three numbers -/
structure Sl3 where
  A : Option Addr
  n : Nat
  c : Nat
def Sl3.nil : Sl3 := ⟨none, 0, 0⟩
theorem ncells_int : Tryz.prog.cellsOf 3 = 1 := by kernel_rfl
theorem ncells_uint64 : Tryz.prog.cellsOf 32 = 1 := by kernel_rfl
theorem ncells_uint32 : Tryz.prog.cellsOf 33 = 1 := by kernel_rfl
theorem ncells_string : Tryz.prog.cellsOf 9 = 1 := by kernel_rfl
theorem ncells_ints : Tryz.prog.cellsOf 34 = 1 := by kernel_rfl
theorem ncells_uints : Tryz.prog.cellsOf 35 = 1 := by kernel_rfl
theorem of_ints : (Rdr.int .i64).list.Of Tryz.prog 34 := of_slice Tryz.underlying34 ncells_int (by decide) (of_int Tryz.underlying3)
theorem of_uints : (Rdr.int .u32).list.Of Tryz.prog 35 := of_slice Tryz.underlying35 ncells_uint32 (by decide) (of_int Tryz.underlying33)
theorem rsl_at {α : Type} {R : Rdr α} {w : World} {F : Nat → Prop} {A : Option Addr} {n c : Nat} {xs : List α} (h : RSl R w F A n c xs) (k : Nat) (hk : k < n) (d : α) : ∃ (b off : Nat) (vs : List Value), A = some ⟨b, off, none⟩ ∧ F b ∧ b < w.heap.size ∧ R.rd w F vs (xs.getD k d) ∧ w.rangeAt b (off + k * R.n) vs := by
  obtain ⟨b, off, e, hf, hb, hc⟩ := h.at_ (by omega)
  have hl : k < xs.length := by rw [h.len]; exact hk
  obtain ⟨vs, h1, h2⟩ := hc k xs[k] (List.getElem?_eq_getElem hl)
  have e2 : xs.getD k d = xs[k] := by simp [List.getD, hl]
  rw [e2]
  exact ⟨b, off, vs, e, hf, hb, h1, h2⟩
theorem up_rsl {α : Type} {R : Rdr α} {w w' : World} {A : Option Addr} {n c : Nat} {xs : List α} (h : RSl R w (allB w) A n c xs) (hb : Below w.heap.size w w') : RSl R w' (allB w') A n c xs := h.keep (fun b h => hb.block b h) (fun _ h => Nat.lt_of_lt_of_le h hb.size)

structure DevV where
  row : Int
  prio : Int
  name : List UInt8
  mac : Int
  vtep : Int
def DevV.zero : DevV := ⟨0, 0, [], 0, 0⟩
def devC (X : DevV) : List Value := [.int .i64 X.row, .int .i64 X.prio, .string (str X.name), .int .u64 X.mac, .int .u32 X.vtep]
def devR : Rdr DevV where
  n := 5
  rd := fun _ _ vs X => vs = devC X
  len := by rintro w F vs X rfl; rfl
  one := by rintro w F vs X rfl v hv; simp [devC] at hv; rcases hv with rfl | rfl | rfl | rfl | rfl <;> rfl
  keep := fun h _ _ => h
theorem ncells_dev : Tryz.prog.cellsOf 58 = 5 := by kernel_rfl
set_option maxRecDepth 20000 in
theorem dev_of : devR.Of Tryz.prog 58 := fun H enc w sp held fuel cs x h => by
  obtain ⟨xs, n, _, rfl, hl, hlen, hf⟩ := DataW.trod_struct Tryz.underlying58 h
  rw [ncells_dev] at hl
  have hx : ∀ i, i < 5 → ∃ y, xs[i]? = some y := fun i hi => ⟨_, List.getElem?_eq_getElem (by rw [hlen]; exact hi)⟩
  obtain ⟨z0, q0⟩ := of_at (cs := cs) 0 (hf 0 _ rfl) (hx 0 (by omega)) ncells_int (of_int Tryz.underlying3)
  obtain ⟨z1, q1⟩ := of_at 1 (hf 1 _ rfl) (hx 1 (by omega)) ncells_int (of_int Tryz.underlying3)
  obtain ⟨z2, q2⟩ := of_at 2 (hf 2 _ rfl) (hx 2 (by omega)) ncells_string (of_str Tryz.underlying9)
  obtain ⟨z3, q3⟩ := of_at 3 (hf 3 _ rfl) (hx 3 (by omega)) ncells_uint64 (of_int Tryz.underlying32)
  obtain ⟨z4, q4⟩ := of_at 4 (hf 4 _ rfl) (hx 4 (by omega)) ncells_uint32 (of_int Tryz.underlying33)
  refine ⟨⟨z0, z1, z2, z3, z4⟩, ?_⟩
  show cs = devC _
  apply List.ext_getElem?
  intro i
  match i with
  | 0 => rw [cells_at1 q0]; rfl
  | 1 => rw [cells_at1 q1]; rfl
  | 2 => rw [cells_at1 q2]; rfl
  | 3 => rw [cells_at1 q3]; rfl
  | 4 => rw [cells_at1 q4]; rfl
  | i + 5 => rw [List.getElem?_eq_none (by omega)]; rfl

structure PortV where
  row : Int
  dev : Int
  native : Int
  cost : Int
  link : Int
  name : List UInt8
  tagged : List Int
def PortV.zero : PortV := ⟨0, 0, 0, 0, 0, [], []⟩
def portC (X : PortV) (s_tagged : Sl3) : List Value := [.int .i64 X.row, .int .i64 X.dev, .int .i64 X.native, .int .i64 X.cost, .int .i64 X.link, .string (str X.name), .slice s_tagged.A s_tagged.n s_tagged.c]
def portR : Rdr PortV where
  n := 7
  rd := fun w F vs X => ∃ s_tagged, vs = portC X s_tagged ∧ RSl (Rdr.int .i64) w F s_tagged.A s_tagged.n s_tagged.c X.tagged
  len := by rintro w F vs X ⟨s_tagged, rfl, _⟩; rfl
  one := by rintro w F vs X ⟨s_tagged, rfl, _⟩ v hv; simp [portC] at hv; rcases hv with rfl | rfl | rfl | rfl | rfl | rfl | rfl <;> rfl
  keep := by rintro w w' F F' vs X ⟨s_tagged, rfl, h_tagged⟩ hb hF; exact ⟨s_tagged, rfl, h_tagged.keep hb hF⟩
theorem ncells_port : Tryz.prog.cellsOf 68 = 7 := by kernel_rfl
set_option maxRecDepth 20000 in
theorem port_of : portR.Of Tryz.prog 68 := fun H enc w sp held fuel cs x h => by
  obtain ⟨xs, n, _, rfl, hl, hlen, hf⟩ := DataW.trod_struct Tryz.underlying68 h
  rw [ncells_port] at hl
  have hx : ∀ i, i < 7 → ∃ y, xs[i]? = some y := fun i hi => ⟨_, List.getElem?_eq_getElem (by rw [hlen]; exact hi)⟩
  obtain ⟨z0, q0⟩ := of_at (cs := cs) 0 (hf 0 _ rfl) (hx 0 (by omega)) ncells_int (of_int Tryz.underlying3)
  obtain ⟨z1, q1⟩ := of_at 1 (hf 1 _ rfl) (hx 1 (by omega)) ncells_int (of_int Tryz.underlying3)
  obtain ⟨z2, q2⟩ := of_at 2 (hf 2 _ rfl) (hx 2 (by omega)) ncells_int (of_int Tryz.underlying3)
  obtain ⟨z3, q3⟩ := of_at 3 (hf 3 _ rfl) (hx 3 (by omega)) ncells_int (of_int Tryz.underlying3)
  obtain ⟨z4, q4⟩ := of_at 4 (hf 4 _ rfl) (hx 4 (by omega)) ncells_int (of_int Tryz.underlying3)
  obtain ⟨z5, q5⟩ := of_at 5 (hf 5 _ rfl) (hx 5 (by omega)) ncells_string (of_str Tryz.underlying9)
  obtain ⟨z6, A6, n6, c6, q6, r6⟩ := of_at 6 (hf 6 _ rfl) (hx 6 (by omega)) ncells_ints of_ints
  refine ⟨⟨z0, z1, z2, z3, z4, z5, z6⟩, ⟨A6, n6, c6⟩, ?_, r6⟩
  apply List.ext_getElem?
  intro i
  match i with
  | 0 => rw [cells_at1 q0]; rfl
  | 1 => rw [cells_at1 q1]; rfl
  | 2 => rw [cells_at1 q2]; rfl
  | 3 => rw [cells_at1 q3]; rfl
  | 4 => rw [cells_at1 q4]; rfl
  | 5 => rw [cells_at1 q5]; rfl
  | 6 => rw [cells_at1 q6]; rfl
  | i + 7 => rw [List.getElem?_eq_none (by omega)]; rfl

structure LinkV where
  row : Int
  a : Int
  b : Int
def LinkV.zero : LinkV := ⟨0, 0, 0⟩
def linkC (X : LinkV) : List Value := [.int .i64 X.row, .int .i64 X.a, .int .i64 X.b]
def linkR : Rdr LinkV where
  n := 3
  rd := fun _ _ vs X => vs = linkC X
  len := by rintro w F vs X rfl; rfl
  one := by rintro w F vs X rfl v hv; simp [linkC] at hv; rcases hv with rfl | rfl | rfl <;> rfl
  keep := fun h _ _ => h
theorem ncells_link : Tryz.prog.cellsOf 84 = 3 := by kernel_rfl
set_option maxRecDepth 20000 in
theorem link_of : linkR.Of Tryz.prog 84 := fun H enc w sp held fuel cs x h => by
  obtain ⟨xs, n, _, rfl, hl, hlen, hf⟩ := DataW.trod_struct Tryz.underlying84 h
  rw [ncells_link] at hl
  have hx : ∀ i, i < 3 → ∃ y, xs[i]? = some y := fun i hi => ⟨_, List.getElem?_eq_getElem (by rw [hlen]; exact hi)⟩
  obtain ⟨z0, q0⟩ := of_at (cs := cs) 0 (hf 0 _ rfl) (hx 0 (by omega)) ncells_int (of_int Tryz.underlying3)
  obtain ⟨z1, q1⟩ := of_at 1 (hf 1 _ rfl) (hx 1 (by omega)) ncells_int (of_int Tryz.underlying3)
  obtain ⟨z2, q2⟩ := of_at 2 (hf 2 _ rfl) (hx 2 (by omega)) ncells_int (of_int Tryz.underlying3)
  refine ⟨⟨z0, z1, z2⟩, ?_⟩
  show cs = linkC _
  apply List.ext_getElem?
  intro i
  match i with
  | 0 => rw [cells_at1 q0]; rfl
  | 1 => rw [cells_at1 q1]; rfl
  | 2 => rw [cells_at1 q2]; rfl
  | i + 3 => rw [List.getElem?_eq_none (by omega)]; rfl

structure DomV where
  dev : Int
  vlan : Int
  vni : Int
  irb : Int
  row : Int
  peers : List Int
def DomV.zero : DomV := ⟨0, 0, 0, 0, 0, []⟩
def domC (X : DomV) (s_peers : Sl3) : List Value := [.int .i64 X.dev, .int .i64 X.vlan, .int .i64 X.vni, .int .i64 X.irb, .int .i64 X.row, .slice s_peers.A s_peers.n s_peers.c]
def domR : Rdr DomV where
  n := 6
  rd := fun w F vs X => ∃ s_peers, vs = domC X s_peers ∧ RSl (Rdr.int .i64) w F s_peers.A s_peers.n s_peers.c X.peers
  len := by rintro w F vs X ⟨s_peers, rfl, _⟩; rfl
  one := by rintro w F vs X ⟨s_peers, rfl, _⟩ v hv; simp [domC] at hv; rcases hv with rfl | rfl | rfl | rfl | rfl | rfl <;> rfl
  keep := by rintro w w' F F' vs X ⟨s_peers, rfl, h_peers⟩ hb hF; exact ⟨s_peers, rfl, h_peers.keep hb hF⟩
theorem ncells_dom : Tryz.prog.cellsOf 54 = 6 := by kernel_rfl
set_option maxRecDepth 20000 in
theorem dom_of : domR.Of Tryz.prog 54 := fun H enc w sp held fuel cs x h => by
  obtain ⟨xs, n, _, rfl, hl, hlen, hf⟩ := DataW.trod_struct Tryz.underlying54 h
  rw [ncells_dom] at hl
  have hx : ∀ i, i < 6 → ∃ y, xs[i]? = some y := fun i hi => ⟨_, List.getElem?_eq_getElem (by rw [hlen]; exact hi)⟩
  obtain ⟨z0, q0⟩ := of_at (cs := cs) 0 (hf 0 _ rfl) (hx 0 (by omega)) ncells_int (of_int Tryz.underlying3)
  obtain ⟨z1, q1⟩ := of_at 1 (hf 1 _ rfl) (hx 1 (by omega)) ncells_int (of_int Tryz.underlying3)
  obtain ⟨z2, q2⟩ := of_at 2 (hf 2 _ rfl) (hx 2 (by omega)) ncells_int (of_int Tryz.underlying3)
  obtain ⟨z3, q3⟩ := of_at 3 (hf 3 _ rfl) (hx 3 (by omega)) ncells_int (of_int Tryz.underlying3)
  obtain ⟨z4, q4⟩ := of_at 4 (hf 4 _ rfl) (hx 4 (by omega)) ncells_int (of_int Tryz.underlying3)
  obtain ⟨z5, A5, n5, c5, q5, r5⟩ := of_at 5 (hf 5 _ rfl) (hx 5 (by omega)) ncells_ints of_ints
  refine ⟨⟨z0, z1, z2, z3, z4, z5⟩, ⟨A5, n5, c5⟩, ?_, r5⟩
  apply List.ext_getElem?
  intro i
  match i with
  | 0 => rw [cells_at1 q0]; rfl
  | 1 => rw [cells_at1 q1]; rfl
  | 2 => rw [cells_at1 q2]; rfl
  | 3 => rw [cells_at1 q3]; rfl
  | 4 => rw [cells_at1 q4]; rfl
  | 5 => rw [cells_at1 q5]; rfl
  | i + 6 => rw [List.getElem?_eq_none (by omega)]; rfl

structure StatV where
  row : Int
  dom : Int
  port : Int
  mac : Int
def StatV.zero : StatV := ⟨0, 0, 0, 0⟩
def statC (X : StatV) : List Value := [.int .i64 X.row, .int .i64 X.dom, .int .i64 X.port, .int .u64 X.mac]
def statR : Rdr StatV where
  n := 4
  rd := fun _ _ vs X => vs = statC X
  len := by rintro w F vs X rfl; rfl
  one := by rintro w F vs X rfl v hv; simp [statC] at hv; rcases hv with rfl | rfl | rfl | rfl <;> rfl
  keep := fun h _ _ => h
theorem ncells_stat : Tryz.prog.cellsOf 89 = 4 := by kernel_rfl
set_option maxRecDepth 20000 in
theorem stat_of : statR.Of Tryz.prog 89 := fun H enc w sp held fuel cs x h => by
  obtain ⟨xs, n, _, rfl, hl, hlen, hf⟩ := DataW.trod_struct Tryz.underlying89 h
  rw [ncells_stat] at hl
  have hx : ∀ i, i < 4 → ∃ y, xs[i]? = some y := fun i hi => ⟨_, List.getElem?_eq_getElem (by rw [hlen]; exact hi)⟩
  obtain ⟨z0, q0⟩ := of_at (cs := cs) 0 (hf 0 _ rfl) (hx 0 (by omega)) ncells_int (of_int Tryz.underlying3)
  obtain ⟨z1, q1⟩ := of_at 1 (hf 1 _ rfl) (hx 1 (by omega)) ncells_int (of_int Tryz.underlying3)
  obtain ⟨z2, q2⟩ := of_at 2 (hf 2 _ rfl) (hx 2 (by omega)) ncells_int (of_int Tryz.underlying3)
  obtain ⟨z3, q3⟩ := of_at 3 (hf 3 _ rfl) (hx 3 (by omega)) ncells_uint64 (of_int Tryz.underlying32)
  refine ⟨⟨z0, z1, z2, z3⟩, ?_⟩
  show cs = statC _
  apply List.ext_getElem?
  intro i
  match i with
  | 0 => rw [cells_at1 q0]; rfl
  | 1 => rw [cells_at1 q1]; rfl
  | 2 => rw [cells_at1 q2]; rfl
  | 3 => rw [cells_at1 q3]; rfl
  | i + 4 => rw [List.getElem?_eq_none (by omega)]; rfl

structure FloodV where
  row : Int
  dev : Int
  vni : Int
  addrs : List Int
def FloodV.zero : FloodV := ⟨0, 0, 0, []⟩
def floodC (X : FloodV) (s_addrs : Sl3) : List Value := [.int .i64 X.row, .int .i64 X.dev, .int .i64 X.vni, .slice s_addrs.A s_addrs.n s_addrs.c]
def floodR : Rdr FloodV where
  n := 4
  rd := fun w F vs X => ∃ s_addrs, vs = floodC X s_addrs ∧ RSl (Rdr.int .u32) w F s_addrs.A s_addrs.n s_addrs.c X.addrs
  len := by rintro w F vs X ⟨s_addrs, rfl, _⟩; rfl
  one := by rintro w F vs X ⟨s_addrs, rfl, _⟩ v hv; simp [floodC] at hv; rcases hv with rfl | rfl | rfl | rfl <;> rfl
  keep := by rintro w w' F F' vs X ⟨s_addrs, rfl, h_addrs⟩ hb hF; exact ⟨s_addrs, rfl, h_addrs.keep hb hF⟩
theorem ncells_flood : Tryz.prog.cellsOf 71 = 4 := by kernel_rfl
set_option maxRecDepth 20000 in
theorem flood_of : floodR.Of Tryz.prog 71 := fun H enc w sp held fuel cs x h => by
  obtain ⟨xs, n, _, rfl, hl, hlen, hf⟩ := DataW.trod_struct Tryz.underlying71 h
  rw [ncells_flood] at hl
  have hx : ∀ i, i < 4 → ∃ y, xs[i]? = some y := fun i hi => ⟨_, List.getElem?_eq_getElem (by rw [hlen]; exact hi)⟩
  obtain ⟨z0, q0⟩ := of_at (cs := cs) 0 (hf 0 _ rfl) (hx 0 (by omega)) ncells_int (of_int Tryz.underlying3)
  obtain ⟨z1, q1⟩ := of_at 1 (hf 1 _ rfl) (hx 1 (by omega)) ncells_int (of_int Tryz.underlying3)
  obtain ⟨z2, q2⟩ := of_at 2 (hf 2 _ rfl) (hx 2 (by omega)) ncells_int (of_int Tryz.underlying3)
  obtain ⟨z3, A3, n3, c3, q3, r3⟩ := of_at 3 (hf 3 _ rfl) (hx 3 (by omega)) ncells_uints of_uints
  refine ⟨⟨z0, z1, z2, z3⟩, ⟨A3, n3, c3⟩, ?_, r3⟩
  apply List.ext_getElem?
  intro i
  match i with
  | 0 => rw [cells_at1 q0]; rfl
  | 1 => rw [cells_at1 q1]; rfl
  | 2 => rw [cells_at1 q2]; rfl
  | 3 => rw [cells_at1 q3]; rfl
  | i + 4 => rw [List.getElem?_eq_none (by omega)]; rfl

structure VrfV where
  row : Int
  dev : Int
  name : List UInt8
  imports : List Int
  exports : List Int
def VrfV.zero : VrfV := ⟨0, 0, [], [], []⟩
def vrfC (X : VrfV) (s_imports : Sl3) (s_exports : Sl3) : List Value := [.int .i64 X.row, .int .i64 X.dev, .string (str X.name), .slice s_imports.A s_imports.n s_imports.c, .slice s_exports.A s_exports.n s_exports.c]
def vrfR : Rdr VrfV where
  n := 5
  rd := fun w F vs X => ∃ s_imports s_exports, vs = vrfC X s_imports s_exports ∧ RSl (Rdr.int .i64) w F s_imports.A s_imports.n s_imports.c X.imports ∧ RSl (Rdr.int .i64) w F s_exports.A s_exports.n s_exports.c X.exports
  len := by rintro w F vs X ⟨s_imports, s_exports, rfl, _⟩; rfl
  one := by rintro w F vs X ⟨s_imports, s_exports, rfl, _⟩ v hv; simp [vrfC] at hv; rcases hv with rfl | rfl | rfl | rfl | rfl <;> rfl
  keep := by rintro w w' F F' vs X ⟨s_imports, s_exports, rfl, h_imports, h_exports⟩ hb hF; exact ⟨s_imports, s_exports, rfl, h_imports.keep hb hF, h_exports.keep hb hF⟩
theorem ncells_vrf : Tryz.prog.cellsOf 74 = 5 := by kernel_rfl
set_option maxRecDepth 20000 in
theorem vrf_of : vrfR.Of Tryz.prog 74 := fun H enc w sp held fuel cs x h => by
  obtain ⟨xs, n, _, rfl, hl, hlen, hf⟩ := DataW.trod_struct Tryz.underlying74 h
  rw [ncells_vrf] at hl
  have hx : ∀ i, i < 5 → ∃ y, xs[i]? = some y := fun i hi => ⟨_, List.getElem?_eq_getElem (by rw [hlen]; exact hi)⟩
  obtain ⟨z0, q0⟩ := of_at (cs := cs) 0 (hf 0 _ rfl) (hx 0 (by omega)) ncells_int (of_int Tryz.underlying3)
  obtain ⟨z1, q1⟩ := of_at 1 (hf 1 _ rfl) (hx 1 (by omega)) ncells_int (of_int Tryz.underlying3)
  obtain ⟨z2, q2⟩ := of_at 2 (hf 2 _ rfl) (hx 2 (by omega)) ncells_string (of_str Tryz.underlying9)
  obtain ⟨z3, A3, n3, c3, q3, r3⟩ := of_at 3 (hf 3 _ rfl) (hx 3 (by omega)) ncells_ints of_ints
  obtain ⟨z4, A4, n4, c4, q4, r4⟩ := of_at 4 (hf 4 _ rfl) (hx 4 (by omega)) ncells_ints of_ints
  refine ⟨⟨z0, z1, z2, z3, z4⟩, ⟨A3, n3, c3⟩, ⟨A4, n4, c4⟩, ?_, r3, r4⟩
  apply List.ext_getElem?
  intro i
  match i with
  | 0 => rw [cells_at1 q0]; rfl
  | 1 => rw [cells_at1 q1]; rfl
  | 2 => rw [cells_at1 q2]; rfl
  | 3 => rw [cells_at1 q3]; rfl
  | 4 => rw [cells_at1 q4]; rfl
  | i + 5 => rw [List.getElem?_eq_none (by omega)]; rfl

structure IrbV where
  row : Int
  dom : Int
  vrf : Int
  addr : Int
  bits : Int
def IrbV.zero : IrbV := ⟨0, 0, 0, 0, 0⟩
def irbC (X : IrbV) : List Value := [.int .i64 X.row, .int .i64 X.dom, .int .i64 X.vrf, .int .u32 X.addr, .int .i64 X.bits]
def irbR : Rdr IrbV where
  n := 5
  rd := fun _ _ vs X => vs = irbC X
  len := by rintro w F vs X rfl; rfl
  one := by rintro w F vs X rfl v hv; simp [irbC] at hv; rcases hv with rfl | rfl | rfl | rfl | rfl <;> rfl
  keep := fun h _ _ => h
theorem ncells_irb : Tryz.prog.cellsOf 98 = 5 := by kernel_rfl
theorem ncells_prefix : Tryz.prog.cellsOf 96 = 2 := by kernel_rfl
set_option maxRecDepth 20000 in
theorem irb_of : irbR.Of Tryz.prog 98 := fun H enc w sp held fuel cs x h => by
  obtain ⟨xs, n, _, rfl, hl, hlen, hf⟩ := DataW.trod_struct Tryz.underlying98 h
  rw [ncells_irb] at hl
  have hx : ∀ i, i < 4 → ∃ y, xs[i]? = some y := fun i hi => ⟨_, List.getElem?_eq_getElem (by rw [hlen]; exact hi)⟩
  obtain ⟨z0, q0⟩ := of_at (cs := cs) 0 (hf 0 _ rfl) (hx 0 (by omega)) ncells_int (of_int Tryz.underlying3)
  obtain ⟨z1, q1⟩ := of_at 1 (hf 1 _ rfl) (hx 1 (by omega)) ncells_int (of_int Tryz.underlying3)
  obtain ⟨z2, q2⟩ := of_at 2 (hf 2 _ rfl) (hx 2 (by omega)) ncells_int (of_int Tryz.underlying3)
  obtain ⟨y3, e3⟩ := hx 3 (by omega)
  have g3 : DataW.trod enc Tryz.prog w 0 sp held n 96 ((cs.drop 3).take (Tryz.prog.cellsOf 96)) = some y3 := (hf 3 _ rfl).trans e3
  rw [ncells_prefix] at g3
  obtain ⟨xs2, n2, _, rfl, hl2, hlen2, hf2⟩ := DataW.trod_struct Tryz.underlying96 g3
  have hx2 : ∀ i, i < 2 → ∃ y, xs2[i]? = some y := fun i hi => ⟨_, List.getElem?_eq_getElem (by rw [hlen2]; exact hi)⟩
  obtain ⟨v0, d0⟩ := hx2 0 (by omega)
  have k0 : DataW.trod enc Tryz.prog w 0 sp held n2 33 ((((cs.drop 3).take 2).drop 0).take (Tryz.prog.cellsOf 33)) = some v0 := (hf2 0 _ rfl).trans d0
  rw [ncells_uint32] at k0
  obtain ⟨z3, q3⟩ := of_int Tryz.underlying33 _ _ _ _ _ _ _ _ k0
  obtain ⟨v1, d1⟩ := hx2 1 (by omega)
  have k1 : DataW.trod enc Tryz.prog w 0 sp held n2 3 ((((cs.drop 3).take 2).drop 1).take (Tryz.prog.cellsOf 3)) = some v1 := (hf2 1 _ rfl).trans d1
  rw [ncells_int] at k1
  obtain ⟨z4, q4⟩ := of_int Tryz.underlying3 _ _ _ _ _ _ _ _ k1
  have q3 : (cs.drop 3).take 1 = [Value.int .u32 z3] := by have q : (((cs.drop 3).take 2).drop 0).take 1 = [Value.int .u32 z3] := q3; simpa [List.take_take] using q
  have q4 : (cs.drop 4).take 1 = [Value.int .i64 z4] := by have q : (((cs.drop 3).take 2).drop 1).take 1 = [Value.int .i64 z4] := q4; simpa [List.drop_take, List.take_take] using q
  refine ⟨⟨z0, z1, z2, z3, z4⟩, ?_⟩
  show cs = irbC _
  apply List.ext_getElem?
  intro i
  match i with
  | 0 => rw [cells_at1 q0]; rfl
  | 1 => rw [cells_at1 q1]; rfl
  | 2 => rw [cells_at1 q2]; rfl
  | 3 => rw [cells_at1 q3]; rfl
  | 4 => rw [cells_at1 q4]; rfl
  | i + 5 => rw [List.getElem?_eq_none (by omega)]; rfl

/-- a net -/
structure NV where
  devices : List DevV
  ports : List PortV
  links : List LinkV
  domains : List DomV
  statics : List StatV
  floods : List FloodV
  vrfs : List VrfV
  irbs : List IrbV
def NV.zero : NV := ⟨[], [], [], [], [], [], [], []⟩
/-- a net's slices -/
structure NSl3 where
  dv : Sl3
  pt : Sl3
  lk : Sl3
  dm : Sl3
  st : Sl3
  fl : Sl3
  vr : Sl3
  ir : Sl3
def NSl3.nil : NSl3 := ⟨Sl3.nil, Sl3.nil, Sl3.nil, Sl3.nil, Sl3.nil, Sl3.nil, Sl3.nil, Sl3.nil⟩
/-- a net's cells in a block; as an array -/
abbrev NF (w : World) (q : Nat) (S : NSl3) : Prop := w.cell? ⟨q, 0, none⟩ = some (.slice S.dv.A S.dv.n S.dv.c) ∧ w.cell? ⟨q, 1, none⟩ = some (.slice S.pt.A S.pt.n S.pt.c) ∧ w.cell? ⟨q, 2, none⟩ = some (.slice S.lk.A S.lk.n S.lk.c) ∧ w.cell? ⟨q, 3, none⟩ = some (.slice S.dm.A S.dm.n S.dm.c) ∧ w.cell? ⟨q, 4, none⟩ = some (.slice S.st.A S.st.n S.st.c) ∧ w.cell? ⟨q, 5, none⟩ = some (.slice S.fl.A S.fl.n S.fl.c) ∧ w.cell? ⟨q, 6, none⟩ = some (.slice S.vr.A S.vr.n S.vr.c) ∧ w.cell? ⟨q, 7, none⟩ = some (.slice S.ir.A S.ir.n S.ir.c)
abbrev nA (S : NSl3) : Array Value := #[.slice S.dv.A S.dv.n S.dv.c, .slice S.pt.A S.pt.n S.pt.c, .slice S.lk.A S.lk.n S.lk.c, .slice S.dm.A S.dm.n S.dm.c, .slice S.st.A S.st.n S.st.c, .slice S.fl.A S.fl.n S.fl.c, .slice S.vr.A S.vr.n S.vr.c, .slice S.ir.A S.ir.n S.ir.c]
abbrev zA : Array Value := #[.slice none 0 0, .slice none 0 0, .slice none 0 0, .slice none 0 0, .slice none 0 0, .slice none 0 0, .slice none 0 0, .slice none 0 0]
def netC (S : NSl3) : List Value := [.slice S.dv.A S.dv.n S.dv.c, .slice S.pt.A S.pt.n S.pt.c, .slice S.lk.A S.lk.n S.lk.c, .slice S.dm.A S.dm.n S.dm.c, .slice S.st.A S.st.n S.st.c, .slice S.fl.A S.fl.n S.fl.c, .slice S.vr.A S.vr.n S.vr.c, .slice S.ir.A S.ir.n S.ir.c]
/-- a net as a value -/
def netV (S : NSl3) : Value := .agg #[.slice S.dv.A S.dv.n S.dv.c, .slice S.pt.A S.pt.n S.pt.c, .slice S.lk.A S.lk.n S.lk.c, .slice S.dm.A S.dm.n S.dm.c, .slice S.st.A S.st.n S.st.c, .slice S.fl.A S.fl.n S.fl.c, .slice S.vr.A S.vr.n S.vr.c, .slice S.ir.A S.ir.n S.ir.c]
/-- a net's slices read as its lists -/
structure NRead (w : World) (F : Nat → Prop) (N : NV) (S : NSl3) : Prop where
  dv : RSl devR w F S.dv.A S.dv.n S.dv.c N.devices
  pt : RSl portR w F S.pt.A S.pt.n S.pt.c N.ports
  lk : RSl linkR w F S.lk.A S.lk.n S.lk.c N.links
  dm : RSl domR w F S.dm.A S.dm.n S.dm.c N.domains
  st : RSl statR w F S.st.A S.st.n S.st.c N.statics
  fl : RSl floodR w F S.fl.A S.fl.n S.fl.c N.floods
  vr : RSl vrfR w F S.vr.A S.vr.n S.vr.c N.vrfs
  ir : RSl irbR w F S.ir.A S.ir.n S.ir.c N.irbs
theorem NRead.keep {w w' : World} {F F' : Nat → Prop} {N : NV} {S : NSl3} (h : NRead w F N S) (hb : ∀ b, F b → w'.heap[b]? = w.heap[b]?) (hF : ∀ b, F b → F' b) : NRead w' F' N S := ⟨h.dv.keep hb hF, h.pt.keep hb hF, h.lk.keep hb hF, h.dm.keep hb hF, h.st.keep hb hF, h.fl.keep hb hF, h.vr.keep hb hF, h.ir.keep hb hF⟩
theorem NRead.up {w w' : World} {N : NV} {S : NSl3} (h : NRead w (allB w) N S) (hb : Below w.heap.size w w') : NRead w' (allB w') N S := h.keep (fun b h => hb.block b h) (fun _ h => Nat.lt_of_lt_of_le h hb.size)
def netR : Rdr NV where
  n := 8
  rd := fun w F vs N => ∃ S, vs = netC S ∧ NRead w F N S
  len := by rintro w F vs N ⟨S, rfl, _⟩; rfl
  one := by rintro w F vs N ⟨S, rfl, _⟩ v hv; simp [netC] at hv; rcases hv with rfl | rfl | rfl | rfl | rfl | rfl | rfl | rfl <;> rfl
  keep := by rintro w w' F F' vs N ⟨S, rfl, h⟩ hb hF; exact ⟨S, rfl, h.keep hb hF⟩
theorem ncells_net : Tryz.prog.cellsOf 31 = 8 := by kernel_rfl
theorem ncells_devs : Tryz.prog.cellsOf 22 = 1 := by kernel_rfl
theorem ncells_ports : Tryz.prog.cellsOf 23 = 1 := by kernel_rfl
theorem ncells_links : Tryz.prog.cellsOf 24 = 1 := by kernel_rfl
theorem ncells_doms : Tryz.prog.cellsOf 25 = 1 := by kernel_rfl
theorem ncells_stats : Tryz.prog.cellsOf 26 = 1 := by kernel_rfl
theorem ncells_floods : Tryz.prog.cellsOf 27 = 1 := by kernel_rfl
theorem ncells_vrfs : Tryz.prog.cellsOf 28 = 1 := by kernel_rfl
theorem ncells_irbs : Tryz.prog.cellsOf 29 = 1 := by kernel_rfl
set_option maxRecDepth 20000 in
theorem net_of : netR.Of Tryz.prog 31 := fun H enc w sp held fuel cs x h => by
  obtain ⟨xs, n, _, rfl, hl, hlen, hf⟩ := DataW.trod_struct Tryz.underlying31 h
  rw [ncells_net] at hl
  have hx : ∀ i, i < 8 → ∃ y, xs[i]? = some y := fun i hi => ⟨_, List.getElem?_eq_getElem (by rw [hlen]; exact hi)⟩
  obtain ⟨z0, A0, n0, c0, q0, r0⟩ := of_at (cs := cs) 0 (hf 0 _ rfl) (hx 0 (by omega)) ncells_devs (of_slice (R := devR) Tryz.underlying22 ncells_dev (by decide) dev_of)
  obtain ⟨z1, A1, n1, c1, q1, r1⟩ := of_at 1 (hf 1 _ rfl) (hx 1 (by omega)) ncells_ports (of_slice (R := portR) Tryz.underlying23 ncells_port (by decide) port_of)
  obtain ⟨z2, A2, n2, c2, q2, r2⟩ := of_at 2 (hf 2 _ rfl) (hx 2 (by omega)) ncells_links (of_slice (R := linkR) Tryz.underlying24 ncells_link (by decide) link_of)
  obtain ⟨z3, A3, n3, c3, q3, r3⟩ := of_at 3 (hf 3 _ rfl) (hx 3 (by omega)) ncells_doms (of_slice (R := domR) Tryz.underlying25 ncells_dom (by decide) dom_of)
  obtain ⟨z4, A4, n4, c4, q4, r4⟩ := of_at 4 (hf 4 _ rfl) (hx 4 (by omega)) ncells_stats (of_slice (R := statR) Tryz.underlying26 ncells_stat (by decide) stat_of)
  obtain ⟨z5, A5, n5, c5, q5, r5⟩ := of_at 5 (hf 5 _ rfl) (hx 5 (by omega)) ncells_floods (of_slice (R := floodR) Tryz.underlying27 ncells_flood (by decide) flood_of)
  obtain ⟨z6, A6, n6, c6, q6, r6⟩ := of_at 6 (hf 6 _ rfl) (hx 6 (by omega)) ncells_vrfs (of_slice (R := vrfR) Tryz.underlying28 ncells_vrf (by decide) vrf_of)
  obtain ⟨z7, A7, n7, c7, q7, r7⟩ := of_at 7 (hf 7 _ rfl) (hx 7 (by omega)) ncells_irbs (of_slice (R := irbR) Tryz.underlying29 ncells_irb (by decide) irb_of)
  refine ⟨⟨z0, z1, z2, z3, z4, z5, z6, z7⟩, ⟨⟨A0, n0, c0⟩, ⟨A1, n1, c1⟩, ⟨A2, n2, c2⟩, ⟨A3, n3, c3⟩, ⟨A4, n4, c4⟩, ⟨A5, n5, c5⟩, ⟨A6, n6, c6⟩, ⟨A7, n7, c7⟩⟩, ?_, ⟨r0, r1, r2, r3, r4, r5, r6, r7⟩⟩
  apply List.ext_getElem?
  intro i
  match i with
  | 0 => rw [cells_at1 q0]; rfl
  | 1 => rw [cells_at1 q1]; rfl
  | 2 => rw [cells_at1 q2]; rfl
  | 3 => rw [cells_at1 q3]; rfl
  | 4 => rw [cells_at1 q4]; rfl
  | 5 => rw [cells_at1 q5]; rfl
  | 6 => rw [cells_at1 q6]; rfl
  | 7 => rw [cells_at1 q7]; rfl
  | i + 8 => rw [List.getElem?_eq_none (by omega)]; rfl
end Go.Proofs.YtgmflecelnefcaaGreat

/- Plain facts on decimal numerals: which rows of digits are a number's, and whose. Plain facts on addresses and prefixes as texts: the two readers read alike, and read what is written. Plain facts on numbers as texts, on lists of texts with a comma between, and on numbers that rise. Plain facts on prefixes of numbers of 32 bits. -/
namespace Go.Proofs.YtgmflecelnefcaaGreat
open Go.Lib (decDigits nDigits)

def isD (c : UInt8) : Bool := 48 ≤ c && c ≤ 57
theorem isD_iff (c : UInt8) : isD c = true ↔ 48 ≤ c.toNat ∧ c.toNat ≤ 57 := by
  unfold isD; simp [UInt8.le_iff_toNat_le]
/-- the number that a row of digits is -/
def valD (l : List UInt8) : Nat := l.foldl (fun n c => n * 10 + (c.toNat - 48)) 0
theorem valD_snoc (l : List UInt8) (c : UInt8) : valD (l ++ [c]) = valD l * 10 + (c.toNat - 48) := by simp [valD]
theorem valD_nil : valD [] = 0 := rfl

theorem ofNat_toNat {n : Nat} (h : n < 256) : (UInt8.ofNat n).toNat = n := by simp; omega
theorem dec_small {u : Nat} (h : u < 10) : decDigits u = [UInt8.ofNat (48 + u)] := by rw [decDigits, dif_pos h]
theorem dec_big {u : Nat} (h : ¬ u < 10) : decDigits u = decDigits (u / 10) ++ [UInt8.ofNat (48 + u % 10)] := by rw [decDigits, dif_neg h]

theorem dec_ne (u : Nat) : decDigits u ≠ [] := by
  by_cases h : u < 10
  · rw [dec_small h]; simp
  · rw [dec_big h]; simp
theorem dec_digits (u : Nat) : ∀ c ∈ decDigits u, isD c = true := by
  induction u using Nat.strongRecOn with
  | _ u ih =>
    by_cases h : u < 10
    · rw [dec_small h]
      intro c hc
      rw [List.mem_singleton.1 hc, isD_iff, ofNat_toNat (by omega)]
      omega
    · rw [dec_big h]
      intro c hc
      rcases List.mem_append.1 hc with hc | hc
      · exact ih (u / 10) (by omega) c hc
      · rw [List.mem_singleton.1 hc, isD_iff, ofNat_toNat (by omega)]
        omega
theorem dec_val (u : Nat) : valD (decDigits u) = u := by
  induction u using Nat.strongRecOn with
  | _ u ih =>
    by_cases h : u < 10
    · rw [dec_small h, show [UInt8.ofNat (48 + u)] = [] ++ [UInt8.ofNat (48 + u)] from rfl, valD_snoc, ofNat_toNat (by omega), valD_nil]
      omega
    · rw [dec_big h, valD_snoc, ih (u / 10) (by omega), ofNat_toNat (by omega)]
      omega
theorem dec_len {u : Nat} (k : Nat) (hk : 0 < k) (h : u < 10 ^ k) : (decDigits u).length ≤ k := by
  induction k generalizing u with
  | zero => omega
  | succ k ih =>
    by_cases h1 : u < 10
    · rw [dec_small h1]; simp
    · rw [dec_big h1, List.length_append]
      have h2 : u / 10 < 10 ^ k := by rw [Nat.pow_succ] at h; omega
      have hk0 : 0 < k := by
        rcases Nat.eq_zero_or_pos k with rfl | hp
        · simp at h2; omega
        · exact hp
      have := ih hk0 h2
      simp; omega

/-- the number that a text begins with, at most 'most', and what stands behind it -/
def numF (most : Nat) (l : List UInt8) : Option (Nat × List UInt8) :=
  if l.takeWhile isD = [] then none
  else if (l.takeWhile isD).head? = some 48 ∧ 1 < (l.takeWhile isD).length then none
  else if most < valD (l.takeWhile isD) then none
  else some (valD (l.takeWhile isD), l.dropWhile isD)
/-! What a walk over a text's digits keeps. -/
end Go.Proofs.YtgmflecelnefcaaGreat

namespace Go.Proofs.YtgmflecelnefcaaGreat
open Go.Lib (decDigits nDigits)

/-- an address's text -/
def txt (a : Nat) : List UInt8 := decDigits (a / 16777216) ++ 46 :: (decDigits (a / 65536 % 256) ++ 46 :: (decDigits (a / 256 % 256) ++ 46 :: decDigits (a % 256)))

/-- one number more, behind a dot where i is not 0 -/
def rdStep (i : Nat) (p : Nat × List UInt8) : Option (Nat × List UInt8) :=
  if 0 < i then
    match p.2 with
    | 46 :: r => (numF 255 r).map fun q => (p.1 * 256 + q.1, q.2)
    | _ => none
  else (numF 255 p.2).map fun q => (p.1 * 256 + q.1, q.2)
/-- the first i numbers, and what stands behind them -/
def rdSt (l : List UInt8) : Nat → Option (Nat × List UInt8)
  | 0 => some (0, l)
  | i + 1 => (rdSt l i).bind (rdStep i)
/-- the address that a text is -/
def rdF (l : List UInt8) : Option Nat :=
  match rdSt l 4 with
  | some (a, []) => some a
  | _ => none
/-- a prefix's text, cut at its first slash -/
def headS (l : List UInt8) : List UInt8 := l.takeWhile (fun c => c != 47)
def tailS (l : List UInt8) : List UInt8 := (l.dropWhile (fun c => c != 47)).drop 1
/-- the prefix that a text is -/
def pfF (l : List UInt8) : Option (Nat × Nat) :=
  match rdF (headS l), numF 32 (tailS l) with
  | some a, some (b, []) => some (a, b)
  | _, _ => none
end Go.Proofs.YtgmflecelnefcaaGreat

namespace Go.Proofs.YtgmflecelnefcaaGreat
open Go.Lib (decDigits nDigits itoa atoiAll atoi decNat decFrom)

/-- what stands behind a sign -/
def trimM (l : List UInt8) : List UInt8 := if l.head? = some 45 then l.tail else l
theorem itoa_pos (u : Nat) : itoa (u : Int) = decDigits u := by unfold itoa; rw [if_neg (by omega)]; simp
theorem itoa_min (u : Nat) (h : 1 ≤ u) : itoa (-(u : Int)) = 45 :: decDigits u := by unfold itoa; rw [if_pos (by omega)]; simp
theorem int_cases (n : Int) : (∃ u : Nat, n = (u : Int)) ∨ ∃ u : Nat, 1 ≤ u ∧ n = -(u : Int) := by
  by_cases h : n < 0
  · exact .inr ⟨n.natAbs, by omega, by omega⟩
  · exact .inl ⟨n.toNat, by omega⟩
theorem decFrom_all (l : List UInt8) : ∀ (acc : Nat), (∀ c ∈ l, isD c = true) → decFrom acc l = some (l.foldl (fun n c => n * 10 + (c.toNat - 48)) acc) := by
  induction l with
  | nil => intro acc _; rfl
  | cons c r ih =>
    intro acc h
    have hc := (isD_iff c).1 (h c (by simp))
    have hd : Go.Lib.digitVal c = some (c.toNat - 48) := by unfold Go.Lib.digitVal; rw [if_pos hc]
    simp only [decFrom, hd, List.foldl_cons]
    exact ih _ (fun x hx => h x (by simp [hx]))
theorem decNat_all (l : List UInt8) (h0 : l ≠ []) (h : ∀ c ∈ l, isD c = true) : decNat l = some (valD l) := by
  unfold decNat
  have : l.isEmpty = false := by simpa using h0
  rw [this]
  simp only [Bool.false_eq_true, if_false]
  exact decFrom_all l 0 h
theorem atoi_itoa (n : Int) : atoi (itoa n) = some n := by
  rcases int_cases n with ⟨u, rfl⟩ | ⟨u, h, rfl⟩
  · rw [itoa_pos]
    have hn := decNat_all _ (dec_ne u) (dec_digits u)
    rw [dec_val] at hn
    cases hd : decDigits u with
    | nil => exact absurd hd (dec_ne u)
    | cons x r =>
      have hx := (isD_iff x).1 (dec_digits u x (by rw [hd]; simp))
      have h1 : (x == 45) = false := by
        rw [beq_eq_false_iff_ne]; intro e; subst e; revert hx; decide
      have h2 : (x == 43) = false := by
        rw [beq_eq_false_iff_ne]; intro e; subst e; revert hx; decide
      rw [hd] at hn
      simp only [atoi, h1, h2, Bool.false_eq_true, if_false, hn]
      rfl
  · rw [itoa_min u h]
    have hn := decNat_all _ (dec_ne u) (dec_digits u)
    rw [dec_val] at hn
    simp [atoi, hn]
theorem trim_len (l : List UInt8) : l.length ≤ (trimM l).length + 1 := by
  unfold trimM
  split
  · simp; omega
  · omega
theorem atoiAll_itoa (n : Int) (h : (trimM (itoa n)).length ≤ 10) : atoiAll (itoa n) = .ok n := by
  rw [Go.Lib.atoiAll_short _ (by have := trim_len (itoa n); omega), atoi_itoa]
  rfl

/-- the number from lo to hi whose text, of at most ten digits, l is -/
def nF (l : List UInt8) (lo hi : Int) : Option Int :=
  if 10 < (trimM l).length then none
  else match atoiAll l with
    | .ok n => if lo ≤ n ∧ n ≤ hi ∧ itoa n = l then some n else none
    | _ => none
theorem nF_iff {l : List UInt8} {lo hi n : Int} : nF l lo hi = some n ↔ itoa n = l ∧ (trimM l).length ≤ 10 ∧ lo ≤ n ∧ n ≤ hi := by
  unfold nF
  by_cases h : 10 < (trimM l).length
  · rw [if_pos h]
    exact ⟨(fun e => by cases e), fun e => by omega⟩
  · rw [if_neg h]
    constructor
    · intro e
      split at e
      · rename_i m hm
        split at e
        · rename_i hc
          obtain rfl : m = n := by simpa using e
          exact ⟨hc.2.2, by omega, hc.1, hc.2.1⟩
        · cases e
      · cases e
    · rintro ⟨rfl, h1, h2, h3⟩
      rw [atoiAll_itoa n h1]
      simp only
      rw [if_pos ⟨h2, h3, trivial⟩]
/-! Lists of texts with a comma between. -/
def splitC : List UInt8 → List (List UInt8)
  | [] => [[]]
  | c :: r => if c = 44 then [] :: splitC r else match splitC r with
    | h :: t => (c :: h) :: t
    | [] => [[c]]
/-- all of them read, or none -/
def allRd (rd : List UInt8 → Option Int) : List (List UInt8) → Option (List Int)
  | [] => some []
  | a :: r => (rd a).bind fun x => (allRd rd r).map (x :: ·)
/-! Numbers that rise. -/
def upB : List Int → Bool
  | [] => true
  | [_] => true
  | a :: b :: r => decide (a < b) && upB (b :: r)
def Up (xs : List Int) (k : Nat) : Prop := ∀ i, 0 < i → i < k → xs.getD (i - 1) 0 < xs.getD i 0
theorem Up.one (xs : List Int) : Up xs 1 := fun i h0 h1 => by omega
theorem Up.zero (xs : List Int) : Up xs 0 := fun i h0 h1 => by omega
theorem Up.next {xs : List Int} {k : Nat} (h : Up xs k) (hk : xs.getD (k - 1) 0 < xs.getD k 0) : Up xs (k + 1) := fun i h0 h1 => by
  by_cases e : i = k
  · subst e; exact hk
  · exact h i h0 (by omega)
theorem upB_iff (xs : List Int) : upB xs = true ↔ Up xs xs.length := by
  induction xs with
  | nil => exact ⟨fun _ => Up.zero _, fun _ => rfl⟩
  | cons a r ih =>
    cases r with
    | nil => exact ⟨fun _ => Up.one _, fun _ => rfl⟩
    | cons b r =>
      simp only [upB, Bool.and_eq_true, decide_eq_true_eq]
      constructor
      · rintro ⟨h1, h2⟩ i h0 hi
        have h3 := ih.1 h2
        rcases i with _ | i
        · omega
        · rcases i with _ | i
          · simpa using h1
          · have := h3 (i + 1) (by omega) (by simpa using hi)
            simpa using this
      · intro h
        refine ⟨by simpa using h 1 (by omega) (by simp), ih.2 fun i h0 hi => ?_⟩
        have := h (i + 1) (by omega) (by simpa using hi)
        rcases i with _ | i
        · omega
        · simpa using this
/-- 1 to 16 numbers, each greater than the one ahead -/
def risB (xs : List Int) : Bool := decide (1 ≤ xs.length) && decide (xs.length ≤ 16) && upB xs
theorem risB_iff (xs : List Int) : risB xs = true ↔ 1 ≤ xs.length ∧ xs.length ≤ 16 ∧ Up xs xs.length := by
  unfold risB
  rw [Bool.and_eq_true, Bool.and_eq_true, upB_iff, decide_eq_true_eq, decide_eq_true_eq, and_assoc]
theorem risB_no (xs : List Int) (h : xs.length < 1 ∨ 16 < xs.length) : risB xs = false := by
  cases hx : risB xs with
  | false => rfl
  | true => have := (risB_iff xs).1 hx; omega
theorem risB_down {xs : List Int} {k : Nat} (h0 : 0 < k) (hk : k < xs.length) (h : xs.getD k 0 ≤ xs.getD (k - 1) 0) : risB xs = false := by
  cases hx : risB xs with
  | false => rfl
  | true => have := ((risB_iff xs).1 hx).2.2 k h0 hk; omega
/-- .. each of them from lo to hi -/
def inB (xs : List Int) (lo hi : Int) : Bool := xs.all fun x => decide (lo ≤ x) && decide (x ≤ hi)
def risIn (xs : List Int) (lo hi : Int) : Bool := risB xs && inB xs lo hi
theorem Up.mono {xs : List Int} {n : Nat} (h : Up xs n) : ∀ j i, i ≤ j → j < n → xs.getD i 0 ≤ xs.getD j 0 := by
  intro j
  induction j with
  | zero => intro i hi _; obtain rfl : i = 0 := by omega
            omega
  | succ j ih =>
    intro i hi hj
    by_cases e : i = j + 1
    · subst e; omega
    · have := ih i (by omega) (by omega)
      have := h (j + 1) (by omega) hj
      rw [Nat.add_sub_cancel] at this
      omega
theorem getD_mem {xs : List Int} {i : Nat} (h : i < xs.length) : xs.getD i 0 ∈ xs := by
  rw [List.getD, List.getElem?_eq_getElem h]; exact List.getElem_mem h
theorem mem_getD {xs : List Int} {x : Int} (h : x ∈ xs) : ∃ i, i < xs.length ∧ xs.getD i 0 = x := by
  obtain ⟨i, hi, e⟩ := List.mem_iff_getElem.1 h
  exact ⟨i, hi, by rw [List.getD, List.getElem?_eq_getElem hi]; exact e⟩
theorem inB_iff (xs : List Int) (lo hi : Int) : inB xs lo hi = true ↔ ∀ x ∈ xs, lo ≤ x ∧ x ≤ hi := by
  unfold inB
  rw [List.all_eq_true]
  exact ⟨fun h x hx => by have := h x hx; simpa using this, fun h x hx => by have := h x hx; simpa using this⟩
theorem risIn_ends (xs : List Int) (lo hi : Int) (h : risB xs = true) : inB xs lo hi = (decide (lo ≤ xs.getD 0 0) && decide (xs.getD (xs.length - 1) 0 ≤ hi)) := by
  obtain ⟨h1, h2, h3⟩ := (risB_iff xs).1 h
  rw [Bool.eq_iff_iff, inB_iff, Bool.and_eq_true, decide_eq_true_eq, decide_eq_true_eq]
  constructor
  · intro g
    exact ⟨(g _ (getD_mem (by omega))).1, (g _ (getD_mem (by omega))).2⟩
  · rintro ⟨g1, g2⟩ x hx
    obtain ⟨i, hi', rfl⟩ := mem_getD hx
    have := h3.mono i 0 (by omega) hi'
    have := h3.mono (xs.length - 1) i (by omega) (by omega)
    omega

/-- the list that a text is -/
def rlF (rd : List UInt8 → Option Int) (l : List UInt8) : Option (List Int) := match allRd rd (splitC l) with
  | some xs => if risB xs = true then some xs else none
  | none => none
theorem rlF_yes {rd : List UInt8 → Option Int} {l : List UInt8} {xs : List Int} (h : allRd rd (splitC l) = some xs) (hr : risB xs = true) : rlF rd l = some xs := by
  unfold rlF; rw [h]; simp only; rw [if_pos hr]
/-! Texts, a comma between. -/
end Go.Proofs.YtgmflecelnefcaaGreat

namespace Go.Proofs.YtgmflecelnefcaaGreat

theorem tb_high (n i : Nat) (hn : n ≤ 32) : (4294967295 - (2 ^ n - 1)).testBit i = (decide (n ≤ i) && decide (i < 32)) := by
  have h1 : 2 ^ 32 = 2 ^ (32 - n) * 2 ^ n := by rw [← Nat.pow_add, Nat.sub_add_cancel hn]
  have h0 : 1 ≤ 2 ^ n := Nat.one_le_two_pow
  have h2 : 4294967295 - (2 ^ n - 1) = (2 ^ (32 - n) - 1) * 2 ^ n := by
    rw [Nat.sub_mul, ← h1]
    omega
  rw [h2, Nat.testBit_mul_two_pow, Nat.testBit_two_pow_sub_one]
  by_cases h : n ≤ i
  · simp only [h, decide_true, Bool.true_and]
    congr 1
    apply propext
    omega
  · simp [h]
theorem tb_cut (x n i : Nat) : (x / 2 ^ n * 2 ^ n).testBit i = (decide (n ≤ i) && x.testBit i) := by
  rw [Nat.testBit_mul_two_pow]
  by_cases h : n ≤ i
  · simp only [h, decide_true, Bool.true_and]
    rw [Nat.testBit_div_two_pow, Nat.sub_add_cancel h]
  · simp [h]
theorem lt_tb {x : Nat} (hx : x < 4294967296) (i : Nat) (hi : ¬ i < 32) : x.testBit i = false :=
  Nat.testBit_lt_two_pow (Nat.lt_of_lt_of_le (show x < 2 ^ 32 from hx) (Nat.pow_le_pow_right (by decide) (by omega)))
theorem and_high (x n : Nat) (hx : x < 4294967296) (hn : n ≤ 32) : x &&& (4294967295 - (2 ^ n - 1)) = x / 2 ^ n * 2 ^ n := by
  apply Nat.eq_of_testBit_eq
  intro i
  rw [Nat.testBit_and, tb_high n i hn, tb_cut]
  by_cases h : i < 32
  · simp [h, Bool.and_comm]
  · simp [lt_tb hx i h]
theorem or_low (x n : Nat) : x ||| (2 ^ n - 1) = x / 2 ^ n * 2 ^ n + (2 ^ n - 1) := by
  have h0 : 1 ≤ 2 ^ n := Nat.one_le_two_pow
  have e := Nat.two_pow_add_eq_or_of_lt (i := n) (b := 2 ^ n - 1) (by omega) (x / 2 ^ n)
  rw [Nat.mul_comm] at e
  rw [e]
  apply Nat.eq_of_testBit_eq
  intro i
  rw [Nat.testBit_or, Nat.testBit_or, tb_cut, Nat.testBit_two_pow_sub_one]
  by_cases h : n ≤ i
  · simp [h]
  · simp [h]; intro _; omega
/-- how many addresses a prefix of b bits has -/
def sz (b : Nat) : Nat := 2 ^ (32 - b)
theorem sz_pos (b : Nat) : 1 ≤ sz b := Nat.one_le_two_pow
theorem sz_le (b : Nat) : sz b ≤ 4294967296 := by
  have h : 2 ^ (32 - b) ≤ 2 ^ 32 := Nat.pow_le_pow_right (by decide) (Nat.sub_le 32 b)
  exact h
/-- the least and the greatest address of a prefix -/
def fsN (a b : Nat) : Nat := a / sz b * sz b
def lsN (a b : Nat) : Nat := a / sz b * sz b + (sz b - 1)
theorem fsN_le (a b : Nat) : fsN a b ≤ a := Nat.div_mul_le_self a (sz b)
theorem lsN_ge (a b : Nat) : a ≤ lsN a b := by
  have h1 := Nat.div_add_mod a (sz b)
  have h2 := Nat.mod_lt a (sz_pos b)
  rw [Nat.mul_comm] at h1
  unfold lsN
  omega
/-- a prefix has an address just if it is between its least and its greatest one -/
theorem has_iff (a b x : Nat) : x / sz b = a / sz b ↔ fsN a b ≤ x ∧ x ≤ lsN a b := by
  have h0 := sz_pos b
  unfold fsN lsN
  constructor
  · intro h
    rw [← h]
    exact ⟨fsN_le x b, lsN_ge x b⟩
  · rintro ⟨h1, h2⟩
    have h3 : a / sz b ≤ x / sz b := (Nat.le_div_iff_mul_le h0).2 h1
    have h4 : x / sz b < a / sz b + 1 := by
      rw [Nat.div_lt_iff_lt_mul h0, Nat.add_mul]
      omega
    omega
/-! The answers. A prefix: its address A and its number of bits B. -/
def RT (B : Int) : Bool := decide (0 ≤ B ∧ B ≤ 32)
def FS (A B : Int) : Int := if RT B = true then (fsN A.toNat B.toNat : Nat) else 0
def LS (A B : Int) : Int := if RT B = true then (lsN A.toNat B.toNat : Nat) else 0
def HS (A B x : Int) : Bool := RT B && decide (x.toNat / sz B.toNat = A.toNat / sz B.toNat)
theorem RT_iff (B : Int) : RT B = true ↔ 0 ≤ B ∧ B ≤ 32 := by simp [RT]
theorem RT_nat {B : Int} (h : RT B = true) : ∃ b : Nat, B = (b : Int) ∧ b ≤ 32 := by
  obtain ⟨h1, h2⟩ := (RT_iff B).1 h
  exact ⟨B.toNat, by omega, by omega⟩
theorem free_eq (b : Nat) (h : b ≤ 32) : (4294967295 : Int) / 2 ^ b = ((sz b - 1 : Nat) : Int) := by
  have : ∀ i : Fin 33, (4294967295 : Int) / 2 ^ i.val = ((sz i.val - 1 : Nat) : Int) := by decide +kernel
  exact this ⟨b, by omega⟩
end Go.Proofs.YtgmflecelnefcaaGreat

