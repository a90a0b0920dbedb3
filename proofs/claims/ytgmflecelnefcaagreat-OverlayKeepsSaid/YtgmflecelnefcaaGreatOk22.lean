/- XNoRefDev; XOlPut; XOlRef; XOlFind -/
import Derived.Test.YtgmflecelnefcaaGreatOk17
import Derived.Test.YtgmflecelnefcaaGreatOk18
import Derived.Test.YtgmflecelnefcaaGreatOk19
import Derived.Test.YtgmflecelnefcaaGreatOk08
import Derived.Test.YtgmflecelnefcaaGreatOk21
import Derived.Test.YtgmflecelnefcaaGreatOk03
import Derived.Test.YtgmflecelnefcaaGreatOk10
import Derived.Test.YtgmflecelnefcaaGreatOk20
import Derived.Test.YtgmflecelnefcaaGreatOk05
import Derived.Deep.CutBlock
import Derived.Deep.DeepCutAuto
import Derived.Lib.SlKept
import Derived.Lib.SliceRun
import Derived.Shelf.RegionOpenPlain
/- The contract of palingref16.Device: a net with a line's device. (Made by mk-norefdev.py.) -/
namespace Go.Proofs.YtgmflecelnefcaaGreat
open Go.RowKit

/-- a net beside a number, as a call returns it -/
def GotPut (N : NV) (E : Int) (w : World) (e : Ending) (w' : World) : Prop := ∃ U, e = .returned (.tuple #[netV U, .int .i64 E]) ∧ NRead w' (allB w') N U ∧ Below w.heap.size w w'
theorem NOwn.far {w w' : World} {B q : Nat} {F : Nat → Prop} {N : NV} {S : NSl3} (h : NOwn w B F N S) (hs : w.heap.size ≤ w'.heap.size) (hc : ∀ b, b ≠ q → w'.heap[b]? = w.heap[b]?) (hq : q < B) (hF : ¬ F q) : NOwn w' B F N S := by
  have key : ∀ {α : Type} {R : Rdr α} {T : TypeId} {s : Sl3} {xs : List α}, RI R w B F T s xs → RI R w' B F T s xs := fun g =>
    g.keep hs (fun b cur hB _ => hc b (by omega)) (fun b hb => hc b (fun e => by
      subst e
      rcases hb.2 with g | g
      · exact hF g
      · have := g.1; omega))
  exact ⟨key h.dv, key h.pt, key h.lk, key h.dm, key h.st, key h.fl, key h.vr, key h.ir⟩
end Go.Proofs.YtgmflecelnefcaaGreat

/- A device's VTEP, a domain's VNI and row stored into a net of the call's own. -/
namespace Go.Proofs.YtgmflecelnefcaaGreat
open Go.RowKit

theorem NOwn.vput {w : World} {B : Nat} {F : Nat → Prop} {N : NV} {S : NSl3} (h : NOwn w B F N S) (hF : ∀ b, F b → b < B) (k : Nat) (hk : k < N.devices.length) (g : Nat) (hg : S.dv.A = some ⟨g, 0, none⟩) (a : Int) :
    NOwn (w.setCell ⟨g, k * 5 + 4, none⟩ (.int .u32 a)) B F (withVtep N k a) S ∧ ChgT B 58 w (w.setCell ⟨g, k * 5 + 4, none⟩ (.int .u32 a)) ∧ B ≤ g := by
  obtain ⟨h1, hc⟩ := h.dv.put (d := DevV.zero) iso_dev hF k hk 4 (by decide) (.int .u32 a) { N.devices.getD k DevV.zero with vtep := a } g hg (fun us hu => by
    have hu : us = devC (N.devices.getD k DevV.zero) := hu
    subst hu
    rfl)
  obtain ⟨g2, cur, hg2, hB, _⟩ := h.dv.row (by omega)
  have eg : g2 = g := by rw [hg] at hg2; injection hg2 with e; injection e with e _; exact e.symm
  rw [eg] at hB
  exact ⟨h.setDv hc hF h1, hc, hB⟩
theorem NOwn.vcell {w : World} {B : Nat} {F : Nat → Prop} {N : NV} {S : NSl3} (h : NOwn w B F N S) (hn : 0 < N.devices.length) : ∃ g, S.dv.A = some ⟨g, 0, none⟩ ∧ B ≤ g ∧ g < w.heap.size ∧ (∀ o, w.frozen? ⟨g, o, none⟩ = false) ∧ ∀ k, k < N.devices.length → ∃ v, w.cell? ⟨g, k * 5 + 4, none⟩ = some v := by
  obtain ⟨g, cur, hg, hB, hh⟩ := h.dv.row hn
  have tb : TBx w g 58 cur.toList := by unfold TBx; rw [hh]
  refine ⟨g, hg, hB, tb.lt, fun o => tb.live o, fun k hk => ?_⟩
  obtain ⟨us, hu, hr⟩ := h.dv.at_ g hg k hk DevV.zero
  have hu : us = devC (N.devices.getD k DevV.zero) := hu
  subst hu
  exact ⟨_, hr 4 _ rfl⟩
/-- a domain's VNI, and then its row -/
theorem NOwn.nput {w : World} {B : Nat} {F : Nat → Prop} {N : NV} {S : NSl3} (h : NOwn w B F N S) (hF : ∀ b, F b → b < B) (k : Nat) (hk : k < N.domains.length) (g : Nat) (hg : S.dm.A = some ⟨g, 0, none⟩) (v : Int) :
    NOwn (w.setCell ⟨g, k * 6 + 2, none⟩ (.int .i64 v)) B F { N with domains := N.domains.set k { N.domains.getD k DomV.zero with vni := v } } S ∧ ChgT B 54 w (w.setCell ⟨g, k * 6 + 2, none⟩ (.int .i64 v)) ∧ B ≤ g := by
  obtain ⟨h1, hc⟩ := h.dm.put (d := DomV.zero) iso_dom hF k hk 2 (by decide) (.int .i64 v) { N.domains.getD k DomV.zero with vni := v } g hg (fun us hu => by
    obtain ⟨s, rfl, l⟩ := hu
    exact ⟨s, rfl, l⟩)
  obtain ⟨g2, cur, hg2, hB, _⟩ := h.dm.row (by omega)
  have eg : g2 = g := by rw [hg] at hg2; injection hg2 with e; injection e with e _; exact e.symm
  rw [eg] at hB
  exact ⟨h.setDm hc hF h1, hc, hB⟩
theorem NOwn.rput {w : World} {B : Nat} {F : Nat → Prop} {N : NV} {S : NSl3} (h : NOwn w B F N S) (hF : ∀ b, F b → b < B) (k : Nat) (hk : k < N.domains.length) (g : Nat) (hg : S.dm.A = some ⟨g, 0, none⟩) (v : Int) :
    NOwn (w.setCell ⟨g, k * 6 + 4, none⟩ (.int .i64 v)) B F { N with domains := N.domains.set k { N.domains.getD k DomV.zero with row := v } } S ∧ ChgT B 54 w (w.setCell ⟨g, k * 6 + 4, none⟩ (.int .i64 v)) ∧ B ≤ g := by
  obtain ⟨h1, hc⟩ := h.dm.put (d := DomV.zero) iso_dom hF k hk 4 (by decide) (.int .i64 v) { N.domains.getD k DomV.zero with row := v } g hg (fun us hu => by
    obtain ⟨s, rfl, l⟩ := hu
    exact ⟨s, rfl, l⟩)
  obtain ⟨g2, cur, hg2, hB, _⟩ := h.dm.row (by omega)
  have eg : g2 = g := by rw [hg] at hg2; injection hg2 with e; injection e with e _; exact e.symm
  rw [eg] at hB
  exact ⟨h.setDm hc hF h1, hc, hB⟩
theorem set_set {N : NV} {k : Nat} (hk : k < N.domains.length) (v row : Int) : (({ N with domains := N.domains.set k { N.domains.getD k DomV.zero with vni := v } } : NV).domains.set k { ({ N with domains := N.domains.set k { N.domains.getD k DomV.zero with vni := v } } : NV).domains.getD k DomV.zero with row := row }) = N.domains.set k { N.domains.getD k DomV.zero with vni := v, row := row } := by
  show ((N.domains.set k _).set k { (N.domains.set k _).getD k DomV.zero with row := row }) = _
  rw [setD_at hk, List.set_set]
theorem NOwn.ncell {w : World} {B : Nat} {F : Nat → Prop} {N : NV} {S : NSl3} (h : NOwn w B F N S) (hn : 0 < N.domains.length) : ∃ g, S.dm.A = some ⟨g, 0, none⟩ ∧ B ≤ g ∧ g < w.heap.size ∧ (∀ o, w.frozen? ⟨g, o, none⟩ = false) ∧ ∀ k, k < N.domains.length → (∃ v, w.cell? ⟨g, k * 6 + 2, none⟩ = some v) ∧ ∃ v, w.cell? ⟨g, k * 6 + 4, none⟩ = some v := by
  obtain ⟨g, cur, hg, hB, hh⟩ := h.dm.row hn
  have tb : TBx w g 54 cur.toList := by unfold TBx; rw [hh]
  refine ⟨g, hg, hB, tb.lt, fun o => tb.live o, fun k hk => ?_⟩
  obtain ⟨us, ⟨s, rfl, _⟩, hr⟩ := h.dm.at_ g hg k hk DomV.zero
  exact ⟨⟨_, hr 2 _ rfl⟩, ⟨_, hr 4 _ rfl⟩⟩
end Go.Proofs.YtgmflecelnefcaaGreat

/- palingref19.begin, Vtep, Vni, Flood: a VTEP, a VNI, a flood list put into a net. (Made by mk-olref.py.) -/
namespace Go.Proofs.YtgmflecelnefcaaGreat
open Go.RowKit

/-! What begin tells: a device, and what is wrong ahead of it. -/
noncomputable def bgE (N : NV) (L : LV) (k : Int) : Int := if fitsB N L k = false then 2 else if dvF N L.dev < 0 then 31 else 0
noncomputable def bgD (N : NV) (L : LV) (k : Int) : Int := if bgE N L k = 0 then dvF N L.dev else 0
theorem bg_2 {N : NV} {L : LV} {k : Int} (h : fitsB N L k = false) : bgE N L k = 2 ∧ bgD N L k = 0 := by
  have e : bgE N L k = 2 := by unfold bgE; rw [if_pos h]
  exact ⟨e, by unfold bgD; rw [if_neg (by rw [e]; decide)]⟩
theorem bg_31 {N : NV} {L : LV} {k : Int} (h : fitsB N L k = true) (g : dvF N L.dev < 0) : bgE N L k = 31 ∧ bgD N L k = 0 := by
  have e : bgE N L k = 31 := by unfold bgE; rw [if_neg (by rw [h]; decide), if_pos g]
  exact ⟨e, by unfold bgD; rw [if_neg (by rw [e]; decide)]⟩
theorem bg_ok {N : NV} {L : LV} {k : Int} (h : fitsB N L k = true) (g : ¬ dvF N L.dev < 0) : bgE N L k = 0 ∧ bgD N L k = dvF N L.dev := by
  have e : bgE N L k = 0 := by unfold bgE; rw [if_neg (by rw [h]; decide), if_neg g]
  exact ⟨e, by unfold bgD; rw [if_pos e]⟩
theorem bg_0 {N : NV} {L : LV} {k : Int} (h : bgE N L k = 0) : fitsB N L k = true ∧ ¬ dvF N L.dev < 0 ∧ ∃ d : Nat, d < N.devices.length ∧ dvF N L.dev = (d : Int) ∧ bgD N L k = (d : Int) := by
  have h0 := h
  unfold bgE at h
  by_cases f : fitsB N L k = true
  rotate_left
  · rw [if_pos (Bool.eq_false_iff.2 f)] at h; cases h
  rw [if_neg (by rw [f]; decide)] at h
  by_cases c : dvF N L.dev < 0
  · rw [if_pos c] at h; cases h
  obtain ⟨d, hd, e, _⟩ := dv_place (N := N) (s := L.dev) (by omega)
  exact ⟨f, c, d, hd, e, by unfold bgD; rw [if_pos h0]; exact e⟩
theorem bg_vt {N : NV} {L : LV} (h : bgE N L 5 ≠ 0) : vtE N L = bgE N L 5 := by
  unfold vtE bgE at *
  by_cases f : fitsB N L 5 = false
  · rw [if_pos f, if_pos f]
  rw [if_neg f] at h
  rw [if_neg f, if_neg f]
  by_cases c : dvF N L.dev < 0
  · rw [if_pos c, if_pos c]
  · rw [if_neg c] at h; exact absurd rfl h
theorem bg_vn {N : NV} {L : LV} (h : bgE N L 6 ≠ 0) : vnE N L = bgE N L 6 := by
  unfold vnE bgE at *
  by_cases f : fitsB N L 6 = false
  · rw [if_pos f, if_pos f]
  rw [if_neg f] at h
  rw [if_neg f, if_neg f]
  by_cases c : dvF N L.dev < 0
  · rw [if_pos c, if_pos c]
  · rw [if_neg c] at h; exact absurd rfl h
theorem bg_fl {N : NV} {L : LV} (h : bgE N L 7 ≠ 0) : flE N L = bgE N L 7 := by
  unfold flE bgE at *
  by_cases f : fitsB N L 7 = false
  · rw [if_pos f, if_pos f]
  rw [if_neg f] at h
  rw [if_neg f, if_neg f]
  by_cases c : dvF N L.dev < 0
  · rw [if_pos c, if_pos c]
  · rw [if_neg c] at h; exact absurd rfl h
/-! What is told, of a device that is there. -/
theorem vt_go {N : NV} {L : LV} {d : Nat} (f : fitsB N L 5 = true) (e : dvF N L.dev = (d : Int)) : vtE N L = if 0 < (N.devices.getD d DevV.zero).vtep ∨ 0 ≤ owF N L.addr then 30 else 0 := by
  unfold vtE
  rw [if_neg (by rw [f]; decide), e, if_neg (by omega)]
  rfl
theorem vn_go {N : NV} {L : LV} {d : Nat} (f : fitsB N L 6 = true) (e : dvF N L.dev = (d : Int)) : vnE N L = if (N.devices.getD d DevV.zero).vtep = 0 then 35 else if atF N (d : Int) L.vlan < 0 then 32 else if 0 < (N.domains.getD (atF N (d : Int) L.vlan).toNat DomV.zero).vni ∨ 0 ≤ fdF N (d : Int) L.num then 30 else 0 := by
  unfold vnE
  rw [if_neg (by rw [f]; decide), e, if_neg (by omega)]
  rfl
theorem fl_go {N : NV} {L : LV} {d : Nat} (f : fitsB N L 7 = true) (e : dvF N L.dev = (d : Int)) : flE N L = if fdF N (d : Int) L.num < 0 then 31 else if 0 ≤ lsF N (d : Int) L.num then 30 else if memB L.addrs (N.devices.getD d DevV.zero).vtep = true then 36 else if 48 ≤ N.floods.length then 3 else 0 := by
  unfold flE
  rw [if_neg (by rw [f]; decide), e, if_neg (by omega)]
  rfl
end Go.Proofs.YtgmflecelnefcaaGreat

/- Package overlay: device, list, find; slices' loops over flood lists and addresses. (Made by mk-olfind.py.) -/
namespace Go.Proofs.YtgmflecelnefcaaGreat
open Go.RowKit

set_option maxRecDepth 20000 in
set_option maxHeartbeats 2000000 in
theorem idx_flood (f : FuncId) (caps : Array Value) (hcf : Enters Tryz.prog f) (A : Option Addr) (n c : Nat) (xs : List FloodV) (w : World) (h : RSl floodR w (allB w) A n c xs) (g : Nat → Bool)
    (hf : ∀ (k : Nat) (s : Sl3) (w' : World), k < n → Below w.heap.size w w' → RSl (Rdr.int .u32) w (allB w) s.A s.n s.c (xs.getD k FloodV.zero).addrs → Calls Tryz.prog f (#[.agg #[.int .i64 (xs.getD k FloodV.zero).row, .int .i64 (xs.getD k FloodV.zero).dev, .int .i64 (xs.getD k FloodV.zero).vni, .slice s.A s.n s.c]] ++ caps) w' fun e w2 => e = .returned (.bool (g k)) ∧ Below w'.heap.size w' w2)
    (V : Int) (hV : IsFst g n V) : Calls Tryz.prog 146 #[.slice A n c, .func (.func f) #[] caps] w fun e w' => e = .returned (.int .i64 V) ∧ Below w.heap.size w w' := by
  have hle := h.le
  have hcap := h.cap
  have HL := Lib.hid h.len
  have H := Lib.hid h
  have HF := Lib.hid hf
  have HV := Lib.hid hV
  have CF := Lib.hid hcf
  clear h hf hV hcf
  go_enter Tryz.func146, Tryz.ntmps146
  go_wp2
  go_loopw [8] (fun i wr => ∃ k : Nat, i = .int .i64 k ∧ k ≤ n ∧ Below w.heap.size w wr ∧ ∀ j, j < k → g j = false) (fun i _ => match i with | .int _ y => (n - y).toNat | _ => 0)
  case atStart => exact ⟨0, rfl, by omega, Below.refl _ _, fun j hj => absurd hj (by omega)⟩
  case round =>
    obtain ⟨k, rfl, hk, hb, hall⟩ := hrel
    have W := Lib.hid hb
    have AL := Lib.hid hall
    clear hb hall
    by_cases hlt : k < n
    · obtain ⟨b0, o0, vs, rfl, _, hb0, ⟨s, rfl, l1⟩, r0⟩ := rsl_at H.out k hlt FloodV.zero
      have CK := Lib.hid (fun w' hw => HF.out k s w' hlt hw l1)
      have R1 := rangeAt_keep r0 (W.out.block b0 hb0)
      generalize xs.getD k FloodV.zero = X at *
      have d0 := R1 0 _ rfl
      have d1 := R1 1 _ rfl
      have d2 := R1 2 _ rfl
      have d3 := R1 3 _ rfl
      simp only [Nat.add_zero] at d0
      rw [show o0 + k * floodR.n = o0 + k * 4 from rfl] at d0 d1 d2 d3
      have lt2 : (k : Int) < (n : Int) := by omega
      clear r0 R1 l1
      obtain ⟨v, hv⟩ : ∃ v, g k = v := ⟨_, rfl⟩
      rw [hv] at CK
      cases v with
      | false =>
        have AK := Lib.hid (show ∀ j, j < k + 1 → g j = false from fun j hj => by
          rcases Nat.lt_or_ge j k with h' | h'
          · exact AL.out j h'
          · obtain rfl : j = k := by omega
            exact hv)
        clear hv
        go_wp2_with ((rw [CF.out _ _]); (refine (CK.out _ W.out).mono ?_); rintro e w2 ⟨rfl, hb2⟩; have W2 := Lib.hid (trans_below W.out hb2); clear hb2)
        go_roundw
        case rel => exact ⟨k + 1, by simp, by omega, W2.out, AK.out⟩
        case measure => simp only []; omega
      | true =>
        have EV := Lib.hid (HV.out.hit hlt hv AL.out)
        clear hv
        go_wp2_with ((rw [CF.out _ _]); (refine (CK.out _ W.out).mono ?_); rintro e w2 ⟨rfl, hb2⟩; have W2 := Lib.hid (trans_below W.out hb2); clear hb2)
        go_ret
        exact ⟨by rw [EV.out]; rfl, W2.out⟩
    · have EV := Lib.hid (HV.out.no (fun j hj => AL.out j (by omega)))
      have lt2 : ¬ (k : Int) < (n : Int) := by omega
      go_wp2
      go_ret
      exact ⟨by rw [EV.out]; rfl, W.out⟩
set_option maxRecDepth 20000 in
set_option maxHeartbeats 2000000 in
theorem idx_u32 (f : FuncId) (caps : Array Value) (hcf : Enters Tryz.prog f) (A : Option Addr) (n c : Nat) (xs : List Int) (w : World) (h : ISl w .u32 A n c xs) (g : Nat → Bool)
    (hf : ∀ (k : Nat) w', k < n → Below w.heap.size w w' → Calls Tryz.prog f (#[.int .u32 (xs.getD k 0)] ++ caps) w' fun e w2 => e = .returned (.bool (g k)) ∧ Below w'.heap.size w' w2)
    (V : Int) (hV : IsFst g n V) : Calls Tryz.prog 181 #[.slice A n c, .func (.func f) #[] caps] w fun e w' => e = .returned (.int .i64 V) ∧ Below w.heap.size w w' := by
  have hle := h.le
  have hcap := h.cap
  have H := Lib.hid h
  have HF := Lib.hid hf
  have HV := Lib.hid hV
  have CF := Lib.hid hcf
  clear h hf hV hcf
  go_enter Tryz.func181, Tryz.ntmps181
  go_wp2
  go_loopw [8] (fun i wr => ∃ k : Nat, i = .int .i64 k ∧ k ≤ n ∧ Below w.heap.size w wr ∧ ∀ j, j < k → g j = false) (fun i _ => match i with | .int _ y => (n - y).toNat | _ => 0)
  case atStart => exact ⟨0, rfl, by omega, Below.refl _ _, fun j hj => absurd hj (by omega)⟩
  case round =>
    obtain ⟨k, rfl, hk, hb, hall⟩ := hrel
    have W := Lib.hid hb
    have AL := Lib.hid hall
    clear hb hall
    by_cases hlt : k < n
    · obtain ⟨b0, o0, rfl, hb0, hc0⟩ := H.out.2.2.2 (by omega)
      have CK := Lib.hid (fun w' hw => HF.out k w' hlt hw)
      have d0 := (W.out.cell (p := ⟨b0, o0 + k, none⟩) hb0).trans (hc0 k hlt)
      generalize xs.getD k 0 = X at *
      have lt2 : (k : Int) < (n : Int) := by omega
      clear hc0
      obtain ⟨v, hv⟩ : ∃ v, g k = v := ⟨_, rfl⟩
      rw [hv] at CK
      cases v with
      | false =>
        have AK := Lib.hid (show ∀ j, j < k + 1 → g j = false from fun j hj => by
          rcases Nat.lt_or_ge j k with h' | h'
          · exact AL.out j h'
          · obtain rfl : j = k := by omega
            exact hv)
        clear hv
        go_wp2_with ((rw [CF.out _ _]); (refine (CK.out _ W.out).mono ?_); rintro e w2 ⟨rfl, hb2⟩; have W2 := Lib.hid (trans_below W.out hb2); clear hb2)
        go_roundw
        case rel => exact ⟨k + 1, by simp, by omega, W2.out, AK.out⟩
        case measure => simp only []; omega
      | true =>
        have EV := Lib.hid (HV.out.hit hlt hv AL.out)
        clear hv
        go_wp2_with ((rw [CF.out _ _]); (refine (CK.out _ W.out).mono ?_); rintro e w2 ⟨rfl, hb2⟩; have W2 := Lib.hid (trans_below W.out hb2); clear hb2)
        go_ret
        exact ⟨by rw [EV.out]; rfl, W2.out⟩
    · have EV := Lib.hid (HV.out.no (fun j hj => AL.out j (by omega)))
      have lt2 : ¬ (k : Int) < (n : Int) := by omega
      go_wp2
      go_ret
      exact ⟨by rw [EV.out]; rfl, W.out⟩
set_option maxRecDepth 20000 in
set_option maxHeartbeats 1000000 in
theorem index_u32 (A : Option Addr) (n c : Nat) (xs : List Int) (x : Int) (w : World) (h : ISl w .u32 A n c xs) : Calls Tryz.prog 148 #[.slice A n c, .int .u32 x] w fun e w' => (∃ V : Int, e = .returned (.int .i64 V) ∧ decide (0 ≤ V) = memB xs x) ∧ Below w.heap.size w w' := by
  have hle := h.le
  have hcap := h.cap
  have HL := Lib.hid h.len
  have H := Lib.hid h
  have E1 := Lib.hid (show x ∈ xs → memB xs x = true from fun hx => decide_eq_true hx)
  have E0 := Lib.hid (show x ∉ xs → memB xs x = false from fun hx => decide_eq_false hx)
  generalize memB xs x = V at *
  clear h
  go_enter Tryz.func148, Tryz.ntmps148
  go_wp2
  go_loopw [8] (fun i wr => ∃ k : Nat, i = .int .i64 k ∧ k ≤ n ∧ Below w.heap.size w wr ∧ x ∉ xs.take k) (fun i _ => match i with | .int _ y => (n - y).toNat | _ => 0)
  case atStart => exact ⟨0, rfl, by omega, Below.refl _ _, by simp⟩
  case round =>
    obtain ⟨k, rfl, hk, hb, hx⟩ := hrel
    have HX := Lib.hid hx
    have W := Lib.hid hb
    clear hx hb
    by_cases hlt : k < n
    · obtain ⟨b, off, rfl, hb, hc⟩ := H.out.2.2.2 (by omega)
      have c0 := (W.out.cell (p := ⟨b, off + k, none⟩) hb).trans (hc k hlt)
      have hk2 : k < xs.length := by rw [HL.out]; exact hlt
      have NX := Lib.hid (fun hy => memB_take hk2 HX.out hy)
      have YX := Lib.hid (show xs.getD k 0 = x → x ∈ xs from fun e => by rw [← e]; simp [List.getD, hk2])
      generalize xs.getD k 0 = y at *
      have lt2 : (k : Int) < (n : Int) := by omega
      clear hc hk2
      by_cases hy : y = x
      · have EV := Lib.hid (E1.out (YX.out hy))
        have ey : (y == x) = true := by simpa using hy
        have ey2 : (x == y) = true := by simpa using hy.symm
        clear hy
        go_wp2
        go_ret
        exact ⟨⟨_, rfl, by rw [EV.out]; exact decide_eq_true (by omega)⟩, by first | exact W.out | exact W.out.alloc (Nat.le_refl _) _⟩
      · have ey : (y == x) = false := by simpa using hy
        have ey2 : (x == y) = false := by simpa using (fun e => hy e.symm)
        have N2 := Lib.hid (NX.out hy)
        clear hy
        go_wp2
        go_roundw
        case rel => exact ⟨k + 1, by simp, by omega, W.out, N2.out⟩
        case measure => simp only []; omega
    · have EV := Lib.hid (E0.out (by have := HX.out; rwa [List.take_of_length_le (by rw [HL.out]; omega)] at this))
      have lt2 : ¬ (k : Int) < (n : Int) := by omega
      go_wp2
      go_ret
      exact ⟨⟨_, rfl, by rw [EV.out]; rfl⟩, W.out⟩
theorem cont_u32 (A : Option Addr) (n c : Nat) (xs : List Int) (x : Int) (w : World) (h : ISl w .u32 A n c xs) : Calls Tryz.prog 93 #[.slice A n c, .int .u32 x] w fun e w' => e = .returned (.bool (memB xs x)) ∧ Below w.heap.size w w' := by
  have IX := Lib.hid (index_u32 A n c xs x w h)
  generalize memB xs x = V at *
  clear h
  go_enter Tryz.func93, Tryz.ntmps93
  go_wp2_with (go_at_call 148; (with_reducible refine IX.out.mono ?_); rintro e wi ⟨⟨Z, rfl, hz⟩, hb⟩; have X2 := Lib.hid hb; have EZ := Lib.hid hz; clear hb hz)
  go_ret
  exact ⟨by rw [← EZ.out]; rfl, X2.out⟩
theorem contf_u32 (A : Option Addr) (n c : Nat) (g : Value) (V : Int) (w : World)
    (IX : Calls Tryz.prog 181 #[.slice A n c, g] w fun e w2 => e = .returned (.int .i64 V) ∧ Below w.heap.size w w2) :
    Calls Tryz.prog 150 #[.slice A n c, g] w fun e w' => e = .returned (.bool (decide (0 ≤ V))) ∧ Below w.heap.size w w' := by
  have IX := Lib.hid IX
  go_enter Tryz.func150, Tryz.ntmps150
  go_wp2_with (go_at_call 181; (with_reducible refine IX.out.mono ?_); rintro e wi ⟨rfl, hb⟩; have X2 := Lib.hid hb; clear hb)
  go_ret
  exact ⟨rfl, X2.out⟩
/-- the first device of an address: of the address 0 there is none -/
def odF (N : NV) (a : Int) : Int := if a = 0 then -1 else owF N a
theorem odF_fst (N : NV) (a : Int) (n : Nat) (hn : N.devices.length = n) : IsFst (fun k => decide (a ≠ 0 ∧ (N.devices.getD k DevV.zero).vtep = a)) n (odF N a) := by
  by_cases h0 : a = 0
  · exact .inr ⟨if_pos h0, fun j _ => decide_eq_false (fun g => g.1 h0)⟩
  · unfold odF
    rw [if_neg h0]
    rcases owK_fst a N.devices 0 with ⟨j, h1, h2, h3, h4⟩ | ⟨h1, h2⟩
    · exact .inl ⟨j, by omega, by unfold owF; rw [h2]; congr 1; omega, decide_eq_true ⟨h0, h3⟩, fun i hi => decide_eq_false (fun g => h4 i hi g.2)⟩
    · exact .inr ⟨h1, fun i hi => decide_eq_false (fun g => h2 i (by omega) g.2)⟩
theorem lsF_fst (N : NV) (dev v : Int) (n : Nat) (hn : N.floods.length = n) : IsFst (fun k => decide ((N.floods.getD k FloodV.zero).dev = dev ∧ (N.floods.getD k FloodV.zero).vni = v)) n (lsF N dev v) := by
  rcases lsK_fst dev v N.floods 0 with ⟨j, h1, h2, h3, h4⟩ | ⟨h1, h2⟩
  · exact .inl ⟨j, by omega, by unfold lsF; rw [h2]; congr 1; omega, decide_eq_true h3, fun i hi => decide_eq_false (h4 i hi)⟩
  · exact .inr ⟨h1, fun i hi => decide_eq_false (h2 i (by omega))⟩
theorem fdF_fst (N : NV) (dev v : Int) (n : Nat) (hn : N.domains.length = n) : IsFst (fun k => decide (v ≠ 0 ∧ (N.domains.getD k DomV.zero).dev = dev ∧ (N.domains.getD k DomV.zero).vni = v)) n (fdF N dev v) := by
  rcases fdK_fst dev v N.domains 0 with ⟨j, h1, h2, h3, h4⟩ | ⟨h1, h2⟩
  · exact .inl ⟨j, by omega, by unfold fdF; rw [h2]; congr 1; omega, decide_eq_true ⟨h3.2.2, h3.1, h3.2.1⟩, fun i hi => decide_eq_false (fun g => h4 i hi ⟨g.2.1, g.2.2, g.1⟩)⟩
  · exact .inr ⟨h1, fun i hi => decide_eq_false (fun g => h2 i (by omega) ⟨g.2.1, g.2.2, g.1⟩)⟩
set_option maxRecDepth 20000 in
theorem odev1 (X : DevV) (a : Int) (q0 : Nat) (w : World) (c0 : w.cell? ⟨q0, 0, none⟩ = some (.int .u32 a)) : Calls Tryz.prog 144 #[.agg #[.int .i64 X.row, .int .i64 X.prio, .string (str X.name), .int .u64 X.mac, .int .u32 X.vtep], .pointer (some ⟨q0, 0, none⟩)] w fun e w' => e = .returned (.bool (decide (a ≠ 0 ∧ X.vtep = a))) ∧ Below w.heap.size w w' := by
  have ql0 : q0 < w.heap.size := World.block_lt_of_cell? w _ c0
  by_cases t0 : a ≠ 0
  rotate_left
  · have z0 : (a != 0) = false := by simpa using t0
    rw [decide_eq_false (fun g : a ≠ 0 ∧ X.vtep = a => t0 g.1)]
    clear t0
    go_enter Tryz.func144, Tryz.ntmps144
    go_wp2
    go_ret
    exact ⟨rfl, alloc_below _ _⟩
  have z0 : (a != 0) = true := by simpa using t0
  obtain ⟨vb, hv⟩ : ∃ vb, (X.vtep == a) = vb := ⟨_, rfl⟩
  rw [show decide (a ≠ 0 ∧ X.vtep = a) = vb by rw [← hv]; by_cases g : X.vtep = a <;> simp [g, t0]]
  clear t0
  go_enter Tryz.func144, Tryz.ntmps144
  go_wp2
  go_ret
  exact ⟨by first | rfl | simp [hv], alloc_below _ _⟩
theorem enters_odev1 : Enters Tryz.prog 144 := enters_of Tryz.func144 (by kernel_rfl) rfl
set_option maxRecDepth 20000 in
theorem olst1 (X : FloodV) (s : Sl3) (dev : Int) (v : Int) (q0 q1 : Nat) (w : World) (c0 : w.cell? ⟨q0, 0, none⟩ = some (.int .i64 dev)) (c1 : w.cell? ⟨q1, 0, none⟩ = some (.int .i64 v)) : Calls Tryz.prog 147 #[.agg #[.int .i64 X.row, .int .i64 X.dev, .int .i64 X.vni, .slice s.A s.n s.c], .pointer (some ⟨q0, 0, none⟩), .pointer (some ⟨q1, 0, none⟩)] w fun e w' => e = .returned (.bool (decide (X.dev = dev ∧ X.vni = v))) ∧ Below w.heap.size w w' := by
  have ql0 : q0 < w.heap.size := World.block_lt_of_cell? w _ c0
  have ql1 : q1 < w.heap.size := World.block_lt_of_cell? w _ c1
  by_cases t0 : X.dev = dev
  rotate_left
  · have z0 : (X.dev == dev) = false := by simpa using t0
    rw [decide_eq_false (fun g : X.dev = dev ∧ X.vni = v => t0 g.1)]
    clear t0
    go_enter Tryz.func147, Tryz.ntmps147
    go_wp2
    go_ret
    exact ⟨rfl, alloc_below _ _⟩
  have z0 : (X.dev == dev) = true := by simpa using t0
  obtain ⟨vb, hv⟩ : ∃ vb, (X.vni == v) = vb := ⟨_, rfl⟩
  rw [show decide (X.dev = dev ∧ X.vni = v) = vb by rw [← hv]; by_cases g : X.vni = v <;> simp [g, t0]]
  clear t0
  go_enter Tryz.func147, Tryz.ntmps147
  go_wp2
  go_ret
  exact ⟨by first | rfl | simp [hv], alloc_below _ _⟩
theorem enters_olst1 : Enters Tryz.prog 147 := enters_of Tryz.func147 (by kernel_rfl) rfl
set_option maxRecDepth 20000 in
theorem ofnd1 (X : DomV) (s : Sl3) (v : Int) (dev : Int) (q0 q1 : Nat) (w : World) (c0 : w.cell? ⟨q0, 0, none⟩ = some (.int .i64 v)) (c1 : w.cell? ⟨q1, 0, none⟩ = some (.int .i64 dev)) : Calls Tryz.prog 114 #[.agg #[.int .i64 X.dev, .int .i64 X.vlan, .int .i64 X.vni, .int .i64 X.irb, .int .i64 X.row, .slice s.A s.n s.c], .pointer (some ⟨q0, 0, none⟩), .pointer (some ⟨q1, 0, none⟩)] w fun e w' => e = .returned (.bool (decide (v ≠ 0 ∧ X.dev = dev ∧ X.vni = v))) ∧ Below w.heap.size w w' := by
  have ql0 : q0 < w.heap.size := World.block_lt_of_cell? w _ c0
  have ql1 : q1 < w.heap.size := World.block_lt_of_cell? w _ c1
  by_cases t0 : v ≠ 0
  rotate_left
  · have z0 : (v != 0) = false := by simpa using t0
    rw [decide_eq_false (fun g : v ≠ 0 ∧ X.dev = dev ∧ X.vni = v => t0 g.1)]
    clear t0
    go_enter Tryz.func114, Tryz.ntmps114
    go_wp2
    go_ret
    exact ⟨rfl, alloc_below _ _⟩
  have z0 : (v != 0) = true := by simpa using t0
  by_cases t1 : X.dev = dev
  rotate_left
  · have z1 : (X.dev == dev) = false := by simpa using t1
    rw [decide_eq_false (fun g : v ≠ 0 ∧ X.dev = dev ∧ X.vni = v => t1 g.2.1)]
    clear t0 t1
    go_enter Tryz.func114, Tryz.ntmps114
    go_wp2
    go_ret
    exact ⟨rfl, alloc_below _ _⟩
  have z1 : (X.dev == dev) = true := by simpa using t1
  obtain ⟨vb, hv⟩ : ∃ vb, (X.vni == v) = vb := ⟨_, rfl⟩
  rw [show decide (v ≠ 0 ∧ X.dev = dev ∧ X.vni = v) = vb by rw [← hv]; by_cases g : X.vni = v <;> simp [g, t0, t1]]
  clear t0 t1
  go_enter Tryz.func114, Tryz.ntmps114
  go_wp2
  go_ret
  exact ⟨by first | rfl | simp [hv], alloc_below _ _⟩
theorem enters_ofnd1 : Enters Tryz.prog 114 := enters_of Tryz.func114 (by kernel_rfl) rfl
set_option maxRecDepth 20000 in
theorem xodev_any (N : NV) (S : NSl3) (a : Int) (w : World) (h : NRead w (allB w) N S) : Calls Tryz.prog 89 #[netV S, .int .u32 a] w fun e w' => e = .returned (.int .i64 (odF N a)) ∧ Below w.heap.size w w' := by
  obtain ⟨W, hW⟩ : ∃ W, (w.alloc (.cells (nA S) 31)).alloc (.cells #[.int .u32 a] 33) = W := ⟨_, rfl⟩
  have NC := net_cs S _ _ [.int .u32 a] hW
  have B0 : Below w.heap.size w W := NC.2.2
  have FS : Calls Tryz.prog 135 #[.slice S.dv.A S.dv.n S.dv.c, .func (.func 144) #[] #[.pointer (some ⟨w.heap.size + 1, 0, none⟩)]] W fun e w' => e = .returned (.int .i64 (odF N a)) ∧ Below W.heap.size W w' :=
    idx_dev 144 #[.pointer (some ⟨w.heap.size + 1, 0, none⟩)] enters_odev1 S.dv.A S.dv.n S.dv.c N.devices W (up_rsl h.dv B0) _ (fun k w2 hk hb2 => by
      rw [app1]
      exact odev1 _ a _ w2 ((NC.2.1.below hb2).1 0 _ rfl)) _ (odF_fst N a S.dv.n h.dv.len)
  generalize odF N a = Z at *
  have BW := Lib.hid B0
  have FS := Lib.hid FS
  subst hW
  unfold netV
  clear h NC B0
  go_enter Tryz.func89, Tryz.ntmps89
  go_wp2_with (go_at_call 135; (with_reducible refine FS.out.mono ?_); rintro e wi ⟨rfl, hb⟩; have X2 := Lib.hid (trans_below BW.out hb); clear hb)
  go_ret
  exact ⟨rfl, X2.out⟩
set_option maxRecDepth 20000 in
theorem xolst_any (N : NV) (S : NSl3) (dev v : Int) (w : World) (h : NRead w (allB w) N S) : Calls Tryz.prog 92 #[netV S, .int .i64 dev, .int .i64 v] w fun e w' => e = .returned (.int .i64 (lsF N dev v)) ∧ Below w.heap.size w w' := by
  obtain ⟨W, hW⟩ : ∃ W, ((w.alloc (.cells (nA S) 31)).alloc (.cells #[.int .i64 dev] 3)).alloc (.cells #[.int .i64 v] 3) = W := ⟨_, rfl⟩
  have NC := net_cs3 S _ _ _ [.int .i64 dev] [.int .i64 v] hW
  have B0 : Below w.heap.size w W := NC.2.2.2
  have FS : Calls Tryz.prog 146 #[.slice S.fl.A S.fl.n S.fl.c, .func (.func 147) #[] #[.pointer (some ⟨w.heap.size + 1, 0, none⟩), .pointer (some ⟨w.heap.size + 2, 0, none⟩)]] W fun e w' => e = .returned (.int .i64 (lsF N dev v)) ∧ Below W.heap.size W w' :=
    idx_flood 147 #[.pointer (some ⟨w.heap.size + 1, 0, none⟩), .pointer (some ⟨w.heap.size + 2, 0, none⟩)] enters_olst1 S.fl.A S.fl.n S.fl.c N.floods W (up_rsl h.fl B0) _ (fun k s w2 hk hb2 _ => by
      rw [app12]
      exact olst1 _ s dev v _ _ w2 ((NC.2.1.below hb2).1 0 _ rfl) ((NC.2.2.1.below hb2).1 0 _ rfl)) _ (lsF_fst N dev v S.fl.n h.fl.len)
  generalize lsF N dev v = Z at *
  have BW := Lib.hid B0
  have FS := Lib.hid FS
  subst hW
  unfold netV
  clear h NC B0
  go_enter Tryz.func92, Tryz.ntmps92
  go_wp2_with (go_at_call 146; (with_reducible refine FS.out.mono ?_); rintro e wi ⟨rfl, hb⟩; have X2 := Lib.hid (trans_below BW.out hb); clear hb)
  go_ret
  exact ⟨rfl, X2.out⟩
set_option maxRecDepth 20000 in
theorem xofnd_any (N : NV) (S : NSl3) (dev v : Int) (w : World) (h : NRead w (allB w) N S) : Calls Tryz.prog 49 #[netV S, .int .i64 dev, .int .i64 v] w fun e w' => e = .returned (.int .i64 (fdF N dev v)) ∧ Below w.heap.size w w' := by
  obtain ⟨W, hW⟩ : ∃ W, ((w.alloc (.cells (nA S) 31)).alloc (.cells #[.int .i64 dev] 3)).alloc (.cells #[.int .i64 v] 3) = W := ⟨_, rfl⟩
  have NC := net_cs3 S _ _ _ [.int .i64 dev] [.int .i64 v] hW
  have B0 : Below w.heap.size w W := NC.2.2.2
  have FS : Calls Tryz.prog 113 #[.slice S.dm.A S.dm.n S.dm.c, .func (.func 114) #[] #[.pointer (some ⟨w.heap.size + 2, 0, none⟩), .pointer (some ⟨w.heap.size + 1, 0, none⟩)]] W fun e w' => e = .returned (.int .i64 (fdF N dev v)) ∧ Below W.heap.size W w' :=
    idx_dom 114 #[.pointer (some ⟨w.heap.size + 2, 0, none⟩), .pointer (some ⟨w.heap.size + 1, 0, none⟩)] enters_ofnd1 S.dm.A S.dm.n S.dm.c N.domains W (up_rsl h.dm B0) _ (fun k s w2 hk hb2 _ => by
      rw [app12]
      exact ofnd1 _ s v dev _ _ w2 ((NC.2.2.1.below hb2).1 0 _ rfl) ((NC.2.1.below hb2).1 0 _ rfl)) _ (fdF_fst N dev v S.dm.n h.dm.len)
  generalize fdF N dev v = Z at *
  have BW := Lib.hid B0
  have FS := Lib.hid FS
  subst hW
  unfold netV
  clear h NC B0
  go_enter Tryz.func49, Tryz.ntmps49
  go_wp2_with (go_at_call 113; (with_reducible refine FS.out.mono ?_); rintro e wi ⟨rfl, hb⟩; have X2 := Lib.hid (trans_below BW.out hb); clear hb)
  go_ret
  exact ⟨rfl, X2.out⟩
end Go.Proofs.YtgmflecelnefcaaGreat

