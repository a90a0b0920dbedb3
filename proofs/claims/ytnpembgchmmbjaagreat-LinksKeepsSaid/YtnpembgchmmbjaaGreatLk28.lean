/- XNoRefDev; XNpPut; XLaPut -/
import Derived.Test.YtnpembgchmmbjaaGreatLk19
import Derived.Test.YtnpembgchmmbjaaGreatLk26
import Derived.Test.YtnpembgchmmbjaaGreatLk24
import Derived.Test.YtnpembgchmmbjaaGreatLk10
import Derived.Test.YtnpembgchmmbjaaGreatLk27
import Derived.Test.YtnpembgchmmbjaaGreatLk06
import Derived.Test.YtnpembgchmmbjaaGreatLk12
import Derived.Test.YtnpembgchmmbjaaGreatLk03
import Derived.Test.YtnpembgchmmbjaaGreatLk17
import Derived.Test.YtnpembgchmmbjaaGreatLk01
import Derived.Test.YtnpembgchmmbjaaGreatLk25
import Derived.Deep.CutBlock
import Derived.Deep.DeepCutAuto
import Derived.Lib.SlKept
import Derived.Lib.SliceRun
import Derived.Shelf.RegionOpenPlain
/- The contract of palingref16.Device: a net with a line's device. (Made by mk-norefdev.py.) -/
namespace Go.Proofs.YtnpembgchmmbjaaGreat
open Go.RowKit

/-- a net beside a number, as a call returns it -/
def GotPut (N : NV) (E : Int) (w : World) (e : Ending) (w' : World) : Prop := ∃ U, e = .returned (.tuple #[netV U, .int .i64 E]) ∧ NRead w' (allB w') N U ∧ Below w.heap.size w w'
theorem NOwn.far {w w' : World} {B q : Nat} {F : Nat → Prop} {N : NV} {S : NSl3} (h : NOwn w B F N S) (hs : w.heap.size ≤ w'.heap.size) (hc : ∀ b, b ≠ q → w'.heap[b]? = w.heap[b]?) (hq : q < B) (hF : ¬ F q) : NOwn w' B F N S := by
  have key : ∀ {α : Type} {R : Rdr α} {T : TypeId} {s : Sl3} {xs : List α}, RI R w B F T s xs → RI R w' B F T s xs := fun g =>
    g.keep hs (fun b cur hB _ => hc b (by omega)) (fun b hb => hc b (fun e => by
      subst e
      rcases hb.2 with g | g
      · exact hF g
      · have := g.1; omega))
  exact ⟨key h.dv, key h.pt, key h.lk, key h.dm, key h.st, key h.fl, key h.vr, key h.ir⟩
end Go.Proofs.YtnpembgchmmbjaaGreat

/- Package ports: put, Device, Port. (Made by mk-npput.py.) -/
namespace Go.Proofs.YtnpembgchmmbjaaGreat
open Go.RowKit

/-! The two puts' figures, beside the document's. -/
def GotCo (N : NV) (w : World) (e : Ending) (w' : World) : Prop := ∃ S, e = .returned (netV S) ∧ NOwn w' w.heap.size (fun _ => False) N S ∧ Below w.heap.size w w'
theorem xncopy_co (N : NV) (S : NSl3) (w : World) (h : NRead w (allB w) N S) (hs : NvSz N) (hm : NmSz N) : Calls Tryz.prog 23 #[netV S] w (GotCo N w) := (xncopy_own N S w h hs hm).mono fun _ _ g => g.own
end Go.Proofs.YtnpembgchmmbjaaGreat

/- A port's link stored into a net of the call's own. -/
namespace Go.Proofs.YtnpembgchmmbjaaGreat
open Go.RowKit

/-- a port's link stored into a net of the call's own -/
theorem NOwn.lput {w : World} {B : Nat} {F : Nat → Prop} {N : NV} {S : NSl3} (h : NOwn w B F N S) (hF : ∀ b, F b → b < B) (k : Nat) (hk : k < N.ports.length) (g : Nat) (hg : S.pt.A = some ⟨g, 0, none⟩) (v : Int) :
    NOwn (w.setCell ⟨g, k * 7 + 4, none⟩ (.int .i64 v)) B F { N with ports := setL N.ports k v } S ∧ ChgT B 52 w (w.setCell ⟨g, k * 7 + 4, none⟩ (.int .i64 v)) ∧ B ≤ g := by
  obtain ⟨h1, hc⟩ := h.pt.put (d := PortV.zero) iso_port hF k hk 4 (by decide) (.int .i64 v) { N.ports.getD k PortV.zero with link := v } g hg (fun us hu => by
    obtain ⟨s, rfl, l⟩ := hu
    exact ⟨s, rfl, l⟩)
  obtain ⟨g2, cur, hg2, hB, _⟩ := h.pt.row (by omega)
  have eg : g2 = g := by rw [hg] at hg2; injection hg2 with e; injection e with e _; exact e.symm
  rw [eg] at hB
  exact ⟨h.setPt hc hF h1, hc, hB⟩
/-- where a port's cells lie, in a net of the call's own -/
theorem NOwn.lcell {w : World} {B : Nat} {F : Nat → Prop} {N : NV} {S : NSl3} (h : NOwn w B F N S) (hn : 0 < N.ports.length) : ∃ g, S.pt.A = some ⟨g, 0, none⟩ ∧ B ≤ g ∧ g < w.heap.size ∧ (∀ o, w.frozen? ⟨g, o, none⟩ = false) ∧ ∀ k, k < N.ports.length → ∃ v, w.cell? ⟨g, k * 7 + 4, none⟩ = some v := by
  obtain ⟨g, cur, hg, hB, hh⟩ := h.pt.row hn
  have tb : TBx w g 52 cur.toList := by unfold TBx; rw [hh]
  refine ⟨g, hg, hB, tb.lt, fun o => tb.live o, fun k hk => ?_⟩
  obtain ⟨us, ⟨s, rfl, _⟩, hr⟩ := h.pt.at_ g hg k hk PortV.zero
  exact ⟨_, hr 4 _ rfl⟩
/-- what links.Add holds while it writes: the net's box, the line's, the result's and the sides', and the net's own rows -/
structure LA (w : World) (q B : Nat) (lc : List Value) (a b : Int) (N : NV) (U : NSl3) (wx : World) : Prop where
  own : NOwn wx B (fun _ => False) N U
  box : TBx wx w.heap.size 31 (netC U)
  line : TBx wx (w.heap.size + 1) 37 lc
  res : TBx wx (w.heap.size + 2) 31 (netC NSl3.nil)
  sd : TBx wx q 67 [.int .i64 a, .int .i64 b]
  bel : Below w.heap.size w wx
  lo : w.heap.size + 2 < q ∧ q < B ∧ B ≤ wx.heap.size
theorem LA.lput {w wx : World} {q B : Nat} {lc : List Value} {a b : Int} {N : NV} {U : NSl3} (h : LA w q B lc a b N U wx) (k : Nat) (hk : k < N.ports.length) (g : Nat) (hg : U.pt.A = some ⟨g, 0, none⟩) (v : Int) : LA w q B lc a b { N with ports := setL N.ports k v } U (wx.setCell ⟨g, k * 7 + 4, none⟩ (.int .i64 v)) := by
  obtain ⟨h1, h2, h3⟩ := h.own.lput (fun b hb => hb.elim) k hk g hg v
  have := h.lo
  exact ⟨h1, h.box.chg h2 (by decide), h.line.chg h2 (by decide), h.res.chg h2 (by decide), h.sd.chg h2 (by decide), h.bel.setCell (show w.heap.size ≤ g by omega) _, by simpa using this⟩
theorem LA.grow {w wx w' : World} {q B : Nat} {lc : List Value} {a b : Int} {N : NV} {U : NSl3} {u : Sl3} {xs : List LinkV} (h : LA w q B lc a b N U wx) (hr : RI linkR w' B (fun _ => False) 58 u xs) (hc : ChgT B 58 wx w') (hb : Below B wx w') : LA w q B lc a b { N with links := xs } { U with lk := u } (w'.setCell ⟨w.heap.size, 2, none⟩ (.slice u.A u.n u.c)) := by
  have l := h.lo
  have o := h.own.setLk hc (fun b hb => hb.elim) hr
  have hs : (w'.setCell ⟨w.heap.size, 2, none⟩ (.slice u.A u.n u.c)).heap.size = w'.heap.size := by simp
  have far : ∀ b, b ≠ w.heap.size → (w'.setCell ⟨w.heap.size, 2, none⟩ (.slice u.A u.n u.c)).heap[b]? = w'.heap[b]? := fun b hn => Below.heap_setCell _ _ _ _ hn
  refine ⟨o.far (q := w.heap.size) (by rw [hs]; exact Nat.le_refl _) far (by omega) (fun f => f.elim), (h.box.chg hc (by decide)).set 2 _, (h.line.chg hc (by decide)).same (far _ (by omega)), (h.res.chg hc (by decide)).same (far _ (by omega)), (h.sd.chg hc (by decide)).same (far _ (by omega)), (h.bel.trans (hb.mono (by omega))).setCell (Nat.le_refl _) _, l.1, l.2.1, by rw [hs]; exact Nat.le_trans l.2.2 hc.1⟩
end Go.Proofs.YtnpembgchmmbjaaGreat

