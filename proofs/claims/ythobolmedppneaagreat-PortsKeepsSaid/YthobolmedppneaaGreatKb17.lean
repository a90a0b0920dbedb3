/- XNtEx; XNnFind; XLnRef; XMacR; XStMath; XStRes; XTxSl -/
import Derived.Test.YthobolmedppneaaGreatKb07
import Derived.Test.YthobolmedppneaaGreatKb15
import Derived.Test.YthobolmedppneaaGreatKb16
import Derived.Test.YthobolmedppneaaGreatKb01
import Derived.Test.YthobolmedppneaaGreatKb05
import Derived.Test.YthobolmedppneaaGreatKb04
import Derived.Test.YthobolmedppneaaGreatKb03
import Derived.WalkMore
import Derived.Deep.QuietTactic
import Derived.Laws.AppendOwnNone
import Derived.SliceStrings
import Derived.SizedLaws
import Derived.WalkKit
import Derived.ProofKit
import Derived.Lib.Hide
import Derived.Deep.AppendLies
import Derived.Deep.RegionLaw
import Derived.Deep.RegionHeld3
import Derived.ShutString
import Derived.StillTailTactics
import Derived.BigQuiet
import Derived.Lib.Bytealg
import Derived.Deep.DeepFit
import Derived.Test.YthobolmedppneaaGreatRows
import Derived.RegionTactic
import Derived.Great.BuildSlice
/- The example of package names: a net of one device, one port, one domain; what it is like, and how it lies when it is laid out. -/
namespace Go.Proofs.YthobolmedppneaaGreat
open Go.RowKit

/-- the first device of a name, from number k on -/
def dvK : List DevV → List UInt8 → Nat → Int
  | [], _, _ => -1
  | d :: r, s, k => if d.name = s then (k : Int) else dvK r s (k + 1)
def dvF (N : NV) (s : List UInt8) : Int := dvK N.devices s 0
/-- the first port of a device and a name, from number k on -/
def ptK : List PortV → Int → List UInt8 → Nat → Int
  | [], _, _, _ => -1
  | d :: r, dev, s, k => if d.dev = dev ∧ d.name = s then (k : Int) else ptK r dev s (k + 1)
def ptF (N : NV) (dev : Int) (s : List UInt8) : Int := ptK N.ports dev s 0
theorem none_ok : NetOk NV.zero := by
  refine ⟨by decide, by decide, by decide, by decide, by decide, by decide, by decide, by decide, ⟨?_, ?_⟩, ?_, ?_, ⟨?_, ?_, ?_, ?_⟩⟩
  all_goals exact fun i hi => absurd hi (Nat.not_lt_zero _)
theorem none_sz : NvSz NV.zero := by
  refine ⟨by decide, by decide, by decide, by decide, by decide, by decide, by decide, by decide, ?_, ?_, ?_, ?_⟩
  all_goals exact fun i hi => absurd hi (Nat.not_lt_zero _)
/-- a row of one -/
theorem rsl_one {α : Type} (R : Rdr α) (w : World) (F : Nat → Prop) (b : Nat) (vs : List Value) (x : α) (hF : F b) (hb : b < w.heap.size) (h : R.rd w F vs x) (hc : w.rangeAt b 0 vs) : RSl R w F (some ⟨b, 0, none⟩) 1 1 [x] := by
  refine ⟨rfl, Nat.le_refl _, by unfold maxLen; omega, (fun h => by cases h), fun _ => ⟨b, 0, rfl, hF, hb, ?_⟩⟩
  intro j y hy
  match j, hy with
  | 0, hy =>
    obtain rfl : x = y := by simpa using hy
    exact ⟨vs, h, by simpa using hc⟩
  | j + 1, hy => simp at hy
theorem none_read (w : World) : NRead w (allB w) NV.zero NSl3.nil := ⟨RSl.nil, RSl.nil, RSl.nil, RSl.nil, RSl.nil, RSl.nil, RSl.nil, RSl.nil⟩
theorem range_list {w : World} {b : Nat} {vs : List Value} {T : TypeId} (h : w.heap[b]? = some (.cells vs.toArray T)) : w.rangeAt b 0 vs := by
  intro i v hv
  rw [Nat.zero_add, World.cell?, h]
  simpa using hv
end Go.Proofs.YthobolmedppneaaGreat

/- Package names: Device, Port, Domain, Member, Members. (Made by mk-nnfind.py.) -/
namespace Go.Proofs.YthobolmedppneaaGreat
open Go.RowKit

theorem dvK_fst (s : List UInt8) : ∀ (xs : List DevV) (k n : Nat), n = xs.length → (∃ j, j < n ∧ dvK xs s k = ((k + j : Nat) : Int) ∧ ((xs.getD j DevV.zero).name = s) ∧ ∀ i, i < j → ¬ ((xs.getD i DevV.zero).name = s)) ∨ (dvK xs s k = -1 ∧ ∀ i, i < n → ¬ ((xs.getD i DevV.zero).name = s))
  | [], k, n, h => .inr ⟨rfl, fun i hi => absurd hi (by simp at h; omega)⟩
  | d :: r, k, n, h => by
    by_cases hd : d.name = s
    · exact .inl ⟨0, by simp at h; omega, by rw [dvK, if_pos hd]; simp, hd, fun i hi => absurd hi (by omega)⟩
    · rcases dvK_fst s r (k + 1) r.length rfl with ⟨j, h1, h2, h3, h4⟩ | ⟨h1, h2⟩
      · refine .inl ⟨j + 1, by simp at h; omega, by rw [dvK, if_neg hd, h2]; congr 1; omega, by simpa using h3, fun i hi => ?_⟩
        match i with
        | 0 => simpa using hd
        | i + 1 => simpa using h4 i (by omega)
      · refine .inr ⟨by rw [dvK, if_neg hd, h1], fun i hi => ?_⟩
        match i with
        | 0 => simpa using hd
        | i + 1 => simpa using h2 i (by simp at h; omega)
theorem dvF_fst (N : NV) (s : List UInt8) (n : Nat) (hn : N.devices.length = n) : IsFst (fun k => decide ((N.devices.getD k DevV.zero).name = s)) n (dvF N s) := by
  rcases dvK_fst s N.devices 0 n hn.symm with ⟨j, h1, h2, h3, h4⟩ | ⟨h1, h2⟩
  · exact .inl ⟨j, h1, by unfold dvF; rw [h2]; congr 1; omega, decide_eq_true h3, fun i hi => decide_eq_false (h4 i hi)⟩
  · exact .inr ⟨h1, fun i hi => decide_eq_false (h2 i hi)⟩
theorem ptK_fst (dev : Int) (s : List UInt8) : ∀ (xs : List PortV) (k n : Nat), n = xs.length → (∃ j, j < n ∧ ptK xs dev s k = ((k + j : Nat) : Int) ∧ ((xs.getD j PortV.zero).dev = dev ∧ (xs.getD j PortV.zero).name = s) ∧ ∀ i, i < j → ¬ ((xs.getD i PortV.zero).dev = dev ∧ (xs.getD i PortV.zero).name = s)) ∨ (ptK xs dev s k = -1 ∧ ∀ i, i < n → ¬ ((xs.getD i PortV.zero).dev = dev ∧ (xs.getD i PortV.zero).name = s))
  | [], k, n, h => .inr ⟨rfl, fun i hi => absurd hi (by simp at h; omega)⟩
  | d :: r, k, n, h => by
    by_cases hd : d.dev = dev ∧ d.name = s
    · exact .inl ⟨0, by simp at h; omega, by rw [ptK, if_pos hd]; simp, hd, fun i hi => absurd hi (by omega)⟩
    · rcases ptK_fst dev s r (k + 1) r.length rfl with ⟨j, h1, h2, h3, h4⟩ | ⟨h1, h2⟩
      · refine .inl ⟨j + 1, by simp at h; omega, by rw [ptK, if_neg hd, h2]; congr 1; omega, by simpa using h3, fun i hi => ?_⟩
        match i with
        | 0 => simpa using hd
        | i + 1 => simpa using h4 i (by omega)
      · refine .inr ⟨by rw [ptK, if_neg hd, h1], fun i hi => ?_⟩
        match i with
        | 0 => simpa using hd
        | i + 1 => simpa using h2 i (by simp at h; omega)
theorem ptF_fst (N : NV) (dev : Int) (s : List UInt8) (n : Nat) (hn : N.ports.length = n) : IsFst (fun k => decide ((N.ports.getD k PortV.zero).dev = dev ∧ (N.ports.getD k PortV.zero).name = s)) n (ptF N dev s) := by
  rcases ptK_fst dev s N.ports 0 n hn.symm with ⟨j, h1, h2, h3, h4⟩ | ⟨h1, h2⟩
  · exact .inl ⟨j, h1, by unfold ptF; rw [h2]; congr 1; omega, decide_eq_true h3, fun i hi => decide_eq_false (h4 i hi)⟩
  · exact .inr ⟨h1, fun i hi => decide_eq_false (h2 i hi)⟩
theorem device1_any (X : DevV) (l : List UInt8) (q : Nat) (w : World) (c1 : w.cell? ⟨q, 0, none⟩ = some (.string (str l))) : Calls Tryz.prog 31 #[.agg #[.int .i64 X.row, .int .i64 X.prio, .string (str X.name), .int .u64 X.mac, .int .u32 X.vtep], .pointer (some ⟨q, 0, none⟩)] w fun e w' => e = .returned (.bool (decide (X.name = l))) ∧ Below w.heap.size w w' := by
  have ql : q < w.heap.size := World.block_lt_of_cell? w _ c1
  obtain ⟨v, hv⟩ : ∃ v, (X.name == l) = v := ⟨_, rfl⟩
  rw [show decide (X.name = l) = v by rw [← hv]; by_cases g : X.name = l <;> simp [g]]
  go_enter Tryz.func31, Tryz.ntmps31
  go_wp2
  go_ret
  exact ⟨by first | rfl | simp [hv], alloc_below _ _⟩
theorem enters_device1 : Enters Tryz.prog 31 := enters_of Tryz.func31 (by kernel_rfl) rfl
theorem port1n_any (X : PortV) (s : Sl3) (dev : Int) (l : List UInt8) (q1 q2 : Nat) (w : World) (c1 : w.cell? ⟨q1, 0, none⟩ = some (.int .i64 dev)) (c2 : w.cell? ⟨q2, 0, none⟩ = some (.string (str l))) : Calls Tryz.prog 67 #[.agg #[.int .i64 X.row, .int .i64 X.dev, .int .i64 X.native, .int .i64 X.cost, .int .i64 X.link, .string (str X.name), .slice s.A s.n s.c], .pointer (some ⟨q1, 0, none⟩), .pointer (some ⟨q2, 0, none⟩)] w fun e w' => e = .returned (.bool (decide (X.dev = dev ∧ X.name = l))) ∧ Below w.heap.size w w' := by
  have ql1 : q1 < w.heap.size := World.block_lt_of_cell? w _ c1
  have ql2 : q2 < w.heap.size := World.block_lt_of_cell? w _ c2
  by_cases t1 : X.dev = dev
  rotate_left
  · have z1 : (X.dev == dev) = false := by simpa using t1
    rw [decide_eq_false (fun g => t1 g.1)]
    clear t1
    go_enter Tryz.func67, Tryz.ntmps67
    go_wp2
    go_ret
    exact ⟨rfl, alloc_below _ _⟩
  have z1 : (X.dev == dev) = true := by simpa using t1
  obtain ⟨v, hv⟩ : ∃ v, (X.name == l) = v := ⟨_, rfl⟩
  rw [show decide (X.dev = dev ∧ X.name = l) = v by rw [← hv]; by_cases g : X.name = l <;> simp [g, t1]]
  clear t1
  go_enter Tryz.func67, Tryz.ntmps67
  go_wp2
  go_ret
  exact ⟨by first | rfl | simp [hv], alloc_below _ _⟩
theorem enters_port1n : Enters Tryz.prog 67 := enters_of Tryz.func67 (by kernel_rfl) rfl
set_option maxRecDepth 20000 in
theorem first_dev (N : NV) (S : NSl3) (A : Option Addr) (n c : Nat) (g : Value) (Z : Int) (w : World) (h : NRead w (allB w) N S) (hs : NvSz N) (hn : NetOk N)
    (IX : ∀ w', Below w.heap.size w w' → Calls Tryz.prog 76 #[.slice A n c, g] w' fun e w2 => e = .returned (.int .i64 Z) ∧ Below w'.heap.size w' w2) :
    Calls Tryz.prog 30 #[netV S, .slice A n c, g] w fun e w' => e = .returned (.int .i64 Z) ∧ Below w.heap.size w w' := by
  have RT := fun (w' : World) (hb : Below w.heap.size w w') => xnright_any N S w' (h.up hb) hs
  rw [netB_yes hn] at RT
  unfold netV at RT ⊢
  have RT := Lib.hid RT
  have IX := Lib.hid IX
  clear h hs hn
  go_enter Tryz.func30, Tryz.ntmps30
  go_wp2_with (first
    | (go_at_call 14; (with_reducible refine (RT.out _ (alloc_below _ _)).mono ?_); rintro e wr ⟨rfl, hb⟩; have Y := Lib.hid hb; have X := Lib.hid (trans_below (alloc_below _ _) hb); clear hb)
    | (go_at_call 76; (with_reducible refine (IX.out _ X.out).mono ?_); rintro e wi ⟨rfl, hb⟩; have X2 := Lib.hid (trans_below X.out hb); clear hb))
  go_ret
  exact ⟨rfl, X2.out⟩
set_option maxRecDepth 20000 in
theorem first_port (N : NV) (S : NSl3) (A : Option Addr) (n c : Nat) (g : Value) (Z : Int) (w : World) (h : NRead w (allB w) N S) (hs : NvSz N) (hn : NetOk N)
    (IX : ∀ w', Below w.heap.size w w' → Calls Tryz.prog 97 #[.slice A n c, g] w' fun e w2 => e = .returned (.int .i64 Z) ∧ Below w'.heap.size w' w2) :
    Calls Tryz.prog 66 #[netV S, .slice A n c, g] w fun e w' => e = .returned (.int .i64 Z) ∧ Below w.heap.size w w' := by
  have RT := fun (w' : World) (hb : Below w.heap.size w w') => xnright_any N S w' (h.up hb) hs
  rw [netB_yes hn] at RT
  unfold netV at RT ⊢
  have RT := Lib.hid RT
  have IX := Lib.hid IX
  clear h hs hn
  go_enter Tryz.func66, Tryz.ntmps66
  go_wp2_with (first
    | (go_at_call 14; (with_reducible refine (RT.out _ (alloc_below _ _)).mono ?_); rintro e wr ⟨rfl, hb⟩; have Y := Lib.hid hb; have X := Lib.hid (trans_below (alloc_below _ _) hb); clear hb)
    | (go_at_call 97; (with_reducible refine (IX.out _ X.out).mono ?_); rintro e wi ⟨rfl, hb⟩; have X2 := Lib.hid (trans_below X.out hb); clear hb))
  go_ret
  exact ⟨rfl, X2.out⟩
set_option maxRecDepth 20000 in
theorem xndomain_any (N : NV) (S : NSl3) (dev v : Int) (w : World) (h : NRead w (allB w) N S) (hs : NvSz N) (hn : NetOk N) : Calls Tryz.prog 17 #[netV S, .int .i64 dev, .int .i64 v] w fun e w' => e = .returned (.int .i64 (atF N dev v)) ∧ Below w.heap.size w w' := by
  have RT := fun (w' : World) (hb : Below w.heap.size w w') => xnright_any N S w' (h.up hb) hs
  have FD := fun (w' : World) (hb : Below w.heap.size w w') => find_any N S dev v w' (h.up hb)
  have KB := Lib.hid (show ∀ W, w.alloc (.cells #[.slice S.dv.A S.dv.n S.dv.c, .slice S.pt.A S.pt.n S.pt.c, .slice S.lk.A S.lk.n S.lk.c, .slice S.dm.A S.dm.n S.dm.c, .slice S.st.A S.st.n S.st.c, .slice S.fl.A S.fl.n S.fl.c, .slice S.vr.A S.vr.n S.vr.c, .slice S.ir.A S.ir.n S.ir.c] 31) = W → ∀ wx, Below W.heap.size W wx → (wx.cell? ⟨w.heap.size, 0, none⟩ = some (.slice S.dv.A S.dv.n S.dv.c) ∧ wx.cell? ⟨w.heap.size, 1, none⟩ = some (.slice S.pt.A S.pt.n S.pt.c) ∧ wx.cell? ⟨w.heap.size, 2, none⟩ = some (.slice S.lk.A S.lk.n S.lk.c) ∧ wx.cell? ⟨w.heap.size, 3, none⟩ = some (.slice S.dm.A S.dm.n S.dm.c) ∧ wx.cell? ⟨w.heap.size, 4, none⟩ = some (.slice S.st.A S.st.n S.st.c) ∧ wx.cell? ⟨w.heap.size, 5, none⟩ = some (.slice S.fl.A S.fl.n S.fl.c) ∧ wx.cell? ⟨w.heap.size, 6, none⟩ = some (.slice S.vr.A S.vr.n S.vr.c) ∧ wx.cell? ⟨w.heap.size, 7, none⟩ = some (.slice S.ir.A S.ir.n S.ir.c)) from fun W hW wx hx => by
    have n := ((net_c1 S _ hW).1.below hx).1
    exact ⟨n 0 _ rfl, n 1 _ rfl, n 2 _ rfl, n 3 _ rfl, n 4 _ rfl, n 5 _ rfl, n 6 _ rfl, n 7 _ rfl⟩)
  rw [netB_yes hn] at RT
  generalize atF N dev v = Z at *
  unfold netV at RT FD ⊢
  have RT := Lib.hid RT
  have FD := Lib.hid FD
  clear h hs hn
  go_enter Tryz.func17, Tryz.ntmps17
  go_wp2_with (first
    | (go_at_call 14; (with_reducible refine (RT.out _ (alloc_below _ _)).mono ?_); rintro e wr ⟨rfl, hb⟩; have Y := Lib.hid hb; have X := Lib.hid (trans_below (alloc_below _ _) hb); obtain ⟨f0, f1, f2, f3, f4, f5, f6, f7⟩ := KB.out _ rfl _ Y.out; clear hb)
    | (go_at_call 68; (with_reducible refine (FD.out _ X.out).mono ?_); rintro e wi ⟨rfl, hb⟩; have X2 := Lib.hid (trans_below X.out hb); clear hb))
  go_ret
  exact ⟨rfl, X2.out⟩
set_option maxRecDepth 20000 in
theorem xndevice_any (N : NV) (S : NSl3) (l : List UInt8) (w : World) (h : NRead w (allB w) N S) (hs : NvSz N) (hn : NetOk N) (_hl : l.length ≤ 9223372036854775807) : Calls Tryz.prog 13 #[netV S, .string (str l)] w fun e w' => e = .returned (.int .i64 (dvF N l)) ∧ Below w.heap.size w w' := by
  obtain ⟨W, hW⟩ : ∃ W, (w.alloc (.cells #[.slice S.dv.A S.dv.n S.dv.c, .slice S.pt.A S.pt.n S.pt.c, .slice S.lk.A S.lk.n S.lk.c, .slice S.dm.A S.dm.n S.dm.c, .slice S.st.A S.st.n S.st.c, .slice S.fl.A S.fl.n S.fl.c, .slice S.vr.A S.vr.n S.vr.c, .slice S.ir.A S.ir.n S.ir.c] 31)).alloc (.cells #[.string (str l)] 9) = W := ⟨_, rfl⟩
  have NC := net_cs S _ _ [.string (str l)] hW
  have FS := first_dev N S S.dv.A S.dv.n S.dv.c (.func (.func 31) #[] #[.pointer (some ⟨w.heap.size + 1, 0, none⟩)]) (dvF N l) W (h.up NC.2.2) hs hn (fun w' hb =>
    idx_dev 31 #[.pointer (some ⟨w.heap.size + 1, 0, none⟩)] enters_device1 S.dv.A S.dv.n S.dv.c N.devices w' (up_rsl (up_rsl h.dv NC.2.2) hb) _ (fun k w2 hk hb2 => by
      rw [app1]
      exact device1_any _ l _ w2 (((NC.2.1.below hb).below hb2).1 0 _ rfl)) _ (dvF_fst N l S.dv.n h.dv.len))
  generalize dvF N l = Z at *
  have B0 := Lib.hid NC.2.2
  subst hW
  unfold netV at FS ⊢
  have FS := Lib.hid FS
  clear h hs hn NC
  go_enter Tryz.func13, Tryz.ntmps13
  go_wp2_with (go_at_call 30; (with_reducible refine FS.out.mono ?_); rintro e wi ⟨rfl, hb⟩; have X2 := Lib.hid (trans_below B0.out hb); clear hb)
  go_ret
  exact ⟨rfl, X2.out⟩
set_option maxRecDepth 20000 in
theorem xnport_any (N : NV) (S : NSl3) (dev : Int) (l : List UInt8) (w : World) (h : NRead w (allB w) N S) (hs : NvSz N) (hn : NetOk N) (_hl : l.length ≤ 9223372036854775807) : Calls Tryz.prog 16 #[netV S, .int .i64 dev, .string (str l)] w fun e w' => e = .returned (.int .i64 (ptF N dev l)) ∧ Below w.heap.size w w' := by
  obtain ⟨W, hW⟩ : ∃ W, ((w.alloc (.cells #[.slice S.dv.A S.dv.n S.dv.c, .slice S.pt.A S.pt.n S.pt.c, .slice S.lk.A S.lk.n S.lk.c, .slice S.dm.A S.dm.n S.dm.c, .slice S.st.A S.st.n S.st.c, .slice S.fl.A S.fl.n S.fl.c, .slice S.vr.A S.vr.n S.vr.c, .slice S.ir.A S.ir.n S.ir.c] 31)).alloc (.cells #[.int .i64 dev] 3)).alloc (.cells #[.string (str l)] 9) = W := ⟨_, rfl⟩
  have NC := net_cs3 S _ _ _ [.int .i64 dev] [.string (str l)] hW
  have FS := first_port N S S.pt.A S.pt.n S.pt.c (.func (.func 67) #[] #[.pointer (some ⟨w.heap.size + 1, 0, none⟩), .pointer (some ⟨w.heap.size + 2, 0, none⟩)]) (ptF N dev l) W (h.up NC.2.2.2) hs hn (fun w' hb =>
    idx_port 67 #[.pointer (some ⟨w.heap.size + 1, 0, none⟩), .pointer (some ⟨w.heap.size + 2, 0, none⟩)] enters_port1n S.pt.A S.pt.n S.pt.c N.ports w' (up_rsl (up_rsl h.pt NC.2.2.2) hb) _ (fun k s w2 hk hb2 _ => by
      rw [app12]
      exact port1n_any _ s dev l _ _ w2 (((NC.2.1.below hb).below hb2).1 0 _ rfl) (((NC.2.2.1.below hb).below hb2).1 0 _ rfl)) _ (ptF_fst N dev l S.pt.n h.pt.len))
  generalize ptF N dev l = Z at *
  have B0 := Lib.hid NC.2.2.2
  subst hW
  unfold netV at FS ⊢
  have FS := Lib.hid FS
  clear h hs hn NC
  go_enter Tryz.func16, Tryz.ntmps16
  go_wp2_with (go_at_call 66; (with_reducible refine FS.out.mono ?_); rintro e wi ⟨rfl, hb⟩; have X2 := Lib.hid (trans_below B0.out hb); clear hb)
  go_ret
  exact ⟨rfl, X2.out⟩
end Go.Proofs.YthobolmedppneaaGreat

/- Rows and words: a text's rows, a row's words, words joined; each taken back. The contracts of palingref10.Word, Texts, Join. The contracts of palingref10.Texts and Join. The contract of palingref10.Rows. The contract of palingref10.Words. -/
namespace Go.Proofs.YthobolmedppneaaGreat
open Go.RowKit

/-! Words. -/
/-! Words joined. -/
/-! Rows. -/
end Go.Proofs.YthobolmedppneaaGreat

namespace Go.Proofs.YthobolmedppneaaGreat
open Go.RowKit
open Go.Lib (byteCells)

end Go.Proofs.YthobolmedppneaaGreat

namespace Go.Proofs.YthobolmedppneaaGreat
open Go.RowKit
open Go.Lib (byteCells)

end Go.Proofs.YthobolmedppneaaGreat

namespace Go.Proofs.YthobolmedppneaaGreat
open Go.RowKit
open Go.Lib (byteCells)

/-- texts beside no error, else none -/
def os (E : Int) (ps : List (List UInt8)) : List (List UInt8) := if E = 0 then ps else []
end Go.Proofs.YthobolmedppneaaGreat

namespace Go.Proofs.YthobolmedppneaaGreat
open Go.RowKit
open Go.Lib (byteCells)

end Go.Proofs.YthobolmedppneaaGreat

/- Addresses of 48 bits: the contracts of reading and of kinds (stage 1's). -/
/- Contracts of the small number functions of packages mac and palingref01 (Host, Group, IsHost, byteAt). -/
namespace Go.Proofs.YthobolmedppneaaGreat.Mac
open Go.RowKit

theorem host_or (a : Int) (h0 : 0 ≤ a) (h1 : a < 4294967296) : bits .or .u64 2199023255552 a = 2199023255552 + a := by
  rw [u64_or _ _ (by omega) (by omega) h0 (by omega)]
  have : (2199023255552 : Int).toNat ||| a.toNat = 2199023255552 + a.toNat := by
    have := Nat.two_pow_add_eq_or_of_lt (i := 41) (b := a.toNat) (by omega) 1
    simpa using this.symm
  rw [this]; omega

theorem mask_48 (m : Int) (h0 : 0 ≤ m) (h1 : m < 18446744073709551616) : bits .and .u64 m 281474976710655 = m % 281474976710656 := by
  rw [u64_and _ _ h0 h1 (by omega) (by omega)]
  have : m.toNat &&& (281474976710655 : Int).toNat = m.toNat % 281474976710656 := Nat.and_two_pow_sub_one_eq_mod m.toNat 48
  rw [this]; omega

theorem bit_40 (m : Nat) : m &&& 1099511627776 = (m / 1099511627776 % 2) * 1099511627776 := by
  apply Nat.eq_of_testBit_eq
  intro i
  rw [Nat.testBit_and, show (1099511627776 : Nat) = 2 ^ 40 from rfl, Nat.testBit_two_pow, Nat.testBit_mul_two_pow]
  by_cases hi : 40 = i
  · subst hi
    rw [Nat.testBit_eq_decide_div_mod_eq]
    simp
  · rcases Nat.lt_or_ge i 40 with h | h
    · simp [hi]; omega
    · have : (m / 2 ^ 40 % 2).testBit (i - 40) = false := Nat.testBit_lt_two_pow (Nat.lt_of_lt_of_le (Nat.mod_lt _ (by decide)) (Nat.pow_le_pow_right (by decide : 0 < 2) (by omega : 1 ≤ i - 40)))
      simp [hi, this]

/-- an address's byte i, the highest first -/
def byt (m : Int) (i : Nat) : Int := m / 256 ^ (5 - i) % 256
/-- is the lowest bit of the highest byte 1? -/
def grp (m : Int) : Bool := decide (m / 1099511627776 % 2 = 1)

theorem group_and (m : Int) (h0 : 0 ≤ m) (h1 : m < 18446744073709551616) : (bits .and .u64 m 1099511627776 != 0) = grp m := by
  rw [u64_and _ _ h0 h1 (by omega) (by omega)]
  obtain ⟨n, rfl⟩ := Int.eq_ofNat_of_zero_le h0
  have := bit_40 n
  simp only [Int.toNat_natCast, show (1099511627776 : Int).toNat = 1099511627776 from rfl, this]
  unfold grp
  rw [Bool.eq_iff_iff]; simp; omega

theorem host_any (a : Int) (w : World) (h0 : 0 ≤ a) (h1 : a < 4294967296) :
    Calls Tryz.prog 195 #[.int .u32 a] w fun e w' => e = .returned (.int .u64 (2199023255552 + a)) ∧ w = w' := by
  have h := host_or a h0 h1
  go_enter Tryz.func195, Tryz.ntmps195
  go_wp2
  go_ret
  exact ⟨by simp, rfl⟩

theorem group_any (m : Int) (w : World) (h0 : 0 ≤ m) (h1 : m < 18446744073709551616) :
    Calls Tryz.prog 176 #[.int .u64 m] w fun e w' => e = .returned (.bool (grp m)) ∧ w = w' := by
  have h := group_and m h0 h1
  go_enter Tryz.func176, Tryz.ntmps176
  go_wp2
  go_ret
  exact ⟨by simp, rfl⟩

/-- the ip of a host's address, and whether it is one -/
def isHostB (m : Int) : Bool := decide (2199023255552 + m % 4294967296 = m % 281474976710656)
theorem isHost_any (m : Int) (w : World) (h0 : 0 ≤ m) (h1 : m < 18446744073709551616) :
    Calls Tryz.prog 175 #[.int .u64 m] w fun e w' => e = .returned (.tuple #[.int .u32 (if isHostB m = true then m % 4294967296 else 0), .bool (isHostB m)]) ∧ w = w' := by
  have h := mask_48 m h0 h1
  by_cases hh : isHostB m = true
  · have hd : ((2199023255552 + m % 4294967296) != (m % 281474976710656)) = false := by
      unfold isHostB at hh; simp at hh; simp [hh]
    rw [hh]
    have hx : Hid (isHostB m = true) := Lib.hid hh
    clear hh
    go_enter Tryz.func175, Tryz.ntmps175
    go_wp2_with (go_at_call 195; refine (host_any _ _ (by omega) (by omega)).mono ?_; rintro e w' ⟨rfl, rfl⟩)
    go_ret2
    exact ⟨by simp, rfl⟩
  · have hd : ((2199023255552 + m % 4294967296) != (m % 281474976710656)) = true := by
      unfold isHostB at hh; simp at hh; simp [hh]
    have h2 : isHostB m = false := by simpa using hh
    rw [h2]
    clear hh h2
    go_enter Tryz.func175, Tryz.ntmps175
    go_wp2_with (go_at_call 195; refine (host_any _ _ (by omega) (by omega)).mono ?_; rintro e w' ⟨rfl, rfl⟩)
    go_ret2
    exact ⟨by simp, rfl⟩

end Go.Proofs.YthobolmedppneaaGreat.Mac

/- The contract of mac.Text: which text it writes. -/
namespace Go.Proofs.YthobolmedppneaaGreat.Mac
open Go.RowKit

theorem Tryz.info5 : (Tryz.prog.info? 5).map (fun i => (i.zero, i.size, i.bytes)) = some (some (.int .u8 0), 1, 1) := by kernel_rfl

/-- the digit of a number below 16 -/
def hx (d : Int) : Int := if d < 10 then 48 + d else 87 + d
/-- the first i bytes' text -/
def textPre (m : Int) : Nat → List Int
  | 0 => []
  | k + 1 => textPre m k ++ (if 0 < k then [58] else []) ++ [hx (byt m k / 16), hx (byt m k % 16)]
end Go.Proofs.YthobolmedppneaaGreat.Mac

/- The contract of palingref01.Bytes: an address's six bytes, in new memory. -/
namespace Go.Proofs.YthobolmedppneaaGreat.Mac
open Go.RowKit

end Go.Proofs.YthobolmedppneaaGreat.Mac

/- The contract of palingref01.Text: it writes the text that mac.Text writes. -/
namespace Go.Proofs.YthobolmedppneaaGreat.Mac
open Go.RowKit

end Go.Proofs.YthobolmedppneaaGreat.Mac

/- The contract of mac.Read: which address a text is, or that it is none. -/
namespace Go.Proofs.YthobolmedppneaaGreat.Mac
open Go.RowKit

/-- the number of a digit, or -1 -/
def dg (c : Int) : Int := if 48 ≤ c ∧ c ≤ 57 then c - 48 else if 97 ≤ c ∧ c ≤ 102 then c - 87 else -1
/-- the byte at j -/
def sb (s : ByteArray) (j : Nat) : Int := ((s.data.toList.getD j 0).toNat : Int)
/-- is the address's byte j written as it should be? -/
def good (s : ByteArray) (j : Nat) : Prop := 0 ≤ dg (sb s (3 * j)) ∧ 0 ≤ dg (sb s (3 * j + 1)) ∧ (0 < j → sb s (3 * j - 1) = 58)
instance (s : ByteArray) (j : Nat) : Decidable (good s j) := by unfold good; infer_instance
/-- the number of the first k bytes -/
def val (s : ByteArray) : Nat → Int
  | 0 => 0
  | k + 1 => val s k * 256 + (dg (sb s (3 * k)) * 16 + dg (sb s (3 * k + 1)))
def rdB (s : ByteArray) : Bool := decide (s.size = 17) && (List.range 6).all fun j => decide (good s j)
def rdV (s : ByteArray) : Int := if rdB s = true then val s 6 else 0
end Go.Proofs.YthobolmedppneaaGreat.Mac

/- Plain facts on texts of addresses: what is read is what was written. -/
namespace Go.Proofs.YthobolmedppneaaGreat.Mac

end Go.Proofs.YthobolmedppneaaGreat.Mac

/- The contract of palingref01.Read: it answers what mac.Read answers. -/
namespace Go.Proofs.YthobolmedppneaaGreat.Mac
open Go.RowKit

end Go.Proofs.YthobolmedppneaaGreat.Mac

/- What a line's words are, word by word: which line they make, or why none. -/
namespace Go.Proofs.YthobolmedppneaaGreat
open Go.RowKit

/-- is a text a name? -/
noncomputable def nmB (s : List UInt8) : Bool := @decide (NameOk (str s)) (Classical.propDecidable _)
theorem nmB_iff (s : List UInt8) : nmB s = true ↔ NameOk (str s) := by
  unfold nmB
  exact @decide_eq_true_iff _ (Classical.propDecidable _)
/-- an address of 48 bits that a text is -/
def mcV (s : List UInt8) : Int := Mac.rdV (str s)
def mcB (s : List UInt8) : Bool := Mac.rdB (str s)
/-- may an address be a device's? -/
def stB (m : Int) : Bool := !Mac.isHostB m && !Mac.grp m
/-- may a prefix be an interface's? -/
def snB (A B : Int) : Bool := decide (1 ≤ B) && decide (B ≤ 30) && !decide (A = FS A B) && !decide (A = LS A B)
/-- a prefix's two numbers -/
def paV (s : List UInt8) : Int := (((pfF s).getD (0, 0)).1 : Nat)
def pbV (s : List UInt8) : Int := (((pfF s).getD (0, 0)).2 : Nat)
def dash : List UInt8 := [45]
def sAccess : List UInt8 := [97, 99, 99, 101, 115, 115]
def sTrunk : List UInt8 := [116, 114, 117, 110, 107]
def sPort : List UInt8 := [112, 111, 114, 116]
/-- a list, or none of - -/
def lsD (s : List UInt8) (hi : Int) : List Int := if s = dash then [] else lsV (rdI 1 hi) s
def lsDB (s : List UInt8) (hi : Int) : Bool := if s = dash then true else lsB (rdI 1 hi) s

/-- is a word what a letter asks for? P C M V W T I A L R S -/
def wdB (c : UInt8) (s : List UInt8) : Bool :=
  if c = 80 then nB s 0 65535 else if c = 67 then nB s 1 65535 else if c = 77 then mcB s && stB (mcV s) else if c = 86 then nB s 1 4094
  else if c = 87 then nB s 1 4094 || decide (s = dash) else if c = 84 then lsDB s 4094 else if c = 73 then nB s 1 16777215
  else if c = 65 then rdB s && decide (0 < rdV s) else if c = 76 then lsB rdA s && decide (0 < (lsV rdA s).getD 0 0) else if c = 82 then lsDB s 65535
  else if c = 83 then pfB s && snB (paV s) (pbV s) else false
/-- why a word is not what a letter asks for -/
noncomputable def wdE (c : UInt8) (s : List UInt8) : Int :=
  if c = 78 then (if nmB s = true then 0 else 20) else if c = 75 then (if s = sAccess ∨ s = sTrunk then 0 else 20) else if wdB c s = true then 0 else 21
/-- a name's place in a line -/
def nmL (s : List UInt8) (k : Nat) (L : LV) : LV :=
  if k = 0 then { L with dev := s } else if L.kind = 8 ∨ L.kind = 9 then { L with name := s } else if k = 1 then { L with port := s } else if k = 2 then { L with peer := s } else if k = 3 then { L with far := s } else L
/-- what a word makes of a line -/
def wdL (c : UInt8) (s : List UInt8) (k : Nat) (L : LV) : LV :=
  if c = 78 then nmL s k L else if c = 75 then L else if c = 80 then { L with num := nV s 0 65535 } else if c = 67 then { L with cost := nV s 1 65535 } else if c = 77 then { L with mac := mcV s }
  else if c = 86 then { L with vlan := nV s 1 4094 } else if c = 87 then { L with vlan := nV s 1 4094 } else if c = 84 then { L with tagged := lsD s 4094 } else if c = 73 then { L with num := nV s 1 16777215 }
  else if c = 65 then { L with addr := rdV s } else if c = 76 then { L with addrs := lsV rdA s } else if c = 82 then { L with imports := L.exports, exports := lsD s 65535 }
  else if c = 83 then { L with addr := paV s, bits := pbV s } else L

/-- words read by their letters -/
noncomputable def runS : List UInt8 → List (List UInt8) → Nat → LV → Int × LV
  | c :: f, s :: ws, k, L => if wdE c s = 0 then runS f ws (if c = 78 then k + 1 else k) (wdL c s k L) else (wdE c s, L)
  | _, _, _, L => (0, L)

/-- the letters of a first word's line; none: 0 -/
def kdV (s : List UInt8) : Int :=
  if s = [100, 101, 118, 105, 99, 101] then 1 else if s = sPort then 2 else if s = [108, 105, 110, 107] then 3 else if s = [115, 116, 97, 116, 105, 99] then 4 else if s = [118, 116, 101, 112] then 5
  else if s = [118, 110, 105] then 6 else if s = [102, 108, 111, 111, 100] then 7 else if s = [118, 114, 102] then 8 else if s = [105, 114, 98] then 9 else 0
def wat (ws : List (List UInt8)) (i : Nat) : List UInt8 := ws.getD i []
/-- the letters of words -/
def fmV (ws : List (List UInt8)) : List UInt8 :=
  if ws = [] then [] else if kdV (wat ws 0) = 1 then [78, 80, 77] else if kdV (wat ws 0) = 3 then [78, 78, 78, 78] else if kdV (wat ws 0) = 4 then [78, 86, 77, 78] else if kdV (wat ws 0) = 5 then [78, 65]
  else if kdV (wat ws 0) = 6 then [78, 86, 73] else if kdV (wat ws 0) = 7 then [78, 73, 76] else if kdV (wat ws 0) = 8 then [78, 78, 82, 82] else if kdV (wat ws 0) = 9 then [78, 86, 78, 83]
  else if kdV (wat ws 0) = 2 then (if ws.length = 7 ∧ ¬ wat ws 4 = sAccess then [78, 78, 67, 75, 87, 84] else if ws.length = 6 ∧ ¬ wat ws 4 = sTrunk then [78, 78, 67, 75, 86] else []) else []
/-- the letters that are gone through: those of the line; of a port whose fifth word is neither: up to it; none: the words are no line -/
def ltV (ws : List (List UInt8)) : List UInt8 := if fmV ws ≠ [] ∧ ws.length = (fmV ws).length + 1 then fmV ws else []
/-- may a port's VLANs be? -/
def mbB (L : LV) : Bool := L.tagged.all (fun x => !decide (x = L.vlan)) && (decide (0 < L.vlan) || decide (0 < L.tagged.length))
def LV.new (row kind : Int) : LV := ⟨row, kind, [], [], [], [], [], 0, 0, 0, 0, 0, 0, [], [], [], []⟩
/-- why words are no line -/
noncomputable def rdE (ws : List (List UInt8)) (row : Int) : Int :=
  if ltV ws = [] then 22 else
  let r := runS (ltV ws) (ws.drop 1) 0 (LV.new row (kdV (wat ws 0)))
  if r.1 = 0 then (if r.2.kind = 2 ∧ mbB r.2 = false then 21 else 0) else r.1
/-- the line that words are -/
noncomputable def rdL (ws : List (List UInt8)) (row : Int) : LV := if rdE ws row = 0 then (runS (ltV ws) (ws.drop 1) 0 (LV.new row (kdV (wat ws 0)))).2 else LV.zero
end Go.Proofs.YthobolmedppneaaGreat

/- A line's words read one by one: the steps. What palingref11.Read hands back, read out of its box. -/
namespace Go.Proofs.YthobolmedppneaaGreat
open Go.RowKit

end Go.Proofs.YthobolmedppneaaGreat

namespace Go.Proofs.YthobolmedppneaaGreat
open Go.RowKit

/-- lists that lie behind B, or nil -/
def LNew (B : Nat) (s1 s2 s3 s4 : SlV) : Prop := (∀ ad, s1.A = some ad → B ≤ ad.block) ∧ (∀ ad, s2.A = some ad → B ≤ ad.block) ∧ (∀ ad, s3.A = some ad → B ≤ ad.block) ∧ ∀ ad, s4.A = some ad → B ≤ ad.block
end Go.Proofs.YthobolmedppneaaGreat

/- A line as data that cells read as; lists of lines. A slice of one line, laid out; a line appended to a row of the call's own. -/
namespace Go.Proofs.YthobolmedppneaaGreat
open Go.RowKit

/-- a list of numbers behind a slice, by blocks of F -/
def NSl (w : World) (F : Nat → Prop) (k : IntKind) (s : SlV) (xs : List Int) : Prop := ISl w k s.A s.n s.c xs ∧ (0 < s.n → ∀ ad, s.A = some ad → F ad.block)
theorem NSl.keep {w w' : World} {F F' : Nat → Prop} {k : IntKind} {s : SlV} {xs : List Int} (h : NSl w F k s xs) (hb : ∀ b, F b → w'.heap[b]? = w.heap[b]?) (hF : ∀ b, F b → F' b) : NSl w' F' k s xs := by
  refine ⟨⟨h.1.1, h.1.2.1, h.1.2.2.1, fun hn => ?_⟩, fun hn ad e => hF _ (h.2 hn ad e)⟩
  obtain ⟨b, off, e, hl, hc⟩ := h.1.2.2.2 hn
  have hb2 := hb b (h.2 hn _ e)
  exact ⟨b, off, e, lt_of_heap hb2 hl, fun j hj => (World.cell?_of_block (w := w) (a := ⟨b, off + j, none⟩) hb2).trans (hc j hj)⟩
/-- the cells of a line -/
def lineC (L : LV) (s1 s2 s3 s4 : SlV) : List Value := [.int .i64 L.row, .int .i64 L.kind, .string (str L.dev), .string (str L.port), .string (str L.peer), .string (str L.far), .string (str L.name), .int .u64 L.mac, .int .u32 L.addr, .int .i64 L.bits, .int .i64 L.vlan, .int .i64 L.num, .int .i64 L.cost, .slice s1.A s1.n s1.c, .slice s2.A s2.n s2.c, .slice s3.A s3.n s3.c, .slice s4.A s4.n s4.c]
/-- a line -/
def lineR : Rdr LV where
  n := 17
  rd := fun w F vs L => ∃ s1 s2 s3 s4, vs = lineC L s1 s2 s3 s4 ∧ NSl w F .i64 s1 L.tagged ∧ NSl w F .i64 s2 L.imports ∧ NSl w F .i64 s3 L.exports ∧ NSl w F .u32 s4 L.addrs
  len := by rintro w F vs L ⟨s1, s2, s3, s4, rfl, _⟩; rfl
  one := by rintro w F vs L ⟨s1, s2, s3, s4, rfl, _⟩ v hv; simp [lineC] at hv; rcases hv with rfl | rfl | rfl | rfl | rfl | rfl | rfl | rfl | rfl | rfl | rfl | rfl | rfl | rfl | rfl | rfl | rfl <;> rfl
  keep := by rintro w w' F F' vs L ⟨s1, s2, s3, s4, rfl, h1, h2, h3, h4⟩ hb hF; exact ⟨s1, s2, s3, s4, rfl, h1.keep hb hF, h2.keep hb hF, h3.keep hb hF, h4.keep hb hF⟩
theorem line_read {w : World} {F : Nat → Prop} {vs : List Value} {L : LV} (h : lineR.rd w F vs L) : ∃ s1 s2 s3 s4, vs = lineC L s1 s2 s3 s4 ∧ LRead w L s1 s2 s3 s4 := by
  obtain ⟨s1, s2, s3, s4, rfl, h1, h2, h3, h4⟩ := h
  exact ⟨s1, s2, s3, s4, rfl, h1.1, h2.1, h3.1, h4.1⟩
end Go.Proofs.YthobolmedppneaaGreat

namespace Go.Proofs.YthobolmedppneaaGreat
open Go.RowKit

theorem Tryz.info37 : (Tryz.prog.info? 37).map (fun i => (i.zero, i.size)) = some (some (lineV LV.zero SlV.nil SlV.nil SlV.nil SlV.nil), 17) := by kernel_rfl
end Go.Proofs.YthobolmedppneaaGreat

