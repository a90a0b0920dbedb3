/- XNnSmall; XNtPeer; XNtDoms; XNtPorts; XNtLinks; XNtRest; XNtRight -/
import Derived.Test.YthobolmedppneaaGreatKb06
import Derived.Test.YthobolmedppneaaGreatKb04
import Derived.Test.YthobolmedppneaaGreatKb03
import Derived.Deep.DeepCutAuto
import Derived.RegionTactic
import Derived.StillTail
import Derived.Deep.CutBlock
/- Package names' small functions: Member, rises, joins, find, has. (Made by mk-nnsmall.py.) -/
namespace Go.Proofs.YthobolmedppneaaGreat
open Go.RowKit

theorem app1 (a b : Value) : #[a] ++ #[b] = #[a, b] := rfl
theorem app12 (a b c : Value) : #[a] ++ #[b, c] = #[a, b, c] := rfl
theorem app21 (a b c : Value) : #[a, b] ++ #[c] = #[a, b, c] := rfl
theorem app22 (a b c d : Value) : #[a, b] ++ #[c, d] = #[a, b, c, d] := rfl
theorem app23 (a b c d e : Value) : #[a, b] ++ #[c, d, e] = #[a, b, c, d, e] := rfl
theorem app20 (a b : Value) : #[a, b] ++ (#[] : Array Value) = #[a, b] := rfl
theorem cont_of (A : Option Addr) (n c : Nat) (xs : List Int) (x : Int) (w : World) (h : ISl w .i64 A n c xs) : Calls Tryz.prog 82 #[.slice A n c, .int .i64 x] w fun e w' => e = .returned (.bool (memB xs x)) ∧ w = w' := by
  have := contains_any ⟨A, n, c⟩ xs x w h
  rwa [show xs.contains x = memB xs x by unfold memB; simp] at this
set_option maxRecDepth 20000 in
theorem rises_any (A : Option Addr) (n c : Nat) (xs : List Int) (hi : Int) (w : World) (h : ISl w .i64 A n c xs) : Calls Tryz.prog 50 #[.slice A n c, .int .i64 hi] w fun e w' => e = .returned (.bool (rsB xs hi)) ∧ Drew w w' := by
  have hl := h.len
  by_cases hn : n = 0
  · subst hn
    obtain rfl : xs = [] := List.eq_nil_of_length_eq_zero hl
    rw [show rsB [] hi = true by unfold rsB; simp]
    clear h hl
    go_enter Tryz.func50, Tryz.ntmps50
    go_wp2
    go_ret
    exact ⟨rfl, Drew.refl _⟩
  · have ne : ((n : Int) == 0) = false := by simp; omega
    rw [show rsB xs hi = risIn xs 1 hi by unfold rsB; rw [decide_eq_false (fun e => by rw [e] at hl; exact hn hl.symm)]; rfl]
    have R := Lib.hid (ris_any A n c xs 1 hi w h)
    clear h hl hn
    go_enter Tryz.func50, Tryz.ntmps50
    go_wp2_with (go_at_call 93; (with_reducible refine R.out.mono ?_); rintro e w1 ⟨rfl, hd⟩)
    go_ret
    exact ⟨rfl, hd⟩
set_option maxRecDepth 20000 in
theorem member_any2 (P : PortV) (s : Sl3) (v : Int) (w : World) (F : Nat → Prop) (hF : ∀ b, F b → b < w.heap.size) (h : RSl (Rdr.int .i64) w F s.A s.n s.c P.tagged) : Calls Tryz.prog 132 #[.agg #[.int .i64 P.row, .int .i64 P.dev, .int .i64 P.native, .int .i64 P.cost, .int .i64 P.link, .string (str P.name), .slice s.A s.n s.c], .int .i64 v] w fun e w' => e = .returned (.bool (mbrB P v)) ∧ Below w.heap.size w w' := by
  have IN := Lib.hid (fun (w' : World) (hb : Below w.heap.size w w') => cont_of s.A s.n s.c P.tagged v w' (isl_rsl (h.below hF hb)))
  unfold mbrB
  by_cases h0 : v = 0
  · have e : (decide (v ≠ 0) && (decide (P.native = v) || memB P.tagged v)) = false := by rw [decide_eq_false (by simpa using h0)]; rfl
    rw [e]
    have ne : (v != 0) = false := by simpa using h0
    clear h h0 e
    go_enter Tryz.func132, Tryz.ntmps132
    go_wp2
    go_ret
    exact ⟨rfl, (Below.refl _ _).alloc (Nat.le_refl _) _⟩
  · have ne : (v != 0) = true := by simpa using h0
    by_cases h1 : P.native = v
    · have e : (decide (v ≠ 0) && (decide (P.native = v) || memB P.tagged v)) = true := by rw [decide_eq_true h0, decide_eq_true h1]; rfl
      rw [e]
      have ne2 : (P.native == v) = true := by simpa using h1
      clear h h0 e h1
      go_enter Tryz.func132, Tryz.ntmps132
      go_wp2
      go_ret
      exact ⟨rfl, (Below.refl _ _).alloc (Nat.le_refl _) _⟩
    · have e : (decide (v ≠ 0) && (decide (P.native = v) || memB P.tagged v)) = memB P.tagged v := by rw [decide_eq_true h0, decide_eq_false h1]; rfl
      rw [e]
      have ne2 : (P.native == v) = false := by simpa using h1
      generalize memB P.tagged v = V at *
      clear h h0 e h1
      go_enter Tryz.func132, Tryz.ntmps132
      go_wp2_with (go_at_call 82; (with_reducible refine (IN.out _ ((Below.refl _ _).alloc (Nat.le_refl _) _)).mono ?_); rintro e w1 ⟨rfl, rfl⟩)
      go_ret
      exact ⟨rfl, (Below.refl _ _).alloc (Nat.le_refl _) _⟩
theorem joins_any (L : LinkV) (p : Int) (w : World) : Calls Tryz.prog 84 #[.agg #[.int .i64 L.row, .int .i64 L.a, .int .i64 L.b], .int .i64 p] w fun e w' => e = .returned (.bool (decide (L.a = p) || decide (L.b = p))) ∧ Below w.heap.size w w' := by
  by_cases h0 : L.a = p
  · have e : (L.a == p) = true := by simpa using h0
    rw [decide_eq_true h0]
    clear h0
    go_enter Tryz.func84, Tryz.ntmps84
    go_wp2
    go_ret
    exact ⟨rfl, (Below.refl _ _).alloc (Nat.le_refl _) _⟩
  · have e : (L.a == p) = false := by simpa using h0
    rw [decide_eq_false h0]
    by_cases h1 : L.b = p
    all_goals
      first | rw [decide_eq_true h1] | rw [decide_eq_false h1]
      have e2 : (L.b == p) = decide (L.b = p) := by by_cases g : L.b = p <;> simp [g]
      first | rw [decide_eq_true h1] at e2 | rw [decide_eq_false h1] at e2
      clear h0 h1
      go_enter Tryz.func84, Tryz.ntmps84
      go_wp2
      go_ret
      exact ⟨rfl, (Below.refl _ _).alloc (Nat.le_refl _) _⟩
theorem find1_any (D : DomV) (s : Sl3) (dev v : Int) (q1 q2 : Nat) (w : World) (c1 : w.cell? ⟨q1, 0, none⟩ = some (.int .i64 dev)) (c2 : w.cell? ⟨q2, 0, none⟩ = some (.int .i64 v)) :
    Calls Tryz.prog 99 #[.agg #[.int .i64 D.dev, .int .i64 D.vlan, .int .i64 D.vni, .int .i64 D.irb, .int .i64 D.row, .slice s.A s.n s.c], .pointer (some ⟨q1, 0, none⟩), .pointer (some ⟨q2, 0, none⟩)] w fun e w' => e = .returned (.bool (decide (D.dev = dev ∧ D.vlan = v))) ∧ Below w.heap.size w w' := by
  have l1 := World.block_lt_of_cell? w _ c1
  have l2 := World.block_lt_of_cell? w _ c2
  dsimp only at l1 l2
  by_cases h0 : D.dev = dev
  · have e : (D.dev == dev) = true := by simpa using h0
    by_cases h1 : D.vlan = v
    · have e2 : (D.vlan == v) = true := by simpa using h1
      rw [decide_eq_true ⟨h0, h1⟩]
      clear h0 h1
      go_enter Tryz.func99, Tryz.ntmps99
      go_wp2
      go_ret
      exact ⟨rfl, (Below.refl _ _).alloc (Nat.le_refl _) _⟩
    · have e2 : (D.vlan == v) = false := by simpa using h1
      rw [decide_eq_false (fun g => h1 g.2)]
      clear h0 h1
      go_enter Tryz.func99, Tryz.ntmps99
      go_wp2
      go_ret
      exact ⟨rfl, (Below.refl _ _).alloc (Nat.le_refl _) _⟩
  · have e : (D.dev == dev) = false := by simpa using h0
    rw [decide_eq_false (fun g => h0 g.1)]
    clear h0
    go_enter Tryz.func99, Tryz.ntmps99
    go_wp2
    go_ret
    exact ⟨rfl, (Below.refl _ _).alloc (Nat.le_refl _) _⟩
theorem atK_fst (dev v : Int) : ∀ (xs : List DomV) (k n : Nat), n = xs.length → (∃ j, j < n ∧ atK xs dev v k = ((k + j : Nat) : Int) ∧ ((xs.getD j DomV.zero).dev = dev ∧ (xs.getD j DomV.zero).vlan = v) ∧ ∀ i, i < j → ¬ ((xs.getD i DomV.zero).dev = dev ∧ (xs.getD i DomV.zero).vlan = v)) ∨ (atK xs dev v k = -1 ∧ ∀ i, i < n → ¬ ((xs.getD i DomV.zero).dev = dev ∧ (xs.getD i DomV.zero).vlan = v))
  | [], k, n, h => .inr ⟨rfl, fun i hi => absurd hi (by simp at h; omega)⟩
  | d :: r, k, n, h => by
    by_cases hd : d.dev = dev ∧ d.vlan = v
    · exact .inl ⟨0, by simp at h; omega, by rw [atK, if_pos hd]; simp, hd, fun i hi => absurd hi (by omega)⟩
    · rcases atK_fst dev v r (k + 1) r.length rfl with ⟨j, h1, h2, h3, h4⟩ | ⟨h1, h2⟩
      · refine .inl ⟨j + 1, by simp at h; omega, by rw [atK, if_neg hd, h2]; congr 1; omega, by simpa using h3, fun i hi => ?_⟩
        match i with
        | 0 => simpa using hd
        | i + 1 => simpa using h4 i (by omega)
      · refine .inr ⟨by rw [atK, if_neg hd, h1], fun i hi => ?_⟩
        match i with
        | 0 => simpa using hd
        | i + 1 => simpa using h2 i (by simp at h; omega)
theorem atF_fst (N : NV) (dev v : Int) (n : Nat) (hn : N.domains.length = n) : IsFst (fun k => decide ((N.domains.getD k DomV.zero).dev = dev ∧ (N.domains.getD k DomV.zero).vlan = v)) n (atF N dev v) := by
  rcases atK_fst dev v N.domains 0 n hn.symm with ⟨j, h1, h2, h3, h4⟩ | ⟨h1, h2⟩
  · exact .inl ⟨j, h1, by unfold atF; rw [h2]; congr 1; omega, decide_eq_true h3, fun i hi => decide_eq_false (h4 i hi)⟩
  · exact .inr ⟨h1, fun i hi => decide_eq_false (h2 i hi)⟩
theorem enters_find1 : Enters Tryz.prog 99 := enters_of Tryz.func99 (by kernel_rfl) rfl
set_option maxRecDepth 20000 in
set_option maxHeartbeats 2000000 in
theorem find_any (N : NV) (S : NSl3) (dev v : Int) (w : World) (h : NRead w (allB w) N S) : Calls Tryz.prog 68 #[netV S, .int .i64 dev, .int .i64 v] w fun e w' => e = .returned (.int .i64 (atF N dev v)) ∧ Below w.heap.size w w' := by
  have IX := Lib.hid (fun (w' : World) (hb : Below w.heap.size w w') (q1 q2 : Nat) (c1 : w'.cell? ⟨q1, 0, none⟩ = some (.int .i64 dev)) (c2 : w'.cell? ⟨q2, 0, none⟩ = some (.int .i64 v)) =>
    idx_dom 99 #[.pointer (some ⟨q1, 0, none⟩), .pointer (some ⟨q2, 0, none⟩)] enters_find1 S.dm.A S.dm.n S.dm.c N.domains w' (up_rsl h.dm hb) _ (fun k s w2 hk hb2 hl => by
      rw [app12]
      exact find1_any _ s dev v q1 q2 w2 ((hb2.cell (p := ⟨q1, 0, none⟩) (World.block_lt_of_cell? w' _ c1)).trans c1) ((hb2.cell (p := ⟨q2, 0, none⟩) (World.block_lt_of_cell? w' _ c2)).trans c2)) (atF N dev v) (atF_fst N dev v S.dm.n h.dm.len))
  clear h
  unfold netV
  generalize atF N dev v = V at *
  obtain ⟨W3, hW3⟩ : ∃ W3, ((w.alloc (.cells #[.slice S.dv.A S.dv.n S.dv.c, .slice S.pt.A S.pt.n S.pt.c, .slice S.lk.A S.lk.n S.lk.c, .slice S.dm.A S.dm.n S.dm.c, .slice S.st.A S.st.n S.st.c, .slice S.fl.A S.fl.n S.fl.c, .slice S.vr.A S.vr.n S.vr.c, .slice S.ir.A S.ir.n S.ir.c] 31)).alloc (.cells #[.int .i64 dev] 3)).alloc (.cells #[.int .i64 v] 3) = W3 := ⟨_, rfl⟩
  have k1 : Below w.heap.size w (w.alloc (.cells #[.slice S.dv.A S.dv.n S.dv.c, .slice S.pt.A S.pt.n S.pt.c, .slice S.lk.A S.lk.n S.lk.c, .slice S.dm.A S.dm.n S.dm.c, .slice S.st.A S.st.n S.st.c, .slice S.fl.A S.fl.n S.fl.c, .slice S.vr.A S.vr.n S.vr.c, .slice S.ir.A S.ir.n S.ir.c] 31)) := (Below.refl _ _).alloc (Nat.le_refl _) _
  have k2 : Below w.heap.size w ((w.alloc (.cells #[.slice S.dv.A S.dv.n S.dv.c, .slice S.pt.A S.pt.n S.pt.c, .slice S.lk.A S.lk.n S.lk.c, .slice S.dm.A S.dm.n S.dm.c, .slice S.st.A S.st.n S.st.c, .slice S.fl.A S.fl.n S.fl.c, .slice S.vr.A S.vr.n S.vr.c, .slice S.ir.A S.ir.n S.ir.c] 31)).alloc (.cells #[.int .i64 dev] 3)) := k1.alloc (by simp) _
  have B3 := Lib.hid (show Below w.heap.size w W3 by rw [← hW3]; exact k2.alloc (by simp; omega) _)
  clear k1 k2
  have R := Lib.hid (IX.out W3 B3.out (w.heap.size + 1) (w.heap.size + 2) (by rw [← hW3]; simp [go_sem]) (by rw [← hW3]; simp [go_sem]))
  subst hW3
  clear IX
  go_enter Tryz.func68, Tryz.ntmps68
  go_wp2_with (go_at_call 98; (with_reducible refine R.out.mono ?_); rintro e w1 ⟨rfl, hb⟩; have B := Lib.hid (trans_below B3.out hb); clear hb)
  go_ret
  exact ⟨rfl, B.out⟩
set_option maxRecDepth 20000 in
theorem has_any (P : PortV) (s : Sl3) (D : DomV) (t : Sl3) (w : World) (h : RSl (Rdr.int .i64) w (allB w) s.A s.n s.c P.tagged) : Calls Tryz.prog 92 #[.agg #[.int .i64 P.row, .int .i64 P.dev, .int .i64 P.native, .int .i64 P.cost, .int .i64 P.link, .string (str P.name), .slice s.A s.n s.c], .agg #[.int .i64 D.dev, .int .i64 D.vlan, .int .i64 D.vni, .int .i64 D.irb, .int .i64 D.row, .slice t.A t.n t.c]] w fun e w' => e = .returned (.bool (decide (P.dev = D.dev) && mbrB P D.vlan)) ∧ Below w.heap.size w w' := by
  have MB := Lib.hid (fun (w' : World) (hb : Below w.heap.size w w') => member_any2 P s D.vlan w' (allB w') (fun _ hb => hb) (up_rsl h hb))
  clear h
  generalize mbrB P D.vlan = V at *
  have B2 := Lib.hid (show Below w.heap.size w ((w.alloc (.cells #[.int .i64 P.row, .int .i64 P.dev, .int .i64 P.native, .int .i64 P.cost, .int .i64 P.link, .string (str P.name), .slice s.A s.n s.c] 63)).alloc (.cells #[.int .i64 D.dev, .int .i64 D.vlan, .int .i64 D.vni, .int .i64 D.irb, .int .i64 D.row, .slice t.A t.n t.c] 54)) from ((Below.refl _ _).alloc (Nat.le_refl _) _).alloc (by simp) _)
  by_cases h0 : P.dev = D.dev
  · have e : (P.dev == D.dev) = true := by simpa using h0
    rw [decide_eq_true h0]
    clear h0
    go_enter Tryz.func92, Tryz.ntmps92
    go_wp2_with (go_at_call 132; (with_reducible refine (MB.out _ B2.out).mono ?_); rintro e w1 ⟨rfl, hb⟩; have B := Lib.hid (trans_below B2.out hb); clear hb)
    go_ret
    exact ⟨by simp, B.out⟩
  · have e : (P.dev == D.dev) = false := by simpa using h0
    rw [decide_eq_false h0]
    clear h0
    go_enter Tryz.func92, Tryz.ntmps92
    go_wp2
    go_ret
    exact ⟨rfl, B2.out⟩
end Go.Proofs.YthobolmedppneaaGreat

/- The contract of palingref15.peer: may a domain have that peer? (Made by mk-ntpeer.py.) -/
namespace Go.Proofs.YthobolmedppneaaGreat
open Go.RowKit

/-- may a domain, at place i, have that peer? -/
def peerB (N : NV) (i : Nat) (k : Int) : Bool :=
  plB k (N.domains.length : Int) && (!decide (k = (i : Int)) && (decide ((N.domains.getD i DomV.zero).dev ≠ (N.domains.getD k.toNat DomV.zero).dev) && (decide ((N.domains.getD i DomV.zero).vni = (N.domains.getD k.toNat DomV.zero).vni) && (decide ((N.domains.getD i DomV.zero).vni ≠ 0) &&
    (decide ((N.devices.getD (N.domains.getD i DomV.zero).dev.toNat DevV.zero).vtep ≠ 0) && (decide ((N.devices.getD (N.domains.getD k.toNat DomV.zero).dev.toNat DevV.zero).vtep ≠ 0) && memB (N.domains.getD k.toNat DomV.zero).peers (i : Int)))))))
end Go.Proofs.YthobolmedppneaaGreat

/- The contract of palingref15.domains: may all domains be? (Made by mk-ntdoms.py.) -/
namespace Go.Proofs.YthobolmedppneaaGreat
open Go.RowKit

/-- may a domain be, at place i, but for its peers? -/
structure DomOk (N : NV) (i : Nat) (D : DomV) : Prop where
  dev : plB D.dev (N.devices.length : Int) = true
  vlan : 1 ≤ D.vlan ∧ D.vlan ≤ 4094
  vni : 0 ≤ D.vni ∧ D.vni < 16777216
  one : atF N D.dev D.vlan = (i : Int)
  irb : D.irb = -1 ∨ (plB D.irb (N.irbs.length : Int) = true ∧ (N.irbs.getD D.irb.toNat IrbV.zero).dom = (i : Int))
/-- its peers -/
def PeersOk (N : NV) (i : Nat) (D : DomV) : Prop := ∀ j, j < D.peers.length → peerB N i (D.peers.getD j 0) = true ∧ memB (D.peers.take j) (D.peers.getD j 0) = false
def DomsOk (N : NV) : Prop := (∀ i, i < N.domains.length → DomOk N i (N.domains.getD i DomV.zero)) ∧ ∀ i, i < N.domains.length → PeersOk N i (N.domains.getD i DomV.zero)
theorem isl_take {w : World} {k : IntKind} {A : Option Addr} {n c j : Nat} {xs : List Int} (h : ISl w k A n c xs) (hj : j ≤ n) : ISl w k A j c (xs.take j) :=
  ⟨by rw [List.length_take, h.1]; omega, Nat.le_trans hj h.2.1, h.2.2.1, fun hn => by
    obtain ⟨b, off, e, hl, hc⟩ := h.2.2.2 (by omega)
    refine ⟨b, off, e, hl, fun i hi => ?_⟩
    rw [hc i (by omega)]
    simp [List.getD, hi]⟩
end Go.Proofs.YthobolmedppneaaGreat

/- The contract of palingref15.ports: may all ports be? (Made by mk-ntports.py.) -/
namespace Go.Proofs.YthobolmedppneaaGreat
open Go.RowKit

/-- may a port be, at place i? -/
structure PortOk (N : NV) (i : Nat) (P : PortV) : Prop where
  dev : plB P.dev (N.devices.length : Int) = true
  lo : 0 ≤ P.native
  hi : P.native ≤ 4094
  tag : rsB P.tagged 4094 = true
  out : memB P.tagged P.native = false
  one : ¬ (P.native = 0 ∧ P.tagged = [])
  dom : 0 < P.native → 0 ≤ atF N P.dev P.native
  doms : ∀ j, j < P.tagged.length → 0 ≤ atF N P.dev (P.tagged.getD j 0)
  link : P.link = -1 ∨ (plB P.link (N.links.length : Int) = true ∧ ((N.links.getD P.link.toNat LinkV.zero).a = (i : Int) ∨ (N.links.getD P.link.toNat LinkV.zero).b = (i : Int)))
end Go.Proofs.YthobolmedppneaaGreat

/- The contracts of palingref15.links and palingref15.peer: may all links be; may a domain have that peer? (Made by mk-ntlinks.py.) -/
namespace Go.Proofs.YthobolmedppneaaGreat
open Go.RowKit

/-- may a link be, at place i? -/
structure LinkOk (N : NV) (i : Nat) (L : LinkV) : Prop where
  a : plB L.a (N.ports.length : Int) = true
  b : plB L.b (N.ports.length : Int) = true
  dev : (N.ports.getD L.a.toNat PortV.zero).dev ≠ (N.ports.getD L.b.toNat PortV.zero).dev
  la : (N.ports.getD L.a.toNat PortV.zero).link = (i : Int)
  lb : (N.ports.getD L.b.toNat PortV.zero).link = (i : Int)
end Go.Proofs.YthobolmedppneaaGreat

/- The contract of palingref15.rest: may statics, floods, VRFs and interfaces be? (Made by mk-ntrest.py.) -/
namespace Go.Proofs.YthobolmedppneaaGreat
open Go.RowKit

structure StatOk (N : NV) (T : StatV) : Prop where
  dom : plB T.dom (N.domains.length : Int) = true
  port : plB T.port (N.ports.length : Int) = true
  dev : (N.ports.getD T.port.toNat PortV.zero).dev = (N.domains.getD T.dom.toNat DomV.zero).dev
  mbr : mbrB (N.ports.getD T.port.toNat PortV.zero) (N.domains.getD T.dom.toNat DomV.zero).vlan = true
structure FloodOk (N : NV) (T : FloodV) : Prop where
  dev : plB T.dev (N.devices.length : Int) = true
  most : T.addrs.length ≤ 16
structure VrfOk (N : NV) (T : VrfV) : Prop where
  dev : plB T.dev (N.devices.length : Int) = true
  imp : rsB T.imports 65535 = true
  exp : rsB T.exports 65535 = true
structure IrbOk (N : NV) (i : Nat) (T : IrbV) : Prop where
  dom : plB T.dom (N.domains.length : Int) = true
  vrf : plB T.vrf (N.vrfs.length : Int) = true
  bits : 1 ≤ T.bits ∧ T.bits ≤ 30
  dev : (N.domains.getD T.dom.toNat DomV.zero).dev = (N.vrfs.getD T.vrf.toNat VrfV.zero).dev
  irb : (N.domains.getD T.dom.toNat DomV.zero).irb = (i : Int)
structure RestOk (N : NV) : Prop where
  st : ∀ i, i < N.statics.length → StatOk N (N.statics.getD i StatV.zero)
  fl : ∀ i, i < N.floods.length → FloodOk N (N.floods.getD i FloodV.zero)
  vr : ∀ i, i < N.vrfs.length → VrfOk N (N.vrfs.getD i VrfV.zero)
  ir : ∀ i, i < N.irbs.length → IrbOk N i (N.irbs.getD i IrbV.zero)
end Go.Proofs.YthobolmedppneaaGreat

/- The contract of palingref15.Right: may the net be? (Made by mk-ntright.py.) -/
namespace Go.Proofs.YthobolmedppneaaGreat
open Go.RowKit

/-- may the net be? -/
structure NetOk (N : NV) : Prop where
  zdv : N.devices.length ≤ 8
  zpt : N.ports.length ≤ 40
  zlk : N.links.length ≤ 20
  zdm : N.domains.length ≤ 48
  zst : N.statics.length ≤ 64
  zfl : N.floods.length ≤ 48
  zvr : N.vrfs.length ≤ 16
  zir : N.irbs.length ≤ 48
  dm : DomsOk N
  pt : ∀ i, i < N.ports.length → PortOk N i (N.ports.getD i PortV.zero)
  lk : ∀ i, i < N.links.length → LinkOk N i (N.links.getD i LinkV.zero)
  rs : RestOk N
noncomputable def netB (N : NV) : Bool := @decide (NetOk N) (Classical.propDecidable _)
theorem netB_yes {N : NV} (h : NetOk N) : netB N = true := by
  unfold netB
  exact @decide_eq_true _ (Classical.propDecidable _) h
theorem netB_iff (N : NV) : netB N = true ↔ NetOk N := by
  unfold netB
  exact @decide_eq_true_iff _ (Classical.propDecidable _)
end Go.Proofs.YthobolmedppneaaGreat

