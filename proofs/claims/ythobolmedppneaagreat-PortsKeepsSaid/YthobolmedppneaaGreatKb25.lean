/- XNoMath; XNoPutM; XNoWords; XTxExact -/
import Derived.Test.YthobolmedppneaaGreatKb17
import Derived.Test.YthobolmedppneaaGreatKb18
import Derived.Test.YthobolmedppneaaGreatKb20
import Derived.Test.YthobolmedppneaaGreatKb24
import Derived.Test.YthobolmedppneaaGreatKb05
import Derived.Test.YthobolmedppneaaGreatKb04
import Derived.Test.YthobolmedppneaaGreatKb01
import Derived.Test.YthobolmedppneaaGreatKb03
import Derived.Deep.CutBlock
import Derived.Deep.DeepCutAuto
import Derived.RegionTactic
import Derived.Deep.RegionHeldLaw
import Derived.Test.YthobolmedppneaaGreatShelf
import Derived.StillTail
/- Devices' and ports' lines, written and read again: such a line may be just if it is the line of the words that it is written as. -/
namespace Go.Proofs.YthobolmedppneaaGreat.Mac
open Go.RowKit

end Go.Proofs.YthobolmedppneaaGreat.Mac

namespace Go.Proofs.YthobolmedppneaaGreat
open Go.RowKit
open Go.Lib (itoa)

/-! What may be is what is read. -/
theorem may0_of {s : List UInt8} (h : mayB 0 { WV.zero with text := s } = true) : nmB s = true := by rw [may_plain rfl] at h; exact h
theorem may_num_of {w : Nat} {lo hi x : Int} (ho : optB w = false) (hw : mayW w { WV.zero with n := x } = (decide (lo ≤ x) && decide (x ≤ hi))) (h : mayB w { WV.zero with n := x } = true) : lo ≤ x ∧ x ≤ hi := by
  rw [may_plain ho, hw, Bool.and_eq_true, decide_eq_true_eq, decide_eq_true_eq] at h
  exact h
theorem may5_of {x : Int} (h : mayB 5 { WV.zero with n := x } = true) : 0 ≤ x ∧ x ≤ 4094 := by
  by_cases e : x = 0
  · omega
  · rw [may_w (V := { WV.zero with n := x }) (fun g => e g.1)] at h
    have h2 : (decide ((1 : Int) ≤ x) && decide (x ≤ 4094)) = true := h
    rw [Bool.and_eq_true, decide_eq_true_eq, decide_eq_true_eq] at h2
    omega
theorem may10_of {xs : List Int} (h : mayB 10 { WV.zero with list := xs } = true) : LsOk 4094 xs := by
  by_cases e : xs = []
  · exact .inl e
  · rw [may_w (V := { WV.zero with list := xs }) (fun g => e g.2)] at h
    exact .inr h
theorem rg_of {w f : Nat} {ps : List (Nat × Nat)} {L M : LV} (h : rgRun ((w, f) :: ps) L = some M) : mayB w (ftake f L WV.zero) = true ∧ rgRun ps (fput f L WV.zero) = some M := by
  rw [rgRun] at h
  by_cases g : mayB w (ftake f L WV.zero) = true
  · rw [if_pos g] at h; exact ⟨g, h⟩
  · rw [if_neg g] at h; cases h
theorem rg_ap {L : LV} (h : rgB L = true) : apB L = true := by
  cases hr : rgRun (pts L.kind true) L with
  | none => rw [rgB_none hr] at h; cases h
  | some M =>
    rw [rgB_some hr, Bool.and_eq_true, Bool.and_eq_true] at h
    exact h.1.2
theorem rg_kd2 {L : LV} (h : rgB L = true) (k : L.kind = 2) : Kd2 L.row L ∧ mbB L = true := by
  have ha := rg_ap h
  have hp : pts L.kind true = [(0, 0), (0, 1), (3, 8), (1, 5), (5, 7), (10, 12)] := by rw [k]; rfl
  have h1 := (rgB_yes h).2
  rw [hp] at h1
  obtain ⟨a1, h1⟩ := rg_of h1
  obtain ⟨a2, h1⟩ := rg_of h1
  obtain ⟨a3, h1⟩ := rg_of h1
  obtain ⟨_, h1⟩ := rg_of h1
  obtain ⟨a5, h1⟩ := rg_of h1
  obtain ⟨a6, h1⟩ := rg_of h1
  obtain ⟨f0, f1, f2, f3, f4, f5, f6, f7, f8, f9, f10, f11, f12, f13, f14, f15, f16⟩ := L
  dsimp only at k
  subst k
  have h2 : ({ (⟨f0, 2, f2, f3, f4, f5, f6, f7, f8, f9, f10, f11, f12, f13, f14, f15, f16⟩ : LV) with dev := [], port := [], cost := 0, vlan := 0, tagged := [] } : LV) = LV.new f0 2 := by injection h1
  simp only [LV.new, LV.mk.injEq] at h2
  obtain ⟨_, _, _, _, rfl, rfl, rfl, rfl, rfl, rfl, _, rfl, _, _, rfl, rfl, rfl⟩ := h2
  have hv : 0 ≤ f10 ∧ f10 ≤ 4094 := may5_of a5
  have kd : Kd2 f0 ⟨f0, 2, f2, f3, [], [], [], 0, 0, 0, f10, 0, f12, f13, [], [], []⟩ := ⟨f2, f3, f12, f10, f13, rfl, may0_of a1, may0_of a2, may_num_of (w := 3) (lo := 1) (hi := 65535) rfl rfl a3, hv, may10_of a6⟩
  refine ⟨kd, ?_⟩
  have ha2 : ((decide (f10 ≠ 0) || decide (0 < f13.length)) && !(f13.any (fun x => decide (x = f10)))) = true := ha
  rw [Bool.and_eq_true, Bool.or_eq_true, decide_eq_true_eq, decide_eq_true_eq, Bool.not_eq_true', List.any_eq_false] at ha2
  show (f13.all (fun x => !decide (x = f10)) && (decide (0 < f10) || decide (0 < f13.length))) = true
  rw [Bool.and_eq_true, Bool.or_eq_true, decide_eq_true_eq, decide_eq_true_eq, List.all_eq_true]
  refine ⟨fun x hx => ?_, ?_⟩
  · have := ha2.2 x hx
    simpa using this
  · rcases ha2.1 with g | g
    · exact .inl (by omega)
    · exact .inr g
end Go.Proofs.YthobolmedppneaaGreat

/- What a net is with a device, or a port: plain facts; it may be, and all that was there stands where it stood. -/
namespace Go.Proofs.YthobolmedppneaaGreat
open Go.RowKit

theorem getD_app {α : Type} (xs ys : List α) (i : Nat) (d : α) : (xs ++ ys).getD i d = if i < xs.length then xs.getD i d else ys.getD (i - xs.length) d := by
  by_cases h : i < xs.length
  · rw [if_pos h]; simp [List.getD, List.getElem?_append_left h]
  · rw [if_neg h]; simp [List.getD, List.getElem?_append_right (Nat.le_of_not_lt h)]
theorem getD_old {α : Type} {xs ys : List α} {i : Nat} {d : α} (h : i < xs.length) : (xs ++ ys).getD i d = xs.getD i d := by rw [getD_app, if_pos h]
theorem getD_new {α : Type} {xs ys : List α} {j : Nat} {d : α} : (xs ++ ys).getD (xs.length + j) d = ys.getD j d := by rw [getD_app, if_neg (by omega), Nat.add_sub_cancel_left]
/-! Places of domains. -/
theorem atK_cases (dev v : Int) : ∀ (xs : List DomV) (k : Nat), atK xs dev v k = -1 ∨ (k : Int) ≤ atK xs dev v k
  | [], k => .inl rfl
  | d :: r, k => by
    unfold atK
    by_cases c : d.dev = dev ∧ d.vlan = v
    · rw [if_pos c]; exact .inr (Int.le_refl _)
    · rw [if_neg c]
      rcases atK_cases dev v r (k + 1) with h | h
      · exact .inl h
      · exact .inr (by omega)
theorem atK_cons (dev v : Int) (d : DomV) (r : List DomV) (k : Nat) : atK (d :: r) dev v k = if d.dev = dev ∧ d.vlan = v then (k : Int) else atK r dev v (k + 1) := rfl
theorem atK_app (dev v : Int) : ∀ (xs ys : List DomV) (k : Nat), atK (xs ++ ys) dev v k = if atK xs dev v k = -1 then atK ys dev v (k + xs.length) else atK xs dev v k
  | [], ys, k => by simp [atK]
  | d :: r, ys, k => by
    rw [List.cons_append, atK_cons, atK_cons]
    by_cases c : d.dev = dev ∧ d.vlan = v
    · rw [if_pos c, if_pos c, if_neg (by omega)]
    · rw [if_neg c, if_neg c, atK_app dev v r ys (k + 1), List.length_cons, show k + 1 + r.length = k + (r.length + 1) by omega]
theorem atF_cases (N : NV) (dev v : Int) : atF N dev v = -1 ∨ 0 ≤ atF N dev v := atK_cases dev v N.domains 0
/-- new domains of a device -/
def newD (dev v : Int) : DomV := ⟨dev, v, 0, -1, 0, []⟩
theorem atK_new (dev d v : Int) : ∀ (vs : List Int) (k : Nat), (d = dev ∧ v ∈ vs → ∃ j, j < vs.length ∧ vs.getD j 0 = v ∧ atK (vs.map (newD dev)) d v k = ((k + j : Nat) : Int)) ∧ (¬ (d = dev ∧ v ∈ vs) → atK (vs.map (newD dev)) d v k = -1)
  | [], k => ⟨fun h => by simp at h, fun _ => rfl⟩
  | x :: r, k => by
    rw [List.map_cons]
    unfold atK
    have ih := atK_new dev d v r (k + 1)
    by_cases c : (newD dev x).dev = d ∧ (newD dev x).vlan = v
    · have c1 : dev = d := c.1
      have c2 : x = v := c.2
      rw [if_pos c]
      refine ⟨fun _ => ⟨0, by simp, by simpa using c2, by simp⟩, fun h => absurd ⟨c1.symm, by rw [c2]; simp⟩ h⟩
    · rw [if_neg c]
      refine ⟨fun h => ?_, fun h => ih.2 (fun g => h ⟨g.1, List.mem_cons_of_mem _ g.2⟩)⟩
      have hx : x ≠ v := fun e => c ⟨h.1.symm, e⟩
      have hm : v ∈ r := by
        rcases List.mem_cons.1 h.2 with e | e
        · exact absurd e.symm hx
        · exact e
      obtain ⟨j, h1, h2, h3⟩ := ih.1 ⟨h.1, hm⟩
      exact ⟨j + 1, by simpa using h1, by simpa using h2, by rw [h3]; congr 1; omega⟩
theorem nodup_idx : ∀ {l : List Int} {a b : Nat}, l.Nodup → a < l.length → b < l.length → l.getD a 0 = l.getD b 0 → a = b := by
  intro l a b h ha hb e
  simp only [List.getD, List.getElem?_eq_getElem ha, List.getElem?_eq_getElem hb, Option.getD_some] at e
  exact (List.getElem_inj h).1 e
/-! Numbers that rise are unlike. -/
theorem up_lt {xs : List Int} {n : Nat} (h : Up xs n) : ∀ j i, i < j → j < n → xs.getD i 0 < xs.getD j 0 := by
  intro j
  induction j with
  | zero => intro i hi; omega
  | succ j ih =>
    intro i hi hj
    have h1 := h (j + 1) (by omega) hj
    rw [Nat.add_sub_cancel] at h1
    by_cases e : i = j
    · subst e; exact h1
    · have := ih i (by omega) (by omega); omega
theorem up_nodup {xs : List Int} (h : Up xs xs.length) : xs.Nodup := by
  rw [List.nodup_iff_pairwise_ne, List.pairwise_iff_getElem]
  intro i j hi hj hij
  have := up_lt h j i hij hj
  simp only [List.getD, List.getElem?_eq_getElem hi, List.getElem?_eq_getElem hj, Option.getD_some] at this
  omega
theorem ls_nodup {hi : Int} {xs : List Int} (h : LsOk hi xs) : xs.Nodup := by
  rcases h with h | h
  · rw [h]; exact List.nodup_nil
  · unfold risIn at h
    rw [Bool.and_eq_true] at h
    exact up_nodup ((risB_iff xs).1 h.1).2.2
theorem ls_range {hi : Int} {xs : List Int} (h : LsOk hi xs) : ∀ x ∈ xs, 1 ≤ x ∧ x ≤ hi := by
  intro x hx
  rcases h with h | h
  · rw [h] at hx; cases hx
  · unfold risIn at h
    rw [Bool.and_eq_true] at h
    have h2 := List.all_eq_true.1 h.2 x hx
    simpa using h2
/-! What is put. -/
noncomputable def fitsB (N : NV) (L : LV) (k : Int) : Bool := decide (L.kind = k) && (rgB L && netB N)
def dvDup (N : NV) (L : LV) : Bool := N.devices.any fun d => decide (d.name = L.dev) || decide (d.mac = L.mac)
noncomputable def pdE (N : NV) (L : LV) : Int := if fitsB N L 1 = false then 2 else if dvDup N L = true then 30 else if 8 ≤ N.devices.length then 3 else 0
def devOf (L : LV) : DevV := ⟨L.row, L.num, L.dev, L.mac, 0⟩
def withDev (N : NV) (L : LV) : NV := { N with devices := N.devices ++ [devOf L] }
noncomputable def pdN (N : NV) (L : LV) : NV := if pdE N L = 0 then withDev N L else NV.zero
/-- the VLANs that a device has no domain for -/
def lkL (N : NV) (dev : Int) (L : LV) : List Int := (L.vlan :: L.tagged).filter fun v => decide (v ≠ 0) && decide (atF N dev v = -1)
noncomputable def ppE (N : NV) (L : LV) : Int :=
  if fitsB N L 2 = false then 2 else if dvF N L.dev < 0 then 31 else if 0 ≤ ptF N (dvF N L.dev) L.port then 30
  else if 40 ≤ N.ports.length ∨ 48 < N.domains.length + (lkL N (dvF N L.dev) L).length then 3 else 0
def portOf (N : NV) (L : LV) : PortV := ⟨L.row, dvF N L.dev, L.vlan, L.cost, -1, L.port, L.tagged⟩
def withPort (N : NV) (L : LV) : NV := { N with ports := N.ports ++ [portOf N L], domains := N.domains ++ (lkL N (dvF N L.dev) L).map (newD (dvF N L.dev)) }
noncomputable def ppN (N : NV) (L : LV) : NV := if ppE N L = 0 then withPort N L else NV.zero
theorem fits_iff {N : NV} {L : LV} {k : Int} : fitsB N L k = true ↔ L.kind = k ∧ rgB L = true ∧ NetOk N := by
  unfold fitsB
  rw [Bool.and_eq_true, Bool.and_eq_true, decide_eq_true_eq, netB_iff]
theorem dv_place {N : NV} {s : List UInt8} (h : 0 ≤ dvF N s) : ∃ j, j < N.devices.length ∧ dvF N s = (j : Int) ∧ (N.devices.getD j DevV.zero).name = s := by
  rcases dvK_fst s N.devices 0 _ rfl with ⟨j, h1, h2, h3, _⟩ | ⟨h1, _⟩
  · exact ⟨j, h1, by unfold dvF; rw [h2]; congr 1; omega, h3⟩
  · unfold dvF at h; rw [h1] at h; omega
/-! A net with a device. -/
theorem pl_old {x : Int} {m n : Nat} (h : plB x (m : Int) = true) (hmn : m ≤ n) : plB x (n : Int) = true := by
  rw [plB_iff] at h ⊢
  omega
theorem pl_nat {x : Int} {m : Nat} (h : plB x (m : Int) = true) : x.toNat < m := by
  rw [plB_iff] at h
  omega
theorem withDev_ok {N : NV} {L : LV} (h : NetOk N) (hz : N.devices.length < 8) : NetOk (withDev N L) := by
  have hl : (withDev N L).devices.length = N.devices.length + 1 := by simp [withDev]
  have up : ∀ {x : Int}, plB x (N.devices.length : Int) = true → plB x ((withDev N L).devices.length : Int) = true := fun g => pl_old g (by omega)
  have hdm := h.dm
  refine ⟨by omega, h.zpt, h.zlk, h.zdm, h.zst, h.zfl, h.zvr, h.zir, ⟨fun i hi => ?_, fun i hi => ?_⟩, fun i hi => ?_, fun i hi => ?_, ⟨fun i hi => ?_, fun i hi => ?_, fun i hi => ?_, fun i hi => ?_⟩⟩
  · have g := hdm.1 i hi
    exact ⟨up g.dev, g.vlan, g.vni, g.one, g.irb⟩
  · intro j hj
    obtain ⟨g1, g2⟩ := hdm.2 i hi j hj
    refine ⟨?_, g2⟩
    have a := (hdm.1 i hi).dev
    have hk : plB ((N.domains.getD i DomV.zero).peers.getD j 0) (N.domains.length : Int) = true := by
      unfold peerB at g1
      rw [Bool.and_eq_true] at g1
      exact g1.1
    have b := (hdm.1 _ (pl_nat hk)).dev
    have e1 : (withDev N L).devices.getD (N.domains.getD i DomV.zero).dev.toNat DevV.zero = N.devices.getD (N.domains.getD i DomV.zero).dev.toNat DevV.zero := getD_old (pl_nat a)
    have e2 : (withDev N L).devices.getD (N.domains.getD ((N.domains.getD i DomV.zero).peers.getD j 0).toNat DomV.zero).dev.toNat DevV.zero = N.devices.getD (N.domains.getD ((N.domains.getD i DomV.zero).peers.getD j 0).toNat DomV.zero).dev.toNat DevV.zero := getD_old (pl_nat b)
    rw [show (withDev N L).domains = N.domains from rfl]
    unfold peerB at g1 ⊢
    rw [show (withDev N L).domains = N.domains from rfl, e1, e2]
    exact g1
  · have g := h.pt i hi
    exact ⟨up g.dev, g.lo, g.hi, g.tag, g.out, g.one, g.dom, g.doms, g.link⟩
  · have g := h.lk i hi
    exact ⟨g.a, g.b, g.dev, g.la, g.lb⟩
  · have g := h.rs.st i hi
    exact ⟨g.dom, g.port, g.dev, g.mbr⟩
  · have g := h.rs.fl i hi
    exact ⟨up g.dev, g.most⟩
  · have g := h.rs.vr i hi
    exact ⟨up g.dev, g.imp, g.exp⟩
  · have g := h.rs.ir i hi
    exact ⟨g.dom, g.vrf, g.bits, g.dev, g.irb⟩
theorem dvK_app (s : List UInt8) : ∀ (xs : List DevV) (X : DevV) (k : Nat), (∀ i, i < xs.length → (xs.getD i DevV.zero).name ≠ s) → X.name = s → dvK (xs ++ [X]) s k = ((k + xs.length : Nat) : Int)
  | [], X, k, _, hx => by rw [List.nil_append, dvK, if_pos hx]; simp
  | d :: r, X, k, h, hx => by
    rw [List.cons_append, dvK, if_neg (by simpa using h 0 (by simp)), dvK_app s r X (k + 1) (fun i hi => by simpa using h (i + 1) (by simpa using hi)) hx, List.length_cons]
    congr 1
    omega
theorem ptK_app (dev : Int) (s : List UInt8) : ∀ (xs : List PortV) (X : PortV) (k : Nat), ptK xs dev s k = -1 → X.dev = dev ∧ X.name = s → ptK (xs ++ [X]) dev s k = ((k + xs.length : Nat) : Int)
  | [], X, k, _, hx => by rw [List.nil_append, ptK, if_pos hx]; simp
  | d :: r, X, k, h, hx => by
    rw [ptK] at h
    have hc : ¬ (d.dev = dev ∧ d.name = s) := fun c => by rw [if_pos c] at h; omega
    rw [if_neg hc] at h
    rw [List.cons_append, ptK, if_neg hc, ptK_app dev s r X (k + 1) h hx, List.length_cons]
    congr 1
    omega
/-! A net with a port. -/
theorem lk_mem {N : NV} {dev : Int} {L : LV} {v : Int} : v ∈ lkL N dev L ↔ v ∈ L.vlan :: L.tagged ∧ v ≠ 0 ∧ atF N dev v = -1 := by
  unfold lkL
  rw [List.mem_filter, Bool.and_eq_true, decide_eq_true_eq, decide_eq_true_eq]
theorem kd2_nodup {row : Int} {L : LV} (h : Kd2 row L) (hb : mbB L = true) : (L.vlan :: L.tagged).Nodup := by
  obtain ⟨s, p, c, v, t, rfl, _, _, _, _, ht⟩ := h
  unfold mbB at hb
  rw [Bool.and_eq_true, List.all_eq_true] at hb
  refine List.nodup_cons.2 ⟨fun hm => ?_, ls_nodup ht⟩
  have := hb.1 v hm
  simp at this
theorem lk_nodup {N : NV} {dev row : Int} {L : LV} (h : Kd2 row L) (hb : mbB L = true) : (lkL N dev L).Nodup := (kd2_nodup h hb).filter _
theorem atF_port {N : NV} {L : LV} (d v : Int) : atF (withPort N L) d v = if atF N d v = -1 then atK ((lkL N (dvF N L.dev) L).map (newD (dvF N L.dev))) d v (0 + N.domains.length) else atF N d v := by
  unfold atF withPort
  exact atK_app d v N.domains _ 0
theorem at_old {N : NV} {L : LV} {d v : Int} (h : 0 ≤ atF N d v) : atF (withPort N L) d v = atF N d v := by
  rw [atF_port, if_neg (by omega)]
theorem at_port {N : NV} {L : LV} {v : Int} (hm : v ∈ L.vlan :: L.tagged) (h0 : v ≠ 0) : 0 ≤ atF (withPort N L) (dvF N L.dev) v := by
  by_cases h : atF N (dvF N L.dev) v = -1
  · rw [atF_port, if_pos h]
    obtain ⟨j, _, _, e⟩ := (atK_new (dvF N L.dev) (dvF N L.dev) v (lkL N (dvF N L.dev) L) (0 + N.domains.length)).1 ⟨rfl, lk_mem.2 ⟨hm, h0, h⟩⟩
    rw [e]
    omega
  · have := atF_cases N (dvF N L.dev) v
    rw [at_old (by omega)]
    omega
theorem withPort_ok {N : NV} {L : LV} (h : NetOk N) {row : Int} (hk : Kd2 row L) (hb : mbB L = true) (hd : 0 ≤ dvF N L.dev) (hz1 : N.ports.length < 40) (hz2 : N.domains.length + (lkL N (dvF N L.dev) L).length ≤ 48) : NetOk (withPort N L) := by
  have hlp : (withPort N L).ports.length = N.ports.length + 1 := by simp [withPort]
  have hld : (withPort N L).domains.length = N.domains.length + (lkL N (dvF N L.dev) L).length := by simp [withPort]
  have hdm := h.dm
  have nd := lk_nodup (N := N) (dev := dvF N L.dev) hk hb
  obtain ⟨jd, hj1, hj2, _⟩ := dv_place hd
  have hpl : plB (dvF N L.dev) (N.devices.length : Int) = true := by rw [plB_iff, hj2]; omega
  have oldD : ∀ {i : Nat}, i < N.domains.length → (withPort N L).domains.getD i DomV.zero = N.domains.getD i DomV.zero := fun hi => getD_old hi
  have oldP : ∀ {i : Nat}, i < N.ports.length → (withPort N L).ports.getD i PortV.zero = N.ports.getD i PortV.zero := fun hi => getD_old hi
  have newDm : ∀ {i : Nat}, ¬ i < N.domains.length → i < (withPort N L).domains.length → ∃ j, j < (lkL N (dvF N L.dev) L).length ∧ i = N.domains.length + j ∧ (withPort N L).domains.getD i DomV.zero = newD (dvF N L.dev) ((lkL N (dvF N L.dev) L).getD j 0) := fun {i} h1 h2 => by
    refine ⟨i - N.domains.length, by omega, by omega, ?_⟩
    have e : i = N.domains.length + (i - N.domains.length) := by omega
    have hj : i - N.domains.length < (lkL N (dvF N L.dev) L).length := by omega
    conv => lhs; rw [e]
    show (N.domains ++ _).getD _ _ = _
    rw [getD_new]
    simp [List.getD, hj]
  have kd := hk
  obtain ⟨s, p, c, v, t, hL, hs, hp, hc, hv, ht⟩ := hk
  have tv : L.vlan = v := by rw [hL]
  have tt : L.tagged = t := by rw [hL]
  have mb := hb
  unfold mbB at mb
  rw [Bool.and_eq_true, List.all_eq_true, Bool.or_eq_true, decide_eq_true_eq, decide_eq_true_eq, tv, tt] at mb
  have rng : ∀ x ∈ L.vlan :: L.tagged, x ≠ 0 → 1 ≤ x ∧ x ≤ 4094 := fun x hx h0 => by
    rcases List.mem_cons.1 hx with e | e
    · rw [e, tv] at h0 ⊢; omega
    · rw [tt] at e; exact ls_range ht x e
  refine ⟨h.zdv, by omega, h.zlk, by omega, h.zst, h.zfl, h.zvr, h.zir, ⟨fun i hi => ?_, fun i hi => ?_⟩, fun i hi => ?_, fun i hi => ?_, ⟨fun i hi => ?_, fun i hi => ?_, fun i hi => ?_, fun i hi => ?_⟩⟩
  · by_cases ho : i < N.domains.length
    · rw [oldD ho]
      have g := hdm.1 i ho
      exact ⟨g.dev, g.vlan, g.vni, by rw [at_old (by rw [g.one]; omega)]; exact g.one, g.irb⟩
    · obtain ⟨j, hj, e, en⟩ := newDm ho hi
      rw [en]
      have hm : (lkL N (dvF N L.dev) L).getD j 0 ∈ lkL N (dvF N L.dev) L := by simp [List.getD, hj]
      have hm2 := lk_mem.1 hm
      refine ⟨hpl, rng _ hm2.1 hm2.2.1, ⟨Int.le_refl 0, show (0 : Int) < 16777216 by decide⟩, ?_, .inl rfl⟩
      show atF (withPort N L) (dvF N L.dev) ((lkL N (dvF N L.dev) L).getD j 0) = _
      rw [atF_port, if_pos hm2.2.2]
      obtain ⟨j2, g1, g2, g3⟩ := (atK_new (dvF N L.dev) (dvF N L.dev) ((lkL N (dvF N L.dev) L).getD j 0) (lkL N (dvF N L.dev) L) (0 + N.domains.length)).1 ⟨rfl, hm⟩
      rw [g3]
      have := nodup_idx nd g1 hj g2
      omega
  · by_cases ho : i < N.domains.length
    · rw [oldD ho]
      intro j hj
      obtain ⟨g1, g2⟩ := hdm.2 i ho j hj
      refine ⟨?_, g2⟩
      have hk2 : plB ((N.domains.getD i DomV.zero).peers.getD j 0) (N.domains.length : Int) = true := by
        unfold peerB at g1
        rw [Bool.and_eq_true] at g1
        exact g1.1
      have e1 := oldD ho
      have e2 := oldD (pl_nat hk2)
      unfold peerB at g1 ⊢
      rw [e1, e2, pl_old hk2 (by omega)]
      rw [hk2] at g1
      exact g1
    · obtain ⟨j, hj, e, en⟩ := newDm ho hi
      rw [en]
      exact fun j hj => absurd hj (Nat.not_lt_zero _)
  · by_cases ho : i < N.ports.length
    · rw [oldP ho]
      have g := h.pt i ho
      exact ⟨g.dev, g.lo, g.hi, g.tag, g.out, g.one, fun g0 => by rw [at_old (g.dom g0)]; exact g.dom g0, fun j hj => by rw [at_old (g.doms j hj)]; exact g.doms j hj, g.link⟩
    · have e : i = N.ports.length + 0 := by omega
      have en : (withPort N L).ports.getD i PortV.zero = portOf N L := by
        rw [e]
        show (N.ports ++ [portOf N L]).getD _ _ = _
        rw [getD_new]
        rfl
      rw [en]
      refine ⟨hpl, ?_, ?_, ?_, ?_, ?_, ?_, ?_, .inl rfl⟩
      · show 0 ≤ L.vlan
        rw [tv]; exact hv.1
      · show L.vlan ≤ 4094
        rw [tv]; exact hv.2
      · show rsB L.tagged 4094 = true
        rw [tt]
        unfold rsB
        rcases ht with e | e
        · rw [decide_eq_true e, Bool.true_or]
        · rw [e, Bool.or_true]
      · show memB L.tagged L.vlan = false
        unfold memB
        rw [tt, tv]
        refine decide_eq_false (fun hm => ?_)
        have := mb.1 v hm
        simp at this
      · show ¬ (L.vlan = 0 ∧ L.tagged = [])
        rw [tt, tv]
        rintro ⟨e1, e2⟩
        rcases mb.2 with g | g
        · omega
        · rw [e2] at g; simp at g
      · intro g0
        have g0 : 0 < L.vlan := g0
        exact at_port List.mem_cons_self (by omega)
      · intro j hj
        have hj : j < L.tagged.length := hj
        have hm : L.tagged.getD j 0 ∈ L.tagged := by simp [List.getD, hj]
        have hr := ls_range ht _ (by rw [← tt]; exact hm)
        exact at_port (v := L.tagged.getD j 0) (List.mem_cons_of_mem _ hm) (by omega)
  · have g := h.lk i hi
    have e1 := oldP (pl_nat g.a)
    have e2 := oldP (pl_nat g.b)
    refine ⟨pl_old g.a (by omega), pl_old g.b (by omega), ?_, ?_, ?_⟩
    · rw [show (withPort N L).links = N.links from rfl, e1, e2]; exact g.dev
    · rw [show (withPort N L).links = N.links from rfl, e1]; exact g.la
    · rw [show (withPort N L).links = N.links from rfl, e2]; exact g.lb
  · have g := h.rs.st i hi
    have e1 := oldP (pl_nat g.port)
    have e2 := oldD (pl_nat g.dom)
    refine ⟨pl_old g.dom (by omega), pl_old g.port (by omega), ?_, ?_⟩
    · rw [show (withPort N L).statics = N.statics from rfl, e1, e2]; exact g.dev
    · rw [show (withPort N L).statics = N.statics from rfl, e1, e2]; exact g.mbr
  · have g := h.rs.fl i hi
    exact ⟨g.dev, g.most⟩
  · have g := h.rs.vr i hi
    exact ⟨g.dev, g.imp, g.exp⟩
  · have g := h.rs.ir i hi
    have e2 := oldD (pl_nat g.dom)
    refine ⟨pl_old g.dom (by omega), g.vrf, g.bits, ?_, ?_⟩
    · rw [show (withPort N L).irbs = N.irbs from rfl, e2]; exact g.dev
    · rw [show (withPort N L).irbs = N.irbs from rfl, e2]; exact g.irb
end Go.Proofs.YthobolmedppneaaGreat

/- The words that a device's, or a port's, line is written as, and whether it may be: the contracts of palingref11.Words, Right. (Made by mk-nowords.py.) -/
namespace Go.Proofs.YthobolmedppneaaGreat
open Go.RowKit

def I64 (x : Int) : Prop := -9223372036854775808 ≤ x ∧ x ≤ 9223372036854775807
/-- a line whose numbers are within their kinds -/
structure LvW (L : LV) : Prop where
  row : I64 L.row
  kind : I64 L.kind
  mac : 0 ≤ L.mac ∧ L.mac < 18446744073709551616
  addr : 0 ≤ L.addr ∧ L.addr < 4294967296
  bits : I64 L.bits
  vlan : I64 L.vlan
  num : I64 L.num
  cost : I64 L.cost
  tagged : ∀ x ∈ L.tagged, I64 x
  imports : ∀ x ∈ L.imports, I64 x
  exports : ∀ x ∈ L.exports, I64 x
  addrs : ∀ x ∈ L.addrs, 0 ≤ x ∧ x < 4294967296
end Go.Proofs.YthobolmedppneaaGreat

/- The contract of palingref12.Exact at two values of one list of lines. The chapter's example: which lines the text has; and one that has a wrong row. -/
namespace Go.Proofs.YthobolmedppneaaGreat
open Go.RowKit

/-- the element at k of a list of lines: its cells -/
theorem lines_at {w : World} {A : Option Addr} {n c : Nat} {xs : List LV} (h : RSl lineR w (allB w) A n c xs) (k : Nat) (hk : k < n) :
    ∃ b off s1 s2 s3 s4, A = some ⟨b, off, none⟩ ∧ b < w.heap.size ∧ LRead w (xs.getD k LV.zero) s1 s2 s3 s4 ∧ w.rangeAt b (off + k * 17) (lineC (xs.getD k LV.zero) s1 s2 s3 s4) := by
  obtain ⟨b, off, e, _, hb, hc⟩ := h.at_ (by omega)
  have hl : k < xs.length := by rw [h.len]; exact hk
  have e2 : xs.getD k LV.zero = xs[k] := by simp [List.getD, hl]
  obtain ⟨vs, h1, h2⟩ := hc k xs[k] (List.getElem?_eq_getElem hl)
  obtain ⟨s1, s2, s3, s4, rfl, h3⟩ := line_read h1
  exact ⟨b, off, s1, s2, s3, s4, e, hb, by rw [e2]; exact h3, by rw [e2]; exact h2⟩
end Go.Proofs.YthobolmedppneaaGreat

namespace Go.Proofs.YthobolmedppneaaGreat
open Go.RowKit

end Go.Proofs.YthobolmedppneaaGreat

