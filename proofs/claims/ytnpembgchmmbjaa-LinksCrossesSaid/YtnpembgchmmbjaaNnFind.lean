/- Package names: Device, Port, Domain, Member, Members. (Made by mk-nnfind.py.) -/
import Derived.Test.YtnpembgchmmbjaaNnRight
import Derived.Test.YtnpembgchmmbjaaNtMm
import Derived.Test.YtnpembgchmmbjaaNtEx
namespace Go.Proofs.Ytnpembgchmmbjaa
open Go.RowKit

theorem xnmember_any (P : PortV) (s : Sl3) (v : Int) (w : World) (F : Nat → Prop) (hF : ∀ b, F b → b < w.heap.size) (h : RSl (Rdr.int .i64) w F s.A s.n s.c P.tagged) (_hs : P.tagged.length ≤ 100) : Calls Try.prog 14 #[.agg (portC P s).toArray, .int .i64 v] w fun e w' => e = .returned (.bool (mbrB P v)) ∧ Below w.heap.size w w' := member_any2 P s v w F hF h
theorem dvK_fst (s : List UInt8) : ∀ (xs : List DevV) (k n : Nat), n = xs.length → (∃ j, j < n ∧ dvK xs s k = ((k + j : Nat) : Int) ∧ ((xs.getD j DevV.zero).name = s) ∧ ∀ i, i < j → ¬ ((xs.getD i DevV.zero).name = s)) ∨ (dvK xs s k = -1 ∧ ∀ i, i < n → ¬ ((xs.getD i DevV.zero).name = s))
  | [], k, n, h => .inr ⟨rfl, fun i hi => absurd hi (by simp at h; omega)⟩
  | d :: r, k, n, h => by
    by_cases hd : d.name = s
    · exact .inl ⟨0, by simp at h; omega, by rw [dvK, if_pos hd]; simp, hd, fun i hi => absurd hi (by omega)⟩
    · rcases dvK_fst s r (k + 1) r.length rfl with ⟨j, h1, h2, h3, h4⟩ | ⟨h1, h2⟩
      · refine .inl ⟨j + 1, by simp at h; omega, by rw [dvK, if_neg hd, h2]; congr 1; omega, by simpa using h3, fun i hi => ?_⟩
        match i with
        | 0 => simpa using hd
        | i + 1 => simpa using h4 i (by omega)
      · refine .inr ⟨by rw [dvK, if_neg hd, h1], fun i hi => ?_⟩
        match i with
        | 0 => simpa using hd
        | i + 1 => simpa using h2 i (by simp at h; omega)
theorem dvF_fst (N : NV) (s : List UInt8) (n : Nat) (hn : N.devices.length = n) : IsFst (fun k => decide ((N.devices.getD k DevV.zero).name = s)) n (dvF N s) := by
  rcases dvK_fst s N.devices 0 n hn.symm with ⟨j, h1, h2, h3, h4⟩ | ⟨h1, h2⟩
  · exact .inl ⟨j, h1, by unfold dvF; rw [h2]; congr 1; omega, decide_eq_true h3, fun i hi => decide_eq_false (h4 i hi)⟩
  · exact .inr ⟨h1, fun i hi => decide_eq_false (h2 i hi)⟩
theorem ptK_fst (dev : Int) (s : List UInt8) : ∀ (xs : List PortV) (k n : Nat), n = xs.length → (∃ j, j < n ∧ ptK xs dev s k = ((k + j : Nat) : Int) ∧ ((xs.getD j PortV.zero).dev = dev ∧ (xs.getD j PortV.zero).name = s) ∧ ∀ i, i < j → ¬ ((xs.getD i PortV.zero).dev = dev ∧ (xs.getD i PortV.zero).name = s)) ∨ (ptK xs dev s k = -1 ∧ ∀ i, i < n → ¬ ((xs.getD i PortV.zero).dev = dev ∧ (xs.getD i PortV.zero).name = s))
  | [], k, n, h => .inr ⟨rfl, fun i hi => absurd hi (by simp at h; omega)⟩
  | d :: r, k, n, h => by
    by_cases hd : d.dev = dev ∧ d.name = s
    · exact .inl ⟨0, by simp at h; omega, by rw [ptK, if_pos hd]; simp, hd, fun i hi => absurd hi (by omega)⟩
    · rcases ptK_fst dev s r (k + 1) r.length rfl with ⟨j, h1, h2, h3, h4⟩ | ⟨h1, h2⟩
      · refine .inl ⟨j + 1, by simp at h; omega, by rw [ptK, if_neg hd, h2]; congr 1; omega, by simpa using h3, fun i hi => ?_⟩
        match i with
        | 0 => simpa using hd
        | i + 1 => simpa using h4 i (by omega)
      · refine .inr ⟨by rw [ptK, if_neg hd, h1], fun i hi => ?_⟩
        match i with
        | 0 => simpa using hd
        | i + 1 => simpa using h2 i (by simp at h; omega)
theorem ptF_fst (N : NV) (dev : Int) (s : List UInt8) (n : Nat) (hn : N.ports.length = n) : IsFst (fun k => decide ((N.ports.getD k PortV.zero).dev = dev ∧ (N.ports.getD k PortV.zero).name = s)) n (ptF N dev s) := by
  rcases ptK_fst dev s N.ports 0 n hn.symm with ⟨j, h1, h2, h3, h4⟩ | ⟨h1, h2⟩
  · exact .inl ⟨j, h1, by unfold ptF; rw [h2]; congr 1; omega, decide_eq_true h3, fun i hi => decide_eq_false (h4 i hi)⟩
  · exact .inr ⟨h1, fun i hi => decide_eq_false (h2 i hi)⟩
set_option maxRecDepth 20000 in
theorem xndomain_any (N : NV) (S : NSl3) (dev v : Int) (w : World) (h : NRead w (allB w) N S) (hs : NvSz N) (hn : NetOk N) : Calls Try.prog 18 #[netV S, .int .i64 dev, .int .i64 v] w fun e w' => e = .returned (.int .i64 (atF N dev v)) ∧ Below w.heap.size w w' := by
  have RT := fun (w' : World) (hb : Below w.heap.size w w') => xnright_any N S w' (h.up hb) hs
  have FD := fun (w' : World) (hb : Below w.heap.size w w') => find_any N S dev v w' (h.up hb)
  have KB := Lib.hid (show ∀ W, w.alloc (.cells (nA S) 31) = W → ∀ wx, Below W.heap.size W wx → (NF wx w.heap.size S) from fun W hW wx hx => by
    have n := ((net_c1 S _ hW).1.below hx).1
    exact ⟨n 0 _ rfl, n 1 _ rfl, n 2 _ rfl, n 3 _ rfl, n 4 _ rfl, n 5 _ rfl, n 6 _ rfl, n 7 _ rfl⟩)
  rw [netB_yes hn] at RT
  generalize atF N dev v = Z at *
  unfold netV at RT FD ⊢
  have RT := Lib.hid RT
  have FD := Lib.hid FD
  clear h hs hn
  go_enter Try.func18, Try.ntmps18
  go_wp2_with (first
    | (go_at_call 15; (with_reducible refine (RT.out _ (alloc_below _ _)).mono ?_); rintro e wr ⟨rfl, hb⟩; have Y := Lib.hid hb; have X := Lib.hid (trans_below (alloc_below _ _) hb); obtain ⟨f0, f1, f2, f3, f4, f5, f6, f7⟩ := KB.out _ rfl _ Y.out; clear hb)
    | (go_at_call 48; (with_reducible refine (FD.out _ X.out).mono ?_); rintro e wi ⟨rfl, hb⟩; have X2 := Lib.hid (trans_below X.out hb); clear hb))
  go_ret
  exact ⟨rfl, X2.out⟩
/-- the ports of a domain among the first k -/
def mmK (N : NV) (D : DomV) (k : Nat) : List Int := ((List.range k).filter (fun i => decide ((N.ports.getD i PortV.zero).dev = D.dev) && mbrB (N.ports.getD i PortV.zero) D.vlan)).map (fun (i : Nat) => (i : Int))
theorem mmK_more (N : NV) (D : DomV) (k : Nat) : mmK N D (k + 1) = mmK N D k ++ if (decide ((N.ports.getD k PortV.zero).dev = D.dev) && mbrB (N.ports.getD k PortV.zero) D.vlan) = true then [(k : Int)] else [] := by
  unfold mmK
  rw [List.range_succ, List.filter_append, List.map_append]
  congr 1
  by_cases g : (decide ((N.ports.getD k PortV.zero).dev = D.dev) && mbrB (N.ports.getD k PortV.zero) D.vlan) = true
  · rw [if_pos g]; simp only [List.filter, g, List.map]
  · rw [if_neg g]; simp only [List.filter, Bool.eq_false_iff.2 g, List.map]
theorem mmK_len (N : NV) (D : DomV) (k : Nat) : (mmK N D k).length ≤ k := by
  unfold mmK
  rw [List.length_map]
  exact Nat.le_trans (List.length_filter_le _ _) (by simp)
end Go.Proofs.Ytnpembgchmmbjaa
