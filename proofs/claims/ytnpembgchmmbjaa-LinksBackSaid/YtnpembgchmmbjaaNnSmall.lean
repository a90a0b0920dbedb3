/- Package names' small functions: Member, rises, joins, find, has. (Made by mk-nnsmall.py.) -/
import Derived.Test.YtnpembgchmmbjaaNnAll
namespace Go.Proofs.Ytnpembgchmmbjaa
open Go.RowKit

theorem app1 (a b : Value) : #[a] ++ #[b] = #[a, b] := rfl
theorem app12 (a b c : Value) : #[a] ++ #[b, c] = #[a, b, c] := rfl
theorem app21 (a b c : Value) : #[a, b] ++ #[c] = #[a, b, c] := rfl
theorem app22 (a b c d : Value) : #[a, b] ++ #[c, d] = #[a, b, c, d] := rfl
theorem app23 (a b c d e : Value) : #[a, b] ++ #[c, d, e] = #[a, b, c, d, e] := rfl
theorem app20 (a b : Value) : #[a, b] ++ (#[] : Array Value) = #[a, b] := rfl
theorem app10 (a : Value) : #[a] ++ (#[] : Array Value) = #[a] := rfl
theorem cont_of (A : Option Addr) (n c : Nat) (xs : List Int) (x : Int) (w : World) (h : ISl w .i64 A n c xs) : Calls Try.prog 25 #[.slice A n c, .int .i64 x] w fun e w' => e = .returned (.bool (memB xs x)) ∧ w = w' := by
  have := contains_any ⟨A, n, c⟩ xs x w h
  rwa [show xs.contains x = memB xs x by unfold memB; simp] at this
set_option maxRecDepth 20000 in
theorem rises_any (A : Option Addr) (n c : Nat) (xs : List Int) (hi : Int) (w : World) (h : ISl w .i64 A n c xs) : Calls Try.prog 44 #[.slice A n c, .int .i64 hi] w fun e w' => e = .returned (.bool (rsB xs hi)) ∧ Drew w w' := by
  have hl := h.len
  by_cases hn : n = 0
  · subst hn
    obtain rfl : xs = [] := List.eq_nil_of_length_eq_zero hl
    rw [show rsB [] hi = true by unfold rsB; simp]
    clear h hl
    go_enter Try.func44, Try.ntmps44
    go_wp2
    go_ret
    exact ⟨rfl, Drew.refl _⟩
  · have ne : ((n : Int) == 0) = false := by simp; omega
    rw [show rsB xs hi = risIn xs 1 hi by unfold rsB; rw [decide_eq_false (fun e => by rw [e] at hl; exact hn hl.symm)]; rfl]
    have R := Lib.hid (ris_any A n c xs 1 hi w h)
    clear h hl hn
    go_enter Try.func44, Try.ntmps44
    go_wp2_with (go_at_call 68; (with_reducible refine R.out.mono ?_); rintro e w1 ⟨rfl, hd⟩)
    go_ret
    exact ⟨rfl, hd⟩
set_option maxRecDepth 20000 in
theorem member_any2 (P : PortV) (s : Sl3) (v : Int) (w : World) (F : Nat → Prop) (hF : ∀ b, F b → b < w.heap.size) (h : RSl (Rdr.int .i64) w F s.A s.n s.c P.tagged) : Calls Try.prog 14 #[.agg #[.int .i64 P.row, .int .i64 P.dev, .int .i64 P.native, .int .i64 P.cost, .int .i64 P.link, .string (str P.name), .slice s.A s.n s.c], .int .i64 v] w fun e w' => e = .returned (.bool (mbrB P v)) ∧ Below w.heap.size w w' := by
  have IN := Lib.hid (fun (w' : World) (hb : Below w.heap.size w w') => cont_of s.A s.n s.c P.tagged v w' (isl_rsl (h.below hF hb)))
  unfold mbrB
  by_cases h0 : v = 0
  · have e : (decide (v ≠ 0) && (decide (P.native = v) || memB P.tagged v)) = false := by rw [decide_eq_false (by simpa using h0)]; rfl
    rw [e]
    have ne : (v != 0) = false := by simpa using h0
    clear h h0 e
    go_enter Try.func14, Try.ntmps14
    go_wp2
    go_ret
    exact ⟨rfl, (Below.refl _ _).alloc (Nat.le_refl _) _⟩
  · have ne : (v != 0) = true := by simpa using h0
    by_cases h1 : P.native = v
    · have e : (decide (v ≠ 0) && (decide (P.native = v) || memB P.tagged v)) = true := by rw [decide_eq_true h0, decide_eq_true h1]; rfl
      rw [e]
      have ne2 : (P.native == v) = true := by simpa using h1
      clear h h0 e h1
      go_enter Try.func14, Try.ntmps14
      go_wp2
      go_ret
      exact ⟨rfl, (Below.refl _ _).alloc (Nat.le_refl _) _⟩
    · have e : (decide (v ≠ 0) && (decide (P.native = v) || memB P.tagged v)) = memB P.tagged v := by rw [decide_eq_true h0, decide_eq_false h1]; rfl
      rw [e]
      have ne2 : (P.native == v) = false := by simpa using h1
      generalize memB P.tagged v = V at *
      clear h h0 e h1
      go_enter Try.func14, Try.ntmps14
      go_wp2_with (go_at_call 25; (with_reducible refine (IN.out _ ((Below.refl _ _).alloc (Nat.le_refl _) _)).mono ?_); rintro e w1 ⟨rfl, rfl⟩)
      go_ret
      exact ⟨rfl, (Below.refl _ _).alloc (Nat.le_refl _) _⟩
theorem joins_any (L : LinkV) (p : Int) (w : World) : Calls Try.prog 59 #[.agg #[.int .i64 L.row, .int .i64 L.a, .int .i64 L.b], .int .i64 p] w fun e w' => e = .returned (.bool (decide (L.a = p) || decide (L.b = p))) ∧ Below w.heap.size w w' := by
  by_cases h0 : L.a = p
  · have e : (L.a == p) = true := by simpa using h0
    rw [decide_eq_true h0]
    clear h0
    go_enter Try.func59, Try.ntmps59
    go_wp2
    go_ret
    exact ⟨rfl, (Below.refl _ _).alloc (Nat.le_refl _) _⟩
  · have e : (L.a == p) = false := by simpa using h0
    rw [decide_eq_false h0]
    by_cases h1 : L.b = p
    all_goals
      first | rw [decide_eq_true h1] | rw [decide_eq_false h1]
      have e2 : (L.b == p) = decide (L.b = p) := by by_cases g : L.b = p <;> simp [g]
      first | rw [decide_eq_true h1] at e2 | rw [decide_eq_false h1] at e2
      clear h0 h1
      go_enter Try.func59, Try.ntmps59
      go_wp2
      go_ret
      exact ⟨rfl, (Below.refl _ _).alloc (Nat.le_refl _) _⟩
theorem find1_any (D : DomV) (s : Sl3) (dev v : Int) (q1 q2 : Nat) (w : World) (c1 : w.cell? ⟨q1, 0, none⟩ = some (.int .i64 dev)) (c2 : w.cell? ⟨q2, 0, none⟩ = some (.int .i64 v)) :
    Calls Try.prog 71 #[.agg #[.int .i64 D.dev, .int .i64 D.vlan, .int .i64 D.vni, .int .i64 D.irb, .int .i64 D.row, .slice s.A s.n s.c], .pointer (some ⟨q1, 0, none⟩), .pointer (some ⟨q2, 0, none⟩)] w fun e w' => e = .returned (.bool (decide (D.dev = dev ∧ D.vlan = v))) ∧ Below w.heap.size w w' := by
  have l1 := World.block_lt_of_cell? w _ c1
  have l2 := World.block_lt_of_cell? w _ c2
  dsimp only at l1 l2
  by_cases h0 : D.dev = dev
  · have e : (D.dev == dev) = true := by simpa using h0
    by_cases h1 : D.vlan = v
    · have e2 : (D.vlan == v) = true := by simpa using h1
      rw [decide_eq_true ⟨h0, h1⟩]
      clear h0 h1
      go_enter Try.func71, Try.ntmps71
      go_wp2
      go_ret
      exact ⟨rfl, (Below.refl _ _).alloc (Nat.le_refl _) _⟩
    · have e2 : (D.vlan == v) = false := by simpa using h1
      rw [decide_eq_false (fun g => h1 g.2)]
      clear h0 h1
      go_enter Try.func71, Try.ntmps71
      go_wp2
      go_ret
      exact ⟨rfl, (Below.refl _ _).alloc (Nat.le_refl _) _⟩
  · have e : (D.dev == dev) = false := by simpa using h0
    rw [decide_eq_false (fun g => h0 g.1)]
    clear h0
    go_enter Try.func71, Try.ntmps71
    go_wp2
    go_ret
    exact ⟨rfl, (Below.refl _ _).alloc (Nat.le_refl _) _⟩
theorem atK_fst (dev v : Int) : ∀ (xs : List DomV) (k n : Nat), n = xs.length → (∃ j, j < n ∧ atK xs dev v k = ((k + j : Nat) : Int) ∧ ((xs.getD j DomV.zero).dev = dev ∧ (xs.getD j DomV.zero).vlan = v) ∧ ∀ i, i < j → ¬ ((xs.getD i DomV.zero).dev = dev ∧ (xs.getD i DomV.zero).vlan = v)) ∨ (atK xs dev v k = -1 ∧ ∀ i, i < n → ¬ ((xs.getD i DomV.zero).dev = dev ∧ (xs.getD i DomV.zero).vlan = v))
  | [], k, n, h => .inr ⟨rfl, fun i hi => absurd hi (by simp at h; omega)⟩
  | d :: r, k, n, h => by
    by_cases hd : d.dev = dev ∧ d.vlan = v
    · exact .inl ⟨0, by simp at h; omega, by rw [atK, if_pos hd]; simp, hd, fun i hi => absurd hi (by omega)⟩
    · rcases atK_fst dev v r (k + 1) r.length rfl with ⟨j, h1, h2, h3, h4⟩ | ⟨h1, h2⟩
      · refine .inl ⟨j + 1, by simp at h; omega, by rw [atK, if_neg hd, h2]; congr 1; omega, by simpa using h3, fun i hi => ?_⟩
        match i with
        | 0 => simpa using hd
        | i + 1 => simpa using h4 i (by omega)
      · refine .inr ⟨by rw [atK, if_neg hd, h1], fun i hi => ?_⟩
        match i with
        | 0 => simpa using hd
        | i + 1 => simpa using h2 i (by simp at h; omega)
theorem atF_fst (N : NV) (dev v : Int) (n : Nat) (hn : N.domains.length = n) : IsFst (fun k => decide ((N.domains.getD k DomV.zero).dev = dev ∧ (N.domains.getD k DomV.zero).vlan = v)) n (atF N dev v) := by
  rcases atK_fst dev v N.domains 0 n hn.symm with ⟨j, h1, h2, h3, h4⟩ | ⟨h1, h2⟩
  · exact .inl ⟨j, h1, by unfold atF; rw [h2]; congr 1; omega, decide_eq_true h3, fun i hi => decide_eq_false (h4 i hi)⟩
  · exact .inr ⟨h1, fun i hi => decide_eq_false (h2 i hi)⟩
theorem enters_find1 : Enters Try.prog 71 := enters_of Try.func71 (by kernel_rfl) rfl
set_option maxRecDepth 20000 in
set_option maxHeartbeats 2000000 in
theorem find_any (N : NV) (S : NSl3) (dev v : Int) (w : World) (h : NRead w (allB w) N S) : Calls Try.prog 48 #[netV S, .int .i64 dev, .int .i64 v] w fun e w' => e = .returned (.int .i64 (atF N dev v)) ∧ Below w.heap.size w w' := by
  have IX := Lib.hid (fun (w' : World) (hb : Below w.heap.size w w') (q1 q2 : Nat) (c1 : w'.cell? ⟨q1, 0, none⟩ = some (.int .i64 dev)) (c2 : w'.cell? ⟨q2, 0, none⟩ = some (.int .i64 v)) =>
    idx_dom 71 #[.pointer (some ⟨q1, 0, none⟩), .pointer (some ⟨q2, 0, none⟩)] enters_find1 S.dm.A S.dm.n S.dm.c N.domains w' (up_rsl h.dm hb) _ (fun k s w2 hk hb2 hl => by
      rw [app12]
      exact find1_any _ s dev v q1 q2 w2 ((hb2.cell (p := ⟨q1, 0, none⟩) (World.block_lt_of_cell? w' _ c1)).trans c1) ((hb2.cell (p := ⟨q2, 0, none⟩) (World.block_lt_of_cell? w' _ c2)).trans c2)) (atF N dev v) (atF_fst N dev v S.dm.n h.dm.len))
  clear h
  unfold netV
  generalize atF N dev v = V at *
  obtain ⟨W3, hW3⟩ : ∃ W3, ((w.alloc (.cells (nA S) 31)).alloc (.cells #[.int .i64 dev] 3)).alloc (.cells #[.int .i64 v] 3) = W3 := ⟨_, rfl⟩
  have k1 : Below w.heap.size w (w.alloc (.cells (nA S) 31)) := (Below.refl _ _).alloc (Nat.le_refl _) _
  have k2 : Below w.heap.size w ((w.alloc (.cells (nA S) 31)).alloc (.cells #[.int .i64 dev] 3)) := k1.alloc (by simp) _
  have B3 := Lib.hid (show Below w.heap.size w W3 by rw [← hW3]; exact k2.alloc (by simp; omega) _)
  clear k1 k2
  have R := Lib.hid (IX.out W3 B3.out (w.heap.size + 1) (w.heap.size + 2) (by rw [← hW3]; simp [go_sem]) (by rw [← hW3]; simp [go_sem]))
  subst hW3
  clear IX
  go_enter Try.func48, Try.ntmps48
  go_wp2_with (go_at_call 70; (with_reducible refine R.out.mono ?_); rintro e w1 ⟨rfl, hb⟩; have B := Lib.hid (trans_below B3.out hb); clear hb)
  go_ret
  exact ⟨rfl, B.out⟩
set_option maxRecDepth 20000 in
theorem has_any (P : PortV) (s : Sl3) (D : DomV) (t : Sl3) (w : World) (h : RSl (Rdr.int .i64) w (allB w) s.A s.n s.c P.tagged) : Calls Try.prog 67 #[.agg #[.int .i64 P.row, .int .i64 P.dev, .int .i64 P.native, .int .i64 P.cost, .int .i64 P.link, .string (str P.name), .slice s.A s.n s.c], .agg #[.int .i64 D.dev, .int .i64 D.vlan, .int .i64 D.vni, .int .i64 D.irb, .int .i64 D.row, .slice t.A t.n t.c]] w fun e w' => e = .returned (.bool (decide (P.dev = D.dev) && mbrB P D.vlan)) ∧ Below w.heap.size w w' := by
  have MB := Lib.hid (fun (w' : World) (hb : Below w.heap.size w w') => member_any2 P s D.vlan w' (allB w') (fun _ hb => hb) (up_rsl h hb))
  clear h
  generalize mbrB P D.vlan = V at *
  have B2 := Lib.hid (show Below w.heap.size w ((w.alloc (.cells #[.int .i64 P.row, .int .i64 P.dev, .int .i64 P.native, .int .i64 P.cost, .int .i64 P.link, .string (str P.name), .slice s.A s.n s.c] 43)).alloc (.cells #[.int .i64 D.dev, .int .i64 D.vlan, .int .i64 D.vni, .int .i64 D.irb, .int .i64 D.row, .slice t.A t.n t.c] 46)) from ((Below.refl _ _).alloc (Nat.le_refl _) _).alloc (by simp) _)
  by_cases h0 : P.dev = D.dev
  · have e : (P.dev == D.dev) = true := by simpa using h0
    rw [decide_eq_true h0]
    clear h0
    go_enter Try.func67, Try.ntmps67
    go_wp2_with (go_at_call 14; (with_reducible refine (MB.out _ B2.out).mono ?_); rintro e w1 ⟨rfl, hb⟩; have B := Lib.hid (trans_below B2.out hb); clear hb)
    go_ret
    exact ⟨by simp, B.out⟩
  · have e : (P.dev == D.dev) = false := by simpa using h0
    rw [decide_eq_false h0]
    clear h0
    go_enter Try.func67, Try.ntmps67
    go_wp2
    go_ret
    exact ⟨rfl, B2.out⟩
end Go.Proofs.Ytnpembgchmmbjaa
