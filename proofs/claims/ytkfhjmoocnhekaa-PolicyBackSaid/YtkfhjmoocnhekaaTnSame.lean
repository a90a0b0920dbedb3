/- The contracts of palingref14.Same and Exact at any two lists of tenants. -/
import Derived.Test.YtkfhjmoocnhekaaTnRef
import Derived.Test.YtkfhjmoocnhekaaSeq
namespace Go.Proofs.Ytkfhjmoocnhekaa
open Go.RowKit

/-- the tenant at k of a list of tenants: its cells -/
theorem tens_at {w : World} {F : Nat → Prop} {A : Option Addr} {n c : Nat} {xs : List TV} (h : RSl tenR w F A n c xs) (k : Nat) (hk : k < n) :
    ∃ (b off : Nat) (s1 s2 : SlT), A = some ⟨b, off, none⟩ ∧ b < w.heap.size ∧ SSl w s1.A s1.n s1.c (xs.getD k TV.zero).devs ∧ SSl w s2.A s2.n s2.c (xs.getD k TV.zero).ports ∧
      w.cell? ⟨b, off + k * 4, none⟩ = some (.int .i64 (xs.getD k TV.zero).row) ∧ w.cell? ⟨b, off + k * 4 + 1, none⟩ = some (.string (str (xs.getD k TV.zero).name)) ∧ w.cell? ⟨b, off + k * 4 + 2, none⟩ = some (.slice s1.A s1.n s1.c) ∧ w.cell? ⟨b, off + k * 4 + 3, none⟩ = some (.slice s2.A s2.n s2.c) := by
  obtain ⟨b, off, e, _, hb, hc⟩ := h.at_ (by omega)
  have hl : k < xs.length := by rw [h.len]; exact hk
  have e2 : xs.getD k TV.zero = xs[k] := by simp [List.getD, hl]
  obtain ⟨vs, h1, h2⟩ := hc k xs[k] (List.getElem?_eq_getElem hl)
  obtain ⟨s1, s2, rfl, h3, h4⟩ := h1
  rw [e2]
  exact ⟨b, off, s1, s2, e, hb, ssl_of h3, ssl_of h4, h2 0 _ rfl, h2 1 _ rfl, h2 2 _ rfl, h2 3 _ rfl⟩
/-- alike but for the row? -/
def smT (x y : TV) : Bool := (x.name == y.name) && ((x.devs == y.devs) && (x.ports == y.ports))
def smP : List TV → List TV → Bool
  | [], [] => true
  | x :: xs, y :: ys => smT x y && smP xs ys
  | _, _ => false
theorem smP_len : ∀ {xs ys : List TV}, xs.length ≠ ys.length → smP xs ys = false
  | [], [], h => absurd rfl h
  | [], _ :: _, _ => rfl
  | _ :: _, [], _ => rfl
  | x :: xs, y :: ys, h => by
    unfold smP
    rw [smP_len (xs := xs) (ys := ys) (by intro e; exact h (by simp [e])), Bool.and_false]
theorem smP_at {xs ys : List TV} {k : Nat} (h : k < xs.length) (g : k < ys.length) : smP (xs.drop k) (ys.drop k) = (smT (xs.getD k TV.zero) (ys.getD k TV.zero) && smP (xs.drop (k + 1)) (ys.drop (k + 1))) := by
  rw [List.drop_eq_getElem_cons h, List.drop_eq_getElem_cons g, smP]
  simp [List.getD, h, g]
theorem smP_end {xs ys : List TV} {k : Nat} (h : xs.length ≤ k) (g : ys.length ≤ k) : smP (xs.drop k) (ys.drop k) = true := by
  rw [List.drop_eq_nil_of_le h, List.drop_eq_nil_of_le g, smP]
set_option maxRecDepth 20000 in
set_option maxHeartbeats 4000000 in
theorem rpsame_any (A : Option Addr) (n c : Nat) (B : Option Addr) (m d : Nat) (xs ys : List TV) (w : World) (F G : Nat → Prop) (h : RSl tenR w F A n c xs) (g : RSl tenR w G B m d ys) (V : Bool) (hV : smP xs ys = V) :
    Calls Try.prog 16 #[.slice A n c, .slice B m d] w fun e w' => e = .returned (.bool V) ∧ Below w.heap.size w w' := by
  have hle := h.le
  have hcap := h.cap
  have gle := g.le
  have gcap := g.cap
  have HL := Lib.hid h.len
  have GL := Lib.hid g.len
  have H := Lib.hid h
  have G := Lib.hid g
  have HV := Lib.hid (show smP (xs.drop 0) (ys.drop 0) = V from hV)
  clear h g
  by_cases hnm : m = n
  · subst hnm
    clear hV
    go_enter Try.func16, Try.ntmps16
    go_wp2
    go_loopw [5] (fun i wr => ∃ k : Nat, i = .int .i64 k ∧ k ≤ m ∧ Below w.heap.size w wr ∧ smP (xs.drop k) (ys.drop k) = V) (fun i _ => match i with | .int _ x => (m - x).toNat | _ => 0)
    case atStart => exact ⟨0, rfl, by omega, Below.refl _ _, HV.out⟩
    case round =>
      obtain ⟨k, rfl, hk, hb, hv⟩ := hrel
      have W := Lib.hid hb
      have VV := Lib.hid hv
      clear hb hv
      by_cases hlt : k < m
      · obtain ⟨b0, o0, s1, s2, rfl, hb0, l1, l2, c0, c1, c2, c3⟩ := tens_at H.out k hlt
        obtain ⟨b1, o1, t1, t2, rfl, hb1, m1, m2, d0, d1, d2, d3⟩ := tens_at G.out k hlt
        have ST := Lib.hid (VV.out.symm.trans (smP_at (xs := xs) (ys := ys) (by rw [HL.out]; exact hlt) (by rw [GL.out]; exact hlt)))
        generalize xs.getD k TV.zero = X at *
        generalize ys.getD k TV.zero = Y at *
        have i0 : (k : Int) < (m : Int) := by omega
        have KP := Lib.hid (show ∀ w', Below w.heap.size w w' → w'.cell? ⟨b0, o0 + k * 4 + 1, none⟩ = some (.string (str X.name)) ∧ w'.cell? ⟨b0, o0 + k * 4 + 2, none⟩ = some (.slice s1.A s1.n s1.c) ∧ w'.cell? ⟨b0, o0 + k * 4 + 3, none⟩ = some (.slice s2.A s2.n s2.c) ∧
            w'.cell? ⟨b1, o1 + k * 4 + 1, none⟩ = some (.string (str Y.name)) ∧ w'.cell? ⟨b1, o1 + k * 4 + 2, none⟩ = some (.slice t1.A t1.n t1.c) ∧ w'.cell? ⟨b1, o1 + k * 4 + 3, none⟩ = some (.slice t2.A t2.n t2.c) from
          fun w' hb => ⟨(hb.cell (p := ⟨b0, _, none⟩) hb0).trans c1, (hb.cell (p := ⟨b0, _, none⟩) hb0).trans c2, (hb.cell (p := ⟨b0, _, none⟩) hb0).trans c3, (hb.cell (p := ⟨b1, _, none⟩) hb1).trans d1, (hb.cell (p := ⟨b1, _, none⟩) hb1).trans d2, (hb.cell (p := ⟨b1, _, none⟩) hb1).trans d3⟩)
        obtain ⟨vn, hn⟩ : ∃ v, (X.name == Y.name) = v := ⟨_, rfl⟩
        obtain ⟨vd, hd⟩ : ∃ v, (X.devs == Y.devs) = v := ⟨_, rfl⟩
        obtain ⟨vp, hp⟩ : ∃ v, (X.ports == Y.ports) = v := ⟨_, rfl⟩
        have ST2 := Lib.hid (show V = ((vn && (vd && vp)) && smP (xs.drop (k + 1)) (ys.drop (k + 1))) by rw [ST.out, smT, hn, hd, hp])
        have hn2 : (X.name != Y.name) = !vn := by rw [bne, hn]
        have CD := Lib.hid (show ∀ w', Below w.heap.size w w' → Calls Try.prog 30 #[.slice s1.A s1.n s1.c, .slice t1.A t1.n t1.c] w' (fun e w2 => e = .returned (.bool vd) ∧ Below w'.heap.size w' w2) from fun w' hb => rtexts_any _ _ _ _ _ _ _ _ w' (l1.below hb) (m1.below hb) vd hd)
        have CP := Lib.hid (show ∀ w', Below w.heap.size w w' → Calls Try.prog 30 #[.slice s2.A s2.n s2.c, .slice t2.A t2.n t2.c] w' (fun e w2 => e = .returned (.bool vp) ∧ Below w'.heap.size w' w2) from fun w' hb => rtexts_any _ _ _ _ _ _ _ _ w' (l2.below hb) (m2.below hb) vp hp)
        have W1 := Lib.hid (show Below w.heap.size w wr.drew from below_drewN W.out 1)
        clear l1 l2 m1 m2 c0 c1 c2 c3 d0 d1 d2 d3 ST hd hp
        have END : ∀ (tv : Bool), True := fun _ => trivial
        clear END
        cases vn <;> cases vd <;> cases vp <;> simp only [Bool.not_true, Bool.not_false] at hn2
        all_goals
          go_wp2
          refine wp_region_text (fun w' => Below w.heap.size w w') (by kernel_rfl) (by kernel_rfl) W1.out ?_
          repeat
            first
              | (refine Seq.pass rfl ?_; simp only [Act.put, List.setIfInBounds_toArray, List.set_cons_zero, List.set_cons_succ])
              | (refine Seq.run ?_ rfl (fun wx hx => ?_) ?_
                 rotate_left
                 · have K := KP.out wx hx
                   have k1 := K.1
                   have k2 := K.2.1
                   have k3 := K.2.2.1
                   have k4 := K.2.2.2.1
                   have k5 := K.2.2.2.2.1
                   have k6 := K.2.2.2.2.2
                   clear K
                   go_simp
                   first
                     | (refine StepRun.val ?_; exact hx)
                     | (refine StepRun.call (v := .bool true) ?_; (with_reducible refine Calls.mono (CD.out _ hx) ?_); rintro e w' ⟨rfl, hb⟩; exact ⟨rfl, trans_below hx hb⟩)
                     | (refine StepRun.call (v := .bool false) ?_; (with_reducible refine Calls.mono (CD.out _ hx) ?_); rintro e w' ⟨rfl, hb⟩; exact ⟨rfl, trans_below hx hb⟩)
                     | (refine StepRun.call (v := .bool true) ?_; (with_reducible refine Calls.mono (CP.out _ hx) ?_); rintro e w' ⟨rfl, hb⟩; exact ⟨rfl, trans_below hx hb⟩)
                     | (refine StepRun.call (v := .bool false) ?_; (with_reducible refine Calls.mono (CP.out _ hx) ?_); rintro e w' ⟨rfl, hb⟩; exact ⟨rfl, trans_below hx hb⟩)
                 simp only [Act.put, List.setIfInBounds_toArray, List.set_cons_zero, List.set_cons_succ])
          refine Seq.last (fun w5 W5 => ?_)
          go_wp2
          first
            | (go_ret
               exact ⟨by rw [ST2.out]; rfl, W5⟩)
            | (go_roundw
               case rel => exact ⟨k + 1, by simp, by omega, W5, by rw [ST2.out]; rfl⟩
               case measure => simp only []; omega)
      · have E := Lib.hid (VV.out.symm.trans (smP_end (by rw [HL.out]; omega) (by rw [GL.out]; omega)))
        go_wp2
        go_ret
        exact ⟨by rw [E.out]; rfl, W.out⟩
  · have e : V = false := by rw [← hV]; exact smP_len (by rw [HL.out, GL.out]; omega)
    have ne : ((n : Int) != (m : Int)) = true := by simp; omega
    subst e
    go_enter Try.func16, Try.ntmps16
    go_wp2
    go_ret
    exact ⟨rfl, Below.refl _ _⟩
/-- the first k rows -/
def rowsB (xs ys : List TV) (k : Nat) : Prop := ∀ j, j < k → (xs.getD j TV.zero).row = (ys.getD j TV.zero).row
theorem smT_iff (x y : TV) : smT x y = true ↔ x.name = y.name ∧ x.devs = y.devs ∧ x.ports = y.ports := by simp [smT]
theorem smP_eq : ∀ {xs ys : List TV}, rowsB xs ys xs.length → smP xs ys = true → xs = ys
  | [], [], _, _ => rfl
  | [], _ :: _, _, h => by cases h
  | _ :: _, [], _, h => by cases h
  | x :: xs, y :: ys, hr, h => by
    unfold smP at h
    rw [Bool.and_eq_true] at h
    have e := (smT_iff x y).1 h.1
    have r0 := hr 0 (by simp)
    have e1 : x = y := by
      obtain ⟨xr, xn, xd, xp⟩ := x
      obtain ⟨yr, yn, yd, yp⟩ := y
      simp at e r0
      rw [e.1, e.2.1, e.2.2, r0]
    have e2 := smP_eq (xs := xs) (ys := ys) (fun j hj => by
      have := hr (j + 1) (by simp; omega)
      simpa using this) h.2
    rw [e1, e2]
theorem smP_self : ∀ xs : List TV, smP xs xs = true
  | [] => rfl
  | x :: xs => by unfold smP; rw [(smT_iff x x).2 ⟨rfl, rfl, rfl⟩, smP_self xs]; rfl
set_option maxRecDepth 20000 in
set_option maxHeartbeats 4000000 in
/-- Exact: are they the same lists? -/
theorem rpexact_any (A : Option Addr) (n c : Nat) (B : Option Addr) (m d : Nat) (xs ys : List TV) (w : World) (F G : Nat → Prop) (hF : ∀ b, F b → b < w.heap.size) (hG : ∀ b, G b → b < w.heap.size) (h : RSl tenR w F A n c xs) (g : RSl tenR w G B m d ys) (V : Bool) (hV : V = true ↔ xs = ys) :
    Calls Try.prog 9 #[.slice A n c, .slice B m d] w fun e w' => e = .returned (.bool V) ∧ Below w.heap.size w w' := by
  have hle := h.le
  have hcap := h.cap
  have gle := g.le
  have gcap := g.cap
  have HL := Lib.hid h.len
  have GL := Lib.hid g.len
  have H := Lib.hid h
  have G := Lib.hid g
  have HV := Lib.hid hV
  have SM := Lib.hid (fun (w' : World) (hb : Below w.heap.size w w') (U : Bool) (hU : smP xs ys = U) => rpsame_any A n c B m d xs ys w' _ _ (H.out.below hF hb) (G.out.below hG hb) U hU)
  clear h g hV
  go_enter Try.func9, Try.ntmps9
  go_wp2
  go_loopw [5] (fun i wr => ∃ k q : Nat, i = .int .i64 k ∧ k ≤ n ∧ k ≤ m ∧ wr = w.drewN q ∧ rowsB xs ys k) (fun i _ => match i with | .int _ x => (n - x).toNat | _ => 0)
  case atStart => exact ⟨0, 0, rfl, by omega, by omega, rfl, fun j hj => by omega⟩
  case round =>
    obtain ⟨k, q, rfl, hk, hkm, rfl, hv⟩ := hrel
    have W := Lib.hid (below_drewN (Below.refl w.heap.size w) q)
    have EN := Lib.hid (show (¬ k < n ∨ ¬ k < m) → smP xs ys = V from fun hx => by
      cases hs : smP xs ys with
      | true =>
        have hl : xs.length = ys.length := Classical.byContradiction fun e => by rw [smP_len e] at hs; cases hs
        have := smP_eq (by rw [HL.out]; have := HL.out; have := GL.out; rwa [show n = k by omega]) hs
        exact (HV.out.2 this).symm
      | false =>
        cases V with
        | false => rfl
        | true => rw [HV.out.1 rfl, smP_self] at hs; cases hs)
    by_cases hlt : k < n
    · by_cases hlt2 : k < m
      · have NX := Lib.hid (show (xs.getD k TV.zero).row = (ys.getD k TV.zero).row → rowsB xs ys (k + 1) from fun e j hj => by
          by_cases h2 : j = k
          · rw [h2]; exact e
          · exact hv j (by omega))
        have NO := Lib.hid (show (xs.getD k TV.zero).row ≠ (ys.getD k TV.zero).row → V = false from fun e => by
          cases V with
          | false => rfl
          | true => rw [HV.out.1 rfl] at e; exact absurd rfl e)
        obtain ⟨b0, o0, s1, s2, rfl, hb0, _, _, c0, _, _, _⟩ := tens_at H.out k hlt
        obtain ⟨b1, o1, t1, t2, rfl, hb1, _, _, d0, _, _, _⟩ := tens_at G.out k hlt2
        generalize (xs.getD k TV.zero).row = x at *
        generalize (ys.getD k TV.zero).row = y at *
        have i0 : (k : Int) < (n : Int) := by omega
        have i1 : (k : Int) < (m : Int) := by omega
        clear hv EN
        by_cases e : x = y
        · have s : (x != y) = false := by simp [e]
          have R := Lib.hid (NX.out e)
          clear e NX NO
          go_wp2
          go_quiet (fail)
          go_wp2
          go_roundw
          case rel => exact ⟨k + 1, q + nq, by simp, by omega, by omega, rfl, R.out⟩
          case measure => simp only []; omega
        · have s : (x != y) = true := by simp [e]
          have R := Lib.hid (NO.out e)
          clear e NX NO
          go_wp2
          go_quiet (fail)
          go_wp2
          go_ret
          exact ⟨by rw [R.out]; rfl, below_drewN W.out _⟩
      · have i0 : (k : Int) < (n : Int) := by omega
        have i1 : ¬ (k : Int) < (m : Int) := by omega
        have U := EN.out (.inr hlt2)
        clear hv EN
        go_wp2_with (go_at_call 16; (with_reducible refine (SM.out _ W.out V U).mono ?_); rintro e w1 ⟨rfl, b1⟩)
        go_ret
        exact ⟨rfl, trans_below W.out b1⟩
    · have i0 : ¬ (k : Int) < (n : Int) := by omega
      have U := EN.out (.inl hlt)
      clear hv EN
      go_wp2_with (go_at_call 16; (with_reducible refine (SM.out _ W.out V U).mono ?_); rintro e w1 ⟨rfl, b1⟩)
      go_ret
      exact ⟨rfl, trans_below W.out b1⟩
end Go.Proofs.Ytkfhjmoocnhekaa
