/- Package policy, Same: two lists of texts (slices.Equal), two tenants alike but for their rows (alike), two lists of tenants (slices.EqualFunc, Same). -/
import Derived.Test.YtkfhjmoocnhekaaTnRText
namespace Go.Proofs.Ytkfhjmoocnhekaa
open Go.RowKit

set_option maxRecDepth 20000 in
theorem eqs_any (A : Option Addr) (n c : Nat) (ps : List (List UInt8)) (B : Option Addr) (m d : Nat) (qs : List (List UInt8)) (w : World) (h : SSl w A n c ps) (g : SSl w B m d qs) (v : Bool) (hv : (ps == qs) = v) :
    Calls Try.prog 42 #[.slice A n c, .slice B m d] w fun e w' => e = .returned (.bool v) ∧ Below w.heap.size w w' := by
  have hl := h.len
  have gl := g.len
  have hcap := h.cap
  have hle := h.le
  have gcap := g.cap
  have gle := g.le
  have V := Lib.hid hv
  by_cases hnm : n = m
  · subst hnm
    have H := Lib.hid h
    have G := Lib.hid g
    have HL := Lib.hid hl
    have GL := Lib.hid gl
    clear h g hv hl gl
    go_enter Try.func42, Try.ntmps42
    go_wp2
    go_loopw [13] (fun i wr => ∃ k q : Nat, i = .int .i64 k ∧ wr = w.drewN q ∧ k ≤ n ∧ ps.take k = qs.take k) (fun i _ => match i with | .int _ x => (n - x).toNat | _ => 0)
    case atStart => exact ⟨0, 0, rfl, rfl, by omega, by simp⟩
    case round =>
      obtain ⟨k, q, rfl, rfl, hk, hf⟩ := hrel
      have HF := Lib.hid hf
      clear hf
      by_cases hlt : k < n
      · obtain ⟨b0, o0, rfl, hb0, hc0⟩ := H.out.at_ (by omega)
        obtain ⟨b1, o1, rfl, hb1, hc1⟩ := G.out.at_ (by omega)
        have c0 := hc0 k hlt
        have c1 := hc1 k hlt
        have T := Lib.hid (texts_take ps qs k (by rw [HL.out]; exact hlt) (by rw [GL.out]; exact hlt) HF.out)
        have i0 : (k : Int) < (n : Int) := by omega
        generalize hx : ps.getD k [] = x at *
        generalize hy : qs.getD k [] = y at *
        have HX := Lib.hid hx
        have HY := Lib.hid hy
        clear hc0 hc1 hx hy
        by_cases e : x = y
        · have s1 : (x == y) = true := by simpa using e
          have s2 : (x != y) = false := by simpa using e
          have R := Lib.hid (T.out.2 e)
          clear e
          go_wp2
          go_quiet (fail)
          go_wp2
          go_roundw
          case rel => exact ⟨k + 1, q + nq, by simp, rfl, by omega, R.out⟩
          case measure => simp only []; omega
        · have s1 : (x == y) = false := by simpa using e
          have s2 : (x != y) = true := by simpa using e
          have R := Lib.hid (show v = false by
            rw [← V.out, beq_eq_false_iff_ne]
            intro e2
            exact e (by rw [← HX.out, ← HY.out, e2]))
          clear e
          go_wp2
          go_quiet (fail)
          go_wp2
          go_ret
          exact ⟨by rw [R.out]; rfl, below_drewN (below_drewN (Below.refl _ _) _) _⟩
      · have R := Lib.hid (show v = true by
          rw [← V.out]
          have e1 : ps.take k = ps := List.take_of_length_le (by rw [HL.out]; omega)
          have e2 : qs.take k = qs := List.take_of_length_le (by rw [GL.out]; omega)
          rw [← e1, ← e2, HF.out]
          simp)
        go_wp2
        go_ret
        exact ⟨by rw [R.out]; rfl, below_drewN (Below.refl _ _) _⟩
  · have R := Lib.hid (show v = false by
      rw [← V.out, beq_eq_false_iff_ne]
      intro e
      exact hnm (by rw [← hl, ← gl, e]))
    have ne : ((n : Int) != (m : Int)) = true := by simp; omega
    clear h g hv hl gl
    go_enter Try.func42, Try.ntmps42
    go_wp2
    go_ret
    exact ⟨by rw [R.out]; rfl, Below.refl _ _⟩
set_option maxRecDepth 20000 in
set_option maxHeartbeats 2000000 in
theorem palike_any (X Y : TV) (s1 s2 t1 t2 : SlT) (w : World) (h1 : SSl w s1.A s1.n s1.c X.devs) (h2 : SSl w s2.A s2.n s2.c X.ports) (g1 : SSl w t1.A t1.n t1.c Y.devs) (g2 : SSl w t2.A t2.n t2.c Y.ports) :
    Calls Try.prog 29 #[tenV X s1 s2, tenV Y t1 t2] w fun e w' => e = .returned (.bool (smT X Y)) ∧ Below w.heap.size w w' := by
  obtain ⟨vn, hn⟩ : ∃ v, (X.name == Y.name) = v := ⟨_, rfl⟩
  obtain ⟨vd, hd⟩ : ∃ v, (X.devs == Y.devs) = v := ⟨_, rfl⟩
  obtain ⟨vp, hp⟩ : ∃ v, (X.ports == Y.ports) = v := ⟨_, rfl⟩
  have ST := Lib.hid (show smT X Y = (vn && (vd && vp)) by rw [smT, hn, hd, hp])
  have CD := Lib.hid (show ∀ w', Below w.heap.size w w' → Calls Try.prog 42 #[.slice s1.A s1.n s1.c, .slice t1.A t1.n t1.c] w' (fun e w2 => e = .returned (.bool vd) ∧ Below w'.heap.size w' w2) from fun w' hb => eqs_any _ _ _ _ _ _ _ _ w' (h1.below hb) (g1.below hb) vd hd)
  have CP := Lib.hid (show ∀ w', Below w.heap.size w w' → Calls Try.prog 42 #[.slice s2.A s2.n s2.c, .slice t2.A t2.n t2.c] w' (fun e w2 => e = .returned (.bool vp) ∧ Below w'.heap.size w' w2) from fun w' hb => eqs_any _ _ _ _ _ _ _ _ w' (h2.below hb) (g2.below hb) vp hp)
  generalize smT X Y = V at *
  unfold tenV
  obtain ⟨xr, xn, xd, xp⟩ := X
  obtain ⟨yr, yn, yd, yp⟩ := Y
  obtain ⟨A1, n1, c1⟩ := s1
  obtain ⟨A2, n2, c2⟩ := s2
  obtain ⟨B1, m1, d1⟩ := t1
  obtain ⟨B2, m2, d2⟩ := t2
  simp only [] at hn CD CP ⊢
  clear h1 h2 g1 g2 hd hp
  obtain ⟨W, hW⟩ : ∃ W, (w.alloc (.cells #[.int .i64 xr, .string (str xn), .slice A1 n1 c1, .slice A2 n2 c2] 40)).alloc (.cells #[.int .i64 yr, .string (str yn), .slice B1 m1 d1, .slice B2 m2 d2] 40) = W := ⟨_, rfl⟩
  have BW : Below w.heap.size w W := hW ▸ two_alloc w _ _
  have K : ∀ w', Below W.heap.size W w' → w'.cell? ⟨w.heap.size, 3, none⟩ = some (.slice A2 n2 c2) ∧ w'.cell? ⟨w.heap.size + 1, 3, none⟩ = some (.slice B2 m2 d2) := fun w' hb => by
    have e1 : W.cell? ⟨w.heap.size, 3, none⟩ = some (.slice A2 n2 c2) := by rw [← hW]; simp [go_sem]
    have e2 : W.cell? ⟨w.heap.size + 1, 3, none⟩ = some (.slice B2 m2 d2) := by rw [← hW]; simp [go_sem]
    have z : W.heap.size = w.heap.size + 2 := by rw [← hW]; simp
    exact ⟨(hb.cell (p := ⟨w.heap.size, 3, none⟩) (show w.heap.size < W.heap.size by omega)).trans e1, (hb.cell (p := ⟨w.heap.size + 1, 3, none⟩) (show w.heap.size + 1 < W.heap.size by omega)).trans e2⟩
  subst hW
  have KK := Lib.hid K
  have BB := Lib.hid BW
  clear K BW
  cases vn
  · go_enter Try.func29, Try.ntmps29
    go_wp2
    go_ret
    exact ⟨by rw [ST.out]; rfl, BB.out⟩
  · cases vd
    · go_enter Try.func29, Try.ntmps29
      go_wp2_with (go_at_call 42; (with_reducible refine (CD.out _ BB.out).mono ?_); rintro e w2 ⟨rfl, hb2⟩; have X2 := Lib.hid (trans_below BB.out hb2))
      go_ret
      exact ⟨by rw [ST.out]; rfl, X2.out⟩
    · cases vp
      all_goals
        go_enter Try.func29, Try.ntmps29
        go_wp2_with (first
          | (go_at_call 42; (with_reducible refine (CD.out _ BB.out).mono ?_); rintro e w2 ⟨rfl, hb2⟩; have X2 := Lib.hid (trans_below BB.out hb2); obtain ⟨k3, k4⟩ := KK.out w2 hb2; clear hb2)
          | (go_at_call 42; (with_reducible refine (CP.out _ X2.out).mono ?_); rintro e w3 ⟨rfl, hb3⟩; have X3 := Lib.hid (trans_below X2.out hb3)))
        go_ret
        exact ⟨by rw [ST.out]; rfl, X3.out⟩
set_option maxRecDepth 20000 in
set_option maxHeartbeats 4000000 in
theorem peqfunc_any (A : Option Addr) (n c : Nat) (B : Option Addr) (m d : Nat) (xs ys : List TV) (w : World) (F G : Nat → Prop) (h : RSl tenR w F A n c xs) (g : RSl tenR w G B m d ys) (V : Bool) (hV : smP xs ys = V) :
    Calls Try.prog 28 #[.slice A n c, .slice B m d, .func (.func 29) #[] #[]] w fun e w' => e = .returned (.bool V) ∧ Below w.heap.size w w' := by
  have hle := h.le
  have hcap := h.cap
  have gle := g.le
  have gcap := g.cap
  have HL := Lib.hid h.len
  have GL := Lib.hid g.len
  have H := Lib.hid h
  have G := Lib.hid g
  have HV := Lib.hid (show smP (xs.drop 0) (ys.drop 0) = V from hV)
  clear h g
  by_cases hnm : n = m
  rotate_left
  · have e : V = false := by rw [← hV]; exact smP_len (by rw [HL.out, GL.out]; omega)
    have ne : ((n : Int) != (m : Int)) = true := by simp; omega
    subst e
    clear HV hV
    go_enter Try.func28, Try.ntmps28
    go_wp2
    go_ret
    exact ⟨rfl, Below.refl _ _⟩
  subst hnm
  clear hV
  go_enter Try.func28, Try.ntmps28
  go_wp2
  go_loopw [17] (fun i wr => ∃ k : Nat, i = .int .i64 k ∧ k ≤ n ∧ Below w.heap.size w wr ∧ smP (xs.drop k) (ys.drop k) = V) (fun i _ => match i with | .int _ x => (n - x).toNat | _ => 0)
  case atStart => exact ⟨0, rfl, by omega, Below.refl _ _, HV.out⟩
  case round =>
    obtain ⟨k, rfl, hk, hb, hv⟩ := hrel
    have W := Lib.hid hb
    have VV := Lib.hid hv
    clear hb hv
    by_cases hlt : k < n
    · obtain ⟨b0, o0, s1, s2, rfl, hb0, l1, l2, c0, c1, c2, c3⟩ := tens_at H.out k hlt
      obtain ⟨b1, o1, t1, t2, rfl, hb1, m1, m2, d0, d1, d2, d3⟩ := tens_at G.out k hlt
      have ST := Lib.hid (VV.out.symm.trans (smP_at (xs := xs) (ys := ys) (by rw [HL.out]; exact hlt) (by rw [GL.out]; exact hlt)))
      generalize xs.getD k TV.zero = X at *
      generalize ys.getD k TV.zero = Y at *
      have i0 : (k : Int) < (n : Int) := by omega
      have q0 := (W.out.cell (p := ⟨b0, _, none⟩) hb0).trans c0
      have q1 := (W.out.cell (p := ⟨b0, _, none⟩) hb0).trans c1
      have q2 := (W.out.cell (p := ⟨b0, _, none⟩) hb0).trans c2
      have q3 := (W.out.cell (p := ⟨b0, _, none⟩) hb0).trans c3
      have p0 := (W.out.cell (p := ⟨b1, _, none⟩) hb1).trans d0
      have p1 := (W.out.cell (p := ⟨b1, _, none⟩) hb1).trans d1
      have p2 := (W.out.cell (p := ⟨b1, _, none⟩) hb1).trans d2
      have p3 := (W.out.cell (p := ⟨b1, _, none⟩) hb1).trans d3
      have z0 : b0 < wr.heap.size := Nat.lt_of_lt_of_le hb0 W.out.size
      have z1 : b1 < wr.heap.size := Nat.lt_of_lt_of_le hb1 W.out.size
      have CA := fun (w' : World) (hb : Below w.heap.size w w') => palike_any X Y s1 s2 t1 t2 w' (l1.below hb) (l2.below hb) (m1.below hb) (m2.below hb)
      obtain ⟨sv, hsv⟩ : ∃ sv, smT X Y = sv := ⟨_, rfl⟩
      rw [hsv] at CA ST
      unfold tenV at CA
      have CA := Lib.hid CA
      have ST2 := Lib.hid ST.out
      clear c0 c1 c2 c3 d0 d1 d2 d3 l1 l2 m1 m2 ST hsv
      cases sv with
      | true =>
        go_wp2_with (go_at_call 29; (with_reducible refine (CA.out _ (trans_below W.out (two_alloc wr _ _))).mono ?_); rintro e w5 ⟨rfl, hb5⟩; have W5 := Lib.hid (trans_below (trans_below W.out (two_alloc wr _ _)) hb5); clear hb5)
        go_roundw
        case rel => exact ⟨k + 1, by simp, by omega, W5.out, by rw [ST2.out, Bool.true_and]⟩
        case measure => simp only []; omega
      | false =>
        go_wp2_with (go_at_call 29; (with_reducible refine (CA.out _ (trans_below W.out (two_alloc wr _ _))).mono ?_); rintro e w5 ⟨rfl, hb5⟩; have W5 := Lib.hid (trans_below (trans_below W.out (two_alloc wr _ _)) hb5); clear hb5)
        go_ret
        exact ⟨by rw [ST2.out]; rfl, W5.out⟩
    · have E := Lib.hid (VV.out.symm.trans (smP_end (by rw [HL.out]; omega) (by rw [GL.out]; omega)))
      go_wp2
      go_ret
      exact ⟨by rw [E.out]; rfl, W.out⟩
theorem xpsame_any (A : Option Addr) (n c : Nat) (B : Option Addr) (m d : Nat) (xs ys : List TV) (w : World) (F G : Nat → Prop) (h : RSl tenR w F A n c xs) (g : RSl tenR w G B m d ys) :
    Calls Try.prog 15 #[.slice A n c, .slice B m d] w fun e w' => e = .returned (.bool (smP xs ys)) ∧ Below w.heap.size w w' := by
  have E := Lib.hid (peqfunc_any A n c B m d xs ys w F G h g _ rfl)
  clear h g
  go_enter Try.func15, Try.ntmps15
  go_wp2_with (go_at_call 28; (with_reducible refine E.out.mono ?_); rintro e w1 ⟨rfl, b1⟩)
  go_ret
  exact ⟨rfl, b1⟩
end Go.Proofs.Ytkfhjmoocnhekaa
