/- Equal and Clone of lists of numbers, Contains, and a text cloned (made by mk-stlib.py). -/
import Derived.Test.YtocobjekcdabgaaGreatCode3
import Derived.Test.YtocobjekcdabgaaGreatStPut
import Derived.Test.YtocobjekcdabgaaGreatShelf
import Derived.WalkSpells
namespace Go.Proofs.YtocobjekcdabgaaGreat
open Go.RowKit

/-- a list of the call's own, as a call returns it -/
def GotSl (k : IntKind) (xs : List Int) (w : World) (e : Ending) (w' : World) : Prop :=
  ∃ t : SlV, e = .returned (.slice t.A t.n t.c) ∧ ISl w' k t.A t.n t.c xs ∧ Below w.heap.size w w' ∧ ∀ ad, t.A = some ad → w.heap.size ≤ ad.block
theorem ISl.cells_ {w : World} {k : IntKind} {ad : Addr} {n c : Nat} {xs : List Int} (h : ISl w k (some ad) n c xs) : ∀ j u, (xs.map (Value.int k))[j]? = some u → w.cell? (ad.add j) = some u := by
  intro j u hu
  have hj : j < n := by
    have := (List.getElem?_eq_some_iff.1 hu).1
    rw [List.length_map, h.len] at this
    exact this
  obtain ⟨b, off, e, _, hc⟩ := h.2.2.2 (by omega)
  cases e
  have e2 : (xs.map (Value.int k))[j]? = some (.int k (xs.getD j 0)) := by
    rw [List.getElem?_map, List.getD, List.getElem?_eq_getElem (by rw [h.len]; exact hj)]
    rfl
  rw [e2] at hu
  cases hu
  rw [← hc j hj]
  by_cases h0 : j = 0 <;> simp [Addr.add, h0]
theorem list_eq_of {xs ys : List Int} {n : Nat} (hx : xs.length = n) (hy : ys.length = n) (h : ∀ j, j < n → xs.getD j 0 = ys.getD j 0) : xs = ys := by
  apply List.ext_getElem (by omega)
  intro j h1 h2
  have := h j (by omega)
  simpa [List.getD, List.getElem?_eq_getElem h1, List.getElem?_eq_getElem h2] using this
theorem contains_any (s : SlV) (xs : List Int) (x : Int) (w : World) (h : ISl w .i64 s.A s.n s.c xs) :
    Calls Tryz.prog 81 #[.slice s.A s.n s.c, .int .i64 x] w fun e w' => e = .returned (.bool (xs.contains x)) ∧ w = w' := by
  obtain ⟨A, n, c⟩ := s
  have hl := h.len
  have hle := h.le
  have hcap := h.cap
  by_cases hn : 0 < n
  · obtain ⟨b, off, e, hb, hc⟩ := h.2.2.2 hn
    dsimp only at e hl hc ⊢
    subst e
    refine (Tryz.slices_Contains_int b off n c xs x w (by omega) (by dsimp only at hle hcap; omega) (fun j hj => hc j (by omega))).mono ?_
    rintro e w' ⟨rfl, rfl⟩
    exact ⟨by rw [← hl, List.take_length], rfl⟩
  · dsimp only at hl ⊢
    obtain rfl : n = 0 := by omega
    obtain rfl : xs = [] := List.eq_nil_of_length_eq_zero hl
    refine (Tryz.slices_Contains_int_empty A c x w).mono ?_
    rintro e w' ⟨rfl, rfl⟩
    exact ⟨rfl, rfl⟩
theorem tclone_any (l : List UInt8) (w : World) (hs : l.length ≤ 1000000) :
    Calls Tryz.prog 100 #[.string (str l)] w fun e w' => e = .returned (.string (str l)) ∧ Below w.heap.size w w' := by
  have hz : (str l).size ≤ 281474976710656 := by rw [str_size]; omega
  go_enter Tryz.func100, Tryz.ntmps100
  go_wp2_with (go_at_call 111; refine (Tryz.stringslite_Clone (str l) _ hz).mono ?_; rintro e w1 ⟨rfl, hb1⟩)
  go_ret
  exact ⟨rfl, hb1⟩

set_option maxRecDepth 100000 in
set_option maxHeartbeats 1000000 in
theorem eq_int (s t : SlV) (xs ys : List Int) (w : World) (h : ISl w .i64 s.A s.n s.c xs) (h2 : ISl w .i64 t.A t.n t.c ys) :
    Calls Tryz.prog 98 #[.slice s.A s.n s.c, .slice t.A t.n t.c] w fun e w' => e = .returned (.bool (xs == ys)) ∧ Drew w w' := by
  obtain ⟨A, n, c⟩ := s
  obtain ⟨B, n2, c2⟩ := t
  dsimp only at h h2 ⊢
  have hle := h.le
  have hcap := h.cap
  have hle2 := h2.le
  have hcap2 := h2.cap
  have H := Lib.hid h
  have H2 := Lib.hid h2
  clear h h2
  by_cases hne : n = n2
  · subst hne
    by_cases hn : 0 < n
    · obtain ⟨b, off, rfl, hb, hc⟩ := H.out.2.2.2 hn
      obtain ⟨b2, off2, rfl, hb2, hc2⟩ := H2.out.2.2.2 hn
      have HC := Lib.hid hc
      have HC2 := Lib.hid hc2
      clear hc hc2
      go_enter Tryz.func98, Tryz.ntmps98
      go_wp2
      go_loopw [13] (fun i wr => ∃ k : Nat, k ≤ n ∧ i = .int .i64 (k : Int) ∧ (∀ j, j < k → xs.getD j 0 = ys.getD j 0) ∧ Drew w wr) (fun i _ => n - (intOf i).toNat)
      case atStart => exact ⟨0, by omega, rfl, fun j hj => absurd hj (by omega), Drew.refl _⟩
      case round =>
        obtain ⟨k, hk, rfl, hal, m, rfl⟩ := hrel
        have AL := Lib.hid hal
        clear hal
        by_cases hlt : k < n
        · have c0 : w.cell? ⟨b, off + k, none⟩ = some (.int .i64 (xs.getD k 0)) := HC.out k hlt
          have c1 : w.cell? ⟨b2, off2 + k, none⟩ = some (.int .i64 (ys.getD k 0)) := HC2.out k hlt
          generalize hx : xs.getD k 0 = x at c0
          generalize hy : ys.getD k 0 = y at c1
          have HX := Lib.hid hx
          have HY := Lib.hid hy
          clear hx hy
          by_cases hxy : x = y
          · subst hxy
            go_wp2
            go_quiet (fail)
            go_wp2
            go_roundw
            case rel => exact ⟨k + 1, by omega, by go_num, fun j hj => by
                by_cases e : j = k
                · subst e; rw [HX.out, HY.out]
                · exact AL.out j (by omega), ⟨m + nq, rfl⟩⟩
            case measure => simp [intOf]; omega
          · have E := Lib.hid (show (xs == ys) = false by
              rw [beq_eq_false_iff_ne]
              intro e
              subst e
              exact hxy (HX.out.symm.trans HY.out))
            go_wp2
            go_quiet (fail)
            go_wp2
            go_ret
            exact ⟨by rw [E.out]; rfl, ⟨m + nq, by rw [drewN_add]⟩⟩
        · obtain rfl : k = n := by omega
          have E := Lib.hid (show (xs == ys) = true by rw [beq_iff_eq]; exact list_eq_of H.out.len H2.out.len AL.out)
          go_wp2
          go_ret
          exact ⟨by rw [E.out]; rfl, ⟨m, rfl⟩⟩
    · obtain rfl : n = 0 := by omega
      obtain rfl : xs = [] := List.eq_nil_of_length_eq_zero H.out.len
      obtain rfl : ys = [] := List.eq_nil_of_length_eq_zero H2.out.len
      go_enter Tryz.func98, Tryz.ntmps98
      go_wp2
      go_loop [13] (fun i => i = .int .i64 0) (fun i => 0)
      case atStart => rfl
      case round =>
        subst hrel
        go_wp2
        go_ret
        exact ⟨rfl, Drew.refl _⟩
  · have E := Lib.hid (show (xs == ys) = false by
      rw [beq_eq_false_iff_ne]
      intro e
      subst e
      exact hne (H.out.len.symm.trans H2.out.len))
    go_enter Tryz.func98, Tryz.ntmps98
    go_wp2
    go_ret
    exact ⟨by rw [E.out]; rfl, Drew.refl _⟩
theorem own0_int (w : World) (B : Nat) (hB : B ≤ w.heap.size) : (w.alloc (.cells #[] 3)).ownsRow B 3 1 (.slice (some ⟨w.heap.size, 0, none⟩) 0 0) 0 [] :=
  World.ownsRow_lit w #[] 0 hB (by unfold maxLen; omega) rfl
set_option maxHeartbeats 1000000 in
theorem clone_int (s : SlV) (xs : List Int) (w : World) (h : ISl w .i64 s.A s.n s.c xs) (hz : xs.length ≤ 1000000) :
    Calls Tryz.prog 101 #[.slice s.A s.n s.c] w (GotSl .i64 xs w) := by
  obtain ⟨A, n, c⟩ := s
  dsimp only at h ⊢
  have hlen := h.len
  have hn : n ≤ 1000000 := by omega
  obtain ⟨i0, hi, hz0, hz1, hz2⟩ := info_parts Tryz.info3
  have Hi := Lib.hid hi; have Hz0 := Lib.hid hz0; have Hz1 := Lib.hid hz1; have Hz2 := Lib.hid hz2
  clear hi hz0 hz1 hz2
  rcases A with _ | ad
  · have hn0 : n = 0 := by
      rcases Nat.eq_zero_or_pos n with e | e
      · exact e
      · obtain ⟨b, off, e2, _⟩ := h.2.2.2 e; cases e2
    subst hn0
    obtain rfl : xs = [] := List.eq_nil_of_length_eq_zero hlen
    clear h hlen hn
    have hq := fun w => Lib.run_eql_slice_nil (P := Tryz.prog) w 36 3 none 0 c 0 0 Tryz.underlying36
    go_enter Tryz.func101, Tryz.ntmps101
    go_wp2
    go_ret
    exact ⟨SlV.nil, rfl, ISl.nil, Below.refl _ _, fun ad e => by cases e⟩
  · have HS := Lib.hid h
    clear h
    have hq := fun w => Lib.run_eql_slice_nil (P := Tryz.prog) w 36 3 (some ad) n c 0 0 Tryz.underlying36
    go_enter Tryz.func101, Tryz.ntmps101
    go_wp2_with (at_builtin; refine wpList_append_own _ rfl (.tmp 5) (.tmp 6) 36 rfl w.heap.size 3 i0 (.int .i64 0) 1 8 Tryz.underlying36 Hi.out Hz0.out Hz1.out Hz2.out rfl (by decide) _ _ _ (by rfl) (own0_int w w.heap.size (Nat.le_refl _)) ad n c (xs.map (Value.int .i64)) (by rfl) (by rw [List.length_map, hlen, Nat.mul_one]) ((HS.out.alloc _).cells_) (by intro u hu; obtain ⟨z, _, rfl⟩ := List.mem_map.1 hu; rfl) (by unfold maxLen; omega) (by omega) (by simp) ?_; intro v2 w2 hown2 hgrow2 _; simp only [Nat.zero_add, List.nil_append] at hown2; have B2 := below_app ((Below.refl w.heap.size w).alloc (Nat.le_refl _) _) (own0_int w w.heap.size (Nat.le_refl _)) hgrow2)
    obtain ⟨A2, c2, rfl⟩ : ∃ A2 c2, v2 = .slice A2 n c2 := by
      rcases hown2.2 with ⟨hv, hn2⟩ | ⟨g, cap, cur, hv, _⟩
      · subst hn2; exact ⟨none, 0, hv⟩
      · exact ⟨_, _, hv⟩
    go_ret
    exact ⟨⟨A2, n, c2⟩, rfl, ISl.of_own hown2, B2, own_at hown2⟩

set_option maxRecDepth 100000 in
set_option maxHeartbeats 1000000 in
theorem eq_uint32 (s t : SlV) (xs ys : List Int) (w : World) (h : ISl w .u32 s.A s.n s.c xs) (h2 : ISl w .u32 t.A t.n t.c ys) :
    Calls Tryz.prog 99 #[.slice s.A s.n s.c, .slice t.A t.n t.c] w fun e w' => e = .returned (.bool (xs == ys)) ∧ Drew w w' := by
  obtain ⟨A, n, c⟩ := s
  obtain ⟨B, n2, c2⟩ := t
  dsimp only at h h2 ⊢
  have hle := h.le
  have hcap := h.cap
  have hle2 := h2.le
  have hcap2 := h2.cap
  have H := Lib.hid h
  have H2 := Lib.hid h2
  clear h h2
  by_cases hne : n = n2
  · subst hne
    by_cases hn : 0 < n
    · obtain ⟨b, off, rfl, hb, hc⟩ := H.out.2.2.2 hn
      obtain ⟨b2, off2, rfl, hb2, hc2⟩ := H2.out.2.2.2 hn
      have HC := Lib.hid hc
      have HC2 := Lib.hid hc2
      clear hc hc2
      go_enter Tryz.func99, Tryz.ntmps99
      go_wp2
      go_loopw [13] (fun i wr => ∃ k : Nat, k ≤ n ∧ i = .int .i64 (k : Int) ∧ (∀ j, j < k → xs.getD j 0 = ys.getD j 0) ∧ Drew w wr) (fun i _ => n - (intOf i).toNat)
      case atStart => exact ⟨0, by omega, rfl, fun j hj => absurd hj (by omega), Drew.refl _⟩
      case round =>
        obtain ⟨k, hk, rfl, hal, m, rfl⟩ := hrel
        have AL := Lib.hid hal
        clear hal
        by_cases hlt : k < n
        · have c0 : w.cell? ⟨b, off + k, none⟩ = some (.int .u32 (xs.getD k 0)) := HC.out k hlt
          have c1 : w.cell? ⟨b2, off2 + k, none⟩ = some (.int .u32 (ys.getD k 0)) := HC2.out k hlt
          generalize hx : xs.getD k 0 = x at c0
          generalize hy : ys.getD k 0 = y at c1
          have HX := Lib.hid hx
          have HY := Lib.hid hy
          clear hx hy
          by_cases hxy : x = y
          · subst hxy
            go_wp2
            go_quiet (fail)
            go_wp2
            go_roundw
            case rel => exact ⟨k + 1, by omega, by go_num, fun j hj => by
                by_cases e : j = k
                · subst e; rw [HX.out, HY.out]
                · exact AL.out j (by omega), ⟨m + nq, rfl⟩⟩
            case measure => simp [intOf]; omega
          · have E := Lib.hid (show (xs == ys) = false by
              rw [beq_eq_false_iff_ne]
              intro e
              subst e
              exact hxy (HX.out.symm.trans HY.out))
            go_wp2
            go_quiet (fail)
            go_wp2
            go_ret
            exact ⟨by rw [E.out]; rfl, ⟨m + nq, by rw [drewN_add]⟩⟩
        · obtain rfl : k = n := by omega
          have E := Lib.hid (show (xs == ys) = true by rw [beq_iff_eq]; exact list_eq_of H.out.len H2.out.len AL.out)
          go_wp2
          go_ret
          exact ⟨by rw [E.out]; rfl, ⟨m, rfl⟩⟩
    · obtain rfl : n = 0 := by omega
      obtain rfl : xs = [] := List.eq_nil_of_length_eq_zero H.out.len
      obtain rfl : ys = [] := List.eq_nil_of_length_eq_zero H2.out.len
      go_enter Tryz.func99, Tryz.ntmps99
      go_wp2
      go_loop [13] (fun i => i = .int .i64 0) (fun i => 0)
      case atStart => rfl
      case round =>
        subst hrel
        go_wp2
        go_ret
        exact ⟨rfl, Drew.refl _⟩
  · have E := Lib.hid (show (xs == ys) = false by
      rw [beq_eq_false_iff_ne]
      intro e
      subst e
      exact hne (H.out.len.symm.trans H2.out.len))
    go_enter Tryz.func99, Tryz.ntmps99
    go_wp2
    go_ret
    exact ⟨by rw [E.out]; rfl, Drew.refl _⟩
theorem own0_uint32 (w : World) (B : Nat) (hB : B ≤ w.heap.size) : (w.alloc (.cells #[] 47)).ownsRow B 47 1 (.slice (some ⟨w.heap.size, 0, none⟩) 0 0) 0 [] :=
  World.ownsRow_lit w #[] 0 hB (by unfold maxLen; omega) rfl
set_option maxHeartbeats 1000000 in
theorem clone_uint32 (s : SlV) (xs : List Int) (w : World) (h : ISl w .u32 s.A s.n s.c xs) (hz : xs.length ≤ 1000000) :
    Calls Tryz.prog 102 #[.slice s.A s.n s.c] w (GotSl .u32 xs w) := by
  obtain ⟨A, n, c⟩ := s
  dsimp only at h ⊢
  have hlen := h.len
  have hn : n ≤ 1000000 := by omega
  obtain ⟨i0, hi, hz0, hz1, hz2⟩ := info_parts Tryz.info47
  have Hi := Lib.hid hi; have Hz0 := Lib.hid hz0; have Hz1 := Lib.hid hz1; have Hz2 := Lib.hid hz2
  clear hi hz0 hz1 hz2
  rcases A with _ | ad
  · have hn0 : n = 0 := by
      rcases Nat.eq_zero_or_pos n with e | e
      · exact e
      · obtain ⟨b, off, e2, _⟩ := h.2.2.2 e; cases e2
    subst hn0
    obtain rfl : xs = [] := List.eq_nil_of_length_eq_zero hlen
    clear h hlen hn
    have hq := fun w => Lib.run_eql_slice_nil (P := Tryz.prog) w 41 47 none 0 c 0 0 Tryz.underlying41
    go_enter Tryz.func102, Tryz.ntmps102
    go_wp2
    go_ret
    exact ⟨SlV.nil, rfl, ISl.nil, Below.refl _ _, fun ad e => by cases e⟩
  · have HS := Lib.hid h
    clear h
    have hq := fun w => Lib.run_eql_slice_nil (P := Tryz.prog) w 41 47 (some ad) n c 0 0 Tryz.underlying41
    go_enter Tryz.func102, Tryz.ntmps102
    go_wp2_with (at_builtin; refine wpList_append_own _ rfl (.tmp 5) (.tmp 6) 41 rfl w.heap.size 47 i0 (.int .u32 0) 1 4 Tryz.underlying41 Hi.out Hz0.out Hz1.out Hz2.out rfl (by decide) _ _ _ (by rfl) (own0_uint32 w w.heap.size (Nat.le_refl _)) ad n c (xs.map (Value.int .u32)) (by rfl) (by rw [List.length_map, hlen, Nat.mul_one]) ((HS.out.alloc _).cells_) (by intro u hu; obtain ⟨z, _, rfl⟩ := List.mem_map.1 hu; rfl) (by unfold maxLen; omega) (by omega) (by simp) ?_; intro v2 w2 hown2 hgrow2 _; simp only [Nat.zero_add, List.nil_append] at hown2; have B2 := below_app ((Below.refl w.heap.size w).alloc (Nat.le_refl _) _) (own0_uint32 w w.heap.size (Nat.le_refl _)) hgrow2)
    obtain ⟨A2, c2, rfl⟩ : ∃ A2 c2, v2 = .slice A2 n c2 := by
      rcases hown2.2 with ⟨hv, hn2⟩ | ⟨g, cap, cur, hv, _⟩
      · subst hn2; exact ⟨none, 0, hv⟩
      · exact ⟨_, _, hv⟩
    go_ret
    exact ⟨⟨A2, n, c2⟩, rfl, ISl.of_own hown2, B2, own_at hown2⟩
end Go.Proofs.YtocobjekcdabgaaGreat
