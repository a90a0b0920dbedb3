/- The walk of the statement NumListsBack. -/
import Derived.Test.YtjmbgfhjdmoflaaDoorWorks3
import Derived.Test.YtjmbgfhjdmoflaaDoorRefLists
import Derived.Test.YtjmbgfhjdmoflaaDoorWrite
namespace Go.Proofs.YtjmbgfhjdmoflaaDoor
open Go.RowKit
open Go.Lib (decDigits itoa)

def P32 (x : Int) : Prop := -2147483648 ≤ x ∧ x ≤ 2147483647
def PU32 (x : Int) : Prop := 0 ≤ x ∧ x < 4294967296
/-- what the loop has gathered: numbers that rise, in a row of the call's own -/
structure Gath (w : World) (K : IntKind) (E : TypeId) (P : Int → Prop) (k : Nat) (v : Value) (xs : List Int) (wr : World) : Prop where
  own : wr.ownsRow w.heap.size E 1 v xs.length (xs.map (Value.int K))
  bel : Below w.heap.size w wr
  up : Up xs xs.length
  le : xs.length ≤ k
  rng : ∀ x ∈ xs, P x
theorem Gath.start {w wr : World} {K : IntKind} {E : TypeId} {P : Int → Prop} (h : Below w.heap.size w wr) : Gath w K E P 0 (.slice none 0 0) [] wr :=
  ⟨World.ownsRow_nil _ _ _ _, h, Up.zero _, Nat.le_refl _, fun x hx => by cases hx⟩
theorem Gath.skip {w wr : World} {K : IntKind} {E : TypeId} {P : Int → Prop} {k : Nat} {v : Value} {xs : List Int} (h : Gath w K E P k v xs wr) (m : Nat) : Gath w K E P (k + 1) v xs (wr.drewN m) :=
  ⟨h.own, below_drewN h.bel m, h.up, Nat.le_succ_of_le h.le, h.rng⟩
theorem Gath.below {w wr wr' : World} {K : IntKind} {E : TypeId} {P : Int → Prop} {k : Nat} {v : Value} {xs : List Int} (h : Gath w K E P k v xs wr) (hb : Below wr.heap.size wr wr') : Gath w K E P k v xs wr' :=
  ⟨own_keep h.own hb, trans_below h.bel hb, h.up, h.le, h.rng⟩
theorem Gath.push {w wr w3 : World} {K : IntKind} {E : TypeId} {P : Int → Prop} {k m : Nat} {v v3 : Value} {xs : List Int} {x : Int} {o1 : Obj} (h : Gath w K E P k v xs wr)
    (hx : P x) (hup : xs.length = 0 ∨ xs.getD (xs.length - 1) 0 < x)
    (hown3 : w3.ownsRow w.heap.size E 1 v3 (xs.length + 1) (xs.map (Value.int K) ++ [.int K x])) (hg : ((wr.drewN m).alloc o1).grownBy w3 v.ownBlock) : Gath w K E P (k + 1) v3 (xs ++ [x]) w3 := by
  have hl := list_more (a := w) (k := K) (below_drewN h.bel m) (show (wr.drewN m).ownsRow w.heap.size E 1 v xs.length (xs.map (Value.int K)) from h.own) hown3 hg
  refine ⟨hl.1, hl.2, ?_, by rw [List.length_append, List.length_singleton]; have := h.le; omega, ?_⟩
  · rw [List.length_append, List.length_singleton]
    by_cases hz : xs.length = 0
    · rw [hz]
      exact Up.one _
    · refine Up.next (fun i h0 h1 => ?_) ?_
      · rw [getD_left (by omega), getD_left (by omega)]
        exact h.up i h0 h1
      · rcases hup with h0 | h0
        · exact absurd h0 hz
        · rw [getD_right (Nat.le_refl _), getD_left (by omega), Nat.sub_self]
          exact h0
  · intro y hy
    rcases List.mem_append.1 hy with hy | hy
    · exact h.rng y hy
    · rw [List.mem_singleton.1 hy]; exact hx
theorem risB_of {xs : List Int} (h0 : 0 < xs.length) (h1 : xs.length ≤ 16) (h : Up xs xs.length) : risB xs = true := (risB_iff xs).2 ⟨h0, h1, h⟩
theorem rlF_nilI (lo hi : Int) : rlF (rdI lo hi) [] = none := rlF_none (by
  have : nF [] lo hi = none := nF_none_len (.inl (by decide))
  simp [splitC, allRd, rdI, this])
theorem rlF_nilA : rlF rdA [] = none := rlF_none (by decide +kernel)
theorem txA_no44 (x : Int) : (44 : UInt8) ∉ txA x := by
  have key : ∀ u : Nat, (44 : UInt8) ∉ decDigits u := fun u h => by
    have := dec_digits u 44 h
    revert this
    decide
  unfold txA
  rw [txt_parts]
  intro h
  simp only [List.mem_append, List.mem_singleton] at h
  rcases h with (((((h | h) | h) | h) | h) | h) | h
  all_goals first | exact key _ h | (revert h; decide)
theorem rdA_txA (x : Int) (h : PU32 x) : rdA (txA x) = some x := by
  unfold PU32 at h
  have e : rdF (txt x.toNat) = some x.toNat := rdF_iff.2 ⟨by omega, rfl⟩
  unfold rdA txA
  rw [e]
  show some ((x.toNat : Nat) : Int) = some x
  congr 1
  omega
theorem backI (xs : List Int) (v : Bool) (hv : v = decide (0 < xs.length)) (h1 : xs.length ≤ 16) (hup : Up xs xs.length) (hr : ∀ x ∈ xs, P32 x) :
    lsV (rdI (-2147483648) 2147483647) (jn txI xs) = xs ∧ lsB (rdI (-2147483648) 2147483647) (jn txI xs) = v := by
  by_cases h0 : 0 < xs.length
  · have e : rlF (rdI (-2147483648) 2147483647) (jn txI xs) = some xs := rlF_back itoa_no44 (fun x hx => by
      have := hr x hx
      unfold P32 at this
      show nF (itoa x) _ _ = _
      rw [nF_back x _ _ (by omega), if_pos ⟨by omega, by omega⟩]) (risB_of h0 h1 hup)
    rw [hv, decide_eq_true h0]
    exact ls_yes e
  · obtain rfl : xs = [] := List.eq_nil_of_length_eq_zero (by omega)
    rw [hv]
    exact ls_no (rlF_nilI _ _)
theorem backA (xs : List Int) (v : Bool) (hv : v = decide (0 < xs.length)) (h1 : xs.length ≤ 16) (hup : Up xs xs.length) (hr : ∀ x ∈ xs, PU32 x) :
    lsV rdA (jn txA xs) = xs ∧ lsB rdA (jn txA xs) = v := by
  by_cases h0 : 0 < xs.length
  · have e : rlF rdA (jn txA xs) = some xs := rlF_back txA_no44 (fun x hx => rdA_txA x (hr x hx)) (risB_of h0 h1 hup)
    rw [hv, decide_eq_true h0]
    exact ls_yes e
  · obtain rfl : xs = [] := List.eq_nil_of_length_eq_zero (by omega)
    rw [hv]
    exact ls_no rlF_nilA
theorem jn_len {f : Int → List UInt8} {xs : List Int} (h : ∀ x ∈ xs, (f x).length ≤ 20) (h1 : xs.length ≤ 16) : (jn f xs).length ≤ 1000 := by
  have := jnK_len2 h xs.length (Nat.le_refl _)
  unfold jn
  omega

set_option maxRecDepth 100000 in
set_option maxHeartbeats 4000000 in
theorem lback_walk (A : Option Addr) (n c : Nat) (zs : List Int) (B : Option Addr) (m d : Nat) (ys : List Int) (w : World) (hl : Lds w)
    (hz : ISl w .i32 A n c zs) (hy : ISl w .u32 B m d ys) (rz : ∀ x ∈ zs, P32 x) (ry : ∀ x ∈ ys, PU32 x) (hn : n ≤ 16) (hm : m ≤ 16) :
    Calls Tryd.prog 6 #[.slice A n c, .slice B m d] w fun e w' => e = .returned (.bool true) ∧ Below w.heap.size w w' := by
  obtain ⟨i0, hi, hz0, hz1, hz2⟩ := info_parts Tryd.info3
  obtain ⟨j0, hj, hy0, hy1, hy2⟩ := info_parts Tryd.info43
  have Hi := Lib.hid hi; have Hz0 := Lib.hid hz0; have Hz1 := Lib.hid hz1; have Hz2 := Lib.hid hz2
  have Hj := Lib.hid hj; have Hy0 := Lib.hid hy0; have Hy1 := Lib.hid hy1; have Hy2 := Lib.hid hy2
  have HL := Lib.hid hl
  have Z := Lib.hid hz
  have Y := Lib.hid hy
  have RZ := Lib.hid rz
  have RY := Lib.hid ry
  have hzle := hz.le
  have hzcap := hz.cap
  have hyle := hy.le
  have hycap := hy.cap
  clear hi hz0 hz1 hz2 hj hy0 hy1 hy2 hl hz hy rz ry
  go_enter Tryd.func6, Tryd.ntmps6
  go_wp2_with (go_at_call 7; (with_reducible refine (works_any _ HL.out).mono ?_); rintro e w0 ⟨rfl, hB0⟩)
  go_loopw [5, 6] (fun v i wr => ∃ (k : Nat) (vs : List Int), k ≤ n ∧ i = .int .i64 (k : Int) ∧ Gath w0 .i64 3 P32 k v vs wr) (fun _ i _ => n - (intOf i).toNat)
  case atStart => exact ⟨0, [], by omega, rfl, Gath.start (Below.refl _ _)⟩
  case round =>
    obtain ⟨k, vs, hk, rfl, hg⟩ := hrel
    obtain ⟨V1, c1, rfl, hvc, hvm⟩ := own_slice hg.own
    have HSL := Lib.hid (ISl.of_own hg.own)
    have hown := hg.own
    have hbel := hg.bel
    have hxl := hg.le
    have G := Lib.hid hg
    clear hg
    unfold maxLen at hvm
    by_cases hlt : k < n
    · obtain ⟨b, off, rfl, hb, hc⟩ := Z.out.2.2.2 (by omega)
      have c0 : wr.cell? ⟨b, off + k, none⟩ = some (.int .i32 (zs.getD k 0)) := ((trans_below hB0 hbel).cell (p := ⟨b, off + k, none⟩) hb).trans (hc k hlt)
      have hx := RZ.out _ (show zs.getD k 0 ∈ zs from getD_mem (by rw [Z.out.len]; exact hlt))
      clear hc
      generalize zs.getD k 0 = x at c0 hx
      have HX := Lib.hid hx
      unfold P32 at hx
      obtain ⟨x0, x1⟩ := hx
      have dw : IntKind.i64.wrap x = x := IntWalk.i64_in _ (by omega)
      by_cases h0 : vs.length = 0
      · have z : ((vs.length : Int) == 0) = true := by rw [h0]; rfl
        have H0 := Lib.hid h0
        clear h0
        go_wp2
        go_quiet (fail)
        have hown1 : (wr.drewN nq).ownsRow w0.heap.size 3 1 (.slice V1 vs.length c1) vs.length (vs.map (Value.int .i64)) := hown
        have hbel1 : Below w0.heap.size w0 (wr.drewN nq) := below_drewN hbel nq
        clear z
        go_wp2_with (at_builtin; refine wpList_append_lies _ rfl (.tmp 48) (.tmp 54) 28 rfl w0.heap.size 3 i0 (.int .i64 0) 1 8 Tryd.underlying28 Hi.out Hz0.out Hz1.out Hz2.out rfl (by decide) _ _ _ (by rfl) (hown1.alloc _) ⟨(wr.drewN nq).heap.size, 0, none⟩ 1 1 [.int .i64 x] (by rfl) rfl (World.news_of_block (heap_alloc_new (wr.drewN nq) _)) (by simp [Value.oneCell']) (by omega) (by unfold maxLen; omega) (by omega) (by have := hbel1.size; simp at this ⊢; omega) _ rfl ?_; intro g cap w3 hown3 hgrow3 _ _)
        have N := Lib.hid (G.out.push (m := nq) HX.out (.inl H0.out) hown3 hgrow3)
        clear hown hown1 hown3 hgrow3 hbel hbel1
        go_wp2
        go_roundw
        case rel => exact ⟨k + 1, vs ++ [x], by omega, by go_num, N.out⟩
        case measure => simp [intOf]; omega
      · have z : ((vs.length : Int) == 0) = false := by simp; intro e; subst e; exact h0 rfl
        have H0 := Lib.hid h0
        obtain ⟨vb, voff, rfl, hvb, hvcell⟩ := HSL.out.2.2.2 (by omega)
        have cy : wr.cell? ⟨vb, voff + (vs.length - 1), none⟩ = some (.int .i64 (vs.getD (vs.length - 1) 0)) := hvcell (vs.length - 1) (by omega)
        clear hvcell
        generalize hy : vs.getD (vs.length - 1) 0 = y at cy
        have HY := Lib.hid hy
        clear hy
        have k1 : 1 ≤ vs.length := by omega
        have k2 : (1 : Int) ≤ (vs.length : Int) := by omega
        have e1 : IntKind.i64.wrap ((vs.length : Int) - 1) = (vs.length : Int) - 1 := IntWalk.i64_in _ (by omega)
        have e2 : (0 : Int) ≤ (vs.length : Int) - 1 := by omega
        have e3 : ((vs.length : Int) - 1).toNat = vs.length - 1 := by omega
        have e4 : (vs.length : Int) - 1 < (vs.length : Int) := by omega
        clear h0
        by_cases d1 : y < x
        · have t1 : decide (y < x) = true := by simpa using d1
          go_wp2
          go_quiet (fail)
          have hown1 : (wr.drewN nq).ownsRow w0.heap.size 3 1 (.slice (some ⟨vb, voff, none⟩) vs.length c1) vs.length (vs.map (Value.int .i64)) := hown
          have hbel1 : Below w0.heap.size w0 (wr.drewN nq) := below_drewN hbel nq
          clear z e1 e2 e3 e4 cy t1
          go_wp2_with (at_builtin; refine wpList_append_lies _ rfl (.tmp 48) (.tmp 54) 28 rfl w0.heap.size 3 i0 (.int .i64 0) 1 8 Tryd.underlying28 Hi.out Hz0.out Hz1.out Hz2.out rfl (by decide) _ _ _ (by rfl) (hown1.alloc _) ⟨(wr.drewN nq).heap.size, 0, none⟩ 1 1 [.int .i64 x] (by rfl) rfl (World.news_of_block (heap_alloc_new (wr.drewN nq) _)) (by simp [Value.oneCell']) (by omega) (by unfold maxLen; omega) (by omega) (by have := hbel1.size; simp at this ⊢; omega) _ rfl ?_; intro g cap w3 hown3 hgrow3 _ _)
          have N := Lib.hid (G.out.push (m := nq) HX.out (.inr (by rw [HY.out]; exact d1)) hown3 hgrow3)
          clear hown hown1 hown3 hgrow3 hbel hbel1
          go_wp2
          go_roundw
          case rel => exact ⟨k + 1, vs ++ [x], by omega, by go_num, N.out⟩
          case measure => simp [intOf]; omega
        · have t1 : decide (y < x) = false := by simpa using d1
          go_wp2
          go_quiet (fail)
          have N := Lib.hid (G.out.skip nq)
          clear z e1 e2 e3 e4 cy t1
          go_wp2
          go_roundw
          case rel => exact ⟨k + 1, vs, by omega, by go_num, N.out⟩
          case measure => simp [intOf]; omega
    · obtain rfl : k = n := by omega
      rename World => W1
      have G1 := G
      clear G hown hbel
      go_wp2
      go_loopw [7, 8] (fun v i wr => ∃ (k : Nat) (us : List Int), k ≤ m ∧ i = .int .i64 (k : Int) ∧ Gath W1 .u32 43 PU32 k v us wr) (fun _ i _ => m - (intOf i).toNat)
      case atStart => exact ⟨0, [], by omega, rfl, Gath.start (Below.refl _ _)⟩
      case round =>
        obtain ⟨k, us, hk, rfl, hg⟩ := hrel
        obtain ⟨V2, c2, rfl, hvc, hvm⟩ := own_slice hg.own
        have HSL := Lib.hid (ISl.of_own hg.own)
        have hown := hg.own
        have hbel := hg.bel
        have hxl := hg.le
        have G := Lib.hid hg
        clear hg
        unfold maxLen at hvm
        by_cases hlt : k < m
        · obtain ⟨b, off, rfl, hb, hc⟩ := Y.out.2.2.2 (by omega)
          have c0 : wr.cell? ⟨b, off + k, none⟩ = some (.int .u32 (ys.getD k 0)) := ((trans_below (trans_below hB0 G1.out.bel) hbel).cell (p := ⟨b, off + k, none⟩) hb).trans (hc k hlt)
          have hx := RY.out _ (show ys.getD k 0 ∈ ys from getD_mem (by rw [Y.out.len]; exact hlt))
          clear hc
          generalize ys.getD k 0 = x at c0 hx
          have HX := Lib.hid hx
          unfold PU32 at hx
          obtain ⟨x0, x1⟩ := hx
          by_cases h0 : us.length = 0
          · have z : ((us.length : Int) == 0) = true := by rw [h0]; rfl
            have H0 := Lib.hid h0
            clear h0
            go_wp2
            go_quiet (fail)
            have hown1 : (wr.drewN nq).ownsRow W1.heap.size 43 1 (.slice V2 us.length c2) us.length (us.map (Value.int .u32)) := hown
            have hbel1 : Below W1.heap.size W1 (wr.drewN nq) := below_drewN hbel nq
            clear z
            go_wp2_with (at_builtin; refine wpList_append_lies _ rfl (.tmp 78) (.tmp 83) 29 rfl W1.heap.size 43 j0 (.int .u32 0) 1 4 Tryd.underlying29 Hj.out Hy0.out Hy1.out Hy2.out rfl (by decide) _ _ _ (by rfl) (hown1.alloc _) ⟨(wr.drewN nq).heap.size, 0, none⟩ 1 1 [.int .u32 x] (by rfl) rfl (World.news_of_block (heap_alloc_new (wr.drewN nq) _)) (by simp [Value.oneCell']) (by omega) (by unfold maxLen; omega) (by omega) (by have := hbel1.size; simp at this ⊢; omega) _ rfl ?_; intro g cap w3 hown3 hgrow3 _ _)
            have N := Lib.hid (G.out.push (m := nq) HX.out (.inl H0.out) hown3 hgrow3)
            clear hown hown1 hown3 hgrow3 hbel hbel1
            go_wp2
            go_roundw
            case rel => exact ⟨k + 1, us ++ [x], by omega, by go_num, N.out⟩
            case measure => simp [intOf]; omega
          · have z : ((us.length : Int) == 0) = false := by simp; intro e; subst e; exact h0 rfl
            have H0 := Lib.hid h0
            obtain ⟨vb, voff, rfl, hvb, hvcell⟩ := HSL.out.2.2.2 (by omega)
            have cy : wr.cell? ⟨vb, voff + (us.length - 1), none⟩ = some (.int .u32 (us.getD (us.length - 1) 0)) := hvcell (us.length - 1) (by omega)
            clear hvcell
            generalize hy : us.getD (us.length - 1) 0 = y at cy
            have HY := Lib.hid hy
            clear hy
            have k1 : 1 ≤ us.length := by omega
            have k2 : (1 : Int) ≤ (us.length : Int) := by omega
            have e1 : IntKind.i64.wrap ((us.length : Int) - 1) = (us.length : Int) - 1 := IntWalk.i64_in _ (by omega)
            have e2 : (0 : Int) ≤ (us.length : Int) - 1 := by omega
            have e3 : ((us.length : Int) - 1).toNat = us.length - 1 := by omega
            have e4 : (us.length : Int) - 1 < (us.length : Int) := by omega
            clear h0
            by_cases d1 : y < x
            · have t1 : decide (y < x) = true := by simpa using d1
              go_wp2
              go_quiet (fail)
              have hown1 : (wr.drewN nq).ownsRow W1.heap.size 43 1 (.slice (some ⟨vb, voff, none⟩) us.length c2) us.length (us.map (Value.int .u32)) := hown
              have hbel1 : Below W1.heap.size W1 (wr.drewN nq) := below_drewN hbel nq
              clear z e1 e2 e3 e4 cy t1
              go_wp2_with (at_builtin; refine wpList_append_lies _ rfl (.tmp 78) (.tmp 83) 29 rfl W1.heap.size 43 j0 (.int .u32 0) 1 4 Tryd.underlying29 Hj.out Hy0.out Hy1.out Hy2.out rfl (by decide) _ _ _ (by rfl) (hown1.alloc _) ⟨(wr.drewN nq).heap.size, 0, none⟩ 1 1 [.int .u32 x] (by rfl) rfl (World.news_of_block (heap_alloc_new (wr.drewN nq) _)) (by simp [Value.oneCell']) (by omega) (by unfold maxLen; omega) (by omega) (by have := hbel1.size; simp at this ⊢; omega) _ rfl ?_; intro g cap w3 hown3 hgrow3 _ _)
              have N := Lib.hid (G.out.push (m := nq) HX.out (.inr (by rw [HY.out]; exact d1)) hown3 hgrow3)
              clear hown hown1 hown3 hgrow3 hbel hbel1
              go_wp2
              go_roundw
              case rel => exact ⟨k + 1, us ++ [x], by omega, by go_num, N.out⟩
              case measure => simp [intOf]; omega
            · have t1 : decide (y < x) = false := by simpa using d1
              go_wp2
              go_quiet (fail)
              have N := Lib.hid (G.out.skip nq)
              clear z e1 e2 e3 e4 cy t1
              go_wp2
              go_roundw
              case rel => exact ⟨k + 1, us, by omega, by go_num, N.out⟩
              case measure => simp [intOf]; omega
        · obtain rfl : k = m := by omega
          rename World => Wa
          have GU := Lib.hid (G1.out.below G.out.bel)
          have IU := Lib.hid (ISl.of_own GU.out.own)
          have IA := Lib.hid (ISl.of_own G.out.own)
          have HBa := Lib.hid (trans_below (trans_below hB0 G1.out.bel) G.out.bel)
          have hvs16 : vs.length ≤ 16 := by have := G1.out.le; omega
          have hus16 : us.length ≤ 16 := by have := G.out.le; omega
          have hvin : In64 vs := fun x hx => by have := G1.out.rng x hx; unfold P32 at this; omega
          have huin : InU32 us := G.out.rng
          obtain ⟨v1, hv1⟩ : ∃ v : Bool, v = decide (0 < vs.length) := ⟨_, rfl⟩
          obtain ⟨v2, hv2⟩ : ∃ v : Bool, v = decide (0 < us.length) := ⟨_, rfl⟩
          have R1 := backI vs v1 hv1 hvs16 G1.out.up G1.out.rng
          have R2 := backA us v2 hv2 hus16 G.out.up G.out.rng
          have lt1 := jn_len (f := txI) (xs := vs) (fun x hx => txI_len (hvin x hx)) hvs16
          have lt2 := jn_len (f := txA) (xs := us) (fun x hx => txA_len (huin x hx)) hus16
          have Q1 := Lib.hid (fun W hl => readList_any (jn txI vs) (-2147483648) 2147483647 W (by omega) hl)
          have Q2 := Lib.hid (fun W => readAddrs_any (jn txA us) W (by omega))
          rw [R1.1, R1.2] at Q1
          rw [R2.1, R2.2] at Q2
          have Q3 := Lib.hid (fun W h hl => listI_any V1 vs.length c1 vs W h (by omega) hvin hl)
          have Q4 := Lib.hid (fun W h hl => listA_any V2 us.length c2 us W h (by omega) huin hl)
          generalize jn txI vs = tx1 at Q1 Q3
          generalize jn txA us = tx2 at Q2 Q4
          have d1 : decide (0 < vs.length) = v1 := hv1.symm
          have d2 : decide ((0 : Int) < (vs.length : Int)) = v1 := by rw [hv1]; simp
          have d3 : decide (0 < us.length) = v2 := hv2.symm
          have d4 : decide ((0 : Int) < (us.length : Int)) = v2 := by rw [hv2]; simp
          clear hv1 hv2 R1 R2 lt1 lt2 hown hbel hvin huin
          go_wp2_with (first
            | (go_at_call 22; (with_reducible refine (Q3.out _ IU.out (HL.out.below HBa.out)).mono ?_); rintro e w5 ⟨rfl, hb5⟩)
            | (go_at_call 14; (with_reducible refine (Q1.out _ (HL.out.below (trans_below HBa.out hb5))).mono ?_); rintro e w6 ⟨A6, n6, c6, rfl, i6, hb6⟩; obtain rfl : n6 = vs.length := i6.len.symm; have hb56 := trans_below hb5 hb6; have hB6 := trans_below HBa.out hb56)
            | (go_at_call 24; (with_reducible refine (Q4.out _ (IA.out.below hb56) (HL.out.below hB6)).mono ?_); rintro e w7 ⟨rfl, hb7⟩)
            | (go_at_call 16; (with_reducible refine (Q2.out _).mono ?_); rintro e w8 ⟨A8, n8, c8, rfl, i8, hb8⟩; obtain rfl : n8 = us.length := i8.len.symm; have hb78 := trans_below hb7 hb8))
          rename World => W2
          have hb58 := trans_below hb56 hb78
          have HB := Lib.hid (trans_below hB6 hb78)
          have J1 := Lib.hid (i6.below hb78)
          have J2 := Lib.hid (IU.out.below hb58)
          have J3 := Lib.hid i8
          have J4 := Lib.hid (IA.out.below hb58)
          have q1 := i6.le
          have q2 := i6.cap
          have q3 := IU.out.le
          have q4 := IU.out.cap
          have q5 := i8.le
          have q6 := i8.cap
          have q7 := IA.out.le
          have q8 := IA.out.cap
          clear i6 i8 hb5 hb6 hb7 hb8 hb56 hb78 hb58 hB6 d1 d2 d3 d4
          go_loopw [125] (fun i wr => ∃ k : Nat, k ≤ vs.length ∧ i = .int .i64 (k : Int) ∧ Drew W2 wr) (fun i _ => vs.length - (intOf i).toNat)
          case atStart => exact ⟨0, by omega, rfl, Drew.refl _⟩
          case round =>
            obtain ⟨k, hk, rfl, m', rfl⟩ := hrel
            by_cases hlt : k < vs.length
            · obtain ⟨b, off, rfl, hb, hc⟩ := J1.out.2.2.2 (by omega)
              obtain ⟨b2, off2, rfl, hb2, hc2⟩ := J2.out.2.2.2 (by omega)
              have c0 : W2.cell? ⟨b, off + k, none⟩ = some (.int .i64 (vs.getD k 0)) := hc k hlt
              have c1 : W2.cell? ⟨b2, off2 + k, none⟩ = some (.int .i64 (vs.getD k 0)) := hc2 k hlt
              clear hc hc2
              generalize vs.getD k 0 = x at c0 c1
              go_wp2
              go_quiet (fail)
              go_wp2
              go_roundw
              case rel => exact ⟨k + 1, by omega, by go_num, ⟨m' + nq, rfl⟩⟩
              case measure => simp [intOf]; omega
            · obtain rfl : k = vs.length := by omega
              have HB3 := Lib.hid (trans_below HB.out (Drew.below (w := W2) ⟨m', rfl⟩))
              have K3 := Lib.hid (J3.out.drewN m')
              have K4 := Lib.hid (J4.out.drewN m')
              generalize W2.drewN m' = W3 at *
              clear HB
              have HB := HB3
              clear HB3 J1 J2 J3 J4
              go_wp2
              go_loopw [140] (fun i wr => ∃ k : Nat, k ≤ us.length ∧ i = .int .i64 (k : Int) ∧ Drew W3 wr) (fun i _ => us.length - (intOf i).toNat)
              case atStart => exact ⟨0, by omega, rfl, Drew.refl _⟩
              case round =>
                obtain ⟨k, hk, rfl, m', rfl⟩ := hrel
                by_cases hlt : k < us.length
                · obtain ⟨b, off, rfl, hb, hc⟩ := K3.out.2.2.2 (by omega)
                  obtain ⟨b2, off2, rfl, hb2, hc2⟩ := K4.out.2.2.2 (by omega)
                  have c0 : W3.cell? ⟨b, off + k, none⟩ = some (.int .u32 (us.getD k 0)) := hc k hlt
                  have c1 : W3.cell? ⟨b2, off2 + k, none⟩ = some (.int .u32 (us.getD k 0)) := hc2 k hlt
                  clear hc hc2
                  generalize us.getD k 0 = x at c0 c1
                  go_wp2
                  go_quiet (fail)
                  go_wp2
                  go_roundw
                  case rel => exact ⟨k + 1, by omega, by go_num, ⟨m' + nq, rfl⟩⟩
                  case measure => simp [intOf]; omega
                · obtain rfl : k = us.length := by omega
                  go_wp2
                  go_ret
                  exact ⟨rfl, trans_below HB.out (Drew.below ⟨m', rfl⟩)⟩



theorem lback_long (A : Option Addr) (n c : Nat) (B : Option Addr) (m d : Nat) (w : World) (hl : Lds w) (h : 16 < n ∨ 16 < m) :
    Calls Tryd.prog 6 #[.slice A n c, .slice B m d] w fun e w' => e = .returned (.bool true) ∧ Below w.heap.size w w' := by
  have HL := Lib.hid hl
  clear hl
  by_cases h1 : 16 < n
  · have g1 : (16 : Int) < (n : Int) := by omega
    clear h
    go_enter Tryd.func6, Tryd.ntmps6
    go_wp2_with (go_at_call 7; (with_reducible refine (works_any _ HL.out).mono ?_); rintro e w0 ⟨rfl, hB0⟩)
    go_ret
    exact ⟨rfl, hB0⟩
  · have g1 : ¬ (16 : Int) < (n : Int) := by omega
    have h2 : 16 < m := by omega
    have g2 : (16 : Int) < (m : Int) := by omega
    clear h
    go_enter Tryd.func6, Tryd.ntmps6
    go_wp2_with (go_at_call 7; (with_reducible refine (works_any _ HL.out).mono ?_); rintro e w0 ⟨rfl, hB0⟩)
    go_ret
    exact ⟨rfl, hB0⟩
theorem lback_any (A : Option Addr) (n c : Nat) (zs : List Int) (B : Option Addr) (m d : Nat) (ys : List Int) (w : World) (hl : Lds w)
    (hz : ISl w .i32 A n c zs) (hy : ISl w .u32 B m d ys) (rz : ∀ x ∈ zs, P32 x) (ry : ∀ x ∈ ys, PU32 x) :
    Calls Tryd.prog 6 #[.slice A n c, .slice B m d] w fun e w' => e = .returned (.bool true) ∧ Below w.heap.size w w' := by
  by_cases h : 16 < n ∨ 16 < m
  · exact lback_long A n c B m d w hl h
  · exact lback_walk A n c zs B m d ys w hl hz hy rz ry (by omega) (by omega)
end Go.Proofs.YtjmbgfhjdmoflaaDoor
