/- Package policy, Right: whether all of a list are names (slices.IndexFunc, slices.ContainsFunc, names); whether a tenant may be. A port's word cut in two (cut). -/
import Derived.Test.YtkfhjmoocnhekaaTnRText
import Derived.Test.YtkfhjmoocnhekaaLnOwn
namespace Go.Proofs.Ytkfhjmoocnhekaa
open Go.RowKit

theorem pname_of (s : List UInt8) (hs : s.length ≤ 1000000) (b : Bool) (hb : nwB s = b) (w : World) : Calls Try.prog 26 #[.string (str s)] w fun e w' => e = .returned (.bool b) ∧ w = w' := by
  refine name_any (str s) w (by rw [str_size]; unfold maxLen; omega) b ?_
  rw [← hb]
  exact nwB_iff s
theorem pno_of (s : List UInt8) (hs : s.length ≤ 1000000) (b : Bool) (hb : nwB s = b) (w : World) : Calls Try.prog 41 #[.string (str s)] w fun e w' => e = .returned (.bool (!b)) ∧ w = w' := by
  have NM := Lib.hid (fun w => pname_of s hs b hb w)
  clear hs hb
  cases b
  all_goals
    go_enter Try.func41, Try.ntmps41
    go_wp2_with (go_at_call 26; (with_reducible refine (NM.out _).mono ?_); rintro e w1 ⟨rfl, rfl⟩)
    go_ret
    exact ⟨rfl, rfl⟩
set_option maxRecDepth 20000 in
theorem pindex_any (A : Option Addr) (n c : Nat) (xs : List (List UInt8)) (w : World) (h : SSl w A n c xs) (hs : ∀ p ∈ xs, p.length ≤ 1000000) (V : Bool) (hV : xs.all nwB = V) :
    Calls Try.prog 50 #[.slice A n c, .func (.func 41) #[] #[]] w fun e w' => (∃ i : Int, e = .returned (.int .i64 i) ∧ decide (0 ≤ i) = !V) ∧ w = w' := by
  have hle := h.le
  have hcap := h.cap
  have HL := Lib.hid h.len
  have H := Lib.hid h
  have HS := Lib.hid hs
  have HV := Lib.hid hV
  clear h hs hV
  go_enter Try.func50, Try.ntmps50
  go_wp2
  go_loopw [8] (fun i wr => ∃ k : Nat, i = .int .i64 k ∧ wr = w ∧ k ≤ n ∧ (xs.take k).all nwB = true) (fun i _ => match i with | .int _ x => (n - x).toNat | _ => 0)
  case atStart => exact ⟨0, rfl, rfl, by omega, by simp⟩
  case round =>
    obtain ⟨k, rfl, rfl, hk, hf⟩ := hrel
    have HF := Lib.hid hf
    clear hf
    by_cases hlt : k < n
    · obtain ⟨b0, o0, rfl, hb0, hc0⟩ := H.out.at_ (by omega)
      have c0 := hc0 k hlt
      have hq : k < xs.length := by rw [HL.out]; exact hlt
      have hg : xs.getD k [] = xs[k] := by simp [List.getD, hq]
      have PL := Lib.hid (HS.out (xs.getD k []) (by rw [hg]; exact List.getElem_mem hq))
      have T1 := Lib.hid (show (xs.take (k + 1)).all nwB = nwB (xs.getD k []) by
        rw [List.take_succ_eq_append_getElem hq, List.all_append, HF.out, hg]
        simp)
      have T2 := Lib.hid (show nwB (xs.getD k []) = false → V = false by
        intro e
        rw [← HV.out]
        cases hx : xs.all nwB with
        | false => rfl
        | true =>
          rw [List.all_eq_true] at hx
          have := hx xs[k] (List.getElem_mem hq)
          rw [← hg, e] at this
          cases this)
      have i0 : (k : Int) < (n : Int) := by omega
      generalize xs.getD k [] = p at *
      clear hc0 hg hq
      cases hv : nwB p with
      | true =>
        have R := Lib.hid (fun w => pno_of p PL.out true hv w)
        have T3 := Lib.hid (T1.out.trans hv)
        clear hv
        go_wp2_with (go_at_call 41; (with_reducible refine (R.out _).mono ?_); rintro e w6 ⟨rfl, rfl⟩)
        go_roundw
        case rel => exact ⟨k + 1, by simp, trivial, by omega, T3.out⟩
        case measure => simp only []; omega
      | false =>
        have R := Lib.hid (fun w => pno_of p PL.out false hv w)
        have E2 := Lib.hid (T2.out hv)
        clear hv
        go_wp2_with (go_at_call 41; (with_reducible refine (R.out _).mono ?_); rintro e w6 ⟨rfl, rfl⟩)
        go_ret
        exact ⟨⟨(k : Int), rfl, by rw [E2.out]; simp⟩, rfl⟩
    · have E2 := Lib.hid (show V = true by rw [← HV.out, ← HF.out, List.take_of_length_le (by rw [HL.out]; omega)])
      go_wp2
      go_ret
      exact ⟨⟨-1, rfl, by rw [E2.out]; rfl⟩, rfl⟩
theorem pcontains_any (A : Option Addr) (n c : Nat) (xs : List (List UInt8)) (w : World) (h : SSl w A n c xs) (hs : ∀ p ∈ xs, p.length ≤ 1000000) (V : Bool) (hV : xs.all nwB = V) :
    Calls Try.prog 40 #[.slice A n c, .func (.func 41) #[] #[]] w fun e w' => e = .returned (.bool (!V)) ∧ w = w' := by
  have R := Lib.hid (pindex_any A n c xs w h hs V hV)
  clear h hs hV
  cases V
  · go_enter Try.func40, Try.ntmps40
    go_wp2_with (go_at_call 50; (with_reducible refine R.out.mono ?_); rintro e w1 ⟨⟨i, rfl, hi⟩, rfl⟩; have hi2 : (0 : Int) ≤ i := of_decide_eq_true hi; clear hi)
    go_ret
    exact ⟨by simp; try omega, rfl⟩
  · go_enter Try.func40, Try.ntmps40
    go_wp2_with (go_at_call 50; (with_reducible refine R.out.mono ?_); rintro e w1 ⟨⟨i, rfl, hi⟩, rfl⟩; have hi2 : ¬ (0 : Int) ≤ i := of_decide_eq_false hi; clear hi)
    go_ret
    exact ⟨by simp; try omega, rfl⟩
theorem pnames_any (A : Option Addr) (n c : Nat) (xs : List (List UInt8)) (w : World) (h : SSl w A n c xs) (hs : ∀ p ∈ xs, p.length ≤ 1000000) (V : Bool) (hV : xs.all nwB = V) :
    Calls Try.prog 27 #[.slice A n c] w fun e w' => e = .returned (.bool V) ∧ w = w' := by
  have R := Lib.hid (pcontains_any A n c xs w h hs V hV)
  clear h hs hV
  cases V
  all_goals
    go_enter Try.func27, Try.ntmps27
    go_wp2_with (go_at_call 40; (with_reducible refine R.out.mono ?_); rintro e w1 ⟨rfl, rfl⟩)
    go_ret
    exact ⟨rfl, rfl⟩

/-! Right. -/
theorem nw_nil : nwB [] = false := by
  cases h : nwB [] with
  | false => rfl
  | true => have := (nw_mem h).1; simp at this
theorem pw_eq (l : List UInt8) : pwB l = (nwB (headC 46 l) && nwB (tailC 46 l)) := by
  unfold pwB
  cases h : hasC 46 l with
  | true => rw [Bool.true_and]
  | false =>
    rcases index_cases l 46 with ⟨_, _, _, h4⟩ | ⟨i, _, _, h2, _⟩
    · rw [h4, nw_nil, Bool.and_false, Bool.false_and]
    · exact absurd h2 (of_decide_eq_false h)
theorem zip_parts : ∀ (ds ps : List (List UInt8)), ds.length = ps.length → ds.all nwB = true → ps.all nwB = true → (List.zipWith dpF ds ps).all pwB = true ∧ (List.zipWith dpF ds ps).map (headC 46) = ds ∧ (List.zipWith dpF ds ps).map (tailC 46) = ps
  | [], [], _, _, _ => ⟨rfl, rfl, rfl⟩
  | [], _ :: _, h, _, _ => by simp at h
  | _ :: _, [], h, _, _ => by simp at h
  | d :: ds, p :: ps, h, h1, h2 => by
    rw [List.all_cons, Bool.and_eq_true] at h1 h2
    obtain ⟨e1, e2, e3⟩ := dp_parts d p (nw_dot h1.1)
    obtain ⟨i1, i2, i3⟩ := zip_parts ds ps (by simpa using h) h1.2 h2.2
    rw [List.zipWith_cons_cons]
    refine ⟨?_, ?_, ?_⟩
    · rw [List.all_cons, i1, Bool.and_true, pw_eq, e2, e3, h1.1, h2.1]; rfl
    · rw [List.map_cons, i2, e2]
    · rw [List.map_cons, i3, e3]
theorem rgTB_eq (T : TV) : rgTB T = (decide (1 ≤ T.ports.length) && (decide (T.ports.length ≤ 16) && (decide (T.devs.length = T.ports.length) && (nwB T.name && (T.devs.all nwB && T.ports.all nwB))))) := by
  rw [Bool.eq_iff_iff, rgTB_iff]
  simp only [Bool.and_eq_true, decide_eq_true_eq]
  have e : (twF T).drop 2 = List.zipWith dpF T.devs T.ports := rfl
  constructor
  · rintro ⟨h1, h2, h3, h4⟩
    obtain ⟨_, a1, _, a3, a4⟩ := rn_words h3
    have n1 : (twF T).getD 1 [] = T.name := rfl
    rw [e] at a4
    rw [n1] at a3
    unfold rnT at h4
    rw [if_pos h3] at h4
    have d : ((twF T).drop 2).map (headC 46) = T.devs := congrArg TV.devs h4
    have p : ((twF T).drop 2).map (tailC 46) = T.ports := congrArg TV.ports h4
    rw [e] at d p
    have hl : 1 ≤ T.devs.length := by
      unfold twF at a1
      simp [List.length_zipWith] at a1
      omega
    refine ⟨by omega, by omega, h1, a3, ?_, ?_⟩
    · rw [← d, List.all_map]
      exact List.all_eq_true.2 fun l hl => (dp_back (List.all_eq_true.1 a4 l hl)).2.1
    · rw [← p, List.all_map]
      exact List.all_eq_true.2 fun l hl => (dp_back (List.all_eq_true.1 a4 l hl)).2.2
  · rintro ⟨h1, h2, h3, h4, h5, h6⟩
    obtain ⟨k1, k2, k3⟩ := zip_parts T.devs T.ports h3 h5 h6
    have E : rnE (twF T) = 0 := by
      unfold rnE
      rw [if_neg, if_neg, if_pos (by rw [e]; exact k1)]
      · rw [show (twF T).getD 1 [] = T.name from rfl, h4]; decide
      · have hl : (twF T).length = T.ports.length + 2 := by unfold twF; simp [List.length_zipWith]; omega
        rintro (g | g | g)
        · exact g rfl
        · omega
        · omega
    refine ⟨h3, by omega, E, ?_⟩
    unfold rnT
    rw [if_pos E, e, k2, k3]
    rfl
set_option maxRecDepth 20000 in
set_option maxHeartbeats 2000000 in
theorem xpright_any (T : TV) (s1 s2 : SlT) (w : World) (F : Nat → Prop) (h1 : RSl Rdr.str_ w F s1.A s1.n s1.c T.devs) (h2 : RSl Rdr.str_ w F s2.A s2.n s2.c T.ports) (_hF : ∀ b, F b → b < w.heap.size) (hs : TvSz T) :
    Calls Try.prog 13 #[tenV T s1 s2] w fun e w' => e = .returned (.bool (rgTB T)) ∧ Below w.heap.size w w' := by
  have NM := fun b hb w => pname_of T.name (by have := hs.name; omega) b hb w
  have ND := fun (w' : World) (hb : Below w.heap.size w w') V hV => pnames_any _ _ _ T.devs w' ((ssl_of h1).below hb) (fun p hp => by have := hs.devs p hp; omega) V hV
  have NP := fun (w' : World) (hb : Below w.heap.size w w') V hV => pnames_any _ _ _ T.ports w' ((ssl_of h2).below hb) (fun p hp => by have := hs.ports p hp; omega) V hV
  have E := rgTB_eq T
  rw [h1.len, h2.len] at E
  have q1 := h1.le
  have q2 := h1.cap
  have q3 := h2.le
  have q4 := h2.cap
  generalize rgTB T = R at *
  obtain ⟨rw_, nm, dv, pt⟩ := T
  obtain ⟨A1, n1, c1⟩ := s1
  obtain ⟨A2, n2, c2⟩ := s2
  unfold tenV
  simp only [] at E NM ND NP q1 q2 q3 q4 ⊢
  have BA : ∀ o, Below w.heap.size w (w.alloc o) := fun o => (Below.refl _ _).alloc (Nat.le_refl _) o
  clear h1 h2 hs
  have HA := Lib.hid BA
  clear BA
  by_cases b1 : n2 < 1
  · have i1 : (n2 : Int) < 1 := by omega
    have E2 := Lib.hid (show R = false by rw [E, decide_eq_false (by omega)]; rfl)
    clear NM ND NP E b1
    go_enter Try.func13, Try.ntmps13
    go_wp2
    go_ret
    exact ⟨by rw [E2.out]; rfl, HA.out _⟩
  have i1 : ¬ (n2 : Int) < 1 := by omega
  by_cases b2 : 16 < n2
  · have i2 : (16 : Int) < (n2 : Int) := by omega
    have E2 := Lib.hid (show R = false by rw [E, decide_eq_false (show ¬ n2 ≤ 16 by omega), Bool.false_and, Bool.and_false])
    clear NM ND NP E b1 b2
    go_enter Try.func13, Try.ntmps13
    go_wp2
    go_ret
    exact ⟨by rw [E2.out]; rfl, HA.out _⟩
  have i2 : ¬ (16 : Int) < (n2 : Int) := by omega
  rw [decide_eq_true (show 1 ≤ n2 by omega), decide_eq_true (show n2 ≤ 16 by omega), Bool.true_and, Bool.true_and] at E
  by_cases b3 : n1 = n2
  rotate_left
  · have i3 : ((n1 : Int) != (n2 : Int)) = true := by simp; omega
    have E2 := Lib.hid (show R = false by rw [E, decide_eq_false b3]; rfl)
    clear NM ND NP E b1 b2 b3
    go_enter Try.func13, Try.ntmps13
    go_wp2
    go_ret
    exact ⟨by rw [E2.out]; rfl, HA.out _⟩
  subst b3
  rw [decide_eq_true rfl, Bool.true_and] at E
  have i3 : ((n1 : Int) != (n1 : Int)) = false := by simp
  obtain ⟨vn, hn⟩ : ∃ v, nwB nm = v := ⟨_, rfl⟩
  obtain ⟨vd, hd⟩ : ∃ v, dv.all nwB = v := ⟨_, rfl⟩
  obtain ⟨vp, hp⟩ : ∃ v, pt.all nwB = v := ⟨_, rfl⟩
  have M := Lib.hid (NM vn hn)
  have D := Lib.hid (fun w' hb => ND w' hb vd hd)
  have P := Lib.hid (fun w' hb => NP w' hb vp hp)
  rw [hn, hd, hp] at E
  have E2 := Lib.hid E
  clear NM ND NP E hn hd hp b1 b2
  cases vn <;> cases vd <;> cases vp
  all_goals
    go_enter Try.func13, Try.ntmps13
    go_wp2_with (first
      | (go_at_call 26; (with_reducible refine (M.out _).mono ?_); rintro e w1 ⟨rfl, rfl⟩)
      | (go_at_call 27; (with_reducible refine (D.out _ (HA.out _)).mono ?_); rintro e w1 ⟨rfl, rfl⟩)
      | (go_at_call 27; (with_reducible refine (P.out _ (HA.out _)).mono ?_); rintro e w1 ⟨rfl, rfl⟩))
    go_ret
    exact ⟨by rw [E2.out]; rfl, HA.out _⟩

/-! cut. -/
/-- a box of two texts -/
structure PB2 (w : World) (q : Nat) (a b : List UInt8) : Prop where
  c0 : w.cell? ⟨q, 0, none⟩ = some (.string (str a))
  c1 : w.cell? ⟨q, 1, none⟩ = some (.string (str b))
  fz : ∀ o, w.frozen? ⟨q, o, none⟩ = false
section
variable {w w' : World} {q : Nat} {a b : List UInt8}
theorem PB2.lt (h : PB2 w q a b) : q < w.heap.size := World.block_lt_of_cell? w _ h.c0
theorem PB2.same (h : PB2 w q a b) (e : w'.heap[q]? = w.heap[q]?) : PB2 w' q a b :=
  ⟨(World.cell?_of_block (w := w) (a := ⟨q, 0, none⟩) e).trans h.c0, (World.cell?_of_block (w := w) (a := ⟨q, 1, none⟩) e).trans h.c1, fun o => (World.frozen?_of_block (w := w) (a := ⟨q, o, none⟩) e).trans (h.fz o)⟩
theorem PB2.below (h : PB2 w q a b) (hb : Below w.heap.size w w') : PB2 w' q a b := h.same (hb.block q h.lt)
theorem PB2.set0 (h : PB2 w q a b) (x : List UInt8) : PB2 (w.setCell ⟨q, 0, none⟩ (.string (str x))) q x b :=
  ⟨World.cell?_setCell_same _ _ _ h.c0, other_off _ _ _ _ _ _ (by decide) h.c1, fun o => (World.frozen?_setCell _ _ _ _).trans (h.fz o)⟩
theorem PB2.set1 (h : PB2 w q a b) (x : List UInt8) : PB2 (w.setCell ⟨q, 1, none⟩ (.string (str x))) q a x :=
  ⟨other_off _ _ _ _ _ _ (by decide) h.c0, World.cell?_setCell_same _ _ _ h.c1, fun o => (World.frozen?_setCell _ _ _ _).trans (h.fz o)⟩
theorem PB2.far (h : PB2 w q a b) (p : Addr) (hp : q ≠ p.block) (x : Value) : PB2 (w.setCell p x) q a b := h.same (Below.heap_setCell w p x q hp)
end
theorem cut_dot (r : List UInt8) (hs : r.length ≤ 1000000) (w : World) :
    Calls Try.prog 51 #[.string (str r), .string ⟨#[46]⟩] w fun e w' => e = .returned (.tuple #[.string (str (headC 46 r)), .string (str (tailC 46 r)), .bool (hasC 46 r)]) ∧ Below w.heap.size w w' := by
  refine (cut_any (str r) 46 w (by rw [str_size]; unfold maxLen; omega)).mono ?_
  rintro e w' ⟨rfl, n, rfl⟩
  exact ⟨by rw [show (str r).data.toList = r by simp], below_drewN (Below.refl _ _) n⟩
/-- an array of two texts by value, indexed -/
theorem run_index_two (a b : List UInt8) (w : World) : (Instr.index 67 (.agg #[.string (str a), .string (str b)]) (.int .i64 0)).run Try.prog w = .ok (.string (str a)) w ∧ (Instr.index 67 (.agg #[.string (str a), .string (str b)]) (.int .i64 1)).run Try.prog w = .ok (.string (str b)) w := by
  constructor
  · show Sem.run _ _ _ = Result.ok _ _
    kernel_rfl
  · show Sem.run _ _ _ = Result.ok _ _
    kernel_rfl
set_option maxRecDepth 20000 in
set_option maxHeartbeats 2000000 in
theorem pcut_any (l : List UInt8) (w : World) (hs : l.length ≤ 1000000) :
    Calls Try.prog 45 #[.string (str l)] w fun e w' => e = .returned (.agg #[.string (str (headC 46 l)), .string (str (tailC 46 l))]) ∧ Below w.heap.size w w' := by
  have CU := Lib.hid (fun w => cut_dot l hs w)
  have X0 := fun w => (run_index_two (headC 46 l) (tailC 46 l) w).1
  have X1 := fun w => (run_index_two (headC 46 l) (tailC 46 l) w).2
  have hl1 : (headC 46 l).length ≤ l.length ∧ (tailC 46 l).length ≤ l.length := by
    rcases index_cases l 46 with ⟨_, _, h3, h4⟩ | ⟨i, _, h1, _, h3, h4⟩
    · rw [h3, h4]; exact ⟨Nat.le_refl _, Nat.zero_le _⟩
    · rw [h3, h4, List.length_take, List.length_drop]; omega
  have KH := Lib.hid (fun w => clone_str (str (headC 46 l)) w (by rw [str_size]; omega))
  have KT := Lib.hid (fun w => clone_str (str (tailC 46 l)) w (by rw [str_size]; omega))
  generalize headC 46 l = hd at *
  generalize tailC 46 l = tl at *
  generalize hasC 46 l = hb at *
  clear hl1 hs
  have Q0 : PB2 ((w.alloc (.cells #[.string ⟨#[]⟩, .string ⟨#[]⟩] 67)).alloc (.cells #[.string ⟨#[]⟩, .string ⟨#[]⟩] 67)) w.heap.size [] [] := by constructor <;> simp [go_sem, str]
  have P0 : PB2 ((w.alloc (.cells #[.string ⟨#[]⟩, .string ⟨#[]⟩] 67)).alloc (.cells #[.string ⟨#[]⟩, .string ⟨#[]⟩] 67)) (w.heap.size + 1) [] [] := by constructor <;> simp [go_sem, str]
  have B0 := two_alloc w (.cells #[.string ⟨#[]⟩, .string ⟨#[]⟩] 67) (.cells #[.string ⟨#[]⟩, .string ⟨#[]⟩] 67)
  have QQ := Lib.hid Q0
  have PP := Lib.hid P0
  have BB := Lib.hid B0
  clear Q0 P0 B0
  go_enter Try.func45, Try.ntmps45
  go_wp2_with (go_at_call 51; (with_reducible refine (CU.out _).mono ?_); rintro e w1 ⟨rfl, b1⟩; have Q1 := Lib.hid (QQ.out.below b1); have P1 := Lib.hid (PP.out.below b1); have B1 := Lib.hid (trans_below BB.out b1); have p0 := P1.out.c0; have p1 := P1.out.c1; have pf := P1.out.fz; clear b1)
  have P2 := (P1.out.set0 hd).set1 tl
  have Q2 := (Q1.out.far ⟨w.heap.size + 1, 0, none⟩ (show w.heap.size ≠ w.heap.size + 1 by omega) (.string (str hd))).far ⟨w.heap.size + 1, 1, none⟩ (show w.heap.size ≠ w.heap.size + 1 by omega) (.string (str tl))
  have B2 := (B1.out.setCell (p := ⟨w.heap.size + 1, 0, none⟩) (Nat.le_succ _) (.string (str hd))).setCell (p := ⟨w.heap.size + 1, 1, none⟩) (Nat.le_succ _) (.string (str tl))
  clear p0 p1 pf
  generalize (w1.setCell ⟨w.heap.size + 1, 0, none⟩ (.string (str hd))).setCell ⟨w.heap.size + 1, 1, none⟩ (.string (str tl)) = w2 at *
  have P2 := Lib.hid P2
  have Q2 := Lib.hid Q2
  have B2 := Lib.hid B2
  refine wp_loop_rounds 3 ?_
  rw [rounds_succ]
  go_wp2_with (go_at_call 36; (with_reducible refine (KH.out _).mono ?_); rintro e w3 ⟨rfl, b3⟩; have Q3 := Lib.hid (Q2.out.below b3); have P3 := Lib.hid (P2.out.below b3); have B3 := Lib.hid (trans_below B2.out b3); have p0 := P3.out.c0; have p1 := P3.out.c1; have pf := P3.out.fz; clear b3)
  have P4 := P3.out.set0 hd
  have Q4 := Q3.out.far ⟨w.heap.size + 1, 0, none⟩ (show w.heap.size ≠ w.heap.size + 1 by omega) (.string (str hd))
  have B4 := B3.out.setCell (p := ⟨w.heap.size + 1, 0, none⟩) (Nat.le_succ _) (.string (str hd))
  clear p0 p1 pf
  generalize w3.setCell ⟨w.heap.size + 1, 0, none⟩ (.string (str hd)) = w4 at *
  have P4 := Lib.hid P4
  have Q4 := Lib.hid Q4
  have B4 := Lib.hid B4
  rw [rounds_succ]
  go_wp2_with (go_at_call 36; (with_reducible refine (KT.out _).mono ?_); rintro e w5 ⟨rfl, b5⟩; have Q5 := Lib.hid (Q4.out.below b5); have P5 := Lib.hid (P4.out.below b5); have B5 := Lib.hid (trans_below B4.out b5); have p0 := P5.out.c0; have p1 := P5.out.c1; have pf := P5.out.fz; have q0 := Q5.out.c0; have q1 := Q5.out.c1; have qf := Q5.out.fz; clear b5)
  have P6 := P5.out.set1 tl
  have Q6 := Q5.out.far ⟨w.heap.size + 1, 1, none⟩ (show w.heap.size ≠ w.heap.size + 1 by omega) (.string (str tl))
  have B6 := B5.out.setCell (p := ⟨w.heap.size + 1, 1, none⟩) (Nat.le_succ _) (.string (str tl))
  clear p0 p1 pf q0 q1 qf
  generalize w5.setCell ⟨w.heap.size + 1, 1, none⟩ (.string (str tl)) = w6 at *
  have B6 := Lib.hid B6
  have p0 := P6.c0
  have p1 := P6.c1
  have q0 := Q6.c0
  have q1 := Q6.c1
  have qf := Q6.fz
  have E6 := Lib.hid ((Q6.set0 hd).set1 tl)
  clear P6 Q6
  rw [rounds_succ]
  go_wp2
  have e0 := E6.out.c0
  have e1 := E6.out.c1
  refine bodyPost_ret (v := .agg #[.string (str hd), .string (str tl)]) (by simp [results, Try.results45, go_sem, e0, e1]) rfl ⟨rfl, ?_⟩
  exact (B6.out.setCell (p := ⟨w.heap.size, 0, none⟩) (Nat.le_refl _) _).setCell (p := ⟨w.heap.size, 1, none⟩) (Nat.le_refl _) _
end Go.Proofs.Ytkfhjmoocnhekaa
