/- Package policy: the tenant that a row's words are (tenant). -/
import Derived.Test.YtkfhjmoocnhekaaTnRgt
import Derived.Test.YtkfhjmoocnhekaaTnRef
namespace Go.Proofs.Ytkfhjmoocnhekaa
open Go.RowKit

theorem TnI.below {wS w w' : World} {q : Nat} {r : Int} {nm : List UInt8} {ds ps : List (List UInt8)} {v1 v2 : Value} (h : TnI wS q r nm ds ps v1 v2 w) (hb : Below w.heap.size w w') : TnI wS q r nm ds ps v1 v2 w' :=
  ⟨h.box.same (hb.block q h.box.lt), own_below h.o1 hb, own_below h.o2 hb, h.ne, h.bel.trans (hb.mono (Nat.le_of_lt h.box.lt)), Nat.le_trans h.sz hb.size⟩
theorem all_pw (l : List (List UInt8)) : l.all pwB = ((l.map (headC 46)).all nwB && (l.map (tailC 46)).all nwB) := by
  induction l with
  | nil => rfl
  | cons a r ih =>
    rw [List.all_cons, List.map_cons, List.map_cons, List.all_cons, List.all_cons, ih, pw_eq]
    generalize (r.map (headC 46)).all nwB = x
    generalize (r.map (tailC 46)).all nwB = y
    generalize nwB (headC 46 a) = u
    generalize nwB (tailC 46 a) = v
    cases x <;> cases y <;> cases u <;> cases v <;> rfl
theorem ht_len (l : List UInt8) : (headC 46 l).length ≤ l.length ∧ (tailC 46 l).length ≤ l.length := by
  rcases index_cases l 46 with ⟨_, _, h3, h4⟩ | ⟨i, _, h1, _, h3, h4⟩
  · rw [h3, h4]; exact ⟨Nat.le_refl _, Nat.zero_le _⟩
  · rw [h3, h4, List.length_take, List.length_drop]; omega
theorem tn_len {w : World} {B : Nat} {e : TypeId} {A : Option Addr} {m c : Nat} {n : Nat} {xs : List Value} (h : w.ownsRow B e 1 (.slice A m c) n xs) : w.ownsRow B e 1 (.slice A m c) m xs := by
  obtain ⟨A', c', hv⟩ := tn_shape2 h
  injection hv with _ h2 _
  rw [h2] at h ⊢
  exact h
/-- the tenant that words would be -/
def unT (ws : List (List UInt8)) (row : Int) : TV := ⟨row, ws.getD 1 [], (ws.drop 2).map (headC 46), (ws.drop 2).map (tailC 46)⟩
theorem rn_right (ws : List (List UInt8)) (row : Int) (hk : RowOk ws.length ws) : (rgTB (unT ws row) = true → rnE ws = 0 ∧ rnT ws row = unT ws row) ∧ (rgTB (unT ws row) = false → rnE ws = 20 ∧ rnT ws row = TV.zero) := by
  have hl : (unT ws row).ports.length = ws.length - 2 := by unfold unT; simp
  have hd : (unT ws row).devs.length = ws.length - 2 := by unfold unT; simp
  have e := rgTB_eq (unT ws row)
  rw [hl, hd, decide_eq_true (show 1 ≤ ws.length - 2 by have := hk.lo; omega), decide_eq_true (show ws.length - 2 ≤ 16 by have := hk.hi; omega), decide_eq_true rfl, Bool.true_and, Bool.true_and, Bool.true_and] at e
  have e2 : rgTB (unT ws row) = (nwB (ws.getD 1 []) && (ws.drop 2).all pwB) := by rw [e, all_pw]; rfl
  have n0 : ¬ (ws.getD 0 [] ≠ sTen ∨ ws.length < 3 ∨ 18 < ws.length) := by
    rintro (h | h | h)
    · exact h hk.first
    · have := hk.lo; omega
    · have := hk.hi; omega
  refine ⟨fun h => ?_, fun h => ?_⟩
  · rw [e2, Bool.and_eq_true] at h
    have E : rnE ws = 0 := by unfold rnE; rw [if_neg n0, if_neg (by rw [h.1]; decide), if_pos h.2]
    exact ⟨E, by unfold rnT; rw [if_pos E]; rfl⟩
  · rw [e2, Bool.and_eq_false_iff] at h
    have E : rnE ws = 20 := by
      unfold rnE
      rw [if_neg n0]
      cases h1 : nwB (ws.getD 1 []) with
      | false => rw [if_pos rfl]
      | true =>
        rw [if_neg (by decide), if_neg]
        rcases h with h | h
        · rw [h1] at h; cases h
        · rw [h]; decide
    exact ⟨E, by unfold rnT; rw [if_neg (by rw [E]; decide)]⟩
/-- append of one text that was just laid out, and where the row lies then -/
theorem wpList_tappT {ops : Array Oper} {rest : List Oper} {o : Oper} {a : Act} {w : World} {Q : Exit → Act → World → Prop} (hgd : o.guard = none) (s x : Operand) (ho : o.op = .call { callee := .builtin .append, args := #[s, x], argTypes := #[38, 38] }) (hty : o.type = 38)
    (B : Nat) (v : Value) (ps : List (List UInt8)) (p : List UInt8) (hown : w.ownsRow B 9 1 v ps.length (txts ps)) (hn : ps.length ≤ 100000) (hB : B ≤ w.heap.size) (q : Nat) (hq : q = w.heap.size) (hs : a.eval s = v) (hx : a.eval x = .slice (some ⟨q, 0, none⟩) 1 1)
    (h : ∀ v' w', w'.ownsRow B 9 1 v' (ps.length + 1) (txts (ps ++ [p])) → (w.alloc (.cells #[.string (str p)] 9)).grownBy w' v.ownBlock → (v'.ownBlock = v.ownBlock ∨ v'.ownBlock = some (w.alloc (.cells #[.string (str p)] 9)).heap.size) → wpList Try.prog ops Q rest (a.put o.dst v') w') : wpList Try.prog ops Q (o :: rest) a (w.alloc (.cells #[.string (str p)] 9)) := by
  subst hq
  obtain ⟨v', w', hr, h1, h2, h3⟩ := run_tapp p hown hn hB
  exact Great.wpList_runTo hgd o.dst rfl v' w' (exec_tapp ho hty hs hx hr) (h v' w' h1 h2 h3)
theorem pt_ret (tmps : Array Value) (W : World) (T : TV) (s1 s2 : SlT) (E : Int) (q : Nat) (h4 : tmps[4]?.getD undef = .pointer (some ⟨q, 0, none⟩)) (h5 : tmps[5]?.getD undef = .int .i64 E) (hb : TBox W q T.row T.name (.slice s1.A s1.n s1.c) (.slice s2.A s2.n s2.c)) :
    (results Try.f32 tmps).run Try.prog W = .ok (.tuple #[tenV T s1 s2, .int .i64 E]) W := by
  have t0 := hb.c0
  have t1 := hb.c1
  have t2 := hb.c2
  have t3 := hb.c3
  clear hb
  simp [results, Try.results32, go_sem, h4, h5, t0, t1, t2, t3, tenV]
set_option maxRecDepth 20000 in
set_option maxHeartbeats 2000000 in
theorem ptenant_form (A : Option Addr) (n c : Nat) (ws : List (List UInt8)) (row : Int) (w : World) (h : SSl w A n c ws) (hn : 1 ≤ n) (hb : ws.getD 0 [] ≠ sTen ∨ ws.length < 3 ∨ 18 < ws.length) :
    Calls Try.prog 32 #[.slice A n c, .int .i64 row] w (GotTn w TV.zero 22) := by
  obtain ⟨b0, o0, rfl, hb0, hc0⟩ := h.at_ hn
  have c0 := hc0 0 hn
  rw [Nat.add_zero] at c0
  have hle := h.le
  have hcap := h.cap
  have hl := h.len
  rw [hl] at hb
  generalize ws.getD 0 [] = p0 at *
  clear hc0 h
  have fin : ∀ w', w' = w.alloc (.cells #[.int .i64 0, .string ⟨#[]⟩, .slice none 0 0, .slice none 0 0] 40) → GotTn w TV.zero 22 (.returned (.tuple #[tenV TV.zero SlT.nil SlT.nil, .int .i64 22])) w' := fun w' e => ⟨SlT.nil, SlT.nil, rfl, ten_zero _ _, by rw [e]; exact (Below.refl _ _).alloc (Nat.le_refl _) _⟩
  have i0 : (0 : Int) < (n : Int) := by omega
  by_cases e0 : p0 = sTen
  · have d0 : (p0 != [116, 101, 110, 97, 110, 116]) = false := by rw [e0]; rfl
    have d1 : (p0 == [116, 101, 110, 97, 110, 116]) = true := by rw [e0]; rfl
    by_cases e1 : n ≤ 2
    · have i1 : (n : Int) ≤ 2 := by omega
      clear hb e0
      go_enter Try.func32, Try.ntmps32
      go_wp2
      exact bodyPost_ret (v := .tuple #[tenV TV.zero SlT.nil SlT.nil, .int .i64 22]) (by simp [results, Try.results32, go_sem, tenV, TV.zero, SlT.nil, str]) rfl (fin _ rfl)
    · have i1 : ¬ (n : Int) ≤ 2 := by omega
      have i2 : (18 : Int) < (n : Int) := by
        rcases hb with hb | hb | hb
        · exact absurd e0 hb
        · omega
        · omega
      clear hb e0
      go_enter Try.func32, Try.ntmps32
      go_wp2
      exact bodyPost_ret (v := .tuple #[tenV TV.zero SlT.nil SlT.nil, .int .i64 22]) (by simp [results, Try.results32, go_sem, tenV, TV.zero, SlT.nil, str]) rfl (fin _ rfl)
  · have d0 : (p0 != [116, 101, 110, 97, 110, 116]) = true := bne_iff_ne.2 e0
    have d1 : (p0 == [116, 101, 110, 97, 110, 116]) = false := by rw [beq_eq_false_iff_ne]; exact e0
    clear hb e0
    go_enter Try.func32, Try.ntmps32
    go_wp2
    exact bodyPost_ret (v := .tuple #[tenV TV.zero SlT.nil SlT.nil, .int .i64 22]) (by simp [results, Try.results32, go_sem, tenV, TV.zero, SlT.nil, str]) rfl (fin _ rfl)
set_option maxRecDepth 20000 in
set_option maxHeartbeats 8000000 in
theorem ptenant_run (A : Option Addr) (n c : Nat) (ws : List (List UInt8)) (row : Int) (w : World) (h : SSl w A n c ws) (hk : RowOk n ws) (hs : ∀ p ∈ ws, p.length ≤ 300) :
    Calls Try.prog 32 #[.slice A n c, .int .i64 row] w (GotTn w (rnT ws row) (rnE ws)) := by
  have hlo := hk.lo
  have hhi := hk.hi
  obtain ⟨b0, o0, rfl, hb0, hc0⟩ := h.at_ (by omega)
  have c0 := hc0 0 (by omega)
  have c1 := hc0 1 (by omega)
  rw [Nat.add_zero, hk.first] at c0
  have hle := h.le
  have hcap := h.cap
  have hlen := h.len
  have RN := rn_right ws row (by rw [hlen]; exact hk)
  unfold unT at RN
  have HL := Lib.hid hlen
  have HS := Lib.hid hs
  have HC := Lib.hid hc0
  obtain ⟨p1, hp1⟩ : ∃ p1, ws.getD 1 [] = p1 := ⟨_, rfl⟩
  have hp1l : p1.length ≤ 300 := by
    rw [← hp1]
    refine hs _ ?_
    have : 1 < ws.length := by rw [h.len]; omega
    simp [List.getD, List.getElem?_eq_getElem this]
  rw [hp1] at c1 RN
  have HP1 := Lib.hid hp1l
  have d0 : (sTen != [116, 101, 110, 97, 110, 116]) = false := rfl
  have d1 : (sTen == [116, 101, 110, 97, 110, 116]) = true := rfl
  have i1 : ¬ (n : Int) ≤ 2 := by omega
  have i2 : ¬ (18 : Int) < (n : Int) := by omega
  have i3 : (1 : Int) < (n : Int) := by omega
  have i4 : (0 : Int) < (n : Int) := by omega
  have i5 : (2 : Int) ≤ (n : Int) := by omega
  have i6 : (n : Int) ≤ (c : Int) := by omega
  have i7 : ¬ c = 2 := by omega
  have i8 : 2 ≤ n := by omega
  have RNH := Lib.hid RN
  clear hc0 h hs hp1 hk hp1l RN hlen
  go_enter Try.func32, Try.ntmps32
  go_wp2
  have BS : Below w.heap.size w ((w.alloc (.cells #[.int .i64 0, .string ⟨#[]⟩, .slice none 0 0, .slice none 0 0] 40)).alloc (.cells #[.int .i64 row, .string (str p1), .slice none 0 0, .slice none 0 0] 40)) := two_alloc w _ _
  have RB : TBox ((w.alloc (.cells #[.int .i64 0, .string ⟨#[]⟩, .slice none 0 0, .slice none 0 0] 40)).alloc (.cells #[.int .i64 row, .string (str p1), .slice none 0 0, .slice none 0 0] 40)) w.heap.size 0 [] (.slice none 0 0) (.slice none 0 0) := by constructor <;> simp [go_sem, str]
  have I0 : TnI ((w.alloc (.cells #[.int .i64 0, .string ⟨#[]⟩, .slice none 0 0, .slice none 0 0] 40)).alloc (.cells #[.int .i64 row, .string (str p1), .slice none 0 0, .slice none 0 0] 40)) (w.heap.size + 1) row p1 ((prW ws (0 + 2)).map (headC 46)) ((prW ws (0 + 2)).map (tailC 46)) (.slice none 0 0) (.slice none 0 0) ((w.alloc (.cells #[.int .i64 0, .string ⟨#[]⟩, .slice none 0 0, .slice none 0 0] 40)).alloc (.cells #[.int .i64 row, .string (str p1), .slice none 0 0, .slice none 0 0] 40)) := by
    have e : prW ws (0 + 2) = [] := by unfold prW; exact List.drop_eq_nil_of_le (by rw [List.length_take]; omega)
    rw [e]
    refine ⟨by constructor <;> simp [go_sem, str], World.ownsRow_nil _ _ _ _, World.ownsRow_nil _ _ _ _, fun g h => (by cases h), Below.refl _ _, by simp⟩
  generalize (w.alloc (.cells #[.int .i64 0, .string ⟨#[]⟩, .slice none 0 0, .slice none 0 0] 40)).alloc (.cells #[.int .i64 row, .string (str p1), .slice none 0 0, .slice none 0 0] 40) = wS at *
  have BS := Lib.hid BS
  have RB := Lib.hid RB
  have I0 := Lib.hid I0
  obtain ⟨M, hM⟩ : ∃ M, n - 2 = M := ⟨_, rfl⟩
  rw [hM]
  have MN := Lib.hid (show n = M + 2 by omega)
  have hM16 : M ≤ 16 := by omega
  clear c0 c1 d0 d1 i1 i2 i3 i4 i5 i7 hM
  go_loopw [33] (fun i wr => ∃ (k : Nat) (v1 v2 : Value), i = .int .i64 (k : Int) ∧ k ≤ M ∧ TnI wS (w.heap.size + 1) row p1 ((prW ws (k + 2)).map (headC 46)) ((prW ws (k + 2)).map (tailC 46)) v1 v2 wr) (fun i _ => match i with | .int _ x => (M - x).toNat | _ => 0)
  case atStart => exact ⟨0, _, _, rfl, by omega, I0.out⟩
  case round =>
    obtain ⟨k, v1, v2, rfl, hkn, hI⟩ := hrel
    obtain ⟨xA, xN, xC, hv1⟩ := tn_shape hI.o1
    obtain ⟨yA, yN, yC, hv2⟩ := tn_shape hI.o2
    subst hv1 hv2
    have I := Lib.hid hI
    clear hI
    have RBr := Lib.hid (RB.out.same (I.out.bel.block w.heap.size (by omega)))
    have BR := Lib.hid (BS.out.trans (I.out.bel.mono (by omega)))
    by_cases hlt : k < M
    · have ck : wr.cell? ⟨b0, o0 + 2 + k, none⟩ = some (.string (str (ws.getD (k + 2) []))) := by
        have e := HC.out (k + 2) (by rw [MN.out]; omega)
        rw [show o0 + (k + 2) = o0 + 2 + k by omega] at e
        exact (I.out.bel.cell (p := ⟨b0, o0 + 2 + k, none⟩) (show b0 < w.heap.size + 1 by omega)).trans ((BS.out.cell (p := ⟨b0, o0 + 2 + k, none⟩) hb0).trans e)
      have hkl : k + 2 < ws.length := by rw [HL.out, MN.out]; omega
      have hpl : (ws.getD (k + 2) []).length ≤ 300 := HS.out _ (by simp [List.getD, List.getElem?_eq_getElem hkl])
      have NX := Lib.hid (prW_next (ws := ws) (k := k + 2) (by omega) hkl)
      have hpr := prW_len (ws := ws) (k := k + 2)
      have hi1 : ((prW ws (k + 2)).map (headC 46)).length = (prW ws (k + 2)).length := by simp
      have hi2 : ((prW ws (k + 2)).map (tailC 46)).length = (prW ws (k + 2)).length := by simp
      have i0 : (k : Int) < (M : Int) := by omega
      generalize ws.getD (k + 2) [] = p at *
      have CU := fun w => pcut_any p w (by omega)
      obtain ⟨hp, hhp⟩ : ∃ hp, headC 46 p = hp := ⟨_, rfl⟩
      obtain ⟨tp, htp⟩ : ∃ tp, tailC 46 p = tp := ⟨_, rfl⟩
      rw [hhp, htp] at CU
      have CU := Lib.hid CU
      have NX1 := Lib.hid (show (prW ws (k + 1 + 2)).map (headC 46) = (prW ws (k + 2)).map (headC 46) ++ [hp] by rw [show k + 1 + 2 = k + 2 + 1 by omega, NX.out, List.map_append, List.map_cons, List.map_nil, hhp])
      have NX2 := Lib.hid (show (prW ws (k + 1 + 2)).map (tailC 46) = (prW ws (k + 2)).map (tailC 46) ++ [tp] by rw [show k + 1 + 2 = k + 2 + 1 by omega, NX.out, List.map_append, List.map_cons, List.map_nil, htp])
      generalize (prW ws (k + 2)).map (headC 46) = ds at *
      generalize (prW ws (k + 2)).map (tailC 46) = ps at *
      clear hhp htp hpl hkl NX
      go_wp2_with (first
        | (go_at_call 45; (with_reducible refine (CU.out _).mono ?_); rintro e w2 ⟨rfl, b2⟩
           have I2 := Lib.hid (I.out.below b2)
           have I3 := Lib.hid (I2.out.below ((Below.refl _ _).alloc (Nat.le_refl _) (.cells #[.string (str hp), .string (str tp)] 67)))
           have l2 : w.heap.size + 1 < w2.heap.size := I2.out.box.lt
           have x2 := I2.out.box.c2
           have x3 := I2.out.box.c3
           have P3 := Lib.hid (show PB2 (w2.alloc (.cells #[.string (str hp), .string (str tp)] 67)) w2.heap.size hp tp by constructor <;> simp [go_sem])
           clear b2)
        | (at_builtin
           (with_reducible refine wpList_tappT rfl (.tmp 40) (.tmp 43) rfl rfl (w.heap.size + 1 + 1) (.slice xA xN xC) ds hp I3.out.o1 ?hn ?hB (w2.heap.size + 1) ?hq ?hs ?hx ?_)
           (case hn => omega)
           (case hB => exact I3.out.sz)
           (case hq => simp)
           (case hs => rfl)
           (case hx => rfl)
           intro v5 w5 h5 g5 a5
           obtain ⟨zA, zN, zC, hv5⟩ := tn_shape h5
           subst hv5
           obtain ⟨T5, N5⟩ := I3.out.app1 h5 g5 a5
           have P5 := P3.out.same (w' := w5) ((g5.block w2.heap.size (by simp; omega) (fun e => by have := (I2.out.o1.lt _ e.symm).2; omega)).trans (heap_new _ (by simp)))
           have P6 := P5.far ⟨w.heap.size + 1, 2, none⟩ (show w2.heap.size ≠ w.heap.size + 1 by omega) (.slice zA zN zC)
           have s2 := T5.c2
           have s3 := T5.c3
           have sf := T5.fz
           have s9 := P5.c1
           have s6 := P6.c1
           have s7 := N5.box.c3
           have N5 := Lib.hid N5
           clear h5 g5 a5 T5 P5 P6)
        | (at_builtin
           (with_reducible refine wpList_tappT rfl (.tmp 47) (.tmp 50) rfl rfl (w.heap.size + 1 + 1) (.slice yA yN yC) ps tp N5.out.o2 ?hn ?hB w5.heap.size ?hq ?hs ?hx ?_)
           (case hn => omega)
           (case hB => exact N5.out.sz)
           (case hq => simp)
           (case hs => rfl)
           (case hx => rfl)
           intro v7 w7 h7 g7 a7
           obtain ⟨tA, tN, tC, hv7⟩ := tn_shape h7
           subst hv7
           obtain ⟨T7, N7⟩ := N5.out.app2 h7 g7 a7
           have u2 := T7.c3
           have uf := T7.fz
           have N7 := Lib.hid N7
           clear h7 g7 a7 T7))
      go_roundw
      case rel => exact ⟨k + 1, _, _, by simp, by omega, by rw [NX1.out, NX2.out]; exact N7.out⟩
      case measure => simp only []; omega
    · obtain rfl : k = M := by omega
      have PA := Lib.hid (prW_all (ws := ws) (k := k + 2) (by rw [HL.out, MN.out]; exact Nat.le_refl _))
      have I1 := I.out
      rw [PA.out] at I1
      have q1 := tn_len I1.o1
      have q2 := tn_len I1.o2
      have F1 : ∀ g, (Value.slice xA xN xC).ownBlock = some g → w.heap.size + 2 ≤ g ∧ g < wr.heap.size := fun g hg => by have := I1.o1.lt g hg; omega
      have F2 : ∀ g, (Value.slice yA yN yC).ownBlock = some g → w.heap.size + 2 ≤ g ∧ g < wr.heap.size := fun g hg => by have := I1.o2.lt g hg; omega
      have S1 := own_rsl q1 (fun b => w.heap.size + 2 ≤ b ∧ b < wr.heap.size) F1
      have S2 := own_rsl q2 (fun b => w.heap.size + 2 ≤ b ∧ b < wr.heap.size) F2
      have hl2 : (ws.drop 2).length ≤ 16 := by rw [List.length_drop, HL.out, MN.out]; omega
      have SZ : TvSz ⟨row, p1, (ws.drop 2).map (headC 46), (ws.drop 2).map (tailC 46)⟩ := by
        refine ⟨HP1.out, fun p hp => ?_, fun p hp => ?_, ?_, ?_⟩
        · obtain ⟨q, hq, rfl⟩ := List.mem_map.1 hp
          have := HS.out q (List.mem_of_mem_drop hq)
          have := (ht_len q).1
          omega
        · obtain ⟨q, hq, rfl⟩ := List.mem_map.1 hp
          have := HS.out q (List.mem_of_mem_drop hq)
          have := (ht_len q).2
          omega
        · show ((ws.drop 2).map (headC 46)).length ≤ 40
          rw [List.length_map]; omega
        · show ((ws.drop 2).map (tailC 46)).length ≤ 40
          rw [List.length_map]; omega
      have RT := xpright_any ⟨row, p1, (ws.drop 2).map (headC 46), (ws.drop 2).map (tailC 46)⟩ ⟨xA, xN, xC⟩ ⟨yA, yN, yC⟩ wr _ S1 S2 (fun b h => h.2) SZ
      unfold tenV at RT
      have RNO := RNH.out
      generalize (ws.drop 2).map (headC 46) = ds at *
      generalize (ws.drop 2).map (tailC 46) = ps at *
      have t0 := I1.box.c0
      have t1 := I1.box.c1
      have t2 := I1.box.c2
      have t3 := I1.box.c3
      have i0 : ¬ (k : Int) < (k : Int) := by omega
      have II := Lib.hid I1
      have SS1 := Lib.hid S1
      have SS2 := Lib.hid S2
      clear I1 q1 q2 F1 F2 S1 S2 hl2 SZ
      cases hr : rgTB ⟨row, p1, ds, ps⟩ with
      | false =>
        rw [hr] at RT
        have RT := Lib.hid RT
        have E := Lib.hid (RNO.2 hr)
        clear hr RNO
        go_wp2_with (go_at_call 13; (with_reducible refine RT.out.mono ?_); rintro e w9 ⟨rfl, b9⟩; have B9 := Lib.hid (trans_below BR.out b9); have RB9 := Lib.hid (RBr.out.same (b9.block _ RBr.out.lt)); have r0 := RB9.out.c0; have r1 := RB9.out.c1; have r2 := RB9.out.c2; have r3 := RB9.out.c3; have rf := RB9.out.fz; clear b9)
        exact bodyPost_ret (pt_ret _ _ TV.zero SlT.nil SlT.nil 20 w.heap.size rfl rfl (RB9.out.put4 0 [] (.slice none 0 0) (.slice none 0 0))) rfl (by rw [E.out.1, E.out.2]; exact ⟨SlT.nil, SlT.nil, rfl, ten_zero _ _, (((B9.out.setCell (p := ⟨w.heap.size, 0, none⟩) (Nat.le_refl _) _).setCell (p := ⟨w.heap.size, 1, none⟩) (Nat.le_refl _) _).setCell (p := ⟨w.heap.size, 2, none⟩) (Nat.le_refl _) _).setCell (p := ⟨w.heap.size, 3, none⟩) (Nat.le_refl _) _⟩)
      | true =>
        rw [hr] at RT
        have RT := Lib.hid RT
        have E := Lib.hid (RNO.1 hr)
        clear hr RNO
        go_wp2_with (go_at_call 13; (with_reducible refine RT.out.mono ?_); rintro e w9 ⟨rfl, b9⟩; have B9 := Lib.hid (trans_below BR.out b9); have RB9 := Lib.hid (RBr.out.same (b9.block _ RBr.out.lt)); have r0 := RB9.out.c0; have r1 := RB9.out.c1; have r2 := RB9.out.c2; have r3 := RB9.out.c3; have rf := RB9.out.fz; have I9 := II.out.box.same (b9.block _ II.out.box.lt); have v0 := I9.c0; have v1 := I9.c1; have v2 := I9.c2; have v3 := I9.c3; have BK9 := Lib.hid b9; clear b9 I9)
        have RB4 := RB9.out.put4 row p1 (.slice xA xN xC) (.slice yA yN yC)
        have BL : Below w.heap.size w ((((w9.setCell ⟨w.heap.size, 0, none⟩ (.int .i64 row)).setCell ⟨w.heap.size, 1, none⟩ (.string (str p1))).setCell ⟨w.heap.size, 2, none⟩ (.slice xA xN xC)).setCell ⟨w.heap.size, 3, none⟩ (.slice yA yN yC)) := (((B9.out.setCell (p := ⟨w.heap.size, 0, none⟩) (Nat.le_refl _) _).setCell (p := ⟨w.heap.size, 1, none⟩) (Nat.le_refl _) _).setCell (p := ⟨w.heap.size, 2, none⟩) (Nat.le_refl _) _).setCell (p := ⟨w.heap.size, 3, none⟩) (Nat.le_refl _) _
        have keep : ∀ g, (w.heap.size + 2 ≤ g ∧ g < wr.heap.size) → ((((w9.setCell ⟨w.heap.size, 0, none⟩ (.int .i64 row)).setCell ⟨w.heap.size, 1, none⟩ (.string (str p1))).setCell ⟨w.heap.size, 2, none⟩ (.slice xA xN xC)).setCell ⟨w.heap.size, 3, none⟩ (.slice yA yN yC)).heap[g]? = wr.heap[g]? := fun g hg => by
          rw [Below.heap_setCell _ _ _ g (by show g ≠ w.heap.size; omega), Below.heap_setCell _ _ _ g (by show g ≠ w.heap.size; omega), Below.heap_setCell _ _ _ g (by show g ≠ w.heap.size; omega), Below.heap_setCell _ _ _ g (by show g ≠ w.heap.size; omega)]
          exact BK9.out.block g hg.2
        have up : ∀ g, (w.heap.size + 2 ≤ g ∧ g < wr.heap.size) → w.heap.size ≤ g ∧ g < ((((w9.setCell ⟨w.heap.size, 0, none⟩ (.int .i64 row)).setCell ⟨w.heap.size, 1, none⟩ (.string (str p1))).setCell ⟨w.heap.size, 2, none⟩ (.slice xA xN xC)).setCell ⟨w.heap.size, 3, none⟩ (.slice yA yN yC)).heap.size := fun g hg => ⟨by omega, by have := BK9.out.size; simp; omega⟩
        have O1 := SS1.out.keep keep up
        have O2 := SS2.out.keep keep up
        refine bodyPost_ret (pt_ret _ _ ⟨row, p1, ds, ps⟩ ⟨xA, xN, xC⟩ ⟨yA, yN, yC⟩ 0 w.heap.size rfl rfl RB4) rfl ?_
        rw [E.out.1, E.out.2]
        exact ⟨_, _, rfl, ⟨_, _, rfl, O1, O2⟩, BL⟩
theorem ptenant_any (A : Option Addr) (n c : Nat) (ws : List (List UInt8)) (row : Int) (w : World) (h : SSl w A n c ws) (hn : 1 ≤ n) (hs : ∀ p ∈ ws, p.length ≤ 300) :
    Calls Try.prog 32 #[.slice A n c, .int .i64 row] w (GotTn w (rnT ws row) (rnE ws)) := by
  have hl := h.len
  by_cases hb : ws.getD 0 [] ≠ sTen ∨ ws.length < 3 ∨ 18 < ws.length
  · rw [(rn_form row hb).1, (rn_form row hb).2]
    exact ptenant_form A n c ws row w h hn hb
  · have hk : RowOk n ws := ⟨Classical.byContradiction fun e => hb (.inl e), by rw [← hl]; exact Nat.le_of_not_lt fun e => hb (.inr (.inl e)), by rw [← hl]; exact Nat.le_of_not_lt fun e => hb (.inr (.inr e))⟩
    exact ptenant_run A n c ws row w h hk hs
end Go.Proofs.Ytkfhjmoocnhekaa
