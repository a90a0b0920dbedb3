/- May a word say so: the contract of stmt.may (made by mk-stmay.py). -/
import Derived.Test.YtpbomfhlghljdaaGreatDoorStSmall2
namespace Go.Proofs.YtpbomfhlghljdaaGreatDoor
open Go.RowKit

/-- a value -/
def valV (V : WV) (t1 t2 : SlV) : Value := .agg #[.string (str V.text), .int .i64 V.n, .int .u64 V.mac, .int .u32 V.addr, .slice t1.A t1.n t1.c, .slice t2.A t2.n t2.c]
/-- a value that may come of a word, or of a field -/
structure VOk (V : WV) : Prop where
  txt : V.text.length ≤ 1000000
  mac : 0 ≤ V.mac ∧ V.mac < 281474976710656
  addr : 0 ≤ V.addr ∧ V.addr < 4294967296
  lst : V.list.length ≤ 1000000 ∧ V.addrs.length ≤ 1000000
def VRead (w : World) (V : WV) (t1 t2 : SlV) : Prop := ISl w .i64 t1.A t1.n t1.c V.list ∧ ISl w .u32 t2.A t2.n t2.c V.addrs
def GotBl (b : Bool) (w : World) (e : Ending) (w' : World) : Prop := e = .returned (.bool b) ∧ Below w.heap.size w w'
theorem may_opt {k : Nat} {V : WV} (ho : optB k = true) (h1 : V.n = 0) (h2 : V.list = []) : mayB k V = true := by unfold mayB; rw [if_pos ⟨ho, h1, h2⟩]
theorem may_w {k : Nat} {V : WV} (h : ¬ (V.n = 0 ∧ V.list = [])) : mayB k V = mayW k V := by
  unfold mayB
  rw [if_neg (fun g => h ⟨g.2.1, g.2.2⟩)]
theorem below_box (w : World) (o : Obj) : Below w.heap.size w (w.alloc o) := (Below.refl _ _).alloc (Nat.le_refl _) _
set_option maxRecDepth 20000 in
set_option maxHeartbeats 1000000 in
theorem may_0 (V : WV) (t1 t2 : SlV) (w : World) (hv : VOk V) (h : VRead w V t1 t2) : Calls Tryz.prog 31 #[.int .i64 0, valV V t1 t2] w (GotBl (mayB 0 V) w) := by
  have C1 := Lib.hid (show ∀ w, Calls Tryz.prog 50 #[.int .i64 0] w fun e w' => e = .returned (.bool false) ∧ w = w' from fun w => opt_any 0 (by decide) w)
  have C2 := Lib.hid (show ∀ w, Calls Tryz.prog 51 #[.int .i64 0] w fun e w' => e = .returned (.tuple #[.int .i64 0, .int .i64 0]) ∧ w = w' from fun w => lim_any 0 (by decide) w)
  obtain ⟨x, n, mc, ad, xs, ys⟩ := V
  obtain ⟨A1, n1, c1⟩ := t1
  obtain ⟨A2, n2, c2⟩ := t2
  have H1 := Lib.hid h.1
  have H2 := Lib.hid h.2
  have VO := Lib.hid hv
  have hl1 := h.1.le; have hc1 := h.1.cap; have hn1 := h.1.len
  clear h hv
  dsimp only at hl1 hc1 hn1
  unfold valV
  dsimp only
  have E := Lib.hid (show mayB 0 ⟨x, n, mc, ad, xs, ys⟩ = nmB x by rw [may_plain rfl]; rfl)
  have C3 := Lib.hid (fun w => name_any (str x) w (by rw [str_size]; have := VO.out.txt; unfold maxLen; dsimp only at this; omega) (nmB x) (nmB_iff x))
  go_enter Tryz.func31, Tryz.ntmps31
  go_wp2_with (first
      | (go_at_call 50; refine (C1.out _).mono ?_; rintro e w1 ⟨rfl, rfl⟩)
      | (go_at_call 51; refine (C2.out _).mono ?_; rintro e w1 ⟨rfl, rfl⟩)
      | (go_at_call 70; refine (C3.out _).mono ?_; rintro e w1 ⟨rfl, rfl⟩))
  go_ret
  exact ⟨by rw [E.out]; rfl, below_box _ _⟩
set_option maxRecDepth 20000 in
set_option maxHeartbeats 1000000 in
theorem may_1 (V : WV) (t1 t2 : SlV) (w : World) (hv : VOk V) (h : VRead w V t1 t2) : Calls Tryz.prog 31 #[.int .i64 1, valV V t1 t2] w (GotBl (mayB 1 V) w) := by
  have C1 := Lib.hid (show ∀ w, Calls Tryz.prog 50 #[.int .i64 1] w fun e w' => e = .returned (.bool false) ∧ w = w' from fun w => opt_any 1 (by decide) w)
  have C2 := Lib.hid (show ∀ w, Calls Tryz.prog 51 #[.int .i64 1] w fun e w' => e = .returned (.tuple #[.int .i64 0, .int .i64 0]) ∧ w = w' from fun w => lim_any 1 (by decide) w)
  obtain ⟨x, n, mc, ad, xs, ys⟩ := V
  obtain ⟨A1, n1, c1⟩ := t1
  obtain ⟨A2, n2, c2⟩ := t2
  have H1 := Lib.hid h.1
  have H2 := Lib.hid h.2
  have VO := Lib.hid hv
  have hl1 := h.1.le; have hc1 := h.1.cap; have hn1 := h.1.len
  clear h hv
  dsimp only at hl1 hc1 hn1
  unfold valV
  dsimp only
  have E := Lib.hid (show mayB 1 ⟨x, n, mc, ad, xs, ys⟩ = ((x == sAccess) || (x == sTrunk)) by rw [may_plain rfl]; rfl)
  by_cases e1 : x = sAccess
  · subst e1
    have d1 : (sAccess == ([97, 99, 99, 101, 115, 115] : List UInt8)) = true := by decide
    go_enter Tryz.func31, Tryz.ntmps31
    go_wp2_with (first
      | (go_at_call 50; refine (C1.out _).mono ?_; rintro e w1 ⟨rfl, rfl⟩)
      | (go_at_call 51; refine (C2.out _).mono ?_; rintro e w1 ⟨rfl, rfl⟩))
    go_ret
    exact ⟨by rw [E.out]; rfl, below_box _ _⟩
  · by_cases e2 : x = sTrunk
    · subst e2
      have d1 : (sTrunk == ([97, 99, 99, 101, 115, 115] : List UInt8)) = false := by decide
      have d2 : (sTrunk == ([116, 114, 117, 110, 107] : List UInt8)) = true := by decide
      go_enter Tryz.func31, Tryz.ntmps31
      go_wp2_with (first
      | (go_at_call 50; refine (C1.out _).mono ?_; rintro e w1 ⟨rfl, rfl⟩)
      | (go_at_call 51; refine (C2.out _).mono ?_; rintro e w1 ⟨rfl, rfl⟩))
      go_ret
      exact ⟨by rw [E.out]; rfl, below_box _ _⟩
    · have d1 : (x == ([97, 99, 99, 101, 115, 115] : List UInt8)) = false := by rw [beq_eq_false_iff_ne]; exact e1
      have d2 : (x == ([116, 114, 117, 110, 107] : List UInt8)) = false := by rw [beq_eq_false_iff_ne]; exact e2
      have E2 := Lib.hid (show ((x == sAccess) || (x == sTrunk)) = false by
        rw [show (x == sAccess) = false from d1, show (x == sTrunk) = false from d2]; rfl)
      clear e1 e2
      go_enter Tryz.func31, Tryz.ntmps31
      go_wp2_with (first
      | (go_at_call 50; refine (C1.out _).mono ?_; rintro e w1 ⟨rfl, rfl⟩)
      | (go_at_call 51; refine (C2.out _).mono ?_; rintro e w1 ⟨rfl, rfl⟩))
      go_ret
      exact ⟨by rw [E.out, E2.out]; rfl, below_box _ _⟩
set_option maxRecDepth 20000 in
set_option maxHeartbeats 1000000 in
theorem may_2 (V : WV) (t1 t2 : SlV) (w : World) (hv : VOk V) (h : VRead w V t1 t2) : Calls Tryz.prog 31 #[.int .i64 2, valV V t1 t2] w (GotBl (mayB 2 V) w) := by
  have C1 := Lib.hid (show ∀ w, Calls Tryz.prog 50 #[.int .i64 2] w fun e w' => e = .returned (.bool false) ∧ w = w' from fun w => opt_any 2 (by decide) w)
  have C2 := Lib.hid (show ∀ w, Calls Tryz.prog 51 #[.int .i64 2] w fun e w' => e = .returned (.tuple #[.int .i64 0, .int .i64 65535]) ∧ w = w' from fun w => lim_any 2 (by decide) w)
  obtain ⟨x, n, mc, ad, xs, ys⟩ := V
  obtain ⟨A1, n1, c1⟩ := t1
  obtain ⟨A2, n2, c2⟩ := t2
  have H1 := Lib.hid h.1
  have H2 := Lib.hid h.2
  have VO := Lib.hid hv
  have hl1 := h.1.le; have hc1 := h.1.cap; have hn1 := h.1.len
  clear h hv
  dsimp only at hl1 hc1 hn1
  unfold valV
  dsimp only
  have E := Lib.hid (show mayB 2 ⟨x, n, mc, ad, xs, ys⟩ = (decide (0 ≤ n) && decide (n ≤ 65535)) by rw [may_plain rfl]; rfl)
  by_cases e1 : 0 ≤ n
  · have E2 := Lib.hid (show (decide (0 ≤ n) && decide (n ≤ 65535)) = decide (n ≤ 65535) by rw [decide_eq_true e1, Bool.true_and])
    go_enter Tryz.func31, Tryz.ntmps31
    go_wp2_with (first
      | (go_at_call 50; refine (C1.out _).mono ?_; rintro e w1 ⟨rfl, rfl⟩)
      | (go_at_call 51; refine (C2.out _).mono ?_; rintro e w1 ⟨rfl, rfl⟩))
    go_ret
    exact ⟨by rw [E.out, E2.out]; rfl, below_box _ _⟩
  · have E2 := Lib.hid (show (decide (0 ≤ n) && decide (n ≤ 65535)) = false by rw [decide_eq_false e1, Bool.false_and])
    go_enter Tryz.func31, Tryz.ntmps31
    go_wp2_with (first
      | (go_at_call 50; refine (C1.out _).mono ?_; rintro e w1 ⟨rfl, rfl⟩)
      | (go_at_call 51; refine (C2.out _).mono ?_; rintro e w1 ⟨rfl, rfl⟩))
    go_ret
    exact ⟨by rw [E.out, E2.out]; rfl, below_box _ _⟩
set_option maxRecDepth 20000 in
set_option maxHeartbeats 1000000 in
theorem may_3 (V : WV) (t1 t2 : SlV) (w : World) (hv : VOk V) (h : VRead w V t1 t2) : Calls Tryz.prog 31 #[.int .i64 3, valV V t1 t2] w (GotBl (mayB 3 V) w) := by
  have C1 := Lib.hid (show ∀ w, Calls Tryz.prog 50 #[.int .i64 3] w fun e w' => e = .returned (.bool false) ∧ w = w' from fun w => opt_any 3 (by decide) w)
  have C2 := Lib.hid (show ∀ w, Calls Tryz.prog 51 #[.int .i64 3] w fun e w' => e = .returned (.tuple #[.int .i64 1, .int .i64 65535]) ∧ w = w' from fun w => lim_any 3 (by decide) w)
  obtain ⟨x, n, mc, ad, xs, ys⟩ := V
  obtain ⟨A1, n1, c1⟩ := t1
  obtain ⟨A2, n2, c2⟩ := t2
  have H1 := Lib.hid h.1
  have H2 := Lib.hid h.2
  have VO := Lib.hid hv
  have hl1 := h.1.le; have hc1 := h.1.cap; have hn1 := h.1.len
  clear h hv
  dsimp only at hl1 hc1 hn1
  unfold valV
  dsimp only
  have E := Lib.hid (show mayB 3 ⟨x, n, mc, ad, xs, ys⟩ = (decide (1 ≤ n) && decide (n ≤ 65535)) by rw [may_plain rfl]; rfl)
  by_cases e1 : 1 ≤ n
  · have E2 := Lib.hid (show (decide (1 ≤ n) && decide (n ≤ 65535)) = decide (n ≤ 65535) by rw [decide_eq_true e1, Bool.true_and])
    go_enter Tryz.func31, Tryz.ntmps31
    go_wp2_with (first
      | (go_at_call 50; refine (C1.out _).mono ?_; rintro e w1 ⟨rfl, rfl⟩)
      | (go_at_call 51; refine (C2.out _).mono ?_; rintro e w1 ⟨rfl, rfl⟩))
    go_ret
    exact ⟨by rw [E.out, E2.out]; rfl, below_box _ _⟩
  · have E2 := Lib.hid (show (decide (1 ≤ n) && decide (n ≤ 65535)) = false by rw [decide_eq_false e1, Bool.false_and])
    go_enter Tryz.func31, Tryz.ntmps31
    go_wp2_with (first
      | (go_at_call 50; refine (C1.out _).mono ?_; rintro e w1 ⟨rfl, rfl⟩)
      | (go_at_call 51; refine (C2.out _).mono ?_; rintro e w1 ⟨rfl, rfl⟩))
    go_ret
    exact ⟨by rw [E.out, E2.out]; rfl, below_box _ _⟩
set_option maxRecDepth 20000 in
set_option maxHeartbeats 1000000 in
theorem may_4 (V : WV) (t1 t2 : SlV) (w : World) (hv : VOk V) (h : VRead w V t1 t2) : Calls Tryz.prog 31 #[.int .i64 4, valV V t1 t2] w (GotBl (mayB 4 V) w) := by
  have C1 := Lib.hid (show ∀ w, Calls Tryz.prog 50 #[.int .i64 4] w fun e w' => e = .returned (.bool false) ∧ w = w' from fun w => opt_any 4 (by decide) w)
  have C2 := Lib.hid (show ∀ w, Calls Tryz.prog 51 #[.int .i64 4] w fun e w' => e = .returned (.tuple #[.int .i64 1, .int .i64 4094]) ∧ w = w' from fun w => lim_any 4 (by decide) w)
  obtain ⟨x, n, mc, ad, xs, ys⟩ := V
  obtain ⟨A1, n1, c1⟩ := t1
  obtain ⟨A2, n2, c2⟩ := t2
  have H1 := Lib.hid h.1
  have H2 := Lib.hid h.2
  have VO := Lib.hid hv
  have hl1 := h.1.le; have hc1 := h.1.cap; have hn1 := h.1.len
  clear h hv
  dsimp only at hl1 hc1 hn1
  unfold valV
  dsimp only
  have E := Lib.hid (show mayB 4 ⟨x, n, mc, ad, xs, ys⟩ = (decide (1 ≤ n) && decide (n ≤ 4094)) by rw [may_plain rfl]; rfl)
  by_cases e1 : 1 ≤ n
  · have E2 := Lib.hid (show (decide (1 ≤ n) && decide (n ≤ 4094)) = decide (n ≤ 4094) by rw [decide_eq_true e1, Bool.true_and])
    go_enter Tryz.func31, Tryz.ntmps31
    go_wp2_with (first
      | (go_at_call 50; refine (C1.out _).mono ?_; rintro e w1 ⟨rfl, rfl⟩)
      | (go_at_call 51; refine (C2.out _).mono ?_; rintro e w1 ⟨rfl, rfl⟩))
    go_ret
    exact ⟨by rw [E.out, E2.out]; rfl, below_box _ _⟩
  · have E2 := Lib.hid (show (decide (1 ≤ n) && decide (n ≤ 4094)) = false by rw [decide_eq_false e1, Bool.false_and])
    go_enter Tryz.func31, Tryz.ntmps31
    go_wp2_with (first
      | (go_at_call 50; refine (C1.out _).mono ?_; rintro e w1 ⟨rfl, rfl⟩)
      | (go_at_call 51; refine (C2.out _).mono ?_; rintro e w1 ⟨rfl, rfl⟩))
    go_ret
    exact ⟨by rw [E.out, E2.out]; rfl, below_box _ _⟩
set_option maxRecDepth 20000 in
set_option maxHeartbeats 1000000 in
theorem may_5 (V : WV) (t1 t2 : SlV) (w : World) (hv : VOk V) (h : VRead w V t1 t2) : Calls Tryz.prog 31 #[.int .i64 5, valV V t1 t2] w (GotBl (mayB 5 V) w) := by
  have C1 := Lib.hid (show ∀ w, Calls Tryz.prog 50 #[.int .i64 5] w fun e w' => e = .returned (.bool true) ∧ w = w' from fun w => opt_any 5 (by decide) w)
  have C2 := Lib.hid (show ∀ w, Calls Tryz.prog 51 #[.int .i64 5] w fun e w' => e = .returned (.tuple #[.int .i64 1, .int .i64 4094]) ∧ w = w' from fun w => lim_any 5 (by decide) w)
  obtain ⟨x, n, mc, ad, xs, ys⟩ := V
  obtain ⟨A1, n1, c1⟩ := t1
  obtain ⟨A2, n2, c2⟩ := t2
  have H1 := Lib.hid h.1
  have H2 := Lib.hid h.2
  have VO := Lib.hid hv
  have hl1 := h.1.le; have hc1 := h.1.cap; have hn1 := h.1.len
  clear h hv
  dsimp only at hl1 hc1 hn1
  unfold valV
  dsimp only
  by_cases n0 : n = 0
  · by_cases l0 : n1 = 0
    · have E := Lib.hid (show mayB 5 ⟨x, n, mc, ad, xs, ys⟩ = true from may_opt rfl n0 (List.eq_nil_of_length_eq_zero (hn1.trans l0)))
      subst n0 l0
      go_enter Tryz.func31, Tryz.ntmps31
      go_wp2_with (first
      | (go_at_call 50; refine (C1.out _).mono ?_; rintro e w1 ⟨rfl, rfl⟩)
      | (go_at_call 51; refine (C2.out _).mono ?_; rintro e w1 ⟨rfl, rfl⟩))
      go_ret
      exact ⟨by rw [E.out]; rfl, below_box _ _⟩
    · have E := Lib.hid (show mayB 5 ⟨x, n, mc, ad, xs, ys⟩ = (decide (1 ≤ n) && decide (n ≤ 4094)) by rw [may_w (fun g => l0 (by rw [← hn1]; exact congrArg List.length (show xs = [] from g.2)))]; rfl)
      have d0 : ((n1 : Int) == 0) = false := by simpa using l0
      have E3 := Lib.hid (show (decide (1 ≤ n) && decide (n ≤ 4094)) = false by rw [n0]; rfl)
      subst n0
      go_enter Tryz.func31, Tryz.ntmps31
      go_wp2_with (first
            | (go_at_call 50; refine (C1.out _).mono ?_; rintro e w1 ⟨rfl, rfl⟩)
            | (go_at_call 51; refine (C2.out _).mono ?_; rintro e w1 ⟨rfl, rfl⟩))
      go_ret
      exact ⟨by rw [E.out, E3.out]; rfl, below_box _ _⟩
  · have E := Lib.hid (show mayB 5 ⟨x, n, mc, ad, xs, ys⟩ = (decide (1 ≤ n) && decide (n ≤ 4094)) by rw [may_w (fun g => n0 g.1)]; rfl)
    have d0 : (n == 0) = false := by simpa using n0
    by_cases e1 : 1 ≤ n
    · have E2 := Lib.hid (show (decide (1 ≤ n) && decide (n ≤ 4094)) = decide (n ≤ 4094) by rw [decide_eq_true e1, Bool.true_and])
      go_enter Tryz.func31, Tryz.ntmps31
      go_wp2_with (first
          | (go_at_call 50; refine (C1.out _).mono ?_; rintro e w1 ⟨rfl, rfl⟩)
          | (go_at_call 51; refine (C2.out _).mono ?_; rintro e w1 ⟨rfl, rfl⟩))
      go_ret
      exact ⟨by rw [E.out, E2.out]; rfl, below_box _ _⟩
    · have E2 := Lib.hid (show (decide (1 ≤ n) && decide (n ≤ 4094)) = false by rw [decide_eq_false e1, Bool.false_and])
      go_enter Tryz.func31, Tryz.ntmps31
      go_wp2_with (first
          | (go_at_call 50; refine (C1.out _).mono ?_; rintro e w1 ⟨rfl, rfl⟩)
          | (go_at_call 51; refine (C2.out _).mono ?_; rintro e w1 ⟨rfl, rfl⟩))
      go_ret
      exact ⟨by rw [E.out, E2.out]; rfl, below_box _ _⟩
set_option maxRecDepth 20000 in
set_option maxHeartbeats 1000000 in
theorem may_6 (V : WV) (t1 t2 : SlV) (w : World) (hv : VOk V) (h : VRead w V t1 t2) : Calls Tryz.prog 31 #[.int .i64 6, valV V t1 t2] w (GotBl (mayB 6 V) w) := by
  have C1 := Lib.hid (show ∀ w, Calls Tryz.prog 50 #[.int .i64 6] w fun e w' => e = .returned (.bool false) ∧ w = w' from fun w => opt_any 6 (by decide) w)
  have C2 := Lib.hid (show ∀ w, Calls Tryz.prog 51 #[.int .i64 6] w fun e w' => e = .returned (.tuple #[.int .i64 1, .int .i64 16777215]) ∧ w = w' from fun w => lim_any 6 (by decide) w)
  obtain ⟨x, n, mc, ad, xs, ys⟩ := V
  obtain ⟨A1, n1, c1⟩ := t1
  obtain ⟨A2, n2, c2⟩ := t2
  have H1 := Lib.hid h.1
  have H2 := Lib.hid h.2
  have VO := Lib.hid hv
  have hl1 := h.1.le; have hc1 := h.1.cap; have hn1 := h.1.len
  clear h hv
  dsimp only at hl1 hc1 hn1
  unfold valV
  dsimp only
  have E := Lib.hid (show mayB 6 ⟨x, n, mc, ad, xs, ys⟩ = (decide (1 ≤ n) && decide (n ≤ 16777215)) by rw [may_plain rfl]; rfl)
  by_cases e1 : 1 ≤ n
  · have E2 := Lib.hid (show (decide (1 ≤ n) && decide (n ≤ 16777215)) = decide (n ≤ 16777215) by rw [decide_eq_true e1, Bool.true_and])
    go_enter Tryz.func31, Tryz.ntmps31
    go_wp2_with (first
      | (go_at_call 50; refine (C1.out _).mono ?_; rintro e w1 ⟨rfl, rfl⟩)
      | (go_at_call 51; refine (C2.out _).mono ?_; rintro e w1 ⟨rfl, rfl⟩))
    go_ret
    exact ⟨by rw [E.out, E2.out]; rfl, below_box _ _⟩
  · have E2 := Lib.hid (show (decide (1 ≤ n) && decide (n ≤ 16777215)) = false by rw [decide_eq_false e1, Bool.false_and])
    go_enter Tryz.func31, Tryz.ntmps31
    go_wp2_with (first
      | (go_at_call 50; refine (C1.out _).mono ?_; rintro e w1 ⟨rfl, rfl⟩)
      | (go_at_call 51; refine (C2.out _).mono ?_; rintro e w1 ⟨rfl, rfl⟩))
    go_ret
    exact ⟨by rw [E.out, E2.out]; rfl, below_box _ _⟩
set_option maxRecDepth 20000 in
set_option maxHeartbeats 1000000 in
theorem may_7 (V : WV) (t1 t2 : SlV) (w : World) (hv : VOk V) (h : VRead w V t1 t2) : Calls Tryz.prog 31 #[.int .i64 7, valV V t1 t2] w (GotBl (mayB 7 V) w) := by
  have C1 := Lib.hid (show ∀ w, Calls Tryz.prog 50 #[.int .i64 7] w fun e w' => e = .returned (.bool false) ∧ w = w' from fun w => opt_any 7 (by decide) w)
  have C2 := Lib.hid (show ∀ w, Calls Tryz.prog 51 #[.int .i64 7] w fun e w' => e = .returned (.tuple #[.int .i64 0, .int .i64 0]) ∧ w = w' from fun w => lim_any 7 (by decide) w)
  obtain ⟨x, n, mc, ad, xs, ys⟩ := V
  obtain ⟨A1, n1, c1⟩ := t1
  obtain ⟨A2, n2, c2⟩ := t2
  have H1 := Lib.hid h.1
  have H2 := Lib.hid h.2
  have VO := Lib.hid hv
  have hl1 := h.1.le; have hc1 := h.1.cap; have hn1 := h.1.len
  clear h hv
  dsimp only at hl1 hc1 hn1
  unfold valV
  dsimp only
  have E := Lib.hid (show mayB 7 ⟨x, n, mc, ad, xs, ys⟩ = loneB mc by rw [may_plain rfl]; rfl)
  go_enter Tryz.func31, Tryz.ntmps31
  go_wp2_with (first
      | (go_at_call 50; refine (C1.out _).mono ?_; rintro e w1 ⟨rfl, rfl⟩)
      | (go_at_call 51; refine (C2.out _).mono ?_; rintro e w1 ⟨rfl, rfl⟩)
      | (go_at_call 71; refine (lone_any mc _ VO.out.mac.1 VO.out.mac.2).mono ?_; rintro e w1 ⟨rfl, rfl⟩))
  go_ret
  exact ⟨by rw [E.out]; rfl, below_box _ _⟩
set_option maxRecDepth 20000 in
set_option maxHeartbeats 1000000 in
theorem may_8 (V : WV) (t1 t2 : SlV) (w : World) (hv : VOk V) (h : VRead w V t1 t2) : Calls Tryz.prog 31 #[.int .i64 8, valV V t1 t2] w (GotBl (mayB 8 V) w) := by
  have C1 := Lib.hid (show ∀ w, Calls Tryz.prog 50 #[.int .i64 8] w fun e w' => e = .returned (.bool false) ∧ w = w' from fun w => opt_any 8 (by decide) w)
  have C2 := Lib.hid (show ∀ w, Calls Tryz.prog 51 #[.int .i64 8] w fun e w' => e = .returned (.tuple #[.int .i64 0, .int .i64 0]) ∧ w = w' from fun w => lim_any 8 (by decide) w)
  obtain ⟨x, n, mc, ad, xs, ys⟩ := V
  obtain ⟨A1, n1, c1⟩ := t1
  obtain ⟨A2, n2, c2⟩ := t2
  have H1 := Lib.hid h.1
  have H2 := Lib.hid h.2
  have VO := Lib.hid hv
  have hl1 := h.1.le; have hc1 := h.1.cap; have hn1 := h.1.len
  clear h hv
  dsimp only at hl1 hc1 hn1
  unfold valV
  dsimp only
  have E := Lib.hid (show mayB 8 ⟨x, n, mc, ad, xs, ys⟩ = (ad != 0) by rw [may_plain rfl]; show (!decide (ad = 0)) = (ad != 0); rw [Bool.eq_iff_iff]; simp)
  go_enter Tryz.func31, Tryz.ntmps31
  go_wp2_with (first
      | (go_at_call 50; refine (C1.out _).mono ?_; rintro e w1 ⟨rfl, rfl⟩)
      | (go_at_call 51; refine (C2.out _).mono ?_; rintro e w1 ⟨rfl, rfl⟩))
  go_ret
  exact ⟨by rw [E.out]; rfl, below_box _ _⟩
set_option maxRecDepth 20000 in
set_option maxHeartbeats 1000000 in
theorem may_9 (V : WV) (t1 t2 : SlV) (w : World) (hv : VOk V) (h : VRead w V t1 t2) : Calls Tryz.prog 31 #[.int .i64 9, valV V t1 t2] w (GotBl (mayB 9 V) w) := by
  have C1 := Lib.hid (show ∀ w, Calls Tryz.prog 50 #[.int .i64 9] w fun e w' => e = .returned (.bool false) ∧ w = w' from fun w => opt_any 9 (by decide) w)
  have C2 := Lib.hid (show ∀ w, Calls Tryz.prog 51 #[.int .i64 9] w fun e w' => e = .returned (.tuple #[.int .i64 0, .int .i64 0]) ∧ w = w' from fun w => lim_any 9 (by decide) w)
  obtain ⟨x, n, mc, ad, xs, ys⟩ := V
  obtain ⟨A1, n1, c1⟩ := t1
  obtain ⟨A2, n2, c2⟩ := t2
  have H1 := Lib.hid h.1
  have H2 := Lib.hid h.2
  have VO := Lib.hid hv
  have hl1 := h.1.le; have hc1 := h.1.cap; have hn1 := h.1.len
  clear h hv
  dsimp only at hl1 hc1 hn1
  unfold valV
  dsimp only
  have E := Lib.hid (show mayB 9 ⟨x, n, mc, ad, xs, ys⟩ = snB ad n by rw [may_plain rfl]; rfl)
  go_enter Tryz.func31, Tryz.ntmps31
  go_wp2_with (first
      | (go_at_call 50; refine (C1.out _).mono ?_; rintro e w1 ⟨rfl, rfl⟩)
      | (go_at_call 51; refine (C2.out _).mono ?_; rintro e w1 ⟨rfl, rfl⟩)
      | (go_at_call 72; refine (inner_any ad n VO.out.addr.1 VO.out.addr.2 _).mono ?_; rintro e w1 ⟨rfl, hb1⟩))
  go_ret
  exact ⟨by rw [E.out]; rfl, one_below hb1⟩
set_option maxRecDepth 20000 in
set_option maxHeartbeats 1000000 in
theorem may_10 (V : WV) (t1 t2 : SlV) (w : World) (hv : VOk V) (h : VRead w V t1 t2) : Calls Tryz.prog 31 #[.int .i64 10, valV V t1 t2] w (GotBl (mayB 10 V) w) := by
  have C1 := Lib.hid (show ∀ w, Calls Tryz.prog 50 #[.int .i64 10] w fun e w' => e = .returned (.bool true) ∧ w = w' from fun w => opt_any 10 (by decide) w)
  have C2 := Lib.hid (show ∀ w, Calls Tryz.prog 51 #[.int .i64 10] w fun e w' => e = .returned (.tuple #[.int .i64 1, .int .i64 4094]) ∧ w = w' from fun w => lim_any 10 (by decide) w)
  obtain ⟨x, n, mc, ad, xs, ys⟩ := V
  obtain ⟨A1, n1, c1⟩ := t1
  obtain ⟨A2, n2, c2⟩ := t2
  have H1 := Lib.hid h.1
  have H2 := Lib.hid h.2
  have VO := Lib.hid hv
  have hl1 := h.1.le; have hc1 := h.1.cap; have hn1 := h.1.len
  clear h hv
  dsimp only at hl1 hc1 hn1
  unfold valV
  dsimp only
  by_cases n0 : n = 0
  · by_cases l0 : n1 = 0
    · have E := Lib.hid (show mayB 10 ⟨x, n, mc, ad, xs, ys⟩ = true from may_opt rfl n0 (List.eq_nil_of_length_eq_zero (hn1.trans l0)))
      subst n0 l0
      go_enter Tryz.func31, Tryz.ntmps31
      go_wp2_with (first
      | (go_at_call 50; refine (C1.out _).mono ?_; rintro e w1 ⟨rfl, rfl⟩)
      | (go_at_call 51; refine (C2.out _).mono ?_; rintro e w1 ⟨rfl, rfl⟩))
      go_ret
      exact ⟨by rw [E.out]; rfl, below_box _ _⟩
    · have E := Lib.hid (show mayB 10 ⟨x, n, mc, ad, xs, ys⟩ = risIn xs 1 4094 by rw [may_w (fun g => l0 (by rw [← hn1]; exact congrArg List.length (show xs = [] from g.2)))]; rfl)
      have d0 : ((n1 : Int) == 0) = false := by simpa using l0

      subst n0
      go_enter Tryz.func31, Tryz.ntmps31
      go_wp2_with (first
            | (go_at_call 50; refine (C1.out _).mono ?_; rintro e w1 ⟨rfl, rfl⟩)
            | (go_at_call 51; refine (C2.out _).mono ?_; rintro e w1 ⟨rfl, rfl⟩)
            | (go_at_call 73; refine (ris_any A1 n1 c1 xs 1 4094 _ (H1.out.alloc _)).mono ?_; rintro e w1 ⟨rfl, hd1⟩))
      go_ret
      exact ⟨by rw [E.out]; rfl, one_below hd1.below⟩
  · have E := Lib.hid (show mayB 10 ⟨x, n, mc, ad, xs, ys⟩ = risIn xs 1 4094 by rw [may_w (fun g => n0 g.1)]; rfl)
    have d0 : (n == 0) = false := by simpa using n0
    go_enter Tryz.func31, Tryz.ntmps31
    go_wp2_with (first
          | (go_at_call 50; refine (C1.out _).mono ?_; rintro e w1 ⟨rfl, rfl⟩)
          | (go_at_call 51; refine (C2.out _).mono ?_; rintro e w1 ⟨rfl, rfl⟩)
          | (go_at_call 73; refine (ris_any A1 n1 c1 xs 1 4094 _ (H1.out.alloc _)).mono ?_; rintro e w1 ⟨rfl, hd1⟩))
    go_ret
    exact ⟨by rw [E.out]; rfl, one_below hd1.below⟩
set_option maxRecDepth 20000 in
set_option maxHeartbeats 1000000 in
theorem may_11 (V : WV) (t1 t2 : SlV) (w : World) (hv : VOk V) (h : VRead w V t1 t2) : Calls Tryz.prog 31 #[.int .i64 11, valV V t1 t2] w (GotBl (mayB 11 V) w) := by
  have C1 := Lib.hid (show ∀ w, Calls Tryz.prog 50 #[.int .i64 11] w fun e w' => e = .returned (.bool true) ∧ w = w' from fun w => opt_any 11 (by decide) w)
  have C2 := Lib.hid (show ∀ w, Calls Tryz.prog 51 #[.int .i64 11] w fun e w' => e = .returned (.tuple #[.int .i64 1, .int .i64 65535]) ∧ w = w' from fun w => lim_any 11 (by decide) w)
  obtain ⟨x, n, mc, ad, xs, ys⟩ := V
  obtain ⟨A1, n1, c1⟩ := t1
  obtain ⟨A2, n2, c2⟩ := t2
  have H1 := Lib.hid h.1
  have H2 := Lib.hid h.2
  have VO := Lib.hid hv
  have hl1 := h.1.le; have hc1 := h.1.cap; have hn1 := h.1.len
  clear h hv
  dsimp only at hl1 hc1 hn1
  unfold valV
  dsimp only
  by_cases n0 : n = 0
  · by_cases l0 : n1 = 0
    · have E := Lib.hid (show mayB 11 ⟨x, n, mc, ad, xs, ys⟩ = true from may_opt rfl n0 (List.eq_nil_of_length_eq_zero (hn1.trans l0)))
      subst n0 l0
      go_enter Tryz.func31, Tryz.ntmps31
      go_wp2_with (first
      | (go_at_call 50; refine (C1.out _).mono ?_; rintro e w1 ⟨rfl, rfl⟩)
      | (go_at_call 51; refine (C2.out _).mono ?_; rintro e w1 ⟨rfl, rfl⟩))
      go_ret
      exact ⟨by rw [E.out]; rfl, below_box _ _⟩
    · have E := Lib.hid (show mayB 11 ⟨x, n, mc, ad, xs, ys⟩ = risIn xs 1 65535 by rw [may_w (fun g => l0 (by rw [← hn1]; exact congrArg List.length (show xs = [] from g.2)))]; rfl)
      have d0 : ((n1 : Int) == 0) = false := by simpa using l0

      subst n0
      go_enter Tryz.func31, Tryz.ntmps31
      go_wp2_with (first
            | (go_at_call 50; refine (C1.out _).mono ?_; rintro e w1 ⟨rfl, rfl⟩)
            | (go_at_call 51; refine (C2.out _).mono ?_; rintro e w1 ⟨rfl, rfl⟩)
            | (go_at_call 73; refine (ris_any A1 n1 c1 xs 1 65535 _ (H1.out.alloc _)).mono ?_; rintro e w1 ⟨rfl, hd1⟩))
      go_ret
      exact ⟨by rw [E.out]; rfl, one_below hd1.below⟩
  · have E := Lib.hid (show mayB 11 ⟨x, n, mc, ad, xs, ys⟩ = risIn xs 1 65535 by rw [may_w (fun g => n0 g.1)]; rfl)
    have d0 : (n == 0) = false := by simpa using n0
    go_enter Tryz.func31, Tryz.ntmps31
    go_wp2_with (first
          | (go_at_call 50; refine (C1.out _).mono ?_; rintro e w1 ⟨rfl, rfl⟩)
          | (go_at_call 51; refine (C2.out _).mono ?_; rintro e w1 ⟨rfl, rfl⟩)
          | (go_at_call 73; refine (ris_any A1 n1 c1 xs 1 65535 _ (H1.out.alloc _)).mono ?_; rintro e w1 ⟨rfl, hd1⟩))
    go_ret
    exact ⟨by rw [E.out]; rfl, one_below hd1.below⟩
set_option maxRecDepth 20000 in
set_option maxHeartbeats 1000000 in
theorem may_12 (V : WV) (t1 t2 : SlV) (w : World) (hv : VOk V) (h : VRead w V t1 t2) : Calls Tryz.prog 31 #[.int .i64 12, valV V t1 t2] w (GotBl (mayB 12 V) w) := by
  have C1 := Lib.hid (show ∀ w, Calls Tryz.prog 50 #[.int .i64 12] w fun e w' => e = .returned (.bool false) ∧ w = w' from fun w => opt_any 12 (by decide) w)
  have C2 := Lib.hid (show ∀ w, Calls Tryz.prog 51 #[.int .i64 12] w fun e w' => e = .returned (.tuple #[.int .i64 0, .int .i64 0]) ∧ w = w' from fun w => lim_any 12 (by decide) w)
  obtain ⟨x, n, mc, ad, xs, ys⟩ := V
  obtain ⟨A1, n1, c1⟩ := t1
  obtain ⟨A2, n2, c2⟩ := t2
  have H1 := Lib.hid h.1
  have H2 := Lib.hid h.2
  have VO := Lib.hid hv
  have hl1 := h.1.le; have hc1 := h.1.cap; have hn1 := h.1.len
  clear h hv
  dsimp only at hl1 hc1 hn1
  unfold valV
  dsimp only
  have E := Lib.hid (show mayB 12 ⟨x, n, mc, ad, xs, ys⟩ = risA ys by rw [may_plain rfl]; rfl)
  go_enter Tryz.func31, Tryz.ntmps31
  go_wp2_with (first
      | (go_at_call 50; refine (C1.out _).mono ?_; rintro e w1 ⟨rfl, rfl⟩)
      | (go_at_call 51; refine (C2.out _).mono ?_; rintro e w1 ⟨rfl, rfl⟩)
      | (go_at_call 74; refine (ris_any2 ⟨A2, n2, c2⟩ ys _ (H2.out.alloc _)).mono ?_; rintro e w1 ⟨rfl, rfl⟩))
  go_ret
  exact ⟨by rw [E.out]; rfl, below_box _ _⟩
theorem may_any (k : Nat) (hk : k < 13) (V : WV) (t1 t2 : SlV) (w : World) (hv : VOk V) (h : VRead w V t1 t2) : Calls Tryz.prog 31 #[.int .i64 (k : Int), valV V t1 t2] w (GotBl (mayB k V) w) := by
  match k, hk with
  | 0, _ => exact may_0 V t1 t2 w hv h
  | 1, _ => exact may_1 V t1 t2 w hv h
  | 2, _ => exact may_2 V t1 t2 w hv h
  | 3, _ => exact may_3 V t1 t2 w hv h
  | 4, _ => exact may_4 V t1 t2 w hv h
  | 5, _ => exact may_5 V t1 t2 w hv h
  | 6, _ => exact may_6 V t1 t2 w hv h
  | 7, _ => exact may_7 V t1 t2 w hv h
  | 8, _ => exact may_8 V t1 t2 w hv h
  | 9, _ => exact may_9 V t1 t2 w hv h
  | 10, _ => exact may_10 V t1 t2 w hv h
  | 11, _ => exact may_11 V t1 t2 w hv h
  | 12, _ => exact may_12 V t1 t2 w hv h
  | k + 13, h => exact absurd h (by omega)
end Go.Proofs.YtpbomfhlghljdaaGreatDoor
