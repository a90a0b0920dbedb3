/- The contracts of vxlan.Head and Vni. -/
import Derived.Test.YtgmeicenjgiihaaVxRVni
import Derived.Test.YtgmeicenjgiihaaBsl
namespace Go.Proofs.Ytgmeicenjgiihaa
open Go.RowKit
open Go.Lib (byteCells)

theorem xhead_no (v : Int) (w : World) (h : ¬ (1 ≤ v ∧ v ≤ 16777215)) : Calls Try.prog 8 #[.int .i64 v] w fun e w' => e = .returned (.tuple #[.slice none 0 0, .int .i64 17]) ∧ w = w' := by
  by_cases h0 : v < 1
  · clear h
    go_enter Try.func8, Try.ntmps8
    go_wp2
    go_ret2
    exact ⟨rfl, rfl⟩
  · have h1 : 16777215 < v := by omega
    clear h
    go_enter Try.func8, Try.ntmps8
    go_wp2
    go_ret2
    exact ⟨rfl, rfl⟩
theorem xhead_ok (v : Int) (w : World) (h0 : 1 ≤ v) (h1 : v ≤ 16777215) : Calls Try.prog 8 #[.int .i64 v] w fun e w' => ∃ x, e = .returned (.tuple #[x, .int .i64 0]) ∧ w'.ownsRow w.heap.size 5 1 x 8 (byteCells (vhd v)) ∧ Below w.heap.size w w' := by
  have O0 := Lib.hid (own_lit w w.heap.size (Nat.le_refl _) #[.int .u8 8, .int .u8 0, .int .u8 0, .int .u8 0, .int .u8 (v / 65536), .int .u8 (v / 256 % 256), .int .u8 (v % 256), .int .u8 0] (vhd v) (vhd_cells h0 h1) 8 w.heap.size rfl rfl (by decide))
  have g0 : ¬ v < 1 := by omega
  have g1 : ¬ 16777215 < v := by omega
  have g2 : 0 ≤ v := by omega
  have e1 : IntKind.u8.wrap (v / 65536) = v / 65536 := by rw [IntKind.wrap_u8]; omega
  have e2 : IntKind.u8.wrap (v / 256) = v / 256 % 256 := by rw [IntKind.wrap_u8]
  have e3 : IntKind.u8.wrap v = v % 256 := by rw [IntKind.wrap_u8]
  go_enter Try.func8, Try.ntmps8
  go_wp2
  go_ret2
  exact ⟨_, rfl, O0.out, (Below.refl _ _).alloc (Nat.le_refl _) _⟩
theorem xhead_any (v : Int) (w : World) : Calls Try.prog 8 #[.int .i64 v] w (GotHead w v) := by
  by_cases h : 1 ≤ v ∧ v ≤ 16777215
  · exact (xhead_ok v w h.1 h.2).mono fun _ _ g => .inl ⟨vhE_ok h.1 h.2, g⟩
  · exact (xhead_no v w h).mono fun _ _ ⟨he, hb⟩ => .inr ⟨vhE_no h, he, by subst hb; exact Below.refl _ _⟩

theorem or_16 (a b : Int) (h0 : 0 ≤ a) (h1 : a < 256) (h2 : 0 ≤ b) (h3 : b < 65536) : bits .or .i64 (a * 65536) b = a * 65536 + b := by
  obtain ⟨A, rfl⟩ := Int.eq_ofNat_of_zero_le h0
  obtain ⟨B, rfl⟩ := Int.eq_ofNat_of_zero_le h2
  have e := i64_or_nat (A * 65536) B (by omega) (by omega)
  have : A * 65536 ||| B = A * 65536 + B := by
    have := Nat.two_pow_add_eq_or_of_lt (i := 16) (b := B) (by omega) A
    rw [Nat.mul_comm] at this
    exact this.symm
  rw [this] at e
  rw [show (A : Int) * 65536 = ((A * 65536 : Nat) : Int) by omega, e]
  omega
theorem or_8 (a b : Int) (h0 : 0 ≤ a) (h1 : a < 65536) (h2 : 0 ≤ b) (h3 : b < 256) : bits .or .i64 (a * 256) b = a * 256 + b := by
  obtain ⟨A, rfl⟩ := Int.eq_ofNat_of_zero_le h0
  obtain ⟨B, rfl⟩ := Int.eq_ofNat_of_zero_le h2
  have e := i64_or_nat (A * 256) B (by omega) (by omega)
  have : A * 256 ||| B = A * 256 + B := by
    have := Nat.two_pow_add_eq_or_of_lt (i := 8) (b := B) (by omega) A
    rw [Nat.mul_comm] at this
    exact this.symm
  rw [this] at e
  rw [show (A : Int) * 256 = ((A * 256 : Nat) : Int) by omega, e]
  omega

theorem xvni_short (A : Option Addr) (n c : Nat) (w : World) (h8 : n < 8) : Calls Try.prog 10 #[.slice A n c] w (GotV w 0 [] 10) := by
  go_enter Try.func10, Try.ntmps10
  go_wp2
  exact bodyPost_ret (v := .tuple #[.int .i64 0, .slice none 0 0, .int .i64 10]) (by simp [results, Try.results10, go_sem]) rfl ⟨none, 0, 0, rfl, BSl.nil, Below.refl _ _⟩

set_option maxRecDepth 20000 in
set_option maxHeartbeats 1000000 in
theorem xvni_zero (A : Option Addr) (n c : Nat) (l : List UInt8) (w : World) (h : BSl w A n c l) (h8 : 8 ≤ n) (hv : three l = 0) : Calls Try.prog 10 #[.slice A n c] w (GotV w 0 [] 11) := by
  obtain ⟨b, off, rfl, hb, hc⟩ := h.at_ (by omega)
  have c4 := hc 4 (by omega)
  have c5 := hc 5 (by omega)
  have c6 := hc 6 (by omega)
  have x0 := bat_lo l 4; have x1 := bat_hi l 4; have y0 := bat_lo l 5; have y1 := bat_hi l 5; have z0 := bat_lo l 6; have z1 := bat_hi l 6
  have hx : bat l 4 = 0 := by unfold three at hv; omega
  have hy : bat l 5 = 0 := by unfold three at hv; omega
  have hz : bat l 6 = 0 := by unfold three at hv; omega
  rw [hx] at c4
  rw [hy] at c5
  rw [hz] at c6
  clear hv hx hy hz x0 x1 y0 y1 z0 z1 hc h
  have HH := Lib.hid (fun w => xhead_no 0 w (by omega))
  have j1 : (4 : Int) < (n : Int) := by omega
  have j2 : (5 : Int) < (n : Int) := by omega
  have j3 : (6 : Int) < (n : Int) := by omega
  have d1 : bits .or .i64 0 0 = 0 := by decide
  go_enter Try.func10, Try.ntmps10
  go_wp2
  go_quiet (fail)
  have BQ := Lib.hid (show Below w.heap.size w (w.drewN nq) from below_drewN (Below.refl _ _) nq)
  generalize w.drewN nq = wq at *
  go_wp2_with (go_at_call 8; (with_reducible refine (HH.out _).mono ?_); rintro e w3 ⟨rfl, rfl⟩)
  exact bodyPost_ret (v := .tuple #[.int .i64 0, .slice none 0 0, .int .i64 11]) (by simp [results, Try.results10, go_sem]) rfl ⟨none, 0, 0, rfl, BSl.nil, BQ.out⟩

set_option maxRecDepth 20000 in
set_option maxHeartbeats 1000000 in
theorem xvni_form (A : Option Addr) (n c : Nat) (l : List UInt8) (w : World) (h : BSl w A n c l) (h8 : 8 ≤ n) (hv : ¬ three l = 0) (hq : ¬ l.take 8 = vhd (three l)) : Calls Try.prog 10 #[.slice A n c] w (GotV w 0 [] 11) := by
  have hle := h.le
  have hV := three_bd l
  obtain ⟨b, off, rfl, hb, hc⟩ := h.at_ (by omega)
  have HS := Lib.hid h
  have c4 := hc 4 (by omega)
  have c5 := hc 5 (by omega)
  have c6 := hc 6 (by omega)
  have x0 := bat_lo l 4; have x1 := bat_hi l 4; have y0 := bat_lo l 5; have y1 := bat_hi l 5; have z0 := bat_lo l 6; have z1 := bat_hi l 6
  have T : three l = bat l 4 * 65536 + bat l 5 * 256 + bat l 6 := rfl
  have hne := Lib.hid (show (vhd (three l) == l.take 8) = false by simpa using fun e => hq e.symm)
  generalize three l = V at *
  generalize bat l 4 = x at *
  generalize bat l 5 = y at *
  generalize bat l 6 = z at *
  have HH := Lib.hid (fun w => xhead_ok V w (by omega) (by omega))
  have T1 : x * 65536 + (y * 256 + z) = V := by omega
  have o1 := or_16 x (y * 256) (by omega) (by omega) (by omega) (by omega)
  have o2 : bits .or .i64 (x * 65536 + y * 256) z = V := by have := or_8 (x * 256 + y) z (by omega) (by omega) (by omega) (by omega); rw [show x * 65536 + y * 256 = (x * 256 + y) * 256 by omega, this]; omega
  clear hc h hq hv hV T T1
  have j1 : (4 : Int) < (n : Int) := by omega
  have j2 : (5 : Int) < (n : Int) := by omega
  have j3 : (6 : Int) < (n : Int) := by omega
  have m1 : (8 : Int) ≤ (c : Int) := by omega
  have m2 : 8 ≤ c := by omega
  have m3 : ¬ c = 0 := by omega
  have d1 : IntKind.i64.wrap x = x := IntWalk.i64_in _ (by omega)
  have d2 : IntKind.i64.wrap (x * 65536) = x * 65536 := IntWalk.i64_in _ (by omega)
  have d3 : IntKind.i64.wrap y = y := IntWalk.i64_in _ (by omega)
  have d4 : IntKind.i64.wrap (y * 256) = y * 256 := IntWalk.i64_in _ (by omega)
  have d5 : IntKind.i64.wrap z = z := IntWalk.i64_in _ (by omega)
  go_enter Try.func10, Try.ntmps10
  go_wp2
  go_quiet (fail)
  have BQ := Lib.hid (show Below w.heap.size w (w.drewN nq) from below_drewN (Below.refl _ _) nq)
  have SQ := Lib.hid (HS.out.drewN nq)
  generalize w.drewN nq = wq at *
  go_wp2_with (first
    | (go_at_call 8; (with_reducible refine (HH.out _).mono ?_); rintro e w3 ⟨v3, rfl, hown3, hb3⟩; obtain ⟨A3, c3, rfl⟩ := own_shape hown3; have B3 := Lib.hid (trans_below BQ.out hb3); have X3 := Lib.hid (BSl.of_own hown3); have S3 := Lib.hid ((SQ.out.below hb3).head 8 (by omega)); clear hown3 hb3)
    | (go_at_call 19; (with_reducible refine (equal_any _ _ _ _ _ _ _ _ _ X3.out S3.out).mono ?_); rintro e w4 ⟨rfl, rfl⟩; rw [hne.out]))
  exact bodyPost_ret (v := .tuple #[.int .i64 0, .slice none 0 0, .int .i64 11]) (by simp [results, Try.results10, go_sem]) rfl ⟨none, 0, 0, rfl, BSl.nil, B3.out⟩

set_option maxRecDepth 20000 in
set_option maxHeartbeats 1000000 in
theorem xvni_ok (A : Option Addr) (n c : Nat) (l : List UInt8) (w : World) (h : BSl w A n c l) (hn : n ≤ 1000000) (h8 : 8 ≤ n) (hv : ¬ three l = 0) (hq : l.take 8 = vhd (three l)) :
    Calls Try.prog 10 #[.slice A n c] w fun e w' => ∃ A' c', e = .returned (.tuple #[.int .i64 (three l), .slice A' (n - 8) c', .int .i64 0]) ∧ w'.ownsRow w.heap.size 5 1 (.slice A' (n - 8) c') (n - 8) (byteCells (l.drop 8)) ∧ Below w.heap.size w w' := by
  have hle := h.le
  have hV := three_bd l
  obtain ⟨b, off, rfl, hb, hc⟩ := h.at_ (by omega)
  have HS := Lib.hid h
  have c4 := hc 4 (by omega)
  have c5 := hc 5 (by omega)
  have c6 := hc 6 (by omega)
  have x0 := bat_lo l 4; have x1 := bat_hi l 4; have y0 := bat_lo l 5; have y1 := bat_hi l 5; have z0 := bat_lo l 6; have z1 := bat_hi l 6
  have T : three l = bat l 4 * 65536 + bat l 5 * 256 + bat l 6 := rfl
  have hne := Lib.hid (show (vhd (three l) == l.take 8) = true by simpa using hq.symm)
  generalize three l = V at *
  generalize bat l 4 = x at *
  generalize bat l 5 = y at *
  generalize bat l 6 = z at *
  have HH := Lib.hid (fun w => xhead_ok V w (by omega) (by omega))
  have o1 := or_16 x (y * 256) (by omega) (by omega) (by omega) (by omega)
  have o2 : bits .or .i64 (x * 65536 + y * 256) z = V := by have := or_8 (x * 256 + y) z (by omega) (by omega) (by omega) (by omega); rw [show x * 65536 + y * 256 = (x * 256 + y) * 256 by omega, this]; omega
  clear hc h hq hv hV T
  have j1 : (4 : Int) < (n : Int) := by omega
  have j2 : (5 : Int) < (n : Int) := by omega
  have j3 : (6 : Int) < (n : Int) := by omega
  have m1 : (8 : Int) ≤ (c : Int) := by omega
  have m2 : 8 ≤ c := by omega
  have m3 : ¬ c = 0 := by omega
  have m4 : (8 : Int) ≤ (n : Int) := by omega
  have d1 : IntKind.i64.wrap x = x := IntWalk.i64_in _ (by omega)
  have d2 : IntKind.i64.wrap (x * 65536) = x * 65536 := IntWalk.i64_in _ (by omega)
  have d3 : IntKind.i64.wrap y = y := IntWalk.i64_in _ (by omega)
  have d4 : IntKind.i64.wrap (y * 256) = y * 256 := IntWalk.i64_in _ (by omega)
  have d5 : IntKind.i64.wrap z = z := IntWalk.i64_in _ (by omega)
  go_enter Try.func10, Try.ntmps10
  go_wp2
  go_quiet (fail)
  have BQ := Lib.hid (show Below w.heap.size w (w.drewN nq) from below_drewN (Below.refl _ _) nq)
  have SQ := Lib.hid (HS.out.drewN nq)
  have SZ : (w.drewN nq).heap.size = w.heap.size := rfl
  generalize w.drewN nq = wq at *
  have hwq := BQ.out.size
  go_wp2_with (first
    | (go_at_call 8; (with_reducible refine (HH.out _).mono ?_); rintro e w3 ⟨v3, rfl, hown3, hb3⟩; obtain ⟨A3, c3, rfl⟩ := own_shape hown3; have B3 := Lib.hid (trans_below BQ.out hb3); have X3 := Lib.hid (BSl.of_own hown3); have S3 := Lib.hid ((SQ.out.below hb3).head 8 (by omega)); have S4 := Lib.hid (SQ.out.below hb3); clear hown3 hb3)
    | (go_at_call 19; (with_reducible refine (equal_any _ _ _ _ _ _ _ _ _ X3.out S3.out).mono ?_); rintro e w4 ⟨rfl, rfl⟩; rw [hne.out])
    | (go_at_call 20; (with_reducible refine (clone_any _ (n - 8) (c - 8) (l.drop 8) _ (S4.out.cut (k := 8) (by omega)) (by omega)).mono ?_); rintro e w5 ⟨v5, rfl, hown5, hb5⟩; obtain ⟨A5, c5', rfl⟩ := own_shape hown5; have B5 := Lib.hid (trans_below B3.out hb5); have O5 := Lib.hid (own_base hown5 B3.out.size); clear hown5 hb5)
    | (go_at_call 20; (with_reducible refine (clone_any _ (n - 8) 0 (l.drop 8) _ (S4.out.cut_end (k := 8) (by omega) (by omega)) (by omega)).mono ?_); rintro e w5 ⟨v5, rfl, hown5, hb5⟩; obtain ⟨A5, c5', rfl⟩ := own_shape hown5; have B5 := Lib.hid (trans_below B3.out hb5); have O5 := Lib.hid (own_base hown5 B3.out.size); clear hown5 hb5))
  all_goals
    exact bodyPost_ret (v := .tuple #[.int .i64 V, .slice A5 (n - 8) c5', .int .i64 0]) (by simp [results, Try.results10, go_sem]) rfl ⟨A5, c5', rfl, O5.out, B5.out⟩

theorem xvni_any (A : Option Addr) (n c : Nat) (l : List UInt8) (w : World) (h : BSl w A n c l) (hn : n ≤ 1000000) : Calls Try.prog 10 #[.slice A n c] w (GotVni w l) := by
  have hl := h.len
  unfold GotVni
  by_cases h8 : n < 8
  · rw [vnE_short (l := l) (by omega)]
    exact xvni_short A n c w h8
  · by_cases hv : three l = 0
    · have hY : ¬ vnY l := fun g => g.2.2.2.2.2 hv
      rw [vnE_form (l := l) (by omega) hY]
      exact xvni_zero A n c l w h (by omega) hv
    · by_cases hq : l.take 8 = vhd (three l)
      · obtain ⟨q0, q1, q2, q3, q7⟩ := (vhd_take l (by omega)).1 hq
        rw [vnE_ok (l := l) (by omega) ⟨q0, q1, q2, q3, q7, hv⟩]
        exact (xvni_ok A n c l w h hn (by omega) hv hq).mono fun _ _ ⟨A', c', he, ho, hb⟩ => ⟨A', n - 8, c', he, BSl.of_own ho, hb⟩
      · have hY : ¬ vnY l := fun g => hq ((vhd_take l (by omega)).2 ⟨g.1, g.2.1, g.2.2.1, g.2.2.2.1, g.2.2.2.2.1⟩)
        rw [vnE_form (l := l) (by omega) hY]
        exact xvni_form A n c l w h (by omega) hv hq
end Go.Proofs.Ytgmeicenjgiihaa
