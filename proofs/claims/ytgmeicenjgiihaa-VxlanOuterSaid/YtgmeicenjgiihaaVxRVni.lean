/- The contracts of palingref09.Head and Vni. The contract of palingref09.Vni, whole. -/
import Derived.Test.YtgmeicenjgiihaaVxMath
import Derived.Test.YtgmeicenjgiihaaBsl
import Derived.Deep.QuietTactic
namespace Go.Proofs.Ytgmeicenjgiihaa
open Go.RowKit
open Go.Lib (byteCells)

/-- what Head comes to -/
def GotHead (w : World) (v : Int) (e : Ending) (w' : World) : Prop :=
  (vhE v = 0 ∧ ∃ x, e = .returned (.tuple #[x, .int .i64 0]) ∧ w'.ownsRow w.heap.size 5 1 x 8 (byteCells (vhd v)) ∧ Below w.heap.size w w') ∨ (vhE v = 17 ∧ e = .returned (.tuple #[.slice none 0 0, .int .i64 17]) ∧ Below w.heap.size w w')
theorem vhd_cells {v : Int} (h0 : 1 ≤ v) (h1 : v ≤ 16777215) : [Value.int .u8 8, .int .u8 0, .int .u8 0, .int .u8 0, .int .u8 (v / 65536), .int .u8 (v / 256 % 256), .int .u8 (v % 256), .int .u8 0] = byteCells (vhd v) := by
  show _ = [Value.int .u8 8, .int .u8 0, .int .u8 0, .int .u8 0, .int .u8 ((u8 (v / 65536)).toNat : Int), .int .u8 ((u8 (v / 256 % 256)).toNat : Int), .int .u8 ((u8 (v % 256)).toNat : Int), .int .u8 0]
  rw [u8_val _ (by omega) (by omega), u8_val _ (by omega) (by omega), u8_val _ (by omega) (by omega)]
theorem rhead_no (v : Int) (w : World) (h : ¬ (1 ≤ v ∧ v ≤ 16777215)) : Calls Try.prog 9 #[.int .i64 v] w fun e w' => e = .returned (.tuple #[.slice none 0 0, .int .i64 17]) ∧ w = w' := by
  by_cases h0 : v < 1
  · clear h
    go_enter Try.func9, Try.ntmps9
    go_wp2
    go_ret2
    exact ⟨rfl, rfl⟩
  · have h1 : 16777216 ≤ v := by omega
    clear h
    go_enter Try.func9, Try.ntmps9
    go_wp2
    go_ret2
    exact ⟨rfl, rfl⟩
theorem rhead_ok (v : Int) (w : World) (h0 : 1 ≤ v) (h1 : v ≤ 16777215) : Calls Try.prog 9 #[.int .i64 v] w fun e w' => ∃ x, e = .returned (.tuple #[x, .int .i64 0]) ∧ w'.ownsRow w.heap.size 5 1 x 8 (byteCells (vhd v)) ∧ Below w.heap.size w w' := by
  have O0 := Lib.hid (own_lit w w.heap.size (Nat.le_refl _) #[.int .u8 8, .int .u8 0, .int .u8 0, .int .u8 0, .int .u8 (v / 65536), .int .u8 (v / 256 % 256), .int .u8 (v % 256), .int .u8 0] (vhd v) (vhd_cells h0 h1) 8 w.heap.size rfl rfl (by decide))
  have g0 : ¬ v < 1 := by omega
  have g1 : ¬ 16777216 ≤ v := by omega
  have g2 : 0 ≤ v := by omega
  have q1 : v.tdiv 65536 = v / 65536 := Int.tdiv_eq_ediv_of_nonneg g2
  have q2 : v.tdiv 256 = v / 256 := Int.tdiv_eq_ediv_of_nonneg g2
  have q3 : (v / 256).tmod 256 = v / 256 % 256 := Int.tmod_eq_emod_of_nonneg (by omega)
  have q4 : v.tmod 256 = v % 256 := Int.tmod_eq_emod_of_nonneg g2
  have e1 : IntKind.u8.wrap (v / 65536) = v / 65536 := by rw [IntKind.wrap_u8]; omega
  have e2 : IntKind.u8.wrap (v / 256 % 256) = v / 256 % 256 := by rw [IntKind.wrap_u8]; omega
  have e3 : IntKind.u8.wrap (v % 256) = v % 256 := by rw [IntKind.wrap_u8]; omega
  go_enter Try.func9, Try.ntmps9
  go_wp2
  go_ret2
  exact ⟨_, rfl, O0.out, (Below.refl _ _).alloc (Nat.le_refl _) _⟩
theorem rhead_any (v : Int) (w : World) : Calls Try.prog 9 #[.int .i64 v] w (GotHead w v) := by
  by_cases h : 1 ≤ v ∧ v ≤ 16777215
  · exact (rhead_ok v w h.1 h.2).mono fun _ _ g => .inl ⟨vhE_ok h.1 h.2, g⟩
  · exact (rhead_no v w h).mono fun _ _ ⟨he, hb⟩ => .inr ⟨vhE_no h, he, by subst hb; exact Below.refl _ _⟩

/-- a VNI, bytes and a number, as a call returns them -/
def GotV (w : World) (v : Int) (l : List UInt8) (E : Int) (e : Ending) (w' : World) : Prop := ∃ A n c, e = .returned (.tuple #[.int .i64 v, .slice A n c, .int .i64 E]) ∧ BSl w' A n c l ∧ Below w.heap.size w w'
/-- what Vni comes to -/
def GotVni (w : World) (l : List UInt8) : Ending → World → Prop := GotV w (oi (vnE l) (three l)) (ol (vnE l) (l.drop 8)) (vnE l)
set_option maxRecDepth 20000 in
set_option maxHeartbeats 1000000 in
theorem rvni_no (A : Option Addr) (n c : Nat) (l : List UInt8) (w : World) (h : BSl w A n c l) (hE : ¬ vnE l = 0) :
    Calls Try.prog 11 #[.slice A n c] w (GotV w 0 [] (vnE l)) := by
  have hl := h.len
  by_cases h8 : n < 8
  · have E := Lib.hid (vnE_short (l := l) (by omega))
    clear h hE
    generalize vnE l = e at *
    go_enter Try.func11, Try.ntmps11
    go_wp2
    exact bodyPost_ret (v := .tuple #[.int .i64 0, .slice none 0 0, .int .i64 10]) (by simp [results, Try.results11, go_sem]) rfl ⟨none, 0, 0, by rw [E.out], BSl.nil, Below.refl _ _⟩
  · obtain ⟨b, off, rfl, hb, hc⟩ := h.at_ (by omega)
    have hv : ¬ vnY l := fun g => hE (vnE_ok (by omega) g)
    have E := Lib.hid (vnE_form (l := l) (by omega) hv)
    have c0 : w.cell? ⟨b, off, none⟩ = some (.int .u8 (bat l 0)) := hc 0 (by omega)
    have c1 := hc 1 (by omega)
    have c2 := hc 2 (by omega)
    have c3 := hc 3 (by omega)
    have c4 := hc 4 (by omega)
    have c5 := hc 5 (by omega)
    have c6 := hc 6 (by omega)
    have c7 := hc 7 (by omega)
    have x0 := bat_lo l 4; have x1 := bat_hi l 4; have y0 := bat_lo l 5; have y1 := bat_hi l 5; have z0 := bat_lo l 6; have z1 := bat_hi l 6
    have T : three l = bat l 4 * 65536 + bat l 5 * 256 + bat l 6 := rfl
    unfold vnY at hv
    rw [T] at hv
    generalize vnE l = u at *
    generalize bat l 0 = p0 at *
    generalize bat l 1 = p1 at *
    generalize bat l 2 = p2 at *
    generalize bat l 3 = p3 at *
    generalize bat l 4 = x at *
    generalize bat l 5 = y at *
    generalize bat l 6 = z at *
    generalize bat l 7 = p7 at *
    have j1 : (4 : Int) < (n : Int) := by omega
    have j2 : (5 : Int) < (n : Int) := by omega
    have j3 : (6 : Int) < (n : Int) := by omega
    have j4 : (7 : Int) < (n : Int) := by omega
    have j5 : (3 : Int) < (n : Int) := by omega
    have j6 : (2 : Int) < (n : Int) := by omega
    have j7 : (1 : Int) < (n : Int) := by omega
    have d1 : IntKind.i64.wrap x = x := IntWalk.i64_in _ (by omega)
    have d2 : IntKind.i64.wrap (x * 65536) = x * 65536 := IntWalk.i64_in _ (by omega)
    have d3 : IntKind.i64.wrap y = y := IntWalk.i64_in _ (by omega)
    have d4 : IntKind.i64.wrap (y * 256) = y * 256 := IntWalk.i64_in _ (by omega)
    have d5 : IntKind.i64.wrap z = z := IntWalk.i64_in _ (by omega)
    have d6 : IntKind.i64.wrap (x * 65536 + y * 256) = x * 65536 + y * 256 := IntWalk.i64_in _ (by omega)
    have d7 : IntKind.i64.wrap (x * 65536 + y * 256 + z) = x * 65536 + y * 256 + z := IntWalk.i64_in _ (by omega)
    clear h hc T hE hl
    by_cases h0 : p0 = 8
    · subst h0
      by_cases h1 : p1 = 0
      · subst h1
        by_cases h2 : p2 = 0
        · subst h2
          by_cases h3 : p3 = 0
          · subst h3
            by_cases h7 : p7 = 0
            · subst h7
              have h9 : x * 65536 + y * 256 + z = 0 := by
                by_cases g : x * 65536 + y * 256 + z = 0
                · exact g
                · exact absurd ⟨rfl, rfl, rfl, rfl, rfl, g⟩ hv
              clear hv
              go_enter Try.func11, Try.ntmps11
              go_wp2
              go_quiet (fail)
              go_wp2
              exact bodyPost_ret (v := .tuple #[.int .i64 0, .slice none 0 0, .int .i64 11]) (by simp [results, Try.results11, go_sem]) rfl ⟨none, 0, 0, by rw [E.out], BSl.nil, below_drewN (Below.refl _ _) _⟩
            · clear hv
              go_enter Try.func11, Try.ntmps11
              go_wp2
              go_quiet (fail)
              go_wp2
              exact bodyPost_ret (v := .tuple #[.int .i64 0, .slice none 0 0, .int .i64 11]) (by simp [results, Try.results11, go_sem]) rfl ⟨none, 0, 0, by rw [E.out], BSl.nil, below_drewN (Below.refl _ _) _⟩
          · clear hv
            go_enter Try.func11, Try.ntmps11
            go_wp2
            go_quiet (fail)
            go_wp2
            exact bodyPost_ret (v := .tuple #[.int .i64 0, .slice none 0 0, .int .i64 11]) (by simp [results, Try.results11, go_sem]) rfl ⟨none, 0, 0, by rw [E.out], BSl.nil, below_drewN (Below.refl _ _) _⟩
        · clear hv
          go_enter Try.func11, Try.ntmps11
          go_wp2
          go_quiet (fail)
          go_wp2
          exact bodyPost_ret (v := .tuple #[.int .i64 0, .slice none 0 0, .int .i64 11]) (by simp [results, Try.results11, go_sem]) rfl ⟨none, 0, 0, by rw [E.out], BSl.nil, below_drewN (Below.refl _ _) _⟩
      · clear hv
        go_enter Try.func11, Try.ntmps11
        go_wp2
        go_quiet (fail)
        go_wp2
        exact bodyPost_ret (v := .tuple #[.int .i64 0, .slice none 0 0, .int .i64 11]) (by simp [results, Try.results11, go_sem]) rfl ⟨none, 0, 0, by rw [E.out], BSl.nil, below_drewN (Below.refl _ _) _⟩
    · clear hv
      go_enter Try.func11, Try.ntmps11
      go_wp2
      go_quiet (fail)
      go_wp2
      exact bodyPost_ret (v := .tuple #[.int .i64 0, .slice none 0 0, .int .i64 11]) (by simp [results, Try.results11, go_sem]) rfl ⟨none, 0, 0, by rw [E.out], BSl.nil, below_drewN (Below.refl _ _) _⟩
end Go.Proofs.Ytgmeicenjgiihaa

namespace Go.Proofs.Ytgmeicenjgiihaa
open Go.RowKit
open Go.Lib (byteCells)

set_option maxRecDepth 20000 in
set_option maxHeartbeats 1000000 in
theorem rvni_ok (A : Option Addr) (n c : Nat) (l : List UInt8) (w : World) (h : BSl w A n c l) (hn : n ≤ 1000000) (hE : vnE l = 0) :
    Calls Try.prog 11 #[.slice A n c] w (GotV w (three l) (l.drop 8) 0) := by
  obtain ⟨i0, hi, hz0, hz1, hz2⟩ := info_parts Try.info5
  have Hi := Lib.hid hi; have Hz0 := Lib.hid hz0; have Hz1 := Lib.hid hz1; have Hz2 := Lib.hid hz2
  clear hi hz0 hz1 hz2
  have hl := h.len
  have hle := h.le
  obtain ⟨h8, v0, v1, v2, v3, v7, vz⟩ := vnE_zero hE
  rw [hl] at h8
  obtain ⟨b, off, rfl, hb, hc⟩ := h.at_ (by omega)
  have HS := Lib.hid h
  have c0 : w.cell? ⟨b, off, none⟩ = some (.int .u8 (bat l 0)) := hc 0 (by omega)
  have c1 := hc 1 (by omega)
  have c2 := hc 2 (by omega)
  have c3 := hc 3 (by omega)
  have c4 := hc 4 (by omega)
  have c5 := hc 5 (by omega)
  have c6 := hc 6 (by omega)
  have c7 := hc 7 (by omega)
  rw [v0] at c0
  rw [v1] at c1
  rw [v2] at c2
  rw [v3] at c3
  rw [v7] at c7
  have x0 := bat_lo l 4; have x1 := bat_hi l 4; have y0 := bat_lo l 5; have y1 := bat_hi l 5; have z0 := bat_lo l 6; have z1 := bat_hi l 6
  have T := Lib.hid (show three l = bat l 4 * 65536 + bat l 5 * 256 + bat l 6 from rfl)
  rw [T.out] at vz
  generalize three l = V at *
  generalize bat l 4 = x at *
  generalize bat l 5 = y at *
  generalize bat l 6 = z at *
  have j1 : (4 : Int) < (n : Int) := by omega
  have j2 : (5 : Int) < (n : Int) := by omega
  have j3 : (6 : Int) < (n : Int) := by omega
  have j4 : (7 : Int) < (n : Int) := by omega
  have j5 : (3 : Int) < (n : Int) := by omega
  have j6 : (2 : Int) < (n : Int) := by omega
  have j7 : (1 : Int) < (n : Int) := by omega
  have d1 : IntKind.i64.wrap x = x := IntWalk.i64_in _ (by omega)
  have d2 : IntKind.i64.wrap (x * 65536) = x * 65536 := IntWalk.i64_in _ (by omega)
  have d3 : IntKind.i64.wrap y = y := IntWalk.i64_in _ (by omega)
  have d4 : IntKind.i64.wrap (y * 256) = y * 256 := IntWalk.i64_in _ (by omega)
  have d5 : IntKind.i64.wrap z = z := IntWalk.i64_in _ (by omega)
  have d6 : IntKind.i64.wrap (x * 65536 + y * 256) = x * 65536 + y * 256 := IntWalk.i64_in _ (by omega)
  have d7 : IntKind.i64.wrap (x * 65536 + y * 256 + z) = x * 65536 + y * 256 + z := IntWalk.i64_in _ (by omega)
  have hni : (n : Int) ≤ 1000000 := by omega
  clear h hc hE hl v0 v1 v2 v3 v7
  by_cases hend : c ≤ 8
  · obtain rfl : c = 8 := by omega
    obtain rfl : n = 8 := by omega
    have E0 := Lib.hid (show BSl w (some ⟨b, off, none⟩) 0 0 (l.drop 8) from HS.out.cut_end (k := 8) (by omega) (by omega))
    go_enter Try.func11, Try.ntmps11
    go_wp2
    go_quiet (fail)
    have BQ := Lib.hid (show Below w.heap.size w (w.drewN nq) from below_drewN (Below.refl _ _) nq)
    have S0 := Lib.hid (E0.out.drewN nq)
    have q0 := (BQ.out.cell (p := ⟨b, off, none⟩) hb).trans c0
    have q1 := (BQ.out.cell (p := ⟨b, off + 1, none⟩) hb).trans c1
    have q2 := (BQ.out.cell (p := ⟨b, off + 2, none⟩) hb).trans c2
    have q3 := (BQ.out.cell (p := ⟨b, off + 3, none⟩) hb).trans c3
    have q7 := (BQ.out.cell (p := ⟨b, off + 7, none⟩) hb).trans c7
    generalize w.drewN nq = wq at *
    have O0 := Lib.hid (own_new wq wq.heap.size (Nat.le_refl _))
    have R0 := Lib.hid ((Below.refl wq.heap.size wq).alloc (Nat.le_refl _) (.cells #[] 5))
    go_wp2_with (at_builtin; refine wpList_bapp rfl (.tmp 58) (.tmp 60) 22 rfl wq.heap.size 5 i0 (.int .u8 0) 1 Try.underlying22 Hi.out Hz0.out Hz1.out Hz2.out rfl _ _ _ (by rfl) O0.out (some ⟨b, off, none⟩) 0 0 (l.drop 8) (by rfl) (S0.out.alloc _) (by unfold maxLen; omega) (by omega) (by simp) ?_; intro v1 w1 hown1 hgrow1; have hb1 := below_app R0.out O0.out hgrow1; simp only [Nat.zero_add, List.nil_append] at hown1; obtain ⟨A1, c1, rfl⟩ := own_shape hown1; have O1 := Lib.hid hown1; clear hown1 hgrow1)
    exact bodyPost_ret (v := .tuple #[.int .i64 (x * 65536 + y * 256 + z), .slice A1 0 c1, .int .i64 0]) (by simp [results, Try.results11, go_sem]) rfl ⟨A1, 0, c1, by rw [T.out], BSl.of_own O1.out, trans_below BQ.out hb1⟩
  · have hne : ¬ c = 8 := by omega
    have m5 : (8 : Int) ≤ (c : Int) := by omega
    have m6 : 8 ≤ c := by omega
    have m7 : (8 : Int) ≤ (n : Int) := by omega
    have m8 : 8 ≤ n := by omega
    go_enter Try.func11, Try.ntmps11
    go_wp2
    go_quiet (fail)
    have BQ := Lib.hid (show Below w.heap.size w (w.drewN nq) from below_drewN (Below.refl _ _) nq)
    have S0 := Lib.hid ((HS.out.drewN nq).cut (k := 8) (by omega))
    have q0 := (BQ.out.cell (p := ⟨b, off, none⟩) hb).trans c0
    have q1 := (BQ.out.cell (p := ⟨b, off + 1, none⟩) hb).trans c1
    have q2 := (BQ.out.cell (p := ⟨b, off + 2, none⟩) hb).trans c2
    have q3 := (BQ.out.cell (p := ⟨b, off + 3, none⟩) hb).trans c3
    have q7 := (BQ.out.cell (p := ⟨b, off + 7, none⟩) hb).trans c7
    generalize w.drewN nq = wq at *
    have O0 := Lib.hid (own_new wq wq.heap.size (Nat.le_refl _))
    have R0 := Lib.hid ((Below.refl wq.heap.size wq).alloc (Nat.le_refl _) (.cells #[] 5))
    go_wp2_with (at_builtin; refine wpList_bapp rfl (.tmp 58) (.tmp 60) 22 rfl wq.heap.size 5 i0 (.int .u8 0) 1 Try.underlying22 Hi.out Hz0.out Hz1.out Hz2.out rfl _ _ _ (by rfl) O0.out (some ⟨b, off + 8, none⟩) (n - 8) (c - 8) (l.drop 8) (by rfl) (S0.out.alloc _) (by unfold maxLen; omega) (by omega) (by simp) ?_; intro v1 w1 hown1 hgrow1; have hb1 := below_app R0.out O0.out hgrow1; simp only [Nat.zero_add, List.nil_append] at hown1; obtain ⟨A1, c1, rfl⟩ := own_shape hown1; have O1 := Lib.hid hown1; clear hown1 hgrow1)
    exact bodyPost_ret (v := .tuple #[.int .i64 (x * 65536 + y * 256 + z), .slice A1 (n - 8) c1, .int .i64 0]) (by simp [results, Try.results11, go_sem]) rfl ⟨A1, n - 8, c1, by rw [T.out], BSl.of_own O1.out, trans_below BQ.out hb1⟩
theorem rvni_any (A : Option Addr) (n c : Nat) (l : List UInt8) (w : World) (h : BSl w A n c l) (hn : n ≤ 1000000) : Calls Try.prog 11 #[.slice A n c] w (GotVni w l) := by
  unfold GotVni
  by_cases hE : vnE l = 0
  · rw [hE]
    exact rvni_ok A n c l w h hn hE
  · rw [oi_no hE, ol_no hE]
    exact rvni_no A n c l w h hE
end Go.Proofs.Ytgmeicenjgiihaa
