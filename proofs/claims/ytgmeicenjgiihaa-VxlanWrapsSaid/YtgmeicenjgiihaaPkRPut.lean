/- The contract of palingref07.Put. -/
import Derived.Test.YtgmeicenjgiihaaPkRb
import Derived.Test.YtgmeicenjgiihaaPkBox
import Derived.Test.YtgmeicenjgiihaaRefSum
import Derived.Deep.RegionHeldLaw
namespace Go.Proofs.Ytgmeicenjgiihaa
open Go.RowKit
open Go.Lib (byteCells)

/-- a header's bytes ahead of its sum, and behind it -/
def ahd (T I L R : Int) (n : Nat) : List UInt8 := [69, u8 T] ++ wb 2 (20 + n) ++ wb 2 I ++ [0, 0, u8 L, u8 R]
def bhd (S D : Int) : List UInt8 := wb 4 S ++ wb 4 D
theorem ahd_len (T I L R : Int) (n : Nat) : (ahd T I L R n).length = 10 := by simp [ahd, wb_len]
theorem bhd_len (S D : Int) : (bhd S D).length = 8 := by simp [bhd, wb_len]
theorem u8_mod (x : Int) (h0 : 0 ≤ x) (h1 : x ≤ 255) : u8 (x % 256) = u8 x := by rw [Int.emod_eq_of_lt h0 (by omega)]
theorem hd_parts (T I L R S D : Int) (n : Nat) (s : Int) (h : pok T I L R) : hd T I L R S D n s = ahd T I L R n ++ wb 2 s ++ bhd S D := by
  obtain ⟨⟨t0, t1⟩, ⟨l0, l1⟩, ⟨r0, r1⟩, _⟩ := h
  have e1 : wb 1 T = [u8 T] := by simp [wb, u8_mod T t0 t1]
  have e2 : wb 1 L = [u8 L] := by simp [wb, u8_mod L l0 l1]
  have e3 : wb 1 R = [u8 R] := by simp [wb, u8_mod R r0 r1]
  have e4 : wb 1 69 = [69] := by decide
  have e5 : wb 2 0 = [0, 0] := by decide
  unfold hd ahd bhd
  rw [e1, e2, e3, e4, e5]
  simp
theorem of_parts {T I L R S D : Int} {n : Nat} (h : pok T I L R) (hS : 0 ≤ S ∧ S < 4294967296) (hD : 0 ≤ D ∧ D < 4294967296) (hn : n ≤ 1480) : 65535 - sumF 0 (ahd T I L R n ++ bhd S D) = ck T I L R S D n := by
  have h0 := pS_hd T I L R S D n 0 h hS hD hn ⟨by decide, by decide⟩
  have e5 : wb 2 0 = [0, 0] := by decide
  rw [hd_parts T I L R S D n 0 h, e5, List.append_assoc, pS_app _ _ (by rw [ahd_len]), pS_app [0, 0] _ rfl] at h0
  have z : pS [0, 0] = 0 := by decide
  rw [sumF_nm _ 0 (by decide) (by decide), Int.zero_add, pS_app _ _ (by rw [ahd_len])]
  rw [z] at h0
  unfold ck
  generalize hsum T I L R S D n = Y at *
  generalize pS (ahd T I L R n) = x at *
  generalize pS (bhd S D) = y at *
  rw [show x + y = Y by omega]

set_option maxHeartbeats 1000000 in
theorem rput_form (T I L R S D : Int) (A : Option Addr) (n c : Nat) (w : World) (h : ¬ pok T I L R) :
    Calls Try.prog 30 #[.agg #[.int .i64 T, .int .i64 I, .int .i64 L, .int .i64 R, .int .u32 S, .int .u32 D, .slice A n c]] w fun e w' => e = .returned (.tuple #[.slice none 0 0, .int .i64 11]) ∧ Below w.heap.size w w' := by
  unfold pok at h
  by_cases hT : ¬ (0 ≤ T ∧ T ≤ 255)
  · clear h
    go_enter Try.func30, Try.ntmps30
    go_wp2_with (go_at_call 49; (with_reducible refine (out_any T 255 _ true (by simp; omega)).mono ?_); rintro e w' ⟨rfl, rfl⟩)
    go_ret2
    exact ⟨rfl, (Below.refl _ _).alloc (Nat.le_refl _) _⟩
  · by_cases hL : ¬ (0 ≤ L ∧ L ≤ 255)
    · clear h
      go_enter Try.func30, Try.ntmps30
      go_wp2_with (first | (go_at_call 49; (with_reducible refine (out_any T 255 _ false (by simp; omega)).mono ?_); rintro e w' ⟨rfl, rfl⟩) | (go_at_call 49; (with_reducible refine (out_any L 255 _ true (by simp; omega)).mono ?_); rintro e w' ⟨rfl, rfl⟩))
      go_ret2
      exact ⟨rfl, (Below.refl _ _).alloc (Nat.le_refl _) _⟩
    · by_cases hR : ¬ (0 ≤ R ∧ R ≤ 255)
      · clear h
        go_enter Try.func30, Try.ntmps30
        go_wp2_with (first | (go_at_call 49; (with_reducible refine (out_any T 255 _ false (by simp; omega)).mono ?_); rintro e w' ⟨rfl, rfl⟩) | (go_at_call 49; (with_reducible refine (out_any L 255 _ false (by simp; omega)).mono ?_); rintro e w' ⟨rfl, rfl⟩) | (go_at_call 49; (with_reducible refine (out_any R 255 _ true (by simp; omega)).mono ?_); rintro e w' ⟨rfl, rfl⟩))
        go_ret2
        exact ⟨rfl, (Below.refl _ _).alloc (Nat.le_refl _) _⟩
      · have hI : ¬ (0 ≤ I ∧ I ≤ 65535) := by omega
        clear h
        go_enter Try.func30, Try.ntmps30
        go_wp2_with (first | (go_at_call 49; (with_reducible refine (out_any T 255 _ false (by simp; omega)).mono ?_); rintro e w' ⟨rfl, rfl⟩) | (go_at_call 49; (with_reducible refine (out_any L 255 _ false (by simp; omega)).mono ?_); rintro e w' ⟨rfl, rfl⟩) | (go_at_call 49; (with_reducible refine (out_any R 255 _ false (by simp; omega)).mono ?_); rintro e w' ⟨rfl, rfl⟩) | (go_at_call 49; (with_reducible refine (out_any I 65535 _ true (by simp; omega)).mono ?_); rintro e w' ⟨rfl, rfl⟩))
        go_ret2
        exact ⟨rfl, (Below.refl _ _).alloc (Nat.le_refl _) _⟩
set_option maxHeartbeats 1000000 in
theorem rput_long (T I L R S D : Int) (A : Option Addr) (n c : Nat) (w : World) (h : pok T I L R) (hn : 1480 < n) :
    Calls Try.prog 30 #[.agg #[.int .i64 T, .int .i64 I, .int .i64 L, .int .i64 R, .int .u32 S, .int .u32 D, .slice A n c]] w fun e w' => e = .returned (.tuple #[.slice none 0 0, .int .i64 14]) ∧ Below w.heap.size w w' := by
  obtain ⟨⟨t0, t1⟩, ⟨l0, l1⟩, ⟨r0, r1⟩, ⟨g0, g1⟩⟩ := h
  go_enter Try.func30, Try.ntmps30
  go_wp2_with (first | (go_at_call 49; (with_reducible refine (out_any T 255 _ false (by simp; omega)).mono ?_); rintro e w' ⟨rfl, rfl⟩) | (go_at_call 49; (with_reducible refine (out_any L 255 _ false (by simp; omega)).mono ?_); rintro e w' ⟨rfl, rfl⟩) | (go_at_call 49; (with_reducible refine (out_any R 255 _ false (by simp; omega)).mono ?_); rintro e w' ⟨rfl, rfl⟩) | (go_at_call 49; (with_reducible refine (out_any I 65535 _ false (by simp; omega)).mono ?_); rintro e w' ⟨rfl, rfl⟩))
  go_ret2
  exact ⟨rfl, (Below.refl _ _).alloc (Nat.le_refl _) _⟩

set_option maxRecDepth 20000 in
set_option maxHeartbeats 8000000 in
theorem rput_ok (T I L R S D : Int) (A : Option Addr) (n c : Nat) (l : List UInt8) (w : World) (hl : BSl w A n c l) (h : pok T I L R) (hS : 0 ≤ S ∧ S < 4294967296) (hD : 0 ≤ D ∧ D < 4294967296) (hn : n ≤ 1480) :
    Calls Try.prog 30 #[.agg #[.int .i64 T, .int .i64 I, .int .i64 L, .int .i64 R, .int .u32 S, .int .u32 D, .slice A n c]] w fun e w' => ∃ v, e = .returned (.tuple #[v, .int .i64 0]) ∧ w'.ownsRow w.heap.size 5 1 v (20 + n) (byteCells (pbs T I L R S D l)) ∧ Below w.heap.size w w' := by
  obtain ⟨i0, hi, hz0, hz1, hz2⟩ := info_parts Try.info5
  have Hi := Lib.hid hi; have Hz0 := Lib.hid hz0; have Hz1 := Lib.hid hz1; have Hz2 := Lib.hid hz2
  have HS := Lib.hid hl
  have HC := Lib.hid (show pbs T I L R S D l = ahd T I L R n ++ wb 2 (ck T I L R S D n) ++ bhd S D ++ l by rw [← hd_parts T I L R S D n _ h, ← hl.len]; rfl)
  have C := Lib.hid (of_parts (n := n) h hS hD hn)
  obtain ⟨K0, K1⟩ := ck_bd T I L R S D n
  generalize ck T I L R S D n = K at *
  obtain ⟨⟨t0, t1⟩, ⟨l0, l1⟩, ⟨r0, r1⟩, ⟨g0, g1⟩⟩ := h
  obtain ⟨S0, S1⟩ := hS
  obtain ⟨D0, D1⟩ := hD
  have X0 := Lib.hid (Box7.new w (.int .i64 T) (.int .i64 I) (.int .i64 L) (.int .i64 R) (.int .u32 S) (.int .u32 D) (.slice A n c) 61 w.heap.size rfl)
  have O0 := Lib.hid (own_lit (w.alloc (.cells #[.int .i64 T, .int .i64 I, .int .i64 L, .int .i64 R, .int .u32 S, .int .u32 D, .slice A n c] 61)) (w.alloc (.cells #[.int .i64 T, .int .i64 I, .int .i64 L, .int .i64 R, .int .u32 S, .int .u32 D, .slice A n c] 61)).heap.size (Nat.le_refl _) #[.int .u8 69, .int .u8 T] [69, u8 T] (by
    show [Value.int .u8 69, Value.int .u8 T] = [Value.int .u8 69, Value.int .u8 ((u8 T).toNat : Int)]
    rw [u8_val T t0 (by omega)]) 2 (w.heap.size + 1) rfl (by simp) (by decide))
  have F4 := Lib.hid (fun w0 : World => own_lit w0 w0.heap.size (Nat.le_refl _) #[.int .u8 0, .int .u8 0, .int .u8 L, .int .u8 R] [0, 0, u8 L, u8 R] (by
    show [Value.int .u8 0, Value.int .u8 0, Value.int .u8 L, Value.int .u8 R] = [Value.int .u8 0, Value.int .u8 0, Value.int .u8 ((u8 L).toNat : Int), Value.int .u8 ((u8 R).toNat : Int)]
    rw [u8_val L l0 (by omega), u8_val R r0 (by omega)]) 4 w0.heap.size rfl rfl (by decide))
  have B1 := Lib.hid ((Below.refl (w.alloc (.cells #[.int .i64 T, .int .i64 I, .int .i64 L, .int .i64 R, .int .u32 S, .int .u32 D, .slice A n c] 61)).heap.size (w.alloc (.cells #[.int .i64 T, .int .i64 I, .int .i64 L, .int .i64 R, .int .u32 S, .int .u32 D, .slice A n c] 61))).alloc (Nat.le_refl _) (.cells #[.int .u8 69, .int .u8 T] 5))
  have EA := Lib.hid (show byteCells [69, u8 T] ++ byteCells (wb 2 (20 + (n : Int))) ++ byteCells (wb 2 I) ++ byteCells [0, 0, u8 L, u8 R] = byteCells (ahd T I L R n) by unfold ahd; rw [bcells_app, bcells_app, bcells_app])
  have EB := Lib.hid (show byteCells (wb 4 S) ++ byteCells (wb 4 D) = byteCells (bhd S D) by unfold bhd; rw [bcells_app])
  have hz : w.heap.size < w.heap.size + 1 := by omega
  have d1 : IntKind.u8.wrap T = T := by rw [IntKind.wrap_u8]; omega
  have d2 : IntKind.u8.wrap L = L := by rw [IntKind.wrap_u8]; omega
  have d3 : IntKind.u8.wrap R = R := by rw [IntKind.wrap_u8]; omega
  have d4 : IntKind.i64.wrap S = S := IntWalk.i64_in _ (by omega)
  have d5 : IntKind.i64.wrap D = D := IntWalk.i64_in _ (by omega)
  clear hi hz0 hz1 hz2 hl
  go_enter Try.func30, Try.ntmps30
  go_wp2_with (first
    | (go_at_call 49; (with_reducible refine (out_any T 255 _ false (by simp; omega)).mono ?_); rintro e w' ⟨rfl, rfl⟩) | (go_at_call 49; (with_reducible refine (out_any L 255 _ false (by simp; omega)).mono ?_); rintro e w' ⟨rfl, rfl⟩) | (go_at_call 49; (with_reducible refine (out_any R 255 _ false (by simp; omega)).mono ?_); rintro e w' ⟨rfl, rfl⟩) | (go_at_call 49; (with_reducible refine (out_any I 65535 _ false (by simp; omega)).mono ?_); rintro e w' ⟨rfl, rfl⟩)
    | (go_at_call 50; (with_reducible refine (rbytes_any (20 + (n : Int)) 2 2 rfl _ (by omega) (by omega) (by omega)).mono ?_); rintro e w1 ⟨v1, rfl, hown1, hb1⟩; obtain ⟨A1, c1, rfl⟩ := own_shape hown1; have OV1 := Lib.hid hown1; have OW1 := Lib.hid (own_below O0.out hb1); have BW1 := Lib.hid (B1.out.trans (hb1.mono B1.out.size)); clear hown1 hb1)
    | (go_at_call 50; (with_reducible refine (rbytes_any I 2 2 rfl _ (by omega) (by omega) (by omega)).mono ?_); rintro e w3 ⟨v3, rfl, hown3, hb3⟩; obtain ⟨A3, c3, rfl⟩ := own_shape hown3; have OV3 := Lib.hid hown3; have OW3 := Lib.hid (own_below OW2.out hb3); have BW3 := Lib.hid (BW2.out.trans (hb3.mono BW2.out.size)); clear hown3 hb3)
    | (at_builtin; refine wpList_bapp rfl (.tmp 34) (.tmp 39) 22 rfl (w.alloc (.cells #[.int .i64 T, .int .i64 I, .int .i64 L, .int .i64 R, .int .u32 S, .int .u32 D, .slice A n c] 61)).heap.size 5 i0 (.int .u8 0) 1 Try.underlying22 Hi.out Hz0.out Hz1.out Hz2.out rfl _ _ _ (by rfl) OW1.out A1 2 c1 (wb 2 (20 + (n : Int))) (by rfl) (BSl.of_own OV1.out) (by unfold maxLen; omega) (by omega) BW1.out.size ?_; intro v2 w2 hown2 hgrow2; have BW2 := Lib.hid (below_app BW1.out OW1.out hgrow2); have OW2 := Lib.hid hown2; have X2 := Lib.hid (X0.out.below BW2.out); obtain ⟨a0, a1, a2, a3, a4, a5, a6, af⟩ := X2.out; have az := X2.out.lt; clear hown2 hgrow2)
    | (at_builtin; refine wpList_bapp rfl (.tmp 41) (.tmp 44) 22 rfl (w.alloc (.cells #[.int .i64 T, .int .i64 I, .int .i64 L, .int .i64 R, .int .u32 S, .int .u32 D, .slice A n c] 61)).heap.size 5 i0 (.int .u8 0) 1 Try.underlying22 Hi.out Hz0.out Hz1.out Hz2.out rfl _ _ _ (by rfl) OW3.out A3 2 c3 (wb 2 I) (by rfl) (BSl.of_own OV3.out) (by unfold maxLen; omega) (by omega) BW3.out.size ?_; intro v4 w4 hown4 hgrow4; have BW4 := Lib.hid (below_app BW3.out OW3.out hgrow4); have OW4 := Lib.hid hown4; have X4 := Lib.hid (X0.out.below BW4.out); obtain ⟨b0, b1, b2, b3, b4, b5, b6, bf⟩ := X4.out; have bz := X4.out.lt; clear hown4 hgrow4)
    | (at_builtin; refine wpList_bapp rfl (.tmp 46) (.tmp 53) 22 rfl (w.alloc (.cells #[.int .i64 T, .int .i64 I, .int .i64 L, .int .i64 R, .int .u32 S, .int .u32 D, .slice A n c] 61)).heap.size 5 i0 (.int .u8 0) 1 Try.underlying22 Hi.out Hz0.out Hz1.out Hz2.out rfl _ _ _ (by rfl) (OW4.out.alloc _) (some ⟨w4.heap.size, 0, none⟩) 4 4 [0, 0, u8 L, u8 R] (by rfl) (BSl.of_own (F4.out w4)) (by unfold maxLen; omega) (by omega) (by have := BW4.out.size; simp at this ⊢; omega) ?_; intro v5 w5 hown5 hgrow5; rw [EA.out] at hown5; have BW5 := Lib.hid (below_app (BW4.out.alloc BW4.out.size _) (OW4.out.alloc _) hgrow5); obtain ⟨A5, c5, rfl⟩ := own_shape hown5; have OW5 := Lib.hid hown5; have X5 := Lib.hid (X0.out.below BW5.out); clear hown5 hgrow5))
  have HK := Lib.hid (show ∀ w', Below w5.heap.size w5 w' → w'.cell? ⟨w.heap.size, 4, none⟩ = some (.int .u32 S) ∧ w'.cell? ⟨w.heap.size, 5, none⟩ = some (.int .u32 D) ∧ Below w5.heap.size w5 w' from fun w' g => by
    obtain ⟨_, _, _, _, h4, h5, _, _⟩ := X5.out.below g
    exact ⟨h4, h5, g⟩)
  have R5 := Lib.hid (show Below w5.heap.size w5 w5.drew from below_drewN (Below.refl _ _) 1)
  clear a0 a1 a2 a3 a4 a5 a6 af az b0 b1 b2 b3 b4 b5 b6 bf bz
  go_region_held_law (fun w' => w'.cell? ⟨w.heap.size, 4, none⟩ = some (.int .u32 S) ∧ w'.cell? ⟨w.heap.size, 5, none⟩ = some (.int .u32 D) ∧ Below w5.heap.size w5 w')
    (first | with_reducible exact HK.out _ hB8 | with_reducible exact HK.out _ hB7 | with_reducible exact HK.out _ hB6 | with_reducible exact HK.out _ R5.out | fail)
    (first
      | (go_at_call 50; (with_reducible refine (rbytes_any S 4 4 rfl _ (by omega) (by omega) (by omega)).mono ?_); rintro e w6 ⟨v6, rfl, hown6, hb6⟩; obtain ⟨A6, c6, rfl⟩ := own_shape hown6; have hB6 := trans_below R5.out hb6)
      | (go_at_call 50; (with_reducible refine (rbytes_any D 4 4 rfl _ (by omega) (by omega) (by omega)).mono ?_); rintro e w7 ⟨v7, rfl, hown7, hb7⟩; obtain ⟨A7, c7, rfl⟩ := own_shape hown7; have hB7 := trans_below hB6 hb7; have hown6' := own_base (B' := w5.heap.size) (own_below hown6 hb7) (Nat.le_refl _))
      | (refine step_bapp (by rfl) (.tmp 58) (.tmp 62) 22 (by rfl) w5.heap.size 5 i0 (.int .u8 0) 1 Try.underlying22 Hi.out Hz0.out Hz1.out Hz2.out rfl _ _ _ (by rfl) hown6' A7 4 c7 (wb 4 D) (by rfl) (BSl.of_own hown7) (by unfold maxLen; omega) (by omega) hB7.size ?_; intro v8 w8 hown8 hgrow8; have hB8 := below_app hB7 hown6' hgrow8; rw [EB.out] at hown8; obtain ⟨A8, c8, rfl⟩ := own_shape hown8))
  have OT8 := Lib.hid hown8
  have OA8 := Lib.hid (own_below OW5.out hB8)
  have BW8 := Lib.hid (BW5.out.trans (hB8.mono BW5.out.size))
  clear hown6 hown6' hown7 hown8 hB6 hB7 hB8 hgrow8
  have N8 := Lib.hid (own_new w8 w8.heap.size (Nat.le_refl _))
  have SA8 := Lib.hid (BSl.of_own OA8.out)
  have ST8 := Lib.hid (BSl.of_own OT8.out)
  go_wp2_with (first
    | (at_builtin; refine wpList_bapp rfl (.tmp 64) (.tmp 65) 22 rfl w8.heap.size 5 i0 (.int .u8 0) 1 Try.underlying22 Hi.out Hz0.out Hz1.out Hz2.out rfl _ _ _ (by rfl) N8.out A5 10 c5 (ahd T I L R n) (by rfl) (SA8.out.alloc _) (by unfold maxLen; omega) (by omega) (by simp) ?_; intro v9 w9 hown9 hgrow9; simp only [Nat.zero_add, List.nil_append] at hown9; have B9 := Lib.hid (below_app ((Below.refl w8.heap.size w8).alloc (Nat.le_refl _) _) N8.out hgrow9); have O9 := Lib.hid hown9; clear hown9 hgrow9)
    | (at_builtin; refine wpList_bapp rfl (.tmp 66) (.tmp 67) 22 rfl w8.heap.size 5 i0 (.int .u8 0) 1 Try.underlying22 Hi.out Hz0.out Hz1.out Hz2.out rfl _ _ _ (by rfl) O9.out A8 8 c8 (bhd S D) (by rfl) (ST8.out.below B9.out) (by unfold maxLen; omega) (by omega) B9.out.size ?_; intro v10 w10 hown10 hgrow10; have B10 := Lib.hid (below_app B9.out O9.out hgrow10); rw [← bcells_app] at hown10; obtain ⟨A10, c10, rfl⟩ := own_shape hown10; have O10 := Lib.hid hown10; clear hown10 hgrow10)
    | (go_at_call 51; (with_reducible refine (rof_any A10 18 c10 (ahd T I L R n ++ bhd S D) _ (BSl.of_own O10.out) (by decide) K C.out).mono ?_); rintro e w' ⟨rfl, rfl⟩)
    | (go_at_call 50; (with_reducible refine (rbytes_any K 2 2 rfl _ (by omega) (by omega) (by omega)).mono ?_); rintro e w11 ⟨v11, rfl, hown11, hb11⟩; obtain ⟨A11, c11, rfl⟩ := own_shape hown11; have B11 := Lib.hid (trans_below B10.out hb11); have OV11 := Lib.hid hown11; have OA11 := Lib.hid (own_below OA8.out B11.out); have OT11 := Lib.hid (own_below OT8.out B11.out); have BW11 := Lib.hid (BW8.out.trans (B11.out.mono BW8.out.size)); clear hown11 hb11)
    | (at_builtin; refine wpList_bapp rfl (.tmp 70) (.tmp 72) 22 rfl (w.alloc (.cells #[.int .i64 T, .int .i64 I, .int .i64 L, .int .i64 R, .int .u32 S, .int .u32 D, .slice A n c] 61)).heap.size 5 i0 (.int .u8 0) 1 Try.underlying22 Hi.out Hz0.out Hz1.out Hz2.out rfl _ _ _ (by rfl) OA11.out A11 2 c11 (wb 2 K) (by rfl) (BSl.of_own OV11.out) (by unfold maxLen; omega) (by omega) BW11.out.size ?_; intro v12 w12 hown12 hgrow12; have BW12 := Lib.hid (below_app BW11.out OA11.out hgrow12); have OT12 := Lib.hid (own_apart OT11.out OW5.out (Nat.le_refl _) hgrow12); have OW12 := Lib.hid hown12; clear hown12 hgrow12)
    | (at_builtin; refine wpList_bapp rfl (.tmp 73) (.tmp 74) 22 rfl (w.alloc (.cells #[.int .i64 T, .int .i64 I, .int .i64 L, .int .i64 R, .int .u32 S, .int .u32 D, .slice A n c] 61)).heap.size 5 i0 (.int .u8 0) 1 Try.underlying22 Hi.out Hz0.out Hz1.out Hz2.out rfl _ _ _ (by rfl) OW12.out A8 8 c8 (bhd S D) (by rfl) (BSl.of_own OT12.out) (by unfold maxLen; omega) (by omega) BW12.out.size ?_; intro v13 w13 hown13 hgrow13; have BW13 := Lib.hid (below_app BW12.out OW12.out hgrow13); have OW13 := Lib.hid hown13; have X13 := Lib.hid (X0.out.below BW13.out); obtain ⟨_, _, _, _, _, _, f6, _⟩ := X13.out; have fz := X13.out.lt; clear hown13 hgrow13)
    | (at_builtin; refine wpList_bapp rfl (.tmp 76) (.tmp 78) 22 rfl (w.alloc (.cells #[.int .i64 T, .int .i64 I, .int .i64 L, .int .i64 R, .int .u32 S, .int .u32 D, .slice A n c] 61)).heap.size 5 i0 (.int .u8 0) 1 Try.underlying22 Hi.out Hz0.out Hz1.out Hz2.out rfl _ _ _ (by rfl) OW13.out A n c l (by rfl) (HS.out.below (one_below BW13.out)) (by unfold maxLen; omega) (by omega) BW13.out.size ?_; intro v14 w14 hown14 hgrow14; have BW14 := Lib.hid (below_app BW13.out OW13.out hgrow14)))
  go_ret2
  exact ⟨v14, rfl, by rw [HC.out, bcells_app, bcells_app, bcells_app]; exact own_base hown14 (by simp), one_below BW14.out⟩
end Go.Proofs.Ytgmeicenjgiihaa
