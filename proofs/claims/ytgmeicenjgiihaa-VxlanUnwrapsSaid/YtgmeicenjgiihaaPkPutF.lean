/- The contract of ipv4.Put. -/
import Derived.Test.YtgmeicenjgiihaaPkHead
import Derived.Test.YtgmeicenjgiihaaSumOf
namespace Go.Proofs.Ytgmeicenjgiihaa
open Go.RowKit
open Go.Lib (byteCells)

/-- numbers laid out -/
theorem isl_new (w : World) (k : IntKind) (e : TypeId) (xs : List Int) (cs : Array Value) (h : cs = (xs.map (Value.int k)).toArray) (p n : Nat) (hp : p = w.heap.size) (hn : xs.length = n) (hm : n ≤ 1000) : ISl (w.alloc (.cells cs e)) k (some ⟨p, 0, none⟩) n n xs := by
  subst h hp
  have hb : (w.alloc (.cells (xs.map (Value.int k)).toArray e)).heap[w.heap.size]? = some (.cells (xs.map (Value.int k)).toArray e (0, 0)) := by
    show (w.heap.push _)[w.heap.size]? = _
    rw [Array.getElem?_push_size]
  refine ⟨hn, Nat.le_refl _, by unfold maxLen; omega, fun _ => ⟨w.heap.size, 0, rfl, by simp, fun j hj => ?_⟩⟩
  unfold World.cell?
  rw [show (⟨w.heap.size, 0 + j, none⟩ : Addr).block = w.heap.size from rfl, hb]
  simp [List.getD, hn, hj]

theorem pok_fit {T I L R : Int} (h : pok T I L R) : fitF 255 [T, L, R] = true ∧ fitF 65535 [I] = true := by
  obtain ⟨⟨t0, t1⟩, ⟨l0, l1⟩, ⟨r0, r1⟩, ⟨g0, g1⟩⟩ := h
  simp [fitF]
  omega
theorem fit_pok {T I L R : Int} (h : fitF 255 [T, L, R] = true) (g : fitF 65535 [I] = true) : pok T I L R := by
  simp [fitF] at h g
  exact ⟨⟨by omega, by omega⟩, ⟨by omega, by omega⟩, ⟨by omega, by omega⟩, ⟨by omega, by omega⟩⟩
/-- a packet's box, wherever what was there is as it was -/
theorem pk_keep {w w' : World} {T I L R S D : Int} {A : Option Addr} {n c : Nat}
    (h : Below (w.alloc (.cells #[.int .i64 T, .int .i64 I, .int .i64 L, .int .i64 R, .int .u32 S, .int .u32 D, .slice A n c] 61)).heap.size (w.alloc (.cells #[.int .i64 T, .int .i64 I, .int .i64 L, .int .i64 R, .int .u32 S, .int .u32 D, .slice A n c] 61)) w') :
    w'.cell? ⟨w.heap.size, 0, none⟩ = some (.int .i64 T) ∧ w'.cell? ⟨w.heap.size, 1, none⟩ = some (.int .i64 I) ∧ w'.cell? ⟨w.heap.size, 2, none⟩ = some (.int .i64 L) ∧ w'.cell? ⟨w.heap.size, 3, none⟩ = some (.int .i64 R) ∧
      w'.cell? ⟨w.heap.size, 4, none⟩ = some (.int .u32 S) ∧ w'.cell? ⟨w.heap.size, 5, none⟩ = some (.int .u32 D) ∧ w'.cell? ⟨w.heap.size, 6, none⟩ = some (.slice A n c) ∧
      Below (w.alloc (.cells #[.int .i64 T, .int .i64 I, .int .i64 L, .int .i64 R, .int .u32 S, .int .u32 D, .slice A n c] 61)).heap.size (w.alloc (.cells #[.int .i64 T, .int .i64 I, .int .i64 L, .int .i64 R, .int .u32 S, .int .u32 D, .slice A n c] 61)) w' := by
  have hz : w.heap.size < (w.alloc (.cells #[.int .i64 T, .int .i64 I, .int .i64 L, .int .i64 R, .int .u32 S, .int .u32 D, .slice A n c] 61)).heap.size := by simp
  refine ⟨?_, ?_, ?_, ?_, ?_, ?_, ?_, h⟩
  · rw [h.cell (p := ⟨w.heap.size, 0, none⟩) hz]; simp
  · rw [h.cell (p := ⟨w.heap.size, 1, none⟩) hz]; simp
  · rw [h.cell (p := ⟨w.heap.size, 2, none⟩) hz]; simp
  · rw [h.cell (p := ⟨w.heap.size, 3, none⟩) hz]; simp
  · rw [h.cell (p := ⟨w.heap.size, 4, none⟩) hz]; simp
  · rw [h.cell (p := ⟨w.heap.size, 5, none⟩) hz]; simp
  · rw [h.cell (p := ⟨w.heap.size, 6, none⟩) hz]; simp

set_option maxHeartbeats 1000000 in
theorem pput_form (T I L R S D : Int) (A : Option Addr) (n c : Nat) (w : World) (h : ¬ pok T I L R) :
    Calls Try.prog 25 #[.agg #[.int .i64 T, .int .i64 I, .int .i64 L, .int .i64 R, .int .u32 S, .int .u32 D, .slice A n c]] w fun e w' => e = .returned (.tuple #[.slice none 0 0, .int .i64 11]) ∧ Below w.heap.size w w' := by
  have F3 := Lib.hid (fun w0 : World => isl_new w0 .i64 3 [T, L, R] #[.int .i64 T, .int .i64 L, .int .i64 R] rfl _ 3 rfl rfl (by decide))
  have F1 := Lib.hid (fun w0 : World => isl_new w0 .i64 3 [I] #[.int .i64 I] rfl _ 1 rfl rfl (by decide))
  have hz : w.heap.size < w.heap.size + 1 := by omega
  have hs : (w.alloc (.cells #[.int .i64 T, .int .i64 I, .int .i64 L, .int .i64 R, .int .u32 S, .int .u32 D, .slice A n c] 61)).heap.size = w.heap.size + 1 := by simp
  have F3a := Lib.hid (F3.out (w.alloc (.cells #[.int .i64 T, .int .i64 I, .int .i64 L, .int .i64 R, .int .u32 S, .int .u32 D, .slice A n c] 61)))
  rw [hs] at F3a
  cases hf : fitF 255 [T, L, R] with
  | false =>
    have G := Lib.hid hf
    clear hf h hs
    go_enter Try.func25, Try.ntmps25
    go_wp2_with (go_at_call 45; (with_reducible refine (fit_any _ _ _ [T, L, R] 255 _ F3a.out false G.out).mono ?_); rintro e w1 ⟨rfl, rfl⟩)
    go_ret2
    exact ⟨rfl, two_alloc _ _ _⟩
  | true =>
    have hg : fitF 65535 [I] = false := by
      cases hg : fitF 65535 [I] with
      | false => rfl
      | true => exact absurd (fit_pok hf hg) h
    have G := Lib.hid hf
    have G2 := Lib.hid hg
    have F1a := Lib.hid (F1.out ((w.alloc (.cells #[.int .i64 T, .int .i64 I, .int .i64 L, .int .i64 R, .int .u32 S, .int .u32 D, .slice A n c] 61)).alloc (.cells #[.int .i64 T, .int .i64 L, .int .i64 R] 3)))
    have hs2 : ((w.alloc (.cells #[.int .i64 T, .int .i64 I, .int .i64 L, .int .i64 R, .int .u32 S, .int .u32 D, .slice A n c] 61)).alloc (.cells #[.int .i64 T, .int .i64 L, .int .i64 R] 3)).heap.size = w.heap.size + 1 + 1 := by simp
    rw [hs2] at F1a
    clear hf h hs hs2 hg
    go_enter Try.func25, Try.ntmps25
    go_wp2_with (first
      | (go_at_call 45; (with_reducible refine (fit_any _ _ _ [T, L, R] 255 _ F3a.out true G.out).mono ?_); rintro e w1 ⟨rfl, rfl⟩)
      | (go_at_call 45; (with_reducible refine (fit_any _ _ _ [I] 65535 _ F1a.out false G2.out).mono ?_); rintro e w1 ⟨rfl, rfl⟩))
    go_ret2
    exact ⟨rfl, (two_alloc _ _ _).alloc (by simp; omega) _⟩

set_option maxHeartbeats 1000000 in
theorem pput_long (T I L R S D : Int) (A : Option Addr) (n c : Nat) (w : World) (h : pok T I L R) (hn : 1480 < n) :
    Calls Try.prog 25 #[.agg #[.int .i64 T, .int .i64 I, .int .i64 L, .int .i64 R, .int .u32 S, .int .u32 D, .slice A n c]] w fun e w' => e = .returned (.tuple #[.slice none 0 0, .int .i64 14]) ∧ Below w.heap.size w w' := by
  obtain ⟨hf, hg⟩ := pok_fit h
  have F3 := Lib.hid (isl_new (w.alloc (.cells #[.int .i64 T, .int .i64 I, .int .i64 L, .int .i64 R, .int .u32 S, .int .u32 D, .slice A n c] 61)) .i64 3 [T, L, R] #[.int .i64 T, .int .i64 L, .int .i64 R] rfl (w.heap.size + 1) 3 (by simp) rfl (by decide))
  have F1 := Lib.hid (isl_new ((w.alloc (.cells #[.int .i64 T, .int .i64 I, .int .i64 L, .int .i64 R, .int .u32 S, .int .u32 D, .slice A n c] 61)).alloc (.cells #[.int .i64 T, .int .i64 L, .int .i64 R] 3)) .i64 3 [I] #[.int .i64 I] rfl (w.heap.size + 1 + 1) 1 (by simp) rfl (by decide))
  have hz : w.heap.size < w.heap.size + 1 := by omega
  have G := Lib.hid hf
  have G2 := Lib.hid hg
  clear hf hg
  clear h
  go_enter Try.func25, Try.ntmps25
  go_wp2_with (first
    | (go_at_call 45; (with_reducible refine (fit_any _ _ _ [T, L, R] 255 _ F3.out true G.out).mono ?_); rintro e w1 ⟨rfl, rfl⟩)
    | (go_at_call 45; (with_reducible refine (fit_any _ _ _ [I] 65535 _ F1.out true G2.out).mono ?_); rintro e w1 ⟨rfl, rfl⟩))
  go_ret2
  exact ⟨rfl, (two_alloc _ _ _).alloc (by simp; omega) _⟩

set_option maxRecDepth 20000 in
set_option maxHeartbeats 2000000 in
theorem pput_ok (T I L R S D : Int) (A : Option Addr) (n c : Nat) (l : List UInt8) (w : World) (hl : BSl w A n c l) (h : pok T I L R) (hS : 0 ≤ S ∧ S < 4294967296) (hD : 0 ≤ D ∧ D < 4294967296) (hn : n ≤ 1480) :
    Calls Try.prog 25 #[.agg #[.int .i64 T, .int .i64 I, .int .i64 L, .int .i64 R, .int .u32 S, .int .u32 D, .slice A n c]] w fun e w' => ∃ v, e = .returned (.tuple #[v, .int .i64 0]) ∧ w'.ownsRow w.heap.size 5 1 v (20 + n) (byteCells (pbs T I L R S D l)) ∧ Below w.heap.size w w' := by
  obtain ⟨hf, hg⟩ := pok_fit h
  have F3 := Lib.hid (isl_new (w.alloc (.cells #[.int .i64 T, .int .i64 I, .int .i64 L, .int .i64 R, .int .u32 S, .int .u32 D, .slice A n c] 61)) .i64 3 [T, L, R] #[.int .i64 T, .int .i64 L, .int .i64 R] rfl (w.heap.size + 1) 3 (by simp) rfl (by decide))
  have F1 := Lib.hid (isl_new ((w.alloc (.cells #[.int .i64 T, .int .i64 I, .int .i64 L, .int .i64 R, .int .u32 S, .int .u32 D, .slice A n c] 61)).alloc (.cells #[.int .i64 T, .int .i64 L, .int .i64 R] 3)) .i64 3 [I] #[.int .i64 I] rfl (w.heap.size + 1 + 1) 1 (by simp) rfl (by decide))
  have hz : w.heap.size < w.heap.size + 1 := by omega
  have G := Lib.hid hf
  have G2 := Lib.hid hg
  clear hf hg
  obtain ⟨i0, hi, hz0, hz1, hz2⟩ := info_parts Try.info5
  have Hi := Lib.hid hi; have Hz0 := Lib.hid hz0; have Hz1 := Lib.hid hz1; have Hz2 := Lib.hid hz2
  have HS := Lib.hid hl
  have HC := Lib.hid (show byteCells (pbs T I L R S D l) = byteCells (hd T I L R S D n (ck T I L R S D n)) ++ byteCells l by rw [← hl.len]; exact pbs_cells T I L R S D l)
  have C := Lib.hid (of_hd (n := n) h hS hD hn)
  obtain ⟨k0, k1⟩ := ck_bd T I L R S D n
  have HH := Lib.hid (fun (s : Int) (w : World) (hs : 0 ≤ s ∧ s ≤ 65535) => header_any T I L R S D A n c s w h hS hD hn hs)
  generalize ck T I L R S D n = K at *
  have HK := Lib.hid (fun w' h => pk_keep (w := w) (w' := w') (T := T) (I := I) (L := L) (R := R) (S := S) (D := D) (A := A) (n := n) (c := c) h)
  have R0 := Lib.hid (show Below (w.alloc (.cells #[.int .i64 T, .int .i64 I, .int .i64 L, .int .i64 R, .int .u32 S, .int .u32 D, .slice A n c] 61)).heap.size (w.alloc (.cells #[.int .i64 T, .int .i64 I, .int .i64 L, .int .i64 R, .int .u32 S, .int .u32 D, .slice A n c] 61)) (((w.alloc (.cells #[.int .i64 T, .int .i64 I, .int .i64 L, .int .i64 R, .int .u32 S, .int .u32 D, .slice A n c] 61)).alloc (.cells #[.int .i64 T, .int .i64 L, .int .i64 R] 3)).alloc (.cells #[.int .i64 I] 3)).drew from below_drewN (two_alloc _ _ _) 1)
  clear hi hz0 hz1 hz2 hl h
  go_enter Try.func25, Try.ntmps25
  go_wp2_with (first
    | (go_at_call 45; (with_reducible refine (fit_any _ _ _ [T, L, R] 255 _ F3.out true G.out).mono ?_); rintro e w1 ⟨rfl, rfl⟩)
    | (go_at_call 45; (with_reducible refine (fit_any _ _ _ [I] 65535 _ F1.out true G2.out).mono ?_); rintro e w1 ⟨rfl, rfl⟩))
  go_region_held_law (fun w' => w'.cell? ⟨w.heap.size, 0, none⟩ = some (.int .i64 T) ∧ w'.cell? ⟨w.heap.size, 1, none⟩ = some (.int .i64 I) ∧ w'.cell? ⟨w.heap.size, 2, none⟩ = some (.int .i64 L) ∧ w'.cell? ⟨w.heap.size, 3, none⟩ = some (.int .i64 R) ∧ w'.cell? ⟨w.heap.size, 4, none⟩ = some (.int .u32 S) ∧ w'.cell? ⟨w.heap.size, 5, none⟩ = some (.int .u32 D) ∧ w'.cell? ⟨w.heap.size, 6, none⟩ = some (.slice A n c) ∧ Below (w.alloc (.cells #[.int .i64 T, .int .i64 I, .int .i64 L, .int .i64 R, .int .u32 S, .int .u32 D, .slice A n c] 61)).heap.size (w.alloc (.cells #[.int .i64 T, .int .i64 I, .int .i64 L, .int .i64 R, .int .u32 S, .int .u32 D, .slice A n c] 61)) w')
    (first | exact HK.out _ hB3 | exact HK.out _ hB2 | exact HK.out _ hB1 | exact HK.out _ R0.out | fail)
    (first
      | (go_at_call 46; (with_reducible refine (HH.out 0 _ ⟨by omega, by omega⟩).mono ?_); rintro e w1 ⟨A1, c1, rfl, hown1, hb1⟩; have hB1 := trans_below R0.out hb1)
      | (go_at_call 47; (with_reducible refine (of_any A1 20 c1 _ _ (BSl.of_own hown1) K C.out).mono ?_); rintro e w2 ⟨rfl, hb2⟩; have hB2 := trans_below hB1 hb2)
      | (go_at_call 46; (with_reducible refine (HH.out K _ ⟨k0, k1⟩).mono ?_); rintro e w3 ⟨A3, c3, rfl, hown3, hb3⟩; have hB3 := trans_below hB2 hb3))
  obtain ⟨m0, m1, m2, m3, m4, m5, m6, _⟩ := HK.out _ hB3
  have O3 := Lib.hid (own_base hown3 hB2.size)
  clear hown1 hown3
  go_wp2_with (at_builtin; refine wpList_bapp rfl (.tmp 30) (.tmp 32) 22 rfl (w.alloc (.cells #[.int .i64 T, .int .i64 I, .int .i64 L, .int .i64 R, .int .u32 S, .int .u32 D, .slice A n c] 61)).heap.size 5 i0 (.int .u8 0) 1 Try.underlying22 Hi.out Hz0.out Hz1.out Hz2.out rfl _ _ _ (by rfl) O3.out A n c l (by rfl) (HS.out.below (one_below hB3)) (by unfold maxLen; omega) (by omega) hB3.size ?_; intro v4 w4 hown4 hgrow4; have hB4 := below_app hB3 O3.out hgrow4)
  go_ret2
  exact ⟨v4, rfl, by rw [HC.out]; exact own_base hown4 (by simp), one_below hB4⟩
end Go.Proofs.Ytgmeicenjgiihaa
