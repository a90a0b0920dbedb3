/- The walk of the statement EtherOwn. -/
import Derived.Test.YtodjgodbkhdglaaFworks
namespace Go.Proofs.Ytodjgodbkhdglaa
open Go.RowKit
open Go.Lib (byteCells)

theorem BSl.far {w : World} {b o n c : Nat} {l : List UInt8} (h : BSl w (some ⟨b, o, none⟩) n c l) {p : Addr} (hp : p.block ≠ b) (u : Value) : BSl (w.setCell p u) (some ⟨b, o, none⟩) n c l := by
  refine ⟨⟨h.1.1, h.1.2.1, h.1.2.2.1, fun hn => ?_⟩, fun e => by cases e⟩
  obtain ⟨b', o', e, hb, hc⟩ := h.1.2.2.2 hn
  cases e
  exact ⟨b, o, rfl, by simpa [World.setCell] using hb, fun j hj => by rw [World.cell?_setCell_far _ _ _ _ hp]; exact hc j hj⟩
theorem own_unfrozen {w : World} {B g n c : Nat} {e : TypeId} {xs : List Value} (h : w.ownsRow B e 1 (.slice (some ⟨g, 0, none⟩) n c) n xs) (i : Nat) : w.frozen? ⟨g, i, none⟩ = false := by
  obtain ⟨cur, hh, _⟩ := own_cur h
  exact Joins.unfrozen_of_block hh i
theorem frozen_far (w : World) (p : Addr) (g i : Nat) (u : Value) (hp : p.block ≠ g) : (w.setCell p u).frozen? ⟨g, i, none⟩ = w.frozen? ⟨g, i, none⟩ := by
  have := Below.heap_setCell w p u g (fun e => hp e.symm)
  simp only [World.frozen?, this]

theorem eown_few (A : Option Addr) (n c : Nat) (a : Int) (w : World) (h : n = 0 ∨ 1504 < n) :
    Calls Try.prog 6 #[.slice A n c, .int .u16 a] w fun e w' => e = .returned (.bool true) ∧ Below w.heap.size w w' := by
  by_cases h1 : n = 0
  · subst h1
    clear h
    go_enter Try.func6, Try.ntmps6
    go_wp2_with (go_at_call 7; (with_reducible refine (works04_any _).mono ?_); rintro e w1 ⟨rfl, hb1⟩)
    go_ret
    exact ⟨rfl, hb1⟩
  · have h2 : 1504 < n := by omega
    have h3 : ((n : Int) == 0) = false := by simpa using h1
    clear h h1
    go_enter Try.func6, Try.ntmps6
    go_wp2_with (go_at_call 7; (with_reducible refine (works04_any _).mono ?_); rintro e w1 ⟨rfl, hb1⟩)
    go_ret
    exact ⟨rfl, hb1⟩
theorem size_alloc (w : World) (o : Obj) : (w.alloc o).heap.size = w.heap.size + 1 := by simp

set_option maxHeartbeats 1000000 in
/-- what is read behind the two stores -/
theorem own_facts {w w4 w5 w6 w7 : World} {A : Option Addr} {n c k B4 g4 g5 g6 g7 c4 c5 c6 c7 : Nat} {l : List UInt8} {G0 G1 G2 : Value} (HS : BSl w A n c l) (h14 : Below w.heap.size w w4) (h0 : 0 < n) (hk : k < n)
    (own4 : w4.ownsRow B4 5 1 (.slice (some ⟨g4, 0, none⟩) n c4) n (byteCells l)) (hB4 : w.heap.size ≤ g4) (hl4 : g4 < w4.heap.size)
    (hb5 : Below (w4.alloc (.cells #[.int .u64 1, .int .u64 2, .int .i64 3, .slice (some ⟨g4, 0, none⟩) n c4] 26)).heap.size (w4.alloc (.cells #[.int .u64 1, .int .u64 2, .int .i64 3, .slice (some ⟨g4, 0, none⟩) n c4] 26)) w5)
    (own5 : w5.ownsRow (w4.alloc (.cells #[.int .u64 1, .int .u64 2, .int .i64 3, .slice (some ⟨g4, 0, none⟩) n c4] 26)).heap.size 5 1 (.slice (some ⟨g5, 0, none⟩) n c5) n (byteCells l))
    (hB5 : (w4.alloc (.cells #[.int .u64 1, .int .u64 2, .int .i64 3, .slice (some ⟨g4, 0, none⟩) n c4] 26)).heap.size ≤ g5) (hl5 : g5 < w5.heap.size)
    (hb6 : Below (w5.alloc (.cells #[.int .u64 1, .int .u64 2, .int .i64 3, .slice (some ⟨g5, 0, none⟩) n c5] 26)).heap.size (w5.alloc (.cells #[.int .u64 1, .int .u64 2, .int .i64 3, .slice (some ⟨g5, 0, none⟩) n c5] 26)) w6)
    (own6 : w6.ownsRow (w5.alloc (.cells #[.int .u64 1, .int .u64 2, .int .i64 3, .slice (some ⟨g5, 0, none⟩) n c5] 26)).heap.size 5 1 (.slice (some ⟨g6, 0, none⟩) (14 + n) c6) (14 + n) (byteCells (fbs 1 2 3 l)))
    (hB6 : (w5.alloc (.cells #[.int .u64 1, .int .u64 2, .int .i64 3, .slice (some ⟨g5, 0, none⟩) n c5] 26)).heap.size ≤ g6) (hl6 : g6 < w6.heap.size)
    (hb7 : Below w6.heap.size w6 w7) (own7 : w7.ownsRow w6.heap.size 5 1 (.slice (some ⟨g7, 0, none⟩) n c7) n (byteCells l)) (hB7 : w6.heap.size ≤ g7) (hl7 : g7 < w7.heap.size) :
    (w7.alloc (.cells #[G0, G1, G2, .slice (some ⟨g7, 0, none⟩) n c7] 26)).cell? ⟨w5.heap.size, 3, none⟩ = some (.slice (some ⟨g5, 0, none⟩) n c5) ∧
    (w7.alloc (.cells #[G0, G1, G2, .slice (some ⟨g7, 0, none⟩) n c7] 26)).cell? ⟨g5, k, none⟩ = some (.int .u8 (bat l k)) ∧
    (w7.alloc (.cells #[G0, G1, G2, .slice (some ⟨g7, 0, none⟩) n c7] 26)).frozen? ⟨g5, k, none⟩ = false ∧
    (∀ u, ((w7.alloc (.cells #[G0, G1, G2, .slice (some ⟨g7, 0, none⟩) n c7] 26)).setCell ⟨g5, k, none⟩ u).cell? ⟨g6, 14 + k, none⟩ = some (.int .u8 (bat l k))) ∧
    (∀ u, ((w7.alloc (.cells #[G0, G1, G2, .slice (some ⟨g7, 0, none⟩) n c7] 26)).setCell ⟨g5, k, none⟩ u).frozen? ⟨g6, 14 + k, none⟩ = false) ∧
    (∀ u v, (((w7.alloc (.cells #[G0, G1, G2, .slice (some ⟨g7, 0, none⟩) n c7] 26)).setCell ⟨g5, k, none⟩ u).setCell ⟨g6, 14 + k, none⟩ v).cell? ⟨w4.heap.size, 3, none⟩ = some (.slice (some ⟨g4, 0, none⟩) n c4)) ∧
    (∀ u v, (((w7.alloc (.cells #[G0, G1, G2, .slice (some ⟨g7, 0, none⟩) n c7] 26)).setCell ⟨g5, k, none⟩ u).setCell ⟨g6, 14 + k, none⟩ v).cell? ⟨w7.heap.size, 3, none⟩ = some (.slice (some ⟨g7, 0, none⟩) n c7)) ∧
    (∀ u v, BSl (((w7.alloc (.cells #[G0, G1, G2, .slice (some ⟨g7, 0, none⟩) n c7] 26)).setCell ⟨g5, k, none⟩ u).setCell ⟨g6, 14 + k, none⟩ v) (some ⟨g4, 0, none⟩) n c4 l) ∧
    (∀ u v, BSl (((w7.alloc (.cells #[G0, G1, G2, .slice (some ⟨g7, 0, none⟩) n c7] 26)).setCell ⟨g5, k, none⟩ u).setCell ⟨g6, 14 + k, none⟩ v) (some ⟨g7, 0, none⟩) n c7 l) ∧
    (∀ u v, BSl (((w7.alloc (.cells #[G0, G1, G2, .slice (some ⟨g7, 0, none⟩) n c7] 26)).setCell ⟨g5, k, none⟩ u).setCell ⟨g6, 14 + k, none⟩ v) A n c l) ∧
    (∀ u v, Below w.heap.size w (((w7.alloc (.cells #[G0, G1, G2, .slice (some ⟨g7, 0, none⟩) n c7] 26)).setCell ⟨g5, k, none⟩ u).setCell ⟨g6, 14 + k, none⟩ v)) := by
  have hlen : l.length = n := HS.len
  simp only [size_alloc] at hB5 hB6
  have t7 := (Below.refl w7.heap.size w7).alloc (Nat.le_refl _) (.cells #[G0, G1, G2, .slice (some ⟨g7, 0, none⟩) n c7] 26)
  have t6 := trans_below hb7 t7
  have t5' := trans_below hb6 t6
  have t5 := one_below t5'
  have t4' := trans_below hb5 t5
  have t4 := one_below t4'
  have tw := trans_below h14 t4
  generalize hW : w7.alloc (.cells #[G0, G1, G2, .slice (some ⟨g7, 0, none⟩) n c7] 26) = W at *
  have s5 := hb5.size
  have s6 := hb6.size
  have s7 := hb7.size
  have sW := t7.size
  have s4 := h14.size
  simp only [size_alloc] at s5 s6
  have o4 := own_below own4 t4
  have o5 := own_below own5 t5
  have o6 := own_below own6 t6
  have o7 := own_below own7 t7
  have b4 : BSl W (some ⟨g4, 0, none⟩) n c4 l := BSl.of_own o4
  have b5 : BSl W (some ⟨g5, 0, none⟩) n c5 l := BSl.of_own o5
  have b6 : BSl W (some ⟨g6, 0, none⟩) (14 + n) c6 (fbs 1 2 3 l) := BSl.of_own o6
  have b7 : BSl W (some ⟨g7, 0, none⟩) n c7 l := BSl.of_own o7
  obtain ⟨bb, oo, rfl, hbb, hcc⟩ := HS.at_ h0
  have bA : BSl W (some ⟨bb, oo, none⟩) n c l := HS.below tw
  have e6 : bat (fbs 1 2 3 l) (14 + k) = bat l k := by
    unfold fbs
    rw [bat_app_right _ _ _ (by simp [mb_len])]
    congr 1
    simp [mb_len]
  have cell5 : W.cell? ⟨g5, k, none⟩ = some (.int .u8 (bat l k)) := by
    obtain ⟨b', o', e, _, hc'⟩ := b5.at_ h0
    cases e
    have := hc' k hk
    rwa [Nat.zero_add] at this
  have cell6 : W.cell? ⟨g6, 14 + k, none⟩ = some (.int .u8 (bat l k)) := by
    obtain ⟨b', o', e, _, hc'⟩ := b6.at_ (by omega)
    cases e
    have := hc' (14 + k) (by omega)
    rwa [Nat.zero_add, e6] at this
  have cC : W.cell? ⟨w5.heap.size, 3, none⟩ = some (.slice (some ⟨g5, 0, none⟩) n c5) := by
    rw [t5'.cell (p := ⟨w5.heap.size, 3, none⟩) (by simp)]
    simp
  have cF : W.cell? ⟨w4.heap.size, 3, none⟩ = some (.slice (some ⟨g4, 0, none⟩) n c4) := by
    rw [t4'.cell (p := ⟨w4.heap.size, 3, none⟩) (by simp)]
    simp
  have cG : W.cell? ⟨w7.heap.size, 3, none⟩ = some (.slice (some ⟨g7, 0, none⟩) n c7) := by
    rw [← hW]
    simp
  refine ⟨cC, cell5, own_unfrozen o5 k, fun u => ?_, fun u => ?_, fun u v => ?_, fun u v => ?_, fun u v => ?_, fun u v => ?_, fun u v => ?_, fun u v => ?_⟩
  · rw [World.cell?_setCell_far _ _ _ _ (by show g5 ≠ g6; omega)]; exact cell6
  · rw [frozen_far _ _ _ _ _ (by show g5 ≠ g6; omega)]; exact own_unfrozen o6 _
  · rw [World.cell?_setCell_far _ _ _ _ (by show g6 ≠ w4.heap.size; omega), World.cell?_setCell_far _ _ _ _ (by show g5 ≠ w4.heap.size; omega)]; exact cF
  · rw [World.cell?_setCell_far _ _ _ _ (by show g6 ≠ w7.heap.size; omega), World.cell?_setCell_far _ _ _ _ (by show g5 ≠ w7.heap.size; omega)]; exact cG
  · exact (b4.far (by show g5 ≠ g4; omega) u).far (by show g6 ≠ g4; omega) v
  · exact (b7.far (by show g5 ≠ g7; omega) u).far (by show g6 ≠ g7; omega) v
  · exact (bA.far (by show g5 ≠ bb; omega) u).far (by show g6 ≠ bb; omega) v
  · exact (tw.setCell (by show w.heap.size ≤ g5; omega) u).setCell (by show w.heap.size ≤ g6; omega) v

set_option maxRecDepth 100000 in
set_option maxHeartbeats 4000000 in
theorem eown_main (A : Option Addr) (n c : Nat) (l : List UInt8) (a : Int) (w : World) (h : BSl w A n c l) (h0 : 0 < n) (h1 : n ≤ 1504) (a0 : 0 ≤ a) (a1 : a < 65536) :
    Calls Try.prog 6 #[.slice A n c, .int .u16 a] w fun e w' => e = .returned (.bool true) ∧ Below w.heap.size w w' := by
  obtain ⟨i0, hi, hz0, hz1, hz2⟩ := info_parts Try.info5
  have Hi := Lib.hid hi; have Hz0 := Lib.hid hz0; have Hz1 := Lib.hid hz1; have Hz2 := Lib.hid hz2
  have HS := Lib.hid h
  obtain ⟨k, hk⟩ := Int.eq_ofNat_of_zero_le (show 0 ≤ a % (n : Int) from Int.emod_nonneg _ (by omega))
  have hkn : k < n := by have := Int.emod_lt_of_pos a (show 0 < (n : Int) by omega); omega
  have hn0 : ((n : Int) == 0) = false := by have : ¬ (n : Int) = 0 := by omega
                                            simpa using this
  clear hi hz0 hz1 hz2 h
  go_enter Try.func6, Try.ntmps6
  go_wp2_with (first
    | (go_at_call 7; (with_reducible refine (works04_any _).mono ?_); rintro e w1 ⟨rfl, hb1⟩)
    | (at_builtin; refine wpList_bapp rfl (.tmp 27) (.tmp 28) 22 rfl w1.heap.size 5 i0 (.int .u8 0) 1 Try.underlying22 Hi.out Hz0.out Hz1.out Hz2.out rfl _ _ _ (by rfl) (own_new w1 w1.heap.size (Nat.le_refl _)) A n c l (by rfl) ((HS.out.below hb1).alloc _) (by unfold maxLen; omega) (by omega) (by simp) ?_; intro v4 w4 own4 hg4; have hb4 := below_app ((Below.refl w1.heap.size w1).alloc (Nat.le_refl _) _) (own_new w1 w1.heap.size (Nat.le_refl _)) hg4; simp only [Nat.zero_add, List.nil_append] at own4; obtain ⟨g4, c4, rfl, hB4, hl4⟩ := own4.form (by omega))
    | (go_at_call 14; (with_reducible refine (copy_any 1 2 3 _ n c4 l _ (by omega) ((BSl.of_own own4).alloc _)).mono ?_); rintro e w5 ⟨A5, c5, rfl, own5, hb5⟩; obtain ⟨g5, c5', e5, hB5, hl5⟩ := own5.form (by omega); cases e5; obtain ⟨p5, q5⟩ := bcell hb5; have z5 : w4.heap.size < w5.heap.size := by { have := hb5.size; simp at this; omega })
    | (go_at_call 11; (with_reducible refine (fput_ok 1 2 3 _ n c4 l _ ((((BSl.of_own own4).alloc _).below hb5).alloc _) (by decide) h1).mono ?_); rintro e w6 ⟨v6, rfl, own6, hb6⟩; obtain ⟨g6, c6, rfl, hB6, hl6⟩ := own6.form (by omega); obtain ⟨p6, q6⟩ := bcell hb6; have z6 : w5.heap.size < w6.heap.size := by { have := hb6.size; simp at this; omega })
    | (go_at_call 8; (with_reducible refine (ftake_mid _ (14 + n) c6 (fbs 1 2 3 l) _ (BSl.of_own own6) (by omega) (by omega)).mono ?_); rintro e w7 ⟨A7, c7, rfl, own7, hb7⟩; simp only [drop_fbs, Nat.add_sub_cancel_left] at own7 ⊢; obtain ⟨g7, c7', e7, hB7, hl7⟩ := own7.form (by omega); cases e7; obtain ⟨f1, f2, f3, f4, f5, f6, f7, f8, f9, f10, f11⟩ := own_facts (G0 := .int .u64 (mbAt (fbs 1 2 3 l) 0)) (G1 := .int .u64 (mbAt (fbs 1 2 3 l) 6)) (G2 := .int .i64 (two (fbs 1 2 3 l) 12)) HS.out (trans_below hb1 hb4) h0 hkn own4 (Nat.le_trans hb1.size hB4) hl4 hb5 own5 hB5 hl5 hb6 own6 hB6 hl6 hb7 own7 hB7 hl7; have x0 := bat_lo l k; have x1 := bat_hi l k; have r4 := fun u v => run_string_bsl _ _ _ _ _ (f8 u v); have r7 := fun u v => run_string_bsl _ _ _ _ _ (f9 u v); have rA := fun u v => run_string_bsl _ _ _ _ _ (f10 u v); have F11 := Lib.hid f11; clear f8 f9 f10 f11))
  go_ret
  exact ⟨by simp, F11.out _ _⟩

theorem eown_walk (A : Option Addr) (n c : Nat) (l : List UInt8) (a : Int) (w : World) (h : BSl w A n c l) (a0 : 0 ≤ a) (a1 : a < 65536) :
    Calls Try.prog 6 #[.slice A n c, .int .u16 a] w fun e w' => e = .returned (.bool true) ∧ Below w.heap.size w w' := by
  by_cases hn : n = 0 ∨ 1504 < n
  · exact eown_few A n c a w hn
  · exact eown_main A n c l a w h (by omega) (by omega) a0 a1
end Go.Proofs.Ytodjgodbkhdglaa
