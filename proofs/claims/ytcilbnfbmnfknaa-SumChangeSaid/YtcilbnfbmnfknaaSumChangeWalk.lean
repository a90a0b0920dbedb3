/- The walk of the statement SumChange. -/
import Derived.Test.YtcilbnfbmnfknaaSumBackWalk
import Derived.Test.YtcilbnfbmnfknaaSeq
namespace Go.Proofs.Ytcilbnfbmnfknaa
open Go.RowKit
open Go.Lib (byteCells)

theorem change_out (A : Option Addr) (n c : Nat) (k y : Int) (w : World) (h : n % 2 = 1 ∨ n = 0 ∨ 3000 < n) :
    Calls Try.prog 6 #[.slice A n c, .int .u16 k, .int .u16 y] w fun e w' => e = .returned (.bool true) ∧ Below w.heap.size w w' := by
  by_cases ho : n % 2 = 1
  · go_enter Try.func6, Try.ntmps6
    go_wp2_with (go_at_call 11; (with_reducible refine (works06_any _).mono ?_); rintro e w1 ⟨rfl, hb1⟩)
    go_ret
    exact ⟨rfl, hb1⟩
  · by_cases hz : n = 0
    · subst hz
      go_enter Try.func6, Try.ntmps6
      go_wp2_with (go_at_call 11; (with_reducible refine (works06_any _).mono ?_); rintro e w1 ⟨rfl, hb1⟩)
      go_ret
      exact ⟨rfl, hb1⟩
    · have hn : 3000 < n := by omega
      go_enter Try.func6, Try.ntmps6
      go_wp2_with (go_at_call 11; (with_reducible refine (works06_any _).mono ?_); rintro e w1 ⟨rfl, hb1⟩)
      go_ret
      exact ⟨rfl, hb1⟩

/-- is there a byte that is not 0? -/
def anyN (l : List UInt8) : Bool := l.any (fun x => x != 0)
theorem anyN_more (l : List UInt8) (i : Nat) (h : i < l.length) : anyN (l.take (i + 1)) = (anyN (l.take i) || (bat l i != 0)) := by
  unfold anyN
  rw [List.take_succ_eq_append_getElem h, List.any_append]
  congr 1
  have e : bat l i = ((l[i]).toNat : Int) := by simp [bat, List.getD, h]
  rw [e]
  simp only [List.any_cons, List.any_nil, Bool.or_false]
  rw [Bool.eq_iff_iff]
  simp only [bne_iff_ne, ne_eq]
  constructor
  · intro g g2; exact g (UInt8.toNat_inj.1 (by simp; omega))
  · intro g g2; rw [g2] at g; exact g rfl
theorem anyN_some {l : List UInt8} (h : anyN l = true) : ∃ x ∈ l, x ≠ 0 := by
  simpa [anyN] using h

/-- two bytes' cells, and what was there is as it was -/
def Pair (W : World) (b p q : Nat) (x z : Int) (w' : World) : Prop :=
  w'.cell? ⟨b, p, none⟩ = some (.int .u8 x) ∧ w'.cell? ⟨b, q, none⟩ = some (.int .u8 z) ∧ Below W.heap.size W w'
theorem Pair.keep {W w1 w' : World} {b p q : Nat} {x z : Int} (hb : b < W.heap.size) (h : Pair W b p q x z w1) (g : Below w1.heap.size w1 w') : Pair W b p q x z w' :=
  have hl : b < w1.heap.size := Nat.lt_of_lt_of_le hb h.2.2.size
  ⟨(g.cell (p := ⟨b, p, none⟩) hl).trans h.1, (g.cell (p := ⟨b, q, none⟩) hl).trans h.2.1, trans_below h.2.2 g⟩

set_option maxHeartbeats 4000000 in
theorem change_in (A : Option Addr) (n c : Nat) (l : List UInt8) (k y : Int) (w : World) (h : BSl w A n c l) (he : n % 2 = 0) (h0 : 0 < n) (hn : n ≤ 3000) (k0 : 0 ≤ k) (k1 : k < 65536) (y0 : 0 ≤ y) (y1 : y < 65536) :
    Calls Try.prog 6 #[.slice A n c, .int .u16 k, .int .u16 y] w fun e w' => e = .returned (.bool true) ∧ Below w.heap.size w w' := by
  have hl := h.len
  obtain ⟨i0, hi, hz0, hz1, hz2⟩ := info_parts Try.info5
  have Hi := Lib.hid hi; have Hz0 := Lib.hid hz0; have Hz1 := Lib.hid hz1; have Hz2 := Lib.hid hz2
  have HS := Lib.hid h
  clear hi hz0 hz1 hz2
  have i1 : (n : Int) ≤ 3000 := by omega
  have i2 : (n : Int) % 2 = 0 := by omega
  have i4 : (0 : Int) < (n : Int) := by omega
  have i5 : ((n : Int) == 0) = false := by simp; omega
  obtain ⟨K, hK, hK2, hK3⟩ : ∃ K : Nat, k % ((n : Int) / 2) * 2 = (K : Int) ∧ K % 2 = 0 ∧ K + 1 < n := by
    have a1 := Int.emod_nonneg k (show ((n : Int) / 2) ≠ 0 by omega)
    have a2 := Int.emod_lt_of_pos k (show 0 < ((n : Int) / 2) by omega)
    exact ⟨(k % ((n : Int) / 2) * 2).toNat, by omega, by omega, by omega⟩
  have i3 : (K : Int) + 1 < (n : Int) := by omega
  obtain ⟨L, hL⟩ : ∃ L, putF l K y = L := ⟨_, rfl⟩
  have HP := Lib.hid hL
  have hlen : L.length = n := by rw [← hL]; unfold putF; rw [List.length_set, List.length_set]; exact hl
  have HL := Lib.hid hlen
  have HQ := Lib.hid (fun hs => put_sum l K y hK2 (by omega) y0 (by omega) hs)
  rw [hL] at HQ
  clear hL hlen
  obtain ⟨b, off, rfl, hbb, hc⟩ := h.at_ h0
  have C0 := Lib.hid (hc K (by omega))
  have C1 := Lib.hid (hc (K + 1) hK3)
  clear h hc hl
  go_enter Try.func6, Try.ntmps6
  go_wp2_with (first
    | (go_at_call 11; (with_reducible refine (works06_any _).mono ?_); rintro e w1 ⟨rfl, hb1⟩; have S1 := Lib.hid (HS.out.below hb1); have B1 := Lib.hid hb1)
    | (at_builtin; refine wpList_bapp rfl (.tmp 35) (.tmp 36) 22 rfl w.heap.size 5 i0 (.int .u8 0) 1 Try.underlying22 Hi.out Hz0.out Hz1.out Hz2.out rfl _ _ _ (by rfl) (own_new w1 w.heap.size B1.out.size) (some ⟨b, off, none⟩) n c l (by rfl) (S1.out.alloc _) (by unfold maxLen; omega) (by omega) (by have := B1.out.size; simp; omega) ?_; intro v2 w2 hown2 hgrow2; simp only [Nat.zero_add, List.nil_append] at hown2; have B2 := Lib.hid (below_app (B1.out.alloc B1.out.size _) (own_new w1 w.heap.size B1.out.size) hgrow2); obtain ⟨g, cap, rfl, hg0, hg1, hcap, hmax⟩ := own_form hown2 h0; have O2 := Lib.hid hown2; have c2 := own_cellB hown2 K (by omega); have f2 := own_free hown2 K; have o3 := fun u0 u1 => own_setB hown2 K (y / 256) u0 u1; have O4 := Lib.hid (own_setB (o3 (by omega) (by omega)) (K + 1) (y % 256) (by omega) (by omega)); have c3 := own_cellB (o3 (by omega) (by omega)) (K + 1) hK3; have f3 := own_free (o3 (by omega) (by omega)) (K + 1); have B4 := Lib.hid ((B2.out.setCell (p := ⟨g, K, none⟩) hg0 (.int .u8 (y / 256))).setCell (p := ⟨g, K + 1, none⟩) hg0 (.int .u8 (y % 256))); clear o3 hown2 hgrow2))
  have O5 := Lib.hid (show ((w2.setCell ⟨g, K, none⟩ (.int .u8 (y / 256))).setCell ⟨g, K + 1, none⟩ (.int .u8 (y % 256))).ownsRow w.heap.size 5 1 (.slice (some ⟨g, 0, none⟩) n cap) n (byteCells L) by rw [← HP.out]; exact O4.out)
  clear c2 f2 c3 f3 O4
  go_loopw [9, 52] (fun v i wr => ∃ m : Nat, v = .bool (anyN (L.take m)) ∧ i = .int .i64 m ∧ m ≤ n ∧ wr.ownsRow w.heap.size 5 1 (.slice (some ⟨g, 0, none⟩) n cap) n (byteCells L) ∧ Below w.heap.size w wr) (fun _ i _ => match i with | .int _ x => (n - x).toNat | _ => 0)
  case atStart => exact ⟨0, rfl, rfl, by omega, O5.out, B4.out⟩
  case round =>
    obtain ⟨m, rfl, rfl, hm, hown, hB⟩ := hrel
    have O := Lib.hid hown
    have B := Lib.hid hB
    clear hown hB O5 B4
    by_cases hlt : m < n
    · have c5 := own_cellB O.out m hlt
      have N := Lib.hid (anyN_more L m (by rw [HL.out]; exact hlt))
      have x0 := bat_lo L m
      have x1 := bat_hi L m
      generalize bat L m = x at *
      cases hv : anyN (L.take m) with
      | true =>
        have M := Lib.hid (show anyN (L.take (m + 1)) = true by rw [N.out, hv]; rfl)
        clear hv N
        go_wp2
        go_roundw
        case rel => exact ⟨m + 1, by rw [M.out], by simp, by omega, O.out, B.out⟩
        case measure => simp only []; omega
      | false =>
        have M := Lib.hid (show anyN (L.take (m + 1)) = (x != 0) by rw [N.out, hv]; rfl)
        clear hv N
        go_wp2
        go_roundw
        case rel => exact ⟨m + 1, by rw [M.out], by simp, by omega, O.out, B.out⟩
        case measure => simp only []; omega
    · have M := Lib.hid (show anyN (L.take m) = anyN L by rw [List.take_of_length_le (by rw [HL.out]; omega)])
      have C2 := (B.out.cell (p := ⟨b, off + K, none⟩) hbb).trans C0.out
      have C3 := (B.out.cell (p := ⟨b, off + (K + 1), none⟩) hbb).trans C1.out
      have HSr := Lib.hid (HS.out.below B.out)
      have HLr := Lib.hid (BSl.of_own O.out)
      have hbr : b < wr.heap.size := Nat.lt_of_lt_of_le hbb B.out.size
      have x0 := bat_lo l K
      have x1 := bat_hi l K
      have z0 := bat_lo l (K + 1)
      have z1 := bat_hi l (K + 1)
      have HQ2 := Lib.hid (show anyN L = true → tF (65535 - sumF 0 l) (bat l K * 256 + bat l (K + 1)) y = 65535 - sumF 0 L from fun hv => HQ.out (anyN_some hv))
      generalize bat l K = x at *
      generalize bat l (K + 1) = z at *
      have o1 := or_i64 x z x0 x1 z0 z1
      have i6 : (K : Int) < (n : Int) := by omega
      have i7 : (K : Int) + 1 < (n : Int) := by omega
      have i8 : ((K : Int) + 1).toNat = K + 1 := by omega
      have i9 : 0 ≤ (K : Int) + 1 := by omega
      have iw : IntKind.i64.wrap ((K : Int) + 1) = (K : Int) + 1 := by rw [IntKind.wrap_i64]; omega
      have iw2 : IntKind.i64.wrap (x * 256) = x * 256 := by rw [IntKind.wrap_i64]; omega
      have iw3 : IntKind.i64.wrap y = y := by rw [IntKind.wrap_i64]; omega
      have iw4 : IntKind.i64.wrap x = x := by rw [IntKind.wrap_i64]; omega
      have iw5 : IntKind.i64.wrap z = z := by rw [IntKind.wrap_i64]; omega
      obtain ⟨s, hs⟩ : ∃ s, 65535 - sumF 0 l = s := ⟨_, rfl⟩
      obtain ⟨t, ht⟩ : ∃ t, 65535 - sumF 0 L = t := ⟨_, rfl⟩
      rw [hs, ht] at HQ2
      have HS1 := Lib.hid hs
      have HT1 := Lib.hid ht
      have hS : Pair wr b (off + K) (off + (K + 1)) x z wr.drew := ⟨C2, C3, below_drewN (Below.refl _ _) 1⟩
      have HS0 := Lib.hid hS
      clear hs ht C2 C3 HQ hS
      rw [M.out]
      cases hv : anyN L with
      | false =>
        go_wp2
        refine wp_region_text (Pair wr b (off + K) (off + (K + 1)) x z) (by kernel_rfl) (by kernel_rfl) HS0.out ?_
        repeat
          first
            | (refine Seq.pass rfl ?_; simp only [Act.put, List.setIfInBounds_toArray, List.set_cons_zero, List.set_cons_succ])
            | (refine Seq.run ?_ rfl (fun wx hx => ?_) ?_
               rotate_left
               · go_simp
                 refine StepRun.val ?_; exact hx
               simp only [Act.put, List.setIfInBounds_toArray, List.set_cons_zero, List.set_cons_succ])
        refine Seq.last (fun wx hx => ?_)
        go_wp2
        go_ret
        exact ⟨rfl, trans_below B.out hx.2.2⟩
      | true =>
        have Q := Lib.hid (HQ2.out hv)
        clear HQ2
        go_wp2
        refine wp_region_text (Pair wr b (off + K) (off + (K + 1)) x z) (by kernel_rfl) (by kernel_rfl) HS0.out ?_
        repeat
          first
            | (refine Seq.pass rfl ?_; simp only [Act.put, List.setIfInBounds_toArray, List.set_cons_zero, List.set_cons_succ])
            | (refine Seq.run ?_ rfl (fun wx hx => ?_) ?_
               rotate_left
               · have hx2 := hx
                 obtain ⟨h0, h1, h2⟩ := hx2
                 go_simp
                 first
                   | (refine StepRun.val ?_; exact hx)
                   | (refine StepRun.call (v := .int .i64 s) ?_; (with_reducible refine Calls.mono (of_any (some ⟨b, off, none⟩) n c l _ (HSr.out.below h2) s HS1.out) ?_); rintro e w' ⟨rfl, hb⟩; exact ⟨rfl, hx.keep hbr hb⟩)
                   | (refine StepRun.call (v := .int .i64 t) ?_; (with_reducible refine Calls.mono (of_any (some ⟨g, 0, none⟩) n cap L _ (HLr.out.below h2) t HT1.out) ?_); rintro e w' ⟨rfl, hb⟩; exact ⟨rfl, hx.keep hbr hb⟩)
                   | (refine StepRun.call (v := .int .i64 t) ?_; (with_reducible refine Calls.mono (turn_any s (x * 256 + z) y _) ?_); rintro e w' ⟨rfl, hb⟩; exact ⟨by rw [Q.out], hx.keep hbr hb⟩)
               simp only [Act.put, List.setIfInBounds_toArray, List.set_cons_zero, List.set_cons_succ])
        refine Seq.last (fun wx hx => ?_)
        go_wp2
        go_ret
        exact ⟨by simp, trans_below B.out hx.2.2⟩

theorem change_walk (A : Option Addr) (n c : Nat) (l : List UInt8) (k y : Int) (w : World) (h : BSl w A n c l) (k0 : 0 ≤ k) (k1 : k < 65536) (y0 : 0 ≤ y) (y1 : y < 65536) :
    Calls Try.prog 6 #[.slice A n c, .int .u16 k, .int .u16 y] w fun e w' => e = .returned (.bool true) ∧ Below w.heap.size w w' := by
  by_cases ho : n % 2 = 1 ∨ n = 0 ∨ 3000 < n
  · exact change_out A n c k y w ho
  · exact change_in A n c l k y w h (by omega) (by omega) (by omega) k0 k1 y0 y1
end Go.Proofs.Ytcilbnfbmnfknaa
