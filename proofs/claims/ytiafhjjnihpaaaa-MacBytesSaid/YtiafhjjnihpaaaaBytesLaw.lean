/- The walk of the statement MacBytes. -/
import Derived.Test.YtiafhjjnihpaaaaWorks
import Derived.Test.YtiafhjjnihpaaaaAppend
import Derived.Deep.RegionHeldLaw
namespace Go.Proofs.Ytiafhjjnihpaaaa
open Go.RowKit

/-- what is told of a slice of bytes that came in -/
def IsRow (k : IntKind) (w : World) (a : Option Addr) (len cap : Nat) (zs : List Int) : Prop :=
  (a = none ∧ len = 0 ∧ cap = 0 ∧ zs = []) ∨
  ∃ x, a = some x ∧ len ≤ cap ∧ cap ≤ maxLen ∧ zs.length = cap ∧ (∀ i, i < zs.length → w.cell? (x.add i) = some (.int k (zs.getD i 0))) ∧ ∀ n ∈ zs, (Lit.int k n).wf = true
theorem IsRow.le {k : IntKind} {w : World} {a : Option Addr} {len cap : Nat} {zs : List Int} (h : IsRow k w a len cap zs) : len ≤ cap ∧ cap ≤ maxLen ∧ zs.length = cap := by
  rcases h with ⟨_, rfl, rfl, rfl⟩ | ⟨x, _, h1, h2, h3, _⟩
  · exact ⟨Nat.le_refl _, Nat.zero_le _, rfl⟩
  · exact ⟨h1, h2, h3⟩
theorem IsRow.src {w : World} {a : Option Addr} {len cap : Nat} {zs : List Int} (h : IsRow .u8 w a len cap zs) : Src w a len cap ((zs.take len).map (Value.int .u8)) := by
  rcases h with ⟨rfl, rfl, rfl, rfl⟩ | ⟨x, rfl, h1, h2, h3, h4, _⟩
  · exact ⟨rfl, .inl ⟨rfl, rfl, rfl⟩⟩
  · refine ⟨by simp; omega, .inr ⟨x, rfl, fun j u hu => ?_⟩⟩
    have hj : j < len := by
      rcases Nat.lt_or_ge j len with hj | hj
      · exact hj
      · rw [List.getElem?_map, List.getElem?_take, if_neg (by omega)] at hu; cases hu
    rw [List.getElem?_map, List.getElem?_take, if_pos hj] at hu
    rw [h4 j (by omega)]
    rw [List.getElem?_eq_getElem (by omega)] at hu
    simp at hu
    rw [← hu]
    simp [List.getD, List.getElem?_eq_getElem (show j < zs.length by omega)]
theorem IsRow.get {w : World} {a : Option Addr} {len cap : Nat} {zs : List Int} (h : IsRow .u8 w a len cap zs) (hl : 0 < len) : ∃ b off, a = some ⟨b, off, none⟩ ∧ ∀ i, i < len → w.cell? ⟨b, off + i, none⟩ = some (.int .u8 (zs.getD i 0)) ∧ 0 ≤ zs.getD i 0 ∧ zs.getD i 0 < 256 := by
  rcases h with ⟨_, rfl, _⟩ | ⟨x, rfl, h1, h2, h3, h4, h5⟩
  · omega
  · obtain ⟨b, off, spot⟩ := x
    have hc := h4 0 (by omega)
    have hspot : spot = none := by simpa [Addr.add] using World.cell?_spot hc
    subst hspot
    refine ⟨b, off, rfl, fun i hi => ?_⟩
    have hci := h4 i (by omega)
    have hw := h5 (zs.getD i 0) (by simp [List.getD, List.getElem?_eq_getElem (show i < zs.length by omega)])
    simp [Lit.wf, IntKind.min, IntKind.max, IntKind.signed, IntKind.bits] at hw
    refine ⟨?_, by simpa [List.getD] using hw.1, by have := hw.2; simp [List.getD]; omega⟩
    have : (⟨b, off, none⟩ : Addr).add i = ⟨b, off + i, none⟩ := by unfold Addr.add; split <;> simp_all
    rw [← this]
    exact hci
theorem own_shape {w : World} {B n : Nat} {e : TypeId} {v : Value} {xs : List Value} (h : w.ownsRow B e 1 v n xs) : ∃ A c, v = .slice A n c := by
  rcases h.2 with ⟨rfl, rfl⟩ | ⟨g, cap, cur, rfl, _⟩
  · exact ⟨_, _, rfl⟩
  · exact ⟨_, _, rfl⟩
/-- owned bytes as a block, and the text that they are turned into, wherever the block is as it was -/
theorem conv_own {w : World} {B n : Nat} {v : Value} {ns : List Int} (hown : w.ownsRow B 5 1 v n (ns.map (Value.int .u8))) (hn : 0 < n) :
    ∃ g cap cur, v = .slice (some ⟨g, 0, none⟩) n cap ∧ w.heap[g]? = some (.cells cur 5) ∧
      ∀ W : World, W.heap[g]? = some (.cells cur 5) → (convert 34 9 (.slice (some ⟨g, 0, none⟩) n cap)).run Try.prog W = .ok (.string (strOf ns)) W := by
  have hl : ns.length = n := by have := hown.1; simpa using this
  rcases hown.2 with ⟨_, h0⟩ | ⟨g, cap, cur, rfl, hg, hh, hc, hm, hs, ht⟩
  · omega
  · refine ⟨g, cap, cur, rfl, hh, fun W hW => ?_⟩
    have ho : W.ownsRow 0 5 1 (.slice (some ⟨g, 0, none⟩) n cap) n (ns.map (Value.int .u8)) := ⟨by simp [hl], .inr ⟨g, cap, cur, rfl, Nat.zero_le _, hW, hc, hm, hs, ht⟩⟩
    exact run_string_own W 0 _ ns (by rw [hl]; exact ho)
theorem lt_of_blk {w : World} {g : Nat} {o : Obj} (h : w.heap[g]? = some o) : g < w.heap.size := (Array.getElem?_eq_some_iff.1 h).1
theorem blk_below {w w' : World} {g : Nat} {o : Obj} (h : w.heap[g]? = some o) (hb : Below w.heap.size w w') : w'.heap[g]? = some o := (hb.block g (lt_of_blk h)).trans h

set_option maxRecDepth 100000 in
set_option maxHeartbeats 2000000 in
theorem bytes_main (A : Option Addr) (len cap : Nat) (i : Int) (X : Int) (K : Bool) (bs : List Int) (m : Int) (w : World) (h3 : len ≤ 3000)
    (h0 : 0 ≤ m) (h1 : m < 18446744073709551616) (hsrc : Src w A len cap (bs.map (Value.int .u8)))
    (ht : Calls Try.prog 19 #[.slice A len cap, .int .i64 i] w fun e w' => e = .returned (.tuple #[.int .u64 X, .bool K]) ∧ w = w')
    (hr : Calls Try.prog 20 #[.slice A len cap, .int .i64 i] w fun e w' => e = .returned (.tuple #[.int .u64 X, .bool K]) ∧ w = w') :
    Calls Try.prog 5 #[.slice A len cap, .int .i64 i, .int .u64 m] w fun e w' => e = .returned (.bool true) ∧ Below w.heap.size w w' := by
  have HT := Lib.hid ht
  have HR := Lib.hid hr
  have HS := Lib.hid hsrc
  obtain ⟨i0, hi, hz0, hz1, hz2⟩ := info_parts Try.info5
  have Hi := Lib.hid hi; have Hz0 := Lib.hid hz0; have Hz1 := Lib.hid hz1; have Hz2 := Lib.hid hz2
  have hownE : (w.drew.alloc (.cells #[] 5)).ownsRow w.heap.size 5 1 (.slice (some ⟨w.heap.size, 0, none⟩) 0 0) 0 [] := World.ownsRow_lit w.drew #[] 0 (Nat.le_refl _) (by unfold maxLen; omega) rfl
  have HE := Lib.hid hownE
  have HB := Lib.hid (((Below.refl w.heap.size w).drew).alloc (Nat.le_refl _) (.cells #[] 5))
  clear ht hr hsrc hi hz0 hz1 hz2 hownE
  go_enter Try.func5, Try.ntmps5
  go_wp2_with (first
    | (go_at_call 19; refine HT.out.mono ?_; rintro e w' ⟨rfl, rfl⟩)
    | (go_at_call 20; refine HR.out.mono ?_; rintro e w' ⟨rfl, rfl⟩))
  go_region_held_law (fun _ => True) (trivial) (first
    | ((refine step_app (by rfl) (.tmp 36) (.tmp 37) 34 (by rfl) w.heap.size 5 i0 (.int .u8 0) 1 Try.underlying34 Hi.out Hz0.out Hz1.out Hz2.out rfl _ _ _ (by rfl) HE.out A len cap (bs.map (Value.int .u8)) (by rfl) (HS.out.alloc _) (ints_one bs) (by unfold maxLen; omega) (by omega) (by simp) ?_; intro v1 w1 hown1 hgrow1; have hb1 := below_app HB.out HE.out hgrow1; simp only [Nat.zero_add, List.nil_append] at hown1; obtain ⟨A1, c1, rfl⟩ := own_shape hown1))
    | (go_at_call 21; (with_reducible refine (put_any A1 len c1 bs m _ (by omega) (Src.own hown1)).mono ?_); rintro e w2 ⟨v2, rfl, hown2, hb2⟩; obtain ⟨g2, cap2, cur2, rfl, hk2, hconv2⟩ := conv_own hown2 (by omega))
    | (go_at_call 22; (with_reducible refine (refPut_any A len cap bs m _ (by omega) h0 h1 ((HS.out.below hb1).below hb2)).mono ?_); rintro e w3 ⟨v3, rfl, hown3, hb3⟩; obtain ⟨g3, cap3, cur3, rfl, hk3, hconv3⟩ := conv_own hown3 (by omega); have hk23 := blk_below hk2 hb3)
    | (go_at_call 12; refine (works_any _).mono ?_; rintro e w4 ⟨rfl, hb4⟩))
  all_goals
    have b2 := hb1.trans (hb2.mono hb1.size)
    have b3 := b2.trans (hb3.mono b2.size)
    have b4 := b3.trans (hb4.mono b3.size)
    clear hb1 hb2 hb3 hb4 b2 b3 hk2 hk3 hk23 hconv2 hconv3
    go_wp2
    go_ret
    exact ⟨rfl, b4⟩

theorem bytes_long (A : Option Addr) (len cap : Nat) (i : Int) (m : Int) (w : World) (h3 : ¬ len ≤ 3000) :
    Calls Try.prog 5 #[.slice A len cap, .int .i64 i, .int .u64 m] w fun e w' => e = .returned (.bool true) ∧ Below w.heap.size w w' := by
  have h4 : (3000 : Int) < (len : Int) := by omega
  clear h3
  go_enter Try.func5, Try.ntmps5
  go_wp2_with (go_at_call 12; refine (works_any _).mono ?_; rintro e w4 ⟨rfl, hb4⟩)
  go_ret
  exact ⟨rfl, hb4⟩

theorem bytes_walk (A : Option Addr) (len cap : Nat) (zs : List Int) (i : Int) (m : Int) (w : World) (hrow : IsRow .u8 w A len cap zs) (h0 : 0 ≤ m) (h1 : m < 18446744073709551616) :
    Calls Try.prog 5 #[.slice A len cap, .int .i64 i, .int .u64 m] w fun e w' => e = .returned (.bool true) ∧ Below w.heap.size w w' := by
  obtain ⟨hl, hm, hz⟩ := hrow.le
  unfold maxLen at hm
  by_cases h3 : len ≤ 3000
  · by_cases hi : i < 0 ∨ (len : Int) - 6 < i
    · exact bytes_main A len cap i 0 false _ m w h3 h0 h1 hrow.src (take_no A len cap i w hl (by omega) hi) (refTake_no A len cap i w hi)
    · obtain ⟨at_, rfl⟩ := Int.eq_ofNat_of_zero_le (show 0 ≤ i by omega)
      obtain ⟨b, off, rfl, hcell⟩ := hrow.get (by omega)
      have hf : ∀ j, j < 6 → 0 ≤ (fun j => zs.getD (at_ + j) 0) j ∧ (fun j => zs.getD (at_ + j) 0) j < 256 := fun j hj => (hcell (at_ + j) (by omega)).2
      have hc : ∀ j, j < 6 → w.cell? ⟨b, off + (at_ + j), none⟩ = some (.int .u8 ((fun j => zs.getD (at_ + j) 0) j)) := fun j hj => (hcell (at_ + j) (by omega)).1
      exact bytes_main _ len cap _ _ true _ m w h3 h0 h1 hrow.src (take_yes b off len cap at_ _ w hl (by omega) (by omega) hf hc) (refTake_yes b off len cap at_ _ w hl (by omega) (by omega) hf hc)
  · exact bytes_long A len cap i m w h3
end Go.Proofs.Ytiafhjjnihpaaaa
