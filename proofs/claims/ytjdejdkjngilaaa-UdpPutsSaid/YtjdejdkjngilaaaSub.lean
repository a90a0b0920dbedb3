/- Pieces of a row; the contract of bytes.Clone. -/
import Derived.Test.YtjdejdkjngilaaaStr
import Derived.Lib.SliceRun
namespace Go.Proofs.Ytjdejdkjngilaaa
open Go.RowKit
open Go.Lib (byteCells)

/-- a piece of a row: 's[k:m]' -/
theorem BSl.sub {w : World} {b off n c : Nat} {l : List UInt8} (h : BSl w (some ⟨b, off, none⟩) n c l) (k m : Nat) (hm : k + m ≤ n) : BSl w (some ⟨b, off + k, none⟩) m (c - k) ((l.drop k).take m) := by
  have hlen := h.len
  have hle := h.le
  have hcap := h.1.2.2.1
  refine ⟨⟨by rw [nums_len, List.length_take, List.length_drop]; omega, by omega, by omega, fun hn => ?_⟩, fun e => by cases e⟩
  obtain ⟨b', off', e, hb, hc⟩ := h.at_ (by omega)
  cases e
  refine ⟨b, off + k, rfl, hb, fun j hj => ?_⟩
  rw [Nat.add_assoc, hc (k + j) (by omega), nums_getD _ _ (by rw [List.length_take, List.length_drop]; omega)]
  simp [bat, List.getD, hj]
theorem BSl.head {w : World} {A : Option Addr} {n c : Nat} {l : List UInt8} (h : BSl w A n c l) (m : Nat) (hm : m ≤ n) : BSl w A m c (l.take m) := by
  have hlen := h.len
  have hle := h.le
  have hcap := h.1.2.2.1
  refine ⟨⟨by rw [nums_len, List.length_take]; omega, by omega, by omega, fun hn => ?_⟩, h.2⟩
  obtain ⟨b, off, e, hb, hc⟩ := h.at_ (by omega)
  refine ⟨b, off, e, hb, fun j hj => ?_⟩
  rw [hc j (by omega), nums_getD _ _ (by rw [List.length_take]; omega)]
  simp [bat, List.getD, hj]

set_option maxHeartbeats 1000000 in
theorem clone_any (A : Option Addr) (n c : Nat) (l : List UInt8) (w : World) (h : BSl w A n c l) (hn : n ≤ 1000000) :
    Calls Try.prog 15 #[.slice A n c] w fun e w' => ∃ v, e = .returned v ∧ w'.ownsRow w.heap.size 5 1 v n (byteCells l) ∧ Below w.heap.size w w' := by
  obtain ⟨i0, hi, hz0, hz1, hz2⟩ := info_parts Try.info5
  have Hi := Lib.hid hi; have Hz0 := Lib.hid hz0; have Hz1 := Lib.hid hz1; have Hz2 := Lib.hid hz2
  clear hi hz0 hz1 hz2
  rcases A with _ | ad
  · have hc := h.2 rfl
    have hle := h.le
    obtain rfl : n = 0 := by omega
    subst hc
    obtain rfl : l = [] := List.eq_nil_of_length_eq_zero h.len
    clear h hle
    have hq := Lib.run_eql_slice_nil (P := Try.prog) w 22 5 none 0 0 0 0 Try.underlying22
    go_enter Try.func15, Try.ntmps15
    go_wp2
    go_ret
    exact ⟨_, rfl, World.ownsRow_nil _ _ _ _, Below.refl _ _⟩
  · have HS := Lib.hid h
    clear h
    have hq := Lib.run_eql_slice_nil (P := Try.prog) w 22 5 (some ad) n c 0 0 Try.underlying22
    go_enter Try.func15, Try.ntmps15
    go_wp2_with (at_builtin; refine wpList_bapp rfl (.tmp 5) (.tmp 6) 22 rfl w.heap.size 5 i0 (.int .u8 0) 1 Try.underlying22 Hi.out Hz0.out Hz1.out Hz2.out rfl _ _ _ (by rfl) (own_new w w.heap.size (Nat.le_refl _)) (some ad) n c l (by rfl) (HS.out.alloc _) (by unfold maxLen; omega) (by omega) (by simp) ?_; intro v2 w2 hown2 hgrow2; simp only [Nat.zero_add, List.nil_append] at hown2; have B2 := below_app ((Below.refl w.heap.size w).alloc (Nat.le_refl _) _) (own_new w w.heap.size (Nat.le_refl _)) hgrow2)
    go_ret
    exact ⟨_, rfl, hown2, B2⟩
end Go.Proofs.Ytjdejdkjngilaaa
