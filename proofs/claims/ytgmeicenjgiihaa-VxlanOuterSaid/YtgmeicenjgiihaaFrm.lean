/- The contract of ether.own (make and copy). -/
import Derived.Test.YtgmeicenjgiihaaBsl
namespace Go.Proofs.Ytgmeicenjgiihaa
open Go.RowKit
open Go.Lib (byteCells)

set_option maxHeartbeats 800000 in
theorem own_any (A : Option Addr) (n c : Nat) (l : List UInt8) (w : World) (hn : n ≤ 1000000) (h : BSl w A n c l) :
    Calls Try.prog 41 #[.slice A n c] w fun e w' => ∃ v, e = .returned v ∧ w'.ownsRow w.heap.size 5 1 v n (byteCells l) ∧ Below w.heap.size w w' := by
  obtain ⟨i0, hi, hz0, hz1, hz2⟩ := info_parts Try.info5
  have Hi := Lib.hid hi; have Hz0 := Lib.hid hz0; have Hz1 := Lib.hid hz1; have Hz2 := Lib.hid hz2
  have HS := Lib.hid h
  have HL := Lib.hid h.len
  have hsz := Lib.hid (show (Try.prog.info? 5).map (·.size) = some 1 by kernel_rfl)
  have HC := Lib.hid (show (byteCells l).length = Nat.min n n by rw [Lib.byteCells_length, h.len]; exact (Nat.min_self n).symm)
  clear hi hz0 hz1 hz2 h
  obtain ⟨cs, hcs⟩ : ∃ cs, cs = byteCells l := ⟨_, rfl⟩
  have HCS := Lib.hid hcs
  rw [← hcs] at HC
  have HL2 := Lib.hid (show cs.length = n by rw [HC.out]; exact Nat.min_self n)
  have HF := Lib.hid (show 0 + cs.length ≤ n by rw [HL2.out]; omega)
  have HP := Lib.hid (show ∀ w0 : World, Below w.heap.size w w0 → 0 < cs.length → (some (⟨w.heap.size, 0, none⟩ : Addr)) = some ⟨w.heap.size, 0, none⟩ ∧ ∃ ad, A = some ad ∧ ∀ j v, cs[j]? = some v → w0.cell? (ad.add j) = some v by
    intro w0 hb0 hp
    refine ⟨rfl, ?_⟩
    rcases (HS.out.below hb0).cells_ with ⟨_, rfl, _, _⟩ | ⟨ad, e, hc⟩
    · exact absurd HL2.out (by omega)
    · exact ⟨ad, e, by rw [hcs]; exact hc⟩)
  clear hcs
  go_enter Try.func41, Try.ntmps41
  go_wp2_with (first
    | (at_make; refine wpList_make_full _ rfl _ _ 22 rfl w.heap.size 5 i0 (.int .u8 0) 1 Try.underlying22 Hi.out Hz0.out Hz1.out .i64 .i64 _ _ n rfl rfl rfl rfl (by rw [Hz2.out]; omega) (by unfold maxLen; omega) (Nat.le_refl _) ?_; intro w0 hown0 hgrow0; have hb0 : Below w.heap.size w w0 := (Below.refl _ _).grown hgrow0 (Nat.le_refl _) (fun _ h => by cases h); obtain ⟨cur, hh, hcl, _, _, _⟩ := own_cur hown0; have HH := Lib.hid hh; have HCL := Lib.hid hcl; clear hh hcl hown0 hgrow0)
    | ((with_reducible refine wpList_copy_splice rfl (.tmp 7) (.tmp 8) 22 22 rfl 5 Try.underlying22 hsz.out (some ⟨w.heap.size, 0, none⟩) A n n n c rfl rfl w.heap.size 0 cur 5 HH.out cs HC.out (HP.out _ hb0) (by rw [HCL.out]; exact HF.out) (by rw [HCS.out]; exact bcells_one l) w.heap.size w hb0 (Nat.le_refl _) ?_); intro w2 HG2 hB2))
  go_ret
  refine ⟨_, rfl, ?_, hB2⟩
  have hl2 : cs.length = n := HL2.out
  have e : splice cur 0 cs = cs := by
    unfold splice
    rw [List.take_zero, List.nil_append, List.drop_eq_nil_of_le (by rw [HCL.out]; omega), List.append_nil]
  have hg := HG2.out
  rw [e] at hg
  have := own_of_blk (n := n) (B := w.heap.size) hg hl2 (Nat.le_refl _) (by unfold maxLen; omega) (Nat.le_refl _)
  rw [List.take_of_length_le (by omega), HCS.out] at this
  exact this
end Go.Proofs.Ytgmeicenjgiihaa
