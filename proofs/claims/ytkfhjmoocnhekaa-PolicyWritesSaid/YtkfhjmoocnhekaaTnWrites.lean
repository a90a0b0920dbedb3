/- The walk of PolicyWrites. -/
import Derived.Test.YtkfhjmoocnhekaaTnWorks
import Derived.Test.YtkfhjmoocnhekaaSeq
namespace Go.Proofs.Ytkfhjmoocnhekaa
open Go.RowKit

set_option maxRecDepth 20000 in
set_option maxHeartbeats 4000000 in
theorem pwrites_main (A : Option Addr) (n c : Nat) (xs : List TV) (B : Option Addr) (m d : Nat) (ys : List TV) (w : World) (h : RSl tenR w (allB w) A n c xs) (g : RSl tenR w (allB w) B m d ys) :
    Calls Try.prog 4 #[.slice A n c, .slice B m d] w fun e w' => e = .returned (.bool true) ∧ Below w.heap.size w w' := by
  have H := Lib.hid h
  have G := Lib.hid g
  have GL := Lib.hid (great14_any A n c xs w h)
  have GM := Lib.hid (great14_any B m d ys w g)
  unfold GotG at GL GM
  have hle := h.le
  have hcap := h.cap
  have HLN := Lib.hid h.len
  clear h g
  go_enter Try.func4, Try.ntmps4
  go_wp2_with (go_at_call 10; (with_reducible refine GL.out.mono ?_); rintro e w1 ⟨g1, rfl, hg1, hw1⟩; subst hw1; cases g1)
  rotate_left
  · go_wp2_with (go_at_call 6; (with_reducible refine (works14_any _).mono ?_); rintro e w2 ⟨rfl, b2⟩)
    go_ret
    exact ⟨rfl, b2⟩
  go_wp2_with (go_at_call 10; (with_reducible refine GM.out.mono ?_); rintro e w1 ⟨g2, rfl, hg2, hw1⟩; subst hw1; cases g2)
  rotate_left
  · go_wp2_with (go_at_call 6; (with_reducible refine (works14_any _).mono ?_); rintro e w2 ⟨rfl, b2⟩)
    go_ret
    exact ⟨rfl, b2⟩
  have l40 := (hg1 trivial).1
  have SZ := Lib.hid (hg1 trivial).2
  clear hg1 hg2 GL GM
  have UP := Lib.hid (show ∀ (w' : World), Below w.heap.size w w' → RSl tenR w' (allB w') A n c xs from fun w' hb => H.out.keep (fun b h => hb.block b h) (fun b h => Nat.lt_of_lt_of_le h hb.size))
  have XT := xptext_any A n c xs w H.out l40 SZ.out
  have RT : ∀ w', Below w.heap.size w w' → Calls Try.prog 12 #[.slice A n c] w' fun e w'' => e = .returned (.tuple #[.string (str (tpO xs)), .int .i64 (tpE xs)]) ∧ Below w'.heap.size w' w'' := fun w' hb => rptext_any A n c xs w' (UP.out w' hb) l40 SZ.out
  generalize tpO xs = O at *
  generalize tpE xs = E at *
  have XT := Lib.hid XT
  have RT := Lib.hid RT
  obtain ⟨V, hV⟩ : ∃ V, smP xs ys = V := ⟨_, rfl⟩
  have XS := fun (w' : World) hb => xpsame_any A n c B m d xs ys w' _ _ (UP.out w' hb) (G.out.keep (w' := w') (F' := allB w') (fun b h => hb.block b h) (fun b h => Nat.lt_of_lt_of_le h hb.size))
  rw [hV] at XS
  have XS := Lib.hid XS
  have RS := Lib.hid (fun (w' : World) hb => rpsame_any A n c B m d xs ys w' _ _ (UP.out w' hb) (G.out.keep (w' := w') (F' := allB w') (fun b h => hb.block b h) (fun b h => Nat.lt_of_lt_of_le h hb.size)) V hV)
  have bs : (O == O) = true := by simp
  have bv : (V == V) = true := by simp
  clear hV
  go_wp2_with (first
    | (go_at_call 11; (with_reducible refine XT.out.mono ?_); rintro e w2 ⟨A2, n2, c2, rfl, s2, b2⟩; have S2 := Lib.hid s2; have B2 := Lib.hid b2; clear s2 b2)
    | (go_at_call 12; (with_reducible refine (RT.out _ B2.out).mono ?_); rintro e w3 ⟨rfl, b3⟩; have S3 := Lib.hid (S2.out.below b3); have B3 := Lib.hid (trans_below B2.out b3); clear b3))
  go_loopw [9] (fun i wr => ∃ k : Nat, i = .int .i64 k ∧ k ≤ n ∧ Below w3.heap.size w3 wr) (fun i _ => match i with | .int _ x => (n - x).toNat | _ => 0)
  case atStart => exact ⟨0, rfl, by omega, Below.refl _ _⟩
  case round =>
    obtain ⟨k, rfl, hk, hb⟩ := hrel
    have W := Lib.hid hb
    have W0 := Lib.hid (trans_below B3.out hb)
    clear hb
    by_cases hlt : k < n
    · obtain ⟨b0, o0, s1, s2, rfl, _, hb0, l1, l2, r0⟩ := tens_rd H.out k hlt
      have hk2 : k < xs.length := by rw [HLN.out]; exact hlt
      have hT := SZ.out (xs.getD k TV.zero) (by simp [List.getD, hk2])
      generalize xs.getD k TV.zero = T at *
      have KP := Lib.hid (show ∀ wx, Below w.heap.size w wx → wx.cell? ⟨b0, o0 + k * 4, none⟩ = some (.int .i64 T.row) ∧ wx.cell? ⟨b0, o0 + k * 4 + 1, none⟩ = some (.string (str T.name)) ∧ wx.cell? ⟨b0, o0 + k * 4 + 2, none⟩ = some (.slice s1.A s1.n s1.c) ∧ wx.cell? ⟨b0, o0 + k * 4 + 3, none⟩ = some (.slice s2.A s2.n s2.c) from fun wx hx => by
        have r1 := rangeAt_keep r0 (hx.block b0 hb0)
        exact ⟨r1 0 _ rfl, r1 1 _ rfl, r1 2 _ rfl, r1 3 _ rfl⟩)
      have XR := fun (w' : World) (hb : Below w.heap.size w w') => xpright_any T s1 s2 w' _ (l1.below (fun _ h => h) hb) (l2.below (fun _ h => h) hb) (fun b h => Nat.lt_of_lt_of_le h hb.size) hT
      have RR := fun (w' : World) (hb : Below w.heap.size w w') => rpright_any T s1 s2 w' _ (l1.below (fun _ h => h) hb) (l2.below (fun _ h => h) hb) (fun b h => Nat.lt_of_lt_of_le h hb.size) hT
      unfold tenV at XR RR
      generalize rgTB T = v at *
      have XR := Lib.hid XR
      have RR := Lib.hid RR
      have bvv : (v != v) = false := by simp
      have lt2 : (k : Int) < (n : Int) := by omega
      clear l1 l2 r0 hT hk2
      go_wp2
      refine wp_region_text (fun wx => Below wr.heap.size wr wx) (by kernel_rfl) (by kernel_rfl) ((Below.refl _ _).drew) ?_
      repeat
        first
          | (refine Seq.pass rfl ?_; simp only [Act.put, List.setIfInBounds_toArray, List.set_cons_zero, List.set_cons_succ])
          | (refine Seq.run ?_ rfl (fun wx hx => ?_) ?_
             rotate_left
             · have hx0 := trans_below W0.out hx
               obtain ⟨c0, c1, c2, c3⟩ := KP.out wx hx0
               go_simp
               first
                 | (refine StepRun.val ?_; exact hx)
                 | (refine StepRun.call (v := .bool v) ?_; (with_reducible refine Calls.mono (XR.out _ hx0) ?_); rintro e w' ⟨rfl, hb⟩; exact ⟨rfl, trans_below hx hb⟩)
                 | (refine StepRun.call (v := .bool v) ?_; (with_reducible refine Calls.mono (RR.out _ hx0) ?_); rintro e w' ⟨rfl, hb⟩; exact ⟨rfl, trans_below hx hb⟩)
             simp only [Act.put, List.setIfInBounds_toArray, List.set_cons_zero, List.set_cons_succ])
      refine Seq.last (fun w5 h5 => ?_)
      go_wp2
      go_roundw
      case rel => exact ⟨k + 1, by simp, by omega, trans_below W.out h5⟩
      case measure => simp only []; omega
    · have lt2 : ¬ (k : Int) < (n : Int) := by omega
      have cv := run_string_bsl wr A2 n2 c2 O (S3.out.below W.out)
      go_wp2_with (first
        | (go_at_call 15; (with_reducible refine (XS.out _ W0.out).mono ?_); rintro e w5 ⟨rfl, b5⟩; have W5 := Lib.hid (trans_below W0.out b5); clear b5)
        | (go_at_call 16; (with_reducible refine (RS.out _ W5.out).mono ?_); rintro e w6 ⟨rfl, b6⟩; have W6 := Lib.hid (trans_below W5.out b6); clear b6)
        | (go_at_call 6; (with_reducible refine (works14_any _).mono ?_); rintro e w7 ⟨rfl, b7⟩; have W7 := Lib.hid (trans_below W6.out b7); clear b7))
      go_ret
      exact ⟨rfl, W7.out⟩
end Go.Proofs.Ytkfhjmoocnhekaa
