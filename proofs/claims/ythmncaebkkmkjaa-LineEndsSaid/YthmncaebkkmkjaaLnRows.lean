/- The contract of palingref10.Rows. -/
import Derived.Test.YthmncaebkkmkjaaLnTexts
import Derived.Test.YthmncaebkkmkjaaBsl
namespace Go.Proofs.Ythmncaebkkmkjaa
open Go.RowKit
open Go.Lib (byteCells)

/-- texts and a number, as a call returns them -/
def GotS (w : World) (ps : List (List UInt8)) (E : Int) (e : Ending) (w' : World) : Prop := ∃ A n c, e = .returned (.tuple #[.slice A n c, .int .i64 E]) ∧ SSl w' A n c ps ∧ Below w.heap.size w w'
/-- texts beside no error, else none -/
def os (E : Int) (ps : List (List UInt8)) : List (List UInt8) := if E = 0 then ps else []
theorem os_ok {ps : List (List UInt8)} : os 0 ps = ps := rfl
theorem os_no {E : Int} {ps : List (List UInt8)} (h : ¬ E = 0) : os E ps = [] := by unfold os; rw [if_neg h]
/-- what Rows comes to -/
def GotRows (w : World) (l : List UInt8) : Ending → World → Prop := GotS w (os (rwE l) (rwF l)) (rwE l)
theorem own_texts {w : World} {B n : Nat} {e : TypeId} {v : Value} {ps : List (List UInt8)} (h : w.ownsRow B e 1 v n (txts ps)) : ∃ A c, v = .slice A n c ∧ SSl w A n c ps := by
  obtain ⟨A, c, rfl⟩ := own_shape h
  exact ⟨A, c, rfl, SSl.of_own h⟩
theorem rwS_take (l : List UInt8) (k : Nat) (h : k < l.length) : l.take (k + 1) = l.take k ++ [l.getD k 0] := by
  rw [List.take_succ_eq_append_getElem h]
  simp [List.getD, h]
theorem rest_sub (l : List UInt8) (k f : Nat) (h : k ≤ l.length) (hf : f + (rwS (l.take k)).2.length = k) : (l.drop f).take (k - f) = (rwS (l.take k)).2 := by
  have := rwS_drop (l.take k)
  rw [List.length_take, Nat.min_eq_left h, show k - (rwS (l.take k)).2.length = f by omega] at this
  rw [← this, List.drop_take]
theorem bat_ten (l : List UInt8) (k : Nat) : (bat l k = 10) ↔ l.getD k 0 = 10 := by
  unfold bat
  constructor
  · intro h
    exact UInt8.toNat_inj.1 (by show (l.getD k 0).toNat = 10; omega)
  · intro h
    rw [h]
    rfl

theorem rrows_big (A : Option Addr) (n c : Nat) (w : World) (h : 20000 < n) : Calls Try.prog 9 #[.slice A n c] w fun e w' => e = .returned (.tuple #[.slice none 0 0, .int .i64 3]) ∧ w = w' := by
  go_enter Try.func9, Try.ntmps9
  go_wp2
  go_ret2
  exact ⟨rfl, rfl⟩
set_option maxRecDepth 20000 in
set_option maxHeartbeats 2000000 in
theorem rrows_any (A : Option Addr) (n c : Nat) (l : List UInt8) (w : World) (h : BSl w A n c l) : Calls Try.prog 9 #[.slice A n c] w (GotRows w l) := by
  have hl := h.len
  unfold GotRows
  by_cases hn : 20000 < n
  · rw [rwE_big (by omega), os_no (by decide)]
    exact (rrows_big A n c w hn).mono fun _ _ ⟨he, hb⟩ => ⟨none, 0, 0, he, SSl.nil, by subst hb; exact Below.refl _ _⟩
  · obtain ⟨i0, hi, hz0, hz1, hz2⟩ := info_parts Try.info9
    have Hi := Lib.hid hi; have Hz0 := Lib.hid hz0; have Hz1 := Lib.hid hz1; have Hz2 := Lib.hid hz2
    clear hi hz0 hz1 hz2
    have EM := Lib.hid (rwE_many (l := l) (by omega))
    have EO := Lib.hid (rwE_ok (l := l) (by omega))
    have H := Lib.hid h
    have HL := Lib.hid hl
    have hle := h.le
    have hcap := h.cap
    have in0 : ¬ (20000 : Int) < (n : Int) := by omega
    generalize hE : rwE l = E at *
    clear h hl hE
    go_enter Try.func9, Try.ntmps9
    go_wp2
    go_loopw [4, 5, 6] (fun v vf vi wr => ∃ k f : Nat, vi = .int .i64 k ∧ vf = .int .i64 f ∧ k ≤ n ∧ f + (rwS (l.take k)).2.length = k ∧ wr.ownsRow w.heap.size 9 1 v (rwS (l.take k)).1.length (txts (rwS (l.take k)).1) ∧ Below w.heap.size w wr) (fun _ _ vi _ => match vi with | .int _ x => (n - x).toNat | _ => 0)
    case atStart => exact ⟨0, 0, rfl, rfl, by omega, rfl, World.ownsRow_nil _ _ _ _, Below.refl _ _⟩
    case round =>
      obtain ⟨k, f, rfl, rfl, hk, hf, ho, hb⟩ := hrel
      have O := Lib.hid ho
      have B := Lib.hid hb
      clear ho hb
      have KL := rwS_len (l.take k)
      rw [List.length_take] at KL
      have KL2 : (rwS (l.take k)).1.length ≤ 20000 := by omega
      clear KL
      by_cases hlt : k < n
      · obtain ⟨b0, o0, rfl, hb0, hc0⟩ := H.out.at_ (by omega)
        have c0 := (B.out.cell (p := ⟨b0, o0 + k, none⟩) hb0).trans (hc0 k hlt)
        have NX := Lib.hid (rwS_take l k (by rw [HL.out]; exact hlt))
        have T := Lib.hid (bat_ten l k)
        have RS := Lib.hid (rest_sub l k f (by rw [HL.out]; exact hk) hf)
        clear hc0
        by_cases e : bat l k = 10
        · have S := Lib.hid (show rwS (l.take (k + 1)) = ((rwS (l.take k)).1 ++ [(rwS (l.take k)).2], []) by rw [NX.out, T.out.1 e, rwS_end])
          have CV := run_string_bsl wr (some ⟨b0, o0 + f, none⟩) (k - f) (c - f) (rwS (l.take k)).2 (by have := (H.out.below B.out).sub f (k - f) (by omega); rw [RS.out] at this; exact this)
          generalize (rwS (l.take k)).2 = r at *
          generalize (rwS (l.take k)).1 = q at *
          generalize bat l k = x at *
          subst e
          have f0 : (f : Int) ≤ (k : Int) := by omega
          have f1 : (k : Int) ≤ (c : Int) := by omega
          have f2 : f ≤ k := by omega
          have f3 : k ≤ c := by omega
          have f4 : ¬ c = f := by omega
          have hlt2 : (k : Int) < (n : Int) := by omega
          clear T RS NX hf
          go_wp2_with (at_builtin; refine wpList_tapp rfl (.tmp 21) (.tmp 27) 24 rfl w.heap.size 9 i0 (.string ⟨#[]⟩) 16 Try.underlying24 Hi.out Hz0.out Hz1.out Hz2.out rfl _ _ q (by rfl) O.out r wr.heap.size rfl (by rfl) (by unfold maxLen; omega) (by omega) B.out.size ?_; intro v3 w3 hown3 hgrow3; have B3 := Lib.hid (below_app (B.out.alloc B.out.size _) (O.out.alloc _) hgrow3); have O3 := Lib.hid hown3; clear hown3 hgrow3)
          go_roundw
          case rel => exact ⟨k + 1, k + 1, by simp, by simp, by omega, by rw [S.out]; simp, by rw [S.out]; simpa using O3.out, B3.out⟩
          case measure => simp only []; omega
        · have e2 : ¬ l.getD k 0 = 10 := fun g => e (T.out.2 g)
          have S := Lib.hid (show rwS (l.take (k + 1)) = ((rwS (l.take k)).1, (rwS (l.take k)).2 ++ [l.getD k 0]) by rw [NX.out, rwS_other _ _ e2])
          have hlt2 : (k : Int) < (n : Int) := by omega
          generalize bat l k = x at *
          clear T RS NX e2
          go_wp2
          go_roundw
          case rel => exact ⟨k + 1, f, by simp, rfl, by omega, by rw [S.out]; simp; omega, by rw [S.out]; exact O.out, B.out⟩
          case measure => simp only []; omega
      · obtain rfl : k = n := by omega
        have LT : l.take k = l := List.take_of_length_le (by rw [HL.out]; omega)
        have O1 := O.out
        have RS := Lib.hid (rest_sub l k f (by rw [HL.out]; omega) hf)
        rw [LT] at hf KL2 O1 RS
        clear O
        by_cases e : (rwS l).2 = []
        · have RF := Lib.hid (show rwF l = (rwS l).1 by unfold rwF; rw [if_pos e])
          rw [e] at hf
          simp at hf
          subst hf
          obtain ⟨A1, c1, rfl, S1⟩ := own_texts O1
          have EM2 := EM.out
          have EO2 := EO.out
          rw [RF.out] at EM2 EO2
          generalize (rwS l).1 = q at *
          obtain ⟨m, hm⟩ : ∃ m, q.length = m := ⟨_, rfl⟩
          have HM := Lib.hid hm
          rw [hm] at EM2 EO2 KL2
          have S2 := Lib.hid (show SSl wr A1 m c1 q by rw [← HM.out]; exact S1)
          have hmi : ((q.length : Nat) : Int) = (m : Int) := by omega
          clear S1 O1 e LT EM EO RS hm
          by_cases g : 400 < m
          · have hg : (400 : Int) < (m : Int) := by omega
            have E2 := EM2 g
            subst E2
            go_wp2
            go_ret2
            exact ⟨none, 0, 0, rfl, by rw [os_no (by decide)]; exact SSl.nil, B.out⟩
          · have hg : ¬ (400 : Int) < (m : Int) := by omega
            have E2 := EO2 g
            subst E2
            go_wp2
            go_ret2
            exact ⟨A1, m, c1, by rw [HM.out]; rfl, by rw [RF.out]; exact S2.out, B.out⟩
        · have RF := Lib.hid (show rwF l = (rwS l).1 ++ [(rwS l).2] by unfold rwF; rw [if_neg e])
          have hfl : f < k := by
            have : 0 < (rwS l).2.length := List.length_pos_iff.2 e
            omega
          obtain ⟨b0, o0, rfl, hb0, _⟩ := H.out.at_ (by omega)
          have CV := run_string_bsl wr (some ⟨b0, o0 + f, none⟩) (k - f) (c - f) (rwS l).2 (by have := (H.out.below B.out).sub f (k - f) (by omega); rw [RS.out] at this; exact this)
          have EM2 := EM.out
          have EO2 := EO.out
          rw [RF.out] at EM2 EO2
          generalize (rwS l).2 = r at *
          generalize (rwS l).1 = q at *
          obtain ⟨m, hm⟩ : ∃ m, q.length = m := ⟨_, rfl⟩
          have HM := Lib.hid (show (q ++ [r]).length = m + 1 by simp [hm])
          have O2 := Lib.hid (show wr.ownsRow w.heap.size 9 1 u4 m (txts q) by rw [← hm]; exact O1)
          rw [HM.out] at EM2 EO2
          rw [hm] at KL2
          have f0 : (f : Int) < (k : Int) := by omega
          have f1 : (f : Int) ≤ (k : Int) := by omega
          have f2 : f ≤ k := by omega
          have f3 : k ≤ c := by omega
          have f4 : ¬ c = f := by omega
          have f5 : (f : Int) ≤ (c : Int) := by omega
          clear O1 e LT EM EO RS hm hf
          by_cases g : 400 < m + 1
          · have hg : (400 : Int) < (m : Int) + 1 := by omega
            have E2 := EM2 g
            subst E2
            go_wp2_with (at_builtin; refine wpList_tapp rfl (.tmp 35) (.tmp 40) 24 rfl w.heap.size 9 i0 (.string ⟨#[]⟩) 16 Try.underlying24 Hi.out Hz0.out Hz1.out Hz2.out rfl _ _ q (by rfl) O2.out r wr.heap.size rfl (by rfl) (by unfold maxLen; omega) (by omega) B.out.size ?_; intro v3 w3 hown3 hgrow3; have B3 := Lib.hid (below_app (B.out.alloc B.out.size _) (O2.out.alloc _) hgrow3); obtain ⟨A3, c3, rfl, S3⟩ := own_texts hown3; have S4 := Lib.hid S3; clear hown3 hgrow3 S3)
            go_ret2
            exact ⟨none, 0, 0, rfl, by rw [os_no (by decide)]; exact SSl.nil, B3.out⟩
          · have hg : ¬ (400 : Int) < (m : Int) + 1 := by omega
            have E2 := EO2 g
            subst E2
            go_wp2_with (at_builtin; refine wpList_tapp rfl (.tmp 35) (.tmp 40) 24 rfl w.heap.size 9 i0 (.string ⟨#[]⟩) 16 Try.underlying24 Hi.out Hz0.out Hz1.out Hz2.out rfl _ _ q (by rfl) O2.out r wr.heap.size rfl (by rfl) (by unfold maxLen; omega) (by omega) B.out.size ?_; intro v3 w3 hown3 hgrow3; have B3 := Lib.hid (below_app (B.out.alloc B.out.size _) (O2.out.alloc _) hgrow3); obtain ⟨A3, c3, rfl, S3⟩ := own_texts hown3; have S4 := Lib.hid S3; clear hown3 hgrow3 S3)
            go_ret2
            exact ⟨A3, m + 1, c3, rfl, by rw [RF.out]; exact S4.out, B3.out⟩
end Go.Proofs.Ythmncaebkkmkjaa
