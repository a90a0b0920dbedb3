/- The walk of the statement TagOnce. -/
import Derived.Test.YtojkcejpihomhaaTagBackWalk
namespace Go.Proofs.Ytojkcejpihomhaa
open Go.RowKit
open Go.Lib (byteCells)

theorem once_long (D S T : Int) (A : Option Addr) (n c : Nat) (v p : Int) (w : World) (h : 4000 < n) :
    Calls Try.prog 6 #[.agg #[.int .u64 D, .int .u64 S, .int .i64 T, .slice A n c], .int .i64 v, .int .i64 p] w fun e w' => e = .returned (.bool true) ∧ Below w.heap.size w w' := by
  have hz : w.heap.size < w.heap.size + 1 := by omega
  go_enter Try.func6, Try.ntmps6
  go_wp2_with (go_at_call 7; (with_reducible refine (works05_any _).mono ?_); rintro e w1 ⟨rfl, hb1⟩; obtain ⟨p1, q1⟩ := bcell hb1)
  go_ret
  exact ⟨rfl, one_below hb1⟩

set_option maxHeartbeats 4000000 in
/-- no tag can be put, and none is told -/
theorem once_none (D S T : Int) (A : Option Addr) (n c : Nat) (l : List UInt8) (v p E F : Int) (w : World) (h : BSl w A n c l) (hn : n ≤ 4000) (e1 : aE T v p n = E) (hE : ¬ E = 0) (e2 : sE T l = F) (hF : ¬ F = 0) :
    Calls Try.prog 6 #[.agg #[.int .u64 D, .int .u64 S, .int .i64 T, .slice A n c], .int .i64 v, .int .i64 p] w fun e w' => e = .returned (.bool true) ∧ Below w.heap.size w w' := by
  have HA := Lib.hid (fun w : World => add_no D S T A n c v p E w e1 hE)
  have HB := Lib.hid (fun (w : World) (h : BSl w A n c l) => strip_no D S T A n c l F w h (by omega) e2 hF)
  have HC : ∀ A n c w, BSl w A n c [] → Calls Try.prog 12 #[.agg #[.int .u64 0, .int .u64 0, .int .i64 0, .slice A n c], .int .i64 v, .int .i64 p] w (GotAdd w 0 0 0 [] v p) := fun A n c w h => add_any 0 0 0 A n c [] v p w h
  unfold GotAdd at HC
  generalize oi (aE 0 v p ([] : List UInt8).length) 0 = D' at HC
  generalize oi (aE 0 v p ([] : List UInt8).length) 33024 = T' at HC
  generalize ol (aE 0 v p ([] : List UInt8).length) (tbs v p 0 []) = l' at HC
  generalize aE 0 v p ([] : List UInt8).length = E' at HC
  have HC := Lib.hid HC
  have HS := Lib.hid h
  have i1 : (n : Int) ≤ 4000 := by omega
  have hz : w.heap.size < w.heap.size + 1 := by omega
  clear h e1 e2
  go_enter Try.func6, Try.ntmps6
  go_wp2_with (first
    | (go_at_call 7; (with_reducible refine (works05_any _).mono ?_); rintro e w0 ⟨rfl, hb0⟩; obtain ⟨p0, q0⟩ := bcell hb0; have z0 : w.heap.size < w0.heap.size := by { have := hb0.size; simp at this; omega }; have S0 := Lib.hid ((HS.out.alloc _).below hb0))
    | (go_at_call 12; (with_reducible refine (HA.out _).mono ?_); rintro e w1 ⟨A1, n1, c1, rfl, s1, hb1⟩; obtain ⟨p1, q1⟩ := bcell hb1; have z1 : w.heap.size < w1.heap.size := by { have := hb1.size; omega }; have S1 := Lib.hid (S0.out.below hb1))
    | (go_at_call 12; (with_reducible refine (HC.out A1 n1 c1 _ (s1.alloc _)).mono ?_); rintro e w2 ⟨A2, n2, c2, rfl, s2, hb2⟩; obtain ⟨p2, q2⟩ := bcell hb2; have z2 : w.heap.size < w2.heap.size := by { have := hb2.size; simp at this; omega }; have y2 : w.heap.size < w1.heap.size + 1 := by { omega }; have S2 := Lib.hid ((S1.out.alloc _).below hb2))
    | (go_at_call 8; (with_reducible refine (HB.out _ (S2.out.alloc _)).mono ?_); rintro e w3 ⟨A3, n3, c3, rfl, s3, hb3⟩; obtain ⟨p3, q3⟩ := bcell hb3))
  go_ret
  exact ⟨by simp, trans_below (one_below hb0) (trans_below hb1 (trans_below (one_below hb2) (trans_below (one_below hb3) ((Below.refl _ _).alloc (Nat.le_refl _) _))))⟩

set_option maxHeartbeats 4000000 in
/-- a tag is told: what is left has none -/
theorem once_taken (D S : Int) (A : Option Addr) (n c : Nat) (l : List UInt8) (v p : Int) (w : World) (h : BSl w A n c l) (hn : n ≤ 4000) (h4 : 4 ≤ l.length) (hv : ¬ two l 0 % 4096 = 4095) (hY : ¬ two l 2 = 33024) :
    Calls Try.prog 6 #[.agg #[.int .u64 D, .int .u64 S, .int .i64 33024, .slice A n c], .int .i64 v, .int .i64 p] w fun e w' => e = .returned (.bool true) ∧ Below w.heap.size w w' := by
  have hl := h.len
  have HA := Lib.hid (fun w : World => add_no D S 33024 A n c v p 15 w (aE_tag (.inl rfl)) (by decide))
  have HB : ∀ w : World, BSl w A n c l → Calls Try.prog 8 #[.agg #[.int .u64 D, .int .u64 S, .int .i64 33024, .slice A n c]] w (GotS w D S (two l 2) (l.drop 4) (two l 0 % 4096) (two l 0 / 4096) 0) := by
    intro w h
    have := strip_any D S 33024 A n c l w h (by omega)
    unfold GotStrip at this
    rw [sE_ok (by omega) (by omega), oi_ok, oi_ok, oi_ok, ol_ok, oi_ok, oi_ok] at this
    exact this
  have HC : ∀ A n c w, BSl w A n c [] → Calls Try.prog 12 #[.agg #[.int .u64 0, .int .u64 0, .int .i64 0, .slice A n c], .int .i64 v, .int .i64 p] w (GotAdd w 0 0 0 [] v p) := fun A n c w h => add_any 0 0 0 A n c [] v p w h
  unfold GotAdd at HC
  generalize oi (aE 0 v p ([] : List UInt8).length) 0 = D' at HC
  generalize oi (aE 0 v p ([] : List UInt8).length) 33024 = T' at HC
  generalize ol (aE 0 v p ([] : List UInt8).length) (tbs v p 0 []) = l' at HC
  generalize aE 0 v p ([] : List UInt8).length = E' at HC
  generalize two l 2 = Y at HB hY
  generalize two l 0 % 4096 = X at HB hv
  generalize two l 0 / 4096 = P at HB
  generalize l.drop 4 = k at HB
  have HB := Lib.hid HB
  have HC := Lib.hid HC
  have HS := Lib.hid h
  have HY := Lib.hid (show (Y == 33024) = false by simpa using hY)
  have i1 : (n : Int) ≤ 4000 := by omega
  have hz : w.heap.size < w.heap.size + 1 := by omega
  clear h hY hv h4 hl
  go_enter Try.func6, Try.ntmps6
  go_wp2_with (first
    | (go_at_call 7; (with_reducible refine (works05_any _).mono ?_); rintro e w0 ⟨rfl, hb0⟩; obtain ⟨p0, q0⟩ := bcell hb0; have z0 : w.heap.size < w0.heap.size := by { have := hb0.size; simp at this; omega }; have S0 := Lib.hid ((HS.out.alloc _).below hb0))
    | (go_at_call 12; (with_reducible refine (HA.out _).mono ?_); rintro e w1 ⟨A1, n1, c1, rfl, s1, hb1⟩; obtain ⟨p1, q1⟩ := bcell hb1; have z1 : w.heap.size < w1.heap.size := by { have := hb1.size; omega }; have S1 := Lib.hid (S0.out.below hb1))
    | (go_at_call 12; (with_reducible refine (HC.out A1 n1 c1 _ (s1.alloc _)).mono ?_); rintro e w2 ⟨A2, n2, c2, rfl, s2, hb2⟩; obtain ⟨p2, q2⟩ := bcell hb2; have z2 : w.heap.size < w2.heap.size := by { have := hb2.size; simp at this; omega }; have y2 : w.heap.size < w1.heap.size + 1 := by { omega }; have S2 := Lib.hid ((S1.out.alloc _).below hb2))
    | (go_at_call 8; (with_reducible refine (HB.out _ (S2.out.alloc _)).mono ?_); rintro e w3 ⟨A3, n3, c3, rfl, s3, hb3⟩; obtain ⟨p3, q3⟩ := bcell hb3)
    | (go_at_call 11; (with_reducible refine (is_as D S Y A3 n3 c3 _ false HY.out).mono ?_); rintro e w4 ⟨rfl, hb4⟩))
  go_ret
  exact ⟨by simp, trans_below (one_below hb0) (trans_below hb1 (trans_below (one_below hb2) (trans_below (one_below hb3) (one_below hb4))))⟩

set_option maxHeartbeats 4000000 in
/-- a tag is put: a second one is not -/
theorem once_put (D S T : Int) (A : Option Addr) (n c : Nat) (l : List UInt8) (v p : Int) (w : World) (h : BSl w A n c l) (hn : n ≤ 4000) (e1 : aE T v p n = 0) (hT : T ≠ 33024) :
    Calls Try.prog 6 #[.agg #[.int .u64 D, .int .u64 S, .int .i64 T, .slice A n c], .int .i64 v, .int .i64 p] w fun e w' => e = .returned (.bool true) ∧ Below w.heap.size w w' := by
  have hl := h.len
  have HA : ∀ w : World, BSl w A n c l → Calls Try.prog 12 #[.agg #[.int .u64 D, .int .u64 S, .int .i64 T, .slice A n c], .int .i64 v, .int .i64 p] w (GotF w D S 33024 (tbs v p T l) 0) := by
    intro w h
    have := add_any D S T A n c l v p w h
    unfold GotAdd at this
    rw [hl, e1, oi_ok, oi_ok, oi_ok, ol_ok] at this
    exact this
  have HB := Lib.hid (fun (A : Option Addr) (n c : Nat) (w : World) => add_no D S 33024 A n c v p 15 w (aE_tag (.inl rfl)) (by decide))
  have HC : ∀ w : World, Calls Try.prog 8 #[.agg #[.int .u64 D, .int .u64 S, .int .i64 T, .slice A n c]] w (GotS w 0 0 0 [] 0 0 11) := fun w => strip_form D S T A n c w hT
  generalize tbs v p T l = L at HA
  have HA := Lib.hid HA
  have HC := Lib.hid HC
  have HS := Lib.hid h
  have i1 : (n : Int) ≤ 4000 := by omega
  have hz : w.heap.size < w.heap.size + 1 := by omega
  clear h e1 hT
  go_enter Try.func6, Try.ntmps6
  go_wp2_with (first
    | (go_at_call 7; (with_reducible refine (works05_any _).mono ?_); rintro e w0 ⟨rfl, hb0⟩; obtain ⟨p0, q0⟩ := bcell hb0; have z0 : w.heap.size < w0.heap.size := by { have := hb0.size; simp at this; omega }; have S0 := Lib.hid ((HS.out.alloc _).below hb0))
    | (go_at_call 12; (with_reducible refine (HA.out _ S0.out).mono ?_); rintro e w1 ⟨A1, n1, c1, rfl, s1, hb1⟩; obtain ⟨p1, q1⟩ := bcell hb1; have z1 : w.heap.size < w1.heap.size := by { have := hb1.size; omega })
    | (go_at_call 12; (with_reducible refine (HB.out A1 n1 c1 _).mono ?_); rintro e w2 ⟨A2, n2, c2, rfl, s2, hb2⟩; obtain ⟨p2, q2⟩ := bcell hb2; have z2 : w.heap.size < w2.heap.size := by { have := hb2.size; simp at this; omega }; have y2 : w.heap.size < w1.heap.size + 1 := by { omega }; have x2 : w1.heap.size < w2.heap.size := by { have := hb2.size; simp at this; omega })
    | (go_at_call 8; (with_reducible refine (HC.out _).mono ?_); rintro e w3 ⟨A3, n3, c3, rfl, s3, hb3⟩; obtain ⟨p3, q3⟩ := bcell hb3; have x3 : w1.heap.size < w3.heap.size := by { have := hb3.size; simp at this; omega }; have y3 : w1.heap.size < w2.heap.size + 1 := by { omega }; have v3 : w1.heap.size < w1.heap.size + 1 := by { omega })
    | (go_at_call 11; (with_reducible refine (is_as D S 33024 A1 n1 c1 _ true rfl).mono ?_); rintro e w4 ⟨rfl, hb4⟩))
  go_ret
  exact ⟨by simp, trans_below (one_below hb0) (trans_below hb1 (trans_below (one_below hb2) (trans_below (one_below hb3) (one_below hb4))))⟩

theorem once_walk (D S T : Int) (A : Option Addr) (n c : Nat) (l : List UInt8) (v p : Int) (w : World) (h : BSl w A n c l) :
    Calls Try.prog 6 #[.agg #[.int .u64 D, .int .u64 S, .int .i64 T, .slice A n c], .int .i64 v, .int .i64 p] w fun e w' => e = .returned (.bool true) ∧ Below w.heap.size w w' := by
  by_cases hn : 4000 < n
  · exact once_long D S T A n c v p w hn
  · by_cases hE : aE T v p n = 0
    · have hT : T ≠ 33024 := by
        intro e
        rw [aE_tag (.inl e)] at hE
        cases hE
      exact once_put D S T A n c l v p w h (by omega) hE hT
    · rcases sE_cases T l with ⟨_, rfl, h4, hv, hY⟩ | e | e | e
      · exact once_taken D S A n c l v p w h (by omega) h4 hv hY
      · exact once_none D S T A n c l v p _ 11 w h (by omega) rfl hE e (by decide)
      · exact once_none D S T A n c l v p _ 10 w h (by omega) rfl hE e (by decide)
      · exact once_none D S T A n c l v p _ 15 w h (by omega) rfl hE e (by decide)
end Go.Proofs.Ytojkcejpihomhaa
