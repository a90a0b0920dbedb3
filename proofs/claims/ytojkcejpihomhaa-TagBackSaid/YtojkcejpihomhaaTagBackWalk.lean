/- The walk of the statement TagBack. -/
import Derived.Test.YtojkcejpihomhaaTagWorks
namespace Go.Proofs.Ytojkcejpihomhaa
open Go.RowKit
open Go.Lib (byteCells)

theorem same_self (D S T : Int) (l : List UInt8) (A : Option Addr) (n c : Nat) (B : Option Addr) (m d : Nat) (w : World) (h : BSl w A n c l) (g : BSl w B m d l) :
    Calls Try.prog 14 #[.agg #[.int .u64 D, .int .u64 S, .int .i64 T, .slice A n c], .agg #[.int .u64 D, .int .u64 S, .int .i64 T, .slice B m d]] w fun e w' => e = .returned (.bool true) ∧ Below w.heap.size w w' := by
  have := same_any D S T A n c l D S T B m d l w h g
  rw [smB_self] at this
  exact this
theorem add_no (D S T : Int) (A : Option Addr) (n c : Nat) (v p E : Int) (w : World) (h : aE T v p n = E) (hE : ¬ E = 0) :
    Calls Try.prog 12 #[.agg #[.int .u64 D, .int .u64 S, .int .i64 T, .slice A n c], .int .i64 v, .int .i64 p] w (GotF w 0 0 0 [] E) := by
  have := add_not D S T v p A n c w (by rw [h]; exact hE)
  rw [h] at this
  exact this.mono fun _ _ ⟨he, hb⟩ => ⟨none, 0, 0, he, BSl.nil, hb⟩
theorem strip_no (D S T : Int) (A : Option Addr) (n c : Nat) (l : List UInt8) (E : Int) (w : World) (h : BSl w A n c l) (hm : n ≤ 1000000) (e : sE T l = E) (hE : ¬ E = 0) :
    Calls Try.prog 8 #[.agg #[.int .u64 D, .int .u64 S, .int .i64 T, .slice A n c]] w (GotS w 0 0 0 [] 0 0 E) := by
  have := strip_any D S T A n c l w h hm
  unfold GotStrip at this
  rw [e, oi_no hE, oi_no hE, oi_no hE, ol_no hE, oi_no hE, oi_no hE] at this
  exact this

theorem tback_long (D S T : Int) (A : Option Addr) (n c : Nat) (v p : Int) (w : World) (h : 4000 < n) :
    Calls Try.prog 5 #[.agg #[.int .u64 D, .int .u64 S, .int .i64 T, .slice A n c], .int .i64 v, .int .i64 p] w fun e w' => e = .returned (.bool true) ∧ Below w.heap.size w w' := by
  have hz : w.heap.size < w.heap.size + 1 := by omega
  go_enter Try.func5, Try.ntmps5
  go_wp2_with (go_at_call 7; (with_reducible refine (works05_any _).mono ?_); rintro e w1 ⟨rfl, hb1⟩; obtain ⟨p1, q1⟩ := bcell hb1)
  go_ret
  exact ⟨rfl, one_below hb1⟩

set_option maxRecDepth 100000 in
set_option maxHeartbeats 4000000 in
/-- no tag can be put, and none is told -/
theorem tback_none (D S T : Int) (A : Option Addr) (n c : Nat) (l : List UInt8) (v p E F : Int) (w : World) (h : BSl w A n c l) (hn : n ≤ 4000) (e1 : aE T v p n = E) (hE : ¬ E = 0) (e2 : sE T l = F) (hF : ¬ F = 0) :
    Calls Try.prog 5 #[.agg #[.int .u64 D, .int .u64 S, .int .i64 T, .slice A n c], .int .i64 v, .int .i64 p] w fun e w' => e = .returned (.bool true) ∧ Below w.heap.size w w' := by
  have HA := Lib.hid (fun w : World => add_no D S T A n c v p E w e1 hE)
  have HB := Lib.hid (fun (w : World) (h : BSl w A n c l) => strip_no D S T A n c l F w h (by omega) e2 hF)
  have HS := Lib.hid h
  have i1 : (n : Int) ≤ 4000 := by omega
  have hz : w.heap.size < w.heap.size + 1 := by omega
  clear h e1 e2
  go_enter Try.func5, Try.ntmps5
  go_wp2_with (first
    | (go_at_call 7; (with_reducible refine (works05_any _).mono ?_); rintro e w0 ⟨rfl, hb0⟩; obtain ⟨p0, q0⟩ := bcell hb0; have z0 : w.heap.size < w0.heap.size := by { have := hb0.size; simp at this; omega }; have S0 := Lib.hid ((HS.out.alloc _).below hb0))
    | (go_at_call 12; (with_reducible refine (HA.out _).mono ?_); rintro e w1 ⟨A1, n1, c1, rfl, s1, hb1⟩; obtain ⟨p1, q1⟩ := bcell hb1; have z1 : w.heap.size < w1.heap.size := by { have := hb1.size; omega }; have S1 := Lib.hid (S0.out.below hb1))
    | (go_at_call 8; (with_reducible refine (HB.out _ (S1.out.alloc _)).mono ?_); rintro e w2 ⟨A2, n2, c2, rfl, s2, hb2⟩; obtain ⟨p2, q2⟩ := bcell hb2)
    | (go_at_call 14; (with_reducible refine (same_self 0 0 0 [] A2 n2 c2 none 0 0 _ (s2.alloc _) BSl.nil).mono ?_); rintro e w3 ⟨rfl, hb3⟩))
  go_ret
  exact ⟨by simp, trans_below (one_below hb0) (trans_below hb1 (trans_below (one_below hb2) (one_below hb3)))⟩

set_option maxRecDepth 100000 in
set_option maxHeartbeats 4000000 in
/-- a tag is put, and taken -/
theorem tback_put (D S T : Int) (A : Option Addr) (n c : Nat) (l : List UInt8) (v p : Int) (w : World) (h : BSl w A n c l) (hn : n ≤ 4000) (e1 : aE T v p n = 0) :
    Calls Try.prog 5 #[.agg #[.int .u64 D, .int .u64 S, .int .i64 T, .slice A n c], .int .i64 v, .int .i64 p] w fun e w' => e = .returned (.bool true) ∧ Below w.heap.size w w' := by
  have hl := h.len
  obtain ⟨hT, g1, g2, g3, g4, g5, g6⟩ : T ≠ 33024 ∧ 0 ≤ v ∧ v ≤ 4094 ∧ 0 ≤ p ∧ p ≤ 15 ∧ 0 ≤ T ∧ T ≤ 65535 := by
    rcases aE_cases T v p n with ⟨_, h0, h1, h2, h3, h4, h5, h6, _⟩ | e | e | e
    · exact ⟨h0, h1, h2, h3, h4, h5, h6⟩
    · rw [e] at e1; cases e1
    · rw [e] at e1; cases e1
    · rw [e] at e1; cases e1
  have HA : ∀ w : World, BSl w A n c l → Calls Try.prog 12 #[.agg #[.int .u64 D, .int .u64 S, .int .i64 T, .slice A n c], .int .i64 v, .int .i64 p] w (GotF w D S 33024 (tbs v p T l) 0) := by
    intro w h
    have := add_any D S T A n c l v p w h
    unfold GotAdd at this
    rw [hl, e1, oi_ok, oi_ok, oi_ok, ol_ok] at this
    exact this
  have HB : ∀ (w : World) (A : Option Addr) (n c : Nat), BSl w A n c (tbs v p T l) → Calls Try.prog 8 #[.agg #[.int .u64 D, .int .u64 S, .int .i64 33024, .slice A n c]] w (GotS w D S T l v p 0) :=
    fun w A n c h => strip_added D S A n c T v p l w h (by omega) hT g1 g2 g3 g4 g5 g6
  have HC : ∀ w : World, Calls Try.prog 8 #[.agg #[.int .u64 D, .int .u64 S, .int .i64 T, .slice A n c]] w (GotS w 0 0 0 [] 0 0 11) := fun w => strip_form D S T A n c w hT
  generalize tbs v p T l = L at HA HB
  have HA := Lib.hid HA
  have HB := Lib.hid HB
  have HC := Lib.hid HC
  have HS := Lib.hid h
  have i1 : (n : Int) ≤ 4000 := by omega
  have hz : w.heap.size < w.heap.size + 1 := by omega
  clear h e1 hT g1 g2 g3 g4 g5 g6
  go_enter Try.func5, Try.ntmps5
  go_wp2_with (first
    | (go_at_call 7; (with_reducible refine (works05_any _).mono ?_); rintro e w0 ⟨rfl, hb0⟩; obtain ⟨p0, q0⟩ := bcell hb0; have z0 : w.heap.size < w0.heap.size := by { have := hb0.size; simp at this; omega }; have S0 := Lib.hid ((HS.out.alloc _).below hb0))
    | (go_at_call 12; (with_reducible refine (HA.out _ S0.out).mono ?_); rintro e w1 ⟨A1, n1, c1, rfl, s1, hb1⟩; obtain ⟨p1, q1⟩ := bcell hb1; have z1 : w.heap.size < w1.heap.size := by { have := hb1.size; omega }; have S1 := Lib.hid (S0.out.below hb1))
    | (go_at_call 8; (with_reducible refine (HB.out _ A1 n1 c1 (s1.alloc _)).mono ?_); rintro e w2 ⟨A2, n2, c2, rfl, s2, hb2⟩; obtain ⟨p2, q2⟩ := bcell hb2; have z2 : w.heap.size < w2.heap.size := by { have := hb2.size; simp at this; omega }; have y2 : w.heap.size < w1.heap.size + 1 := by { omega }; have S2 := Lib.hid ((S1.out.alloc _).below hb2))
    | (go_at_call 14; (with_reducible refine (same_self D S T l A2 n2 c2 A n c _ (s2.alloc _) (S2.out.alloc _)).mono ?_); rintro e w3 ⟨rfl, hb3⟩; obtain ⟨p3, q3⟩ := bcell hb3; have z3 : w.heap.size < w3.heap.size := by { have := hb3.size; simp at this; omega }; have y3 : w.heap.size < w2.heap.size + 1 := by { omega })
    | (go_at_call 8; (with_reducible refine (HC.out _).mono ?_); rintro e w4 ⟨A4, n4, c4, rfl, s4, hb4⟩; obtain ⟨p4, q4⟩ := bcell hb4)
    | (go_at_call 14; (with_reducible refine (same_self 0 0 0 [] A4 n4 c4 none 0 0 _ (s4.alloc _) BSl.nil).mono ?_); rintro e w5 ⟨rfl, hb5⟩))
  go_ret
  exact ⟨by simp, trans_below (one_below hb0) (trans_below hb1 (trans_below (one_below hb2) (trans_below (one_below hb3) (trans_below hb4 (one_below hb5)))))⟩

/-- a tag is taken: what is left of the frame may have it put again, unless it is too long -/
theorem add_stripped (D S : Int) (l : List UInt8) (h4 : 4 ≤ l.length) (hv : ¬ two l 0 % 4096 = 4095) (hY : ¬ two l 2 = 33024) (A : Option Addr) (n c : Nat) (w : World) (h : BSl w A n c (l.drop 4)) :
    Calls Try.prog 12 #[.agg #[.int .u64 D, .int .u64 S, .int .i64 (two l 2), .slice A n c], .int .i64 (two l 0 % 4096), .int .i64 (two l 0 / 4096)] w fun e w' => (1504 < l.length → GotF w 0 0 0 [] 14 e w') ∧ (¬ 1504 < l.length → GotF w D S 33024 l 0 e w') := by
  have b0 := two_bd l 0
  have b2 := two_bd l 2
  have back := tbs_back l h4
  have hl := List.length_drop (i := 4) (l := l)
  have hs := add_any D S (two l 2) A n c (l.drop 4) (two l 0 % 4096) (two l 0 / 4096) w h
  unfold GotAdd at hs
  rw [back] at hs
  by_cases hn : 1504 < l.length
  · have e : aE (two l 2) (two l 0 % 4096) (two l 0 / 4096) (l.drop 4).length = 14 := aE_long (by omega) (by omega) (by omega)
    rw [e, oi_no (by decide), oi_no (by decide), oi_no (by decide), ol_no (by decide)] at hs
    exact hs.mono fun _ _ h => ⟨fun _ => h, fun g => absurd hn g⟩
  · have e : aE (two l 2) (two l 0 % 4096) (two l 0 / 4096) (l.drop 4).length = 0 := aE_ok (by omega) (by omega) (by omega)
    rw [e, oi_ok, oi_ok, oi_ok, ol_ok] at hs
    exact hs.mono fun _ _ h => ⟨fun g => absurd g hn, fun _ => h⟩

set_option maxRecDepth 100000 in
set_option maxHeartbeats 4000000 in
theorem tback_taken (D S : Int) (A : Option Addr) (n c : Nat) (l : List UInt8) (v p : Int) (w : World) (h : BSl w A n c l) (hn : n ≤ 4000) (h4 : 4 ≤ l.length) (hv : ¬ two l 0 % 4096 = 4095) (hY : ¬ two l 2 = 33024) :
    Calls Try.prog 5 #[.agg #[.int .u64 D, .int .u64 S, .int .i64 33024, .slice A n c], .int .i64 v, .int .i64 p] w fun e w' => e = .returned (.bool true) ∧ Below w.heap.size w w' := by
  have hl := h.len
  have HA := Lib.hid (fun w : World => add_no D S 33024 A n c v p 15 w (aE_tag (.inl rfl)) (by decide))
  have HB : ∀ w : World, BSl w A n c l → Calls Try.prog 8 #[.agg #[.int .u64 D, .int .u64 S, .int .i64 33024, .slice A n c]] w (GotS w D S (two l 2) (l.drop 4) (two l 0 % 4096) (two l 0 / 4096) 0) := by
    intro w h
    have := strip_any D S 33024 A n c l w h (by omega)
    unfold GotStrip at this
    rw [sE_ok (by omega) (by omega), oi_ok, oi_ok, oi_ok, ol_ok, oi_ok, oi_ok] at this
    exact this
  have HC := fun A n c w h => add_stripped D S l h4 hv hY A n c w h
  generalize two l 2 = Y at HB HC hY
  generalize two l 0 % 4096 = X at HB HC hv
  generalize two l 0 / 4096 = P at HB HC
  generalize l.drop 4 = k at HB HC
  have HB := Lib.hid HB
  have HS := Lib.hid h
  have i1 : (n : Int) ≤ 4000 := by omega
  have hz : w.heap.size < w.heap.size + 1 := by omega
  by_cases hlong : 1504 < n
  · have HD : ∀ A n c w, BSl w A n c k → Calls Try.prog 12 #[.agg #[.int .u64 D, .int .u64 S, .int .i64 Y, .slice A n c], .int .i64 X, .int .i64 P] w (GotF w 0 0 0 [] 14) := fun A n c w h => (HC A n c w h).mono fun _ _ h => h.1 (by omega)
    have HD := Lib.hid HD
    have i2 : 1504 < (n : Int) := by omega
    clear h HC hv hY h4 hlong
    go_enter Try.func5, Try.ntmps5
    go_wp2_with (first
      | (go_at_call 7; (with_reducible refine (works05_any _).mono ?_); rintro e w0 ⟨rfl, hb0⟩; obtain ⟨p0, q0⟩ := bcell hb0; have z0 : w.heap.size < w0.heap.size := by { have := hb0.size; simp at this; omega }; have S0 := Lib.hid ((HS.out.alloc _).below hb0))
      | (go_at_call 12; (with_reducible refine (HA.out _).mono ?_); rintro e w1 ⟨A1, n1, c1, rfl, s1, hb1⟩; obtain ⟨p1, q1⟩ := bcell hb1; have z1 : w.heap.size < w1.heap.size := by { have := hb1.size; omega }; have S1 := Lib.hid (S0.out.below hb1))
      | (go_at_call 8; (with_reducible refine (HB.out _ (S1.out.alloc _)).mono ?_); rintro e w2 ⟨A2, n2, c2, rfl, s2, hb2⟩; obtain ⟨p2, q2⟩ := bcell hb2; have z2 : w.heap.size < w2.heap.size := by { have := hb2.size; simp at this; omega }; have y2 : w.heap.size < w1.heap.size + 1 := by { omega })
      | (go_at_call 12; (with_reducible refine (HD.out A2 n2 c2 _ (s2.alloc _)).mono ?_); rintro e w3 ⟨A3, n3, c3, rfl, s3, hb3⟩; obtain ⟨p3, q3⟩ := bcell hb3; have y3 : w.heap.size < w2.heap.size + 1 := by { omega }; have z3 : w.heap.size < w3.heap.size := by { have := hb3.size; simp at this; omega }))
    go_ret
    exact ⟨by simp, trans_below (one_below hb0) (trans_below hb1 (trans_below (one_below hb2) (trans_below (one_below hb3) ((Below.refl _ _).alloc (Nat.le_refl _) _))))⟩
  · have HD : ∀ A n c w, BSl w A n c k → Calls Try.prog 12 #[.agg #[.int .u64 D, .int .u64 S, .int .i64 Y, .slice A n c], .int .i64 X, .int .i64 P] w (GotF w D S 33024 l 0) := fun A n c w h => (HC A n c w h).mono fun _ _ h => h.2 (by omega)
    have HD := Lib.hid HD
    have i2 : (n : Int) ≤ 1504 := by omega
    clear h HC hv hY h4 hlong
    go_enter Try.func5, Try.ntmps5
    go_wp2_with (first
      | (go_at_call 7; (with_reducible refine (works05_any _).mono ?_); rintro e w0 ⟨rfl, hb0⟩; obtain ⟨p0, q0⟩ := bcell hb0; have z0 : w.heap.size < w0.heap.size := by { have := hb0.size; simp at this; omega }; have S0 := Lib.hid ((HS.out.alloc _).below hb0))
      | (go_at_call 12; (with_reducible refine (HA.out _).mono ?_); rintro e w1 ⟨A1, n1, c1, rfl, s1, hb1⟩; obtain ⟨p1, q1⟩ := bcell hb1; have z1 : w.heap.size < w1.heap.size := by { have := hb1.size; omega }; have S1 := Lib.hid (S0.out.below hb1))
      | (go_at_call 8; (with_reducible refine (HB.out _ (S1.out.alloc _)).mono ?_); rintro e w2 ⟨A2, n2, c2, rfl, s2, hb2⟩; obtain ⟨p2, q2⟩ := bcell hb2; have z2 : w.heap.size < w2.heap.size := by { have := hb2.size; simp at this; omega }; have y2 : w.heap.size < w1.heap.size + 1 := by { omega }; have S2 := Lib.hid ((S1.out.alloc _).below hb2))
      | (go_at_call 12; (with_reducible refine (HD.out A2 n2 c2 _ (s2.alloc _)).mono ?_); rintro e w3 ⟨A3, n3, c3, rfl, s3, hb3⟩; obtain ⟨p3, q3⟩ := bcell hb3; have y3 : w.heap.size < w2.heap.size + 1 := by { omega }; have z3 : w.heap.size < w3.heap.size := by { have := hb3.size; simp at this; omega }; have S3 := Lib.hid ((S2.out.alloc _).below hb3))
      | (go_at_call 14; (with_reducible refine (same_self D S 33024 l A3 n3 c3 A n c _ (s3.alloc _) (S3.out.alloc _)).mono ?_); rintro e w4 ⟨rfl, hb4⟩))
    go_ret
    exact ⟨by simp, trans_below (one_below hb0) (trans_below hb1 (trans_below (one_below hb2) (trans_below (one_below hb3) (one_below hb4))))⟩

theorem tback_walk (D S T : Int) (A : Option Addr) (n c : Nat) (l : List UInt8) (v p : Int) (w : World) (h : BSl w A n c l) :
    Calls Try.prog 5 #[.agg #[.int .u64 D, .int .u64 S, .int .i64 T, .slice A n c], .int .i64 v, .int .i64 p] w fun e w' => e = .returned (.bool true) ∧ Below w.heap.size w w' := by
  by_cases hn : 4000 < n
  · exact tback_long D S T A n c v p w hn
  · by_cases hE : aE T v p n = 0
    · exact tback_put D S T A n c l v p w h (by omega) hE
    · rcases sE_cases T l with ⟨_, rfl, h4, hv, hY⟩ | e | e | e
      · exact tback_taken D S A n c l v p w h (by omega) h4 hv hY
      · exact tback_none D S T A n c l v p _ 11 w h (by omega) rfl hE e (by decide)
      · exact tback_none D S T A n c l v p _ 10 w h (by omega) rfl hE e (by decide)
      · exact tback_none D S T A n c l v p _ 15 w h (by omega) rfl hE e (by decide)
end Go.Proofs.Ytojkcejpihomhaa
