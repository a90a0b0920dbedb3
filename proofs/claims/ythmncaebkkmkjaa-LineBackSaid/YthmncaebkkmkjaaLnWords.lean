/- The contract of palingref10.Words. -/
import Derived.Test.YthmncaebkkmkjaaLnRows
namespace Go.Proofs.Ythmncaebkkmkjaa
open Go.RowKit
open Go.Lib (byteCells)

theorem ahead_spec (l : List UInt8) : (ahead l).length ≤ l.length ∧ ahead l = l.take (ahead l).length ∧ (∀ j, j < (ahead l).length → l.getD j 0 ≠ 35) ∧ ((ahead l).length < l.length → l.getD (ahead l).length 0 = 35) := by
  unfold ahead
  induction l with
  | nil => exact ⟨by simp [headC], by simp [headC], fun j hj => by simp [headC] at hj, fun h => by simp [headC] at h⟩
  | cons a r ih =>
    by_cases ha : a = 35
    · subst ha
      rw [(headC_same 35 r).1]
      exact ⟨by simp, by simp, fun j hj => by simp at hj, fun _ => rfl⟩
    · rw [(headC_cons 35 a r ha).1]
      obtain ⟨h1, h2, h3, h4⟩ := ih
      refine ⟨by simp; omega, by rw [List.length_cons, List.take_succ_cons, ← h2], fun j hj => ?_, fun hj => ?_⟩
      · match j with
        | 0 => exact ha
        | j + 1 => exact h3 j (by simp at hj; omega)
      · exact h4 (by simp at hj; omega)
/-- a byte is a number just if the bytes are alike -/
theorem bat_byte (l : List UInt8) (k : Nat) (c : UInt8) : (bat l k = (c.toNat : Int)) ↔ l.getD k 0 = c := by
  unfold bat
  constructor
  · intro h
    exact UInt8.toNat_inj.1 (by omega)
  · intro h
    rw [h]
theorem wsS_take (l : List UInt8) (k : Nat) (h : k < l.length) : wsS (l.take (k + 1)) = wsStep (wsS (l.take k)) (l.getD k 0) := by rw [rwS_take l k h, wsS_snoc]
/-- what Words comes to -/
def GotWords (w : World) (l : List UInt8) : Ending → World → Prop := GotS w (os (wdE l) (wsF (ahead l))) (wdE l)
/-- what the loop over a row keeps -/
def WdInv (w : World) (l : List UInt8) (vr vo vw vi : Value) (wr : World) : Prop :=
  ∃ k : Nat, vi = .int .i64 k ∧ Below w.heap.size w wr ∧
    ((k ≤ (ahead l).length ∧ vr = .string (str l) ∧ vw = .string (str (wsS (l.take k)).2) ∧ wr.ownsRow w.heap.size 9 1 vo (wsS (l.take k)).1.length (txts (wsS (l.take k)).1)) ∨
     (k = (ahead l).length + 1 ∧ vr = .string (str (ahead l)) ∧ vw = .string ⟨#[]⟩ ∧ wr.ownsRow w.heap.size 9 1 vo (wsF (ahead l)).length (txts (wsF (ahead l)))))

set_option maxRecDepth 20000 in
set_option maxHeartbeats 4000000 in
theorem rwords_any (l : List UInt8) (w : World) (hs : l.length ≤ 100000) : Calls Try.prog 12 #[.string (str l)] w (GotWords w l) := by
  unfold GotWords
  obtain ⟨i0, hi, hz0, hz1, hz2⟩ := info_parts Try.info9
  have Hi := Lib.hid hi; have Hz0 := Lib.hid hz0; have Hz1 := Lib.hid hz1; have Hz2 := Lib.hid hz2
  clear hi hz0 hz1 hz2
  obtain ⟨a1, a2, a3, a4⟩ := ahead_spec l
  have EO := Lib.hid (wdE_ok (l := l))
  have EN := Lib.hid (wdE_no (l := l))
  have WL := Lib.hid (wsS_len (ahead l))
  have WP := Lib.hid (wsS_part (ahead l))
  have A2 := Lib.hid a2
  have A3 := Lib.hid a3
  have A4 := Lib.hid a4
  generalize hE : wdE l = E at *
  obtain ⟨N, hN⟩ : ∃ N, (ahead l).length = N := ⟨_, rfl⟩
  have HN := Lib.hid hN
  rw [hN] at a1
  obtain ⟨L, hL⟩ : ∃ L, l.length = L := ⟨_, rfl⟩
  have HL := Lib.hid hL
  rw [hL] at a1 hs
  have hsz : (str l).size = L := by rw [str_size, hL]
  have hsr : (str (ahead l)).size = N := by rw [str_size, hN]
  clear a2 a3 a4 hE hN hL
  go_enter Try.func12, Try.ntmps12
  go_wp2
  go_loopw [0, 4, 5, 6] (fun vr vo vw vi wr => WdInv w l vr vo vw vi wr) (fun _ _ _ vi _ => match vi with | .int _ x => (N + 2 - x).toNat | _ => 0)
  case atStart => exact ⟨0, rfl, Below.refl _ _, .inl ⟨Nat.zero_le _, rfl, rfl, World.ownsRow_nil _ _ _ _⟩⟩
  case round =>
    obtain ⟨k, rfl, hb, hcase⟩ := hrel
    have B := Lib.hid hb
    clear hb
    rcases hcase with ⟨hk, rfl, rfl, ho⟩ | ⟨hk, rfl, rfl, ho⟩
    · rw [HN.out] at hk
      have O := Lib.hid ho
      clear ho
      have KL := wsS_len (l.take k)
      rw [List.length_take] at KL
      obtain ⟨KL1, KL2, _⟩ := KL
      have KL1b : (wsS (l.take k)).1.length ≤ 100000 := by omega
      have KL2b : (wsS (l.take k)).2.length ≤ 100000 := by omega
      clear KL1 KL2
      by_cases hlt : k < N
      · have hlt2 : (k : Int) < (L : Int) := by omega
        have R := fun w => run_index_bat l k (by rw [HL.out]; omega) w
        have n35 : ¬ bat l k = 35 := fun e => A3.out k (by rw [HN.out]; exact hlt) ((bat_byte l k 35).1 e)
        have ST := Lib.hid (wsS_take l k (by rw [HL.out]; omega))
        have b32 := Lib.hid (bat_byte l k 32)
        have b9 := Lib.hid (bat_byte l k 9)
        have X1 := extract_one l k (by rw [HL.out]; omega)
        generalize bat l k = x at *
        by_cases e : x = 32 ∨ x = 9
        · have ST2 := Lib.hid (show wsS (l.take (k + 1)) = (wsEnd (wsS (l.take k)), []) by
            rw [ST.out, wsStep, if_pos (by rcases e with e | e; exact .inl (b32.out.1 e); exact .inr (b9.out.1 e))]
            rfl)
          by_cases e2 : (wsS (l.take k)).2 = []
          · have W := Lib.hid (show wsEnd (wsS (l.take k)) = (wsS (l.take k)).1 by unfold wsEnd; rw [if_pos e2])
            rw [e2]
            generalize (wsS (l.take k)).1 = q at *
            clear b32 b9 ST e2 X1
            rcases e with rfl | rfl
            all_goals
              go_wp2
              go_roundw
              case rel => exact ⟨k + 1, by simp, B.out, .inl ⟨by rw [HN.out]; omega, rfl, by rw [ST2.out], by rw [ST2.out, W.out]; exact O.out⟩⟩
              case measure => simp only []; omega
          · have W := Lib.hid (show wsEnd (wsS (l.take k)) = (wsS (l.take k)).1 ++ [(wsS (l.take k)).2] by unfold wsEnd; rw [if_neg e2])
            generalize (wsS (l.take k)).1 = q at *
            generalize (wsS (l.take k)).2 = p at *
            have ne : (p == []) = false := by simpa using e2
            clear b32 b9 ST e2 X1
            rcases e with rfl | rfl
            all_goals
              go_wp2_with (at_builtin; refine wpList_tapp rfl (.tmp 52) (.tmp 54) 24 rfl w.heap.size 9 i0 (.string ⟨#[]⟩) 16 Try.underlying24 Hi.out Hz0.out Hz1.out Hz2.out rfl _ _ q (by rfl) O.out p wr.heap.size rfl (by rfl) (by unfold maxLen; omega) (by omega) B.out.size ?_; intro v3 w3 hown3 hgrow3; have B3 := Lib.hid (below_app (B.out.alloc B.out.size _) (O.out.alloc _) hgrow3); have O3 := Lib.hid hown3; clear hown3 hgrow3)
              go_roundw
              case rel => exact ⟨k + 1, by simp, B3.out, .inl ⟨by rw [HN.out]; omega, rfl, by rw [ST2.out], by rw [ST2.out, W.out]; simpa using O3.out⟩⟩
              case measure => simp only []; omega
        · have e32 : ¬ x = 32 := fun g => e (.inl g)
          have e9 : ¬ x = 9 := fun g => e (.inr g)
          have ST2 := Lib.hid (show wsS (l.take (k + 1)) = ((wsS (l.take k)).1, (wsS (l.take k)).2 ++ [l.getD k 0]) by
            rw [ST.out, wsStep, if_neg (by rintro (g | g); exact e32 (b32.out.2 g); exact e9 (b9.out.2 g))])
          generalize (wsS (l.take k)).1 = q at *
          generalize (wsS (l.take k)).2 = p at *
          generalize l.getD k 0 = y at *
          have ad : ∀ W, (Op.stringOp .add (str p) (str [y])).run Try.prog W = .ok (.string (str (p ++ [y]))) W := fun W => by
            rw [run_string_add_sum W _ _ (by rw [str_size, str_size]; simp; omega), str_append]
          have g0 : (k : Int) + 1 ≤ (L : Int) := by omega
          have g1 : (x != 32) = true := by simpa using e32
          have g2 : (x != 9) = true := by simpa using e9
          have g3 : ((k : Int) + 1).toNat = k + 1 := by omega
          have g4 : (k : Int) ≤ (k : Int) + 1 := by omega
          have g5 : (0 : Int) ≤ (k : Int) + 1 := by omega
          have g6 : k + 1 ≤ L := by omega
          clear b32 b9 ST e
          go_wp2
          go_roundw
          case rel => exact ⟨k + 1, by simp, B.out, .inl ⟨by rw [HN.out]; omega, rfl, by rw [ST2.out], by rw [ST2.out]; exact O.out⟩⟩
          case measure => simp only []; omega
      · obtain rfl : k = N := by omega
        have TK : l.take k = ahead l := by rw [A2.out, HN.out]
        have WF := Lib.hid (show wsF (ahead l) = wsEnd (wsS (l.take k)) by rw [TK]; rfl)
        have ex : (str l).extract 0 k = str (ahead l) := by rw [extract_take, ← TK]
        by_cases hh : k < L
        · have R := fun w => run_index_bat l k (by rw [HL.out]; omega) w
          have e35 : bat l k = 35 := by
            have := A4.out (by rw [HN.out, HL.out]; exact hh)
            rw [HN.out] at this
            exact (bat_byte l k 35).2 this
          rw [e35] at R
          have h1 : (k : Int) < (L : Int) := by omega
          have h2 : (k : Int) ≤ (L : Int) := by omega
          have h3 : k ≤ L := by omega
          clear e35 TK
          by_cases e2 : (wsS (l.take k)).2 = []
          · have W := Lib.hid (show wsF (ahead l) = (wsS (l.take k)).1 by rw [WF.out]; unfold wsEnd; rw [if_pos e2])
            rw [e2]
            generalize (wsS (l.take k)).1 = q at *
            clear e2 WF
            go_wp2
            go_roundw
            case rel => exact ⟨k + 1, by simp, B.out, .inr ⟨by rw [HN.out], rfl, rfl, by rw [W.out]; exact O.out⟩⟩
            case measure => simp only []; omega
          · have W := Lib.hid (show wsF (ahead l) = (wsS (l.take k)).1 ++ [(wsS (l.take k)).2] by rw [WF.out]; unfold wsEnd; rw [if_neg e2])
            generalize (wsS (l.take k)).1 = q at *
            generalize (wsS (l.take k)).2 = p at *
            have ne : (p == []) = false := by simpa using e2
            clear e2 WF
            go_wp2_with (at_builtin; refine wpList_tapp rfl (.tmp 52) (.tmp 54) 24 rfl w.heap.size 9 i0 (.string ⟨#[]⟩) 16 Try.underlying24 Hi.out Hz0.out Hz1.out Hz2.out rfl _ _ q (by rfl) O.out p wr.heap.size rfl (by rfl) (by unfold maxLen; omega) (by omega) B.out.size ?_; intro v3 w3 hown3 hgrow3; have B3 := Lib.hid (below_app (B.out.alloc B.out.size _) (O.out.alloc _) hgrow3); have O3 := Lib.hid hown3; clear hown3 hgrow3)
            go_roundw
            case rel => exact ⟨k + 1, by simp, B3.out, .inr ⟨by rw [HN.out], rfl, rfl, by rw [W.out]; simpa using O3.out⟩⟩
            case measure => simp only []; omega
        · obtain rfl : k = L := by omega
          have AL : ahead l = l := by rw [← TK]; exact List.take_of_length_le (by rw [HL.out]; omega)
          clear TK ex
          by_cases e2 : (wsS (l.take k)).2 = []
          · have W := Lib.hid (show wsF (ahead l) = (wsS (l.take k)).1 by rw [WF.out]; unfold wsEnd; rw [if_pos e2])
            rw [e2]
            generalize (wsS (l.take k)).1 = q at *
            have AL2 := Lib.hid AL
            clear e2 WF AL
            go_wp2
            go_roundw
            case rel => exact ⟨k + 1, by simp, B.out, .inr ⟨by rw [HN.out], by rw [AL2.out], rfl, by rw [W.out]; exact O.out⟩⟩
            case measure => simp only []; omega
          · have W := Lib.hid (show wsF (ahead l) = (wsS (l.take k)).1 ++ [(wsS (l.take k)).2] by rw [WF.out]; unfold wsEnd; rw [if_neg e2])
            generalize (wsS (l.take k)).1 = q at *
            generalize (wsS (l.take k)).2 = p at *
            have ne : (p == []) = false := by simpa using e2
            have AL2 := Lib.hid AL
            clear e2 WF AL
            go_wp2_with (at_builtin; refine wpList_tapp rfl (.tmp 52) (.tmp 54) 24 rfl w.heap.size 9 i0 (.string ⟨#[]⟩) 16 Try.underlying24 Hi.out Hz0.out Hz1.out Hz2.out rfl _ _ q (by rfl) O.out p wr.heap.size rfl (by rfl) (by unfold maxLen; omega) (by omega) B.out.size ?_; intro v3 w3 hown3 hgrow3; have B3 := Lib.hid (below_app (B.out.alloc B.out.size _) (O.out.alloc _) hgrow3); have O3 := Lib.hid hown3; clear hown3 hgrow3)
            go_roundw
            case rel => exact ⟨k + 1, by simp, B3.out, .inr ⟨by rw [HN.out], by rw [AL2.out], rfl, by rw [W.out]; simpa using O3.out⟩⟩
            case measure => simp only []; omega
    · rw [HN.out] at hk
      subst hk
      obtain ⟨A1, c1, rfl, S1⟩ := own_texts ho
      have S := Lib.hid S1
      have m0 := WL.out.2.2
      rw [HN.out] at m0
      have WP2 := Lib.hid (fun (p : List UInt8) (hp : p ∈ wsF (ahead l)) => (show p.length ≤ N by have := WP.out p hp; rw [HN.out] at this; exact this))
      generalize wsF (ahead l) = q at *
      obtain ⟨m, hm⟩ : ∃ m, q.length = m := ⟨_, rfl⟩
      have HM := Lib.hid hm
      have S2 := Lib.hid (show SSl wr A1 m c1 q by rw [← hm]; exact S1)
      rw [hm] at m0
      have S2c := S2.out.cap
      have S2l := S2.out.le
      rw [hm]
      obtain ⟨K1, hK1⟩ : ∃ K1 : Int, ((N + 1 : Nat) : Int) = K1 := ⟨_, rfl⟩
      have hK2 : ¬ K1 ≤ (N : Int) := by omega
      rw [hK1]
      clear ho S1 S hm hK1
      go_wp2
      go_loopw [7] (fun vi wx => ∃ k2 : Nat, vi = .int .i64 k2 ∧ wx = wr ∧ k2 ≤ m ∧ (q.take k2).all wordF = true) (fun vi _ => match vi with | .int _ x => (m - x).toNat | _ => 0)
      case atStart => exact ⟨0, rfl, rfl, by omega, by simp⟩
      case round =>
        obtain ⟨k2, rfl, hwx, hk2, hf⟩ := hrel
        subst hwx
        have HF := Lib.hid hf
        clear hf
        by_cases hlt : k2 < m
        · obtain ⟨b0, o0, rfl, hb0, hc0⟩ := S2.out.at_ (by omega)
          have c0 := hc0 k2 hlt
          have hq : k2 < q.length := by rw [HM.out]; exact hlt
          have hg : q.getD k2 [] = q[k2] := by simp [List.getD, hq]
          have hpl : (q.getD k2 []).length ≤ 9223372036854775807 := by
            have := WP2.out (q.getD k2 []) (by rw [hg]; exact List.getElem_mem hq)
            omega
          have RW := Lib.hid (fun w => rword_any (q.getD k2 []) w hpl)
          have T1 := Lib.hid (show (q.take (k2 + 1)).all wordF = wordF (q.getD k2 []) by
            rw [List.take_succ_eq_append_getElem hq, List.all_append, HF.out, hg]
            simp)
          have T2 := Lib.hid (show wordF (q.getD k2 []) = false → q.all wordF = false by
            intro e
            cases hx : q.all wordF with
            | false => rfl
            | true =>
              rw [List.all_eq_true] at hx
              have := hx q[k2] (List.getElem_mem hq)
              rw [← hg, e] at this
              cases this)
          have hlt2 : (k2 : Int) < (m : Int) := by omega
          generalize q.getD k2 [] = p at *
          clear hc0 hg hpl
          cases hv : wordF p with
          | true =>
            have R2 := RW.out
            rw [hv] at R2
            have R3 := Lib.hid R2
            have T3 := Lib.hid (show (q.take (k2 + 1)).all wordF = true by rw [T1.out, hv])
            clear R2
            go_wp2_with (go_at_call 16; (with_reducible refine (R3.out _).mono ?_); rintro e w5 ⟨rfl, rfl⟩)
            go_roundw
            case rel => exact ⟨k2 + 1, by simp, trivial, by omega, T3.out⟩
            case measure => simp only []; omega
          | false =>
            have R2 := RW.out
            rw [hv] at R2
            have R3 := Lib.hid R2
            have E2 := Lib.hid (EN.out (T2.out hv))
            clear R2
            go_wp2_with (go_at_call 16; (with_reducible refine (R3.out _).mono ?_); rintro e w5 ⟨rfl, rfl⟩)
            go_ret2
            exact ⟨none, 0, 0, by rw [E2.out]; rfl, by rw [E2.out, os_no (by decide)]; exact SSl.nil, B.out⟩
        · have E2 := Lib.hid (EO.out (by rw [← HF.out, List.take_of_length_le (by rw [HM.out]; omega)]))
          go_wp2
          go_ret2
          exact ⟨A1, m, c1, by rw [E2.out]; rfl, by rw [E2.out]; exact S2.out, B.out⟩
end Go.Proofs.Ythmncaebkkmkjaa
