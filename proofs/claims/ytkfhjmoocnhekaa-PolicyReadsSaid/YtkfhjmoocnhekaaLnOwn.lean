/- The contracts of package line: Word, Rows, Words, Join. The contract of line.Words. -/
import Derived.Lib.Join
import Derived.Test.YtkfhjmoocnhekaaLnRef
import Derived.Test.YtkfhjmoocnhekaaShelf
import Derived.Lib.ConvBytes
namespace Go.Proofs.Ytkfhjmoocnhekaa
open Go.RowKit
open Go.Lib (byteCells)

set_option maxRecDepth 20000 in
theorem xword_eq (l : List UInt8) (w : World) (hm : l.length ≤ 9223372036854775807) : Calls Try.prog 44 #[.string (str l)] w fun e w' => e = .returned (.bool (wordF l)) ∧ w = w' := by
  by_cases h0 : l.length < 1
  · have E := Lib.hid (wordF_len (l := l) (by omega))
    have i0 : (l.length : Int) < 1 := by omega
    generalize wordF l = v at *
    clear h0
    go_enter Try.func44, Try.ntmps44
    go_wp2
    go_ret
    exact ⟨by rw [E.out]; simp; try omega, rfl⟩
  · by_cases h1 : 40 < l.length
    · have E := Lib.hid (wordF_len (l := l) (by omega))
      have i0 : ¬ (l.length : Int) < 1 := by omega
      have i1 : (40 : Int) < (l.length : Int) := by omega
      generalize wordF l = v at *
      clear h0 h1
      go_enter Try.func44, Try.ntmps44
      go_wp2
      go_ret
      exact ⟨by rw [E.out]; simp; try omega, rfl⟩
    · have E := Lib.hid (wordF_mid (l := l) (by omega) (by omega))
      have i0 : ¬ (l.length : Int) < 1 := by omega
      have i1 : ¬ (40 : Int) < (l.length : Int) := by omega
      generalize wordF l = v at *
      have IX := Lib.hid (run_index_bat l)
      obtain ⟨n, hn⟩ : ∃ n, l.length = n := ⟨_, rfl⟩
      have HN := Lib.hid hn
      have hsz : (str l).size = n := by rw [str_size, hn]
      rw [hn] at i0 i1 hm
      clear h0 h1 hn
      go_enter Try.func44, Try.ntmps44
      go_wp2
      go_loopw [14] (fun i wr => ∃ k : Nat, i = .int .i64 k ∧ wr = w ∧ k ≤ n ∧ (l.take k).all wch = true) (fun i _ => match i with | .int _ x => (n - x).toNat | _ => 0)
      case atStart => exact ⟨0, rfl, rfl, by omega, by simp⟩
      case round =>
        obtain ⟨k, rfl, rfl, hk, hf⟩ := hrel
        have HF := Lib.hid hf
        clear hf
        by_cases hlt : k < n
        · have R := fun w => IX.out k (by rw [HN.out]; exact hlt) w
          have x0 := bat_lo l k
          have W := Lib.hid (wch_bat l k)
          have A1 := Lib.hid (all_take wch l k (by rw [HN.out]; exact hlt) HF.out)
          have A2 := Lib.hid (all_not wch l k (by rw [HN.out]; exact hlt))
          generalize bat l k = x at *
          by_cases c0 : x < 33
          · have G := Lib.hid (show v = false by rw [E.out]; exact A2.out (by rw [Bool.eq_false_iff]; intro e; have := W.out.1 e; omega))
            go_wp2
            go_ret
            exact ⟨by rw [G.out]; simp; try omega, rfl⟩
          · by_cases c1 : 126 < x
            · have G := Lib.hid (show v = false by rw [E.out]; exact A2.out (by rw [Bool.eq_false_iff]; intro e; have := W.out.1 e; omega))
              go_wp2
              go_ret
              exact ⟨by rw [G.out]; simp; try omega, rfl⟩
            · by_cases c2 : x = 35
              · have G := Lib.hid (show v = false by rw [E.out]; exact A2.out (by rw [Bool.eq_false_iff]; intro e; have := W.out.1 e; omega))
                subst c2
                go_wp2
                go_ret
                exact ⟨by rw [G.out]; simp; try omega, rfl⟩
              · have G := Lib.hid (show (l.take (k + 1)).all wch = true by rw [A1.out]; exact W.out.2 ⟨by omega, by omega, c2⟩)
                go_wp2
                go_roundw
                case rel => exact ⟨k + 1, by simp, trivial, by omega, G.out⟩
                case measure => simp only []; omega
        · have G := Lib.hid (show v = true by rw [E.out, ← HF.out, List.take_of_length_le (by rw [HN.out]; omega)])
          go_wp2
          go_ret
          exact ⟨by rw [G.out]; simp; try omega, rfl⟩
theorem xword_any (l : List UInt8) (w : World) (hm : l.length ≤ 9223372036854775807) : Calls Try.prog 44 #[.string (str l)] w fun e w' => e = .returned (.bool (wordF l)) ∧ Below w.heap.size w w' :=
  (xword_eq l w hm).mono (by rintro e w' ⟨rfl, rfl⟩; exact ⟨rfl, Below.refl _ _⟩)
theorem xrows_big (A : Option Addr) (n c : Nat) (w : World) (h : 20000 < n) : Calls Try.prog 17 #[.slice A n c] w fun e w' => e = .returned (.tuple #[.slice none 0 0, .int .i64 3]) ∧ w = w' := by
  go_enter Try.func17, Try.ntmps17
  go_wp2
  go_ret2
  exact ⟨rfl, rfl⟩
set_option maxRecDepth 20000 in
set_option maxHeartbeats 2000000 in
theorem xrows_any (A : Option Addr) (n c : Nat) (l : List UInt8) (w : World) (h : BSl w A n c l) : Calls Try.prog 17 #[.slice A n c] w (GotRows w l) := by
  have hl := h.len
  unfold GotRows
  by_cases hn : 20000 < n
  · rw [rwE_big (by omega), os_no (by decide)]
    exact (xrows_big A n c w hn).mono fun _ _ ⟨he, hb⟩ => ⟨none, 0, 0, he, SSl.nil, by subst hb; exact Below.refl _ _⟩
  · obtain ⟨i0, hi, hz0, hz1, hz2⟩ := info_parts Try.info9
    have Hi := Lib.hid hi; have Hz0 := Lib.hid hz0; have Hz1 := Lib.hid hz1; have Hz2 := Lib.hid hz2
    clear hi hz0 hz1 hz2
    have EM := Lib.hid (rwE_many (l := l) (by omega))
    have EO := Lib.hid (rwE_ok (l := l) (by omega))
    have H := Lib.hid h
    have HL := Lib.hid hl
    have hle := h.le
    have hcap := h.cap
    have in0 : ¬ (20000 : Int) < (n : Int) := by omega
    generalize hE : rwE l = E at *
    clear h hl hE
    go_enter Try.func17, Try.ntmps17
    go_wp2
    go_loopw [4, 5, 13] (fun v vf vi wr => ∃ k f : Nat, vi = .int .i64 k ∧ vf = .int .i64 f ∧ k ≤ n ∧ f + (rwS (l.take k)).2.length = k ∧ wr.ownsRow w.heap.size 9 1 v (rwS (l.take k)).1.length (txts (rwS (l.take k)).1) ∧ Below w.heap.size w wr) (fun _ _ vi _ => match vi with | .int _ x => (n - x).toNat | _ => 0)
    case atStart => exact ⟨0, 0, rfl, rfl, by omega, rfl, World.ownsRow_nil _ _ _ _, Below.refl _ _⟩
    case round =>
      obtain ⟨k, f, rfl, rfl, hk, hf, ho, hb⟩ := hrel
      have O := Lib.hid ho
      have B := Lib.hid hb
      clear ho hb
      have KL := rwS_len (l.take k)
      rw [List.length_take] at KL
      have KL2 : (rwS (l.take k)).1.length ≤ 20000 := by omega
      clear KL
      by_cases hlt : k < n
      · obtain ⟨b0, o0, rfl, hb0, hc0⟩ := H.out.at_ (by omega)
        have c0 := (B.out.cell (p := ⟨b0, o0 + k, none⟩) hb0).trans (hc0 k hlt)
        have NX := Lib.hid (rwS_take l k (by rw [HL.out]; exact hlt))
        have T := Lib.hid (bat_ten l k)
        have RS := Lib.hid (rest_sub l k f (by rw [HL.out]; exact hk) hf)
        clear hc0
        by_cases e : bat l k = 10
        · have S := Lib.hid (show rwS (l.take (k + 1)) = ((rwS (l.take k)).1 ++ [(rwS (l.take k)).2], []) by rw [NX.out, T.out.1 e, rwS_end])
          have CV := run_string_bsl wr (some ⟨b0, o0 + f, none⟩) (k - f) (c - f) (rwS (l.take k)).2 (by have := (H.out.below B.out).sub f (k - f) (by omega); rw [RS.out] at this; exact this)
          generalize (rwS (l.take k)).2 = r at *
          generalize (rwS (l.take k)).1 = q at *
          generalize bat l k = x at *
          subst e
          have f0 : (f : Int) ≤ (k : Int) := by omega
          have f1 : (k : Int) ≤ (c : Int) := by omega
          have f2 : f ≤ k := by omega
          have f3 : k ≤ c := by omega
          have f4 : ¬ c = f := by omega
          have hlt2 : (k : Int) < (n : Int) := by omega
          clear T RS NX hf
          go_wp2_with (at_builtin; refine wpList_tapp rfl (.tmp 20) (.tmp 26) 38 rfl w.heap.size 9 i0 (.string ⟨#[]⟩) 16 Try.underlying38 Hi.out Hz0.out Hz1.out Hz2.out rfl _ _ q (by rfl) O.out r wr.heap.size rfl (by rfl) (by unfold maxLen; omega) (by omega) B.out.size ?_; intro v3 w3 hown3 hgrow3; have B3 := Lib.hid (below_app (B.out.alloc B.out.size _) (O.out.alloc _) hgrow3); have O3 := Lib.hid hown3; clear hown3 hgrow3)
          go_roundw
          case rel => exact ⟨k + 1, k + 1, by simp, by simp, by omega, by rw [S.out]; simp, by rw [S.out]; simpa using O3.out, B3.out⟩
          case measure => simp only []; omega
        · have e2 : ¬ l.getD k 0 = 10 := fun g => e (T.out.2 g)
          have S := Lib.hid (show rwS (l.take (k + 1)) = ((rwS (l.take k)).1, (rwS (l.take k)).2 ++ [l.getD k 0]) by rw [NX.out, rwS_other _ _ e2])
          have hlt2 : (k : Int) < (n : Int) := by omega
          generalize bat l k = x at *
          clear T RS NX e2
          go_wp2
          go_roundw
          case rel => exact ⟨k + 1, f, by simp, rfl, by omega, by rw [S.out]; simp; omega, by rw [S.out]; exact O.out, B.out⟩
          case measure => simp only []; omega
      · obtain rfl : k = n := by omega
        have LT : l.take k = l := List.take_of_length_le (by rw [HL.out]; omega)
        have O1 := O.out
        have RS := Lib.hid (rest_sub l k f (by rw [HL.out]; omega) hf)
        rw [LT] at hf KL2 O1 RS
        clear O
        by_cases e : (rwS l).2 = []
        · have RF := Lib.hid (show rwF l = (rwS l).1 by unfold rwF; rw [if_pos e])
          rw [e] at hf
          simp at hf
          subst hf
          obtain ⟨A1, c1, rfl, S1⟩ := own_texts O1
          have EM2 := EM.out
          have EO2 := EO.out
          rw [RF.out] at EM2 EO2
          generalize (rwS l).1 = q at *
          obtain ⟨m, hm⟩ : ∃ m, q.length = m := ⟨_, rfl⟩
          have HM := Lib.hid hm
          rw [hm] at EM2 EO2 KL2
          have S2 := Lib.hid (show SSl wr A1 m c1 q by rw [← HM.out]; exact S1)
          have hmi : ((q.length : Nat) : Int) = (m : Int) := by omega
          clear S1 O1 e LT EM EO RS hm
          by_cases g : 400 < m
          · have hg : (400 : Int) < (m : Int) := by omega
            have E2 := EM2 g
            subst E2
            go_wp2
            go_ret2
            exact ⟨none, 0, 0, rfl, by rw [os_no (by decide)]; exact SSl.nil, B.out⟩
          · have hg : ¬ (400 : Int) < (m : Int) := by omega
            have E2 := EO2 g
            subst E2
            go_wp2
            go_ret2
            exact ⟨A1, m, c1, by rw [HM.out]; rfl, by rw [RF.out]; exact S2.out, B.out⟩
        · have RF := Lib.hid (show rwF l = (rwS l).1 ++ [(rwS l).2] by unfold rwF; rw [if_neg e])
          have hfl : f < k := by
            have : 0 < (rwS l).2.length := List.length_pos_iff.2 e
            omega
          obtain ⟨b0, o0, rfl, hb0, _⟩ := H.out.at_ (by omega)
          have CV := run_string_bsl wr (some ⟨b0, o0 + f, none⟩) (k - f) (c - f) (rwS l).2 (by have := (H.out.below B.out).sub f (k - f) (by omega); rw [RS.out] at this; exact this)
          have EM2 := EM.out
          have EO2 := EO.out
          rw [RF.out] at EM2 EO2
          generalize (rwS l).2 = r at *
          generalize (rwS l).1 = q at *
          obtain ⟨m, hm⟩ : ∃ m, q.length = m := ⟨_, rfl⟩
          have HM := Lib.hid (show (q ++ [r]).length = m + 1 by simp [hm])
          have O2 := Lib.hid (show wr.ownsRow w.heap.size 9 1 u4 m (txts q) by rw [← hm]; exact O1)
          rw [HM.out] at EM2 EO2
          rw [hm] at KL2
          have f0 : (f : Int) < (k : Int) := by omega
          have f1 : (f : Int) ≤ (k : Int) := by omega
          have f2 : f ≤ k := by omega
          have f3 : k ≤ c := by omega
          have f4 : ¬ c = f := by omega
          have f5 : (f : Int) ≤ (c : Int) := by omega
          clear O1 e LT EM EO RS hm hf
          by_cases g : 400 < m + 1
          · have hg : (400 : Int) < (m : Int) + 1 := by omega
            have E2 := EM2 g
            subst E2
            go_wp2_with (at_builtin; refine wpList_tapp rfl (.tmp 35) (.tmp 40) 38 rfl w.heap.size 9 i0 (.string ⟨#[]⟩) 16 Try.underlying38 Hi.out Hz0.out Hz1.out Hz2.out rfl _ _ q (by rfl) O2.out r wr.heap.size rfl (by rfl) (by unfold maxLen; omega) (by omega) B.out.size ?_; intro v3 w3 hown3 hgrow3; have B3 := Lib.hid (below_app (B.out.alloc B.out.size _) (O2.out.alloc _) hgrow3); obtain ⟨A3, c3, rfl, S3⟩ := own_texts hown3; have S4 := Lib.hid S3; clear hown3 hgrow3 S3)
            go_ret2
            exact ⟨none, 0, 0, rfl, by rw [os_no (by decide)]; exact SSl.nil, B3.out⟩
          · have hg : ¬ (400 : Int) < (m : Int) + 1 := by omega
            have E2 := EO2 g
            subst E2
            go_wp2_with (at_builtin; refine wpList_tapp rfl (.tmp 35) (.tmp 40) 38 rfl w.heap.size 9 i0 (.string ⟨#[]⟩) 16 Try.underlying38 Hi.out Hz0.out Hz1.out Hz2.out rfl _ _ q (by rfl) O2.out r wr.heap.size rfl (by rfl) (by unfold maxLen; omega) (by omega) B.out.size ?_; intro v3 w3 hown3 hgrow3; have B3 := Lib.hid (below_app (B.out.alloc B.out.size _) (O2.out.alloc _) hgrow3); obtain ⟨A3, c3, rfl, S3⟩ := own_texts hown3; have S4 := Lib.hid S3; clear hown3 hgrow3 S3)
            go_ret2
            exact ⟨A3, m + 1, c3, rfl, by rw [RF.out]; exact S4.out, B3.out⟩
/-- the bytes of a text, laid out anew -/
theorem conv_row (l : List UInt8) (w : World) : ∃ c W, (convert 9 22 (.string (str l))).run Try.prog w = .ok (.slice (some ⟨w.heap.size, 0, none⟩) l.length c) W ∧ Below w.heap.size w W ∧ w.heap.size < W.heap.size ∧ ∀ j, j < l.length → W.cell? ⟨w.heap.size, j, none⟩ = some (.int .u8 (bat l j)) := by
  have h := Lib.run_convert_string_bytes (P := Try.prog) w 9 22 5 (str l) Try.underlying9 Try.underlying22 Try.underlying5
  rw [str_size] at h
  refine ⟨_, _, h, ⟨?_, ?_, ?_, ?_, fun k hk => Lib.bytesWorld_at_old w _ _ k hk⟩, ?_, fun j hj => ?_⟩
  · rfl
  · rfl
  · rfl
  · rw [Lib.bytesWorld_size]; omega
  · rw [Lib.bytesWorld_size]; omega
  · have := Lib.bytesWorld_cell w 5 (str l) j (by rw [str_size]; exact hj)
    rw [this]
    simp [bat]
theorem extract_mid (l : List UInt8) (f k : Nat) : (str l).extract f k = str ((l.drop f).take (k - f)) := by
  rw [← str_data ((str l).extract f k)]
  congr 1
  rw [Lib.extract_data]
theorem wsS_rest (l : List UInt8) : ∃ p, l = p ++ (wsS l).2 := by
  induction hn : l.length generalizing l with
  | zero => have : l = [] := List.eq_nil_of_length_eq_zero hn; subst this; exact ⟨[], rfl⟩
  | succ n ih =>
    obtain ⟨q, c, rfl⟩ : ∃ q c, l = q ++ [c] := ⟨l.dropLast, l.getLast (by intro e; subst e; simp at hn), (List.dropLast_concat_getLast _).symm⟩
    obtain ⟨p, hp⟩ := ih q (by simpa using hn)
    by_cases hc : c = 32 ∨ c = 9
    · rw [wsS_blank q c hc]
      exact ⟨q ++ [c], by simp⟩
    · rw [wsS_other q c hc]
      exact ⟨p, by rw [← List.append_assoc, ← hp]⟩
theorem wsS_drop (l : List UInt8) : l.drop (l.length - (wsS l).2.length) = (wsS l).2 := by
  obtain ⟨p, hp⟩ := wsS_rest l
  have hl : l.length = p.length + (wsS l).2.length := by
    have := congrArg List.length hp
    rwa [List.length_append] at this
  generalize (wsS l).2 = r at *
  rw [hl, Nat.add_sub_cancel, hp, List.drop_left]
theorem ws_sub (l : List UInt8) (k f : Nat) (h : k ≤ l.length) (hf : f + (wsS (l.take k)).2.length = k) : (l.drop f).take (k - f) = (wsS (l.take k)).2 := by
  have := wsS_drop (l.take k)
  rw [List.length_take, Nat.min_eq_left h, show k - (wsS (l.take k)).2.length = f by omega] at this
  rw [← this, List.drop_take]

theorem clone_str (s : ByteArray) (w : World) (hlim : s.size ≤ 281474976710656) : Calls Try.prog 36 #[.string s] w fun e w' => e = .returned (.string s) ∧ Below w.heap.size w w' := by
  have C := Lib.hid (fun w => Try.stringslite_Clone s w hlim)
  clear hlim
  go_enter Try.func36, Try.ntmps36
  go_wp2_with (go_at_call 46; (with_reducible refine (C.out _).mono ?_); rintro e w1 ⟨rfl, hb1⟩)
  go_ret
  exact ⟨rfl, hb1⟩

/-- a stretch put behind words, if it has bytes -/
def addF (q : List (List UInt8)) (p : List UInt8) : List (List UInt8) := if p = [] then q else q ++ [p]
theorem addF_ws (s : List (List UInt8) × List UInt8) : wsEnd s = addF s.1 s.2 := rfl
theorem xadd_any (B n : Nat) (v : Value) (q : List (List UInt8)) (p : List UInt8) (w : World) (hB : B ≤ w.heap.size) (h : w.ownsRow B 9 1 v n (txts q)) (hn : n ≤ 1000000) (hp : p.length ≤ 1000000) :
    Calls Try.prog 43 #[v, .string (str p)] w fun e w' => ∃ v', e = .returned v' ∧ w'.ownsRow B 9 1 v' (addF q p).length (txts (addF q p)) ∧ Below B w w' := by
  obtain ⟨i0, hi, hz0, hz1, hz2⟩ := info_parts Try.info9
  have Hi := Lib.hid hi; have Hz0 := Lib.hid hz0; have Hz1 := Lib.hid hz1; have Hz2 := Lib.hid hz2
  clear hi hz0 hz1 hz2
  have hq : q.length = n := by have := h.1; rw [txts, List.length_map, Nat.mul_one] at this; exact this
  obtain ⟨A, c, rfl⟩ := own_shape h
  have O := Lib.hid h
  have HB := Lib.hid hB
  have C := Lib.hid (fun w => clone_str (str p) w (by rw [str_size]; omega))
  have HQ := Lib.hid hq
  clear h hB hq
  by_cases e : p = []
  · subst e
    have E := Lib.hid (show addF q [] = q from rfl)
    clear hp C
    go_enter Try.func43, Try.ntmps43
    go_wp2
    go_ret
    exact ⟨_, rfl, by rw [E.out, HQ.out]; exact O.out, Below.refl _ _⟩
  · have ne : (p == []) = false := by simpa using e
    have E := Lib.hid (show addF q p = q ++ [p] from if_neg e)
    clear hp e
    go_enter Try.func43, Try.ntmps43
    go_wp2_with (first
      | (go_at_call 36; (with_reducible refine (C.out _).mono ?_); rintro e w1 ⟨rfl, hb1⟩; have B1 := Lib.hid hb1; have O1 := Lib.hid (own_below O.out hb1); have S1 := Lib.hid (show B ≤ w1.heap.size from Nat.le_trans HB.out hb1.size))
      | (at_builtin; refine wpList_tapp rfl (.tmp 8) (.tmp 11) 38 rfl B 9 i0 (.string ⟨#[]⟩) 16 Try.underlying38 Hi.out Hz0.out Hz1.out Hz2.out rfl _ _ q (by rfl) O1.out p w1.heap.size rfl (by rfl) (by unfold maxLen; omega) (by omega) S1.out ?_; intro v3 w3 hown3 hgrow3; have B3 := Lib.hid (((B1.out.mono HB.out).alloc S1.out _).grown hgrow3 (Nat.le_trans S1.out (by simp)) (fun k hk => (O1.out.lt k hk).1)); have O3 := Lib.hid hown3; clear hown3 hgrow3))
    go_ret
    exact ⟨_, rfl, by rw [E.out]; simpa [HQ.out] using O3.out, B3.out⟩

theorem join_eq : ∀ ps : List (List UInt8), Lib.join ps [32] = joinF ps
  | [] => rfl
  | [a] => by rw [Lib.join_one]; rfl
  | a :: b :: r => by
    rw [joinF, ← join_eq (b :: r), Lib.join_cons, Lib.join_cons]
    simp [Lib.joinTail]
theorem xjoin_any (A : Option Addr) (n c : Nat) (ps : List (List UInt8)) (w : World) (h : SSl w A n c ps) (hs : Short 1000000 ps) (hn : n ≤ 1000) : Calls Try.prog 22 #[.slice A n c] w fun e w' => e = .returned (.string (str (joinF ps))) ∧ Below w.heap.size w w' := by
  have hl := h.len
  have hle := h.le
  have hJ : (joinF ps).length ≤ 1000000 := by have := hs ps.length; rwa [List.take_length] at this
  have C := Lib.hid (fun w => clone_str (str (joinF ps)) w (by rw [str_size]; omega))
  have J : Calls Try.prog 37 #[.slice A n c, .string ⟨#[32]⟩] w fun e w' => e = .returned (.string (str (joinF ps))) ∧ Below w.heap.size w w' := by
    rcases Nat.eq_zero_or_pos n with h0 | h0
    · subst h0
      obtain rfl : ps = [] := List.eq_nil_of_length_eq_zero hl
      exact (Try.strings_Join_none A c ⟨#[32]⟩ w).mono (by rintro e w' ⟨rfl, rfl⟩; exact ⟨rfl, Below.refl _ _⟩)
    · obtain ⟨b, o, rfl, hb, hc⟩ := h.at_ h0
      have e1 : (ps.map str).map (·.data.toList) = ps := by rw [List.map_map]; exact List.map_id'' (fun _ => rfl) ps
      have e2 : (ps.map str).length = n := by rw [List.length_map, hl]
      have key := Try.strings_Join b o c (ps.map str) ⟨#[32]⟩ w (fun j x hx => by
        have hj : j < ps.length := by
          have := (List.getElem?_eq_some_iff.1 hx).1
          simpa using this
        rw [hc j (by omega)]
        rw [List.getElem?_map, List.getElem?_eq_getElem hj] at hx
        simp at hx
        rw [← hx]
        simp [List.getD, hj]) hb (by omega) (by omega) (by rw [e1]; show (Lib.join ps [32]).length ≤ _; rw [join_eq]; omega)
      rw [e1, e2] at key
      have e3 : Lib.join ps (ByteArray.data ⟨#[32]⟩).toList = joinF ps := join_eq ps
      rw [e3] at key
      exact key
  have J := Lib.hid J
  clear h hs hJ hl
  go_enter Try.func22, Try.ntmps22
  go_wp2_with (first
    | (go_at_call 37; (with_reducible refine J.out.mono ?_); rintro e w1 ⟨rfl, hb1⟩)
    | (go_at_call 36; (with_reducible refine (C.out _).mono ?_); rintro e w2 ⟨rfl, hb2⟩))
  go_ret
  exact ⟨rfl, trans_below hb1 hb2⟩

end Go.Proofs.Ytkfhjmoocnhekaa

namespace Go.Proofs.Ytkfhjmoocnhekaa
open Go.RowKit
open Go.Lib (byteCells)

set_option maxRecDepth 20000 in
set_option maxHeartbeats 4000000 in
theorem xwords_any (l : List UInt8) (w : World) (hs : l.length ≤ 100000) : Calls Try.prog 31 #[.string (str l)] w (GotWords w l) := by
  unfold GotWords
  obtain ⟨a1, a2, a3, a4⟩ := ahead_spec l
  have EO := Lib.hid (wlE_ok (l := l))
  have EN := Lib.hid (wlE_no (l := l))
  have WL := Lib.hid (wsS_len (ahead l))
  have WP := Lib.hid (wsS_part (ahead l))
  have A2 := Lib.hid a2
  have A3 := Lib.hid a3
  have A4 := Lib.hid a4
  generalize hE : wlE l = E at *
  obtain ⟨N, hN⟩ : ∃ N, (ahead l).length = N := ⟨_, rfl⟩
  have HN := Lib.hid hN
  rw [hN] at a1
  obtain ⟨c0, W0, CV, hb0, hlt0, hcells⟩ := conv_row l w
  have B0 := Lib.hid hb0
  have HC := Lib.hid hcells
  obtain ⟨L, hL⟩ : ∃ L, l.length = L := ⟨_, rfl⟩
  have HL := Lib.hid hL
  rw [hL] at a1 hs CV
  have hsz : (str l).size = L := by rw [str_size, hL]
  clear a2 a3 a4 hE hN hL hb0 hcells
  go_enter Try.func31, Try.ntmps31
  go_wp2
  go_step3
  go_wp2
  go_step3
  go_wp2
  go_loopw [4, 5, 6, 16] (fun v vf vt vi wr => ∃ k f : Nat, vi = .int .i64 k ∧ vf = .int .i64 f ∧ vt = .int .i64 L ∧ k ≤ N ∧ f + (wsS (l.take k)).2.length = k ∧ wr.ownsRow W0.heap.size 9 1 v (wsS (l.take k)).1.length (txts (wsS (l.take k)).1) ∧ Below W0.heap.size W0 wr) (fun _ _ _ vi _ => match vi with | .int _ x => (N + 2 - x).toNat | _ => 0)
  case atStart => exact ⟨0, 0, rfl, rfl, rfl, by omega, rfl, World.ownsRow_nil _ _ _ _, Below.refl _ _⟩
  case round =>
    obtain ⟨k, f, rfl, rfl, rfl, hk, hf, ho, hw⟩ := hrel
    have BW := Lib.hid hw
    obtain ⟨A0, k0, hv0⟩ := own_shape ho
    subst hv0
    have O := Lib.hid ho
    have KL := wsS_len (l.take k)
    rw [List.length_take] at KL
    have KL1 : (wsS (l.take k)).1.length ≤ 1000000 := by omega
    have KL2 : (wsS (l.take k)).2.length ≤ 1000000 := by omega
    have XP := extract_mid l f k
    rw [ws_sub l k f (by rw [HL.out]; omega) hf] at XP
    have XA := Lib.hid (fun u hu ho => xadd_any W0.heap.size (wsS (l.take k)).1.length (.slice A0 (wsS (l.take k)).1.length k0) (wsS (l.take k)).1 (wsS (l.take k)).2 u hu ho KL1 KL2)
    clear ho hw KL
    by_cases hlt : k < N
    · have hkL : k < L := by omega
      have c0 := (BW.out.cell (p := ⟨w.heap.size, k, none⟩) hlt0).trans (HC.out k (by rw [HL.out]; omega))
      have n35 : ¬ bat l k = 35 := fun e => A3.out k (by rw [HN.out]; exact hlt) ((bat_byte l k 35).1 e)
      have ST := Lib.hid (wsS_take l k (by rw [HL.out]; omega))
      have b32 := Lib.hid (bat_byte l k 32)
      have b9 := Lib.hid (bat_byte l k 9)
      have i0 : (k : Int) < (L : Int) := by omega
      have f0 : (f : Int) ≤ (k : Int) := by omega
      have f1 : f ≤ k := by omega
      have f2 : k ≤ L := by omega
      have f3 : (k : Int) ≤ (L : Int) := by omega
      generalize bat l k = x at *
      by_cases e : x = 32 ∨ x = 9
      · have ST2 := Lib.hid (show wsS (l.take (k + 1)) = (addF (wsS (l.take k)).1 (wsS (l.take k)).2, []) by
          rw [ST.out, wsStep, if_pos (by rcases e with e | e; exact .inl (b32.out.1 e); exact .inr (b9.out.1 e))]
          rfl)
        generalize (wsS (l.take k)).1 = q at *
        generalize (wsS (l.take k)).2 = p at *
        clear b32 b9 ST
        rcases e with rfl | rfl
        all_goals
          go_wp2_with (go_at_call 43; (with_reducible refine (XA.out _ BW.out.size O.out).mono ?_); rintro e w5 ⟨v5, rfl, O5, B5⟩; have O6 := Lib.hid O5; have B6 := Lib.hid (BW.out.trans B5); clear O5 B5)
          go_roundw
          case rel => exact ⟨k + 1, k + 1, by simp, by simp, rfl, by omega, by rw [ST2.out]; simp, by rw [ST2.out]; exact O6.out, B6.out⟩
          case measure => simp only []; omega
      · have e32 : ¬ x = 32 := fun g => e (.inl g)
        have e9 : ¬ x = 9 := fun g => e (.inr g)
        have ST2 := Lib.hid (show wsS (l.take (k + 1)) = ((wsS (l.take k)).1, (wsS (l.take k)).2 ++ [l.getD k 0]) by
          rw [ST.out, wsStep, if_neg (by rintro (g | g); exact e32 (b32.out.2 g); exact e9 (b9.out.2 g))])
        generalize (wsS (l.take k)).1 = q at *
        generalize (wsS (l.take k)).2 = p at *
        clear b32 b9 ST e XA XP
        go_wp2
        go_roundw
        case rel => exact ⟨k + 1, f, by simp, rfl, rfl, by omega, by rw [ST2.out]; simp; omega, by rw [ST2.out]; exact O.out, BW.out⟩
        case measure => simp only []; omega
    · obtain rfl : k = N := by omega
      have TK : l.take k = ahead l := by rw [A2.out, HN.out]
      have WFq : addF (wsS (l.take k)).1 (wsS (l.take k)).2 = wsF (ahead l) := by rw [← addF_ws, TK]; rfl
      have XB := XA.out
      rw [WFq] at XB
      have XC := Lib.hid XB
      have m0 := WL.out.2.2
      rw [HN.out] at m0
      have WP2 := Lib.hid (fun (p : List UInt8) (hp : p ∈ wsF (ahead l)) => (show p.length ≤ k by have := WP.out p hp; rw [HN.out] at this; exact this))
      generalize wsF (ahead l) = r at *
      obtain ⟨m, hm⟩ : ∃ m, r.length = m := ⟨_, rfl⟩
      have HM := Lib.hid hm
      rw [hm] at m0
      generalize (wsS (l.take k)).1 = q at *
      generalize (wsS (l.take k)).2 = p at *
      have f0 : (f : Int) ≤ (k : Int) := by omega
      have f1 : f ≤ k := by omega
      have f2 : k ≤ L := by omega
      have f3 : (k : Int) ≤ (L : Int) := by omega
      clear WFq XB XA TK
      by_cases hh : k < L
      · have c0 := (BW.out.cell (p := ⟨w.heap.size, k, none⟩) hlt0).trans (HC.out k (by rw [HL.out]; omega))
        have e35 : bat l k = 35 := by
          have := A4.out (by rw [HN.out, HL.out]; exact hh)
          rw [HN.out] at this
          exact (bat_byte l k 35).2 this
        rw [e35] at c0
        have i0 : (k : Int) < (L : Int) := by omega
        clear e35
        go_wp2_with (go_at_call 43; (with_reducible refine (XC.out _ BW.out.size O.out).mono ?_); rintro e w5 ⟨v5, rfl, O5, B5⟩; obtain ⟨A1, c1, rfl, S1⟩ := own_texts O5; have B6 := Lib.hid (B0.out.trans ((BW.out.trans B5).mono B0.out.size)); rw [hm] at S1; have S2c := S1.cap; have S2l := S1.le; have S2 := Lib.hid S1; simp only [hm]; clear S1 O5 B5)
        go_loopw [45] (fun vi wx => ∃ k2 : Nat, vi = .int .i64 k2 ∧ wx = w5 ∧ k2 ≤ m ∧ (r.take k2).all wordF = true) (fun vi _ => match vi with | .int _ x => (m - x).toNat | _ => 0)
        case atStart => exact ⟨0, rfl, rfl, by omega, by simp⟩
        case round =>
          obtain ⟨k2, rfl, hwx, hk2, hf2⟩ := hrel
          subst hwx
          have HF := Lib.hid hf2
          clear hf2
          by_cases hlt : k2 < m
          · obtain ⟨b0, o0, rfl, hb0, hc0⟩ := S2.out.at_ (by omega)
            have c0 := hc0 k2 hlt
            have hq : k2 < r.length := by rw [HM.out]; exact hlt
            have hg : r.getD k2 [] = r[k2] := by simp [List.getD, hq]
            have hpl : (r.getD k2 []).length ≤ 9223372036854775807 := by
              have := WP2.out (r.getD k2 []) (by rw [hg]; exact List.getElem_mem hq)
              omega
            have RW := Lib.hid (fun w => xword_eq (r.getD k2 []) w hpl)
            have T1 := Lib.hid (show (r.take (k2 + 1)).all wordF = wordF (r.getD k2 []) by
              rw [List.take_succ_eq_append_getElem hq, List.all_append, HF.out, hg]
              simp)
            have T2 := Lib.hid (show wordF (r.getD k2 []) = false → r.all wordF = false by
              intro e
              cases hx : r.all wordF with
              | false => rfl
              | true =>
                rw [List.all_eq_true] at hx
                have := hx r[k2] (List.getElem_mem hq)
                rw [← hg, e] at this
                cases this)
            have hlt2 : (k2 : Int) < (m : Int) := by omega
            generalize r.getD k2 [] = p at *
            clear hc0 hg hpl
            cases hv : wordF p with
            | true =>
              have R2 := RW.out
              rw [hv] at R2
              have R3 := Lib.hid R2
              have T3 := Lib.hid (show (r.take (k2 + 1)).all wordF = true by rw [T1.out, hv])
              clear R2
              go_wp2_with (go_at_call 44; (with_reducible refine (R3.out _).mono ?_); rintro e w6 ⟨rfl, rfl⟩)
              go_roundw
              case rel => exact ⟨k2 + 1, by simp, trivial, by omega, T3.out⟩
              case measure => simp only []; omega
            | false =>
              have R2 := RW.out
              rw [hv] at R2
              have R3 := Lib.hid R2
              have E2 := Lib.hid (EN.out (T2.out hv))
              clear R2
              go_wp2_with (go_at_call 44; (with_reducible refine (R3.out _).mono ?_); rintro e w6 ⟨rfl, rfl⟩)
              go_ret2
              exact ⟨none, 0, 0, by rw [E2.out]; rfl, by rw [E2.out, os_no (by decide)]; exact SSl.nil, B6.out⟩
          · have E2 := Lib.hid (EO.out (by rw [← HF.out, List.take_of_length_le (by rw [HM.out]; omega)]))
            go_wp2
            go_ret2
            exact ⟨A1, m, c1, by rw [E2.out]; rfl, by rw [E2.out]; exact S2.out, B6.out⟩
      · obtain rfl : k = L := by omega
        go_wp2_with (go_at_call 43; (with_reducible refine (XC.out _ BW.out.size O.out).mono ?_); rintro e w5 ⟨v5, rfl, O5, B5⟩; obtain ⟨A1, c1, rfl, S1⟩ := own_texts O5; have B6 := Lib.hid (B0.out.trans ((BW.out.trans B5).mono B0.out.size)); rw [hm] at S1; have S2c := S1.cap; have S2l := S1.le; have S2 := Lib.hid S1; simp only [hm]; clear S1 O5 B5)
        go_loopw [45] (fun vi wx => ∃ k2 : Nat, vi = .int .i64 k2 ∧ wx = w5 ∧ k2 ≤ m ∧ (r.take k2).all wordF = true) (fun vi _ => match vi with | .int _ x => (m - x).toNat | _ => 0)
        case atStart => exact ⟨0, rfl, rfl, by omega, by simp⟩
        case round =>
          obtain ⟨k2, rfl, hwx, hk2, hf2⟩ := hrel
          subst hwx
          have HF := Lib.hid hf2
          clear hf2
          by_cases hlt : k2 < m
          · obtain ⟨b0, o0, rfl, hb0, hc0⟩ := S2.out.at_ (by omega)
            have c0 := hc0 k2 hlt
            have hq : k2 < r.length := by rw [HM.out]; exact hlt
            have hg : r.getD k2 [] = r[k2] := by simp [List.getD, hq]
            have hpl : (r.getD k2 []).length ≤ 9223372036854775807 := by
              have := WP2.out (r.getD k2 []) (by rw [hg]; exact List.getElem_mem hq)
              omega
            have RW := Lib.hid (fun w => xword_eq (r.getD k2 []) w hpl)
            have T1 := Lib.hid (show (r.take (k2 + 1)).all wordF = wordF (r.getD k2 []) by
              rw [List.take_succ_eq_append_getElem hq, List.all_append, HF.out, hg]
              simp)
            have T2 := Lib.hid (show wordF (r.getD k2 []) = false → r.all wordF = false by
              intro e
              cases hx : r.all wordF with
              | false => rfl
              | true =>
                rw [List.all_eq_true] at hx
                have := hx r[k2] (List.getElem_mem hq)
                rw [← hg, e] at this
                cases this)
            have hlt2 : (k2 : Int) < (m : Int) := by omega
            generalize r.getD k2 [] = p at *
            clear hc0 hg hpl
            cases hv : wordF p with
            | true =>
              have R2 := RW.out
              rw [hv] at R2
              have R3 := Lib.hid R2
              have T3 := Lib.hid (show (r.take (k2 + 1)).all wordF = true by rw [T1.out, hv])
              clear R2
              go_wp2_with (go_at_call 44; (with_reducible refine (R3.out _).mono ?_); rintro e w6 ⟨rfl, rfl⟩)
              go_roundw
              case rel => exact ⟨k2 + 1, by simp, trivial, by omega, T3.out⟩
              case measure => simp only []; omega
            | false =>
              have R2 := RW.out
              rw [hv] at R2
              have R3 := Lib.hid R2
              have E2 := Lib.hid (EN.out (T2.out hv))
              clear R2
              go_wp2_with (go_at_call 44; (with_reducible refine (R3.out _).mono ?_); rintro e w6 ⟨rfl, rfl⟩)
              go_ret2
              exact ⟨none, 0, 0, by rw [E2.out]; rfl, by rw [E2.out, os_no (by decide)]; exact SSl.nil, B6.out⟩
          · have E2 := Lib.hid (EO.out (by rw [← HF.out, List.take_of_length_le (by rw [HM.out]; omega)]))
            go_wp2
            go_ret2
            exact ⟨A1, m, c1, by rw [E2.out]; rfl, by rw [E2.out]; exact S2.out, B6.out⟩
end Go.Proofs.Ytkfhjmoocnhekaa
