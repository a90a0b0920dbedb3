/- The contract of palingref03.Split: what stands between commas. -/
import Derived.Test.YtjmbgfhjdmoflaaDoorReadList
import Derived.StillTailTactics
namespace Go.Proofs.YtjmbgfhjdmoflaaDoor
open Go.RowKit

theorem Tryd.info9 : (Tryd.prog.info? 9).map (fun i => (i.zero, i.size, i.bytes)) = some (some (.string ⟨#[]⟩), 1, 16) := by kernel_rfl
/-- the slice's elements read as these texts -/
def SSl (w : World) (A : Option Addr) (n c : Nat) (ps : List (List UInt8)) : Prop :=
  ps.length = n ∧ n ≤ c ∧ c ≤ maxLen ∧ (0 < n → ∃ b off, A = some ⟨b, off, none⟩ ∧ b < w.heap.size ∧ ∀ j, j < n → w.cell? ⟨b, off + j, none⟩ = some (.string (str (ps.getD j []))))
def txts (ps : List (List UInt8)) : List Value := ps.map fun p => Value.string (str p)
theorem SSl.below {w w' : World} {A : Option Addr} {n c : Nat} {ps : List (List UInt8)} (h : SSl w A n c ps) (hb : Below w.heap.size w w') : SSl w' A n c ps :=
  ⟨h.1, h.2.1, h.2.2.1, fun hn => by
    obtain ⟨b, off, e, hl, hc⟩ := h.2.2.2 hn
    exact ⟨b, off, e, Nat.lt_of_lt_of_le hl hb.size, fun j hj => (hb.cell (p := ⟨b, off + j, none⟩) hl).trans (hc j hj)⟩⟩
theorem SSl.of_own {w : World} {A : Option Addr} {n c B : Nat} {e : TypeId} {ps : List (List UInt8)} (h : w.ownsRow B e 1 (.slice A n c) n (txts ps)) : SSl w A n c ps := by
  have hl := h.1
  rw [txts, List.length_map, Nat.mul_one] at hl
  rcases h.2 with ⟨hv, hn⟩ | ⟨g, cap, cur, hv, hB, hh, hnc, hm, _⟩
  · injection hv with h1 h2 h3
    subst h1 h3 hn
    exact ⟨hl, Nat.le_refl _, Nat.zero_le _, fun h => absurd h (by omega)⟩
  · injection hv with h1 h2 h3
    subst h1 h3
    refine ⟨hl, hnc, hm, fun hn => ⟨g, 0, rfl, ?_, fun j hj => ?_⟩⟩
    · rcases Nat.lt_or_ge g w.heap.size with h' | h'
      · exact h'
      · rw [Array.getElem?_eq_none h'] at hh; cases hh
    · have := h.cells (g := g) rfl j (.string (str (ps.getD j []))) (by simp [txts, List.getD, List.getElem?_eq_getElem (show j < ps.length by omega)])
      rw [← this]
      by_cases h0 : j = 0 <;> simp [Addr.add, h0]
/-- a store into a row of the call's own -/
theorem own_set {w : World} {B g n cap : Nat} {e : TypeId} {xs : List Value} (h : w.ownsRow B e 1 (.slice (some ⟨g, 0, none⟩) n cap) n xs) (i : Nat) (u : Value) :
    (w.setCell ⟨g, i, none⟩ u).ownsRow B e 1 (.slice (some ⟨g, 0, none⟩) n cap) n (xs.set i u) := by
  refine ⟨by rw [List.length_set]; exact h.1, ?_⟩
  rcases h.2 with ⟨hv, _⟩ | ⟨g', cap', cur, hv, hB, hh, h1, h2, h3, h4⟩
  · cases hv
  · injection hv with e1 e2 e3
    injection e1 with e1
    injection e1 with e1
    subst e1 e3
    refine .inr ⟨g, cap, cur.setIfInBounds i u, rfl, hB, ?_, h1, h2, by simpa using h3, ?_⟩
    · simp [World.setCell, Array.getElem?_modify, hh]
    · rw [Array.toList_setIfInBounds, List.take_set, h4]
theorem own_form {w : World} {B n : Nat} {e : TypeId} {v : Value} {xs : List Value} (h : w.ownsRow B e 1 v n xs) (hn : 0 < n) : ∃ g cap, v = .slice (some ⟨g, 0, none⟩) n cap ∧ g < w.heap.size ∧ n ≤ cap ∧ cap ≤ maxLen := by
  rcases h.2 with ⟨_, h0⟩ | ⟨g, cap, cur, rfl, _, hh, h1, h2, _⟩
  · omega
  · refine ⟨g, cap, rfl, ?_, h1, h2⟩
    rcases Nat.lt_or_ge g w.heap.size with h' | h'
    · exact h'
    · rw [Array.getElem?_eq_none h'] at hh; cases hh
theorem own_free {w : World} {B g n cap : Nat} {e : TypeId} {xs : List Value} (h : w.ownsRow B e 1 (.slice (some ⟨g, 0, none⟩) n cap) n xs) (i : Nat) : w.frozen? ⟨g, i, none⟩ = false := by
  rcases h.2 with ⟨hv, _⟩ | ⟨g', cap', cur, hv, hB, hh, _⟩
  · cases hv
  · injection hv with e1 e2 e3
    injection e1 with e1
    injection e1 with e1
    subst e1
    exact Lib.frozen_of_heap hh i
theorem lastC_set (c : UInt8) (ps : List (List UInt8)) (h : ps ≠ []) : lastC c ps = ps.set (ps.length - 1) (ps.getD (ps.length - 1) [] ++ [c]) := by
  obtain ⟨qs, p, rfl⟩ : ∃ qs p, ps = qs ++ [p] := ⟨ps.dropLast, ps.getLast h, (List.dropLast_concat_getLast h).symm⟩
  simp [lastC]
theorem splitC_len (l : List UInt8) : 1 ≤ (splitC l).length ∧ (splitC l).length ≤ l.length + 1 := by
  induction l with
  | nil => simp [splitC]
  | cons c r ih =>
    by_cases hc : c = 44
    · subst hc; rw [splitC_comma]; simp; omega
    · cases hr : splitC r with
      | nil => exact absurd hr (splitC_ne r)
      | cons h t =>
        rw [splitC_other c r h t hc hr]
        rw [hr] at ih
        simp at ih ⊢
        omega
theorem splitC_part (l : List UInt8) : ∀ p ∈ splitC l, p.length ≤ l.length := by
  induction l with
  | nil => intro p hp; simp [splitC] at hp; subst hp; simp
  | cons c r ih =>
    intro p hp
    by_cases hc : c = 44
    · subst hc
      rw [splitC_comma] at hp
      rcases List.mem_cons.1 hp with rfl | hp
      · simp
      · have := ih p hp; simp; omega
    · cases hr : splitC r with
      | nil => exact absurd hr (splitC_ne r)
      | cons h t =>
        rw [splitC_other c r h t hc hr] at hp
        rw [hr] at ih
        rcases List.mem_cons.1 hp with rfl | hp
        · have := ih h (by simp); simp; omega
        · have := ih p (by simp [hp]); simp; omega
theorem extract_one (l : List UInt8) (k : Nat) (h : k < l.length) : (str l).extract k (k + 1) = str [l.getD k 0] := by
  rw [← str_data ((str l).extract k (k + 1))]
  congr 1
  rw [Lib.extract_data]
  have e : l.drop k = l[k] :: l.drop (k + 1) := List.drop_eq_getElem_cons h
  rw [show (str l).data.toList = l by simp, show k + 1 - k = 1 by omega, e, List.getD, List.getElem?_eq_getElem h]
  rfl
theorem txts_set (ps : List (List UInt8)) (i : Nat) (p : List UInt8) : (txts ps).set i (.string (str p)) = txts (ps.set i p) := by
  unfold txts; rw [List.map_set]

set_option maxRecDepth 100000 in
set_option maxHeartbeats 2000000 in
theorem split_any (l : List UInt8) (w : World) (hs : l.length ≤ 1000000) :
    Calls Tryd.prog 34 #[.string (str l)] w fun e w' => ∃ A n c, e = .returned (.slice A n c) ∧ SSl w' A n c (splitC l) ∧ Below w.heap.size w w' := by
  obtain ⟨i0, hi, hz0, hz1, hz2⟩ := info_parts Tryd.info9
  have Hi := Lib.hid hi; have Hz0 := Lib.hid hz0; have Hz1 := Lib.hid hz1; have Hz2 := Lib.hid hz2
  clear hi hz0 hz1 hz2
  have HO := Lib.hid (show (w.alloc (.cells #[.string ⟨#[]⟩] 9)).ownsRow w.heap.size 9 1 (.slice (some ⟨w.heap.size, 0, none⟩) 1 1) 1 (txts (splitC [])) from World.ownsRow_lit w #[.string ⟨#[]⟩] 1 (Nat.le_refl _) (by unfold maxLen; omega) rfl)
  go_enter Tryd.func34, Tryd.ntmps34
  go_wp2
  go_loopw [3, 4] (fun v i wr => ∃ k : Nat, k ≤ l.length ∧ i = .int .i64 (k : Int) ∧ wr.ownsRow w.heap.size 9 1 v (splitC (l.take k)).length (txts (splitC (l.take k))) ∧ Below w.heap.size w wr) (fun _ i _ => l.length - (intOf i).toNat)
  case atStart => exact ⟨0, by omega, rfl, HO.out, (Below.refl _ _).alloc (Nat.le_refl _) _⟩
  case round =>
    obtain ⟨k, hk, rfl, hown, hb⟩ := hrel
    have hgB := fun k (hk : _ = some k) => (hown.lt k hk).1
    have hsl := splitC_len (l.take k)
    have htk : (l.take k).length = k := by rw [List.length_take]; omega
    rw [htk] at hsl
    obtain ⟨g, cap, rfl, hg1, hnc, hcm⟩ := own_form hown (by omega)
    have HG := Lib.hid (hgB g rfl)
    clear hgB
    clear htk
    by_cases hlt : k < l.length
    · have x0 := run_index_sb (str l) k k rfl (by rw [str_size]; exact hlt)
      by_cases hc : l.getD k 0 = 44
      · have S := Lib.hid (show splitC (l.take (k + 1)) = splitC (l.take k) ++ [[]] by rw [take_more hlt, hc, splitC_snoc_comma])
        have y0 : (sb (str l) k == 44) = true := by rw [sb_str, hc]; rfl
        clear hc
        go_wp2_with (at_builtin; refine wpList_append_lies _ rfl (.tmp 16) (.tmp 17) 55 rfl w.heap.size 9 i0 (.string ⟨#[]⟩) 1 16 Tryd.underlying55 Hi.out Hz0.out Hz1.out Hz2.out rfl (by decide) _ _ _ (by rfl) (hown.alloc _) ⟨wr.heap.size, 0, none⟩ 1 1 [.string ⟨#[]⟩] (by rfl) rfl (World.news_of_block (heap_alloc_new wr _)) (by simp [Value.oneCell']) (by omega) (by unfold maxLen; omega) (by omega) (by have := hb.size; simp; omega) _ rfl ?_; intro g2 cap2 w3 hown3 hgrow3 _ _)
        have hend : w3.ownsRow w.heap.size 9 1 (.slice (some ⟨g2, 0, none⟩) ((splitC (l.take k)).length + 1) cap2) (splitC (l.take (k + 1))).length (txts (splitC (l.take (k + 1)))) ∧ Below w.heap.size w w3 := by
          refine ⟨?_, below_app (hb.alloc hb.size _) (hown.alloc _) hgrow3⟩
          rw [S.out, List.length_append]
          simpa [txts] using hown3
        clear hown hown3 hgrow3 hb
        go_wp2
        go_roundw
        case rel => exact ⟨k + 1, by omega, by go_num, hend.1, hend.2⟩
        case measure => simp [intOf]; omega
      · have S := Lib.hid (show splitC (l.take (k + 1)) = (splitC (l.take k)).set ((splitC (l.take k)).length - 1) ((splitC (l.take k)).getD ((splitC (l.take k)).length - 1) [] ++ [l.getD k 0]) by rw [take_more hlt, splitC_snoc_other _ _ hc, lastC_set _ _ (splitC_ne _)])
        have y0 : (sb (str l) k == 44) = false := by
          rw [sb_str, beq_eq_false_iff_ne]
          intro e
          have e2 : (l.getD k 0).toNat = 44 := by omega
          exact hc (by rw [← ofNat_of _ 44 e2]; rfl)
        have X1 := Lib.hid (extract_one l k hlt)
        clear hc
        have hcell : wr.cell? ⟨g, (splitC (l.take k)).length - 1, none⟩ = some (.string (str ((splitC (l.take k)).getD ((splitC (l.take k)).length - 1) []))) := by
          rw [hown.cellAt _ (by omega)]
          simp [txts, List.getD, List.getElem?_eq_getElem (show (splitC (l.take k)).length - 1 < (splitC (l.take k)).length by omega)]
        have hfz := own_free hown ((splitC (l.take k)).length - 1)
        have HSET := Lib.hid (own_set hown ((splitC (l.take k)).length - 1) (.string (str ((splitC (l.take k)).getD ((splitC (l.take k)).length - 1) [] ++ [l.getD k 0]))))
        have hpl : ((splitC (l.take k)).getD ((splitC (l.take k)).length - 1) []).length ≤ 1000000 := by
          have := splitC_part (l.take k) _ (List.getElem_mem (show (splitC (l.take k)).length - 1 < (splitC (l.take k)).length by omega))
          rw [List.length_take] at this
          rw [List.getD, List.getElem?_eq_getElem (show (splitC (l.take k)).length - 1 < (splitC (l.take k)).length by omega)]
          show (splitC (l.take k))[(splitC (l.take k)).length - 1].length ≤ _
          omega
        generalize hm : (splitC (l.take k)).length = m at *
        generalize hp : (splitC (l.take k)).getD (m - 1) [] = p at *
        obtain ⟨hm1, hm2⟩ := hsl
        generalize hq : l.getD k 0 = q at *
        have hadd : ∀ W, (Op.stringOp .add (str p) (str [q])).run Tryd.prog W = .ok (.string (str (p ++ [q]))) W := fun W => by
          rw [run_string_add_sum W _ _ (by rw [str_size, str_size]; simp; omega), str_append]
        have hm3 : (1 : Int) ≤ (m : Int) := by omega
        have d1 : IntKind.i64.wrap ((m : Int) - 1) = (m : Int) - 1 := IntWalk.i64_in _ (by omega)
        have d2 : (0 : Int) ≤ (m : Int) - 1 := by omega
        have d3 : ((m : Int) - 1).toNat = m - 1 := by omega
        have d4 : (m : Int) - 1 < (m : Int) := by omega
        have d5 : IntKind.i64.wrap ((k : Int) + 1) = (k : Int) + 1 := IntWalk.i64_in _ (by omega)
        have d6 : ((k : Int) + 1).toNat = k + 1 := by omega
        have d7 : (k : Int) ≤ (k : Int) + 1 := by omega
        have d8 : (k : Int) + 1 ≤ (l.length : Int) := by omega
        have d9 : (0 : Int) ≤ (k : Int) + 1 := by omega
        have dx := X1.out
        go_wp2
        go_still_tail 17, (by kernel_rfl)
        change wpList _ _ _ _ _ wr.drew
        go_wp2
        have hend : (wr.setCell ⟨g, m - 1, none⟩ (.string (str (p ++ [q])))).drew.ownsRow w.heap.size 9 1 (.slice (some ⟨g, 0, none⟩) m cap) (splitC (l.take (k + 1))).length (txts (splitC (l.take (k + 1)))) := by
          have h2 := HSET.out
          rw [txts_set] at h2
          rw [S.out, List.length_set, hm]
          exact h2
        have hbel : Below w.heap.size w (wr.setCell ⟨g, m - 1, none⟩ (.string (str (p ++ [q])))).drew := (hb.setCell (p := ⟨g, m - 1, none⟩) (HG.out) _).drew
        go_roundw
        case rel => exact ⟨k + 1, by omega, by go_num, hend, hbel⟩
        case measure => simp [intOf]; omega
    · obtain rfl : k = l.length := by omega
      rw [List.take_length] at hown
      have hsl := Lib.hid (SSl.of_own hown)
      go_wp2
      go_ret
      exact ⟨_, _, _, rfl, by rw [List.take_length]; exact hsl.out, hb⟩
end Go.Proofs.YtjmbgfhjdmoflaaDoor
