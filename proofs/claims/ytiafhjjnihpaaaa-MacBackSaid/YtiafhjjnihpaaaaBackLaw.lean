/- The walk of the statement MacBack. -/
import Derived.Test.YtiafhjjnihpaaaaBytesLaw
import Derived.Test.YtiafhjjnihpaaaaRefRead
namespace Go.Proofs.Ytiafhjjnihpaaaa
open Go.RowKit

/-- the text of an address is read as that address -/
theorem val_text (m : Int) (h0 : 0 ≤ m) (h1 : m < 281474976710656) : val (strOf (textPre m 6)) 6 = m := by
  have hd := fun k : Nat => dg_hx (byt m k / 16) (by have := byt_lo m k; omega) (by have := byt_hi m k; omega)
  have hm := fun k : Nat => dg_hx (byt m k % 16) (by have := byt_lo m k; omega) (by have := byt_hi m k; omega)
  have get := fun i (hi : i < 17) => sb_strOf (textPre m 6) i (textPre_bd m) (by rw [textPre_17]; exact hi)
  rw [val_six, get 0 (by omega), get 1 (by omega), get 3 (by omega), get 4 (by omega), get 6 (by omega), get 7 (by omega), get 9 (by omega), get 10 (by omega), get 12 (by omega), get 13 (by omega), get 15 (by omega), get 16 (by omega), textPre_six]
  simp only [List.getD_cons_zero, List.getD_cons_succ, hd, hm]
  unfold byt
  simp only [Nat.reduceSub, Int.reducePow]
  omega
theorem text_inj (a b : Int) (a0 : 0 ≤ a) (a1 : a < 281474976710656) (b0 : 0 ≤ b) (b1 : b < 281474976710656) (h : strOf (textPre a 6) = strOf (textPre b 6)) : a = b := by
  rw [← val_text a a0 a1, h, val_text b b0 b1]
theorem rd_text (m : Int) (h0 : 0 ≤ m) (h1 : m < 281474976710656) : rdV (strOf (textPre m 6)) = m ∧ rdB (strOf (textPre m 6)) = true := by
  have hb := rdB_text m
  exact ⟨by simp [rdV, hb, val_text m h0 h1], hb⟩
theorem num_byt (m : Int) (h0 : 0 ≤ m) (h1 : m < 281474976710656) : numOf (byt m) 6 = m := by
  simp only [numOf, byt, Nat.reduceSub, Int.reducePow]
  omega
theorem read_text (m : Int) (h0 : 0 ≤ m) (h1 : m < 281474976710656) (w : World) :
    Calls Try.prog 8 #[.string (strOf (textPre m 6))] w fun e w' => e = .returned (.tuple #[.int .u64 m, .bool true]) ∧ w = w' := by
  have h := read_any (strOf (textPre m 6)) w
  rw [(rd_text m h0 h1).1, (rd_text m h0 h1).2] at h
  exact h
theorem take_put {w : World} {B n k : Nat} {v : Value} {bs ts : List Int} (m : Int) (h0 : 0 ≤ m) (h1 : m < 281474976710656) (hb : bs.length = n) (ht : ts.length = k)
    (hown : w.ownsRow B 5 1 v (n + 6 + k) ((bs ++ bytesPre m 6).map (Value.int .u8) ++ ts.map (Value.int .u8))) :
    Calls Try.prog 19 #[v, .int .i64 (n : Int)] w fun e w' => e = .returned (.tuple #[.int .u64 m, .bool true]) ∧ w = w' := by
  rcases hown.2 with ⟨_, h⟩ | ⟨g, cap, cur, rfl, _, _, hc, hm, _⟩
  · omega
  · unfold maxLen at hm
    have h := take_yes g 0 (n + 6 + k) cap n (byt m) w hc (by omega) (by omega) (fun j _ => ⟨byt_lo m j, byt_hi m j⟩) (fun j hj => by
      rw [Nat.zero_add, hown.cellAt (n + j) (by omega), List.getElem?_append_left (by simp [bytesPre_len]; omega), List.getElem?_map, List.getElem?_append_right (by omega), hb, Nat.add_sub_cancel_left, bytesPre_get m 6 j hj]
      rfl)
    rw [num_byt m h0 h1] at h
    exact h

set_option maxRecDepth 100000 in
set_option maxHeartbeats 2000000 in
theorem back_main (m0 n0 m n : Int) (A : Option Addr) (la ca : Nat) (bs : List Int) (T : Option Addr) (lt ct : Nat) (ts : List Int) (w : World) (ha : la ≤ 3000) (hT : lt ≤ 3000)
    (mm : bits .and .u64 m0 281474976710655 = m) (nm : bits .and .u64 n0 281474976710655 = n) (p0 : 0 ≤ m) (p1 : m < 281474976710656)
    (sa : Src w A la ca (bs.map (Value.int .u8))) (st : Src w T lt ct (ts.map (Value.int .u8)))
    (E1 E2 : Bool) (he1 : ((strOf (textPre m 6)).toList == (strOf (textPre n 6)).toList) = E1) (he2 : (m == n) = E2) (he : (E1 == E2) = true) :
    Calls Try.prog 6 #[.int .u64 m0, .int .u64 n0, .slice A la ca, .slice T lt ct] w fun e w' => e = .returned (.bool true) ∧ Below w.heap.size w w' := by
  have HA := Lib.hid sa
  have HT := Lib.hid st
  have HLA := Lib.hid (show bs.length = la by have := sa.1; simpa using this)
  have HLT := Lib.hid (show ts.length = lt by have := st.1; simpa using this)
  obtain ⟨i0, hi, hz0, hz1, hz2⟩ := info_parts Try.info5
  have Hi := Lib.hid hi; have Hz0 := Lib.hid hz0; have Hz1 := Lib.hid hz1; have Hz2 := Lib.hid hz2
  clear sa st hi hz0 hz1 hz2
  go_enter Try.func6, Try.ntmps6
  go_wp2_with (first
    | (go_at_call 12; refine (works_any _).mono ?_; rintro e w1 ⟨rfl, hb1⟩)
    | (go_at_call 10; (with_reducible refine (text_any m w1).mono ?_); rintro e w2 ⟨rfl, hb2⟩)
    | (go_at_call 8; (with_reducible refine (read_text m p0 p1 _).mono ?_); rintro e w' ⟨rfl, rfl⟩)
    | (at_builtin; have HE := Lib.hid (show (w2.alloc (.cells #[] 5)).ownsRow w2.heap.size 5 1 (.slice (some ⟨w2.heap.size, 0, none⟩) 0 0) 0 [] from World.ownsRow_lit w2 #[] 0 (Nat.le_refl _) (by unfold maxLen; omega) rfl); refine wpList_app rfl (.tmp 34) (.tmp 35) 34 rfl w2.heap.size 5 i0 (.int .u8 0) 1 Try.underlying34 Hi.out Hz0.out Hz1.out Hz2.out rfl _ _ _ (by rfl) HE.out A la ca (bs.map (Value.int .u8)) (by rfl) (((HA.out.below hb1).below hb2).alloc _) (ints_one bs) (by unfold maxLen; omega) (by omega) (by simp) ?_; intro v3 w3 hown3 hgrow3; have hb3 := below_app ((Below.refl w2.heap.size w2).alloc (Nat.le_refl _) (.cells #[] 5)) HE.out hgrow3; simp only [Nat.zero_add, List.nil_append] at hown3; obtain ⟨A1, c1, rfl⟩ := own_shape hown3)
    | (go_at_call 21; (with_reducible refine (put_any A1 la c1 bs m _ (by omega) (Src.own hown3)).mono ?_); rintro e w4 ⟨v4, rfl, hown4, hb4⟩)
    | (at_builtin; refine wpList_app rfl (.tmp 38) (.tmp 39) 34 rfl w3.heap.size 5 i0 (.int .u8 0) 1 Try.underlying34 Hi.out Hz0.out Hz1.out Hz2.out rfl _ _ _ (by rfl) hown4 T lt ct (ts.map (Value.int .u8)) (by rfl) ((((HT.out.below hb1).below hb2).below hb3).below hb4) (ints_one ts) (by unfold maxLen; omega) (by omega) hb4.size ?_; intro v5 w5 hown5 hgrow5; have hb5 := below_app hb4 hown4 hgrow5)
    | (go_at_call 19; (with_reducible refine (take_put m p0 p1 HLA.out HLT.out hown5).mono ?_); rintro e w' ⟨rfl, rfl⟩)
    | (go_at_call 10; (with_reducible refine (text_any m w5).mono ?_); rintro e w6 ⟨rfl, hb6⟩)
    | (go_at_call 10; (with_reducible refine (text_any n _).mono ?_); rintro e w7 ⟨rfl, hb7⟩))
  go_ret
  have b2 := hb1.trans (hb2.mono hb1.size)
  have b3 := b2.trans (hb3.mono b2.size)
  have b5 := b3.trans (hb5.mono b3.size)
  have b6 := b5.trans (hb6.mono b5.size)
  exact ⟨by simp, b6.trans (hb7.mono b6.size)⟩
theorem back_long (m0 n0 : Int) (A : Option Addr) (la ca : Nat) (T : Option Addr) (lt ct : Nat) (w : World) (h : ¬ la ≤ 3000 ∨ ¬ lt ≤ 3000) :
    Calls Try.prog 6 #[.int .u64 m0, .int .u64 n0, .slice A la ca, .slice T lt ct] w fun e w' => e = .returned (.bool true) ∧ Below w.heap.size w w' := by
  by_cases h1 : la ≤ 3000
  · have h2 : (3000 : Int) < (lt : Int) := by omega
    have h3 : (la : Int) ≤ 3000 := by omega
    clear h h1
    go_enter Try.func6, Try.ntmps6
    go_wp2_with (go_at_call 12; refine (works_any _).mono ?_; rintro e w1 ⟨rfl, hb1⟩)
    go_ret
    exact ⟨rfl, hb1⟩
  · have h2 : (3000 : Int) < (la : Int) := by omega
    clear h h1
    go_enter Try.func6, Try.ntmps6
    go_wp2_with (go_at_call 12; refine (works_any _).mono ?_; rintro e w1 ⟨rfl, hb1⟩)
    go_ret
    exact ⟨rfl, hb1⟩

theorem back_walk (m0 n0 : Int) (A : Option Addr) (la ca : Nat) (za : List Int) (T : Option Addr) (lt ct : Nat) (zt : List Int) (w : World)
    (p0 : 0 ≤ m0) (p1 : m0 < 18446744073709551616) (q0 : 0 ≤ n0) (q1 : n0 < 18446744073709551616) (ra : IsRow .u8 w A la ca za) (rt : IsRow .u8 w T lt ct zt) :
    Calls Try.prog 6 #[.int .u64 m0, .int .u64 n0, .slice A la ca, .slice T lt ct] w fun e w' => e = .returned (.bool true) ∧ Below w.heap.size w w' := by
  by_cases h1 : la ≤ 3000
  · by_cases h2 : lt ≤ 3000
    · have mm := mask_48 m0 p0 p1
      have nm := mask_48 n0 q0 q1
      have a0 : 0 ≤ m0 % 281474976710656 := by omega
      have a1 : m0 % 281474976710656 < 281474976710656 := by omega
      have b0 : 0 ≤ n0 % 281474976710656 := by omega
      have b1 : n0 % 281474976710656 < 281474976710656 := by omega
      by_cases hmn : m0 % 281474976710656 = n0 % 281474976710656
      · exact back_main m0 n0 _ _ A la ca _ T lt ct _ w h1 h2 mm nm a0 a1 ra.src rt.src true true (by rw [hmn]; simp) (by simpa using hmn) rfl
      · exact back_main m0 n0 _ _ A la ca _ T lt ct _ w h1 h2 mm nm a0 a1 ra.src rt.src false false (bytes_ne _ _ (fun h => hmn (text_inj _ _ a0 a1 b0 b1 h))) (by simpa using hmn) rfl
    · exact back_long m0 n0 A la ca T lt ct w (.inr h2)
  · exact back_long m0 n0 A la ca T lt ct w (.inl h1)
end Go.Proofs.Ytiafhjjnihpaaaa
