/- Frames and bytes are one another; the contracts of Take and Put, whole. -/
import Derived.Test.YtgmeicenjgiihaaFrt
import Derived.Test.YtgmeicenjgiihaaFrp
namespace Go.Proofs.Ytgmeicenjgiihaa
open Go.RowKit
open Go.Lib (byteCells)

theorem numOf_ext (f g : Nat → Int) (n : Nat) (h : ∀ j, j < n → f j = g j) : numOf f n = numOf g n := by
  induction n with
  | zero => rfl
  | succ n ih => simp only [numOf]; rw [ih (fun j hj => h j (by omega)), h n (by omega)]
theorem byt_num (f : Nat → Int) (h : ∀ j, j < 6 → 0 ≤ f j ∧ f j < 256) (k : Nat) (hk : k < 6) : byt (numOf f 6) k = f k := by
  have h0 := h 0 (by omega)
  have h1 := h 1 (by omega)
  have h2 := h 2 (by omega)
  have h3 := h 3 (by omega)
  have h4 := h 4 (by omega)
  have h5 := h 5 (by omega)
  match k, hk with
  | 0, _ | 1, _ | 2, _ | 3, _ | 4, _ | 5, _ =>
    simp only [byt, numOf, Nat.reduceSub, Int.reducePow]
    omega
theorem mb_num (f : Nat → Int) (h : ∀ j, j < 6 → 0 ≤ f j ∧ f j < 256) : mb (numOf f 6) = [u8 (f 0), u8 (f 1), u8 (f 2), u8 (f 3), u8 (f 4), u8 (f 5)] := by
  unfold mb
  simp only [bytesPre, List.nil_append, List.cons_append, List.map_cons, List.map_nil, byt_num f h 0 (by omega), byt_num f h 1 (by omega), byt_num f h 2 (by omega), byt_num f h 3 (by omega), byt_num f h 4 (by omega), byt_num f h 5 (by omega)]
theorem fbs_back (l : List UInt8) (h : 14 ≤ l.length) : fbs (mbAt l 0) (mbAt l 6) (two l 12) (l.drop 14) = l := by
  match l, h with
  | a0 :: a1 :: a2 :: a3 :: a4 :: a5 :: a6 :: a7 :: a8 :: a9 :: a10 :: a11 :: a12 :: a13 :: r, _ =>
    unfold fbs mbAt
    rw [mb_num _ (fun j _ => ⟨bat_lo _ _, bat_hi _ _⟩), mb_num _ (fun j _ => ⟨bat_lo _ _, bat_hi _ _⟩)]
    have e1 : two (a0 :: a1 :: a2 :: a3 :: a4 :: a5 :: a6 :: a7 :: a8 :: a9 :: a10 :: a11 :: a12 :: a13 :: r) 12 = (a12.toNat : Int) * 256 + (a13.toNat : Int) := rfl
    rw [e1]
    have b1 := a12.toNat_lt
    have b2 := a13.toNat_lt
    have e2 : ((a12.toNat : Int) * 256 + (a13.toNat : Int)) / 256 = (a12.toNat : Int) := by omega
    have e3 : ((a12.toNat : Int) * 256 + (a13.toNat : Int)) % 256 = (a13.toNat : Int) := by omega
    rw [e2, e3]
    simp [bat, u8_nat]
theorem mbAt_bd (l : List UInt8) (i : Nat) : 0 ≤ mbAt l i ∧ mbAt l i < 281474976710656 := by
  have h := numOf_bd (fun j => bat l (i + j)) 6 (fun j _ => ⟨bat_lo _ _, bat_hi _ _⟩)
  unfold mbAt
  omega
theorem bat_fbs0 (D S T : Int) (l : List UInt8) (j : Nat) (h : j < 6) : bat (fbs D S T l) j = byt D j := by
  unfold fbs
  rw [bat_app_left _ _ _ (by simp [mb_len]; omega), bat_app_left _ _ _ (by simp [mb_len]; omega), bat_app_left _ _ _ (by simp [mb_len]; omega), bat_mb D j h]
theorem bat_fbs6 (D S T : Int) (l : List UInt8) (j : Nat) (h : j < 6) : bat (fbs D S T l) (6 + j) = byt S j := by
  unfold fbs
  rw [bat_app_left _ _ _ (by simp [mb_len]; omega), bat_app_left _ _ _ (by simp [mb_len]; omega), bat_app_right _ _ _ (by simp [mb_len]), mb_len, Nat.add_sub_cancel_left, bat_mb S j h]
theorem mbAt_fbs0 (D S T : Int) (l : List UInt8) (h0 : 0 ≤ D) (h1 : D < 281474976710656) : mbAt (fbs D S T l) 0 = D := by
  unfold mbAt
  rw [numOf_ext _ (byt D) 6 (fun j hj => by rw [Nat.zero_add]; exact bat_fbs0 D S T l j hj), num_byt D h0 h1]
theorem mbAt_fbs6 (D S T : Int) (l : List UInt8) (h0 : 0 ≤ S) (h1 : S < 281474976710656) : mbAt (fbs D S T l) 6 = S := by
  unfold mbAt
  rw [numOf_ext _ (byt S) 6 (fun j hj => bat_fbs6 D S T l j hj), num_byt S h0 h1]
theorem two_fbs (D S T : Int) (l : List UInt8) (h0 : 0 ≤ T) (h1 : T < 65536) : two (fbs D S T l) 12 = T := by
  have e : fbs D S T l = (mb D ++ mb S) ++ (u8 (T / 256) :: u8 (T % 256) :: l) := by simp [fbs]
  unfold two
  rw [e, bat_app_right _ _ _ (by simp [mb_len]), bat_app_right _ _ _ (by simp [mb_len])]
  have e2 : (mb D ++ mb S).length = 12 := by simp [mb_len]
  rw [e2]
  have v1 := u8_val (T / 256) (by omega) (by omega)
  have v2 := u8_val (T % 256) (by omega) (by omega)
  show ((u8 (T / 256)).toNat : Int) * 256 + ((u8 (T % 256)).toNat : Int) = T
  omega
theorem drop_fbs (D S T : Int) (l : List UInt8) : (fbs D S T l).drop 14 = l := by
  unfold fbs
  have e2 : (mb D ++ mb S ++ [u8 (T / 256), u8 (T % 256)]).length = 14 := by simp [mb_len]
  rw [← e2, List.drop_left]

/-! What Take comes to, and Put. -/
def tE (l : List UInt8) : Int := if l.length < 14 then 10 else if 1518 < l.length then 14 else 0
def tD (l : List UInt8) : Int := if tE l = 0 then mbAt l 0 else 0
def tS (l : List UInt8) : Int := if tE l = 0 then mbAt l 6 else 0
def tT (l : List UInt8) : Int := if tE l = 0 then two l 12 else 0
def tL (l : List UInt8) : List UInt8 := if tE l = 0 then l.drop 14 else []
theorem tE_short {l : List UInt8} (h : l.length < 14) : tE l = 10 := by simp [tE, h]
theorem tE_long {l : List UInt8} (h : 1518 < l.length) : tE l = 14 := by
  unfold tE
  rw [if_neg (by omega), if_pos h]
theorem tE_mid {l : List UInt8} (h0 : 14 ≤ l.length) (h1 : l.length ≤ 1518) : tE l = 0 := by
  unfold tE
  rw [if_neg (by omega), if_neg (by omega)]
theorem t_none {l : List UInt8} (h : tE l ≠ 0) : tD l = 0 ∧ tS l = 0 ∧ tT l = 0 ∧ tL l = [] := by simp [tD, tS, tT, tL, h]
theorem t_some {l : List UInt8} (h : tE l = 0) : tD l = mbAt l 0 ∧ tS l = mbAt l 6 ∧ tT l = two l 12 ∧ tL l = l.drop 14 := by simp [tD, tS, tT, tL, h]
def pE (D S T : Int) (n : Nat) : Int := if fok D S T then (if 1504 < n then 14 else 0) else 11
def pL (D S T : Int) (l : List UInt8) : List UInt8 := if pE D S T l.length = 0 then fbs D S T l else []
theorem ftake_any (A : Option Addr) (n c : Nat) (l : List UInt8) (w : World) (h : BSl w A n c l) : Calls Try.prog 17 #[.slice A n c] w (GotF w (tD l) (tS l) (tT l) (tL l) (tE l)) := by
  have hl := h.len
  by_cases h0 : n < 14
  · have e := tE_short (l := l) (by omega)
    obtain ⟨e1, e2, e3, e4⟩ := t_none (l := l) (by rw [e]; decide)
    rw [e, e1, e2, e3, e4]
    exact (ftake_short A n c w h0).mono fun _ _ ⟨he, hb⟩ => ⟨none, 0, 0, he, BSl.nil, hb⟩
  · by_cases h1 : 1518 < n
    · have e := tE_long (l := l) (by omega)
      obtain ⟨e1, e2, e3, e4⟩ := t_none (l := l) (by rw [e]; decide)
      rw [e, e1, e2, e3, e4]
      exact (ftake_long A n c w h1).mono fun _ _ ⟨he, hb⟩ => ⟨none, 0, 0, he, BSl.nil, hb⟩
    · have e := tE_mid (l := l) (by omega) (by omega)
      obtain ⟨e1, e2, e3, e4⟩ := t_some e
      rw [e, e1, e2, e3, e4]
      exact (ftake_mid A n c l w h (by omega) (by omega)).mono fun _ _ ⟨A', c', he, ho, hb⟩ => ⟨A', n - 14, c', he, BSl.of_own ho, hb⟩
theorem frtake_any (A : Option Addr) (n c : Nat) (l : List UInt8) (w : World) (h : BSl w A n c l) : Calls Try.prog 37 #[.slice A n c] w (GotF w (tD l) (tS l) (tT l) (tL l) (tE l)) := by
  have hl := h.len
  by_cases h0 : n < 14
  · have e := tE_short (l := l) (by omega)
    obtain ⟨e1, e2, e3, e4⟩ := t_none (l := l) (by rw [e]; decide)
    rw [e, e1, e2, e3, e4]
    exact (frtake_short A n c w h0).mono fun _ _ ⟨he, hb⟩ => ⟨none, 0, 0, he, BSl.nil, hb⟩
  · by_cases h1 : 1518 < n
    · have e := tE_long (l := l) (by omega)
      obtain ⟨e1, e2, e3, e4⟩ := t_none (l := l) (by rw [e]; decide)
      rw [e, e1, e2, e3, e4]
      exact (frtake_long A n c w h1).mono fun _ _ ⟨he, hb⟩ => ⟨none, 0, 0, he, BSl.nil, hb⟩
    · have e := tE_mid (l := l) (by omega) (by omega)
      obtain ⟨e1, e2, e3, e4⟩ := t_some e
      rw [e, e1, e2, e3, e4]
      exact (frtake_mid A n c l w h (by omega) (by omega)).mono fun _ _ ⟨A', c', he, ho, hb⟩ => ⟨A', n - 14, c', he, BSl.of_own ho, hb⟩
theorem fput_any (D S T : Int) (A : Option Addr) (n c : Nat) (l : List UInt8) (w : World) (h : BSl w A n c l) :
    Calls Try.prog 22 #[.agg #[.int .u64 D, .int .u64 S, .int .i64 T, .slice A n c]] w (GotB w (pL D S T l) (pE D S T l.length)) := by
  have hl := h.len
  by_cases hf : fok D S T
  · by_cases hn : 1504 < n
    · have e : pE D S T l.length = 14 := by unfold pE; rw [if_pos hf, if_pos (by omega)]
      have e2 : pL D S T l = [] := by unfold pL; rw [e]; rfl
      rw [e, e2]
      exact (fput_long D S T A n c w hf hn).mono fun _ _ ⟨he, hb⟩ => ⟨none, 0, 0, he, BSl.nil, hb⟩
    · have e : pE D S T l.length = 0 := by unfold pE; rw [if_pos hf, if_neg (by omega)]
      have e2 : pL D S T l = fbs D S T l := by unfold pL; rw [e]; rfl
      rw [e, e2]
      exact (fput_ok D S T A n c l w h hf (by omega)).mono fun _ _ ⟨v, he, ho, hb⟩ => by
        obtain ⟨A', c', rfl, h2⟩ := own_got ho
        exact ⟨A', 14 + n, c', he, h2, hb⟩
  · have e : pE D S T l.length = 11 := by unfold pE; rw [if_neg hf]
    have e2 : pL D S T l = [] := by unfold pL; rw [e]; rfl
    rw [e, e2]
    exact (fput_form D S T A n c w hf).mono fun _ _ ⟨he, hb⟩ => ⟨none, 0, 0, he, BSl.nil, hb⟩
theorem frput_any (D S T : Int) (A : Option Addr) (n c : Nat) (l : List UInt8) (w : World) (h : BSl w A n c l) (hd0 : 0 ≤ D) (hs0 : 0 ≤ S) :
    Calls Try.prog 27 #[.agg #[.int .u64 D, .int .u64 S, .int .i64 T, .slice A n c]] w (GotB w (pL D S T l) (pE D S T l.length)) := by
  have hl := h.len
  by_cases hf : fok D S T
  · by_cases hn : 1504 < n
    · have e : pE D S T l.length = 14 := by unfold pE; rw [if_pos hf, if_pos (by omega)]
      have e2 : pL D S T l = [] := by unfold pL; rw [e]; rfl
      rw [e, e2]
      exact (frput_long D S T A n c w hf hn).mono fun _ _ ⟨he, hb⟩ => ⟨none, 0, 0, he, BSl.nil, hb⟩
    · have e : pE D S T l.length = 0 := by unfold pE; rw [if_pos hf, if_neg (by omega)]
      have e2 : pL D S T l = fbs D S T l := by unfold pL; rw [e]; rfl
      rw [e, e2]
      exact (frput_ok D S T A n c l w h hf hd0 hs0 (by omega)).mono fun _ _ ⟨v, he, ho, hb⟩ => by
        obtain ⟨A', c', rfl, h2⟩ := own_got ho
        exact ⟨A', 14 + n, c', he, h2, hb⟩
  · have e : pE D S T l.length = 11 := by unfold pE; rw [if_neg hf]
    have e2 : pL D S T l = [] := by unfold pL; rw [e]; rfl
    rw [e, e2]
    exact (frput_form D S T A n c w hf).mono fun _ _ ⟨he, hb⟩ => ⟨none, 0, 0, he, BSl.nil, hb⟩
theorem pE_cases (D S T : Int) (n : Nat) : (pE D S T n = 0 ∧ fok D S T ∧ n ≤ 1504) ∨ (pE D S T n = 11 ∧ ¬ fok D S T) ∨ (pE D S T n = 14 ∧ fok D S T ∧ 1504 < n) := by
  unfold pE
  by_cases hf : fok D S T
  · by_cases hn : 1504 < n
    · right; right; rw [if_pos hf, if_pos hn]; exact ⟨rfl, hf, hn⟩
    · left; rw [if_pos hf, if_neg hn]; exact ⟨rfl, hf, by omega⟩
  · right; left; rw [if_neg hf]; exact ⟨rfl, hf⟩
theorem tE_cases (l : List UInt8) : (tE l = 0 ∧ 14 ≤ l.length ∧ l.length ≤ 1518) ∨ (tE l = 10 ∧ l.length < 14) ∨ (tE l = 14 ∧ 1518 < l.length) := by
  by_cases h0 : l.length < 14
  · exact .inr (.inl ⟨tE_short h0, h0⟩)
  · by_cases h1 : 1518 < l.length
    · exact .inr (.inr ⟨tE_long h1, h1⟩)
    · exact .inl ⟨tE_mid (by omega) (by omega), by omega, by omega⟩
end Go.Proofs.Ytgmeicenjgiihaa
