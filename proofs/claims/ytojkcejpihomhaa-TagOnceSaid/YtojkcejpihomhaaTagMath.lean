/- What Strip and Add come to, whole; a tag put and taken is the frame again. -/
import Derived.Test.YtojkcejpihomhaaTagStrip
import Derived.Test.YtojkcejpihomhaaTagAdd
import Derived.Test.YtojkcejpihomhaaRefTagAdd
import Derived.Test.YtojkcejpihomhaaRefTagStrip
namespace Go.Proofs.Ytojkcejpihomhaa
open Go.RowKit
open Go.Lib (byteCells)

/-- x where there is no error, else 0 -/
def oi (E x : Int) : Int := if E = 0 then x else 0
/-- l where there is no error, else nothing -/
def ol (E : Int) (l : List UInt8) : List UInt8 := if E = 0 then l else []
theorem oi_ok {x : Int} : oi 0 x = x := rfl
theorem ol_ok {l : List UInt8} : ol 0 l = l := rfl
theorem oi_no {E x : Int} (h : ¬ E = 0) : oi E x = 0 := by unfold oi; rw [if_neg h]
theorem ol_no {E : Int} {l : List UInt8} (h : ¬ E = 0) : ol E l = [] := by unfold ol; rw [if_neg h]
/-- why a frame's tag is not told, 0 of one that is -/
def sE (T : Int) (l : List UInt8) : Int := if T = 33024 then (if l.length < 4 then 10 else if two l 0 % 4096 = 4095 ∨ two l 2 = 33024 then 15 else 0) else 11
theorem sE_form {T : Int} {l : List UInt8} (h : ¬ T = 33024) : sE T l = 11 := by unfold sE; rw [if_neg h]
theorem sE_short {l : List UInt8} (h : l.length < 4) : sE 33024 l = 10 := by unfold sE; rw [if_pos rfl, if_pos h]
theorem sE_tag {l : List UInt8} (h : ¬ l.length < 4) (g : two l 0 % 4096 = 4095 ∨ two l 2 = 33024) : sE 33024 l = 15 := by unfold sE; rw [if_pos rfl, if_neg h, if_pos g]
theorem sE_ok {l : List UInt8} (h : ¬ l.length < 4) (g : ¬ (two l 0 % 4096 = 4095 ∨ two l 2 = 33024)) : sE 33024 l = 0 := by unfold sE; rw [if_pos rfl, if_neg h, if_neg g]
theorem sE_cases (T : Int) (l : List UInt8) : (sE T l = 0 ∧ T = 33024 ∧ 4 ≤ l.length ∧ ¬ two l 0 % 4096 = 4095 ∧ ¬ two l 2 = 33024) ∨ sE T l = 11 ∨ sE T l = 10 ∨ sE T l = 15 := by
  by_cases hT : T = 33024
  · subst hT
    by_cases h : l.length < 4
    · exact .inr (.inr (.inl (sE_short h)))
    · by_cases g : two l 0 % 4096 = 4095 ∨ two l 2 = 33024
      · exact .inr (.inr (.inr (sE_tag h g)))
      · exact .inl ⟨sE_ok h g, rfl, by omega, fun e => g (.inl e), fun e => g (.inr e)⟩
  · exact .inr (.inl (sE_form hT))

/-- what Strip comes to -/
def GotStrip (w : World) (D S T : Int) (l : List UInt8) : Ending → World → Prop :=
  GotS w (oi (sE T l) D) (oi (sE T l) S) (oi (sE T l) (two l 2)) (ol (sE T l) (l.drop 4)) (oi (sE T l) (two l 0 % 4096)) (oi (sE T l) (two l 0 / 4096)) (sE T l)
theorem strip_any (D S T : Int) (A : Option Addr) (n c : Nat) (l : List UInt8) (w : World) (h : BSl w A n c l) (hm : n ≤ 1000000) :
    Calls Try.prog 8 #[.agg #[.int .u64 D, .int .u64 S, .int .i64 T, .slice A n c]] w (GotStrip w D S T l) := by
  have hl := h.len
  unfold GotStrip
  by_cases hT : T = 33024
  · subst hT
    by_cases h4 : n < 4
    · rw [sE_short (by omega)]
      exact strip_short D S A n c w h4
    · have hs := strip_mid D S A n c l w h (by omega) hm (two l 0) (two l 2) rfl rfl
      by_cases g : two l 0 % 4096 = 4095 ∨ two l 2 = 33024
      · rw [sE_tag (by omega) g]
        exact hs.mono fun _ _ h => h.1 g
      · rw [sE_ok (by omega) g]
        exact hs.mono fun _ _ h => h.2 g
  · rw [sE_form hT]
    exact strip_form D S T A n c w hT
theorem rstrip_any (D S T : Int) (A : Option Addr) (n c : Nat) (l : List UInt8) (w : World) (h : BSl w A n c l) (hm : n ≤ 1000000) :
    Calls Try.prog 9 #[.agg #[.int .u64 D, .int .u64 S, .int .i64 T, .slice A n c]] w (GotStrip w D S T l) := by
  have hl := h.len
  unfold GotStrip
  by_cases hT : T = 33024
  · subst hT
    by_cases h4 : n < 4
    · rw [sE_short (by omega)]
      exact rstrip_short D S A n c w h4
    · have hs := rstrip_mid D S A n c l w h (by omega) hm (two l 0) (two l 2) rfl rfl
      by_cases g : two l 0 % 4096 = 4095 ∨ two l 2 = 33024
      · rw [sE_tag (by omega) g]
        exact hs.mono fun _ _ h => h.1 g
      · rw [sE_ok (by omega) g]
        exact hs.mono fun _ _ h => h.2 g
  · rw [sE_form hT]
    exact rstrip_form D S T A n c w hT
/-- what Add comes to -/
def GotAdd (w : World) (D S T : Int) (l : List UInt8) (v p : Int) : Ending → World → Prop :=
  GotF w (oi (aE T v p l.length) D) (oi (aE T v p l.length) S) (oi (aE T v p l.length) 33024) (ol (aE T v p l.length) (tbs v p T l)) (aE T v p l.length)
theorem GotF.of_none {w : World} {E : Int} {e : Ending} {w' : World} {D S T : Int} {l : List UInt8} (hE : ¬ E = 0) (he : e = .returned (.tuple #[.agg #[.int .u64 0, .int .u64 0, .int .i64 0, .slice none 0 0], .int .i64 E])) (hb : Below w.heap.size w w') :
    GotF w (oi E D) (oi E S) (oi E T) (ol E l) E e w' := by
  rw [oi_no hE, oi_no hE, oi_no hE, ol_no hE]
  exact ⟨none, 0, 0, he, BSl.nil, hb⟩
theorem add_any (D S T : Int) (A : Option Addr) (n c : Nat) (l : List UInt8) (v p : Int) (w : World) (h : BSl w A n c l) :
    Calls Try.prog 12 #[.agg #[.int .u64 D, .int .u64 S, .int .i64 T, .slice A n c], .int .i64 v, .int .i64 p] w (GotAdd w D S T l v p) := by
  have hl := h.len
  unfold GotAdd
  rw [hl]
  by_cases hE : aE T v p n = 0
  · rcases aE_cases T v p n with ⟨_, h0, h1, h2, h3, h4, h5, h6, h7⟩ | e | e | e
    · rw [hE]
      exact (add_ok D S T v p A n c l w h hE h1 h2 h3 h4 h5 h6 h7).mono fun _ _ ⟨A', c', he, ho, hb⟩ => ⟨A', 4 + n, c', he, BSl.of_own ho, hb⟩
    · rw [e] at hE; cases hE
    · rw [e] at hE; cases hE
    · rw [e] at hE; cases hE
  · exact (add_not D S T v p A n c w hE).mono fun _ _ ⟨he, hb⟩ => GotF.of_none hE he hb
theorem radd_any (D S T : Int) (A : Option Addr) (n c : Nat) (l : List UInt8) (v p : Int) (w : World) (h : BSl w A n c l) :
    Calls Try.prog 13 #[.agg #[.int .u64 D, .int .u64 S, .int .i64 T, .slice A n c], .int .i64 v, .int .i64 p] w (GotAdd w D S T l v p) := by
  have hl := h.len
  unfold GotAdd
  rw [hl]
  by_cases h0 : T = 33024 ∨ v < 0 ∨ 4094 < v ∨ p < 0 ∨ 15 < p
  · rw [aE_tag h0]
    exact (radd_tag D S T v p A n c w h0).mono fun _ _ ⟨he, hb⟩ => GotF.of_none (by decide) he hb
  · by_cases h1 : T < 0 ∨ 65535 < T
    · rw [aE_form h0 h1]
      exact (radd_form D S T v p A n c w h0 h1).mono fun _ _ ⟨he, hb⟩ => GotF.of_none (by decide) he hb
    · by_cases h2 : 1500 < n
      · rw [aE_long h0 h1 h2]
        exact (radd_long D S T v p A n c w h0 h1 h2).mono fun _ _ ⟨he, hb⟩ => GotF.of_none (by decide) he hb
      · rw [aE_ok h0 h1 h2]
        exact (radd_ok D S T v p A n c l w h (by omega) (by omega) (by omega) (by omega) (by omega) (by omega) (by omega) (by omega)).mono fun _ _ ⟨A', c', he, ho, hb⟩ => ⟨A', 4 + n, c', he, BSl.of_own ho, hb⟩

/-! A tag that is put is taken; one that is taken is put as it was. -/
theorem two_tbs0 (v p T : Int) (l : List UInt8) (h0 : 0 ≤ v) (h1 : v ≤ 4094) (h2 : 0 ≤ p) (h3 : p ≤ 15) : two (tbs v p T l) 0 = p * 4096 + v := by
  have v1 := u8_val (tg v p / 256) (by unfold tg; omega) (by unfold tg; omega)
  have v2 := u8_val (tg v p % 256) (by unfold tg; omega) (by unfold tg; omega)
  show ((u8 (tg v p / 256)).toNat : Int) * 256 + ((u8 (tg v p % 256)).toNat : Int) = p * 4096 + v
  rw [v1, v2]
  unfold tg
  omega
theorem two_tbs2 (v p T : Int) (l : List UInt8) (h0 : 0 ≤ T) (h1 : T ≤ 65535) : two (tbs v p T l) 2 = T := by
  have v1 := u8_val (T / 256) (by omega) (by omega)
  have v2 := u8_val (T % 256) (by omega) (by omega)
  show ((u8 (T / 256)).toNat : Int) * 256 + ((u8 (T % 256)).toNat : Int) = T
  rw [v1, v2]
  omega
theorem drop_tbs (v p T : Int) (l : List UInt8) : (tbs v p T l).drop 4 = l := rfl
theorem tbs_back (l : List UInt8) (h : 4 ≤ l.length) : tbs (two l 0 % 4096) (two l 0 / 4096) (two l 2) (l.drop 4) = l := by
  match l, h with
  | a0 :: a1 :: a2 :: a3 :: r, _ =>
    have e0 : two (a0 :: a1 :: a2 :: a3 :: r) 0 = (a0.toNat : Int) * 256 + (a1.toNat : Int) := rfl
    have e2 : two (a0 :: a1 :: a2 :: a3 :: r) 2 = (a2.toNat : Int) * 256 + (a3.toNat : Int) := rfl
    rw [e0, e2]
    have b0 := a0.toNat_lt
    have b1 := a1.toNat_lt
    have b2 := a2.toNat_lt
    have b3 := a3.toNat_lt
    have f : tg (((a0.toNat : Int) * 256 + (a1.toNat : Int)) % 4096) (((a0.toNat : Int) * 256 + (a1.toNat : Int)) / 4096) = (a0.toNat : Int) * 256 + (a1.toNat : Int) := by unfold tg; omega
    unfold tbs
    rw [f]
    have f0 : ((a0.toNat : Int) * 256 + (a1.toNat : Int)) / 256 = (a0.toNat : Int) := by omega
    have f1 : ((a0.toNat : Int) * 256 + (a1.toNat : Int)) % 256 = (a1.toNat : Int) := by omega
    have f2 : ((a2.toNat : Int) * 256 + (a3.toNat : Int)) / 256 = (a2.toNat : Int) := by omega
    have f3 : ((a2.toNat : Int) * 256 + (a3.toNat : Int)) % 256 = (a3.toNat : Int) := by omega
    rw [f0, f1, f2, f3, u8_nat, u8_nat, u8_nat, u8_nat]
    rfl
/-- a frame that has a tag put on it is told that tag, and is again what it was -/
theorem strip_added (D S : Int) (A : Option Addr) (n c : Nat) (T v p : Int) (l : List UInt8) (w : World) (h : BSl w A n c (tbs v p T l)) (hl : l.length ≤ 100000) (hT : T ≠ 33024) (h0 : 0 ≤ v) (h1 : v ≤ 4094) (h2 : 0 ≤ p) (h3 : p ≤ 15) (h4 : 0 ≤ T) (h5 : T ≤ 65535) :
    Calls Try.prog 8 #[.agg #[.int .u64 D, .int .u64 S, .int .i64 33024, .slice A n c]] w (GotS w D S T l v p 0) := by
  have hn := h.len
  rw [tbs_len] at hn
  have t0 := two_tbs0 v p T l h0 h1 h2 h3
  have t2 := two_tbs2 v p T l h4 h5
  have hs := strip_any D S 33024 A n c (tbs v p T l) w h (by omega)
  have e : sE 33024 (tbs v p T l) = 0 := sE_ok (by rw [tbs_len]; omega) (by rw [t0, t2]; omega)
  unfold GotStrip at hs
  rw [e, t0, t2, drop_tbs, oi_ok, oi_ok, oi_ok, ol_ok, oi_ok, oi_ok, show (p * 4096 + v) % 4096 = v by omega, show (p * 4096 + v) / 4096 = p by omega] at hs
  exact hs
end Go.Proofs.Ytojkcejpihomhaa
