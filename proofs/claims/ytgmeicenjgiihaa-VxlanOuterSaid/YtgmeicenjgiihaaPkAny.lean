/- What ipv4's and palingref07's Take and Put come to, whole; the chapter's example. -/
import Derived.Test.YtgmeicenjgiihaaPkTake
import Derived.Test.YtgmeicenjgiihaaPkRTake
import Derived.Test.YtgmeicenjgiihaaPkRPut
import Derived.Test.YtgmeicenjgiihaaKeep
import Derived.Test.YtgmeicenjgiihaaBsl
namespace Go.Proofs.Ytgmeicenjgiihaa
open Go.RowKit
open Go.Lib (byteCells)

/-- what Take comes to -/
def GotTake (w : World) (l : List UInt8) : Ending → World → Prop :=
  GotP w (oi (rE l) (bat l 1)) (oi (rE l) (two l 4)) (oi (rE l) (bat l 8)) (oi (rE l) (bat l 9)) (oi (rE l) (four l 12)) (oi (rE l) (four l 16)) (ol (rE l) (bodyF l)) (rE l)
theorem ptake_any (A : Option Addr) (n c : Nat) (l : List UInt8) (w : World) (h : BSl w A n c l) (hn : n ≤ 1000000) : Calls Try.prog 52 #[.slice A n c] w (GotTake w l) := by
  unfold GotTake
  by_cases hE : rE l = 0
  · rw [hE]
    exact ptake_ok A n c l w h hn hE
  · rw [oi_no hE, oi_no hE, oi_no hE, oi_no hE, oi_no hE, oi_no hE, ol_no hE]
    exact ptake_no A n c l w h hE
theorem rtake_any (A : Option Addr) (n c : Nat) (l : List UInt8) (w : World) (h : BSl w A n c l) (hn : n ≤ 1000000) : Calls Try.prog 38 #[.slice A n c] w (GotTake w l) := by
  unfold GotTake
  by_cases hE : rE l = 0
  · rw [hE]
    exact rtake_ok A n c l w h hn hE
  · rw [oi_no hE, oi_no hE, oi_no hE, oi_no hE, oi_no hE, oi_no hE, ol_no hE]
    exact rtake_no A n c l w h hE
/-- why a packet can't be put -/
def pkE (T I L R : Int) (n : Nat) : Int := if pok T I L R then (if 1480 < n then 14 else 0) else 11
theorem pkE_form {T I L R : Int} {n : Nat} (h : ¬ pok T I L R) : pkE T I L R n = 11 := by unfold pkE; rw [if_neg h]
theorem pkE_long {T I L R : Int} {n : Nat} (h : pok T I L R) (g : 1480 < n) : pkE T I L R n = 14 := by unfold pkE; rw [if_pos h, if_pos g]
theorem pkE_ok {T I L R : Int} {n : Nat} (h : pok T I L R) (g : ¬ 1480 < n) : pkE T I L R n = 0 := by unfold pkE; rw [if_pos h, if_neg g]
theorem pkE_cases (T I L R : Int) (n : Nat) : (pkE T I L R n = 0 ∧ pok T I L R ∧ n ≤ 1480) ∨ pkE T I L R n = 11 ∨ pkE T I L R n = 14 := by
  by_cases h : pok T I L R
  · by_cases g : 1480 < n
    · exact .inr (.inr (pkE_long h g))
    · exact .inl ⟨pkE_ok h g, h, by omega⟩
  · exact .inr (.inl (pkE_form h))
/-- what Put comes to -/
def GotPut (w : World) (T I L R S D : Int) (l : List UInt8) : Ending → World → Prop := GotB w (ol (pkE T I L R l.length) (pbs T I L R S D l)) (pkE T I L R l.length)
theorem pput_any (T I L R S D : Int) (A : Option Addr) (n c : Nat) (l : List UInt8) (w : World) (h : BSl w A n c l) (hS : 0 ≤ S ∧ S < 4294967296) (hD : 0 ≤ D ∧ D < 4294967296) :
    Calls Try.prog 25 #[.agg #[.int .i64 T, .int .i64 I, .int .i64 L, .int .i64 R, .int .u32 S, .int .u32 D, .slice A n c]] w (GotPut w T I L R S D l) := by
  have hl := h.len
  unfold GotPut
  rw [hl]
  by_cases hp : pok T I L R
  · by_cases hn : 1480 < n
    · rw [pkE_long hp hn]
      exact (pput_long T I L R S D A n c w hp hn).mono fun _ _ ⟨he, hb⟩ => ⟨none, 0, 0, he, BSl.nil, hb⟩
    · rw [pkE_ok hp hn]
      exact (pput_ok T I L R S D A n c l w h hp hS hD (by omega)).mono fun _ _ ⟨v, he, ho, hb⟩ => by
        obtain ⟨A', c', rfl, h2⟩ := own_got ho
        exact ⟨A', 20 + n, c', he, h2, hb⟩
  · rw [pkE_form hp]
    exact (pput_form T I L R S D A n c w hp).mono fun _ _ ⟨he, hb⟩ => ⟨none, 0, 0, he, BSl.nil, hb⟩
theorem rput_any (T I L R S D : Int) (A : Option Addr) (n c : Nat) (l : List UInt8) (w : World) (h : BSl w A n c l) (hS : 0 ≤ S ∧ S < 4294967296) (hD : 0 ≤ D ∧ D < 4294967296) :
    Calls Try.prog 30 #[.agg #[.int .i64 T, .int .i64 I, .int .i64 L, .int .i64 R, .int .u32 S, .int .u32 D, .slice A n c]] w (GotPut w T I L R S D l) := by
  have hl := h.len
  unfold GotPut
  rw [hl]
  by_cases hp : pok T I L R
  · by_cases hn : 1480 < n
    · rw [pkE_long hp hn]
      exact (rput_long T I L R S D A n c w hp hn).mono fun _ _ ⟨he, hb⟩ => ⟨none, 0, 0, he, BSl.nil, hb⟩
    · rw [pkE_ok hp hn]
      exact (rput_ok T I L R S D A n c l w h hp hS hD (by omega)).mono fun _ _ ⟨v, he, ho, hb⟩ => by
        obtain ⟨A', c', rfl, h2⟩ := own_got ho
        exact ⟨A', 20 + n, c', he, h2, hb⟩
  · rw [pkE_form hp]
    exact (rput_form T I L R S D A n c w hp).mono fun _ _ ⟨he, hb⟩ => ⟨none, 0, 0, he, BSl.nil, hb⟩

theorem ex_10 : bat (pbs 0 0 64 17 3232235521 3232235719 (List.replicate 95 0)) 10 = 248 := by decide +kernel
theorem ex_11 : bat (pbs 0 0 64 17 3232235521 3232235719 (List.replicate 95 0)) 11 = 97 := by decide +kernel
end Go.Proofs.Ytgmeicenjgiihaa
