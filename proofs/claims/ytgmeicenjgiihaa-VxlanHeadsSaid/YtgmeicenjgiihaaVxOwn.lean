/- The contracts of package vxlan, whole. -/
import Derived.Test.YtgmeicenjgiihaaVxUn
import Derived.Test.YtgmeicenjgiihaaVxWp
namespace Go.Proofs.Ytgmeicenjgiihaa
open Go.RowKit
open Go.Lib (byteCells)

theorem sO_no {k : List UInt8} (h : ¬ sO k = 0) : uE k = sO k := by
  unfold uE sO at *
  by_cases e1 : tE k = 0
  · rw [if_pos e1] at h ⊢
    rw [if_pos e1]
    rw [(t_some e1).2.2.1] at h ⊢
    by_cases e2 : two k 12 = 2048
    · rw [if_pos e2] at h; exact absurd rfl h
    · rw [if_neg e2, if_neg e2]
  · rw [if_neg e1, if_neg e1]
theorem sO_ok {k : List UInt8} (h : sO k = 0) : uE k = uE1 (k.drop 14) ∧ tL k = k.drop 14 := by
  unfold uE sO at *
  by_cases e1 : tE k = 0
  · rw [if_pos e1] at h
    rw [(t_some e1).2.2.1] at h
    by_cases e2 : two k 12 = 2048
    · rw [if_pos e1, if_pos e2]
      exact ⟨rfl, (t_some e1).2.2.2⟩
    · rw [if_neg e2] at h; cases h
  · rw [if_neg e1] at h; exact absurd h e1
theorem sP_no {k : List UInt8} (h : ¬ sP k = 0) : uE1 k = sP k := by
  unfold uE1 sP at *
  by_cases e1 : rE k = 0
  · rw [if_pos e1] at h ⊢
    rw [if_pos e1]
    rw [e1, oi_ok] at h ⊢
    by_cases e2 : bat k 9 = 17
    · rw [if_pos e2] at h; exact absurd rfl h
    · rw [if_neg e2, if_neg e2]
  · rw [if_neg e1, if_neg e1]
theorem sP_ok {k : List UInt8} (h : sP k = 0) : uE1 k = uE2 (bodyF k) ∧ rE k = 0 := by
  unfold uE1 sP at *
  by_cases e1 : rE k = 0
  · rw [if_pos e1, e1, oi_ok] at h
    by_cases e2 : bat k 9 = 17
    · rw [if_pos e1, if_pos e2]
      exact ⟨rfl, e1⟩
    · rw [if_neg e2] at h; cases h
  · rw [if_neg e1] at h; exact absurd h e1
theorem sD_no {k : List UInt8} (h : ¬ sD k = 0) : uE2 k = sD k := by
  unfold uE2 sD at *
  by_cases e1 : udE k = 0
  · rw [if_pos e1] at h ⊢
    rw [if_pos e1]
    rw [e1, oi_ok] at h ⊢
    by_cases e2 : two k 2 = 4789
    · rw [if_pos e2] at h; exact absurd rfl h
    · rw [if_neg e2, if_neg e2]
  · rw [if_neg e1, if_neg e1]
theorem sD_ok {k : List UInt8} (h : sD k = 0) : uE2 k = uE3 (udB k) ∧ udE k = 0 := by
  unfold uE2 sD at *
  by_cases e1 : udE k = 0
  · rw [if_pos e1, e1, oi_ok] at h
    by_cases e2 : two k 2 = 4789
    · rw [if_pos e1, if_pos e2]
      exact ⟨rfl, e1⟩
    · rw [if_neg e2] at h; cases h
  · rw [if_neg e1] at h; exact absurd h e1
theorem sI_is (k : List UInt8) : uE4 k = sI k := by
  unfold uE4 sI
  by_cases e1 : tE k = 0
  · rw [if_pos e1, if_pos e1, (t_some e1).2.2.1]
  · rw [if_neg e1, if_neg e1]
theorem xunwrap_any (A : Option Addr) (n c : Nat) (k : List UInt8) (w : World) (h : BSl w A n c k) (hn : n ≤ 4000) : Calls Try.prog 14 #[.slice A n c] w (GotUnwrap w k) := by
  by_cases e1 : sO k = 0
  rotate_left
  · exact (xunwrap_1 A n c k w h hn e1).mono fun _ _ g => GotUnwrap.no (sO_no e1) e1 g
  obtain ⟨u1, d1⟩ := sO_ok e1
  by_cases e2 : sP (tL k) = 0
  rotate_left
  · exact (xunwrap_2 A n c k w h hn e1 e2).mono fun _ _ g => GotUnwrap.no (by rw [u1, ← d1, sP_no e2]) e2 g
  obtain ⟨u2, z2⟩ := sP_ok e2
  have d2 : ol (rE (tL k)) (bodyF (tL k)) = bodyF (tL k) := by rw [z2, ol_ok]
  have v3 : uE k = uE2 (ol (rE (tL k)) (bodyF (tL k))) := by rw [u1, ← d1, u2, d2]
  by_cases e3 : sD (ol (rE (tL k)) (bodyF (tL k))) = 0
  rotate_left
  · exact (xunwrap_3 A n c k w h hn e1 e2 e3).mono fun _ _ g => GotUnwrap.no (v3.trans (sD_no e3)) e3 g
  obtain ⟨u3, z3⟩ := sD_ok e3
  have d3 : ol (udE (ol (rE (tL k)) (bodyF (tL k)))) (udB (ol (rE (tL k)) (bodyF (tL k)))) = udB (ol (rE (tL k)) (bodyF (tL k))) := by rw [z3, ol_ok]
  have v4 : uE k = uE3 (ol (udE (ol (rE (tL k)) (bodyF (tL k)))) (udB (ol (rE (tL k)) (bodyF (tL k))))) := by rw [v3, u3, d3]
  by_cases e4 : vnE (ol (udE (ol (rE (tL k)) (bodyF (tL k)))) (udB (ol (rE (tL k)) (bodyF (tL k))))) = 0
  rotate_left
  · exact (xunwrap_4 A n c k w h hn e1 e2 e3 e4).mono fun _ _ g => GotUnwrap.no (v4.trans (by rw [uE3, if_neg e4])) e4 g
  have u4 : uE3 (ol (udE (ol (rE (tL k)) (bodyF (tL k)))) (udB (ol (rE (tL k)) (bodyF (tL k))))) = uE4 ((ol (udE (ol (rE (tL k)) (bodyF (tL k)))) (udB (ol (rE (tL k)) (bodyF (tL k))))).drop 8) := by rw [uE3, if_pos e4]
  have d4 : ol (vnE (ol (udE (ol (rE (tL k)) (bodyF (tL k)))) (udB (ol (rE (tL k)) (bodyF (tL k)))))) ((ol (udE (ol (rE (tL k)) (bodyF (tL k)))) (udB (ol (rE (tL k)) (bodyF (tL k))))).drop 8) = (ol (udE (ol (rE (tL k)) (bodyF (tL k)))) (udB (ol (rE (tL k)) (bodyF (tL k))))).drop 8 := by rw [e4, ol_ok]
  have uu : uE k = sI (ol (vnE (ol (udE (ol (rE (tL k)) (bodyF (tL k)))) (udB (ol (rE (tL k)) (bodyF (tL k)))))) ((ol (udE (ol (rE (tL k)) (bodyF (tL k)))) (udB (ol (rE (tL k)) (bodyF (tL k))))).drop 8)) := by rw [v4, u4, sI_is, d4]
  by_cases e5 : sI (ol (vnE (ol (udE (ol (rE (tL k)) (bodyF (tL k)))) (udB (ol (rE (tL k)) (bodyF (tL k)))))) ((ol (udE (ol (rE (tL k)) (bodyF (tL k)))) (udB (ol (rE (tL k)) (bodyF (tL k))))).drop 8)) = 0
  rotate_left
  · exact (xunwrap_5 A n c k w h hn e1 e2 e3 e4 e5).mono fun _ _ g => GotUnwrap.no uu e5 g
  have hT : tE ((udB (bodyF (k.drop 14))).drop 8) = 0 := by
    rw [d4, d3, d2, d1] at e5
    unfold sI at e5
    by_cases g : tE ((udB (bodyF (k.drop 14))).drop 8) = 0
    · exact g
    · rw [if_neg g] at e5; exact absurd e5 g
  obtain ⟨t1, t2, t3, t4⟩ := t_some hT
  have hE := uu.trans e5
  have key := xunwrap_0 A n c k w h hn e1 e2 e3 e4 e5
  rw [e4, oi_ok, ol_ok, d3, z2, oi_ok, oi_ok, ol_ok, d1, t1, t2, t3, t4] at key
  unfold GotUnwrap
  rw [hE]
  exact key
end Go.Proofs.Ytgmeicenjgiihaa
