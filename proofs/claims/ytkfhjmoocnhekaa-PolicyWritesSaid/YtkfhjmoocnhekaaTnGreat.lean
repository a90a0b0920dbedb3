/- The contract of palinglaw14.Great: where it says no, tenants are few, and their texts short. -/
import Derived.Test.YtkfhjmoocnhekaaTnRText
namespace Go.Proofs.Ytkfhjmoocnhekaa
open Go.RowKit

/-- a bool, as Great hands it back -/
def GotG (n : Nat) (xs : List TV) (w : World) (e : Ending) (w' : World) : Prop := ∃ g, e = .returned (.bool g) ∧ (g = false → n ≤ 40 ∧ ∀ T ∈ xs, TvSz T) ∧ w = w'
theorem mem_take_succ {α : Type} {xs : List α} {k : Nat} {d : α} (h : k < xs.length) {P : α → Prop} (ha : ∀ x ∈ xs.take k, P x) (hk : P (xs.getD k d)) : ∀ x ∈ xs.take (k + 1), P x := by
  intro x hx
  rw [List.take_succ_eq_append_getElem h] at hx
  rcases List.mem_append.1 hx with hx | hx
  · exact ha x hx
  · rw [List.mem_singleton.1 hx]
    have : xs.getD k d = xs[k] := by simp [List.getD, h]
    rw [← this]
    exact hk
set_option maxRecDepth 20000 in
set_option maxHeartbeats 4000000 in
theorem great14_any (A : Option Addr) (n c : Nat) (xs : List TV) (w : World) (h : RSl tenR w (allB w) A n c xs) :
    Calls Try.prog 10 #[.slice A n c] w (GotG n xs w) := by
  have hlen := h.len
  have hle := h.le
  have hcap := h.cap
  have H := Lib.hid h
  have HL := Lib.hid hlen
  clear h hlen
  by_cases h4 : 40 < n
  · have i0 : (40 : Int) < (n : Int) := by omega
    go_enter Try.func10, Try.ntmps10
    go_wp2
    go_ret
    exact ⟨true, rfl, fun e => (by cases e), rfl⟩
  have i0 : ¬ (40 : Int) < (n : Int) := by omega
  go_enter Try.func10, Try.ntmps10
  go_wp2
  go_loopw [3] (fun i wr => ∃ k : Nat, i = .int .i64 k ∧ k ≤ n ∧ wr = w ∧ ∀ T ∈ xs.take k, TvSz T) (fun i _ => match i with | .int _ x => (n - x).toNat | _ => 0)
  case atStart => exact ⟨0, rfl, by omega, rfl, fun T hT => by simp at hT⟩
  case round =>
    obtain ⟨k, rfl, hk, rfl, hall⟩ := hrel
    have AL := Lib.hid hall
    clear hall
    by_cases hlt : k < n
    · obtain ⟨b0, o0, ⟨A1, n1, c1⟩, ⟨A2, n2, c2⟩, rfl, _, hb0, l1, l2, r0⟩ := tens_rd H.out k hlt
      have hk2 : k < xs.length := by rw [HL.out]; exact hlt
      have NX := Lib.hid (fun hT => mem_take_succ (d := TV.zero) hk2 AL.out hT)
      generalize xs.getD k TV.zero = T at *
      simp only [] at l1 l2
      have c0 : wr.cell? ⟨b0, o0 + k * 4 + 1, none⟩ = some (.string (str T.name)) := r0 1 _ rfl
      have c1_ : wr.cell? ⟨b0, o0 + k * 4 + 2, none⟩ = some (.slice A1 n1 c1) := r0 2 _ rfl
      have c2_ : wr.cell? ⟨b0, o0 + k * 4 + 3, none⟩ = some (.slice A2 n2 c2) := r0 3 _ rfl
      have lt2 : (k : Int) < (n : Int) := by omega
      have G1 := Lib.hid (ssl_of l1)
      have G2 := Lib.hid (ssl_of l2)
      have q1 := l1.le
      have q2 := l1.cap
      have q3 := l2.le
      have q4 := l2.cap
      have e1 := Lib.hid l1.len
      have e2 := Lib.hid l2.len
      clear l1 l2 r0 hk2
      by_cases g0 : 300 < T.name.length
      · have i1 : (300 : Int) < (T.name.length : Int) := by omega
        go_wp2
        go_ret
        exact ⟨true, rfl, fun e => (by cases e), rfl⟩
      by_cases g1 : 40 < n1
      · have i1 : ¬ (300 : Int) < (T.name.length : Int) := by omega
        have i2 : (40 : Int) < (n1 : Int) := by omega
        go_wp2
        go_ret
        exact ⟨true, rfl, fun e => (by cases e), rfl⟩
      by_cases g2 : 40 < n2
      · have i1 : ¬ (300 : Int) < (T.name.length : Int) := by omega
        have i2 : ¬ (40 : Int) < (n1 : Int) := by omega
        have i3 : (40 : Int) < (n2 : Int) := by omega
        go_wp2
        go_ret
        exact ⟨true, rfl, fun e => (by cases e), rfl⟩
      have i1 : ¬ (300 : Int) < (T.name.length : Int) := by omega
      have i2 : ¬ (40 : Int) < (n1 : Int) := by omega
      have i3 : ¬ (40 : Int) < (n2 : Int) := by omega
      go_wp2
      go_loopw [4] (fun j wq => ∃ m : Nat, j = .int .i64 m ∧ m ≤ n1 ∧ wq = wr ∧ ∀ p ∈ T.devs.take m, p.length ≤ 300) (fun j _ => match j with | .int _ x => (n1 - x).toNat | _ => 0)
      case atStart => exact ⟨0, rfl, by omega, rfl, fun p hp => by simp at hp⟩
      case round =>
        obtain ⟨m, rfl, hm, rfl, hd⟩ := hrel
        have DL := Lib.hid hd
        clear hd
        by_cases hmt : m < n1
        · obtain ⟨b1, o1, rfl, hb1, hc1⟩ := G1.out.at_ (by omega)
          have k1 := hc1 m hmt
          have hm2 : m < T.devs.length := by rw [e1.out]; exact hmt
          have ND := Lib.hid (fun hp => mem_take_succ (d := []) hm2 DL.out hp)
          generalize T.devs.getD m [] = p at *
          have mt2 : (m : Int) < (n1 : Int) := by omega
          clear hc1 hm2
          by_cases g3 : 300 < p.length
          · have i4 : (300 : Int) < (p.length : Int) := by omega
            go_wp2
            go_ret
            exact ⟨true, rfl, fun e => (by cases e), rfl⟩
          · have i4 : ¬ (300 : Int) < (p.length : Int) := by omega
            go_wp2
            go_roundw
            case rel => exact ⟨m + 1, by simp, by omega, (by first | rfl | trivial), ND.out (by omega)⟩
            case measure => simp only []; omega
        · have DA := Lib.hid (show ∀ p ∈ T.devs, p.length ≤ 300 from by
            have := DL.out
            rwa [List.take_of_length_le (by rw [e1.out]; omega)] at this)
          clear DL
          go_wp2
          go_loopw [5] (fun j wq2 => ∃ m2 : Nat, j = .int .i64 m2 ∧ m2 ≤ n2 ∧ wq2 = wr ∧ ∀ p ∈ T.ports.take m2, p.length ≤ 300) (fun j _ => match j with | .int _ x => (n2 - x).toNat | _ => 0)
          case atStart => exact ⟨0, rfl, by omega, rfl, fun p hp => by simp at hp⟩
          case round =>
            obtain ⟨m2, rfl, hm2, rfl, hd2⟩ := hrel
            have DL2 := Lib.hid hd2
            clear hd2
            by_cases hmt2 : m2 < n2
            · obtain ⟨b2, o2, rfl, hb2, hc2⟩ := G2.out.at_ (by omega)
              have k2 := hc2 m2 hmt2
              have hm3 : m2 < T.ports.length := by rw [e2.out]; exact hmt2
              have ND2 := Lib.hid (fun hp => mem_take_succ (d := []) hm3 DL2.out hp)
              generalize T.ports.getD m2 [] = p at *
              have mt3 : (m2 : Int) < (n2 : Int) := by omega
              clear hc2 hm3
              by_cases g3 : 300 < p.length
              · have i4 : (300 : Int) < (p.length : Int) := by omega
                go_wp2
                go_ret
                exact ⟨true, rfl, fun e => (by cases e), rfl⟩
              · have i4 : ¬ (300 : Int) < (p.length : Int) := by omega
                go_wp2
                go_roundw
                case rel => exact ⟨m2 + 1, by simp, by omega, (by first | rfl | trivial), ND2.out (by omega)⟩
                case measure => simp only []; omega
            · have DA2 := Lib.hid (show ∀ p ∈ T.ports, p.length ≤ 300 from by
                have := DL2.out
                rwa [List.take_of_length_le (by rw [e2.out]; omega)] at this)
              have NT := Lib.hid (NX.out ⟨by omega, DA.out, DA2.out, by rw [e1.out]; omega, by rw [e2.out]; omega⟩)
              clear DL2
              go_wp2
              go_roundw
              case rel => exact ⟨k + 1, by simp, by omega, (by first | rfl | trivial), NT.out⟩
              case measure => simp only []; omega
    · have EA := Lib.hid (show ∀ T ∈ xs, TvSz T from by
        have := AL.out
        rwa [List.take_of_length_le (by rw [HL.out]; omega)] at this)
      go_wp2
      go_ret
      exact ⟨false, rfl, fun _ => ⟨by omega, EA.out⟩, rfl⟩
end Go.Proofs.Ytkfhjmoocnhekaa
