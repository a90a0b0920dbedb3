/- The contracts of palingref03.Ints and palingref03.Addrs of any two lists: are they alike? (Made by mk-ntints.py.) -/
import Derived.Test.YtocobjekcdabgaaGreatNtRef1
namespace Go.Proofs.YtocobjekcdabgaaGreat
open Go.RowKit

theorem num_take (ps qs : List Int) (k : Nat) (h0 : k < ps.length) (h1 : k < qs.length) (g : ps.take k = qs.take k) : ps.take (k + 1) = qs.take (k + 1) ↔ ps.getD k 0 = qs.getD k 0 := by
  have e0 : ps.getD k 0 = ps[k] := by simp [List.getD, h0]
  have e1 : qs.getD k 0 = qs[k] := by simp [List.getD, h1]
  rw [List.take_succ_eq_append_getElem h0, List.take_succ_eq_append_getElem h1, g, e0, e1]
  exact ⟨fun e => by injection List.append_cancel_left e, fun e => by rw [e]⟩
set_option maxRecDepth 20000 in
theorem rints2_any (A : Option Addr) (n c : Nat) (ps : List Int) (B : Option Addr) (m d : Nat) (qs : List Int) (w : World) (h : ISl w .i64 A n c ps) (g : ISl w .i64 B m d qs) (v : Bool) (hv : v = true ↔ ps = qs) :
    Calls Tryz.prog 54 #[.slice A n c, .slice B m d] w fun e w' => e = .returned (.bool v) ∧ Below w.heap.size w w' := by
  have hl := h.len
  have gl := g.len
  have hcap := h.cap
  have hle := h.le
  have gcap := g.cap
  have gle := g.le
  have V1 := Lib.hid (show ps = qs → v = true from hv.2)
  have V0 := Lib.hid (show ¬ ps = qs → v = false from fun hn => by cases v with | false => rfl | true => exact absurd (hv.1 rfl) hn)
  by_cases hnm : n = m
  · subst hnm
    have H := Lib.hid h
    have G := Lib.hid g
    have HL := Lib.hid hl
    have GL := Lib.hid gl
    clear h g hv hl gl
    go_enter Tryz.func54, Tryz.ntmps54
    go_wp2
    go_loopw [5] (fun i wr => ∃ k q : Nat, i = .int .i64 k ∧ wr = w.drewN q ∧ k ≤ n ∧ ps.take k = qs.take k) (fun i _ => match i with | .int _ x => (n - x).toNat | _ => 0)
    case atStart => exact ⟨0, 0, rfl, rfl, by omega, by simp⟩
    case round =>
      obtain ⟨k, q, rfl, rfl, hk, hf⟩ := hrel
      have HF := Lib.hid hf
      clear hf
      by_cases hlt : k < n
      · obtain ⟨b0, o0, rfl, hb0, hc0⟩ := H.out.2.2.2 (by omega)
        obtain ⟨b1, o1, rfl, hb1, hc1⟩ := G.out.2.2.2 (by omega)
        have c0 := hc0 k hlt
        have c1 := hc1 k hlt
        have T := Lib.hid (num_take ps qs k (by rw [HL.out]; exact hlt) (by rw [GL.out]; exact hlt) HF.out)
        have i0 : (k : Int) < (n : Int) := by omega
        generalize hx : ps.getD k 0 = x at *
        generalize hy : qs.getD k 0 = y at *
        have HX := Lib.hid hx
        have HY := Lib.hid hy
        clear hc0 hc1 hx hy
        by_cases e : x = y
        · have s1 : (x == y) = true := by simpa using e
          have s2 : (x != y) = false := by simpa using e
          have R := Lib.hid (T.out.2 e)
          clear e
          go_wp2
          go_quiet (fail)
          go_wp2
          go_roundw
          case rel => exact ⟨k + 1, q + nq, by simp, rfl, by omega, R.out⟩
          case measure => simp only []; omega
        · have s1 : (x == y) = false := by simpa using e
          have s2 : (x != y) = true := by simpa using e
          have R := Lib.hid (V0.out (fun e2 => e (by rw [← HX.out, ← HY.out, e2])))
          clear e
          go_wp2
          go_quiet (fail)
          go_wp2
          go_ret
          exact ⟨by rw [R.out]; rfl, below_drewN (below_drewN (Below.refl _ _) _) _⟩
      · have R := Lib.hid (V1.out (by
          have e1 : ps.take k = ps := List.take_of_length_le (by rw [HL.out]; omega)
          have e2 : qs.take k = qs := List.take_of_length_le (by rw [GL.out]; omega)
          rw [← e1, ← e2, HF.out]))
        go_wp2
        go_ret
        exact ⟨by rw [R.out]; rfl, below_drewN (Below.refl _ _) _⟩
  · have R := Lib.hid (V0.out (fun e => hnm (by rw [← hl, ← gl, e])))
    have ne : ((n : Int) != (m : Int)) = true := by simp; omega
    clear h g hv hl gl
    go_enter Tryz.func54, Tryz.ntmps54
    go_wp2
    go_ret
    exact ⟨by rw [R.out]; rfl, Below.refl _ _⟩
set_option maxRecDepth 20000 in
theorem raddrs2_any (A : Option Addr) (n c : Nat) (ps : List Int) (B : Option Addr) (m d : Nat) (qs : List Int) (w : World) (h : ISl w .u32 A n c ps) (g : ISl w .u32 B m d qs) (v : Bool) (hv : v = true ↔ ps = qs) :
    Calls Tryz.prog 55 #[.slice A n c, .slice B m d] w fun e w' => e = .returned (.bool v) ∧ Below w.heap.size w w' := by
  have hl := h.len
  have gl := g.len
  have hcap := h.cap
  have hle := h.le
  have gcap := g.cap
  have gle := g.le
  have V1 := Lib.hid (show ps = qs → v = true from hv.2)
  have V0 := Lib.hid (show ¬ ps = qs → v = false from fun hn => by cases v with | false => rfl | true => exact absurd (hv.1 rfl) hn)
  by_cases hnm : n = m
  · subst hnm
    have H := Lib.hid h
    have G := Lib.hid g
    have HL := Lib.hid hl
    have GL := Lib.hid gl
    clear h g hv hl gl
    go_enter Tryz.func55, Tryz.ntmps55
    go_wp2
    go_loopw [5] (fun i wr => ∃ k q : Nat, i = .int .i64 k ∧ wr = w.drewN q ∧ k ≤ n ∧ ps.take k = qs.take k) (fun i _ => match i with | .int _ x => (n - x).toNat | _ => 0)
    case atStart => exact ⟨0, 0, rfl, rfl, by omega, by simp⟩
    case round =>
      obtain ⟨k, q, rfl, rfl, hk, hf⟩ := hrel
      have HF := Lib.hid hf
      clear hf
      by_cases hlt : k < n
      · obtain ⟨b0, o0, rfl, hb0, hc0⟩ := H.out.2.2.2 (by omega)
        obtain ⟨b1, o1, rfl, hb1, hc1⟩ := G.out.2.2.2 (by omega)
        have c0 := hc0 k hlt
        have c1 := hc1 k hlt
        have T := Lib.hid (num_take ps qs k (by rw [HL.out]; exact hlt) (by rw [GL.out]; exact hlt) HF.out)
        have i0 : (k : Int) < (n : Int) := by omega
        generalize hx : ps.getD k 0 = x at *
        generalize hy : qs.getD k 0 = y at *
        have HX := Lib.hid hx
        have HY := Lib.hid hy
        clear hc0 hc1 hx hy
        by_cases e : x = y
        · have s1 : (x == y) = true := by simpa using e
          have s2 : (x != y) = false := by simpa using e
          have R := Lib.hid (T.out.2 e)
          clear e
          go_wp2
          go_quiet (fail)
          go_wp2
          go_roundw
          case rel => exact ⟨k + 1, q + nq, by simp, rfl, by omega, R.out⟩
          case measure => simp only []; omega
        · have s1 : (x == y) = false := by simpa using e
          have s2 : (x != y) = true := by simpa using e
          have R := Lib.hid (V0.out (fun e2 => e (by rw [← HX.out, ← HY.out, e2])))
          clear e
          go_wp2
          go_quiet (fail)
          go_wp2
          go_ret
          exact ⟨by rw [R.out]; rfl, below_drewN (below_drewN (Below.refl _ _) _) _⟩
      · have R := Lib.hid (V1.out (by
          have e1 : ps.take k = ps := List.take_of_length_le (by rw [HL.out]; omega)
          have e2 : qs.take k = qs := List.take_of_length_le (by rw [GL.out]; omega)
          rw [← e1, ← e2, HF.out]))
        go_wp2
        go_ret
        exact ⟨by rw [R.out]; rfl, below_drewN (Below.refl _ _) _⟩
  · have R := Lib.hid (V0.out (fun e => hnm (by rw [← hl, ← gl, e])))
    have ne : ((n : Int) != (m : Int)) = true := by simp; omega
    clear h g hv hl gl
    go_enter Tryz.func55, Tryz.ntmps55
    go_wp2
    go_ret
    exact ⟨by rw [R.out]; rfl, Below.refl _ _⟩
end Go.Proofs.YtocobjekcdabgaaGreat
