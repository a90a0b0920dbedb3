/- The contracts of palingref10.Texts and Join. -/
import Derived.Test.YthmncaebkkmkjaaLnRef
namespace Go.Proofs.Ythmncaebkkmkjaa
open Go.RowKit
open Go.Lib (byteCells)

theorem str_beq (l m : List UInt8) : ((str l).toList == (str m).toList) = (l == m) := by rw [str_toList, str_toList]
theorem texts_take (ps qs : List (List UInt8)) (k : Nat) (h0 : k < ps.length) (h1 : k < qs.length) (g : ps.take k = qs.take k) : (ps.take (k + 1) = qs.take (k + 1)) ↔ ps.getD k [] = qs.getD k [] := by
  have e0 : ps.getD k [] = ps[k] := by simp [List.getD, h0]
  have e1 : qs.getD k [] = qs[k] := by simp [List.getD, h1]
  rw [List.take_succ_eq_append_getElem h0, List.take_succ_eq_append_getElem h1, g, e0, e1]
  exact ⟨fun e => by injection List.append_cancel_left e, fun e => by rw [e]⟩
set_option maxRecDepth 20000 in
theorem rtexts_any (A : Option Addr) (n c : Nat) (ps : List (List UInt8)) (B : Option Addr) (m d : Nat) (qs : List (List UInt8)) (w : World) (h : SSl w A n c ps) (g : SSl w B m d qs) (v : Bool) (hv : (ps == qs) = v) :
    Calls Try.prog 10 #[.slice A n c, .slice B m d] w fun e w' => e = .returned (.bool v) ∧ Below w.heap.size w w' := by
  have hl := h.len
  have gl := g.len
  have hcap := h.cap
  have hle := h.le
  have gcap := g.cap
  have gle := g.le
  have V := Lib.hid hv
  by_cases hnm : n = m
  · subst hnm
    have H := Lib.hid h
    have G := Lib.hid g
    have HL := Lib.hid hl
    have GL := Lib.hid gl
    clear h g hv hl gl
    go_enter Try.func10, Try.ntmps10
    go_wp2
    go_loopw [5] (fun i wr => ∃ k q : Nat, i = .int .i64 k ∧ wr = w.drewN q ∧ k ≤ n ∧ ps.take k = qs.take k) (fun i _ => match i with | .int _ x => (n - x).toNat | _ => 0)
    case atStart => exact ⟨0, 0, rfl, rfl, by omega, by simp⟩
    case round =>
      obtain ⟨k, q, rfl, rfl, hk, hf⟩ := hrel
      have HF := Lib.hid hf
      clear hf
      by_cases hlt : k < n
      · obtain ⟨b0, o0, rfl, hb0, hc0⟩ := H.out.at_ (by omega)
        obtain ⟨b1, o1, rfl, hb1, hc1⟩ := G.out.at_ (by omega)
        have c0 := hc0 k hlt
        have c1 := hc1 k hlt
        have T := Lib.hid (texts_take ps qs k (by rw [HL.out]; exact hlt) (by rw [GL.out]; exact hlt) HF.out)
        have i0 : (k : Int) < (n : Int) := by omega
        generalize hx : ps.getD k [] = x at *
        generalize hy : qs.getD k [] = y at *
        have HX := Lib.hid hx
        have HY := Lib.hid hy
        clear hc0 hc1 hx hy
        by_cases e : x = y
        · have s1 : (x == y) = true := by simpa using e
          have R := Lib.hid (T.out.2 e)
          clear e
          go_wp2
          go_quiet (fail)
          go_wp2
          go_roundw
          case rel => exact ⟨k + 1, q + nq, by simp, rfl, by omega, R.out⟩
          case measure => simp only []; omega
        · have s1 : (x == y) = false := by simpa using e
          have R := Lib.hid (show v = false by
            rw [← V.out, beq_eq_false_iff_ne]
            intro e2
            exact e (by rw [← HX.out, ← HY.out, e2]))
          clear e
          go_wp2
          go_quiet (fail)
          go_wp2
          go_ret
          exact ⟨by rw [R.out]; rfl, below_drewN (below_drewN (Below.refl _ _) _) _⟩
      · have R := Lib.hid (show v = true by
          rw [← V.out]
          have e1 : ps.take k = ps := List.take_of_length_le (by rw [HL.out]; omega)
          have e2 : qs.take k = qs := List.take_of_length_le (by rw [GL.out]; omega)
          have := HF.out
          rw [e1, e2] at this
          rw [this]
          exact beq_self_eq_true _)
        go_wp2
        go_ret
        exact ⟨by rw [R.out]; rfl, below_drewN (Below.refl _ _) _⟩
  · have R := Lib.hid (show v = false by
      rw [← V.out, beq_eq_false_iff_ne]
      intro e
      exact hnm (by rw [← hl, ← gl, e]))
    have i0 : ¬ (n : Int) = (m : Int) := by omega
    clear h g hv hl gl
    go_enter Try.func10, Try.ntmps10
    go_wp2
    go_ret
    exact ⟨by rw [R.out]; rfl, Below.refl _ _⟩

theorem joinF_take (ps : List (List UInt8)) (k : Nat) (h : k < ps.length) : joinF (ps.take (k + 1)) = if k = 0 then ps.getD k [] else joinF (ps.take k) ++ [32] ++ ps.getD k [] := by
  rw [List.take_succ_eq_append_getElem h, joinF_snoc]
  have e : ps.getD k [] = ps[k] := by simp [List.getD, h]
  rw [e]
  by_cases hk : k = 0
  · subst hk; simp
  · rw [if_neg hk, if_neg (by intro e2; have := congrArg List.length e2; rw [List.length_take, List.length_nil] at this; omega)]
/-- texts joined are no longer than M -/
def Short (M : Nat) (ps : List (List UInt8)) : Prop := ∀ k, (joinF (ps.take k)).length ≤ M
set_option maxRecDepth 20000 in
theorem rjoin_any (A : Option Addr) (n c : Nat) (ps : List (List UInt8)) (w : World) (h : SSl w A n c ps) (hs : Short 1000000 ps) :
    Calls Try.prog 14 #[.slice A n c] w fun e w' => e = .returned (.string (str (joinF ps))) ∧ w = w' := by
  have hcap := h.cap
  have hle := h.le
  have H := Lib.hid h
  have HL := Lib.hid h.len
  have HS := Lib.hid hs
  clear h hs
  go_enter Try.func14, Try.ntmps14
  go_wp2
  go_loopw [3, 4] (fun s i wr => ∃ k : Nat, i = .int .i64 k ∧ wr = w ∧ k ≤ n ∧ s = .string (str (joinF (ps.take k)))) (fun _ i _ => match i with | .int _ x => (n - x).toNat | _ => 0)
  case atStart => exact ⟨0, rfl, rfl, by omega, rfl⟩
  case round =>
    obtain ⟨k, rfl, rfl, hk, rfl⟩ := hrel
    by_cases hlt : k < n
    · obtain ⟨b0, o0, rfl, hb0, hc0⟩ := H.out.at_ (by omega)
      have c0 := hc0 k hlt
      have J := Lib.hid (joinF_take ps k (by rw [HL.out]; exact hlt))
      have l0 := HS.out k
      have l1 := HS.out (k + 1)
      rw [J.out] at l1
      have i0 : (k : Int) < (n : Int) := by omega
      have Y0 : k = 0 → joinF (ps.take k) = [] := by rintro rfl; rfl
      generalize ps.getD k [] = x at *
      generalize joinF (ps.take k) = y at *
      clear hc0
      by_cases e : k = 0
      · have J2 := Lib.hid (show joinF (ps.take (k + 1)) = x by rw [J.out, if_pos e])
        rw [if_pos e] at l1
        obtain rfl : y = [] := Y0 e
        have e2 : ¬ 0 < k := by omega
        have a2 : ∀ W, (Op.stringOp .add (str []) (str x)).run Try.prog W = .ok (.string (str x)) W := fun W => by
          rw [run_string_add_sum W _ _ (by rw [str_size, str_size]; simp; omega), str_append, List.nil_append]
        clear e l0 l1 Y0
        go_wp2
        go_roundw
        case rel => exact ⟨k + 1, by simp, trivial, by omega, by rw [J2.out]⟩
        case measure => simp only []; omega
      · have J2 := Lib.hid (show joinF (ps.take (k + 1)) = y ++ [32] ++ x by rw [J.out, if_neg e])
        rw [if_neg e] at l1
        have e2 : 0 < k := by omega
        have a1 : ∀ W, (Op.stringOp .add (str y) ⟨#[32]⟩).run Try.prog W = .ok (.string (str (y ++ [32]))) W := fun W => by
          rw [show (⟨#[32]⟩ : ByteArray) = str [32] from rfl, run_string_add_sum W _ _ (by rw [str_size, str_size]; simp at l1 ⊢; omega), str_append]
        have a2 : ∀ W, (Op.stringOp .add (str (y ++ [32])) (str x)).run Try.prog W = .ok (.string (str (y ++ [32] ++ x))) W := fun W => by
          rw [run_string_add_sum W _ _ (by rw [str_size, str_size]; simp at l1 ⊢; omega), str_append]
        clear e l0 l1
        go_wp2
        go_roundw
        case rel => exact ⟨k + 1, by simp, trivial, by omega, by rw [J2.out]; simp⟩
        case measure => simp only []; omega
    · have e1 := Lib.hid (show ps.take k = ps from List.take_of_length_le (by rw [HL.out]; omega))
      go_wp2
      go_ret
      exact ⟨by rw [e1.out]; rfl, rfl⟩
end Go.Proofs.Ythmncaebkkmkjaa
