/- A line's kind by its first word; is an address an interface's; rise addresses; may a port's VLANs be. -/
import Derived.Test.YtpbomfhlghljdaaGreatDoorStSmall
import Derived.Test.YtpbomfhlghljdaaGreatDoorRef3
import Derived.WalkMore
namespace Go.Proofs.YtpbomfhlghljdaaGreatDoor
open Go.RowKit

/-- the words that lines begin with -/
def firstL : List (List UInt8) := [[], [100, 101, 118, 105, 99, 101], [112, 111, 114, 116], [108, 105, 110, 107], [115, 116, 97, 116, 105, 99], [118, 116, 101, 112], [118, 110, 105], [102, 108, 111, 111, 100], [118, 114, 102], [105, 114, 98]]
def firstA : List Value := firstL.map fun l => .string (str l)
def FsIs (w : World) : Prop := w.var? Tryz.prog "paling/stmt.firsts" = some firstA.toArray
theorem FsIs.below {w w' : World} (h : FsIs w) (hb : Below w.heap.size w w') : FsIs w' := var_below h hb
theorem gFirsts : Tryz.prog.globalNamed "paling/stmt.firsts" = some 1 := by kernel_rfl
theorem FsIs.cell {w : World} (h : FsIs w) (j : Nat) : w.cell? ⟨1, j, none⟩ = firstA[j]? := by
  have := World.var?_cell gFirsts h j
  simpa using this
/-- the word is none of the first k -/
def Past (s : List UInt8) (k : Nat) : Prop := ∀ j, j < k → firstL.getD j [] ≠ s
theorem past_kd {s : List UInt8} (h : Past s 10) : kdV s = 0 := by
  unfold kdV
  rw [if_neg (fun e => h 1 (by omega) e.symm), if_neg (fun e => h 2 (by omega) e.symm), if_neg (fun e => h 3 (by omega) e.symm), if_neg (fun e => h 4 (by omega) e.symm), if_neg (fun e => h 5 (by omega) e.symm), if_neg (fun e => h 6 (by omega) e.symm), if_neg (fun e => h 7 (by omega) e.symm), if_neg (fun e => h 8 (by omega) e.symm), if_neg (fun e => h 9 (by omega) e.symm)]
theorem Past.next {s : List UInt8} {k : Nat} (h : Past s k) (g : firstL.getD k [] ≠ s) : Past s (k + 1) := fun j hj => by
  by_cases e : j = k
  · subst e; exact g
  · exact h j (by omega)
set_option maxRecDepth 100000 in
set_option maxHeartbeats 2000000 in
theorem ckind_any (s : List UInt8) (w : World) (h : FsIs w) : Calls Tryz.prog 14 #[.string (str s)] w fun e w' => e = .returned (.int .i64 (kdV s)) ∧ w = w' := by
  have c0 : w.cell? ⟨1, 0, none⟩ = some (.string ⟨#[]⟩) := h.cell 0
  have c1 : w.cell? ⟨1, 1, none⟩ = some (.string ⟨#[100, 101, 118, 105, 99, 101]⟩) := h.cell 1
  have c2 : w.cell? ⟨1, 2, none⟩ = some (.string ⟨#[112, 111, 114, 116]⟩) := h.cell 2
  have c3 : w.cell? ⟨1, 3, none⟩ = some (.string ⟨#[108, 105, 110, 107]⟩) := h.cell 3
  have c4 : w.cell? ⟨1, 4, none⟩ = some (.string ⟨#[115, 116, 97, 116, 105, 99]⟩) := h.cell 4
  have c5 : w.cell? ⟨1, 5, none⟩ = some (.string ⟨#[118, 116, 101, 112]⟩) := h.cell 5
  have c6 : w.cell? ⟨1, 6, none⟩ = some (.string ⟨#[118, 110, 105]⟩) := h.cell 6
  have c7 : w.cell? ⟨1, 7, none⟩ = some (.string ⟨#[102, 108, 111, 111, 100]⟩) := h.cell 7
  have c8 : w.cell? ⟨1, 8, none⟩ = some (.string ⟨#[118, 114, 102]⟩) := h.cell 8
  have c9 : w.cell? ⟨1, 9, none⟩ = some (.string ⟨#[105, 114, 98]⟩) := h.cell 9
  clear h
  go_enter Tryz.func14, Tryz.ntmps14
  go_wp2
  go_loopw [6] (fun i wr => ∃ k : Nat, k ≤ 10 ∧ i = .int .i64 (k : Int) ∧ Past s k ∧ w = wr) (fun i _ => 10 - (intOf i).toNat)
  case atStart => exact ⟨0, by omega, rfl, fun j hj => absurd hj (by omega), rfl⟩
  case round =>
    obtain ⟨k, hk, rfl, hp, rfl⟩ := hrel
    have PP := Lib.hid hp
    clear hp
    match k, hk with
    | 0, _ =>
      rw [show ((0 : Nat) : Int) = 0 from rfl]
      have ri : ∀ w, (Instr.index 73 (.agg #[.string ⟨#[]⟩, .string ⟨#[100, 101, 118, 105, 99, 101]⟩, .string ⟨#[112, 111, 114, 116]⟩, .string ⟨#[108, 105, 110, 107]⟩, .string ⟨#[115, 116, 97, 116, 105, 99]⟩, .string ⟨#[118, 116, 101, 112]⟩, .string ⟨#[118, 110, 105]⟩, .string ⟨#[102, 108, 111, 111, 100]⟩, .string ⟨#[118, 114, 102]⟩, .string ⟨#[105, 114, 98]⟩]) (.int .i64 0)).run Tryz.prog w = .ok (.string ⟨#[]⟩) w := fun w => by show Sem.run _ _ _ = Result.ok _ _; kernel_rfl
      by_cases e : s = []
      · subst e
        have E := Lib.hid (show kdV [] = 0 by rfl)
        go_wp2
        go_ret
        exact ⟨by rw [E.out]; rfl, rfl⟩
      · have N := Lib.hid (PP.out.next (fun h => e (show s = [] from h.symm)))
        have d : (([] : List UInt8) == s) = false := by rw [beq_eq_false_iff_ne]; exact fun h => e h.symm
        clear e
        go_wp2
        go_roundw
        case rel => exact ⟨0 + 1, by omega, by rfl, N.out, trivial⟩
        case measure => decide
    | 1, _ =>
      rw [show ((1 : Nat) : Int) = 1 from rfl]
      have ri : ∀ w, (Instr.index 73 (.agg #[.string ⟨#[]⟩, .string ⟨#[100, 101, 118, 105, 99, 101]⟩, .string ⟨#[112, 111, 114, 116]⟩, .string ⟨#[108, 105, 110, 107]⟩, .string ⟨#[115, 116, 97, 116, 105, 99]⟩, .string ⟨#[118, 116, 101, 112]⟩, .string ⟨#[118, 110, 105]⟩, .string ⟨#[102, 108, 111, 111, 100]⟩, .string ⟨#[118, 114, 102]⟩, .string ⟨#[105, 114, 98]⟩]) (.int .i64 1)).run Tryz.prog w = .ok (.string ⟨#[100, 101, 118, 105, 99, 101]⟩) w := fun w => by show Sem.run _ _ _ = Result.ok _ _; kernel_rfl
      by_cases e : s = [100, 101, 118, 105, 99, 101]
      · subst e
        have E := Lib.hid (show kdV [100, 101, 118, 105, 99, 101] = 1 by rfl)
        go_wp2
        go_ret
        exact ⟨by rw [E.out]; rfl, rfl⟩
      · have N := Lib.hid (PP.out.next (fun h => e (show s = [100, 101, 118, 105, 99, 101] from h.symm)))
        have d : (([100, 101, 118, 105, 99, 101] : List UInt8) == s) = false := by rw [beq_eq_false_iff_ne]; exact fun h => e h.symm
        clear e
        go_wp2
        go_roundw
        case rel => exact ⟨1 + 1, by omega, by rfl, N.out, trivial⟩
        case measure => decide
    | 2, _ =>
      rw [show ((2 : Nat) : Int) = 2 from rfl]
      have ri : ∀ w, (Instr.index 73 (.agg #[.string ⟨#[]⟩, .string ⟨#[100, 101, 118, 105, 99, 101]⟩, .string ⟨#[112, 111, 114, 116]⟩, .string ⟨#[108, 105, 110, 107]⟩, .string ⟨#[115, 116, 97, 116, 105, 99]⟩, .string ⟨#[118, 116, 101, 112]⟩, .string ⟨#[118, 110, 105]⟩, .string ⟨#[102, 108, 111, 111, 100]⟩, .string ⟨#[118, 114, 102]⟩, .string ⟨#[105, 114, 98]⟩]) (.int .i64 2)).run Tryz.prog w = .ok (.string ⟨#[112, 111, 114, 116]⟩) w := fun w => by show Sem.run _ _ _ = Result.ok _ _; kernel_rfl
      by_cases e : s = [112, 111, 114, 116]
      · subst e
        have E := Lib.hid (show kdV [112, 111, 114, 116] = 2 by rfl)
        go_wp2
        go_ret
        exact ⟨by rw [E.out]; rfl, rfl⟩
      · have N := Lib.hid (PP.out.next (fun h => e (show s = [112, 111, 114, 116] from h.symm)))
        have d : (([112, 111, 114, 116] : List UInt8) == s) = false := by rw [beq_eq_false_iff_ne]; exact fun h => e h.symm
        clear e
        go_wp2
        go_roundw
        case rel => exact ⟨2 + 1, by omega, by rfl, N.out, trivial⟩
        case measure => decide
    | 3, _ =>
      rw [show ((3 : Nat) : Int) = 3 from rfl]
      have ri : ∀ w, (Instr.index 73 (.agg #[.string ⟨#[]⟩, .string ⟨#[100, 101, 118, 105, 99, 101]⟩, .string ⟨#[112, 111, 114, 116]⟩, .string ⟨#[108, 105, 110, 107]⟩, .string ⟨#[115, 116, 97, 116, 105, 99]⟩, .string ⟨#[118, 116, 101, 112]⟩, .string ⟨#[118, 110, 105]⟩, .string ⟨#[102, 108, 111, 111, 100]⟩, .string ⟨#[118, 114, 102]⟩, .string ⟨#[105, 114, 98]⟩]) (.int .i64 3)).run Tryz.prog w = .ok (.string ⟨#[108, 105, 110, 107]⟩) w := fun w => by show Sem.run _ _ _ = Result.ok _ _; kernel_rfl
      by_cases e : s = [108, 105, 110, 107]
      · subst e
        have E := Lib.hid (show kdV [108, 105, 110, 107] = 3 by rfl)
        go_wp2
        go_ret
        exact ⟨by rw [E.out]; rfl, rfl⟩
      · have N := Lib.hid (PP.out.next (fun h => e (show s = [108, 105, 110, 107] from h.symm)))
        have d : (([108, 105, 110, 107] : List UInt8) == s) = false := by rw [beq_eq_false_iff_ne]; exact fun h => e h.symm
        clear e
        go_wp2
        go_roundw
        case rel => exact ⟨3 + 1, by omega, by rfl, N.out, trivial⟩
        case measure => decide
    | 4, _ =>
      rw [show ((4 : Nat) : Int) = 4 from rfl]
      have ri : ∀ w, (Instr.index 73 (.agg #[.string ⟨#[]⟩, .string ⟨#[100, 101, 118, 105, 99, 101]⟩, .string ⟨#[112, 111, 114, 116]⟩, .string ⟨#[108, 105, 110, 107]⟩, .string ⟨#[115, 116, 97, 116, 105, 99]⟩, .string ⟨#[118, 116, 101, 112]⟩, .string ⟨#[118, 110, 105]⟩, .string ⟨#[102, 108, 111, 111, 100]⟩, .string ⟨#[118, 114, 102]⟩, .string ⟨#[105, 114, 98]⟩]) (.int .i64 4)).run Tryz.prog w = .ok (.string ⟨#[115, 116, 97, 116, 105, 99]⟩) w := fun w => by show Sem.run _ _ _ = Result.ok _ _; kernel_rfl
      by_cases e : s = [115, 116, 97, 116, 105, 99]
      · subst e
        have E := Lib.hid (show kdV [115, 116, 97, 116, 105, 99] = 4 by rfl)
        go_wp2
        go_ret
        exact ⟨by rw [E.out]; rfl, rfl⟩
      · have N := Lib.hid (PP.out.next (fun h => e (show s = [115, 116, 97, 116, 105, 99] from h.symm)))
        have d : (([115, 116, 97, 116, 105, 99] : List UInt8) == s) = false := by rw [beq_eq_false_iff_ne]; exact fun h => e h.symm
        clear e
        go_wp2
        go_roundw
        case rel => exact ⟨4 + 1, by omega, by rfl, N.out, trivial⟩
        case measure => decide
    | 5, _ =>
      rw [show ((5 : Nat) : Int) = 5 from rfl]
      have ri : ∀ w, (Instr.index 73 (.agg #[.string ⟨#[]⟩, .string ⟨#[100, 101, 118, 105, 99, 101]⟩, .string ⟨#[112, 111, 114, 116]⟩, .string ⟨#[108, 105, 110, 107]⟩, .string ⟨#[115, 116, 97, 116, 105, 99]⟩, .string ⟨#[118, 116, 101, 112]⟩, .string ⟨#[118, 110, 105]⟩, .string ⟨#[102, 108, 111, 111, 100]⟩, .string ⟨#[118, 114, 102]⟩, .string ⟨#[105, 114, 98]⟩]) (.int .i64 5)).run Tryz.prog w = .ok (.string ⟨#[118, 116, 101, 112]⟩) w := fun w => by show Sem.run _ _ _ = Result.ok _ _; kernel_rfl
      by_cases e : s = [118, 116, 101, 112]
      · subst e
        have E := Lib.hid (show kdV [118, 116, 101, 112] = 5 by rfl)
        go_wp2
        go_ret
        exact ⟨by rw [E.out]; rfl, rfl⟩
      · have N := Lib.hid (PP.out.next (fun h => e (show s = [118, 116, 101, 112] from h.symm)))
        have d : (([118, 116, 101, 112] : List UInt8) == s) = false := by rw [beq_eq_false_iff_ne]; exact fun h => e h.symm
        clear e
        go_wp2
        go_roundw
        case rel => exact ⟨5 + 1, by omega, by rfl, N.out, trivial⟩
        case measure => decide
    | 6, _ =>
      rw [show ((6 : Nat) : Int) = 6 from rfl]
      have ri : ∀ w, (Instr.index 73 (.agg #[.string ⟨#[]⟩, .string ⟨#[100, 101, 118, 105, 99, 101]⟩, .string ⟨#[112, 111, 114, 116]⟩, .string ⟨#[108, 105, 110, 107]⟩, .string ⟨#[115, 116, 97, 116, 105, 99]⟩, .string ⟨#[118, 116, 101, 112]⟩, .string ⟨#[118, 110, 105]⟩, .string ⟨#[102, 108, 111, 111, 100]⟩, .string ⟨#[118, 114, 102]⟩, .string ⟨#[105, 114, 98]⟩]) (.int .i64 6)).run Tryz.prog w = .ok (.string ⟨#[118, 110, 105]⟩) w := fun w => by show Sem.run _ _ _ = Result.ok _ _; kernel_rfl
      by_cases e : s = [118, 110, 105]
      · subst e
        have E := Lib.hid (show kdV [118, 110, 105] = 6 by rfl)
        go_wp2
        go_ret
        exact ⟨by rw [E.out]; rfl, rfl⟩
      · have N := Lib.hid (PP.out.next (fun h => e (show s = [118, 110, 105] from h.symm)))
        have d : (([118, 110, 105] : List UInt8) == s) = false := by rw [beq_eq_false_iff_ne]; exact fun h => e h.symm
        clear e
        go_wp2
        go_roundw
        case rel => exact ⟨6 + 1, by omega, by rfl, N.out, trivial⟩
        case measure => decide
    | 7, _ =>
      rw [show ((7 : Nat) : Int) = 7 from rfl]
      have ri : ∀ w, (Instr.index 73 (.agg #[.string ⟨#[]⟩, .string ⟨#[100, 101, 118, 105, 99, 101]⟩, .string ⟨#[112, 111, 114, 116]⟩, .string ⟨#[108, 105, 110, 107]⟩, .string ⟨#[115, 116, 97, 116, 105, 99]⟩, .string ⟨#[118, 116, 101, 112]⟩, .string ⟨#[118, 110, 105]⟩, .string ⟨#[102, 108, 111, 111, 100]⟩, .string ⟨#[118, 114, 102]⟩, .string ⟨#[105, 114, 98]⟩]) (.int .i64 7)).run Tryz.prog w = .ok (.string ⟨#[102, 108, 111, 111, 100]⟩) w := fun w => by show Sem.run _ _ _ = Result.ok _ _; kernel_rfl
      by_cases e : s = [102, 108, 111, 111, 100]
      · subst e
        have E := Lib.hid (show kdV [102, 108, 111, 111, 100] = 7 by rfl)
        go_wp2
        go_ret
        exact ⟨by rw [E.out]; rfl, rfl⟩
      · have N := Lib.hid (PP.out.next (fun h => e (show s = [102, 108, 111, 111, 100] from h.symm)))
        have d : (([102, 108, 111, 111, 100] : List UInt8) == s) = false := by rw [beq_eq_false_iff_ne]; exact fun h => e h.symm
        clear e
        go_wp2
        go_roundw
        case rel => exact ⟨7 + 1, by omega, by rfl, N.out, trivial⟩
        case measure => decide
    | 8, _ =>
      rw [show ((8 : Nat) : Int) = 8 from rfl]
      have ri : ∀ w, (Instr.index 73 (.agg #[.string ⟨#[]⟩, .string ⟨#[100, 101, 118, 105, 99, 101]⟩, .string ⟨#[112, 111, 114, 116]⟩, .string ⟨#[108, 105, 110, 107]⟩, .string ⟨#[115, 116, 97, 116, 105, 99]⟩, .string ⟨#[118, 116, 101, 112]⟩, .string ⟨#[118, 110, 105]⟩, .string ⟨#[102, 108, 111, 111, 100]⟩, .string ⟨#[118, 114, 102]⟩, .string ⟨#[105, 114, 98]⟩]) (.int .i64 8)).run Tryz.prog w = .ok (.string ⟨#[118, 114, 102]⟩) w := fun w => by show Sem.run _ _ _ = Result.ok _ _; kernel_rfl
      by_cases e : s = [118, 114, 102]
      · subst e
        have E := Lib.hid (show kdV [118, 114, 102] = 8 by rfl)
        go_wp2
        go_ret
        exact ⟨by rw [E.out]; rfl, rfl⟩
      · have N := Lib.hid (PP.out.next (fun h => e (show s = [118, 114, 102] from h.symm)))
        have d : (([118, 114, 102] : List UInt8) == s) = false := by rw [beq_eq_false_iff_ne]; exact fun h => e h.symm
        clear e
        go_wp2
        go_roundw
        case rel => exact ⟨8 + 1, by omega, by rfl, N.out, trivial⟩
        case measure => decide
    | 9, _ =>
      rw [show ((9 : Nat) : Int) = 9 from rfl]
      have ri : ∀ w, (Instr.index 73 (.agg #[.string ⟨#[]⟩, .string ⟨#[100, 101, 118, 105, 99, 101]⟩, .string ⟨#[112, 111, 114, 116]⟩, .string ⟨#[108, 105, 110, 107]⟩, .string ⟨#[115, 116, 97, 116, 105, 99]⟩, .string ⟨#[118, 116, 101, 112]⟩, .string ⟨#[118, 110, 105]⟩, .string ⟨#[102, 108, 111, 111, 100]⟩, .string ⟨#[118, 114, 102]⟩, .string ⟨#[105, 114, 98]⟩]) (.int .i64 9)).run Tryz.prog w = .ok (.string ⟨#[105, 114, 98]⟩) w := fun w => by show Sem.run _ _ _ = Result.ok _ _; kernel_rfl
      by_cases e : s = [105, 114, 98]
      · subst e
        have E := Lib.hid (show kdV [105, 114, 98] = 9 by rfl)
        go_wp2
        go_ret
        exact ⟨by rw [E.out]; rfl, rfl⟩
      · have N := Lib.hid (PP.out.next (fun h => e (show s = [105, 114, 98] from h.symm)))
        have d : (([105, 114, 98] : List UInt8) == s) = false := by rw [beq_eq_false_iff_ne]; exact fun h => e h.symm
        clear e
        go_wp2
        go_roundw
        case rel => exact ⟨9 + 1, by omega, by rfl, N.out, trivial⟩
        case measure => decide
    | 10, _ =>
      rw [show ((10 : Nat) : Int) = 10 from rfl]
      have E := Lib.hid (past_kd PP.out)
      go_wp2
      go_ret
      exact ⟨by rw [E.out]; rfl, rfl⟩
    | k + 11, h => exact absurd h (by omega)

/-- a prefix in a box of the call's own -/
def OneP (w : World) (A B : Int) (w' : World) : Prop :=
  w'.cell? ⟨w.heap.size, 0, none⟩ = some (.int .u32 A) ∧ w'.cell? ⟨w.heap.size, 1, none⟩ = some (.int .i64 B) ∧ Below w.heap.size w w' ∧ w.heap.size < w'.heap.size
theorem OneP.keep {w W w' : World} {A B : Int} (h : OneP w A B W) (hb : Below W.heap.size W w') : OneP w A B w' := by
  obtain ⟨h0, h1, hB, hl⟩ := h
  exact ⟨(hb.cell (p := ⟨w.heap.size, 0, none⟩) hl).trans h0, (hb.cell (p := ⟨w.heap.size, 1, none⟩) hl).trans h1, hB.trans (hb.mono hB.size), Nat.lt_of_lt_of_le hl hb.size⟩
theorem OneP.drew {w W : World} {A B : Int} (h : OneP w A B W) : OneP w A B W.drew := by
  obtain ⟨h0, h1, hB, hl⟩ := h
  exact ⟨h0, h1, ⟨hB.os, hB.tape, hB.output, hB.size, hB.block⟩, hl⟩
theorem OneP.start (w : World) (A B : Int) (T : TypeId) : OneP w A B (w.alloc (.cells #[.int .u32 A, .int .i64 B] T)) := ⟨by simp, by simp, (Below.refl _ _).alloc (Nat.le_refl _) _, by simp⟩
set_option maxRecDepth 100000 in
set_option maxHeartbeats 4000000 in
theorem inner_any (A B : Int) (hA0 : 0 ≤ A) (hA1 : A < 4294967296) (w : World) :
    Calls Tryz.prog 72 #[.agg #[.int .u32 A, .int .i64 B]] w fun e w' => e = .returned (.bool (snB A B)) ∧ Below w.heap.size w w' := by
  by_cases b1 : 1 ≤ B
  rotate_left
  · have E := Lib.hid (show snB A B = false by unfold snB; rw [decide_eq_false b1]; rfl)
    have d1 : decide (1 ≤ B) = false := decide_eq_false b1
    clear b1
    go_enter Tryz.func72, Tryz.ntmps72
    go_wp2
    refine wp_region_text (OneP w A B) (by kernel_rfl) (by kernel_rfl) (OneP.start w A B _).drew ?_
    repeat
      first
        | (refine Seq.pass rfl ?_; simp only [Act.put, List.setIfInBounds_toArray, List.set_cons_zero, List.set_cons_succ])
        | (refine Seq.run ?_ rfl (fun wx hx => ?_) ?_
           rotate_left
           · have hx2 := hx
             obtain ⟨h0, h1, hB, hl⟩ := hx2
             go_simp
             refine StepRun.val ?_; exact hx
           simp only [Act.put, List.setIfInBounds_toArray, List.set_cons_zero, List.set_cons_succ])
    refine Seq.last (fun wx hx => ?_)
    go_wp2
    go_ret
    exact ⟨by rw [E.out]; rfl, hx.2.2.1⟩
  by_cases b2 : B ≤ 30
  rotate_left
  · have E := Lib.hid (show snB A B = false by unfold snB; rw [decide_eq_false b2, Bool.and_false]; rfl)
    have d1 : decide (1 ≤ B) = true := decide_eq_true b1
    have d2 : decide (B ≤ 30) = false := decide_eq_false b2
    clear b1 b2
    go_enter Tryz.func72, Tryz.ntmps72
    go_wp2
    refine wp_region_text (OneP w A B) (by kernel_rfl) (by kernel_rfl) (OneP.start w A B _).drew ?_
    repeat
      first
        | (refine Seq.pass rfl ?_; simp only [Act.put, List.setIfInBounds_toArray, List.set_cons_zero, List.set_cons_succ])
        | (refine Seq.run ?_ rfl (fun wx hx => ?_) ?_
           rotate_left
           · have hx2 := hx
             obtain ⟨h0, h1, hB, hl⟩ := hx2
             go_simp
             refine StepRun.val ?_; exact hx
           simp only [Act.put, List.setIfInBounds_toArray, List.set_cons_zero, List.set_cons_succ])
    refine Seq.last (fun wx hx => ?_)
    go_wp2
    go_ret
    exact ⟨by rw [E.out]; rfl, hx.2.2.1⟩
  have E := Lib.hid (show snB A B = (!decide (A = FS A B) && !decide (A = LS A B)) by unfold snB; rw [decide_eq_true b1, decide_eq_true b2]; rfl)
  have d1 : decide (1 ≤ B) = true := decide_eq_true b1
  have d2 : decide (B ≤ 30) = true := decide_eq_true b2
  have C1 := Lib.hid (fun w => first_all A B hA0 hA1 w)
  have C2 := Lib.hid (fun w => last_all A B hA0 hA1 w)
  clear b1 b2
  generalize FS A B = F at *
  generalize LS A B = G at *
  by_cases f : A = F
  · have d3 : (A != F) = false := by simp [f]
    rw [decide_eq_true f] at E
    clear f
    go_enter Tryz.func72, Tryz.ntmps72
    go_wp2
    refine wp_region_text (OneP w A B) (by kernel_rfl) (by kernel_rfl) (OneP.start w A B _).drew ?_
    repeat
      first
        | (refine Seq.pass rfl ?_; simp only [Act.put, List.setIfInBounds_toArray, List.set_cons_zero, List.set_cons_succ])
        | (refine Seq.run ?_ rfl (fun wx hx => ?_) ?_
           rotate_left
           · have hx2 := hx
             obtain ⟨h0, h1, hB, hl⟩ := hx2
             go_simp
             first
               | (refine StepRun.val ?_; exact hx)
               | (refine StepRun.call (v := .int .u32 F) ?_; (with_reducible refine Calls.mono (C1.out _) ?_); rintro e w' ⟨rfl, hb⟩; exact ⟨rfl, hx.keep hb⟩)
               | (refine StepRun.call (v := .int .u32 G) ?_; (with_reducible refine Calls.mono (C2.out _) ?_); rintro e w' ⟨rfl, hb⟩; exact ⟨rfl, hx.keep hb⟩)
           simp only [Act.put, List.setIfInBounds_toArray, List.set_cons_zero, List.set_cons_succ])
    refine Seq.last (fun wx hx => ?_)
    go_wp2
    go_ret
    exact ⟨by rw [E.out]; rfl, hx.2.2.1⟩
  have d3 : (A != F) = true := by simp [f]
  rw [decide_eq_false f] at E
  clear f
  by_cases g : A = G
  · have d4 : (A != G) = false := by simp [g]
    rw [decide_eq_true g] at E
    clear g
    go_enter Tryz.func72, Tryz.ntmps72
    go_wp2
    refine wp_region_text (OneP w A B) (by kernel_rfl) (by kernel_rfl) (OneP.start w A B _).drew ?_
    repeat
      first
        | (refine Seq.pass rfl ?_; simp only [Act.put, List.setIfInBounds_toArray, List.set_cons_zero, List.set_cons_succ])
        | (refine Seq.run ?_ rfl (fun wx hx => ?_) ?_
           rotate_left
           · have hx2 := hx
             obtain ⟨h0, h1, hB, hl⟩ := hx2
             go_simp
             first
               | (refine StepRun.val ?_; exact hx)
               | (refine StepRun.call (v := .int .u32 F) ?_; (with_reducible refine Calls.mono (C1.out _) ?_); rintro e w' ⟨rfl, hb⟩; exact ⟨rfl, hx.keep hb⟩)
               | (refine StepRun.call (v := .int .u32 G) ?_; (with_reducible refine Calls.mono (C2.out _) ?_); rintro e w' ⟨rfl, hb⟩; exact ⟨rfl, hx.keep hb⟩)
           simp only [Act.put, List.setIfInBounds_toArray, List.set_cons_zero, List.set_cons_succ])
    refine Seq.last (fun wx hx => ?_)
    go_wp2
    go_ret
    exact ⟨by rw [E.out]; rfl, hx.2.2.1⟩
  · have d4 : (A != G) = true := by simp [g]
    rw [decide_eq_false g] at E
    clear g
    go_enter Tryz.func72, Tryz.ntmps72
    go_wp2
    refine wp_region_text (OneP w A B) (by kernel_rfl) (by kernel_rfl) (OneP.start w A B _).drew ?_
    repeat
      first
        | (refine Seq.pass rfl ?_; simp only [Act.put, List.setIfInBounds_toArray, List.set_cons_zero, List.set_cons_succ])
        | (refine Seq.run ?_ rfl (fun wx hx => ?_) ?_
           rotate_left
           · have hx2 := hx
             obtain ⟨h0, h1, hB, hl⟩ := hx2
             go_simp
             first
               | (refine StepRun.val ?_; exact hx)
               | (refine StepRun.call (v := .int .u32 F) ?_; (with_reducible refine Calls.mono (C1.out _) ?_); rintro e w' ⟨rfl, hb⟩; exact ⟨rfl, hx.keep hb⟩)
               | (refine StepRun.call (v := .int .u32 G) ?_; (with_reducible refine Calls.mono (C2.out _) ?_); rintro e w' ⟨rfl, hb⟩; exact ⟨rfl, hx.keep hb⟩)
           simp only [Act.put, List.setIfInBounds_toArray, List.set_cons_zero, List.set_cons_succ])
    refine Seq.last (fun wx hx => ?_)
    go_wp2
    go_ret
    exact ⟨by rw [E.out]; rfl, hx.2.2.1⟩

theorem upA_drop {xs : List Int} {k : Nat} {a : Int} (h : k < xs.length) : upA a (xs.drop k) = (decide (a < xs.getD k 0) && upA (xs.getD k 0) (xs.drop (k + 1))) := by
  rw [List.drop_eq_getElem_cons h, List.getD, List.getElem?_eq_getElem h]
  rfl
set_option maxHeartbeats 1000000 in
theorem ris_any2 (s : SlV) (xs : List Int) (w : World) (h : ISl w .u32 s.A s.n s.c xs) : Calls Tryz.prog 74 #[.slice s.A s.n s.c] w fun e w' => e = .returned (.bool (risA xs)) ∧ w = w' := by
  obtain ⟨A, n, c⟩ := s
  dsimp only at h ⊢
  have hle := h.le
  have hcap := h.cap
  have H := Lib.hid h
  clear h
  by_cases hn : 0 < n
  · obtain ⟨b, off, rfl, hb, hc⟩ := H.out.2.2.2 hn
    have HC := Lib.hid hc
    clear hc
    go_enter Tryz.func74, Tryz.ntmps74
    go_wp2
    go_loopw [3, 8] (fun v i wr => ∃ (k : Nat) (a : Int), k ≤ n ∧ v = .int .u32 a ∧ i = .int .i64 (k : Int) ∧ upA 0 xs = upA a (xs.drop k) ∧ w = wr) (fun _ i _ => n - (intOf i).toNat)
    case atStart => exact ⟨0, 0, by omega, rfl, rfl, rfl, rfl⟩
    case round =>
      obtain ⟨k, a, hk, rfl, rfl, hu, rfl⟩ := hrel
      have U := Lib.hid hu
      clear hu
      by_cases hlt : k < n
      · have c0 : w.cell? ⟨b, off + k, none⟩ = some (.int .u32 (xs.getD k 0)) := HC.out k hlt
        have N := Lib.hid (upA_drop (xs := xs) (k := k) (a := a) (by rw [H.out.len]; exact hlt))
        generalize hx : xs.getD k 0 = x at c0 N
        have HX := Lib.hid hx
        clear hx
        by_cases hle2 : x ≤ a
        · have E := Lib.hid (show risA xs = false by unfold risA; rw [U.out, N.out, decide_eq_false (by omega)]; rfl)
          go_wp2
          go_ret
          exact ⟨by rw [E.out]; rfl, rfl⟩
        · have M := Lib.hid (show upA 0 xs = upA x (xs.drop (k + 1)) by rw [U.out, N.out, decide_eq_true (by omega), Bool.true_and])
          go_wp2
          go_roundw
          case rel => exact ⟨k + 1, x, by omega, rfl, by go_num, M.out, trivial⟩
          case measure => simp [intOf]; omega
      · obtain rfl : k = n := by omega
        have M := Lib.hid (show upA 0 xs = true by rw [U.out, List.drop_eq_nil_of_le (by rw [H.out.len]; exact Nat.le_refl _)]; rfl)
        by_cases h16 : k ≤ 16
        · have E := Lib.hid (show risA xs = true by unfold risA; rw [M.out, decide_eq_true (by rw [H.out.len]; omega), decide_eq_true (by rw [H.out.len]; omega)]; rfl)
          go_wp2
          go_ret
          exact ⟨by rw [E.out]; show Ending.returned (.bool (decide ((k : Int) ≤ 16))) = _; rw [decide_eq_true (by omega)], rfl⟩
        · have E := Lib.hid (show risA xs = false by unfold risA; rw [M.out, decide_eq_false (p := xs.length ≤ 16) (by rw [H.out.len]; omega), Bool.and_false, Bool.and_false])
          go_wp2
          go_ret
          exact ⟨by rw [E.out]; show Ending.returned (.bool (decide ((k : Int) ≤ 16))) = _; rw [decide_eq_false (by omega)], rfl⟩
  · obtain rfl : n = 0 := by omega
    obtain rfl : xs = [] := List.eq_nil_of_length_eq_zero H.out.len
    go_enter Tryz.func74, Tryz.ntmps74
    go_wp2
    go_loop [3, 8] (fun v i => v = .int .u32 0 ∧ i = .int .i64 0) (fun _ _ => 0)
    case atStart => exact ⟨rfl, rfl⟩
    case round =>
      obtain ⟨rfl, rfl⟩ := hrel
      go_wp2
      go_ret
      exact ⟨rfl, rfl⟩

theorem contains_any2 (xs : List Int) (v : Int) : xs.contains v = xs.any (fun x => decide (x = v)) := by
  rw [Bool.eq_iff_iff]
  simp
set_option maxRecDepth 100000 in
set_option maxHeartbeats 4000000 in
theorem apart_any (L : LV) (s1 s2 s3 s4 : SlV) (w : World) (h : LRead w L s1 s2 s3 s4) :
    Calls Tryz.prog 19 #[lineV L s1 s2 s3 s4] w fun e w' => e = .returned (.bool (apB L)) ∧ Below w.heap.size w w' := by
  have H1 := Lib.hid h.1
  have hle := h.1.le
  have hcap := h.1.cap
  have hlen := h.1.len
  clear h
  have E := Lib.hid (show apB L = (decide (L.kind ≠ 2) || ((decide (L.vlan ≠ 0) || decide (0 < s1.n)) && !(L.tagged.contains L.vlan))) by unfold apB; rw [contains_any2, hlen])
  obtain ⟨A, n, c⟩ := s1
  dsimp only at H1 hle hcap E
  unfold lineV
  generalize apB L = r at *
  generalize L.row = f0 at *
  generalize L.kind = f1 at *
  generalize L.dev = f2 at *
  generalize L.port = f3 at *
  generalize L.peer = f4 at *
  generalize L.far = f5 at *
  generalize L.name = f6 at *
  generalize L.mac = f7 at *
  generalize L.addr = f8 at *
  generalize L.bits = f9 at *
  generalize L.vlan = f10 at *
  generalize L.num = f11 at *
  generalize L.cost = f12 at *
  generalize L.tagged = f13 at *
  by_cases k2 : f1 = 2
  rotate_left
  · have d1 : (f1 != 2) = true := by simpa using k2
    have E2 := Lib.hid (show r = true by rw [E.out, decide_eq_true k2]; rfl)
    clear k2
    go_enter Tryz.func19, Tryz.ntmps19
    go_wp2
    go_ret
    exact ⟨by rw [E2.out]; rfl, (Below.refl _ _).alloc (Nat.le_refl _) _⟩
  have E2 := Lib.hid (show r = ((decide (f10 ≠ 0) || decide (0 < n)) && !(f13.contains f10)) by rw [E.out, decide_eq_false (by simpa using k2)]; rfl)
  subst k2
  by_cases v0 : f10 = 0
  · have d2 : (f10 != 0) = false := by simpa using v0
    by_cases hn : 0 < n
    · have E3 := Lib.hid (show r = !(f13.contains f10) by rw [E2.out, decide_eq_true hn, Bool.or_true, Bool.true_and])
      clear v0
      obtain ⟨q, hq⟩ : ∃ q, f13.contains f10 = q := ⟨_, rfl⟩
      have QQ := Lib.hid hq
      rw [hq] at E3
      clear hq
      cases q with
      | true =>
        go_enter Tryz.func19, Tryz.ntmps19
        go_wp2_with (go_at_call 58; refine (contains_any ⟨A, n, c⟩ f13 f10 _ (H1.out.alloc _)).mono ?_; rintro e w1 ⟨rfl, rfl⟩; rw [QQ.out])
        go_ret
        exact ⟨by rw [E3.out]; rfl, (Below.refl _ _).alloc (Nat.le_refl _) _⟩
      | false =>
        go_enter Tryz.func19, Tryz.ntmps19
        go_wp2_with (go_at_call 58; refine (contains_any ⟨A, n, c⟩ f13 f10 _ (H1.out.alloc _)).mono ?_; rintro e w1 ⟨rfl, rfl⟩; rw [QQ.out])
        go_ret
        exact ⟨by rw [E3.out]; rfl, (Below.refl _ _).alloc (Nat.le_refl _) _⟩
    · have E3 := Lib.hid (show r = false by rw [E2.out, decide_eq_false hn, decide_eq_false (by simpa using v0)]; rfl)
      obtain rfl : n = 0 := by omega
      go_enter Tryz.func19, Tryz.ntmps19
      go_wp2
      go_ret
      exact ⟨by rw [E3.out]; rfl, (Below.refl _ _).alloc (Nat.le_refl _) _⟩
  · have d2 : (f10 != 0) = true := by simpa using v0
    have E3 := Lib.hid (show r = !(f13.contains f10) by rw [E2.out, decide_eq_true v0, Bool.true_or, Bool.true_and])
    clear v0
    obtain ⟨q, hq⟩ : ∃ q, f13.contains f10 = q := ⟨_, rfl⟩
    have QQ := Lib.hid hq
    rw [hq] at E3
    clear hq
    cases q with
    | true =>
      go_enter Tryz.func19, Tryz.ntmps19
      go_wp2_with (go_at_call 58; refine (contains_any ⟨A, n, c⟩ f13 f10 _ (H1.out.alloc _)).mono ?_; rintro e w1 ⟨rfl, rfl⟩; rw [QQ.out])
      go_ret
      exact ⟨by rw [E3.out]; rfl, (Below.refl _ _).alloc (Nat.le_refl _) _⟩
    | false =>
      go_enter Tryz.func19, Tryz.ntmps19
      go_wp2_with (go_at_call 58; refine (contains_any ⟨A, n, c⟩ f13 f10 _ (H1.out.alloc _)).mono ?_; rintro e w1 ⟨rfl, rfl⟩; rw [QQ.out])
      go_ret
      exact ⟨by rw [E3.out]; rfl, (Below.refl _ _).alloc (Nat.le_refl _) _⟩
end Go.Proofs.YtpbomfhlghljdaaGreatDoor
