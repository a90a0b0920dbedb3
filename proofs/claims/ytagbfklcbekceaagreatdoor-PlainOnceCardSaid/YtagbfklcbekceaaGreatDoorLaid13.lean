/- What the rows' listed variables give: the table of powers of ten, that ErrSyntax holds an error, the words that lines begin with; a world in which they lie so. -/
import Derived.Test.YtagbfklcbekceaaGreatDoorRows
import Derived.Test.YtagbfklcbekceaaGreatDoorStOwn
import Derived.ProofKit
import Derived.LaidMore
import Derived.OpenShut
import Derived.Stop.Joined
import Derived.Stop.LaidErr
import Derived.Lib.LaidTab
import Derived.Lib.SmallJoins
import Derived.ShutString
import Derived.ChangeOld
import Derived.Below
namespace Go.Proofs.YtagbfklcbekceaaGreatDoor
open Go.ChangeShapes Go.WideShapes Go.ChangeAt Go.RowKit

theorem own : ownKnob Tryz.prog.godebug = none := by kernel_rfl
theorem laidOut : laidOutB Tryz.prog = true := by kernel_rfl
abbrev laid13 : List (String × DataW Unit) := Rows.plainOnceRow.laid
theorem gPow : Tryz.prog.globalNamed "internal/strconv.uint64pow10" = some 1 := by kernel_rfl
theorem tPow : (Tryz.prog.globals[1]?).map (·.type) = some 158 := by kernel_rfl
theorem powData : (Rows.laid_internal_strconv_uint64pow10 : DataW Unit) = Lib.tabData .u64 Lib.pow10Tab := by kernel_rfl
theorem gErr : Tryz.prog.globalNamed "strconv.ErrSyntax" = some 3 := by kernel_rfl
theorem tErr : (Tryz.prog.globals[3]?).map (·.type) = some 96 := by kernel_rfl
theorem Tryz.cells181 : Tryz.prog.cellsOf 181 = 1 := by kernel_rfl
theorem Tryz.cells9 : Tryz.prog.cellsOf 9 = 1 := by kernel_rfl
theorem starErr : "*" ++ "errors.errorString" = "*errors.errorString" := by decide
theorem rowErr (u : TypeId) (h : Tryz.prog.typeName? 3 u = some "*errors.errorString") : u = 179 :=
  typeName_ptr_named (nm := "errors.errorString") (by rw [starErr]; kernel_rfl) (by kernel_rfl) (by decide) u (by rw [starErr]; exact h)
theorem tFirsts : (Tryz.prog.globals[0]?).map (·.type) = some 100 := by kernel_rfl
/-- texts, as a datum -/
def textData {H : Type} (ls : List (List UInt8)) : DataW H := .agg (ls.map fun l => .lit (.string l))
theorem firstData : (Rows.laid_paling_stmt_firsts : DataW Unit) = textData firstL := by kernel_rfl
/-- an array of texts that reads as texts holds them, cell for cell -/
theorem cells_of_texts {H : Type} {enc : TypeId × Value → H} {P : Program} {w : World} {base : Nat} {sp : Nat → Bool} {held : Bool} {fuel : Nat} {t e : TypeId} {n : Nat} {cs : List Value} {ls : List (List UInt8)} {p : List MemPlace}
    (ht : P.underlying t = some (.array n e)) (he : P.underlying e = some .string) (hce : P.cellsOf e = 1) (hct : P.cellsOf t = n)
    (h : DataW.trod enc P w base sp held fuel t cs = some (textData ls, p)) : cs = ls.map fun l => Value.string (str l) := by
  cases fuel with
  | zero => simp [DataW.trod] at h
  | succ fuel =>
    simp only [DataW.trod, ht, hce, hct, Nat.mul_one] at h
    split at h
    · rename_i hl
      obtain ⟨xs, hm, hx⟩ := Option.map_eq_some_iff.1 h
      have hxs : xs.map (·.1) = ls.map fun l => (DataW.lit (.string l) : DataW H) := by
        have := congrArg Prod.fst hx
        simpa [textData] using this
      have hxl : xs.length = n := by simpa using Lib.mapM_length hm
      have hll : ls.length = n := by
        have := congrArg List.length hxs
        simp at this
        omega
      apply List.ext_getElem?
      intro i
      by_cases hi : i < n
      · obtain ⟨b, hb, hf⟩ := Lib.mapM_at hm i i (by simp [hi])
        have h2 : (xs.map (·.1))[i]? = some b.1 := by simp [hb]
        rw [hxs, List.getElem?_map, Option.map_eq_some_iff] at h2
        obtain ⟨l, hl2, hl3⟩ := h2
        have hci : cs[i]? = some (.string (str l)) := by
          cases fuel with
          | zero => simp [DataW.trod] at hf
          | succ fuel =>
            have hlt : i < cs.length := by omega
            have ht1 : (cs.drop i).take 1 = [cs[i]] := by rw [List.drop_eq_getElem_cons hlt]; rfl
            rw [ht1] at hf
            simp only [DataW.trod, he] at hf
            rw [List.getElem?_eq_getElem hlt]
            cases hc : cs[i] with
            | string s =>
              rw [hc] at hf
              simp only at hf
              split at hf
              · obtain ⟨r1, r2⟩ := b
                simp only [Option.some.injEq, Prod.mk.injEq] at hf
                dsimp only at hl3
                rw [← hf.1] at hl3
                injection hl3 with h4
                injection h4 with h5
                rw [h5]
              · cases hf
            | _ => first | (rw [hc] at hf; simp at hf; done) | (rw [hc] at hf)
        rw [hci, List.getElem?_map, hl2]
        rfl
      · rw [List.getElem?_eq_none (by omega), List.getElem?_eq_none (by simp; omega)]
    · cases h
theorem textsIs_of_head {P : Program} {W : World} {name : String} {ls : List (List UInt8)} {rest : List (String × DataW Unit)} {g : Nat} {t e : TypeId} {n : Nat}
    (hg : P.globalNamed name = some g) (hty : (P.globals[g]?).map (·.type) = some t) (ht : P.underlying t = some (.array n e)) (he : P.underlying e = some .string) (hce : P.cellsOf e = 1) (hct : P.cellsOf t = n)
    (h : laidMet P ((name, textData ls) :: rest) W) : W.var? P name = some (ls.map fun l => Value.string (str l)).toArray := by
  obtain ⟨ps, ⟨g', t', cs, fuel, p, q, hg', ht', hvar, hd, _, _⟩, _⟩ := h
  obtain rfl := Option.some.inj (hg.symm.trans hg')
  obtain rfl := Option.some.inj (hty.symm.trans ht')
  rw [hvar, ← cells_of_texts ht he hce hct hd]
theorem ldt_of {W : World} (h : laidMetH Tryz.prog laid13 W) : LdT W := by
  rw [MakeChecks.laidMetH_plain _ _ _ (by kernel_rfl)] at h
  have h2 := h.tail.tail
  have h4 := h2.tail.tail
  have h5 := h4.tail
  rw [powData] at h2
  rw [firstData] at h5
  obtain ⟨a, s, hv, _⟩ := laid_sentinel h4 gErr tErr Tryz.underlying96 rowErr Tryz.underlying179 Tryz.underlying181 rfl rfl Tryz.underlying9 Tryz.cells181 Tryz.cells9
  exact ⟨⟨Lib.tabIs_of_head gPow tPow Tryz.underlying158 Tryz.underlying35 (by kernel_rfl) (by kernel_rfl) h2, _, _, hv⟩, textsIs_of_head gFirsts tFirsts Tryz.underlying100 Tryz.underlying9 (by kernel_rfl) (by kernel_rfl) h5⟩
theorem door_met (os : Os) (args : Array Value) : laidMetH Tryz.prog laid13 ((World.doorLaid Tryz.prog 67 os).forCall (fun _ _ => 0) ⟨#[], args, []⟩).memory :=
  laidMetH_of_parts3 (fuel := 8) (laidMet_of_run' 8 (by kernel_rfl) (by kernel_rfl)) (by kernel_rfl) (by kernel_rfl)
theorem int_of_wf {x : Int} (h : (Lit.int .i64 x).wf = true) : -9223372036854775808 ≤ x ∧ x ≤ 9223372036854775807 := by
  simp [Lit.wf, IntKind.min, IntKind.max, IntKind.signed, IntKind.bits] at h
  exact ⟨by omega, by omega⟩
end Go.Proofs.YtagbfklcbekceaaGreatDoor
