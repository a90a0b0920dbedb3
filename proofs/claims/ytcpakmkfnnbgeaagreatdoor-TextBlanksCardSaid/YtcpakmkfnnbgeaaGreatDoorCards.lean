/-
  DERIVED. GIVEN WITH THE SEED: THE CARDS: each row of YtcpakmkfnnbgeaaGreatDoorRows.lean that lists a variable, with what it lists TIED to the program's text (the seventh form; the later family's looks); each row that meets fmt, with fmt's text TOLD by the authors' own Lean function (tested against real Go, not proved from fmt's source: count such statements apart). THE CARD IS WHAT COUNTS. Prove the row's statement (the work); the ties are given (YtcpakmkfnnbgeaaGreatDoorTie.lean); close each card by the builder's one call (the guide's Derived/Test/ToyasCard.lean, 'card_holds'). Laid BY PROGRAM, IN A SANDBOX (cutbox-door.mjs). By AI agents, Wed Nov 11 2026. No macro, syntax, notation, axiom, sorry.
-/
import Derived.Test.YtcpakmkfnnbgeaaGreatDoorRows
import GoSem.ClaimSeven
namespace Go.Proofs.YtcpakmkfnnbgeaaGreatDoor
namespace Rows

/-- THE TIED CARD OF 'palinglaw12.TextReads'. -/
def textReadsCard : Claim7 := { stood := { row := textReadsRow, standIns := [], harness := (true, "07db55de476302877717c1093a944edbb3a76a7dd60bf07b09d66e39b892ce83"), looks := true }, kinds := [], alts := [], laidByText := true, laidKinds := [.data, .data, .data, .sentinel, .sentinel, .data], laidTests := true, laidLooks := .later }
def TextReadsCardSaid : Prop := Claim7.holds Tryz.pinned (.plain (OpenSpec.ofChange textReadsSpec)) textReadsCard

/-- THE TIED CARD OF 'palinglaw12.TextSames'. -/
def textSamesCard : Claim7 := { stood := { row := textSamesRow, standIns := [], harness := (true, "07db55de476302877717c1093a944edbb3a76a7dd60bf07b09d66e39b892ce83"), looks := true }, kinds := [], alts := [], laidByText := true, laidKinds := [.data, .data, .data, .sentinel, .sentinel, .data], laidTests := true, laidLooks := .later }
def TextSamesCardSaid : Prop := Claim7.holds Tryz.pinned (.plain (OpenSpec.ofChange textSamesSpec)) textSamesCard

/-- THE TIED CARD OF 'palinglaw12.TextBlanks'. -/
def textBlanksCard : Claim7 := { stood := { row := textBlanksRow, standIns := [], harness := (true, "07db55de476302877717c1093a944edbb3a76a7dd60bf07b09d66e39b892ce83"), looks := true }, kinds := [], alts := [], laidByText := true, laidKinds := [.data, .data, .data, .sentinel, .sentinel, .data], laidTests := true, laidLooks := .later }
def TextBlanksCardSaid : Prop := Claim7.holds Tryz.pinned (.plain (OpenSpec.ofChange textBlanksSpec)) textBlanksCard

/-- THE TIED CARD OF 'palinglaw12.TextFirst'. -/
def textFirstCard : Claim7 := { stood := { row := textFirstRow, standIns := [], harness := (true, "07db55de476302877717c1093a944edbb3a76a7dd60bf07b09d66e39b892ce83"), looks := true }, kinds := [], alts := [], laidByText := true, laidKinds := [.data, .data, .data, .sentinel, .sentinel, .data], laidTests := true, laidLooks := .later }
def TextFirstCardSaid : Prop := Claim7.holds Tryz.pinned (.plain (OpenSpec.ofChange textFirstSpec)) textFirstCard

/-- THE SECOND FORM's CARD OF 'palinglaw12.TextReads'. -/
def textReadsUptoCard : Claim7 := { stood := { row := textReadsUptoRow, standIns := [], harness := (true, "07db55de476302877717c1093a944edbb3a76a7dd60bf07b09d66e39b892ce83"), looks := true }, kinds := [], alts := [], laidByText := true, laidKinds := [.data, .data, .data, .sentinel, .sentinel, .data], laidTests := true, laidLooks := .later }
def TextReadsUptoCardSaid : Prop := Claim7.holds Tryz.pinned (.plain (OpenSpec.upto textReadsSpec)) textReadsUptoCard

/-- THE SECOND FORM's CARD OF 'palinglaw12.TextSames'. -/
def textSamesUptoCard : Claim7 := { stood := { row := textSamesUptoRow, standIns := [], harness := (true, "07db55de476302877717c1093a944edbb3a76a7dd60bf07b09d66e39b892ce83"), looks := true }, kinds := [], alts := [], laidByText := true, laidKinds := [.data, .data, .data, .sentinel, .sentinel, .data], laidTests := true, laidLooks := .later }
def TextSamesUptoCardSaid : Prop := Claim7.holds Tryz.pinned (.plain (OpenSpec.upto textSamesSpec)) textSamesUptoCard

/-- THE SECOND FORM's CARD OF 'palinglaw12.TextBlanks'. -/
def textBlanksUptoCard : Claim7 := { stood := { row := textBlanksUptoRow, standIns := [], harness := (true, "07db55de476302877717c1093a944edbb3a76a7dd60bf07b09d66e39b892ce83"), looks := true }, kinds := [], alts := [], laidByText := true, laidKinds := [.data, .data, .data, .sentinel, .sentinel, .data], laidTests := true, laidLooks := .later }
def TextBlanksUptoCardSaid : Prop := Claim7.holds Tryz.pinned (.plain (OpenSpec.upto textBlanksSpec)) textBlanksUptoCard

/-- THE SECOND FORM's CARD OF 'palinglaw12.TextFirst'. -/
def textFirstUptoCard : Claim7 := { stood := { row := textFirstUptoRow, standIns := [], harness := (true, "07db55de476302877717c1093a944edbb3a76a7dd60bf07b09d66e39b892ce83"), looks := true }, kinds := [], alts := [], laidByText := true, laidKinds := [.data, .data, .data, .sentinel, .sentinel, .data], laidTests := true, laidLooks := .later }
def TextFirstUptoCardSaid : Prop := Claim7.holds Tryz.pinned (.plain (OpenSpec.upto textFirstSpec)) textFirstUptoCard
end Rows
end Go.Proofs.YtcpakmkfnnbgeaaGreatDoor
