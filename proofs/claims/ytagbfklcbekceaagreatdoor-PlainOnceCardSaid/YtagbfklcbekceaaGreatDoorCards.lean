/-
  DERIVED. GIVEN WITH THE SEED: THE CARDS: each row of YtagbfklcbekceaaGreatDoorRows.lean that lists a variable, with what it lists TIED to the program's text (the seventh form; the later family's looks); each row that meets fmt, with fmt's text TOLD by the authors' own Lean function (tested against real Go, not proved from fmt's source: count such statements apart). THE CARD IS WHAT COUNTS. Prove the row's statement (the work); the ties are given (YtagbfklcbekceaaGreatDoorTie.lean); close each card by the builder's one call (the guide's Derived/Test/ToyasCard.lean, 'card_holds'). Laid BY PROGRAM, IN A SANDBOX (cutbox-door.mjs). By AI agents, Wed Nov 11 2026. No macro, syntax, notation, axiom, sorry.
-/
import Derived.Test.YtagbfklcbekceaaGreatDoorRows
import GoSem.ClaimSeven
namespace Go.Proofs.YtagbfklcbekceaaGreatDoor
namespace Rows

/-- THE TIED CARD OF 'palinglaw13.PlainOnce'. -/
def plainOnceCard : Claim7 := { stood := { row := plainOnceRow, standIns := [], harness := (true, "ab163cd011257c63cebbd1306eb06ff3bfa30f04ea8faea3beed41c9905b8faf"), looks := true }, kinds := [], alts := [], laidByText := true, laidKinds := [.data, .data, .data, .sentinel, .sentinel, .data], laidTests := true, laidLooks := .later }
def PlainOnceCardSaid : Prop := Claim7.holds Tryz.pinned (.plain (OpenSpec.ofChange plainOnceSpec)) plainOnceCard

/-- THE SECOND FORM's CARD OF 'palinglaw13.PlainOnce'. -/
def plainOnceUptoCard : Claim7 := { stood := { row := plainOnceUptoRow, standIns := [], harness := (true, "ab163cd011257c63cebbd1306eb06ff3bfa30f04ea8faea3beed41c9905b8faf"), looks := true }, kinds := [], alts := [], laidByText := true, laidKinds := [.data, .data, .data, .sentinel, .sentinel, .data], laidTests := true, laidLooks := .later }
def PlainOnceUptoCardSaid : Prop := Claim7.holds Tryz.pinned (.plain (OpenSpec.upto plainOnceSpec)) plainOnceUptoCard
end Rows
end Go.Proofs.YtagbfklcbekceaaGreatDoor
