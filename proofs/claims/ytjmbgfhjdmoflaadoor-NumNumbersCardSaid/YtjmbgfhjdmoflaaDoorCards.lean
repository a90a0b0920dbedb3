/-
  DERIVED. GIVEN WITH THE SEED: THE CARDS: each row of YtjmbgfhjdmoflaaDoorRows.lean that lists a variable, with what it lists TIED to the program's text (the seventh form; the later family's looks); each row that meets fmt, with fmt's text TOLD by the authors' own Lean function (tested against real Go, not proved from fmt's source: count such statements apart). THE CARD IS WHAT COUNTS. Prove the row's statement (the work); the ties are given (YtjmbgfhjdmoflaaDoorTie.lean); close each card by the builder's one call (the guide's Derived/Test/ToyasCard.lean, 'card_holds'). Laid BY PROGRAM, IN A SANDBOX (cutbox-door.mjs). By AI agents, Wed Nov 11 2026. No macro, syntax, notation, axiom, sorry.
-/
import Derived.Test.YtjmbgfhjdmoflaaDoorRows
import GoSem.ClaimSeven
namespace Go.Proofs.YtjmbgfhjdmoflaaDoor
namespace Rows

/-- THE TIED CARD OF 'palinglaw03.NumNumbers'. -/
def numNumbersCard : Claim7 := { stood := { row := numNumbersRow, standIns := [], harness := (true, "eda6b1e90c227912fd1d9a8044957a208d04c9eefb768135ddb665e0d8e37deb"), looks := true }, kinds := [], alts := [], laidByText := true, laidKinds := [.data, .data, .data, .sentinel, .sentinel], laidTests := true, laidLooks := .later }
def NumNumbersCardSaid : Prop := Claim7.holds Tryd.pinned (.plain (OpenSpec.ofChange numNumbersSpec)) numNumbersCard

/-- THE TIED CARD OF 'palinglaw03.NumLists'. -/
def numListsCard : Claim7 := { stood := { row := numListsRow, standIns := [], harness := (true, "eda6b1e90c227912fd1d9a8044957a208d04c9eefb768135ddb665e0d8e37deb"), looks := true }, kinds := [], alts := [], laidByText := true, laidKinds := [.data, .data, .data, .sentinel, .sentinel], laidTests := true, laidLooks := .later }
def NumListsCardSaid : Prop := Claim7.holds Tryd.pinned (.plain (OpenSpec.ofChange numListsSpec)) numListsCard

/-- THE TIED CARD OF 'palinglaw03.NumBack'. -/
def numBackCard : Claim7 := { stood := { row := numBackRow, standIns := [], harness := (true, "eda6b1e90c227912fd1d9a8044957a208d04c9eefb768135ddb665e0d8e37deb"), looks := true }, kinds := [], alts := [], laidByText := true, laidKinds := [.data, .data, .data, .sentinel, .sentinel], laidTests := true, laidLooks := .later }
def NumBackCardSaid : Prop := Claim7.holds Tryd.pinned (.plain (OpenSpec.ofChange numBackSpec)) numBackCard

/-- THE TIED CARD OF 'palinglaw03.NumListsBack'. -/
def numListsBackCard : Claim7 := { stood := { row := numListsBackRow, standIns := [], harness := (true, "eda6b1e90c227912fd1d9a8044957a208d04c9eefb768135ddb665e0d8e37deb"), looks := true }, kinds := [], alts := [], laidByText := true, laidKinds := [.data, .data, .data, .sentinel, .sentinel], laidTests := true, laidLooks := .later }
def NumListsBackCardSaid : Prop := Claim7.holds Tryd.pinned (.plain (OpenSpec.ofChange numListsBackSpec)) numListsBackCard

/-- THE SECOND FORM's CARD OF 'palinglaw03.NumNumbers'. -/
def numNumbersUptoCard : Claim7 := { stood := { row := numNumbersUptoRow, standIns := [], harness := (true, "eda6b1e90c227912fd1d9a8044957a208d04c9eefb768135ddb665e0d8e37deb"), looks := true }, kinds := [], alts := [], laidByText := true, laidKinds := [.data, .data, .data, .sentinel, .sentinel], laidTests := true, laidLooks := .later }
def NumNumbersUptoCardSaid : Prop := Claim7.holds Tryd.pinned (.plain (OpenSpec.upto numNumbersSpec)) numNumbersUptoCard

/-- THE SECOND FORM's CARD OF 'palinglaw03.NumLists'. -/
def numListsUptoCard : Claim7 := { stood := { row := numListsUptoRow, standIns := [], harness := (true, "eda6b1e90c227912fd1d9a8044957a208d04c9eefb768135ddb665e0d8e37deb"), looks := true }, kinds := [], alts := [], laidByText := true, laidKinds := [.data, .data, .data, .sentinel, .sentinel], laidTests := true, laidLooks := .later }
def NumListsUptoCardSaid : Prop := Claim7.holds Tryd.pinned (.plain (OpenSpec.upto numListsSpec)) numListsUptoCard

/-- THE SECOND FORM's CARD OF 'palinglaw03.NumBack'. -/
def numBackUptoCard : Claim7 := { stood := { row := numBackUptoRow, standIns := [], harness := (true, "eda6b1e90c227912fd1d9a8044957a208d04c9eefb768135ddb665e0d8e37deb"), looks := true }, kinds := [], alts := [], laidByText := true, laidKinds := [.data, .data, .data, .sentinel, .sentinel], laidTests := true, laidLooks := .later }
def NumBackUptoCardSaid : Prop := Claim7.holds Tryd.pinned (.plain (OpenSpec.upto numBackSpec)) numBackUptoCard

/-- THE SECOND FORM's CARD OF 'palinglaw03.NumListsBack'. -/
def numListsBackUptoCard : Claim7 := { stood := { row := numListsBackUptoRow, standIns := [], harness := (true, "eda6b1e90c227912fd1d9a8044957a208d04c9eefb768135ddb665e0d8e37deb"), looks := true }, kinds := [], alts := [], laidByText := true, laidKinds := [.data, .data, .data, .sentinel, .sentinel], laidTests := true, laidLooks := .later }
def NumListsBackUptoCardSaid : Prop := Claim7.holds Tryd.pinned (.plain (OpenSpec.upto numListsBackSpec)) numListsBackUptoCard
end Rows
end Go.Proofs.YtjmbgfhjdmoflaaDoor
