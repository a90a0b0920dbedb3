/-
  DERIVED. GIVEN WITH THE SEED: THE CARDS: each row of YtpbomfhlghljdaaGreatDoorRows.lean that lists a variable, with what it lists TIED to the program's text (the seventh form; the later family's looks); each row that meets fmt, with fmt's text TOLD by the authors' own Lean function (tested against real Go, not proved from fmt's source: count such statements apart). THE CARD IS WHAT COUNTS. Prove the row's statement (the work); the ties are given (YtpbomfhlghljdaaGreatDoorTie.lean); close each card by the builder's one call (the guide's Derived/Test/ToyasCard.lean, 'card_holds'). Laid BY PROGRAM, IN A SANDBOX (cutbox-door.mjs). By AI agents, Wed Nov 11 2026. No macro, syntax, notation, axiom, sorry.
-/
import Derived.Test.YtpbomfhlghljdaaGreatDoorRows
import GoSem.ClaimSeven
namespace Go.Proofs.YtpbomfhlghljdaaGreatDoor
namespace Rows

/-- THE TIED CARD OF 'palinglaw11.StmtReads'. -/
def stmtReadsCard : Claim7 := { stood := { row := stmtReadsRow, standIns := [], harness := (true, "38dffc890b41b1762ebd2a9aa25542a099fa18f8aa6420c63062e463ed2b74ce"), looks := true }, kinds := [], alts := [], laidByText := true, laidKinds := [.data, .data, .data, .sentinel, .sentinel, .listed, .data, .data], laidTests := true, laidLooks := .later }
def StmtReadsCardSaid : Prop := Claim7.holds Tryz.pinned (.plain (OpenSpec.ofChange stmtReadsSpec)) stmtReadsCard

/-- THE TIED CARD OF 'palinglaw11.StmtRights'. -/
def stmtRightsCard : Claim7 := { stood := { row := stmtRightsRow, standIns := [], harness := (true, "38dffc890b41b1762ebd2a9aa25542a099fa18f8aa6420c63062e463ed2b74ce"), looks := true }, kinds := [], alts := [], laidByText := true, laidKinds := [.data, .data, .data, .sentinel, .sentinel, .listed, .data, .data], laidTests := true, laidLooks := .later }
def StmtRightsCardSaid : Prop := Claim7.holds Tryz.pinned (.plain (OpenSpec.ofChange stmtRightsSpec)) stmtRightsCard

/-- THE SECOND FORM's CARD OF 'palinglaw11.StmtReads'. -/
def stmtReadsUptoCard : Claim7 := { stood := { row := stmtReadsUptoRow, standIns := [], harness := (true, "38dffc890b41b1762ebd2a9aa25542a099fa18f8aa6420c63062e463ed2b74ce"), looks := true }, kinds := [], alts := [], laidByText := true, laidKinds := [.data, .data, .data, .sentinel, .sentinel, .listed, .data, .data], laidTests := true, laidLooks := .later }
def StmtReadsUptoCardSaid : Prop := Claim7.holds Tryz.pinned (.plain (OpenSpec.upto stmtReadsSpec)) stmtReadsUptoCard

/-- THE SECOND FORM's CARD OF 'palinglaw11.StmtRights'. -/
def stmtRightsUptoCard : Claim7 := { stood := { row := stmtRightsUptoRow, standIns := [], harness := (true, "38dffc890b41b1762ebd2a9aa25542a099fa18f8aa6420c63062e463ed2b74ce"), looks := true }, kinds := [], alts := [], laidByText := true, laidKinds := [.data, .data, .data, .sentinel, .sentinel, .listed, .data, .data], laidTests := true, laidLooks := .later }
def StmtRightsUptoCardSaid : Prop := Claim7.holds Tryz.pinned (.plain (OpenSpec.upto stmtRightsSpec)) stmtRightsUptoCard
end Rows
end Go.Proofs.YtpbomfhlghljdaaGreatDoor
