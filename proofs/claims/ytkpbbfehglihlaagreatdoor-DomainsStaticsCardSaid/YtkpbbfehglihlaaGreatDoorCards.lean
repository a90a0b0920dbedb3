/-
  DERIVED. GIVEN WITH THE SEED: THE CARDS: each row of YtkpbbfehglihlaaGreatDoorRows.lean that lists a variable, with what it lists TIED to the program's text (the seventh form; the later family's looks); each row that meets fmt, with fmt's text TOLD by the authors' own Lean function (tested against real Go, not proved from fmt's source: count such statements apart). THE CARD IS WHAT COUNTS. Prove the row's statement (the work); the ties are given (YtkpbbfehglihlaaGreatDoorTie.lean); close each card by the builder's one call (the guide's Derived/Test/ToyasCard.lean, 'card_holds'). Laid BY PROGRAM, IN A SANDBOX (cutbox-door.mjs). By AI agents, Wed Nov 11 2026. No macro, syntax, notation, axiom, sorry.
-/
import Derived.Test.YtkpbbfehglihlaaGreatDoorRows
import GoSem.ClaimSeven
namespace Go.Proofs.YtkpbbfehglihlaaGreatDoor
namespace Rows

/-- THE TIED CARD OF 'palinglaw18.DomainsStatics'. -/
def domainsStaticsCard : Claim7 := { stood := { row := domainsStaticsRow, standIns := [], harness := (true, "04738b70c02bb6d4730c57ef6ddf27d4cfc21ba1cc03be0763c00cf444960df0"), looks := false }, kinds := [], alts := [], laidByText := true, laidKinds := [.data, .data, .data], laidTests := true, laidLooks := .later }
def DomainsStaticsCardSaid : Prop := Claim7.holds Tryz.pinned (.plain (OpenSpec.ofChange domainsStaticsSpec)) domainsStaticsCard

/-- THE TIED CARD OF 'palinglaw18.DomainsTells'. -/
def domainsTellsCard : Claim7 := { stood := { row := domainsTellsRow, standIns := [], harness := (true, "04738b70c02bb6d4730c57ef6ddf27d4cfc21ba1cc03be0763c00cf444960df0"), looks := false }, kinds := [], alts := [], laidByText := true, laidKinds := [.data, .data, .data], laidTests := true, laidLooks := .later }
def DomainsTellsCardSaid : Prop := Claim7.holds Tryz.pinned (.plain (OpenSpec.ofChange domainsTellsSpec)) domainsTellsCard

/-- THE TIED CARD OF 'palinglaw18.DomainsKeeps'. -/
def domainsKeepsCard : Claim7 := { stood := { row := domainsKeepsRow, standIns := [], harness := (true, "04738b70c02bb6d4730c57ef6ddf27d4cfc21ba1cc03be0763c00cf444960df0"), looks := false }, kinds := [], alts := [], laidByText := true, laidKinds := [.data, .data, .data], laidTests := true, laidLooks := .later }
def DomainsKeepsCardSaid : Prop := Claim7.holds Tryz.pinned (.plain (OpenSpec.ofChange domainsKeepsSpec)) domainsKeepsCard

/-- THE SECOND FORM's CARD OF 'palinglaw18.DomainsStatics'. -/
def domainsStaticsUptoCard : Claim7 := { stood := { row := domainsStaticsUptoRow, standIns := [], harness := (true, "04738b70c02bb6d4730c57ef6ddf27d4cfc21ba1cc03be0763c00cf444960df0"), looks := false }, kinds := [], alts := [], laidByText := true, laidKinds := [.data, .data, .data], laidTests := true, laidLooks := .later }
def DomainsStaticsUptoCardSaid : Prop := Claim7.holds Tryz.pinned (.plain (OpenSpec.upto domainsStaticsSpec)) domainsStaticsUptoCard

/-- THE SECOND FORM's CARD OF 'palinglaw18.DomainsTells'. -/
def domainsTellsUptoCard : Claim7 := { stood := { row := domainsTellsUptoRow, standIns := [], harness := (true, "04738b70c02bb6d4730c57ef6ddf27d4cfc21ba1cc03be0763c00cf444960df0"), looks := false }, kinds := [], alts := [], laidByText := true, laidKinds := [.data, .data, .data], laidTests := true, laidLooks := .later }
def DomainsTellsUptoCardSaid : Prop := Claim7.holds Tryz.pinned (.plain (OpenSpec.upto domainsTellsSpec)) domainsTellsUptoCard

/-- THE SECOND FORM's CARD OF 'palinglaw18.DomainsKeeps'. -/
def domainsKeepsUptoCard : Claim7 := { stood := { row := domainsKeepsUptoRow, standIns := [], harness := (true, "04738b70c02bb6d4730c57ef6ddf27d4cfc21ba1cc03be0763c00cf444960df0"), looks := false }, kinds := [], alts := [], laidByText := true, laidKinds := [.data, .data, .data], laidTests := true, laidLooks := .later }
def DomainsKeepsUptoCardSaid : Prop := Claim7.holds Tryz.pinned (.plain (OpenSpec.upto domainsKeepsSpec)) domainsKeepsUptoCard
end Rows
end Go.Proofs.YtkpbbfehglihlaaGreatDoor
