/-
  No cell of these rows narrows 'for every input' (looked for: loops, veiled, ifaces, maps, wideKeys, modest, calm, conditions, laid).
  DERIVED. THE GIVEN ROWS OF THIS SEAT. 2 by the template 'for every input the law returns true; each argument reads behind the call as it read before'; 0 by the template 'total and deterministic' (their statements: YtnpembgchmmbjaaGreatTotals.lean).
  GIVEN WITH THE SEED: the statements are not yours to turn. If you find one false, say at which input.
  Laid BY PROGRAM, IN A SANDBOX (cutbox-rows.mjs): the forced cells as the released guide's own fill.sh prints them over the translation ce76edb4c2b31771… (all of the seat's roots in one cut). By AI agents, Wed Nov 11 2026. No macro, syntax, notation, axiom, sorry.
-/
import Derived.Test.YtnpembgchmmbjaaGreatChecked
import GoSem.Claim
import GoSem.ClaimJoined
import GoSem.ClaimMapViews
import Derived.JoinedTies
import Derived.KernelRfl
namespace Go.Proofs.YtnpembgchmmbjaaGreat
/- THE CELL 'sum', in the pinned program and in every row, IS THE sha256 OF THE DUMP (.gsa) THAT YtnpembgchmmbjaaGreatProg.lean LOADS. Nothing in Lean hashes anything: it is a label: what it is worth is what the hold of that sum in a sandbox is worth. -/
noncomputable def Tryz.pinned : Pinned := { name := "ytnpembgchmmbjaagreat", sum := "ce76edb4c2b31771073376e6e28db68e532a334bdb52e471f824a0e67a30462c", checked := Tryz.checked }
namespace Rows
def none {H : Type} : Left H := { results := [], args := [] }

/-- 'palinglaw17.LinksAdds': WHATEVER THE INPUT: true; the input reads as it did. -/
def linksAddsSpec : ChangeSpec := { name := "linksAdds", fn := fun _ => fun
  | [d1, d2] => { results := [.lit (.bool true)], args := [d1, d2] }
  | _ => none }
def linksAddsRow : OpenClaim := { program := "ytnpembgchmmbjaagreat", sum := "ce76edb4c2b31771073376e6e28db68e532a334bdb52e471f824a0e67a30462c", func := "paling/palinglaw17.LinksAdds", spec := "linksAdds", unfollowed := true, recurses := true, apart := false }
def LinksAddsSaid : Prop := linksAddsRow.holds Tryz.pinned (OpenSpec.ofChange linksAddsSpec)

/-- ITS FALSE NEIGHBOUR: 'it returns false'. Refute it at one input. -/
def linksAddsWrong : ChangeSpec := { name := "linksAdds", fn := fun _ => fun
  | [d1, d2] => { results := [.lit (.bool false)], args := [d1, d2] }
  | _ => none }
def LinksAddsWrongFalsely : Prop := linksAddsRow.holds Tryz.pinned (OpenSpec.ofChange linksAddsWrong)

/-- 'palinglaw17.LinksKeeps': WHATEVER THE INPUT: true; the input reads as it did. -/
def linksKeepsSpec : ChangeSpec := { name := "linksKeeps", fn := fun _ => fun
  | [d1, d2] => { results := [.lit (.bool true)], args := [d1, d2] }
  | _ => none }
def linksKeepsRow : OpenClaim := { program := "ytnpembgchmmbjaagreat", sum := "ce76edb4c2b31771073376e6e28db68e532a334bdb52e471f824a0e67a30462c", func := "paling/palinglaw17.LinksKeeps", spec := "linksKeeps", unfollowed := true, recurses := true, apart := false }
def LinksKeepsSaid : Prop := linksKeepsRow.holds Tryz.pinned (OpenSpec.ofChange linksKeepsSpec)

/-- ITS FALSE NEIGHBOUR: 'it returns false'. Refute it at one input. -/
def linksKeepsWrong : ChangeSpec := { name := "linksKeeps", fn := fun _ => fun
  | [d1, d2] => { results := [.lit (.bool false)], args := [d1, d2] }
  | _ => none }
def LinksKeepsWrongFalsely : Prop := linksKeepsRow.holds Tryz.pinned (OpenSpec.ofChange linksKeepsWrong)

/- THE SECOND FORM. 'bulk': how many values and letters a reading holds, each counted each time it is reached (what is shared counts as often as it is met; a slice's spare places count too). A statement '..UptoSaid' is the law's where the arguments, and the package variables that the reading takes, are together of bulk at most 1048576: NARROWER than '..Said'. Prove '..Said' where nothing that the law and all that it calls make is longer than what came in: it says more and counts as full. Else prove '..UptoSaid'. A law counts once. -/
mutual
def uptoBulk {H : Type} : DataW H → Nat
  | .lit (.string bytes) => bytes.length + 1
  | .lit _ => 1
  | .nil => 1
  | .ptr d => uptoBulk d + 1
  | .slice elems spare => uptoBulkAll elems + uptoBulkAll spare + 1
  | .agg parts => uptoBulkAll parts + 1
  | .iface _ d => uptoBulk d + 1
  | .map entries => uptoBulkEntries entries + 1
  | .held _ => 1
def uptoBulkAll {H : Type} : List (DataW H) → Nat
  | [] => 0
  | d :: r => uptoBulk d + uptoBulkAll r
def uptoBulkEntries {H : Type} : List (Lit × DataW H) → Nat
  | [] => 0
  | x :: r => uptoBulkEntry x + uptoBulkEntries r
def uptoBulkEntry {H : Type} : Lit × DataW H → Nat
  | (.string bytes, d) => bytes.length + uptoBulk d + 1
  | (_, d) => uptoBulk d + 1
 end
def uptoSmall : (H : Type) → List (DataW H) → Bool := fun _ ds => decide (uptoBulkAll ds ≤ 1048576)
def OpenSpec.upto (s : _root_.Go.ChangeSpec) : _root_.Go.OpenSpec := { _root_.Go.OpenSpec.ofChange s with cond := some uptoSmall }

/-- 'palinglaw17.LinksAdds', WHERE WHAT IT READS IS OF BULK AT MOST 1048576: true; the input reads as it did. -/
def linksAddsUptoRow : OpenClaim := { program := "ytnpembgchmmbjaagreat", sum := "ce76edb4c2b31771073376e6e28db68e532a334bdb52e471f824a0e67a30462c", func := "paling/palinglaw17.LinksAdds", spec := "linksAdds", unfollowed := true, recurses := true, apart := false, narrowed := true }
def LinksAddsUptoSaid : Prop := linksAddsUptoRow.holds Tryz.pinned (OpenSpec.upto linksAddsSpec)

/-- 'palinglaw17.LinksKeeps', WHERE WHAT IT READS IS OF BULK AT MOST 1048576: true; the input reads as it did. -/
def linksKeepsUptoRow : OpenClaim := { program := "ytnpembgchmmbjaagreat", sum := "ce76edb4c2b31771073376e6e28db68e532a334bdb52e471f824a0e67a30462c", func := "paling/palinglaw17.LinksKeeps", spec := "linksKeeps", unfollowed := true, recurses := true, apart := false, narrowed := true }
def LinksKeepsUptoSaid : Prop := linksKeepsUptoRow.holds Tryz.pinned (OpenSpec.upto linksKeepsSpec)

end Rows
end Go.Proofs.YtnpembgchmmbjaaGreat
