/-
  No cell of these rows narrows 'for every input' (looked for: loops, veiled, ifaces, maps, wideKeys, modest, calm, conditions, laid).
  DERIVED. THE GIVEN ROWS OF THIS SEAT. 4 by the template 'for every input the law returns true; each argument reads behind the call as it read before'; 0 by the template 'total and deterministic' (their statements: YtgmflecelnefcaaGreatTotals.lean).
  GIVEN WITH THE SEED: the statements are not yours to turn. If you find one false, say at which input.
  Laid BY PROGRAM, IN A SANDBOX (cutbox-rows.mjs): the forced cells as the released guide's own fill.sh prints them over the translation fb378c3e8ff2a086… (all of the seat's roots in one cut). By AI agents, Wed Nov 11 2026. No macro, syntax, notation, axiom, sorry.
-/
import Derived.Test.YtgmflecelnefcaaGreatChecked
import GoSem.Claim
import GoSem.ClaimJoined
import GoSem.ClaimMapViews
import Derived.JoinedTies
import Derived.KernelRfl
namespace Go.Proofs.YtgmflecelnefcaaGreat
/- THE CELL 'sum', in the pinned program and in every row, IS THE sha256 OF THE DUMP (.gsa) THAT YtgmflecelnefcaaGreatProg.lean LOADS. Nothing in Lean hashes anything: it is a label: what it is worth is what the hold of that sum in a sandbox is worth. -/
noncomputable def Tryz.pinned : Pinned := { name := "ytgmflecelnefcaagreat", sum := "fb378c3e8ff2a086fda89dc9ca9a49d6bd403356ea6ddfc02f34cb6cd122f0cd", checked := Tryz.checked }
namespace Rows
def none {H : Type} : Left H := { results := [], args := [] }

/-- 'palinglaw19.OverlayPuts': WHATEVER THE INPUT: true; the input reads as it did. -/
def overlayPutsSpec : ChangeSpec := { name := "overlayPuts", fn := fun _ => fun
  | [d1, d2] => { results := [.lit (.bool true)], args := [d1, d2] }
  | _ => none }
def overlayPutsRow : OpenClaim := { program := "ytgmflecelnefcaagreat", sum := "fb378c3e8ff2a086fda89dc9ca9a49d6bd403356ea6ddfc02f34cb6cd122f0cd", func := "paling/palinglaw19.OverlayPuts", spec := "overlayPuts", unfollowed := true, recurses := true, apart := false }
def OverlayPutsSaid : Prop := overlayPutsRow.holds Tryz.pinned (OpenSpec.ofChange overlayPutsSpec)

/-- ITS FALSE NEIGHBOUR: 'it returns false'. Refute it at one input. -/
def overlayPutsWrong : ChangeSpec := { name := "overlayPuts", fn := fun _ => fun
  | [d1, d2] => { results := [.lit (.bool false)], args := [d1, d2] }
  | _ => none }
def OverlayPutsWrongFalsely : Prop := overlayPutsRow.holds Tryz.pinned (OpenSpec.ofChange overlayPutsWrong)

/-- 'palinglaw19.OverlayMeshes': WHATEVER THE INPUT: true; the input reads as it did. -/
def overlayMeshesSpec : ChangeSpec := { name := "overlayMeshes", fn := fun _ => fun
  | [d1, d2, d3] => { results := [.lit (.bool true)], args := [d1, d2, d3] }
  | _ => none }
def overlayMeshesRow : OpenClaim := { program := "ytgmflecelnefcaagreat", sum := "fb378c3e8ff2a086fda89dc9ca9a49d6bd403356ea6ddfc02f34cb6cd122f0cd", func := "paling/palinglaw19.OverlayMeshes", spec := "overlayMeshes", unfollowed := true, recurses := true, apart := false }
def OverlayMeshesSaid : Prop := overlayMeshesRow.holds Tryz.pinned (OpenSpec.ofChange overlayMeshesSpec)

/-- ITS FALSE NEIGHBOUR: 'it returns false'. Refute it at one input. -/
def overlayMeshesWrong : ChangeSpec := { name := "overlayMeshes", fn := fun _ => fun
  | [d1, d2, d3] => { results := [.lit (.bool false)], args := [d1, d2, d3] }
  | _ => none }
def OverlayMeshesWrongFalsely : Prop := overlayMeshesRow.holds Tryz.pinned (OpenSpec.ofChange overlayMeshesWrong)

/-- 'palinglaw19.OverlayFull': WHATEVER THE INPUT: true; the input reads as it did. -/
def overlayFullSpec : ChangeSpec := { name := "overlayFull", fn := fun _ => fun
  | [d] => { results := [.lit (.bool true)], args := [d] }
  | _ => none }
def overlayFullRow : OpenClaim := { program := "ytgmflecelnefcaagreat", sum := "fb378c3e8ff2a086fda89dc9ca9a49d6bd403356ea6ddfc02f34cb6cd122f0cd", func := "paling/palinglaw19.OverlayFull", spec := "overlayFull", unfollowed := true, recurses := true, apart := false }
def OverlayFullSaid : Prop := overlayFullRow.holds Tryz.pinned (OpenSpec.ofChange overlayFullSpec)

/-- ITS FALSE NEIGHBOUR: 'it returns false'. Refute it at one input. -/
def overlayFullWrong : ChangeSpec := { name := "overlayFull", fn := fun _ => fun
  | [d] => { results := [.lit (.bool false)], args := [d] }
  | _ => none }
def OverlayFullWrongFalsely : Prop := overlayFullRow.holds Tryz.pinned (OpenSpec.ofChange overlayFullWrong)

/-- 'palinglaw19.OverlayKeeps': WHATEVER THE INPUT: true; the input reads as it did. -/
def overlayKeepsSpec : ChangeSpec := { name := "overlayKeeps", fn := fun _ => fun
  | [d1, d2] => { results := [.lit (.bool true)], args := [d1, d2] }
  | _ => none }
def overlayKeepsRow : OpenClaim := { program := "ytgmflecelnefcaagreat", sum := "fb378c3e8ff2a086fda89dc9ca9a49d6bd403356ea6ddfc02f34cb6cd122f0cd", func := "paling/palinglaw19.OverlayKeeps", spec := "overlayKeeps", unfollowed := true, recurses := true, apart := false }
def OverlayKeepsSaid : Prop := overlayKeepsRow.holds Tryz.pinned (OpenSpec.ofChange overlayKeepsSpec)

/-- ITS FALSE NEIGHBOUR: 'it returns false'. Refute it at one input. -/
def overlayKeepsWrong : ChangeSpec := { name := "overlayKeeps", fn := fun _ => fun
  | [d1, d2] => { results := [.lit (.bool false)], args := [d1, d2] }
  | _ => none }
def OverlayKeepsWrongFalsely : Prop := overlayKeepsRow.holds Tryz.pinned (OpenSpec.ofChange overlayKeepsWrong)

/- THE SECOND FORM. 'bulk': how many values and letters a reading holds, each counted each time it is reached (what is shared counts as often as it is met; a slice's spare places count too). A statement '..UptoSaid' is the law's where the arguments, and the package variables that the reading takes, are together of bulk at most 1048576: NARROWER than '..Said'. Prove '..Said' where nothing that the law and all that it calls make is longer than what came in: it says more and counts as full. Else prove '..UptoSaid'. A law counts once. -/
mutual
def uptoBulk {H : Type} : DataW H → Nat
  | .lit (.string bytes) => bytes.length + 1
  | .lit _ => 1
  | .nil => 1
  | .ptr d => uptoBulk d + 1
  | .slice elems spare => uptoBulkAll elems + uptoBulkAll spare + 1
  | .agg parts => uptoBulkAll parts + 1
  | .iface _ d => uptoBulk d + 1
  | .map entries => uptoBulkEntries entries + 1
  | .held _ => 1
def uptoBulkAll {H : Type} : List (DataW H) → Nat
  | [] => 0
  | d :: r => uptoBulk d + uptoBulkAll r
def uptoBulkEntries {H : Type} : List (Lit × DataW H) → Nat
  | [] => 0
  | x :: r => uptoBulkEntry x + uptoBulkEntries r
def uptoBulkEntry {H : Type} : Lit × DataW H → Nat
  | (.string bytes, d) => bytes.length + uptoBulk d + 1
  | (_, d) => uptoBulk d + 1
 end
def uptoSmall : (H : Type) → List (DataW H) → Bool := fun _ ds => decide (uptoBulkAll ds ≤ 1048576)
def OpenSpec.upto (s : _root_.Go.ChangeSpec) : _root_.Go.OpenSpec := { _root_.Go.OpenSpec.ofChange s with cond := some uptoSmall }

/-- 'palinglaw19.OverlayPuts', WHERE WHAT IT READS IS OF BULK AT MOST 1048576: true; the input reads as it did. -/
def overlayPutsUptoRow : OpenClaim := { program := "ytgmflecelnefcaagreat", sum := "fb378c3e8ff2a086fda89dc9ca9a49d6bd403356ea6ddfc02f34cb6cd122f0cd", func := "paling/palinglaw19.OverlayPuts", spec := "overlayPuts", unfollowed := true, recurses := true, apart := false, narrowed := true }
def OverlayPutsUptoSaid : Prop := overlayPutsUptoRow.holds Tryz.pinned (OpenSpec.upto overlayPutsSpec)

/-- 'palinglaw19.OverlayMeshes', WHERE WHAT IT READS IS OF BULK AT MOST 1048576: true; the input reads as it did. -/
def overlayMeshesUptoRow : OpenClaim := { program := "ytgmflecelnefcaagreat", sum := "fb378c3e8ff2a086fda89dc9ca9a49d6bd403356ea6ddfc02f34cb6cd122f0cd", func := "paling/palinglaw19.OverlayMeshes", spec := "overlayMeshes", unfollowed := true, recurses := true, apart := false, narrowed := true }
def OverlayMeshesUptoSaid : Prop := overlayMeshesUptoRow.holds Tryz.pinned (OpenSpec.upto overlayMeshesSpec)

/-- 'palinglaw19.OverlayFull', WHERE WHAT IT READS IS OF BULK AT MOST 1048576: true; the input reads as it did. -/
def overlayFullUptoRow : OpenClaim := { program := "ytgmflecelnefcaagreat", sum := "fb378c3e8ff2a086fda89dc9ca9a49d6bd403356ea6ddfc02f34cb6cd122f0cd", func := "paling/palinglaw19.OverlayFull", spec := "overlayFull", unfollowed := true, recurses := true, apart := false, narrowed := true }
def OverlayFullUptoSaid : Prop := overlayFullUptoRow.holds Tryz.pinned (OpenSpec.upto overlayFullSpec)

/-- 'palinglaw19.OverlayKeeps', WHERE WHAT IT READS IS OF BULK AT MOST 1048576: true; the input reads as it did. -/
def overlayKeepsUptoRow : OpenClaim := { program := "ytgmflecelnefcaagreat", sum := "fb378c3e8ff2a086fda89dc9ca9a49d6bd403356ea6ddfc02f34cb6cd122f0cd", func := "paling/palinglaw19.OverlayKeeps", spec := "overlayKeeps", unfollowed := true, recurses := true, apart := false, narrowed := true }
def OverlayKeepsUptoSaid : Prop := overlayKeepsUptoRow.holds Tryz.pinned (OpenSpec.upto overlayKeepsSpec)

end Rows
end Go.Proofs.YtgmflecelnefcaaGreat
