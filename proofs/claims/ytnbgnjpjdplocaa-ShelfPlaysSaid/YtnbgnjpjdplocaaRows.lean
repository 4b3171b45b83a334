/-
  No cell of these rows narrows 'for every input' (looked for: loops, veiled, ifaces, maps, wideKeys, modest, calm, conditions, laid).
  DERIVED. THE GIVEN ROWS OF THIS SEAT. 3 by the template 'for every input the law returns true; each argument reads behind the call as it read before'; 0 by the template 'total and deterministic' (their statements: YtnbgnjpjdplocaaTotals.lean).
  GIVEN WITH THE SEED: the statements are not yours to turn. If you find one false, say at which input.
  Laid BY PROGRAM, IN A SANDBOX (cutbox-rows.mjs): the forced cells as the released guide's own fill.sh prints them over the translation 350b4fd3030e2517… (all of the seat's roots in one cut). By AI agents, Wed Nov 11 2026. No macro, syntax, notation, axiom, sorry.
-/
import Derived.Test.YtnbgnjpjdplocaaChecked
import GoSem.Claim
import GoSem.ClaimJoined
import GoSem.ClaimMapViews
import Derived.JoinedTies
import Derived.KernelRfl
namespace Go.Proofs.Ytnbgnjpjdplocaa
/- THE CELL 'sum', in the pinned program and in every row, IS THE sha256 OF THE DUMP (.gsa) THAT YtnbgnjpjdplocaaProg.lean LOADS. Nothing in Lean hashes anything: it is a label: what it is worth is what the hold of that sum in a sandbox is worth. -/
noncomputable def Try.pinned : Pinned := { name := "ytnbgnjpjdplocaa", sum := "350b4fd3030e2517f7e3f1b1d74521da9b6611662271b3e720791a25a409fb31", checked := Try.checked }
namespace Rows
def none {H : Type} : Left H := { results := [], args := [] }

/-- 'recensionlaw10.ShelfPlays': WHATEVER THE INPUT: true; the input reads as it did. -/
def shelfPlaysSpec : ChangeSpec := { name := "shelfPlays", fn := fun _ => fun
  | [d] => { results := [.lit (.bool true)], args := [d] }
  | _ => none }
def shelfPlaysRow : OpenClaim := { program := "ytnbgnjpjdplocaa", sum := "350b4fd3030e2517f7e3f1b1d74521da9b6611662271b3e720791a25a409fb31", func := "recension/recensionlaw10.ShelfPlays", spec := "shelfPlays", inPlace := ["slices.overlaps[recension/shelf.entry]", "slices.overlaps[*recension/shelf.block]"], unfollowed := true, recurses := true, plainKeys := false, apart := false }
def ShelfPlaysSaid : Prop := shelfPlaysRow.holds Try.pinned (OpenSpec.ofChange shelfPlaysSpec)

/-- ITS FALSE NEIGHBOUR: 'it returns false'. Refute it at one input. -/
def shelfPlaysWrong : ChangeSpec := { name := "shelfPlays", fn := fun _ => fun
  | [d] => { results := [.lit (.bool false)], args := [d] }
  | _ => none }
def ShelfPlaysWrongFalsely : Prop := shelfPlaysRow.holds Try.pinned (OpenSpec.ofChange shelfPlaysWrong)

/-- 'recensionlaw10.ShelfMany': WHATEVER THE INPUT: true; the input reads as it did. -/
def shelfManySpec : ChangeSpec := { name := "shelfMany", fn := fun _ => fun
  | [d1, d2] => { results := [.lit (.bool true)], args := [d1, d2] }
  | _ => none }
def shelfManyRow : OpenClaim := { program := "ytnbgnjpjdplocaa", sum := "350b4fd3030e2517f7e3f1b1d74521da9b6611662271b3e720791a25a409fb31", func := "recension/recensionlaw10.ShelfMany", spec := "shelfMany", inPlace := ["slices.overlaps[recension/shelf.entry]", "slices.overlaps[*recension/shelf.block]"], unfollowed := true, recurses := true, plainKeys := false, apart := false }
def ShelfManySaid : Prop := shelfManyRow.holds Try.pinned (OpenSpec.ofChange shelfManySpec)

/-- ITS FALSE NEIGHBOUR: 'it returns false'. Refute it at one input. -/
def shelfManyWrong : ChangeSpec := { name := "shelfMany", fn := fun _ => fun
  | [d1, d2] => { results := [.lit (.bool false)], args := [d1, d2] }
  | _ => none }
def ShelfManyWrongFalsely : Prop := shelfManyRow.holds Try.pinned (OpenSpec.ofChange shelfManyWrong)

/-- 'recensionlaw10.ShelfFinds': WHATEVER THE INPUT: true; the input reads as it did. -/
def shelfFindsSpec : ChangeSpec := { name := "shelfFinds", fn := fun _ => fun
  | [d] => { results := [.lit (.bool true)], args := [d] }
  | _ => none }
def shelfFindsRow : OpenClaim := { program := "ytnbgnjpjdplocaa", sum := "350b4fd3030e2517f7e3f1b1d74521da9b6611662271b3e720791a25a409fb31", func := "recension/recensionlaw10.ShelfFinds", spec := "shelfFinds", inPlace := ["slices.overlaps[recension/shelf.entry]", "slices.overlaps[*recension/shelf.block]"], unfollowed := true, recurses := true, plainKeys := false, apart := false }
def ShelfFindsSaid : Prop := shelfFindsRow.holds Try.pinned (OpenSpec.ofChange shelfFindsSpec)

/-- ITS FALSE NEIGHBOUR: 'it returns false'. Refute it at one input. -/
def shelfFindsWrong : ChangeSpec := { name := "shelfFinds", fn := fun _ => fun
  | [d] => { results := [.lit (.bool false)], args := [d] }
  | _ => none }
def ShelfFindsWrongFalsely : Prop := shelfFindsRow.holds Try.pinned (OpenSpec.ofChange shelfFindsWrong)

/- THE SECOND FORM. 'bulk': how many values and letters a reading holds, each counted each time it is reached (what is shared counts as often as it is met; a slice's spare places count too). A statement '..UptoSaid' is the law's where the arguments, and the package variables that the reading takes, are together of bulk at most 1048576: NARROWER than '..Said'. Prove '..Said' where nothing that the law and all that it calls make is longer than what came in: it says more and counts as full. Else prove '..UptoSaid'. A law counts once. -/
mutual
def uptoBulk {H : Type} : DataW H → Nat
  | .lit (.string bytes) => bytes.length + 1
  | .lit _ => 1
  | .nil => 1
  | .ptr d => uptoBulk d + 1
  | .slice elems spare => uptoBulkAll elems + uptoBulkAll spare + 1
  | .agg parts => uptoBulkAll parts + 1
  | .iface _ d => uptoBulk d + 1
  | .map entries => uptoBulkEntries entries + 1
  | .held _ => 1
def uptoBulkAll {H : Type} : List (DataW H) → Nat
  | [] => 0
  | d :: r => uptoBulk d + uptoBulkAll r
def uptoBulkEntries {H : Type} : List (Lit × DataW H) → Nat
  | [] => 0
  | x :: r => uptoBulkEntry x + uptoBulkEntries r
def uptoBulkEntry {H : Type} : Lit × DataW H → Nat
  | (.string bytes, d) => bytes.length + uptoBulk d + 1
  | (_, d) => uptoBulk d + 1
 end
def uptoSmall : (H : Type) → List (DataW H) → Bool := fun _ ds => decide (uptoBulkAll ds ≤ 1048576)
def OpenSpec.upto (s : _root_.Go.ChangeSpec) : _root_.Go.OpenSpec := { _root_.Go.OpenSpec.ofChange s with cond := some uptoSmall }

/-- 'recensionlaw10.ShelfPlays', WHERE WHAT IT READS IS OF BULK AT MOST 1048576: true; the input reads as it did. -/
def shelfPlaysUptoRow : OpenClaim := { program := "ytnbgnjpjdplocaa", sum := "350b4fd3030e2517f7e3f1b1d74521da9b6611662271b3e720791a25a409fb31", func := "recension/recensionlaw10.ShelfPlays", spec := "shelfPlays", inPlace := ["slices.overlaps[recension/shelf.entry]", "slices.overlaps[*recension/shelf.block]"], unfollowed := true, recurses := true, plainKeys := false, apart := false, narrowed := true }
def ShelfPlaysUptoSaid : Prop := shelfPlaysUptoRow.holds Try.pinned (OpenSpec.upto shelfPlaysSpec)

/-- 'recensionlaw10.ShelfMany', WHERE WHAT IT READS IS OF BULK AT MOST 1048576: true; the input reads as it did. -/
def shelfManyUptoRow : OpenClaim := { program := "ytnbgnjpjdplocaa", sum := "350b4fd3030e2517f7e3f1b1d74521da9b6611662271b3e720791a25a409fb31", func := "recension/recensionlaw10.ShelfMany", spec := "shelfMany", inPlace := ["slices.overlaps[recension/shelf.entry]", "slices.overlaps[*recension/shelf.block]"], unfollowed := true, recurses := true, plainKeys := false, apart := false, narrowed := true }
def ShelfManyUptoSaid : Prop := shelfManyUptoRow.holds Try.pinned (OpenSpec.upto shelfManySpec)

/-- 'recensionlaw10.ShelfFinds', WHERE WHAT IT READS IS OF BULK AT MOST 1048576: true; the input reads as it did. -/
def shelfFindsUptoRow : OpenClaim := { program := "ytnbgnjpjdplocaa", sum := "350b4fd3030e2517f7e3f1b1d74521da9b6611662271b3e720791a25a409fb31", func := "recension/recensionlaw10.ShelfFinds", spec := "shelfFinds", inPlace := ["slices.overlaps[recension/shelf.entry]", "slices.overlaps[*recension/shelf.block]"], unfollowed := true, recurses := true, plainKeys := false, apart := false, narrowed := true }
def ShelfFindsUptoSaid : Prop := shelfFindsUptoRow.holds Try.pinned (OpenSpec.upto shelfFindsSpec)

end Rows
end Go.Proofs.Ytnbgnjpjdplocaa
