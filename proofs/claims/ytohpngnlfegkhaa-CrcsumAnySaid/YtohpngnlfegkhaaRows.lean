/-
  No cell of these rows narrows 'for every input' (looked for: loops, veiled, ifaces, maps, wideKeys, modest, calm, conditions, laid).
  DERIVED. THE GIVEN ROWS OF THIS SEAT. 6 by the template 'for every input the law returns true; each argument reads behind the call as it read before'; 0 by the template 'total and deterministic' (their statements: YtohpngnlfegkhaaTotals.lean).
  GIVEN WITH THE SEED: the statements are not yours to turn. If you find one false, say at which input.
  Laid BY PROGRAM, IN A SANDBOX (cutbox-rows.mjs): the forced cells as the released guide's own fill.sh prints them over the translation 247761ecf8c957ac… (all of the seat's roots in one cut). By AI agents, Wed Nov 11 2026. No macro, syntax, notation, axiom, sorry.
-/
import Derived.Test.YtohpngnlfegkhaaChecked
import GoSem.Claim
import GoSem.ClaimJoined
import GoSem.ClaimMapViews
import Derived.JoinedTies
import Derived.KernelRfl
namespace Go.Proofs.Ytohpngnlfegkhaa
/- THE CELL 'sum', in the pinned program and in every row, IS THE sha256 OF THE DUMP (.gsa) THAT YtohpngnlfegkhaaProg.lean LOADS. Nothing in Lean hashes anything: it is a label: what it is worth is what the hold of that sum in a sandbox is worth. -/
noncomputable def Try.pinned : Pinned := { name := "ytohpngnlfegkhaa", sum := "247761ecf8c957ac4f80097a6a0e5e0d59883184ebf29a2c8f2f2a039a2877fa", checked := Try.checked }
namespace Rows
def none {H : Type} : Left H := { results := [], args := [] }

/-- 'recensionlaw02.CrcsumTable': WHATEVER THE INPUT: true; the input reads as it did. -/
def crcsumTableSpec : ChangeSpec := { name := "crcsumTable", fn := fun _ => fun
  | [] => { results := [.lit (.bool true)], args := [] }
  | _ => none }
def crcsumTableRow : OpenClaim := { program := "ytohpngnlfegkhaa", sum := "247761ecf8c957ac4f80097a6a0e5e0d59883184ebf29a2c8f2f2a039a2877fa", func := "recension/recensionlaw02.CrcsumTable", spec := "crcsumTable", apart := false }
def CrcsumTableSaid : Prop := crcsumTableRow.holds Try.pinned (OpenSpec.ofChange crcsumTableSpec)

/-- ITS FALSE NEIGHBOUR: 'it returns false'. Refute it at one input. -/
def crcsumTableWrong : ChangeSpec := { name := "crcsumTable", fn := fun _ => fun
  | [] => { results := [.lit (.bool false)], args := [] }
  | _ => none }
def CrcsumTableWrongFalsely : Prop := crcsumTableRow.holds Try.pinned (OpenSpec.ofChange crcsumTableWrong)

/-- 'recensionlaw02.CrcsumSums': WHATEVER THE INPUT: true; the input reads as it did. -/
def crcsumSumsSpec : ChangeSpec := { name := "crcsumSums", fn := fun _ => fun
  | [d1, d2] => { results := [.lit (.bool true)], args := [d1, d2] }
  | _ => none }
def crcsumSumsRow : OpenClaim := { program := "ytohpngnlfegkhaa", sum := "247761ecf8c957ac4f80097a6a0e5e0d59883184ebf29a2c8f2f2a039a2877fa", func := "recension/recensionlaw02.CrcsumSums", spec := "crcsumSums", apart := false }
def CrcsumSumsSaid : Prop := crcsumSumsRow.holds Try.pinned (OpenSpec.ofChange crcsumSumsSpec)

/-- ITS FALSE NEIGHBOUR: 'it returns false'. Refute it at one input. -/
def crcsumSumsWrong : ChangeSpec := { name := "crcsumSums", fn := fun _ => fun
  | [d1, d2] => { results := [.lit (.bool false)], args := [d1, d2] }
  | _ => none }
def CrcsumSumsWrongFalsely : Prop := crcsumSumsRow.holds Try.pinned (OpenSpec.ofChange crcsumSumsWrong)

/-- 'recensionlaw02.CrcsumAny': WHATEVER THE INPUT: true; the input reads as it did. -/
def crcsumAnySpec : ChangeSpec := { name := "crcsumAny", fn := fun _ => fun
  | [d1, d2] => { results := [.lit (.bool true)], args := [d1, d2] }
  | _ => none }
def crcsumAnyRow : OpenClaim := { program := "ytohpngnlfegkhaa", sum := "247761ecf8c957ac4f80097a6a0e5e0d59883184ebf29a2c8f2f2a039a2877fa", func := "recension/recensionlaw02.CrcsumAny", spec := "crcsumAny", apart := false }
def CrcsumAnySaid : Prop := crcsumAnyRow.holds Try.pinned (OpenSpec.ofChange crcsumAnySpec)

/-- ITS FALSE NEIGHBOUR: 'it returns false'. Refute it at one input. -/
def crcsumAnyWrong : ChangeSpec := { name := "crcsumAny", fn := fun _ => fun
  | [d1, d2] => { results := [.lit (.bool false)], args := [d1, d2] }
  | _ => none }
def CrcsumAnyWrongFalsely : Prop := crcsumAnyRow.holds Try.pinned (OpenSpec.ofChange crcsumAnyWrong)

/-- 'recensionlaw02.CrcsumBytes': WHATEVER THE INPUT: true; the input reads as it did. -/
def crcsumBytesSpec : ChangeSpec := { name := "crcsumBytes", fn := fun _ => fun
  | [d] => { results := [.lit (.bool true)], args := [d] }
  | _ => none }
def crcsumBytesRow : OpenClaim := { program := "ytohpngnlfegkhaa", sum := "247761ecf8c957ac4f80097a6a0e5e0d59883184ebf29a2c8f2f2a039a2877fa", func := "recension/recensionlaw02.CrcsumBytes", spec := "crcsumBytes", apart := false }
def CrcsumBytesSaid : Prop := crcsumBytesRow.holds Try.pinned (OpenSpec.ofChange crcsumBytesSpec)

/-- ITS FALSE NEIGHBOUR: 'it returns false'. Refute it at one input. -/
def crcsumBytesWrong : ChangeSpec := { name := "crcsumBytes", fn := fun _ => fun
  | [d] => { results := [.lit (.bool false)], args := [d] }
  | _ => none }
def CrcsumBytesWrongFalsely : Prop := crcsumBytesRow.holds Try.pinned (OpenSpec.ofChange crcsumBytesWrong)

/-- 'recensionlaw02.CrcsumOne': WHATEVER THE INPUT: true; the input reads as it did. -/
def crcsumOneSpec : ChangeSpec := { name := "crcsumOne", fn := fun _ => fun
  | [d1, d2, d3] => { results := [.lit (.bool true)], args := [d1, d2, d3] }
  | _ => none }
def crcsumOneRow : OpenClaim := { program := "ytohpngnlfegkhaa", sum := "247761ecf8c957ac4f80097a6a0e5e0d59883184ebf29a2c8f2f2a039a2877fa", func := "recension/recensionlaw02.CrcsumOne", spec := "crcsumOne", apart := false }
def CrcsumOneSaid : Prop := crcsumOneRow.holds Try.pinned (OpenSpec.ofChange crcsumOneSpec)

/-- ITS FALSE NEIGHBOUR: 'it returns false'. Refute it at one input. -/
def crcsumOneWrong : ChangeSpec := { name := "crcsumOne", fn := fun _ => fun
  | [d1, d2, d3] => { results := [.lit (.bool false)], args := [d1, d2, d3] }
  | _ => none }
def CrcsumOneWrongFalsely : Prop := crcsumOneRow.holds Try.pinned (OpenSpec.ofChange crcsumOneWrong)

/-- 'recensionlaw02.CrcsumThree': WHATEVER THE INPUT: true; the input reads as it did. -/
def crcsumThreeSpec : ChangeSpec := { name := "crcsumThree", fn := fun _ => fun
  | [d1, d2, d3] => { results := [.lit (.bool true)], args := [d1, d2, d3] }
  | _ => none }
def crcsumThreeRow : OpenClaim := { program := "ytohpngnlfegkhaa", sum := "247761ecf8c957ac4f80097a6a0e5e0d59883184ebf29a2c8f2f2a039a2877fa", func := "recension/recensionlaw02.CrcsumThree", spec := "crcsumThree", apart := false }
def CrcsumThreeSaid : Prop := crcsumThreeRow.holds Try.pinned (OpenSpec.ofChange crcsumThreeSpec)

/-- ITS FALSE NEIGHBOUR: 'it returns false'. Refute it at one input. -/
def crcsumThreeWrong : ChangeSpec := { name := "crcsumThree", fn := fun _ => fun
  | [d1, d2, d3] => { results := [.lit (.bool false)], args := [d1, d2, d3] }
  | _ => none }
def CrcsumThreeWrongFalsely : Prop := crcsumThreeRow.holds Try.pinned (OpenSpec.ofChange crcsumThreeWrong)

/- THE SECOND FORM. 'bulk': how many values and letters a reading holds, each counted each time it is reached (what is shared counts as often as it is met; a slice's spare places count too). A statement '..UptoSaid' is the law's where the arguments, and the package variables that the reading takes, are together of bulk at most 1048576: NARROWER than '..Said'. Prove '..Said' where nothing that the law and all that it calls make is longer than what came in: it says more and counts as full. Else prove '..UptoSaid'. A law counts once. -/
mutual
def uptoBulk {H : Type} : DataW H → Nat
  | .lit (.string bytes) => bytes.length + 1
  | .lit _ => 1
  | .nil => 1
  | .ptr d => uptoBulk d + 1
  | .slice elems spare => uptoBulkAll elems + uptoBulkAll spare + 1
  | .agg parts => uptoBulkAll parts + 1
  | .iface _ d => uptoBulk d + 1
  | .map entries => uptoBulkEntries entries + 1
  | .held _ => 1
def uptoBulkAll {H : Type} : List (DataW H) → Nat
  | [] => 0
  | d :: r => uptoBulk d + uptoBulkAll r
def uptoBulkEntries {H : Type} : List (Lit × DataW H) → Nat
  | [] => 0
  | x :: r => uptoBulkEntry x + uptoBulkEntries r
def uptoBulkEntry {H : Type} : Lit × DataW H → Nat
  | (.string bytes, d) => bytes.length + uptoBulk d + 1
  | (_, d) => uptoBulk d + 1
 end
def uptoSmall : (H : Type) → List (DataW H) → Bool := fun _ ds => decide (uptoBulkAll ds ≤ 1048576)
def OpenSpec.upto (s : _root_.Go.ChangeSpec) : _root_.Go.OpenSpec := { _root_.Go.OpenSpec.ofChange s with cond := some uptoSmall }

/-- 'recensionlaw02.CrcsumTable', WHERE WHAT IT READS IS OF BULK AT MOST 1048576: true; the input reads as it did. -/
def crcsumTableUptoRow : OpenClaim := { program := "ytohpngnlfegkhaa", sum := "247761ecf8c957ac4f80097a6a0e5e0d59883184ebf29a2c8f2f2a039a2877fa", func := "recension/recensionlaw02.CrcsumTable", spec := "crcsumTable", apart := false, narrowed := true }
def CrcsumTableUptoSaid : Prop := crcsumTableUptoRow.holds Try.pinned (OpenSpec.upto crcsumTableSpec)

/-- 'recensionlaw02.CrcsumSums', WHERE WHAT IT READS IS OF BULK AT MOST 1048576: true; the input reads as it did. -/
def crcsumSumsUptoRow : OpenClaim := { program := "ytohpngnlfegkhaa", sum := "247761ecf8c957ac4f80097a6a0e5e0d59883184ebf29a2c8f2f2a039a2877fa", func := "recension/recensionlaw02.CrcsumSums", spec := "crcsumSums", apart := false, narrowed := true }
def CrcsumSumsUptoSaid : Prop := crcsumSumsUptoRow.holds Try.pinned (OpenSpec.upto crcsumSumsSpec)

/-- 'recensionlaw02.CrcsumAny', WHERE WHAT IT READS IS OF BULK AT MOST 1048576: true; the input reads as it did. -/
def crcsumAnyUptoRow : OpenClaim := { program := "ytohpngnlfegkhaa", sum := "247761ecf8c957ac4f80097a6a0e5e0d59883184ebf29a2c8f2f2a039a2877fa", func := "recension/recensionlaw02.CrcsumAny", spec := "crcsumAny", apart := false, narrowed := true }
def CrcsumAnyUptoSaid : Prop := crcsumAnyUptoRow.holds Try.pinned (OpenSpec.upto crcsumAnySpec)

/-- 'recensionlaw02.CrcsumBytes', WHERE WHAT IT READS IS OF BULK AT MOST 1048576: true; the input reads as it did. -/
def crcsumBytesUptoRow : OpenClaim := { program := "ytohpngnlfegkhaa", sum := "247761ecf8c957ac4f80097a6a0e5e0d59883184ebf29a2c8f2f2a039a2877fa", func := "recension/recensionlaw02.CrcsumBytes", spec := "crcsumBytes", apart := false, narrowed := true }
def CrcsumBytesUptoSaid : Prop := crcsumBytesUptoRow.holds Try.pinned (OpenSpec.upto crcsumBytesSpec)

/-- 'recensionlaw02.CrcsumOne', WHERE WHAT IT READS IS OF BULK AT MOST 1048576: true; the input reads as it did. -/
def crcsumOneUptoRow : OpenClaim := { program := "ytohpngnlfegkhaa", sum := "247761ecf8c957ac4f80097a6a0e5e0d59883184ebf29a2c8f2f2a039a2877fa", func := "recension/recensionlaw02.CrcsumOne", spec := "crcsumOne", apart := false, narrowed := true }
def CrcsumOneUptoSaid : Prop := crcsumOneUptoRow.holds Try.pinned (OpenSpec.upto crcsumOneSpec)

/-- 'recensionlaw02.CrcsumThree', WHERE WHAT IT READS IS OF BULK AT MOST 1048576: true; the input reads as it did. -/
def crcsumThreeUptoRow : OpenClaim := { program := "ytohpngnlfegkhaa", sum := "247761ecf8c957ac4f80097a6a0e5e0d59883184ebf29a2c8f2f2a039a2877fa", func := "recension/recensionlaw02.CrcsumThree", spec := "crcsumThree", apart := false, narrowed := true }
def CrcsumThreeUptoSaid : Prop := crcsumThreeUptoRow.holds Try.pinned (OpenSpec.upto crcsumThreeSpec)

end Rows
end Go.Proofs.Ytohpngnlfegkhaa
