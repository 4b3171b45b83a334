/-
  DERIVED. GIVEN WITH THE SEED: THE CARDS: each row of YthecofkkacieaaaDoorRows.lean that lists a variable, with what it lists TIED to the program's text (the seventh form; the later family's looks); each row that meets fmt, with fmt's text TOLD by the authors' own Lean function (tested against real Go, not proved from fmt's source: count such statements apart). THE CARD IS WHAT COUNTS. Prove the row's statement (the work); the ties are given (YthecofkkacieaaaDoorTie.lean); close each card by the builder's one call (the guide's Derived/Test/ToyasCard.lean, 'card_holds'). Laid BY PROGRAM, IN A SANDBOX (cutbox-door.mjs). By AI agents, Wed Nov 11 2026. No macro, syntax, notation, axiom, sorry.
-/
import Derived.Test.YthecofkkacieaaaDoorRows
import GoSem.ClaimSeven
namespace Go.Proofs.YthecofkkacieaaaDoor
namespace Rows

/-- THE TIED CARD OF 'recensionlaw07.PathnameNames'. -/
def pathnameNamesCard : Claim7 := { stood := { row := pathnameNamesRow, standIns := [], harness := (true, "c024971b98db368bca34667b3922ba34a73396884773ebc12e9f9a730faf272b"), looks := true }, kinds := [], alts := [], laidByText := true, laidKinds := [.data, .data, .data, .data, .sentinel, .sentinel, .pinned], laidTests := true, laidLooks := .later }
def PathnameNamesCardSaid : Prop := Claim7.holds Tryd.pinned (.plain (OpenSpec.ofChange pathnameNamesSpec)) pathnameNamesCard

/-- THE TIED CARD OF 'recensionlaw07.PathnamePaths'. -/
def pathnamePathsCard : Claim7 := { stood := { row := pathnamePathsRow, standIns := [], harness := (true, "c024971b98db368bca34667b3922ba34a73396884773ebc12e9f9a730faf272b"), looks := true }, kinds := [], alts := [], laidByText := true, laidKinds := [.data, .data, .data, .data, .sentinel, .sentinel, .pinned], laidTests := true, laidLooks := .later }
def PathnamePathsCardSaid : Prop := Claim7.holds Tryd.pinned (.plain (OpenSpec.ofChange pathnamePathsSpec)) pathnamePathsCard

/-- THE TIED CARD OF 'recensionlaw07.PathnameBack'. -/
def pathnameBackCard : Claim7 := { stood := { row := pathnameBackRow, standIns := [], harness := (true, "c024971b98db368bca34667b3922ba34a73396884773ebc12e9f9a730faf272b"), looks := true }, kinds := [], alts := [], laidByText := true, laidKinds := [.data, .data, .data, .data, .sentinel, .sentinel, .pinned], laidTests := true, laidLooks := .later }
def PathnameBackCardSaid : Prop := Claim7.holds Tryd.pinned (.plain (OpenSpec.ofChange pathnameBackSpec)) pathnameBackCard

/-- THE TIED CARD OF 'recensionlaw07.PathnameClashes'. -/
def pathnameClashesCard : Claim7 := { stood := { row := pathnameClashesRow, standIns := [], harness := (true, "c024971b98db368bca34667b3922ba34a73396884773ebc12e9f9a730faf272b"), looks := true }, kinds := [], alts := [], laidByText := true, laidKinds := [.data, .data, .data, .data, .sentinel, .sentinel, .pinned], laidTests := true, laidLooks := .later }
def PathnameClashesCardSaid : Prop := Claim7.holds Tryd.pinned (.plain (OpenSpec.ofChange pathnameClashesSpec)) pathnameClashesCard

/-- THE SECOND FORM's CARD OF 'recensionlaw07.PathnameNames'. -/
def pathnameNamesUptoCard : Claim7 := { stood := { row := pathnameNamesUptoRow, standIns := [], harness := (true, "c024971b98db368bca34667b3922ba34a73396884773ebc12e9f9a730faf272b"), looks := true }, kinds := [], alts := [], laidByText := true, laidKinds := [.data, .data, .data, .data, .sentinel, .sentinel, .pinned], laidTests := true, laidLooks := .later }
def PathnameNamesUptoCardSaid : Prop := Claim7.holds Tryd.pinned (.plain (OpenSpec.upto pathnameNamesSpec)) pathnameNamesUptoCard

/-- THE SECOND FORM's CARD OF 'recensionlaw07.PathnamePaths'. -/
def pathnamePathsUptoCard : Claim7 := { stood := { row := pathnamePathsUptoRow, standIns := [], harness := (true, "c024971b98db368bca34667b3922ba34a73396884773ebc12e9f9a730faf272b"), looks := true }, kinds := [], alts := [], laidByText := true, laidKinds := [.data, .data, .data, .data, .sentinel, .sentinel, .pinned], laidTests := true, laidLooks := .later }
def PathnamePathsUptoCardSaid : Prop := Claim7.holds Tryd.pinned (.plain (OpenSpec.upto pathnamePathsSpec)) pathnamePathsUptoCard

/-- THE SECOND FORM's CARD OF 'recensionlaw07.PathnameBack'. -/
def pathnameBackUptoCard : Claim7 := { stood := { row := pathnameBackUptoRow, standIns := [], harness := (true, "c024971b98db368bca34667b3922ba34a73396884773ebc12e9f9a730faf272b"), looks := true }, kinds := [], alts := [], laidByText := true, laidKinds := [.data, .data, .data, .data, .sentinel, .sentinel, .pinned], laidTests := true, laidLooks := .later }
def PathnameBackUptoCardSaid : Prop := Claim7.holds Tryd.pinned (.plain (OpenSpec.upto pathnameBackSpec)) pathnameBackUptoCard

/-- THE SECOND FORM's CARD OF 'recensionlaw07.PathnameClashes'. -/
def pathnameClashesUptoCard : Claim7 := { stood := { row := pathnameClashesUptoRow, standIns := [], harness := (true, "c024971b98db368bca34667b3922ba34a73396884773ebc12e9f9a730faf272b"), looks := true }, kinds := [], alts := [], laidByText := true, laidKinds := [.data, .data, .data, .data, .sentinel, .sentinel, .pinned], laidTests := true, laidLooks := .later }
def PathnameClashesUptoCardSaid : Prop := Claim7.holds Tryd.pinned (.plain (OpenSpec.upto pathnameClashesSpec)) pathnameClashesUptoCard
end Rows
end Go.Proofs.YthecofkkacieaaaDoor
