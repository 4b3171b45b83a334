/-
  DERIVED. GIVEN WITH THE SEED: THE CARDS: each row of YticiolhfoeenmaaDoorRows.lean that lists a variable, with what it lists TIED to the program's text (the seventh form; the later family's looks); each row that meets fmt, with fmt's text TOLD by the authors' own Lean function (tested against real Go, not proved from fmt's source: count such statements apart). THE CARD IS WHAT COUNTS. Prove the row's statement (the work); the ties are given (YticiolhfoeenmaaDoorTie.lean); close each card by the builder's one call (the guide's Derived/Test/ToyasCard.lean, 'card_holds'). Laid BY PROGRAM, IN A SANDBOX (cutbox-door.mjs). By AI agents, Wed Nov 11 2026. No macro, syntax, notation, axiom, sorry.
-/
import Derived.Test.YticiolhfoeenmaaDoorRows
import GoSem.ClaimSeven
namespace Go.Proofs.YticiolhfoeenmaaDoor
namespace Rows

/-- THE TIED CARD OF 'recensionlaw05.StampCmps'. -/
def stampCmpsCard : Claim7 := { stood := { row := stampCmpsRow, standIns := [], harness := (true, "33c38bd5ab21cd8862e3cf6e703ddf34a9c0017e4ab854dd05eb0f7817504971"), looks := true }, kinds := [], alts := [], laidByText := true, laidKinds := [.data, .data, .data, .data, .sentinel, .sentinel, .pinned], laidTests := true, laidLooks := .later }
def StampCmpsCardSaid : Prop := Claim7.holds Tryd.pinned (.plain (OpenSpec.ofChange stampCmpsSpec)) stampCmpsCard

/-- THE TIED CARD OF 'recensionlaw05.StampTexts'. -/
def stampTextsCard : Claim7 := { stood := { row := stampTextsRow, standIns := [], harness := (true, "33c38bd5ab21cd8862e3cf6e703ddf34a9c0017e4ab854dd05eb0f7817504971"), looks := true }, kinds := [], alts := [], laidByText := true, laidKinds := [.data, .data, .data, .data, .sentinel, .sentinel, .pinned], laidTests := true, laidLooks := .later }
def StampTextsCardSaid : Prop := Claim7.holds Tryd.pinned (.plain (OpenSpec.ofChange stampTextsSpec)) stampTextsCard

/-- THE TIED CARD OF 'recensionlaw05.StampVectors'. -/
def stampVectorsCard : Claim7 := { stood := { row := stampVectorsRow, standIns := [], harness := (true, "33c38bd5ab21cd8862e3cf6e703ddf34a9c0017e4ab854dd05eb0f7817504971"), looks := true }, kinds := [], alts := [], laidByText := true, laidKinds := [.data, .data, .data, .data, .sentinel, .sentinel, .pinned], laidTests := true, laidLooks := .later }
def StampVectorsCardSaid : Prop := Claim7.holds Tryd.pinned (.plain (OpenSpec.ofChange stampVectorsSpec)) stampVectorsCard

/-- THE TIED CARD OF 'recensionlaw05.StampOrder'. -/
def stampOrderCard : Claim7 := { stood := { row := stampOrderRow, standIns := [], harness := (true, "33c38bd5ab21cd8862e3cf6e703ddf34a9c0017e4ab854dd05eb0f7817504971"), looks := true }, kinds := [], alts := [], laidByText := true, laidKinds := [.data, .data, .data, .data, .sentinel, .sentinel, .pinned], laidTests := true, laidLooks := .later }
def StampOrderCardSaid : Prop := Claim7.holds Tryd.pinned (.plain (OpenSpec.ofChange stampOrderSpec)) stampOrderCard

/-- THE TIED CARD OF 'recensionlaw05.StampBack'. -/
def stampBackCard : Claim7 := { stood := { row := stampBackRow, standIns := [], harness := (true, "33c38bd5ab21cd8862e3cf6e703ddf34a9c0017e4ab854dd05eb0f7817504971"), looks := true }, kinds := [], alts := [], laidByText := true, laidKinds := [.data, .data, .data, .data, .sentinel, .sentinel, .pinned], laidTests := true, laidLooks := .later }
def StampBackCardSaid : Prop := Claim7.holds Tryd.pinned (.plain (OpenSpec.ofChange stampBackSpec)) stampBackCard

/-- THE TIED CARD OF 'recensionlaw05.StampBounds'. -/
def stampBoundsCard : Claim7 := { stood := { row := stampBoundsRow, standIns := [], harness := (true, "33c38bd5ab21cd8862e3cf6e703ddf34a9c0017e4ab854dd05eb0f7817504971"), looks := true }, kinds := [], alts := [], laidByText := true, laidKinds := [.data, .data, .data, .data, .sentinel, .sentinel, .pinned], laidTests := true, laidLooks := .later }
def StampBoundsCardSaid : Prop := Claim7.holds Tryd.pinned (.plain (OpenSpec.ofChange stampBoundsSpec)) stampBoundsCard

/-- THE TIED CARD OF 'recensionlaw05.StampSame'. -/
def stampSameCard : Claim7 := { stood := { row := stampSameRow, standIns := [], harness := (true, "33c38bd5ab21cd8862e3cf6e703ddf34a9c0017e4ab854dd05eb0f7817504971"), looks := true }, kinds := [], alts := [], laidByText := true, laidKinds := [.data, .data, .data, .data, .sentinel, .sentinel, .pinned], laidTests := true, laidLooks := .later }
def StampSameCardSaid : Prop := Claim7.holds Tryd.pinned (.plain (OpenSpec.ofChange stampSameSpec)) stampSameCard

/-- THE SECOND FORM's CARD OF 'recensionlaw05.StampCmps'. -/
def stampCmpsUptoCard : Claim7 := { stood := { row := stampCmpsUptoRow, standIns := [], harness := (true, "33c38bd5ab21cd8862e3cf6e703ddf34a9c0017e4ab854dd05eb0f7817504971"), looks := true }, kinds := [], alts := [], laidByText := true, laidKinds := [.data, .data, .data, .data, .sentinel, .sentinel, .pinned], laidTests := true, laidLooks := .later }
def StampCmpsUptoCardSaid : Prop := Claim7.holds Tryd.pinned (.plain (OpenSpec.upto stampCmpsSpec)) stampCmpsUptoCard

/-- THE SECOND FORM's CARD OF 'recensionlaw05.StampTexts'. -/
def stampTextsUptoCard : Claim7 := { stood := { row := stampTextsUptoRow, standIns := [], harness := (true, "33c38bd5ab21cd8862e3cf6e703ddf34a9c0017e4ab854dd05eb0f7817504971"), looks := true }, kinds := [], alts := [], laidByText := true, laidKinds := [.data, .data, .data, .data, .sentinel, .sentinel, .pinned], laidTests := true, laidLooks := .later }
def StampTextsUptoCardSaid : Prop := Claim7.holds Tryd.pinned (.plain (OpenSpec.upto stampTextsSpec)) stampTextsUptoCard

/-- THE SECOND FORM's CARD OF 'recensionlaw05.StampVectors'. -/
def stampVectorsUptoCard : Claim7 := { stood := { row := stampVectorsUptoRow, standIns := [], harness := (true, "33c38bd5ab21cd8862e3cf6e703ddf34a9c0017e4ab854dd05eb0f7817504971"), looks := true }, kinds := [], alts := [], laidByText := true, laidKinds := [.data, .data, .data, .data, .sentinel, .sentinel, .pinned], laidTests := true, laidLooks := .later }
def StampVectorsUptoCardSaid : Prop := Claim7.holds Tryd.pinned (.plain (OpenSpec.upto stampVectorsSpec)) stampVectorsUptoCard

/-- THE SECOND FORM's CARD OF 'recensionlaw05.StampOrder'. -/
def stampOrderUptoCard : Claim7 := { stood := { row := stampOrderUptoRow, standIns := [], harness := (true, "33c38bd5ab21cd8862e3cf6e703ddf34a9c0017e4ab854dd05eb0f7817504971"), looks := true }, kinds := [], alts := [], laidByText := true, laidKinds := [.data, .data, .data, .data, .sentinel, .sentinel, .pinned], laidTests := true, laidLooks := .later }
def StampOrderUptoCardSaid : Prop := Claim7.holds Tryd.pinned (.plain (OpenSpec.upto stampOrderSpec)) stampOrderUptoCard

/-- THE SECOND FORM's CARD OF 'recensionlaw05.StampBack'. -/
def stampBackUptoCard : Claim7 := { stood := { row := stampBackUptoRow, standIns := [], harness := (true, "33c38bd5ab21cd8862e3cf6e703ddf34a9c0017e4ab854dd05eb0f7817504971"), looks := true }, kinds := [], alts := [], laidByText := true, laidKinds := [.data, .data, .data, .data, .sentinel, .sentinel, .pinned], laidTests := true, laidLooks := .later }
def StampBackUptoCardSaid : Prop := Claim7.holds Tryd.pinned (.plain (OpenSpec.upto stampBackSpec)) stampBackUptoCard

/-- THE SECOND FORM's CARD OF 'recensionlaw05.StampBounds'. -/
def stampBoundsUptoCard : Claim7 := { stood := { row := stampBoundsUptoRow, standIns := [], harness := (true, "33c38bd5ab21cd8862e3cf6e703ddf34a9c0017e4ab854dd05eb0f7817504971"), looks := true }, kinds := [], alts := [], laidByText := true, laidKinds := [.data, .data, .data, .data, .sentinel, .sentinel, .pinned], laidTests := true, laidLooks := .later }
def StampBoundsUptoCardSaid : Prop := Claim7.holds Tryd.pinned (.plain (OpenSpec.upto stampBoundsSpec)) stampBoundsUptoCard

/-- THE SECOND FORM's CARD OF 'recensionlaw05.StampSame'. -/
def stampSameUptoCard : Claim7 := { stood := { row := stampSameUptoRow, standIns := [], harness := (true, "33c38bd5ab21cd8862e3cf6e703ddf34a9c0017e4ab854dd05eb0f7817504971"), looks := true }, kinds := [], alts := [], laidByText := true, laidKinds := [.data, .data, .data, .data, .sentinel, .sentinel, .pinned], laidTests := true, laidLooks := .later }
def StampSameUptoCardSaid : Prop := Claim7.holds Tryd.pinned (.plain (OpenSpec.upto stampSameSpec)) stampSameUptoCard
end Rows
end Go.Proofs.YticiolhfoeenmaaDoor
