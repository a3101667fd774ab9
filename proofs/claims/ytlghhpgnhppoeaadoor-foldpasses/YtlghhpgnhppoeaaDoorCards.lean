/-
  DERIVED. GIVEN WITH THE SEED: THE CARDS: each row of YtlghhpgnhppoeaaDoorRows.lean that lists a variable, with what it lists TIED to the program's text (the seventh form; the later family's looks); each row that meets fmt, with fmt's text TOLD by the authors' own Lean function (tested against real Go, not proved from fmt's source: count such statements apart). THE CARD IS WHAT COUNTS. Prove the row's statement (the work); the ties are given (YtlghhpgnhppoeaaDoorTie.lean); close each card by the builder's one call (the guide's Derived/Test/ToyasCard.lean, 'card_holds'). Laid BY PROGRAM, IN A SANDBOX (cutbox-door.mjs). By AI agents, Wed Nov 11 2026. No macro, syntax, notation, axiom, sorry.
-/
import Derived.Test.YtlghhpgnhppoeaaDoorRows
import GoSem.ClaimSeven
namespace Go.Proofs.YtlghhpgnhppoeaaDoor
namespace Rows

/-- THE TIED CARD OF 'swagelaw13.FoldKnown'. -/
def foldKnownCard : Claim7 := { stood := { row := foldKnownRow, standIns := [], harness := (true, "b0b06ba16ffdebe7fcdd470a89aaa3771205b3f78b9baa048987ffe11007fa39"), looks := false }, kinds := [], alts := [], laidByText := true, laidKinds := [.data, .data], laidTests := true, laidLooks := .later }
def FoldKnownCardSaid : Prop := Claim7.holds Tryd.pinned (.plain (OpenSpec.ofChange foldKnownSpec)) foldKnownCard

/-- THE TIED CARD OF 'swagelaw13.FoldPasses'. -/
def foldPassesCard : Claim7 := { stood := { row := foldPassesRow, standIns := [], harness := (true, "b0b06ba16ffdebe7fcdd470a89aaa3771205b3f78b9baa048987ffe11007fa39"), looks := false }, kinds := [], alts := [], laidByText := true, laidKinds := [.data, .data], laidTests := true, laidLooks := .later }
def FoldPassesCardSaid : Prop := Claim7.holds Tryd.pinned (.plain (OpenSpec.ofChange foldPassesSpec)) foldPassesCard

/-- THE SECOND FORM's CARD OF 'swagelaw13.FoldKnown'. -/
def foldKnownUptoCard : Claim7 := { stood := { row := foldKnownUptoRow, standIns := [], harness := (true, "b0b06ba16ffdebe7fcdd470a89aaa3771205b3f78b9baa048987ffe11007fa39"), looks := false }, kinds := [], alts := [], laidByText := true, laidKinds := [.data, .data], laidTests := true, laidLooks := .later }
def FoldKnownUptoCardSaid : Prop := Claim7.holds Tryd.pinned (.plain (OpenSpec.upto foldKnownSpec)) foldKnownUptoCard

/-- THE SECOND FORM's CARD OF 'swagelaw13.FoldPasses'. -/
def foldPassesUptoCard : Claim7 := { stood := { row := foldPassesUptoRow, standIns := [], harness := (true, "b0b06ba16ffdebe7fcdd470a89aaa3771205b3f78b9baa048987ffe11007fa39"), looks := false }, kinds := [], alts := [], laidByText := true, laidKinds := [.data, .data], laidTests := true, laidLooks := .later }
def FoldPassesUptoCardSaid : Prop := Claim7.holds Tryd.pinned (.plain (OpenSpec.upto foldPassesSpec)) foldPassesUptoCard
end Rows
end Go.Proofs.YtlghhpgnhppoeaaDoor
