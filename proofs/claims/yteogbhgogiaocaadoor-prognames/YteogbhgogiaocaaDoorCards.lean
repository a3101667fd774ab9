/-
  DERIVED. GIVEN WITH THE SEED: THE CARDS: each row of YteogbhgogiaocaaDoorRows.lean that lists a variable, with what it lists TIED to the program's text (the seventh form; the later family's looks); each row that meets fmt, with fmt's text TOLD by the authors' own Lean function (tested against real Go, not proved from fmt's source: count such statements apart). THE CARD IS WHAT COUNTS. Prove the row's statement (the work); the ties are given (YteogbhgogiaocaaDoorTie.lean); close each card by the builder's one call (the guide's Derived/Test/ToyasCard.lean, 'card_holds'). Laid BY PROGRAM, IN A SANDBOX (cutbox-door.mjs). By AI agents, Wed Nov 11 2026. No macro, syntax, notation, axiom, sorry.
-/
import Derived.Test.YteogbhgogiaocaaDoorRows
import GoSem.ClaimSeven
namespace Go.Proofs.YteogbhgogiaocaaDoor
namespace Rows

/-- THE TIED CARD OF 'swagelaw02.IntegerNames'. -/
def integerNamesCard : Claim7 := { stood := { row := integerNamesRow, standIns := [], harness := (true, "1d5e7284e5202c065853260a314c50e14634df4f0df4e5f2459e0d8a4e0b530c"), looks := true }, kinds := [], alts := [], laidByText := true, laidKinds := [.data], laidTests := true, laidLooks := .later }
def IntegerNamesCardSaid : Prop := Claim7.holds Tryd.pinned (.plain (OpenSpec.ofChange integerNamesSpec)) integerNamesCard

/-- THE TIED CARD OF 'swagelaw08.ProgNames'. -/
def progNamesCard : Claim7 := { stood := { row := progNamesRow, standIns := [], harness := (true, "1d5e7284e5202c065853260a314c50e14634df4f0df4e5f2459e0d8a4e0b530c"), looks := true }, kinds := [], alts := [], laidByText := true, laidKinds := [.data, .data, .data, .data, .sentinel, .sentinel, .pinned], laidTests := true, laidLooks := .later }
def ProgNamesCardSaid : Prop := Claim7.holds Tryd.pinned (.plain (OpenSpec.ofChange progNamesSpec)) progNamesCard

/-- THE SECOND FORM's CARD OF 'swagelaw02.IntegerNames'. -/
def integerNamesUptoCard : Claim7 := { stood := { row := integerNamesUptoRow, standIns := [], harness := (true, "1d5e7284e5202c065853260a314c50e14634df4f0df4e5f2459e0d8a4e0b530c"), looks := true }, kinds := [], alts := [], laidByText := true, laidKinds := [.data], laidTests := true, laidLooks := .later }
def IntegerNamesUptoCardSaid : Prop := Claim7.holds Tryd.pinned (.plain (OpenSpec.upto integerNamesSpec)) integerNamesUptoCard

/-- THE SECOND FORM's CARD OF 'swagelaw08.ProgNames'. -/
def progNamesUptoCard : Claim7 := { stood := { row := progNamesUptoRow, standIns := [], harness := (true, "1d5e7284e5202c065853260a314c50e14634df4f0df4e5f2459e0d8a4e0b530c"), looks := true }, kinds := [], alts := [], laidByText := true, laidKinds := [.data, .data, .data, .data, .sentinel, .sentinel, .pinned], laidTests := true, laidLooks := .later }
def ProgNamesUptoCardSaid : Prop := Claim7.holds Tryd.pinned (.plain (OpenSpec.upto progNamesSpec)) progNamesUptoCard
end Rows
end Go.Proofs.YteogbhgogiaocaaDoor
