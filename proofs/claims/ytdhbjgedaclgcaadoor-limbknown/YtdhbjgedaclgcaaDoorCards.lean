/-
  DERIVED. GIVEN WITH THE SEED: THE CARDS: each row of YtdhbjgedaclgcaaDoorRows.lean that lists a variable, with what it lists TIED to the program's text (the seventh form; the later family's looks); each row that meets fmt, with fmt's text TOLD by the authors' own Lean function (tested against real Go, not proved from fmt's source: count such statements apart). THE CARD IS WHAT COUNTS. Prove the row's statement (the work); the ties are given (YtdhbjgedaclgcaaDoorTie.lean); close each card by the builder's one call (the guide's Derived/Test/ToyasCard.lean, 'card_holds'). Laid BY PROGRAM, IN A SANDBOX (cutbox-door.mjs). By AI agents, Wed Nov 11 2026. No macro, syntax, notation, axiom, sorry.
-/
import Derived.Test.YtdhbjgedaclgcaaDoorRows
import GoSem.ClaimSeven
namespace Go.Proofs.YtdhbjgedaclgcaaDoor
namespace Rows

/-- THE TIED CARD OF 'swagelaw01.LimbKnown'. -/
def limbKnownCard : Claim7 := { stood := { row := limbKnownRow, standIns := [], harness := (true, "3a187b43a02b43dc415ff22252974d6a23766c2feaeb41b8e9891a4b3b890673"), looks := false }, kinds := [], alts := [], laidByText := true, laidKinds := [.data], laidTests := true, laidLooks := .later }
def LimbKnownCardSaid : Prop := Claim7.holds Tryd.pinned (.plain (OpenSpec.ofChange limbKnownSpec)) limbKnownCard

/-- THE SECOND FORM's CARD OF 'swagelaw01.LimbKnown'. -/
def limbKnownUptoCard : Claim7 := { stood := { row := limbKnownUptoRow, standIns := [], harness := (true, "3a187b43a02b43dc415ff22252974d6a23766c2feaeb41b8e9891a4b3b890673"), looks := false }, kinds := [], alts := [], laidByText := true, laidKinds := [.data], laidTests := true, laidLooks := .later }
def LimbKnownUptoCardSaid : Prop := Claim7.holds Tryd.pinned (.plain (OpenSpec.upto limbKnownSpec)) limbKnownUptoCard
end Rows
end Go.Proofs.YtdhbjgedaclgcaaDoor
