/-
  DERIVED. GIVEN WITH THE SEED: THE CARDS: each row of YtmibgcpafccliaaDoorRows.lean that lists a variable, with what it lists TIED to the program's text (the seventh form; the later family's looks); each row that meets fmt, with fmt's text TOLD by the authors' own Lean function (tested against real Go, not proved from fmt's source: count such statements apart). THE CARD IS WHAT COUNTS. Prove the row's statement (the work); the ties are given (YtmibgcpafccliaaDoorTie.lean); close each card by the builder's one call (the guide's Derived/Test/ToyasCard.lean, 'card_holds'). Laid BY PROGRAM, IN A SANDBOX (cutbox-door.mjs). By AI agents, Wed Nov 11 2026. No macro, syntax, notation, axiom, sorry.
-/
import Derived.Test.YtmibgcpafccliaaDoorRows
import GoSem.ClaimSeven
namespace Go.Proofs.YtmibgcpafccliaaDoor
namespace Rows

/-- THE TIED CARD OF 'swagelaw01.LimbShifts'. -/
def limbShiftsCard : Claim7 := { stood := { row := limbShiftsRow, standIns := [], harness := (true, "11d10d9922a0215f502af230d97d3666e53a44068d0d18b5ab7acc7bfb940d3d"), looks := false }, kinds := [], alts := [], laidByText := true, laidKinds := [.data], laidTests := true, laidLooks := .later }
def LimbShiftsCardSaid : Prop := Claim7.holds Tryd.pinned (.plain (OpenSpec.ofChange limbShiftsSpec)) limbShiftsCard

/-- THE TIED CARD OF 'swagelaw01.LimbBack'. -/
def limbBackCard : Claim7 := { stood := { row := limbBackRow, standIns := [], harness := (true, "11d10d9922a0215f502af230d97d3666e53a44068d0d18b5ab7acc7bfb940d3d"), looks := false }, kinds := [], alts := [], laidByText := true, laidKinds := [.data], laidTests := true, laidLooks := .later }
def LimbBackCardSaid : Prop := Claim7.holds Tryd.pinned (.plain (OpenSpec.ofChange limbBackSpec)) limbBackCard

/-- THE TIED CARD OF 'swagelaw02.IntegerTwos'. -/
def integerTwosCard : Claim7 := { stood := { row := integerTwosRow, standIns := [], harness := (true, "11d10d9922a0215f502af230d97d3666e53a44068d0d18b5ab7acc7bfb940d3d"), looks := false }, kinds := [], alts := [], laidByText := true, laidKinds := [.data], laidTests := true, laidLooks := .later }
def IntegerTwosCardSaid : Prop := Claim7.holds Tryd.pinned (.plain (OpenSpec.ofChange integerTwosSpec)) integerTwosCard

/-- THE SECOND FORM's CARD OF 'swagelaw01.LimbShifts'. -/
def limbShiftsUptoCard : Claim7 := { stood := { row := limbShiftsUptoRow, standIns := [], harness := (true, "11d10d9922a0215f502af230d97d3666e53a44068d0d18b5ab7acc7bfb940d3d"), looks := false }, kinds := [], alts := [], laidByText := true, laidKinds := [.data], laidTests := true, laidLooks := .later }
def LimbShiftsUptoCardSaid : Prop := Claim7.holds Tryd.pinned (.plain (OpenSpec.upto limbShiftsSpec)) limbShiftsUptoCard

/-- THE SECOND FORM's CARD OF 'swagelaw01.LimbBack'. -/
def limbBackUptoCard : Claim7 := { stood := { row := limbBackUptoRow, standIns := [], harness := (true, "11d10d9922a0215f502af230d97d3666e53a44068d0d18b5ab7acc7bfb940d3d"), looks := false }, kinds := [], alts := [], laidByText := true, laidKinds := [.data], laidTests := true, laidLooks := .later }
def LimbBackUptoCardSaid : Prop := Claim7.holds Tryd.pinned (.plain (OpenSpec.upto limbBackSpec)) limbBackUptoCard

/-- THE SECOND FORM's CARD OF 'swagelaw02.IntegerTwos'. -/
def integerTwosUptoCard : Claim7 := { stood := { row := integerTwosUptoRow, standIns := [], harness := (true, "11d10d9922a0215f502af230d97d3666e53a44068d0d18b5ab7acc7bfb940d3d"), looks := false }, kinds := [], alts := [], laidByText := true, laidKinds := [.data], laidTests := true, laidLooks := .later }
def IntegerTwosUptoCardSaid : Prop := Claim7.holds Tryd.pinned (.plain (OpenSpec.upto integerTwosSpec)) integerTwosUptoCard
end Rows
end Go.Proofs.YtmibgcpafccliaaDoor
