/-
  DERIVED. GIVEN WITH THE SEED: THE CARDS: each row of YtlbjkfnknkpkiaaDoorRows.lean that lists a variable, with what it lists TIED to the program's text (the seventh form; the later family's looks); each row that meets fmt, with fmt's text TOLD by the authors' own Lean function (tested against real Go, not proved from fmt's source: count such statements apart). THE CARD IS WHAT COUNTS. Prove the row's statement (the work); the ties are given (YtlbjkfnknkpkiaaDoorTie.lean); close each card by the builder's one call (the guide's Derived/Test/ToyasCard.lean, 'card_holds'). Laid BY PROGRAM, IN A SANDBOX (cutbox-door.mjs). By AI agents, Wed Nov 11 2026. No macro, syntax, notation, axiom, sorry.
-/
import Derived.Test.YtlbjkfnknkpkiaaDoorRows
import GoSem.ClaimSeven
namespace Go.Proofs.YtlbjkfnknkpkiaaDoor
namespace Rows

/-- THE TIED CARD OF 'swagelaw08.ProgChecks'. -/
def progChecksCard : Claim7 := { stood := { row := progChecksRow, standIns := [], harness := (true, "7751801deb65fc61504712b482a19cd116bec7cb4041fe8f9d6d2846b2f9f49c"), looks := false }, kinds := [], alts := [], laidByText := true, laidKinds := [.data, .data, .data], laidTests := true, laidLooks := .later }
def ProgChecksCardSaid : Prop := Claim7.holds Tryd.pinned (.plain (OpenSpec.ofChange progChecksSpec)) progChecksCard

/-- THE TIED CARD OF 'swagelaw08.ProgCopies'. -/
def progCopiesCard : Claim7 := { stood := { row := progCopiesRow, standIns := [], harness := (true, "7751801deb65fc61504712b482a19cd116bec7cb4041fe8f9d6d2846b2f9f49c"), looks := false }, kinds := [], alts := [], laidByText := true, laidKinds := [.data, .data, .data], laidTests := true, laidLooks := .later }
def ProgCopiesCardSaid : Prop := Claim7.holds Tryd.pinned (.plain (OpenSpec.ofChange progCopiesSpec)) progCopiesCard

/-- THE TIED CARD OF 'swagelaw08.ProgNeeds'. -/
def progNeedsCard : Claim7 := { stood := { row := progNeedsRow, standIns := [], harness := (true, "7751801deb65fc61504712b482a19cd116bec7cb4041fe8f9d6d2846b2f9f49c"), looks := false }, kinds := [], alts := [], laidByText := true, laidKinds := [.data, .data, .data], laidTests := true, laidLooks := .later }
def ProgNeedsCardSaid : Prop := Claim7.holds Tryd.pinned (.plain (OpenSpec.ofChange progNeedsSpec)) progNeedsCard

/-- THE TIED CARD OF 'swagelaw08.ProgJoins'. -/
def progJoinsCard : Claim7 := { stood := { row := progJoinsRow, standIns := [], harness := (true, "7751801deb65fc61504712b482a19cd116bec7cb4041fe8f9d6d2846b2f9f49c"), looks := false }, kinds := [], alts := [], laidByText := true, laidKinds := [.data, .data, .data], laidTests := true, laidLooks := .later }
def ProgJoinsCardSaid : Prop := Claim7.holds Tryd.pinned (.plain (OpenSpec.ofChange progJoinsSpec)) progJoinsCard

/-- THE TIED CARD OF 'swagelaw08.ProgBack'. -/
def progBackCard : Claim7 := { stood := { row := progBackRow, standIns := [], harness := (true, "7751801deb65fc61504712b482a19cd116bec7cb4041fe8f9d6d2846b2f9f49c"), looks := false }, kinds := [], alts := [], laidByText := true, laidKinds := [.data, .data, .data], laidTests := true, laidLooks := .later }
def ProgBackCardSaid : Prop := Claim7.holds Tryd.pinned (.plain (OpenSpec.ofChange progBackSpec)) progBackCard

/-- THE SECOND FORM's CARD OF 'swagelaw08.ProgChecks'. -/
def progChecksUptoCard : Claim7 := { stood := { row := progChecksUptoRow, standIns := [], harness := (true, "7751801deb65fc61504712b482a19cd116bec7cb4041fe8f9d6d2846b2f9f49c"), looks := false }, kinds := [], alts := [], laidByText := true, laidKinds := [.data, .data, .data], laidTests := true, laidLooks := .later }
def ProgChecksUptoCardSaid : Prop := Claim7.holds Tryd.pinned (.plain (OpenSpec.upto progChecksSpec)) progChecksUptoCard

/-- THE SECOND FORM's CARD OF 'swagelaw08.ProgCopies'. -/
def progCopiesUptoCard : Claim7 := { stood := { row := progCopiesUptoRow, standIns := [], harness := (true, "7751801deb65fc61504712b482a19cd116bec7cb4041fe8f9d6d2846b2f9f49c"), looks := false }, kinds := [], alts := [], laidByText := true, laidKinds := [.data, .data, .data], laidTests := true, laidLooks := .later }
def ProgCopiesUptoCardSaid : Prop := Claim7.holds Tryd.pinned (.plain (OpenSpec.upto progCopiesSpec)) progCopiesUptoCard

/-- THE SECOND FORM's CARD OF 'swagelaw08.ProgNeeds'. -/
def progNeedsUptoCard : Claim7 := { stood := { row := progNeedsUptoRow, standIns := [], harness := (true, "7751801deb65fc61504712b482a19cd116bec7cb4041fe8f9d6d2846b2f9f49c"), looks := false }, kinds := [], alts := [], laidByText := true, laidKinds := [.data, .data, .data], laidTests := true, laidLooks := .later }
def ProgNeedsUptoCardSaid : Prop := Claim7.holds Tryd.pinned (.plain (OpenSpec.upto progNeedsSpec)) progNeedsUptoCard

/-- THE SECOND FORM's CARD OF 'swagelaw08.ProgJoins'. -/
def progJoinsUptoCard : Claim7 := { stood := { row := progJoinsUptoRow, standIns := [], harness := (true, "7751801deb65fc61504712b482a19cd116bec7cb4041fe8f9d6d2846b2f9f49c"), looks := false }, kinds := [], alts := [], laidByText := true, laidKinds := [.data, .data, .data], laidTests := true, laidLooks := .later }
def ProgJoinsUptoCardSaid : Prop := Claim7.holds Tryd.pinned (.plain (OpenSpec.upto progJoinsSpec)) progJoinsUptoCard

/-- THE SECOND FORM's CARD OF 'swagelaw08.ProgBack'. -/
def progBackUptoCard : Claim7 := { stood := { row := progBackUptoRow, standIns := [], harness := (true, "7751801deb65fc61504712b482a19cd116bec7cb4041fe8f9d6d2846b2f9f49c"), looks := false }, kinds := [], alts := [], laidByText := true, laidKinds := [.data, .data, .data], laidTests := true, laidLooks := .later }
def ProgBackUptoCardSaid : Prop := Claim7.holds Tryd.pinned (.plain (OpenSpec.upto progBackSpec)) progBackUptoCard
end Rows
end Go.Proofs.YtlbjkfnknkpkiaaDoor
