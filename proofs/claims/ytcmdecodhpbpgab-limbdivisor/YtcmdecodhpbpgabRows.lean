/-
  No cell of these rows narrows 'for every input' (looked for: loops, veiled, ifaces, maps, wideKeys, modest, calm, conditions, laid).
  DERIVED. THE GIVEN ROWS OF THIS SEAT. 4 by the template 'for every input the law returns true; each argument reads behind the call as it read before'; 0 by the template 'total and deterministic' (their statements: YtcmdecodhpbpgabTotals.lean).
  GIVEN WITH THE SEED: the statements are not yours to turn. If you find one false, say at which input.
  Laid BY PROGRAM, IN A SANDBOX (cutbox-rows.mjs): the forced cells as the released guide's own fill.sh prints them over the translation 7442f53cd102e1cb… (all of the seat's roots in one cut). By AI agents, Wed Nov 11 2026. No macro, syntax, notation, axiom, sorry.
-/
import Derived.Test.YtcmdecodhpbpgabChecked
import GoSem.Claim
import GoSem.ClaimJoined
import GoSem.ClaimMapViews
import Derived.JoinedTies
import Derived.KernelRfl
namespace Go.Proofs.Ytcmdecodhpbpgab
/- THE CELL 'sum', in the pinned program and in every row, IS THE sha256 OF THE DUMP (.gsa) THAT YtcmdecodhpbpgabProg.lean LOADS. Nothing in Lean hashes anything: it is a label: what it is worth is what the hold of that sum in a sandbox is worth. -/
noncomputable def Try.pinned : Pinned := { name := "ytcmdecodhpbpgab", sum := "7442f53cd102e1cb79abc9f366d26274a2300ac57c03744977e6d03c1b6758b7", checked := Try.checked }
namespace Rows
def none {H : Type} : Left H := { results := [], args := [] }

/-- 'swagelaw01.LimbTexts': WHATEVER THE INPUT: true; the input reads as it did. -/
def limbTextsSpec : ChangeSpec := { name := "limbTexts", fn := fun _ => fun
  | [d1, d2, d3] => { results := [.lit (.bool true)], args := [d1, d2, d3] }
  | _ => none }
def limbTextsRow : OpenClaim := { program := "ytcmdecodhpbpgab", sum := "7442f53cd102e1cb79abc9f366d26274a2300ac57c03744977e6d03c1b6758b7", func := "swage/swagelaw01.LimbTexts", spec := "limbTexts", unfollowed := true, recurses := true, apart := false }
def LimbTextsSaid : Prop := limbTextsRow.holds Try.pinned (OpenSpec.ofChange limbTextsSpec)

/-- ITS FALSE NEIGHBOUR: 'it returns false'. Refute it at one input. -/
def limbTextsWrong : ChangeSpec := { name := "limbTexts", fn := fun _ => fun
  | [d1, d2, d3] => { results := [.lit (.bool false)], args := [d1, d2, d3] }
  | _ => none }
def LimbTextsWrongFalsely : Prop := limbTextsRow.holds Try.pinned (OpenSpec.ofChange limbTextsWrong)

/-- 'swagelaw01.LimbRing': WHATEVER THE INPUT: true; the input reads as it did. -/
def limbRingSpec : ChangeSpec := { name := "limbRing", fn := fun _ => fun
  | [d1, d2, d3] => { results := [.lit (.bool true)], args := [d1, d2, d3] }
  | _ => none }
def limbRingRow : OpenClaim := { program := "ytcmdecodhpbpgab", sum := "7442f53cd102e1cb79abc9f366d26274a2300ac57c03744977e6d03c1b6758b7", func := "swage/swagelaw01.LimbRing", spec := "limbRing", unfollowed := true, recurses := true, apart := false }
def LimbRingSaid : Prop := limbRingRow.holds Try.pinned (OpenSpec.ofChange limbRingSpec)

/-- ITS FALSE NEIGHBOUR: 'it returns false'. Refute it at one input. -/
def limbRingWrong : ChangeSpec := { name := "limbRing", fn := fun _ => fun
  | [d1, d2, d3] => { results := [.lit (.bool false)], args := [d1, d2, d3] }
  | _ => none }
def LimbRingWrongFalsely : Prop := limbRingRow.holds Try.pinned (OpenSpec.ofChange limbRingWrong)

/-- 'swagelaw01.LimbWhole': WHATEVER THE INPUT: true; the input reads as it did. -/
def limbWholeSpec : ChangeSpec := { name := "limbWhole", fn := fun _ => fun
  | [d1, d2, d3] => { results := [.lit (.bool true)], args := [d1, d2, d3] }
  | _ => none }
def limbWholeRow : OpenClaim := { program := "ytcmdecodhpbpgab", sum := "7442f53cd102e1cb79abc9f366d26274a2300ac57c03744977e6d03c1b6758b7", func := "swage/swagelaw01.LimbWhole", spec := "limbWhole", unfollowed := true, recurses := true, apart := false }
def LimbWholeSaid : Prop := limbWholeRow.holds Try.pinned (OpenSpec.ofChange limbWholeSpec)

/-- ITS FALSE NEIGHBOUR: 'it returns false'. Refute it at one input. -/
def limbWholeWrong : ChangeSpec := { name := "limbWhole", fn := fun _ => fun
  | [d1, d2, d3] => { results := [.lit (.bool false)], args := [d1, d2, d3] }
  | _ => none }
def LimbWholeWrongFalsely : Prop := limbWholeRow.holds Try.pinned (OpenSpec.ofChange limbWholeWrong)

/-- 'swagelaw01.LimbDivisor': WHATEVER THE INPUT: true; the input reads as it did. -/
def limbDivisorSpec : ChangeSpec := { name := "limbDivisor", fn := fun _ => fun
  | [d1, d2, d3] => { results := [.lit (.bool true)], args := [d1, d2, d3] }
  | _ => none }
def limbDivisorRow : OpenClaim := { program := "ytcmdecodhpbpgab", sum := "7442f53cd102e1cb79abc9f366d26274a2300ac57c03744977e6d03c1b6758b7", func := "swage/swagelaw01.LimbDivisor", spec := "limbDivisor", unfollowed := true, recurses := true, apart := false }
def LimbDivisorSaid : Prop := limbDivisorRow.holds Try.pinned (OpenSpec.ofChange limbDivisorSpec)

/-- ITS FALSE NEIGHBOUR: 'it returns false'. Refute it at one input. -/
def limbDivisorWrong : ChangeSpec := { name := "limbDivisor", fn := fun _ => fun
  | [d1, d2, d3] => { results := [.lit (.bool false)], args := [d1, d2, d3] }
  | _ => none }
def LimbDivisorWrongFalsely : Prop := limbDivisorRow.holds Try.pinned (OpenSpec.ofChange limbDivisorWrong)

/- THE SECOND FORM. 'bulk': how many values and letters a reading holds, each counted each time it is reached (what is shared counts as often as it is met; a slice's spare places count too). A statement '..UptoSaid' is the law's where the arguments, and the package variables that the reading takes, are together of bulk at most 1048576: NARROWER than '..Said'. Prove '..Said' where nothing that the law and all that it calls make is longer than what came in: it says more and counts as full. Else prove '..UptoSaid'. A law counts once. -/
mutual
def uptoBulk {H : Type} : DataW H → Nat
  | .lit (.string bytes) => bytes.length + 1
  | .lit _ => 1
  | .nil => 1
  | .ptr d => uptoBulk d + 1
  | .slice elems spare => uptoBulkAll elems + uptoBulkAll spare + 1
  | .agg parts => uptoBulkAll parts + 1
  | .iface _ d => uptoBulk d + 1
  | .map entries => uptoBulkEntries entries + 1
  | .held _ => 1
def uptoBulkAll {H : Type} : List (DataW H) → Nat
  | [] => 0
  | d :: r => uptoBulk d + uptoBulkAll r
def uptoBulkEntries {H : Type} : List (Lit × DataW H) → Nat
  | [] => 0
  | x :: r => uptoBulkEntry x + uptoBulkEntries r
def uptoBulkEntry {H : Type} : Lit × DataW H → Nat
  | (.string bytes, d) => bytes.length + uptoBulk d + 1
  | (_, d) => uptoBulk d + 1
 end
def uptoSmall : (H : Type) → List (DataW H) → Bool := fun _ ds => decide (uptoBulkAll ds ≤ 1048576)
def OpenSpec.upto (s : _root_.Go.ChangeSpec) : _root_.Go.OpenSpec := { _root_.Go.OpenSpec.ofChange s with cond := some uptoSmall }

/-- 'swagelaw01.LimbTexts', WHERE WHAT IT READS IS OF BULK AT MOST 1048576: true; the input reads as it did. -/
def limbTextsUptoRow : OpenClaim := { program := "ytcmdecodhpbpgab", sum := "7442f53cd102e1cb79abc9f366d26274a2300ac57c03744977e6d03c1b6758b7", func := "swage/swagelaw01.LimbTexts", spec := "limbTexts", unfollowed := true, recurses := true, apart := false, narrowed := true }
def LimbTextsUptoSaid : Prop := limbTextsUptoRow.holds Try.pinned (OpenSpec.upto limbTextsSpec)

/-- 'swagelaw01.LimbRing', WHERE WHAT IT READS IS OF BULK AT MOST 1048576: true; the input reads as it did. -/
def limbRingUptoRow : OpenClaim := { program := "ytcmdecodhpbpgab", sum := "7442f53cd102e1cb79abc9f366d26274a2300ac57c03744977e6d03c1b6758b7", func := "swage/swagelaw01.LimbRing", spec := "limbRing", unfollowed := true, recurses := true, apart := false, narrowed := true }
def LimbRingUptoSaid : Prop := limbRingUptoRow.holds Try.pinned (OpenSpec.upto limbRingSpec)

/-- 'swagelaw01.LimbWhole', WHERE WHAT IT READS IS OF BULK AT MOST 1048576: true; the input reads as it did. -/
def limbWholeUptoRow : OpenClaim := { program := "ytcmdecodhpbpgab", sum := "7442f53cd102e1cb79abc9f366d26274a2300ac57c03744977e6d03c1b6758b7", func := "swage/swagelaw01.LimbWhole", spec := "limbWhole", unfollowed := true, recurses := true, apart := false, narrowed := true }
def LimbWholeUptoSaid : Prop := limbWholeUptoRow.holds Try.pinned (OpenSpec.upto limbWholeSpec)

/-- 'swagelaw01.LimbDivisor', WHERE WHAT IT READS IS OF BULK AT MOST 1048576: true; the input reads as it did. -/
def limbDivisorUptoRow : OpenClaim := { program := "ytcmdecodhpbpgab", sum := "7442f53cd102e1cb79abc9f366d26274a2300ac57c03744977e6d03c1b6758b7", func := "swage/swagelaw01.LimbDivisor", spec := "limbDivisor", unfollowed := true, recurses := true, apart := false, narrowed := true }
def LimbDivisorUptoSaid : Prop := limbDivisorUptoRow.holds Try.pinned (OpenSpec.upto limbDivisorSpec)

end Rows
end Go.Proofs.Ytcmdecodhpbpgab
