/-
  No cell of these rows narrows 'for every input' (looked for: loops, veiled, ifaces, maps, wideKeys, modest, calm, conditions, laid).
  DERIVED. THE GIVEN ROWS OF THIS SEAT. 4 by the template 'for every input the law returns true; each argument reads behind the call as it read before'; 0 by the template 'total and deterministic' (their statements: YtapodkjmhenceaaTotals.lean).
  GIVEN WITH THE SEED: the statements are not yours to turn. If you find one false, say at which input.
  Laid BY PROGRAM, IN A SANDBOX (cutbox-rows.mjs): the forced cells as the released guide's own fill.sh prints them over the translation 752ff79d7cd01e20… (all of the seat's roots in one cut). By AI agents, Wed Nov 11 2026. No macro, syntax, notation, axiom, sorry.
-/
import Derived.Test.YtapodkjmhenceaaChecked
import GoSem.Claim
import GoSem.ClaimJoined
import GoSem.ClaimMapViews
import Derived.JoinedTies
import Derived.KernelRfl
namespace Go.Proofs.Ytapodkjmhenceaa
/- THE CELL 'sum', in the pinned program and in every row, IS THE sha256 OF THE DUMP (.gsa) THAT YtapodkjmhenceaaProg.lean LOADS. Nothing in Lean hashes anything: it is a label: what it is worth is what the hold of that sum in a sandbox is worth. -/
noncomputable def Try.pinned : Pinned := { name := "ytapodkjmhenceaa", sum := "752ff79d7cd01e2068bd9e50b24e1ff3eb6095b74396f59c53fa38e976e9e43d", checked := Try.checked }
namespace Rows
def none {H : Type} : Left H := { results := [], args := [] }

/-- 'swagelaw03.RatioMany': WHATEVER THE INPUT: true; the input reads as it did. -/
def ratioManySpec : ChangeSpec := { name := "ratioMany", fn := fun _ => fun
  | [d] => { results := [.lit (.bool true)], args := [d] }
  | _ => none }
def ratioManyRow : OpenClaim := { program := "ytapodkjmhenceaa", sum := "752ff79d7cd01e2068bd9e50b24e1ff3eb6095b74396f59c53fa38e976e9e43d", func := "swage/swagelaw03.RatioMany", spec := "ratioMany", unfollowed := true, recurses := true, plainKeys := false, apart := false }
def RatioManySaid : Prop := ratioManyRow.holds Try.pinned (OpenSpec.ofChange ratioManySpec)

/-- ITS FALSE NEIGHBOUR: 'it returns false'. Refute it at one input. -/
def ratioManyWrong : ChangeSpec := { name := "ratioMany", fn := fun _ => fun
  | [d] => { results := [.lit (.bool false)], args := [d] }
  | _ => none }
def RatioManyWrongFalsely : Prop := ratioManyRow.holds Try.pinned (OpenSpec.ofChange ratioManyWrong)

/-- 'swagelaw03.RatioReads': WHATEVER THE INPUT: true; the input reads as it did. -/
def ratioReadsSpec : ChangeSpec := { name := "ratioReads", fn := fun _ => fun
  | [d] => { results := [.lit (.bool true)], args := [d] }
  | _ => none }
def ratioReadsRow : OpenClaim := { program := "ytapodkjmhenceaa", sum := "752ff79d7cd01e2068bd9e50b24e1ff3eb6095b74396f59c53fa38e976e9e43d", func := "swage/swagelaw03.RatioReads", spec := "ratioReads", inPlace := ["internal/bytealg.IndexByteString", "internal/bytealg.IndexString"], unfollowed := true, recurses := true, named := ["internal/bytealg.MaxLen"], plainKeys := false, apart := false }
def RatioReadsSaid : Prop := ratioReadsRow.holds Try.pinned (OpenSpec.ofChange ratioReadsSpec)

/-- ITS FALSE NEIGHBOUR: 'it returns false'. Refute it at one input. -/
def ratioReadsWrong : ChangeSpec := { name := "ratioReads", fn := fun _ => fun
  | [d] => { results := [.lit (.bool false)], args := [d] }
  | _ => none }
def RatioReadsWrongFalsely : Prop := ratioReadsRow.holds Try.pinned (OpenSpec.ofChange ratioReadsWrong)

/-- 'swagelaw06.PointPowers': WHATEVER THE INPUT: true; the input reads as it did. -/
def pointPowersSpec : ChangeSpec := { name := "pointPowers", fn := fun _ => fun
  | [d1, d2, d3] => { results := [.lit (.bool true)], args := [d1, d2, d3] }
  | _ => none }
def pointPowersRow : OpenClaim := { program := "ytapodkjmhenceaa", sum := "752ff79d7cd01e2068bd9e50b24e1ff3eb6095b74396f59c53fa38e976e9e43d", func := "swage/swagelaw06.PointPowers", spec := "pointPowers", plainKeys := false, apart := false }
def PointPowersSaid : Prop := pointPowersRow.holds Try.pinned (OpenSpec.ofChange pointPowersSpec)

/-- ITS FALSE NEIGHBOUR: 'it returns false'. Refute it at one input. -/
def pointPowersWrong : ChangeSpec := { name := "pointPowers", fn := fun _ => fun
  | [d1, d2, d3] => { results := [.lit (.bool false)], args := [d1, d2, d3] }
  | _ => none }
def PointPowersWrongFalsely : Prop := pointPowersRow.holds Try.pinned (OpenSpec.ofChange pointPowersWrong)

/-- 'swagelaw12.SynthRight': WHATEVER THE INPUT: true; the input reads as it did. -/
def synthRightSpec : ChangeSpec := { name := "synthRight", fn := fun _ => fun
  | [d] => { results := [.lit (.bool true)], args := [d] }
  | _ => none }
def synthRightRow : OpenClaim := { program := "ytapodkjmhenceaa", sum := "752ff79d7cd01e2068bd9e50b24e1ff3eb6095b74396f59c53fa38e976e9e43d", func := "swage/swagelaw12.SynthRight", spec := "synthRight", recurses := true, plainKeys := false, apart := false }
def SynthRightSaid : Prop := synthRightRow.holds Try.pinned (OpenSpec.ofChange synthRightSpec)

/-- ITS FALSE NEIGHBOUR: 'it returns false'. Refute it at one input. -/
def synthRightWrong : ChangeSpec := { name := "synthRight", fn := fun _ => fun
  | [d] => { results := [.lit (.bool false)], args := [d] }
  | _ => none }
def SynthRightWrongFalsely : Prop := synthRightRow.holds Try.pinned (OpenSpec.ofChange synthRightWrong)

/- THE SECOND FORM. 'bulk': how many values and letters a reading holds, each counted each time it is reached (what is shared counts as often as it is met; a slice's spare places count too). A statement '..UptoSaid' is the law's where the arguments, and the package variables that the reading takes, are together of bulk at most 1048576: NARROWER than '..Said'. Prove '..Said' where nothing that the law and all that it calls make is longer than what came in: it says more and counts as full. Else prove '..UptoSaid'. A law counts once. -/
mutual
def uptoBulk {H : Type} : DataW H → Nat
  | .lit (.string bytes) => bytes.length + 1
  | .lit _ => 1
  | .nil => 1
  | .ptr d => uptoBulk d + 1
  | .slice elems spare => uptoBulkAll elems + uptoBulkAll spare + 1
  | .agg parts => uptoBulkAll parts + 1
  | .iface _ d => uptoBulk d + 1
  | .map entries => uptoBulkEntries entries + 1
  | .held _ => 1
def uptoBulkAll {H : Type} : List (DataW H) → Nat
  | [] => 0
  | d :: r => uptoBulk d + uptoBulkAll r
def uptoBulkEntries {H : Type} : List (Lit × DataW H) → Nat
  | [] => 0
  | x :: r => uptoBulkEntry x + uptoBulkEntries r
def uptoBulkEntry {H : Type} : Lit × DataW H → Nat
  | (.string bytes, d) => bytes.length + uptoBulk d + 1
  | (_, d) => uptoBulk d + 1
 end
def uptoSmall : (H : Type) → List (DataW H) → Bool := fun _ ds => decide (uptoBulkAll ds ≤ 1048576)
def OpenSpec.upto (s : _root_.Go.ChangeSpec) : _root_.Go.OpenSpec := { _root_.Go.OpenSpec.ofChange s with cond := some uptoSmall }

/-- 'swagelaw03.RatioMany', WHERE WHAT IT READS IS OF BULK AT MOST 1048576: true; the input reads as it did. -/
def ratioManyUptoRow : OpenClaim := { program := "ytapodkjmhenceaa", sum := "752ff79d7cd01e2068bd9e50b24e1ff3eb6095b74396f59c53fa38e976e9e43d", func := "swage/swagelaw03.RatioMany", spec := "ratioMany", unfollowed := true, recurses := true, plainKeys := false, apart := false, narrowed := true }
def RatioManyUptoSaid : Prop := ratioManyUptoRow.holds Try.pinned (OpenSpec.upto ratioManySpec)

/-- 'swagelaw03.RatioReads', WHERE WHAT IT READS IS OF BULK AT MOST 1048576: true; the input reads as it did. -/
def ratioReadsUptoRow : OpenClaim := { program := "ytapodkjmhenceaa", sum := "752ff79d7cd01e2068bd9e50b24e1ff3eb6095b74396f59c53fa38e976e9e43d", func := "swage/swagelaw03.RatioReads", spec := "ratioReads", inPlace := ["internal/bytealg.IndexByteString", "internal/bytealg.IndexString"], unfollowed := true, recurses := true, named := ["internal/bytealg.MaxLen"], plainKeys := false, apart := false, narrowed := true }
def RatioReadsUptoSaid : Prop := ratioReadsUptoRow.holds Try.pinned (OpenSpec.upto ratioReadsSpec)

/-- 'swagelaw06.PointPowers', WHERE WHAT IT READS IS OF BULK AT MOST 1048576: true; the input reads as it did. -/
def pointPowersUptoRow : OpenClaim := { program := "ytapodkjmhenceaa", sum := "752ff79d7cd01e2068bd9e50b24e1ff3eb6095b74396f59c53fa38e976e9e43d", func := "swage/swagelaw06.PointPowers", spec := "pointPowers", plainKeys := false, apart := false, narrowed := true }
def PointPowersUptoSaid : Prop := pointPowersUptoRow.holds Try.pinned (OpenSpec.upto pointPowersSpec)

/-- 'swagelaw12.SynthRight', WHERE WHAT IT READS IS OF BULK AT MOST 1048576: true; the input reads as it did. -/
def synthRightUptoRow : OpenClaim := { program := "ytapodkjmhenceaa", sum := "752ff79d7cd01e2068bd9e50b24e1ff3eb6095b74396f59c53fa38e976e9e43d", func := "swage/swagelaw12.SynthRight", spec := "synthRight", recurses := true, plainKeys := false, apart := false, narrowed := true }
def SynthRightUptoSaid : Prop := synthRightUptoRow.holds Try.pinned (OpenSpec.upto synthRightSpec)

end Rows
end Go.Proofs.Ytapodkjmhenceaa
