/-
  No cell of these rows narrows 'for every input' (looked for: loops, veiled, ifaces, maps, wideKeys, modest, calm, conditions, laid).
  DERIVED. THE GIVEN ROWS OF THIS SEAT. 5 by the template 'for every input the law returns true; each argument reads behind the call as it read before'; 0 by the template 'total and deterministic' (their statements: YtcciojlbfaanmaaTotals.lean).
  GIVEN WITH THE SEED: the statements are not yours to turn. If you find one false, say at which input.
  Laid BY PROGRAM, IN A SANDBOX (cutbox-rows.mjs): the forced cells as the released guide's own fill.sh prints them over the translation 12b2cc8e09afc3bd… (all of the seat's roots in one cut). By AI agents, Wed Nov 11 2026. No macro, syntax, notation, axiom, sorry.
-/
import Derived.Test.YtcciojlbfaanmaaChecked
import GoSem.Claim
import GoSem.ClaimJoined
import GoSem.ClaimMapViews
import Derived.JoinedTies
import Derived.KernelRfl
namespace Go.Proofs.Ytcciojlbfaanmaa
/- THE CELL 'sum', in the pinned program and in every row, IS THE sha256 OF THE DUMP (.gsa) THAT YtcciojlbfaanmaaProg.lean LOADS. Nothing in Lean hashes anything: it is a label: what it is worth is what the hold of that sum in a sandbox is worth. -/
noncomputable def Try.pinned : Pinned := { name := "ytcciojlbfaanmaa", sum := "12b2cc8e09afc3bdf66662fede0979f421998b293d595cc07a450444ad260725", checked := Try.checked }
namespace Rows
def none {H : Type} : Left H := { results := [], args := [] }

/-- 'swagelaw14.SharePass': WHATEVER THE INPUT: true; the input reads as it did. -/
def sharePassSpec : ChangeSpec := { name := "sharePass", fn := fun _ => fun
  | [d] => { results := [.lit (.bool true)], args := [d] }
  | _ => none }
def sharePassRow : OpenClaim := { program := "ytcciojlbfaanmaa", sum := "12b2cc8e09afc3bdf66662fede0979f421998b293d595cc07a450444ad260725", func := "swage/swagelaw14.SharePass", spec := "sharePass", plainKeys := false, apart := false }
def SharePassSaid : Prop := sharePassRow.holds Try.pinned (OpenSpec.ofChange sharePassSpec)

/-- ITS FALSE NEIGHBOUR: 'it returns false'. Refute it at one input. -/
def sharePassWrong : ChangeSpec := { name := "sharePass", fn := fun _ => fun
  | [d] => { results := [.lit (.bool false)], args := [d] }
  | _ => none }
def SharePassWrongFalsely : Prop := sharePassRow.holds Try.pinned (OpenSpec.ofChange sharePassWrong)

/-- 'swagelaw14.ShareValues': WHATEVER THE INPUT: true; the input reads as it did. -/
def shareValuesSpec : ChangeSpec := { name := "shareValues", fn := fun _ => fun
  | [d1, d2] => { results := [.lit (.bool true)], args := [d1, d2] }
  | _ => none }
def shareValuesRow : OpenClaim := { program := "ytcciojlbfaanmaa", sum := "12b2cc8e09afc3bdf66662fede0979f421998b293d595cc07a450444ad260725", func := "swage/swagelaw14.ShareValues", spec := "shareValues", unfollowed := true, recurses := true, plainKeys := false, apart := false }
def ShareValuesSaid : Prop := shareValuesRow.holds Try.pinned (OpenSpec.ofChange shareValuesSpec)

/-- ITS FALSE NEIGHBOUR: 'it returns false'. Refute it at one input. -/
def shareValuesWrong : ChangeSpec := { name := "shareValues", fn := fun _ => fun
  | [d1, d2] => { results := [.lit (.bool false)], args := [d1, d2] }
  | _ => none }
def ShareValuesWrongFalsely : Prop := shareValuesRow.holds Try.pinned (OpenSpec.ofChange shareValuesWrong)

/-- 'swagelaw15.DeadKnown': WHATEVER THE INPUT: true; the input reads as it did. -/
def deadKnownSpec : ChangeSpec := { name := "deadKnown", fn := fun _ => fun
  | [] => { results := [.lit (.bool true)], args := [] }
  | _ => none }
def deadKnownRow : OpenClaim := { program := "ytcciojlbfaanmaa", sum := "12b2cc8e09afc3bdf66662fede0979f421998b293d595cc07a450444ad260725", func := "swage/swagelaw15.DeadKnown", spec := "deadKnown", unfollowed := true, recurses := true, plainKeys := false, apart := false }
def DeadKnownSaid : Prop := deadKnownRow.holds Try.pinned (OpenSpec.ofChange deadKnownSpec)

/-- ITS FALSE NEIGHBOUR: 'it returns false'. Refute it at one input. -/
def deadKnownWrong : ChangeSpec := { name := "deadKnown", fn := fun _ => fun
  | [] => { results := [.lit (.bool false)], args := [] }
  | _ => none }
def DeadKnownWrongFalsely : Prop := deadKnownRow.holds Try.pinned (OpenSpec.ofChange deadKnownWrong)

/-- 'swagelaw15.DeadPasses': WHATEVER THE INPUT: true; the input reads as it did. -/
def deadPassesSpec : ChangeSpec := { name := "deadPasses", fn := fun _ => fun
  | [d1, d2] => { results := [.lit (.bool true)], args := [d1, d2] }
  | _ => none }
def deadPassesRow : OpenClaim := { program := "ytcciojlbfaanmaa", sum := "12b2cc8e09afc3bdf66662fede0979f421998b293d595cc07a450444ad260725", func := "swage/swagelaw15.DeadPasses", spec := "deadPasses", unfollowed := true, recurses := true, plainKeys := false, apart := false }
def DeadPassesSaid : Prop := deadPassesRow.holds Try.pinned (OpenSpec.ofChange deadPassesSpec)

/-- ITS FALSE NEIGHBOUR: 'it returns false'. Refute it at one input. -/
def deadPassesWrong : ChangeSpec := { name := "deadPasses", fn := fun _ => fun
  | [d1, d2] => { results := [.lit (.bool false)], args := [d1, d2] }
  | _ => none }
def DeadPassesWrongFalsely : Prop := deadPassesRow.holds Try.pinned (OpenSpec.ofChange deadPassesWrong)

/-- 'swagelaw15.DeadAgain': WHATEVER THE INPUT: true; the input reads as it did. -/
def deadAgainSpec : ChangeSpec := { name := "deadAgain", fn := fun _ => fun
  | [d] => { results := [.lit (.bool true)], args := [d] }
  | _ => none }
def deadAgainRow : OpenClaim := { program := "ytcciojlbfaanmaa", sum := "12b2cc8e09afc3bdf66662fede0979f421998b293d595cc07a450444ad260725", func := "swage/swagelaw15.DeadAgain", spec := "deadAgain", unfollowed := true, recurses := true, plainKeys := false, apart := false }
def DeadAgainSaid : Prop := deadAgainRow.holds Try.pinned (OpenSpec.ofChange deadAgainSpec)

/-- ITS FALSE NEIGHBOUR: 'it returns false'. Refute it at one input. -/
def deadAgainWrong : ChangeSpec := { name := "deadAgain", fn := fun _ => fun
  | [d] => { results := [.lit (.bool false)], args := [d] }
  | _ => none }
def DeadAgainWrongFalsely : Prop := deadAgainRow.holds Try.pinned (OpenSpec.ofChange deadAgainWrong)

/- THE SECOND FORM. 'bulk': how many values and letters a reading holds, each counted each time it is reached (what is shared counts as often as it is met; a slice's spare places count too). A statement '..UptoSaid' is the law's where the arguments, and the package variables that the reading takes, are together of bulk at most 1048576: NARROWER than '..Said'. Prove '..Said' where nothing that the law and all that it calls make is longer than what came in: it says more and counts as full. Else prove '..UptoSaid'. A law counts once. -/
mutual
def uptoBulk {H : Type} : DataW H → Nat
  | .lit (.string bytes) => bytes.length + 1
  | .lit _ => 1
  | .nil => 1
  | .ptr d => uptoBulk d + 1
  | .slice elems spare => uptoBulkAll elems + uptoBulkAll spare + 1
  | .agg parts => uptoBulkAll parts + 1
  | .iface _ d => uptoBulk d + 1
  | .map entries => uptoBulkEntries entries + 1
  | .held _ => 1
def uptoBulkAll {H : Type} : List (DataW H) → Nat
  | [] => 0
  | d :: r => uptoBulk d + uptoBulkAll r
def uptoBulkEntries {H : Type} : List (Lit × DataW H) → Nat
  | [] => 0
  | x :: r => uptoBulkEntry x + uptoBulkEntries r
def uptoBulkEntry {H : Type} : Lit × DataW H → Nat
  | (.string bytes, d) => bytes.length + uptoBulk d + 1
  | (_, d) => uptoBulk d + 1
 end
def uptoSmall : (H : Type) → List (DataW H) → Bool := fun _ ds => decide (uptoBulkAll ds ≤ 1048576)
def OpenSpec.upto (s : _root_.Go.ChangeSpec) : _root_.Go.OpenSpec := { _root_.Go.OpenSpec.ofChange s with cond := some uptoSmall }

/-- 'swagelaw14.SharePass', WHERE WHAT IT READS IS OF BULK AT MOST 1048576: true; the input reads as it did. -/
def sharePassUptoRow : OpenClaim := { program := "ytcciojlbfaanmaa", sum := "12b2cc8e09afc3bdf66662fede0979f421998b293d595cc07a450444ad260725", func := "swage/swagelaw14.SharePass", spec := "sharePass", plainKeys := false, apart := false, narrowed := true }
def SharePassUptoSaid : Prop := sharePassUptoRow.holds Try.pinned (OpenSpec.upto sharePassSpec)

/-- 'swagelaw14.ShareValues', WHERE WHAT IT READS IS OF BULK AT MOST 1048576: true; the input reads as it did. -/
def shareValuesUptoRow : OpenClaim := { program := "ytcciojlbfaanmaa", sum := "12b2cc8e09afc3bdf66662fede0979f421998b293d595cc07a450444ad260725", func := "swage/swagelaw14.ShareValues", spec := "shareValues", unfollowed := true, recurses := true, plainKeys := false, apart := false, narrowed := true }
def ShareValuesUptoSaid : Prop := shareValuesUptoRow.holds Try.pinned (OpenSpec.upto shareValuesSpec)

/-- 'swagelaw15.DeadKnown', WHERE WHAT IT READS IS OF BULK AT MOST 1048576: true; the input reads as it did. -/
def deadKnownUptoRow : OpenClaim := { program := "ytcciojlbfaanmaa", sum := "12b2cc8e09afc3bdf66662fede0979f421998b293d595cc07a450444ad260725", func := "swage/swagelaw15.DeadKnown", spec := "deadKnown", unfollowed := true, recurses := true, plainKeys := false, apart := false, narrowed := true }
def DeadKnownUptoSaid : Prop := deadKnownUptoRow.holds Try.pinned (OpenSpec.upto deadKnownSpec)

/-- 'swagelaw15.DeadPasses', WHERE WHAT IT READS IS OF BULK AT MOST 1048576: true; the input reads as it did. -/
def deadPassesUptoRow : OpenClaim := { program := "ytcciojlbfaanmaa", sum := "12b2cc8e09afc3bdf66662fede0979f421998b293d595cc07a450444ad260725", func := "swage/swagelaw15.DeadPasses", spec := "deadPasses", unfollowed := true, recurses := true, plainKeys := false, apart := false, narrowed := true }
def DeadPassesUptoSaid : Prop := deadPassesUptoRow.holds Try.pinned (OpenSpec.upto deadPassesSpec)

/-- 'swagelaw15.DeadAgain', WHERE WHAT IT READS IS OF BULK AT MOST 1048576: true; the input reads as it did. -/
def deadAgainUptoRow : OpenClaim := { program := "ytcciojlbfaanmaa", sum := "12b2cc8e09afc3bdf66662fede0979f421998b293d595cc07a450444ad260725", func := "swage/swagelaw15.DeadAgain", spec := "deadAgain", unfollowed := true, recurses := true, plainKeys := false, apart := false, narrowed := true }
def DeadAgainUptoSaid : Prop := deadAgainUptoRow.holds Try.pinned (OpenSpec.upto deadAgainSpec)

end Rows
end Go.Proofs.Ytcciojlbfaanmaa
