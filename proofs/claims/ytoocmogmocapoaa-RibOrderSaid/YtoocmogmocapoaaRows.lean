/-
  No cell of these rows narrows 'for every input' (looked for: loops, veiled, ifaces, maps, wideKeys, modest, calm, conditions, laid).
  DERIVED. THE GIVEN ROWS OF THIS SEAT. 5 by the template 'for every input the law returns true; each argument reads behind the call as it read before'; 0 by the template 'total and deterministic' (their statements: YtoocmogmocapoaaTotals.lean).
  GIVEN WITH THE SEED: the statements are not yours to turn. If you find one false, say at which input.
  Laid BY PROGRAM, IN A SANDBOX (cutbox-rows.mjs): the forced cells as the released guide's own fill.sh prints them over the translation 1e32383ab64f81b7… (all of the seat's roots in one cut). By AI agents, Wed Nov 11 2026. No macro, syntax, notation, axiom, sorry.
-/
import Derived.Test.YtoocmogmocapoaaChecked
import GoSem.Claim
import GoSem.ClaimJoined
import GoSem.ClaimMapViews
import Derived.JoinedTies
import Derived.KernelRfl
namespace Go.Proofs.Ytoocmogmocapoaa
/- THE CELL 'sum', in the pinned program and in every row, IS THE sha256 OF THE DUMP (.gsa) THAT YtoocmogmocapoaaProg.lean LOADS. Nothing in Lean hashes anything: it is a label: what it is worth is what the hold of that sum in a sandbox is worth. -/
noncomputable def Try.pinned : Pinned := { name := "ytoocmogmocapoaa", sum := "1e32383ab64f81b78ce31fdbe33356f3538b9bedb4cb4929d46651b38a339a1c", checked := Try.checked }
namespace Rows
def none {H : Type} : Left H := { results := [], args := [] }

/-- 'waywardenlaw3.RibAges': WHATEVER THE INPUT: true; the input reads as it did. -/
def ribAgesSpec : ChangeSpec := { name := "ribAges", fn := fun _ => fun
  | [d1, d2, d3, d4, d5] => { results := [.lit (.bool true)], args := [d1, d2, d3, d4, d5] }
  | _ => none }
def ribAgesRow : OpenClaim := { program := "ytoocmogmocapoaa", sum := "1e32383ab64f81b78ce31fdbe33356f3538b9bedb4cb4929d46651b38a339a1c", func := "waywarden/waywardenlaw3.RibAges", spec := "ribAges", inPlace := ["internal/reflectlite.ValueOf", "internal/reflectlite.Swapper", "(internal/reflectlite.Value).Len"], unfollowed := true, recurses := true, apart := false }
def RibAgesSaid : Prop := ribAgesRow.holds Try.pinned (OpenSpec.ofChange ribAgesSpec)

/-- ITS FALSE NEIGHBOUR: 'it returns false'. Refute it at one input. -/
def ribAgesWrong : ChangeSpec := { name := "ribAges", fn := fun _ => fun
  | [d1, d2, d3, d4, d5] => { results := [.lit (.bool false)], args := [d1, d2, d3, d4, d5] }
  | _ => none }
def RibAgesWrongFalsely : Prop := ribAgesRow.holds Try.pinned (OpenSpec.ofChange ribAgesWrong)

/-- 'waywardenlaw3.RibSteps': WHATEVER THE INPUT: true; the input reads as it did. -/
def ribStepsSpec : ChangeSpec := { name := "ribSteps", fn := fun _ => fun
  | [d1, d2, d3, d4, d5] => { results := [.lit (.bool true)], args := [d1, d2, d3, d4, d5] }
  | _ => none }
def ribStepsRow : OpenClaim := { program := "ytoocmogmocapoaa", sum := "1e32383ab64f81b78ce31fdbe33356f3538b9bedb4cb4929d46651b38a339a1c", func := "waywarden/waywardenlaw3.RibSteps", spec := "ribSteps", inPlace := ["internal/reflectlite.ValueOf", "internal/reflectlite.Swapper", "(internal/reflectlite.Value).Len"], unfollowed := true, recurses := true, apart := false }
def RibStepsSaid : Prop := ribStepsRow.holds Try.pinned (OpenSpec.ofChange ribStepsSpec)

/-- ITS FALSE NEIGHBOUR: 'it returns false'. Refute it at one input. -/
def ribStepsWrong : ChangeSpec := { name := "ribSteps", fn := fun _ => fun
  | [d1, d2, d3, d4, d5] => { results := [.lit (.bool false)], args := [d1, d2, d3, d4, d5] }
  | _ => none }
def RibStepsWrongFalsely : Prop := ribStepsRow.holds Try.pinned (OpenSpec.ofChange ribStepsWrong)

/-- 'waywardenlaw3.RibOrder': WHATEVER THE INPUT: true; the input reads as it did. -/
def ribOrderSpec : ChangeSpec := { name := "ribOrder", fn := fun _ => fun
  | [d1, d2, d3, d4, d5] => { results := [.lit (.bool true)], args := [d1, d2, d3, d4, d5] }
  | _ => none }
def ribOrderRow : OpenClaim := { program := "ytoocmogmocapoaa", sum := "1e32383ab64f81b78ce31fdbe33356f3538b9bedb4cb4929d46651b38a339a1c", func := "waywarden/waywardenlaw3.RibOrder", spec := "ribOrder", inPlace := ["internal/reflectlite.ValueOf", "internal/reflectlite.Swapper", "(internal/reflectlite.Value).Len"], unfollowed := true, recurses := true, apart := false }
def RibOrderSaid : Prop := ribOrderRow.holds Try.pinned (OpenSpec.ofChange ribOrderSpec)

/-- ITS FALSE NEIGHBOUR: 'it returns false'. Refute it at one input. -/
def ribOrderWrong : ChangeSpec := { name := "ribOrder", fn := fun _ => fun
  | [d1, d2, d3, d4, d5] => { results := [.lit (.bool false)], args := [d1, d2, d3, d4, d5] }
  | _ => none }
def RibOrderWrongFalsely : Prop := ribOrderRow.holds Try.pinned (OpenSpec.ofChange ribOrderWrong)

/-- 'waywardenlaw6.RibLast': WHATEVER THE INPUT: true; the input reads as it did. -/
def ribLastSpec : ChangeSpec := { name := "ribLast", fn := fun _ => fun
  | [d1, d2, d3] => { results := [.lit (.bool true)], args := [d1, d2, d3] }
  | _ => none }
def ribLastRow : OpenClaim := { program := "ytoocmogmocapoaa", sum := "1e32383ab64f81b78ce31fdbe33356f3538b9bedb4cb4929d46651b38a339a1c", func := "waywarden/waywardenlaw6.RibLast", spec := "ribLast", inPlace := ["internal/reflectlite.ValueOf", "internal/reflectlite.Swapper", "(internal/reflectlite.Value).Len"], unfollowed := true, recurses := true, apart := false }
def RibLastSaid : Prop := ribLastRow.holds Try.pinned (OpenSpec.ofChange ribLastSpec)

/-- ITS FALSE NEIGHBOUR: 'it returns false'. Refute it at one input. -/
def ribLastWrong : ChangeSpec := { name := "ribLast", fn := fun _ => fun
  | [d1, d2, d3] => { results := [.lit (.bool false)], args := [d1, d2, d3] }
  | _ => none }
def RibLastWrongFalsely : Prop := ribLastRow.holds Try.pinned (OpenSpec.ofChange ribLastWrong)

/-- 'waywardenlaw7.RibOwn': WHATEVER THE INPUT: true; the input reads as it did. -/
def ribOwnSpec : ChangeSpec := { name := "ribOwn", fn := fun _ => fun
  | [d1, d2, d3, d4] => { results := [.lit (.bool true)], args := [d1, d2, d3, d4] }
  | _ => none }
def ribOwnRow : OpenClaim := { program := "ytoocmogmocapoaa", sum := "1e32383ab64f81b78ce31fdbe33356f3538b9bedb4cb4929d46651b38a339a1c", func := "waywarden/waywardenlaw7.RibOwn", spec := "ribOwn", inPlace := ["internal/reflectlite.ValueOf", "internal/reflectlite.Swapper", "(internal/reflectlite.Value).Len"], unfollowed := true, recurses := true, apart := false }
def RibOwnSaid : Prop := ribOwnRow.holds Try.pinned (OpenSpec.ofChange ribOwnSpec)

/-- ITS FALSE NEIGHBOUR: 'it returns false'. Refute it at one input. -/
def ribOwnWrong : ChangeSpec := { name := "ribOwn", fn := fun _ => fun
  | [d1, d2, d3, d4] => { results := [.lit (.bool false)], args := [d1, d2, d3, d4] }
  | _ => none }
def RibOwnWrongFalsely : Prop := ribOwnRow.holds Try.pinned (OpenSpec.ofChange ribOwnWrong)

/- THE SECOND FORM. 'bulk': how many values and letters a reading holds, each counted each time it is reached (what is shared counts as often as it is met; a slice's spare places count too). A statement '..UptoSaid' is the law's where the arguments, and the package variables that the reading takes, are together of bulk at most 1048576: NARROWER than '..Said'. Prove '..Said' where nothing that the law and all that it calls make is longer than what came in: it says more and counts as full. Else prove '..UptoSaid'. A law counts once. -/
mutual
def uptoBulk {H : Type} : DataW H → Nat
  | .lit (.string bytes) => bytes.length + 1
  | .lit _ => 1
  | .nil => 1
  | .ptr d => uptoBulk d + 1
  | .slice elems spare => uptoBulkAll elems + uptoBulkAll spare + 1
  | .agg parts => uptoBulkAll parts + 1
  | .iface _ d => uptoBulk d + 1
  | .map entries => uptoBulkEntries entries + 1
  | .held _ => 1
def uptoBulkAll {H : Type} : List (DataW H) → Nat
  | [] => 0
  | d :: r => uptoBulk d + uptoBulkAll r
def uptoBulkEntries {H : Type} : List (Lit × DataW H) → Nat
  | [] => 0
  | x :: r => uptoBulkEntry x + uptoBulkEntries r
def uptoBulkEntry {H : Type} : Lit × DataW H → Nat
  | (.string bytes, d) => bytes.length + uptoBulk d + 1
  | (_, d) => uptoBulk d + 1
 end
def uptoSmall : (H : Type) → List (DataW H) → Bool := fun _ ds => decide (uptoBulkAll ds ≤ 1048576)
def OpenSpec.upto (s : _root_.Go.ChangeSpec) : _root_.Go.OpenSpec := { _root_.Go.OpenSpec.ofChange s with cond := some uptoSmall }

/-- 'waywardenlaw3.RibAges', WHERE WHAT IT READS IS OF BULK AT MOST 1048576: true; the input reads as it did. -/
def ribAgesUptoRow : OpenClaim := { program := "ytoocmogmocapoaa", sum := "1e32383ab64f81b78ce31fdbe33356f3538b9bedb4cb4929d46651b38a339a1c", func := "waywarden/waywardenlaw3.RibAges", spec := "ribAges", inPlace := ["internal/reflectlite.ValueOf", "internal/reflectlite.Swapper", "(internal/reflectlite.Value).Len"], unfollowed := true, recurses := true, apart := false, narrowed := true }
def RibAgesUptoSaid : Prop := ribAgesUptoRow.holds Try.pinned (OpenSpec.upto ribAgesSpec)

/-- 'waywardenlaw3.RibSteps', WHERE WHAT IT READS IS OF BULK AT MOST 1048576: true; the input reads as it did. -/
def ribStepsUptoRow : OpenClaim := { program := "ytoocmogmocapoaa", sum := "1e32383ab64f81b78ce31fdbe33356f3538b9bedb4cb4929d46651b38a339a1c", func := "waywarden/waywardenlaw3.RibSteps", spec := "ribSteps", inPlace := ["internal/reflectlite.ValueOf", "internal/reflectlite.Swapper", "(internal/reflectlite.Value).Len"], unfollowed := true, recurses := true, apart := false, narrowed := true }
def RibStepsUptoSaid : Prop := ribStepsUptoRow.holds Try.pinned (OpenSpec.upto ribStepsSpec)

/-- 'waywardenlaw3.RibOrder', WHERE WHAT IT READS IS OF BULK AT MOST 1048576: true; the input reads as it did. -/
def ribOrderUptoRow : OpenClaim := { program := "ytoocmogmocapoaa", sum := "1e32383ab64f81b78ce31fdbe33356f3538b9bedb4cb4929d46651b38a339a1c", func := "waywarden/waywardenlaw3.RibOrder", spec := "ribOrder", inPlace := ["internal/reflectlite.ValueOf", "internal/reflectlite.Swapper", "(internal/reflectlite.Value).Len"], unfollowed := true, recurses := true, apart := false, narrowed := true }
def RibOrderUptoSaid : Prop := ribOrderUptoRow.holds Try.pinned (OpenSpec.upto ribOrderSpec)

/-- 'waywardenlaw6.RibLast', WHERE WHAT IT READS IS OF BULK AT MOST 1048576: true; the input reads as it did. -/
def ribLastUptoRow : OpenClaim := { program := "ytoocmogmocapoaa", sum := "1e32383ab64f81b78ce31fdbe33356f3538b9bedb4cb4929d46651b38a339a1c", func := "waywarden/waywardenlaw6.RibLast", spec := "ribLast", inPlace := ["internal/reflectlite.ValueOf", "internal/reflectlite.Swapper", "(internal/reflectlite.Value).Len"], unfollowed := true, recurses := true, apart := false, narrowed := true }
def RibLastUptoSaid : Prop := ribLastUptoRow.holds Try.pinned (OpenSpec.upto ribLastSpec)

/-- 'waywardenlaw7.RibOwn', WHERE WHAT IT READS IS OF BULK AT MOST 1048576: true; the input reads as it did. -/
def ribOwnUptoRow : OpenClaim := { program := "ytoocmogmocapoaa", sum := "1e32383ab64f81b78ce31fdbe33356f3538b9bedb4cb4929d46651b38a339a1c", func := "waywarden/waywardenlaw7.RibOwn", spec := "ribOwn", inPlace := ["internal/reflectlite.ValueOf", "internal/reflectlite.Swapper", "(internal/reflectlite.Value).Len"], unfollowed := true, recurses := true, apart := false, narrowed := true }
def RibOwnUptoSaid : Prop := ribOwnUptoRow.holds Try.pinned (OpenSpec.upto ribOwnSpec)

end Rows
end Go.Proofs.Ytoocmogmocapoaa
