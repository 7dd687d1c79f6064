/-
  No cell of these rows narrows 'for every input' (looked for: loops, veiled, ifaces, maps, wideKeys, modest, calm, conditions, laid).
  DERIVED. THE GIVEN ROWS OF THIS SEAT. 3 by the template 'for every input the law returns true; each argument reads behind the call as it read before'; 0 by the template 'total and deterministic' (their statements: YtomfkmclgabcpaaTotals.lean).
  GIVEN WITH THE SEED: the statements are not yours to turn. If you find one false, say at which input.
  Laid BY PROGRAM, IN A SANDBOX (cutbox-rows.mjs): the forced cells as the released guide's own fill.sh prints them over the translation 6c24dedf3505ad80… (all of the seat's roots in one cut). By AI agents, Wed Nov 11 2026. No macro, syntax, notation, axiom, sorry.
-/
import Derived.Test.YtomfkmclgabcpaaChecked
import GoSem.Claim
import GoSem.ClaimJoined
import GoSem.ClaimMapViews
import Derived.JoinedTies
import Derived.KernelRfl
namespace Go.Proofs.Ytomfkmclgabcpaa
/- THE CELL 'sum', in the pinned program and in every row, IS THE sha256 OF THE DUMP (.gsa) THAT YtomfkmclgabcpaaProg.lean LOADS. Nothing in Lean hashes anything: it is a label: what it is worth is what the hold of that sum in a sandbox is worth. -/
noncomputable def Try.pinned : Pinned := { name := "ytomfkmclgabcpaa", sum := "6c24dedf3505ad80d45d17fc11a8fdcc5aa3ce61eb9c3ab9a879dfaa132c4fd1", checked := Try.checked }
namespace Rows
def none {H : Type} : Left H := { results := [], args := [] }

/-- 'waywardenlaw2.WaysFirst': WHATEVER THE INPUT: true; the input reads as it did. -/
def waysFirstSpec : ChangeSpec := { name := "waysFirst", fn := fun _ => fun
  | [d1, d2, d3, d4, d5] => { results := [.lit (.bool true)], args := [d1, d2, d3, d4, d5] }
  | _ => none }
def waysFirstRow : OpenClaim := { program := "ytomfkmclgabcpaa", sum := "6c24dedf3505ad80d45d17fc11a8fdcc5aa3ce61eb9c3ab9a879dfaa132c4fd1", func := "waywarden/waywardenlaw2.WaysFirst", spec := "waysFirst", unfollowed := true, recurses := true, plainKeys := false, apart := false }
def WaysFirstSaid : Prop := waysFirstRow.holds Try.pinned (OpenSpec.ofChange waysFirstSpec)

/-- ITS FALSE NEIGHBOUR: 'it returns false'. Refute it at one input. -/
def waysFirstWrong : ChangeSpec := { name := "waysFirst", fn := fun _ => fun
  | [d1, d2, d3, d4, d5] => { results := [.lit (.bool false)], args := [d1, d2, d3, d4, d5] }
  | _ => none }
def WaysFirstWrongFalsely : Prop := waysFirstRow.holds Try.pinned (OpenSpec.ofChange waysFirstWrong)

/-- 'waywardenlaw2.WaysCounts': WHATEVER THE INPUT: true; the input reads as it did. -/
def waysCountsSpec : ChangeSpec := { name := "waysCounts", fn := fun _ => fun
  | [d1, d2, d3, d4] => { results := [.lit (.bool true)], args := [d1, d2, d3, d4] }
  | _ => none }
def waysCountsRow : OpenClaim := { program := "ytomfkmclgabcpaa", sum := "6c24dedf3505ad80d45d17fc11a8fdcc5aa3ce61eb9c3ab9a879dfaa132c4fd1", func := "waywarden/waywardenlaw2.WaysCounts", spec := "waysCounts", unfollowed := true, recurses := true, plainKeys := false, apart := false }
def WaysCountsSaid : Prop := waysCountsRow.holds Try.pinned (OpenSpec.ofChange waysCountsSpec)

/-- ITS FALSE NEIGHBOUR: 'it returns false'. Refute it at one input. -/
def waysCountsWrong : ChangeSpec := { name := "waysCounts", fn := fun _ => fun
  | [d1, d2, d3, d4] => { results := [.lit (.bool false)], args := [d1, d2, d3, d4] }
  | _ => none }
def WaysCountsWrongFalsely : Prop := waysCountsRow.holds Try.pinned (OpenSpec.ofChange waysCountsWrong)

/-- 'waywardenlaw6.WaysJoin': WHATEVER THE INPUT: true; the input reads as it did. -/
def waysJoinSpec : ChangeSpec := { name := "waysJoin", fn := fun _ => fun
  | [d1, d2, d3, d4] => { results := [.lit (.bool true)], args := [d1, d2, d3, d4] }
  | _ => none }
def waysJoinRow : OpenClaim := { program := "ytomfkmclgabcpaa", sum := "6c24dedf3505ad80d45d17fc11a8fdcc5aa3ce61eb9c3ab9a879dfaa132c4fd1", func := "waywarden/waywardenlaw6.WaysJoin", spec := "waysJoin", plainKeys := false, apart := false }
def WaysJoinSaid : Prop := waysJoinRow.holds Try.pinned (OpenSpec.ofChange waysJoinSpec)

/-- ITS FALSE NEIGHBOUR: 'it returns false'. Refute it at one input. -/
def waysJoinWrong : ChangeSpec := { name := "waysJoin", fn := fun _ => fun
  | [d1, d2, d3, d4] => { results := [.lit (.bool false)], args := [d1, d2, d3, d4] }
  | _ => none }
def WaysJoinWrongFalsely : Prop := waysJoinRow.holds Try.pinned (OpenSpec.ofChange waysJoinWrong)

/- THE SECOND FORM. 'bulk': how many values and letters a reading holds, each counted each time it is reached (what is shared counts as often as it is met; a slice's spare places count too). A statement '..UptoSaid' is the law's where the arguments, and the package variables that the reading takes, are together of bulk at most 1048576: NARROWER than '..Said'. Prove '..Said' where nothing that the law and all that it calls make is longer than what came in: it says more and counts as full. Else prove '..UptoSaid'. A law counts once. -/
mutual
def uptoBulk {H : Type} : DataW H → Nat
  | .lit (.string bytes) => bytes.length + 1
  | .lit _ => 1
  | .nil => 1
  | .ptr d => uptoBulk d + 1
  | .slice elems spare => uptoBulkAll elems + uptoBulkAll spare + 1
  | .agg parts => uptoBulkAll parts + 1
  | .iface _ d => uptoBulk d + 1
  | .map entries => uptoBulkEntries entries + 1
  | .held _ => 1
def uptoBulkAll {H : Type} : List (DataW H) → Nat
  | [] => 0
  | d :: r => uptoBulk d + uptoBulkAll r
def uptoBulkEntries {H : Type} : List (Lit × DataW H) → Nat
  | [] => 0
  | x :: r => uptoBulkEntry x + uptoBulkEntries r
def uptoBulkEntry {H : Type} : Lit × DataW H → Nat
  | (.string bytes, d) => bytes.length + uptoBulk d + 1
  | (_, d) => uptoBulk d + 1
 end
def uptoSmall : (H : Type) → List (DataW H) → Bool := fun _ ds => decide (uptoBulkAll ds ≤ 1048576)
def OpenSpec.upto (s : _root_.Go.ChangeSpec) : _root_.Go.OpenSpec := { _root_.Go.OpenSpec.ofChange s with cond := some uptoSmall }

/-- 'waywardenlaw2.WaysFirst', WHERE WHAT IT READS IS OF BULK AT MOST 1048576: true; the input reads as it did. -/
def waysFirstUptoRow : OpenClaim := { program := "ytomfkmclgabcpaa", sum := "6c24dedf3505ad80d45d17fc11a8fdcc5aa3ce61eb9c3ab9a879dfaa132c4fd1", func := "waywarden/waywardenlaw2.WaysFirst", spec := "waysFirst", unfollowed := true, recurses := true, plainKeys := false, apart := false, narrowed := true }
def WaysFirstUptoSaid : Prop := waysFirstUptoRow.holds Try.pinned (OpenSpec.upto waysFirstSpec)

/-- 'waywardenlaw2.WaysCounts', WHERE WHAT IT READS IS OF BULK AT MOST 1048576: true; the input reads as it did. -/
def waysCountsUptoRow : OpenClaim := { program := "ytomfkmclgabcpaa", sum := "6c24dedf3505ad80d45d17fc11a8fdcc5aa3ce61eb9c3ab9a879dfaa132c4fd1", func := "waywarden/waywardenlaw2.WaysCounts", spec := "waysCounts", unfollowed := true, recurses := true, plainKeys := false, apart := false, narrowed := true }
def WaysCountsUptoSaid : Prop := waysCountsUptoRow.holds Try.pinned (OpenSpec.upto waysCountsSpec)

/-- 'waywardenlaw6.WaysJoin', WHERE WHAT IT READS IS OF BULK AT MOST 1048576: true; the input reads as it did. -/
def waysJoinUptoRow : OpenClaim := { program := "ytomfkmclgabcpaa", sum := "6c24dedf3505ad80d45d17fc11a8fdcc5aa3ce61eb9c3ab9a879dfaa132c4fd1", func := "waywarden/waywardenlaw6.WaysJoin", spec := "waysJoin", plainKeys := false, apart := false, narrowed := true }
def WaysJoinUptoSaid : Prop := waysJoinUptoRow.holds Try.pinned (OpenSpec.upto waysJoinSpec)

end Rows
end Go.Proofs.Ytomfkmclgabcpaa
