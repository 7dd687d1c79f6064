/-
  No cell of these rows narrows 'for every input' (looked for: loops, veiled, ifaces, maps, wideKeys, modest, calm, conditions, laid).
  DERIVED. THE GIVEN ROWS OF THIS SEAT. 5 by the template 'for every input the law returns true; each argument reads behind the call as it read before'; 0 by the template 'total and deterministic' (their statements: YtjgmehmhhplkaaaTotals.lean).
  GIVEN WITH THE SEED: the statements are not yours to turn. If you find one false, say at which input.
  Laid BY PROGRAM, IN A SANDBOX (cutbox-rows.mjs): the forced cells as the released guide's own fill.sh prints them over the translation 9c8d3fa885fa011c… (all of the seat's roots in one cut). By AI agents, Wed Nov 11 2026. No macro, syntax, notation, axiom, sorry.
-/
import Derived.Test.YtjgmehmhhplkaaaChecked
import GoSem.Claim
import GoSem.ClaimJoined
import GoSem.ClaimMapViews
import Derived.JoinedTies
import Derived.KernelRfl
namespace Go.Proofs.Ytjgmehmhhplkaaa
/- THE CELL 'sum', in the pinned program and in every row, IS THE sha256 OF THE DUMP (.gsa) THAT YtjgmehmhhplkaaaProg.lean LOADS. Nothing in Lean hashes anything: it is a label: what it is worth is what the hold of that sum in a sandbox is worth. -/
noncomputable def Try.pinned : Pinned := { name := "ytjgmehmhhplkaaa", sum := "9c8d3fa885fa011c2da5a941867f42326a22a7e69c5525b97a08e82c0faaa544", checked := Try.checked }
namespace Rows
def none {H : Type} : Left H := { results := [], args := [] }

/-- 'waywardenlaw2.SpfBell': WHATEVER THE INPUT: true; the input reads as it did. -/
def spfBellSpec : ChangeSpec := { name := "spfBell", fn := fun _ => fun
  | [d1, d2, d3] => { results := [.lit (.bool true)], args := [d1, d2, d3] }
  | _ => none }
def spfBellRow : OpenClaim := { program := "ytjgmehmhhplkaaa", sum := "9c8d3fa885fa011c2da5a941867f42326a22a7e69c5525b97a08e82c0faaa544", func := "waywarden/waywardenlaw2.SpfBell", spec := "spfBell", unfollowed := true, recurses := true, plainKeys := false, apart := false }
def SpfBellSaid : Prop := spfBellRow.holds Try.pinned (OpenSpec.ofChange spfBellSpec)

/-- ITS FALSE NEIGHBOUR: 'it returns false'. Refute it at one input. -/
def spfBellWrong : ChangeSpec := { name := "spfBell", fn := fun _ => fun
  | [d1, d2, d3] => { results := [.lit (.bool false)], args := [d1, d2, d3] }
  | _ => none }
def SpfBellWrongFalsely : Prop := spfBellRow.holds Try.pinned (OpenSpec.ofChange spfBellWrong)

/-- 'waywardenlaw2.SpfTriangle': WHATEVER THE INPUT: true; the input reads as it did. -/
def spfTriangleSpec : ChangeSpec := { name := "spfTriangle", fn := fun _ => fun
  | [d1, d2, d3, d4, d5] => { results := [.lit (.bool true)], args := [d1, d2, d3, d4, d5] }
  | _ => none }
def spfTriangleRow : OpenClaim := { program := "ytjgmehmhhplkaaa", sum := "9c8d3fa885fa011c2da5a941867f42326a22a7e69c5525b97a08e82c0faaa544", func := "waywarden/waywardenlaw2.SpfTriangle", spec := "spfTriangle", unfollowed := true, recurses := true, plainKeys := false, apart := false }
def SpfTriangleSaid : Prop := spfTriangleRow.holds Try.pinned (OpenSpec.ofChange spfTriangleSpec)

/-- ITS FALSE NEIGHBOUR: 'it returns false'. Refute it at one input. -/
def spfTriangleWrong : ChangeSpec := { name := "spfTriangle", fn := fun _ => fun
  | [d1, d2, d3, d4, d5] => { results := [.lit (.bool false)], args := [d1, d2, d3, d4, d5] }
  | _ => none }
def SpfTriangleWrongFalsely : Prop := spfTriangleRow.holds Try.pinned (OpenSpec.ofChange spfTriangleWrong)

/-- 'waywardenlaw2.SpfUps': WHATEVER THE INPUT: true; the input reads as it did. -/
def spfUpsSpec : ChangeSpec := { name := "spfUps", fn := fun _ => fun
  | [d1, d2, d3, d4] => { results := [.lit (.bool true)], args := [d1, d2, d3, d4] }
  | _ => none }
def spfUpsRow : OpenClaim := { program := "ytjgmehmhhplkaaa", sum := "9c8d3fa885fa011c2da5a941867f42326a22a7e69c5525b97a08e82c0faaa544", func := "waywarden/waywardenlaw2.SpfUps", spec := "spfUps", unfollowed := true, recurses := true, plainKeys := false, apart := false }
def SpfUpsSaid : Prop := spfUpsRow.holds Try.pinned (OpenSpec.ofChange spfUpsSpec)

/-- ITS FALSE NEIGHBOUR: 'it returns false'. Refute it at one input. -/
def spfUpsWrong : ChangeSpec := { name := "spfUps", fn := fun _ => fun
  | [d1, d2, d3, d4] => { results := [.lit (.bool false)], args := [d1, d2, d3, d4] }
  | _ => none }
def SpfUpsWrongFalsely : Prop := spfUpsRow.holds Try.pinned (OpenSpec.ofChange spfUpsWrong)

/-- 'waywardenlaw6.SpfMore': WHATEVER THE INPUT: true; the input reads as it did. -/
def spfMoreSpec : ChangeSpec := { name := "spfMore", fn := fun _ => fun
  | [d1, d2, d3, d4, d5] => { results := [.lit (.bool true)], args := [d1, d2, d3, d4, d5] }
  | _ => none }
def spfMoreRow : OpenClaim := { program := "ytjgmehmhhplkaaa", sum := "9c8d3fa885fa011c2da5a941867f42326a22a7e69c5525b97a08e82c0faaa544", func := "waywarden/waywardenlaw6.SpfMore", spec := "spfMore", unfollowed := true, recurses := true, plainKeys := false, apart := false }
def SpfMoreSaid : Prop := spfMoreRow.holds Try.pinned (OpenSpec.ofChange spfMoreSpec)

/-- ITS FALSE NEIGHBOUR: 'it returns false'. Refute it at one input. -/
def spfMoreWrong : ChangeSpec := { name := "spfMore", fn := fun _ => fun
  | [d1, d2, d3, d4, d5] => { results := [.lit (.bool false)], args := [d1, d2, d3, d4, d5] }
  | _ => none }
def SpfMoreWrongFalsely : Prop := spfMoreRow.holds Try.pinned (OpenSpec.ofChange spfMoreWrong)

/-- 'waywardentop.TopCut': WHATEVER THE INPUT: true; the input reads as it did. -/
def topCutSpec : ChangeSpec := { name := "topCut", fn := fun _ => fun
  | [d1, d2, d3, d4, d5] => { results := [.lit (.bool true)], args := [d1, d2, d3, d4, d5] }
  | _ => none }
def topCutRow : OpenClaim := { program := "ytjgmehmhhplkaaa", sum := "9c8d3fa885fa011c2da5a941867f42326a22a7e69c5525b97a08e82c0faaa544", func := "waywarden/waywardentop.TopCut", spec := "topCut", unfollowed := true, recurses := true, plainKeys := false, apart := false }
def TopCutSaid : Prop := topCutRow.holds Try.pinned (OpenSpec.ofChange topCutSpec)

/-- ITS FALSE NEIGHBOUR: 'it returns false'. Refute it at one input. -/
def topCutWrong : ChangeSpec := { name := "topCut", fn := fun _ => fun
  | [d1, d2, d3, d4, d5] => { results := [.lit (.bool false)], args := [d1, d2, d3, d4, d5] }
  | _ => none }
def TopCutWrongFalsely : Prop := topCutRow.holds Try.pinned (OpenSpec.ofChange topCutWrong)

/- THE SECOND FORM. 'bulk': how many values and letters a reading holds, each counted each time it is reached (what is shared counts as often as it is met; a slice's spare places count too). A statement '..UptoSaid' is the law's where the arguments, and the package variables that the reading takes, are together of bulk at most 1048576: NARROWER than '..Said'. Prove '..Said' where nothing that the law and all that it calls make is longer than what came in: it says more and counts as full. Else prove '..UptoSaid'. A law counts once. -/
mutual
def uptoBulk {H : Type} : DataW H → Nat
  | .lit (.string bytes) => bytes.length + 1
  | .lit _ => 1
  | .nil => 1
  | .ptr d => uptoBulk d + 1
  | .slice elems spare => uptoBulkAll elems + uptoBulkAll spare + 1
  | .agg parts => uptoBulkAll parts + 1
  | .iface _ d => uptoBulk d + 1
  | .map entries => uptoBulkEntries entries + 1
  | .held _ => 1
def uptoBulkAll {H : Type} : List (DataW H) → Nat
  | [] => 0
  | d :: r => uptoBulk d + uptoBulkAll r
def uptoBulkEntries {H : Type} : List (Lit × DataW H) → Nat
  | [] => 0
  | x :: r => uptoBulkEntry x + uptoBulkEntries r
def uptoBulkEntry {H : Type} : Lit × DataW H → Nat
  | (.string bytes, d) => bytes.length + uptoBulk d + 1
  | (_, d) => uptoBulk d + 1
 end
def uptoSmall : (H : Type) → List (DataW H) → Bool := fun _ ds => decide (uptoBulkAll ds ≤ 1048576)
def OpenSpec.upto (s : _root_.Go.ChangeSpec) : _root_.Go.OpenSpec := { _root_.Go.OpenSpec.ofChange s with cond := some uptoSmall }

/-- 'waywardenlaw2.SpfBell', WHERE WHAT IT READS IS OF BULK AT MOST 1048576: true; the input reads as it did. -/
def spfBellUptoRow : OpenClaim := { program := "ytjgmehmhhplkaaa", sum := "9c8d3fa885fa011c2da5a941867f42326a22a7e69c5525b97a08e82c0faaa544", func := "waywarden/waywardenlaw2.SpfBell", spec := "spfBell", unfollowed := true, recurses := true, plainKeys := false, apart := false, narrowed := true }
def SpfBellUptoSaid : Prop := spfBellUptoRow.holds Try.pinned (OpenSpec.upto spfBellSpec)

/-- 'waywardenlaw2.SpfTriangle', WHERE WHAT IT READS IS OF BULK AT MOST 1048576: true; the input reads as it did. -/
def spfTriangleUptoRow : OpenClaim := { program := "ytjgmehmhhplkaaa", sum := "9c8d3fa885fa011c2da5a941867f42326a22a7e69c5525b97a08e82c0faaa544", func := "waywarden/waywardenlaw2.SpfTriangle", spec := "spfTriangle", unfollowed := true, recurses := true, plainKeys := false, apart := false, narrowed := true }
def SpfTriangleUptoSaid : Prop := spfTriangleUptoRow.holds Try.pinned (OpenSpec.upto spfTriangleSpec)

/-- 'waywardenlaw2.SpfUps', WHERE WHAT IT READS IS OF BULK AT MOST 1048576: true; the input reads as it did. -/
def spfUpsUptoRow : OpenClaim := { program := "ytjgmehmhhplkaaa", sum := "9c8d3fa885fa011c2da5a941867f42326a22a7e69c5525b97a08e82c0faaa544", func := "waywarden/waywardenlaw2.SpfUps", spec := "spfUps", unfollowed := true, recurses := true, plainKeys := false, apart := false, narrowed := true }
def SpfUpsUptoSaid : Prop := spfUpsUptoRow.holds Try.pinned (OpenSpec.upto spfUpsSpec)

/-- 'waywardenlaw6.SpfMore', WHERE WHAT IT READS IS OF BULK AT MOST 1048576: true; the input reads as it did. -/
def spfMoreUptoRow : OpenClaim := { program := "ytjgmehmhhplkaaa", sum := "9c8d3fa885fa011c2da5a941867f42326a22a7e69c5525b97a08e82c0faaa544", func := "waywarden/waywardenlaw6.SpfMore", spec := "spfMore", unfollowed := true, recurses := true, plainKeys := false, apart := false, narrowed := true }
def SpfMoreUptoSaid : Prop := spfMoreUptoRow.holds Try.pinned (OpenSpec.upto spfMoreSpec)

/-- 'waywardentop.TopCut', WHERE WHAT IT READS IS OF BULK AT MOST 1048576: true; the input reads as it did. -/
def topCutUptoRow : OpenClaim := { program := "ytjgmehmhhplkaaa", sum := "9c8d3fa885fa011c2da5a941867f42326a22a7e69c5525b97a08e82c0faaa544", func := "waywarden/waywardentop.TopCut", spec := "topCut", unfollowed := true, recurses := true, plainKeys := false, apart := false, narrowed := true }
def TopCutUptoSaid : Prop := topCutUptoRow.holds Try.pinned (OpenSpec.upto topCutSpec)

end Rows
end Go.Proofs.Ytjgmehmhhplkaaa
