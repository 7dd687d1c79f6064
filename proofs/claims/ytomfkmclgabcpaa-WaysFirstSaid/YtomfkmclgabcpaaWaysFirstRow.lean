/-
  PROVED: at every number of nodes, every list of links, every two nodes and every list of nodes in a row the law WaysFirst returns true and leaves its arguments as they were: the first way is as long as the other node is far; any way between both is no shorter, and of as short ones none stands ahead. Conditions: none but those of the given row.
-/
import Derived.Test.YtomfkmclgabcpaaRows
import Derived.Test.YtomfkmclgabcpaaWaysFirstWalk
import Derived.Test.YtomfkmclgabcpaaLinksArg
import Derived.Test.YtomfkmclgabcpaaIntsArg
import Derived.Test.YtomfkmclgabcpaaTrodMore
import Derived.ProofKit
import Derived.OpenShut
import Derived.Carry
import Derived.SizedLaws
namespace Go.Proofs.Ytomfkmclgabcpaa.waysFirst
open Go.ChangeShapes Go.WideShapes Go.ChangeAt Go.RowKit

theorem own : ownKnob Try.prog.godebug = none := by kernel_rfl

set_option maxHeartbeats 800000 in
set_option maxRecDepth 100000 in
theorem lifted (os : Os) (started : os.Started) (H : Type) (enc : TypeId × Value → H) :
    ReturnsInHanded {} Try.checked os 3 .any (Rows.waysFirstSpec.pre6 enc Try.prog Try.f3 Rows.waysFirstRow.domain false) (Rows.waysFirstSpec.post enc Try.prog Try.f3 false true false false) := by
  refine returnsInHanded_of_change_sized (C := Try.checked) own started (by kernel_rfl) Try.func3
    (ChangeSpec.witness6 (enc := enc) (C := Try.checked) false ⟨#[], #[.int .i64 0, .slice none 0 0, .int .i64 0, .int .i64 0, .slice none 0 0], []⟩ 8 (by kernel_rfl) (by kernel_rfl) (by kernel_rfl) (by kernel_rfl)) ?_
  intro W base args ds gs before hval0 hW _ hsz0 _
  have hsz : (DataW.weightsEach Try.prog (Try.f3.params.toList ++ Rows.waysFirstSpec.plain.varTypes Try.prog) (ds ++ gs)).all (· ≤ reachBytes) = true := hsz0
  have hval : ∀ (j : Nat) t v, Try.f3.params[j]? = some t → args[j]? = some v → Value.okWide Try.prog W .any base t v := hval0
  have hW' := hW
  obtain ⟨p, q, hA0, hV, rfl, hfz, hnd⟩ := hW
  have hA : DataW.TrodAll enc Try.prog W 0 (fun _ => true) true Try.f3.params.toList args.toList ds p := hA0
  rw [Try.params3] at hA hval hsz
  obtain ⟨v0, v1, v2, v3, v4, d0, d1, d2, d3, d4, p0, p1, p2, p3, p4, hargs, rfl, rfl, h0, h1, h2, h3, h4⟩ := trodAll_five hA
  obtain rfl : args = #[v0, v1, v2, v3, v4] := by cases args; simp_all
  obtain ⟨rfl, rfl⟩ := trodVars_none hV
  obtain ⟨b0, rfl, rfl, rfl, wb0⟩ := open_int Try.underlying3 (hval 0 3 v0 rfl rfl) h0
  have hb0 := bounds_i64 wb0
  obtain ⟨l1, hl1, hd1⟩ := open_links (hval 1 22 v1 rfl rfl) h1
  have hlen1 : l1.length * 24 ≤ 140737488351232 := by
    rcases hd1 with rfl | ⟨es, sp, rfl, he⟩
    · simp
    · have := sized_slice hsz (j := 1) (t := 22) (e := 38) rfl rfl Try.underlying22
      rw [bytesLink, he] at this
      simp only [reachBytes] at this
      omega
  have hlt1 : ∀ x ∈ p1, x.block < W.heap.size := fun x hx => hW'.lt x (by simp [hx])
  obtain ⟨b2, rfl, rfl, rfl, wb2⟩ := open_int Try.underlying3 (hval 2 3 v2 rfl rfl) h2
  have hb2 := bounds_i64 wb2
  obtain ⟨b3, rfl, rfl, rfl, wb3⟩ := open_int Try.underlying3 (hval 3 3 v3 rfl rfl) h3
  have hb3 := bounds_i64 wb3
  have hrm4 := openR (hval 4 23 v4 rfl rfl) h4
  obtain ⟨l4, hl4, hd4⟩ := openIs (hval 4 23 v4 rfl rfl) h4
  have hlen4 : l4.length * 8 ≤ 140737488351232 := by
    rcases hd4 with rfl | ⟨es, sp, rfl, he⟩
    · simp
    · have := sized_slice hsz (j := 4) (t := 23) (e := 3) rfl rfl Try.underlying23
      rw [bytesI, he] at this
      simp only [reachBytes] at this
      omega
  have hlt4 : ∀ x ∈ p4, x.block < W.heap.size := fun x hx => hW'.lt x (by simp [hx])
  refine (waysFirst_walk W b0 b2 b3 v1 v4 l1 l4 (by omega) (by have := hlen4; omega) hl1 hl4 hrm4).mono fun e W' ⟨he, hbl⟩ => ?_
  subst he
  refine ⟨_, rfl, _, _, _, [], p1 ++ (p4), [], hW', ?_, ?_, rfl, hbl.frame _, fun h => by cases h⟩
  · exact trodAll_mk1 (shut_bool Try.underlying4 true)
  · have := trodAll_mk5 (shut_int (w := W') (enc := enc) Try.underlying3 wb0) (Below.trod laidOut (by kernel_rfl) (of_decide_eq_true (by kernel_rfl)) h1 hbl hlt1) (shut_int (w := W') (enc := enc) Try.underlying3 wb2) (shut_int (w := W') (enc := enc) Try.underlying3 wb3) (Below.trod laidOut (by kernel_rfl) (of_decide_eq_true (by kernel_rfl)) h4 hbl hlt4)
    simp only [List.append_nil, List.nil_append] at this
    exact this

/-- THE STATEMENT. -/
theorem said : Rows.WaysFirstSaid :=
  OpenClaim.holds_of_wide 3 Try.f3 rfl rfl rfl rfl rfl rfl rfl ⟨rfl, rfl, rfl, rfl, rfl⟩ rfl rfl rfl rfl rfl (by kernel_rfl) Try.func3 (by kernel_rfl)
    (of_decide_eq_true (by kernel_rfl)) (by unfold Func.isWrapper; first | (rw [if_pos (by decide +kernel)]; kernel_rfl) | (rw [if_neg (by decide +kernel)]; exact ⟨rfl, rfl⟩))
    (fun os started H enc _ => lifted os started H enc)
end Go.Proofs.Ytomfkmclgabcpaa.waysFirst
