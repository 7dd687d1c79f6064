/-
  spf.checked at every number of nodes, every list of links and every node; what lay in memory stays.
-/
import Derived.Test.YtomfkmclgabcpaaDoorSpfDist
import Derived.Test.YtomfkmclgabcpaaDoorGraphCosts
import Derived.OwnWalk
namespace Go.Proofs.YtomfkmclgabcpaaDoor
open Go.RowKit Go.Lib

/-- What is wrong: graph.Check's, then no such node. -/
def spfBad (n : Int) (l : List Lk) (fr : Int) : Int := if gBad n l ≠ 0 then gBad n l else if fr < 0 ∨ n ≤ fr then 1 else 0
theorem spfBad_zero {n : Int} {l : List Lk} {fr : Int} : spfBad n l fr = 0 ↔ gBad n l = 0 ∧ 0 ≤ fr ∧ fr < n := by
  unfold spfBad
  by_cases h : gBad n l = 0
  · rw [if_neg (by omega)]
    by_cases h2 : fr < 0 ∨ n ≤ fr
    · rw [if_pos h2]; omega
    · rw [if_neg h2]; omega
  · rw [if_pos h]; omega
theorem spf_nat {n : Int} {l : List Lk} {fr : Int} (h : spfBad n l fr = 0) : ∃ m t : Nat, n = m ∧ fr = t ∧ 1 ≤ m ∧ m ≤ 8 ∧ t < m ∧ gBad m l = 0 ∧ Right m l := by
  obtain ⟨h1, h2, h3⟩ := spfBad_zero.1 h
  obtain ⟨h4, h5⟩ := (gBad_zero n l).1 h1
  obtain ⟨m, rfl⟩ : ∃ m : Nat, n = m := ⟨n.toNat, by omega⟩
  obtain ⟨t, rfl⟩ : ∃ t : Nat, fr = t := ⟨fr.toNat, by omega⟩
  exact ⟨m, t, rfl, rfl, by omega, by omega, by omega, h1, h5⟩
theorem spf_err {k : Int} (h : k ≠ 0) : errV k = .iface 25 (.int .i64 k) := if_neg h

set_option maxHeartbeats 400000 in
set_option maxRecDepth 100000 in
theorem checked_bad1 (w : World) (n fr : Int) (v : Value) (l : List Lk) (hn : l.length < 4611686018427387904) (h : ArgK w v l) (hg : gBad n l ≠ 0) :
    Calls Tryd.prog 40 #[.int .i64 n, v, .int .i64 fr] w fun e w' => e = .returned (.tuple #[.slice none 0 0, errV (gBad n l)]) ∧ Below w.heap.size w w' := by
  have HC := Lib.hid (costs_bad w n v l hn h hg)
  rw [spf_err hg] at HC ⊢
  clear h
  generalize gBad n l = q at HC hg
  go_enter Tryd.func40, Tryd.ntmps40
  go_wp2_with fail
  refine HC.out.mono ?_
  rintro e w1 ⟨rfl, hb1⟩
  go_wp2_with fail
  go_ret2
  exact ⟨rfl, hb1⟩
set_option maxHeartbeats 400000 in
set_option maxRecDepth 100000 in
theorem checked_bad2 (w : World) (m : Nat) (fr : Int) (v : Value) (l : List Lk) (hn : l.length < 4611686018427387904) (h : ArgK w v l) (hg : gBad m l = 0) (ht : fr < 0 ∨ (m : Int) ≤ fr) :
    Calls Tryd.prog 40 #[.int .i64 m, v, .int .i64 fr] w fun e w' => e = .returned (.tuple #[.slice none 0 0, .iface 25 (.int .i64 1)]) ∧ Below w.heap.size w w' := by
  have HC := Lib.hid (costs_ok w m v l hn h hg)
  clear h hg
  go_enter Tryd.func40, Tryd.ntmps40
  go_wp2_with fail
  refine HC.out.mono ?_
  rintro e w1 ⟨g, hgs, rfl, hG, hb1⟩
  have HB := Lib.hid hb1
  clear hG hb1
  by_cases hz : fr < 0
  · go_wp2_with fail
    go_ret2
    exact ⟨rfl, HB.out⟩
  · have h2 : fr ≥ (m : Int) := by omega
    clear ht
    go_wp2_with fail
    go_ret2
    exact ⟨rfl, HB.out⟩
set_option maxHeartbeats 400000 in
set_option maxRecDepth 100000 in
theorem checked_ok (w : World) (m t : Nat) (v : Value) (l : List Lk) (hn : l.length < 4611686018427387904) (h : ArgK w v l) (hg : gBad m l = 0) (ht : t < m) :
    Calls Tryd.prog 40 #[.int .i64 m, v, .int .i64 t] w fun e w' => ∃ g, w.heap.size ≤ g ∧ e = .returned (.tuple #[.slice (some ⟨g, 0, none⟩) m m, .nilIface]) ∧ Grid w' g m m (fun i j => costG l i j) ∧ Below w.heap.size w w' := by
  have HC := Lib.hid (costs_ok w m v l hn h hg)
  clear h hg
  go_enter Tryd.func40, Tryd.ntmps40
  go_wp2_with fail
  refine HC.out.mono ?_
  rintro e w1 ⟨g, hgs, rfl, hG, hb1⟩
  have HB := Lib.hid hb1
  have HG := Lib.hid hG
  clear hG hb1
  have h2 : ¬ (t : Int) ≥ (m : Int) := by omega
  have h0 : ¬ (t : Int) < 0 := by omega
  go_wp2_with fail
  go_ret2
  exact ⟨g, hgs, rfl, HG.out, HB.out⟩
/-- spf.checked at what is wrong. -/
theorem checked_bad (w : World) (n fr : Int) (v : Value) (l : List Lk) (hn : l.length < 4611686018427387904) (h : ArgK w v l) (hg : spfBad n l fr ≠ 0) :
    Calls Tryd.prog 40 #[.int .i64 n, v, .int .i64 fr] w fun e w' => e = .returned (.tuple #[.slice none 0 0, errV (spfBad n l fr)]) ∧ Below w.heap.size w w' := by
  by_cases h1 : gBad n l = 0
  · obtain ⟨h4, _⟩ := (gBad_zero n l).1 h1
    obtain ⟨m, rfl⟩ : ∃ m : Nat, n = m := ⟨n.toNat, by omega⟩
    have e1 : fr < 0 ∨ (m : Int) ≤ fr := by
      rcases Int.lt_or_le fr 0 with h2 | h2
      · exact Or.inl h2
      · rcases Int.lt_or_le fr m with h3 | h3
        · exact absurd (spfBad_zero.2 ⟨h1, h2, h3⟩) hg
        · exact Or.inr h3
    have e2 : spfBad m l fr = 1 := by unfold spfBad; rw [if_neg (by omega), if_pos e1]
    rw [e2]
    exact checked_bad2 w m fr v l hn h h1 e1
  · have e1 : spfBad n l fr = gBad n l := if_pos h1
    rw [e1]
    exact checked_bad1 w n fr v l hn h h1
end Go.Proofs.YtomfkmclgabcpaaDoor
