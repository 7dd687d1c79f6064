/-
  The law GraphCuts at what is no graph, or at numbers that are no nodes: it tells true; what lay in memory stays.
-/
import Derived.Test.YtioackidihalfaaGraphLinked
namespace Go.Proofs.Ytioackidihalfaa
open Go.RowKit Go.Lib

set_option maxHeartbeats 1000000 in
set_option maxRecDepth 100000 in
theorem cuts_bad (w : World) (n a b i k : Int) (v : Value) (l : List Lk) (hn : l.length * 24 ≤ 140737488355328) (h : ArgK w v l) (hg : gBad n l ≠ 0) :
    Calls Try.prog 3 #[.int .i64 n, v, .int .i64 a, .int .i64 b, .int .i64 i, .int .i64 k] w fun e w' => e = .returned (.bool true) ∧ Below w.heap.size w w' := by
  have hE : errV (gBad n l) = .iface 40 (.int .i64 (gBad n l)) := if_neg hg
  have HK := Lib.hid h
  have HC := Lib.hid (fun w1 (hb : Below w.heap.size w w1) => gCheck_any w1 n v l (by omega) (HK.out.below hb))
  rw [hE] at HC
  clear hE h
  generalize gBad n l = q at HC hg
  go_enter Try.func3, Try.ntmps3
  go_wp2_with fail
  refine (linked_any _).mono ?_
  rintro e w1 ⟨rfl, hb1⟩
  have HB1 := Lib.hid hb1; clear hb1
  go_wp2_with fail
  refine (HC.out w1 HB1.out).mono ?_
  rintro e w2 ⟨rfl, hb2⟩
  have HB2 := Lib.hid (Below.two HB1.out hb2); clear hb2
  go_wp2_with fail
  go_ret
  exact ⟨rfl, HB2.out⟩
set_option maxHeartbeats 1000000 in
set_option maxRecDepth 100000 in
theorem cuts_far (w : World) (n a b i k : Int) (v : Value) (l : List Lk) (hn : l.length * 24 ≤ 140737488355328) (h : ArgK w v l) (hg : gBad n l = 0) (hf : ¬ ((0 ≤ i ∧ i < n) ∧ (0 ≤ k ∧ k < n))) :
    Calls Try.prog 3 #[.int .i64 n, v, .int .i64 a, .int .i64 b, .int .i64 i, .int .i64 k] w fun e w' => e = .returned (.bool true) ∧ Below w.heap.size w w' := by
  have HK := Lib.hid h
  have HC := Lib.hid (fun w1 (hb : Below w.heap.size w w1) => gCheck_any w1 n v l (by omega) (HK.out.below hb))
  rw [hg, show errV 0 = Value.nilIface from rfl] at HC
  clear h hg
  have hc : i < 0 ∨ (¬ i < 0 ∧ n ≤ i) ∨ (¬ i < 0 ∧ ¬ n ≤ i ∧ k < 0) ∨ (¬ i < 0 ∧ ¬ n ≤ i ∧ ¬ k < 0 ∧ n ≤ k) := by omega
  clear hf
  rcases hc with h1 | ⟨h1, h2⟩ | ⟨h1, h2, h3⟩ | ⟨h1, h2, h3, h4⟩
  all_goals
    go_enter Try.func3, Try.ntmps3
    go_wp2_with fail
    refine (linked_any _).mono ?_
    rintro e w1 ⟨rfl, hb1⟩
    have HB1 := Lib.hid hb1; clear hb1
    go_wp2_with fail
    refine (HC.out w1 HB1.out).mono ?_
    rintro e w2 ⟨rfl, hb2⟩
    have HB2 := Lib.hid (Below.two HB1.out hb2); clear hb2
    go_wp2_with fail
    go_ret
    exact ⟨rfl, HB2.out⟩
end Go.Proofs.Ytioackidihalfaa
