/-
  The law WaysTell at every number of nodes, every links, two nodes and nodes in a row: it tells true; what lay in memory stays. Condition: the library's variable errors.errorType is as its text lays it.
-/
import Derived.Test.YtomfkmclgabcpaaDoorWaysGone
import Derived.Test.YtomfkmclgabcpaaDoorWaysWk
import Derived.Test.YtomfkmclgabcpaaDoorRefRound
import Derived.Test.YtomfkmclgabcpaaDoorRefGraph
import Derived.Test.YtomfkmclgabcpaaDoorRefLength
import Derived.Test.YtomfkmclgabcpaaDoorRefShortest
import Derived.Test.YtomfkmclgabcpaaDoorErrIs
import Derived.Deep.QuietTactic
import Derived.BigQuiet
namespace Go.Proofs.YtomfkmclgabcpaaDoor
open Go.RowKit Go.Lib

set_option maxHeartbeats 4000000 in
set_option maxRecDepth 100000 in
theorem wt_a (w : World) (n a b : Int) (v u : Value) (l : List Lk) (ws : List Int) (hn : l.length < 4611686018427387904) (h : ArgK w v l) (hu : ArgI w u ws) (hrm : Room u) (he : ErrType w) (hg : gBad n l ≠ 0) :
    Calls Tryd.prog 3 #[.int .i64 n, v, .int .i64 a, .int .i64 b, u] w fun e w' => e = .returned (.bool true) ∧ Below w.heap.size w w' := by
  have HL := Lib.hid (h)
  have HU := Lib.hid (hu)
  have HE := Lib.hid (he)
  have e1 : wayBad n l a b = gBad n l := if_pos hg
  have HA := Lib.hid (fun w1 (h1 : ArgK w1 v l) (h2 : ArgI w1 u ws) => length_bad w1 n v u l ws hn h1 h2 hg)
  have HB := Lib.hid (fun w1 (h1 : ArgK w1 v l) => count_bad w1 n a b v l hn h1 (by rw [e1]; exact hg))
  have HC := Lib.hid (fun w1 (h1 : ArgK w1 v l) => first_bad w1 n a b v l hn h1 (by rw [e1]; exact hg))
  rw [e1] at HB HC
  rw [show errV (gBad n l) = .iface 25 (.int .i64 (gBad n l)) from if_neg hg] at HA HB HC
  have HGf := Lib.hid (fun w1 (h1 : ArgK w1 v l) => graphFault_any w1 n v l hn h1)
  have HEr := Lib.hid (errIs (gBad n l) hg)
  have t0 : (gBad n l == 0) = false := by simpa using hg
  obtain ⟨pu, cu, rfl, _⟩ := id hu
  clear h hu he e1 hg hrm
  generalize gBad n l = q at HA HB HC HGf HEr t0
  have HZZ : Hid (Below w.heap.size w w) := Lib.hid (Below.refl _ _)
  go_enter Tryd.func3, Tryd.ntmps3
  go_wp2_with fail
  refine (gone_any w).mono ?_
  rintro e w1 ⟨rfl, hb1⟩
  have HL' := Lib.hid (HL.out.below hb1)
  have HU' := Lib.hid (HU.out.below hb1)
  have HE' := Lib.hid (HE.out.below hb1)
  have HZZ' := Lib.hid (Below.two HZZ.out hb1)
  clear hb1 HZZ HL HU HE
  have HZZ := HZZ'
  clear HZZ'
  have HL := HL'
  clear HL'
  have HU := HU'
  clear HU'
  have HE := HE'
  clear HE'
  go_wp2_with fail
  refine (HGf.out _ HL.out).mono ?_
  rintro e w2 ⟨rfl, hb2⟩
  have HL' := Lib.hid (HL.out.below hb2)
  have HU' := Lib.hid (HU.out.below hb2)
  have HE' := Lib.hid (HE.out.below hb2)
  have HZZ' := Lib.hid (Below.two HZZ.out hb2)
  clear hb2 HZZ HL HU HE
  have HZZ := HZZ'
  clear HZZ'
  have HL := HL'
  clear HL'
  have HU := HU'
  clear HU'
  have HE := HE'
  clear HE'
  go_wp2_with fail
  refine (HA.out _ HL.out HU.out).mono ?_
  rintro e w3 ⟨rfl, hb3⟩
  have HL' := Lib.hid (HL.out.below hb3)
  have HU' := Lib.hid (HU.out.below hb3)
  have HE' := Lib.hid (HE.out.below hb3)
  have HZZ' := Lib.hid (Below.two HZZ.out hb3)
  clear hb3 HZZ HL HU HE
  have HZZ := HZZ'
  clear HZZ'
  have HL := HL'
  clear HL'
  have HU := HU'
  clear HU'
  have HE := HE'
  clear HE'
  go_wp2_with fail
  refine (HEr.out _ HE.out).mono ?_
  rintro e w4 ⟨rfl, hb4⟩
  have HL' := Lib.hid (HL.out.below hb4)
  have HU' := Lib.hid (HU.out.below hb4)
  have HE' := Lib.hid (HE.out.below hb4)
  have HZZ' := Lib.hid (Below.two HZZ.out hb4)
  clear hb4 HZZ HL HU HE
  have HZZ := HZZ'
  clear HZZ'
  have HL := HL'
  clear HL'
  have HU := HU'
  clear HU'
  have HE := HE'
  clear HE'
  go_wp2_with fail
  refine (HB.out _ HL.out).mono ?_
  rintro e w5 ⟨rfl, hb5⟩
  have HL' := Lib.hid (HL.out.below hb5)
  have HU' := Lib.hid (HU.out.below hb5)
  have HE' := Lib.hid (HE.out.below hb5)
  have HZZ' := Lib.hid (Below.two HZZ.out hb5)
  clear hb5 HZZ HL HU HE
  have HZZ := HZZ'
  clear HZZ'
  have HL := HL'
  clear HL'
  have HU := HU'
  clear HU'
  have HE := HE'
  clear HE'
  go_wp2_with fail
  refine (HEr.out _ HE.out).mono ?_
  rintro e w6 ⟨rfl, hb6⟩
  have HL' := Lib.hid (HL.out.below hb6)
  have HU' := Lib.hid (HU.out.below hb6)
  have HE' := Lib.hid (HE.out.below hb6)
  have HZZ' := Lib.hid (Below.two HZZ.out hb6)
  clear hb6 HZZ HL HU HE
  have HZZ := HZZ'
  clear HZZ'
  have HL := HL'
  clear HL'
  have HU := HU'
  clear HU'
  have HE := HE'
  clear HE'
  go_wp2_with fail
  refine (HC.out _ HL.out).mono ?_
  rintro e w7 ⟨rfl, hb7⟩
  have HL' := Lib.hid (HL.out.below hb7)
  have HU' := Lib.hid (HU.out.below hb7)
  have HE' := Lib.hid (HE.out.below hb7)
  have HZZ' := Lib.hid (Below.two HZZ.out hb7)
  clear hb7 HZZ HL HU HE
  have HZZ := HZZ'
  clear HZZ'
  have HL := HL'
  clear HL'
  have HU := HU'
  clear HU'
  have HE := HE'
  clear HE'
  go_wp2_with fail
  refine (HEr.out _ HE.out).mono ?_
  rintro e w8 ⟨rfl, hb8⟩
  have HL' := Lib.hid (HL.out.below hb8)
  have HU' := Lib.hid (HU.out.below hb8)
  have HE' := Lib.hid (HE.out.below hb8)
  have HZZ' := Lib.hid (Below.two HZZ.out hb8)
  clear hb8 HZZ HL HU HE
  have HZZ := HZZ'
  clear HZZ'
  have HL := HL'
  clear HL'
  have HU := HU'
  clear HU'
  have HE := HE'
  clear HE'
  go_wp2_with fail
  refine (ints_none w8).mono ?_
  rintro e w9 ⟨rfl, hb9⟩
  have HL' := Lib.hid (HL.out.below hb9)
  have HU' := Lib.hid (HU.out.below hb9)
  have HE' := Lib.hid (HE.out.below hb9)
  have HZZ' := Lib.hid (Below.two HZZ.out hb9)
  clear hb9 HZZ HL HU HE
  have HZZ := HZZ'
  clear HZZ'
  have HL := HL'
  clear HL'
  have HU := HU'
  clear HU'
  have HE := HE'
  clear HE'
  go_wp2_with fail
  go_ret
  exact ⟨rfl, HZZ.out⟩
set_option maxHeartbeats 4000000 in
set_option maxRecDepth 100000 in
theorem wt_b1none (w : World) (m : Nat) (a b : Int) (v u : Value) (l : List Lk) (ws : List Int) (hn : l.length < 4611686018427387904) (hw : ws.length * 8 ≤ 140737488355328) (h : ArgK w v l) (hu : ArgI w u ws) (hrm : Room u) (he : ErrType w) (hg : gBad m l = 0) (hz : lengthG m l ws = none) (g1 : a < 0) :
    Calls Tryd.prog 3 #[.int .i64 m, v, .int .i64 a, .int .i64 b, u] w fun e w' => e = .returned (.bool true) ∧ Below w.heap.size w w' := by
  have HL := Lib.hid (h)
  have HU := Lib.hid (hu)
  have HE := Lib.hid (he)
  have e1 : wayBad m l a b = 1 := by unfold wayBad; rw [if_neg (by omega), if_pos (by omega)]
  have HB := Lib.hid (fun w1 (h1 : ArgK w1 v l) => count_bad w1 m a b v l hn h1 (by rw [e1]; decide))
  have HC := Lib.hid (fun w1 (h1 : ArgK w1 v l) => first_bad w1 m a b v l hn h1 (by rw [e1]; decide))
  rw [e1, show errV 1 = .iface 25 (.int .i64 1) from rfl] at HB HC
  clear e1
  have HA := Lib.hid (fun w1 (h1 : ArgK w1 v l) (h2 : ArgI w1 u ws) => length_ok w1 m v u l ws hn (by omega) h1 h2 hrm hg)
  have HN := Lib.hid (fun w1 (h1 : ArgK w1 v l) (h2 : ArgI w1 u ws) => lengthOf_any w1 m v u l ws hn (by omega) h1 h2)
  rw [hz] at HA HN
  have HGf := Lib.hid (fun w1 (h1 : ArgK w1 v l) => graphFault_any w1 m v l hn h1)
  rw [hg] at HGf
  have HE1 := Lib.hid (errIs 1 (by decide))
  have HE2 := Lib.hid (errIs 2 (by decide))
  have HE3 := Lib.hid (errIs 3 (by decide))
  have HE0 := Lib.hid (fun w => same_nil 0 true rfl w)

  obtain ⟨pu, cu, rfl, _⟩ := id hu
  clear h hu he hz hrm hw
  have HZZ : Hid (Below w.heap.size w w) := Lib.hid (Below.refl _ _)
  go_enter Tryd.func3, Tryd.ntmps3
  go_wp2_with fail
  refine (gone_any w).mono ?_
  rintro e w1 ⟨rfl, hb1⟩
  have HL' := Lib.hid (HL.out.below hb1)
  have HU' := Lib.hid (HU.out.below hb1)
  have HE' := Lib.hid (HE.out.below hb1)
  have HZZ' := Lib.hid (Below.two HZZ.out hb1)
  clear hb1 HZZ HL HU HE
  have HZZ := HZZ'
  clear HZZ'
  have HL := HL'
  clear HL'
  have HU := HU'
  clear HU'
  have HE := HE'
  clear HE'
  go_wp2_with fail
  refine (HGf.out _ HL.out).mono ?_
  rintro e w2 ⟨rfl, hb2⟩
  have HL' := Lib.hid (HL.out.below hb2)
  have HU' := Lib.hid (HU.out.below hb2)
  have HE' := Lib.hid (HE.out.below hb2)
  have HZZ' := Lib.hid (Below.two HZZ.out hb2)
  clear hb2 HZZ HL HU HE
  have HZZ := HZZ'
  clear HZZ'
  have HL := HL'
  clear HL'
  have HU := HU'
  clear HU'
  have HE := HE'
  clear HE'
  go_wp2_with fail
  refine (HN.out _ HL.out HU.out).mono ?_
  rintro e w3 ⟨rfl, hb3⟩
  have HL' := Lib.hid (HL.out.below hb3)
  have HU' := Lib.hid (HU.out.below hb3)
  have HE' := Lib.hid (HE.out.below hb3)
  have HZZ' := Lib.hid (Below.two HZZ.out hb3)
  clear hb3 HZZ HL HU HE
  have HZZ := HZZ'
  clear HZZ'
  have HL := HL'
  clear HL'
  have HU := HU'
  clear HU'
  have HE := HE'
  clear HE'
  simp only [lenN]
  go_wp2_with fail
  refine (HA.out _ HL.out HU.out).mono ?_
  rintro e w4 ⟨rfl, hb4⟩
  have HL' := Lib.hid (HL.out.below hb4)
  have HU' := Lib.hid (HU.out.below hb4)
  have HE' := Lib.hid (HE.out.below hb4)
  have HZZ' := Lib.hid (Below.two HZZ.out hb4)
  clear hb4 HZZ HL HU HE
  have HZZ := HZZ'
  clear HZZ'
  have HL := HL'
  clear HL'
  have HU := HU'
  clear HU'
  have HE := HE'
  clear HE'
  simp only [lenE]
  go_wp2_with fail
  refine (HE3.out _ HE.out).mono ?_
  rintro e w5 ⟨rfl, hb5⟩
  have HL' := Lib.hid (HL.out.below hb5)
  have HU' := Lib.hid (HU.out.below hb5)
  have HE' := Lib.hid (HE.out.below hb5)
  have HZZ' := Lib.hid (Below.two HZZ.out hb5)
  clear hb5 HZZ HL HU HE
  have HZZ := HZZ'
  clear HZZ'
  have HL := HL'
  clear HL'
  have HU := HU'
  clear HU'
  have HE := HE'
  clear HE'
  go_wp2_with fail
  refine (HB.out _ HL.out).mono ?_
  rintro e w6 ⟨rfl, hb6⟩
  have HL' := Lib.hid (HL.out.below hb6)
  have HU' := Lib.hid (HU.out.below hb6)
  have HE' := Lib.hid (HE.out.below hb6)
  have HZZ' := Lib.hid (Below.two HZZ.out hb6)
  clear hb6 HZZ HL HU HE
  have HZZ := HZZ'
  clear HZZ'
  have HL := HL'
  clear HL'
  have HU := HU'
  clear HU'
  have HE := HE'
  clear HE'
  go_wp2_with fail
  refine (HE1.out _ HE.out).mono ?_
  rintro e w7 ⟨rfl, hb7⟩
  have HL' := Lib.hid (HL.out.below hb7)
  have HU' := Lib.hid (HU.out.below hb7)
  have HE' := Lib.hid (HE.out.below hb7)
  have HZZ' := Lib.hid (Below.two HZZ.out hb7)
  clear hb7 HZZ HL HU HE
  have HZZ := HZZ'
  clear HZZ'
  have HL := HL'
  clear HL'
  have HU := HU'
  clear HU'
  have HE := HE'
  clear HE'
  go_wp2_with fail
  refine (HC.out _ HL.out).mono ?_
  rintro e w8 ⟨rfl, hb8⟩
  have HL' := Lib.hid (HL.out.below hb8)
  have HU' := Lib.hid (HU.out.below hb8)
  have HE' := Lib.hid (HE.out.below hb8)
  have HZZ' := Lib.hid (Below.two HZZ.out hb8)
  clear hb8 HZZ HL HU HE
  have HZZ := HZZ'
  clear HZZ'
  have HL := HL'
  clear HL'
  have HU := HU'
  clear HU'
  have HE := HE'
  clear HE'
  go_wp2_with fail
  refine (HE1.out _ HE.out).mono ?_
  rintro e w9 ⟨rfl, hb9⟩
  have HL' := Lib.hid (HL.out.below hb9)
  have HU' := Lib.hid (HU.out.below hb9)
  have HE' := Lib.hid (HE.out.below hb9)
  have HZZ' := Lib.hid (Below.two HZZ.out hb9)
  clear hb9 HZZ HL HU HE
  have HZZ := HZZ'
  clear HZZ'
  have HL := HL'
  clear HL'
  have HU := HU'
  clear HU'
  have HE := HE'
  clear HE'
  go_wp2_with fail
  refine (ints_none w9).mono ?_
  rintro e w10 ⟨rfl, hb10⟩
  have HL' := Lib.hid (HL.out.below hb10)
  have HU' := Lib.hid (HU.out.below hb10)
  have HE' := Lib.hid (HE.out.below hb10)
  have HZZ' := Lib.hid (Below.two HZZ.out hb10)
  clear hb10 HZZ HL HU HE
  have HZZ := HZZ'
  clear HZZ'
  have HL := HL'
  clear HL'
  have HU := HU'
  clear HU'
  have HE := HE'
  clear HE'
  go_wp2_with fail
  go_ret
  exact ⟨rfl, HZZ.out⟩
set_option maxHeartbeats 4000000 in
set_option maxRecDepth 100000 in
theorem wt_b2none (w : World) (m : Nat) (a b : Int) (v u : Value) (l : List Lk) (ws : List Int) (hn : l.length < 4611686018427387904) (hw : ws.length * 8 ≤ 140737488355328) (h : ArgK w v l) (hu : ArgI w u ws) (hrm : Room u) (he : ErrType w) (hg : gBad m l = 0) (hz : lengthG m l ws = none) (g1 : ¬ a < 0) (g2 : a ≥ (m : Int)) :
    Calls Tryd.prog 3 #[.int .i64 m, v, .int .i64 a, .int .i64 b, u] w fun e w' => e = .returned (.bool true) ∧ Below w.heap.size w w' := by
  have HL := Lib.hid (h)
  have HU := Lib.hid (hu)
  have HE := Lib.hid (he)
  have e1 : wayBad m l a b = 1 := by unfold wayBad; rw [if_neg (by omega), if_pos (by omega)]
  have HB := Lib.hid (fun w1 (h1 : ArgK w1 v l) => count_bad w1 m a b v l hn h1 (by rw [e1]; decide))
  have HC := Lib.hid (fun w1 (h1 : ArgK w1 v l) => first_bad w1 m a b v l hn h1 (by rw [e1]; decide))
  rw [e1, show errV 1 = .iface 25 (.int .i64 1) from rfl] at HB HC
  clear e1
  have HA := Lib.hid (fun w1 (h1 : ArgK w1 v l) (h2 : ArgI w1 u ws) => length_ok w1 m v u l ws hn (by omega) h1 h2 hrm hg)
  have HN := Lib.hid (fun w1 (h1 : ArgK w1 v l) (h2 : ArgI w1 u ws) => lengthOf_any w1 m v u l ws hn (by omega) h1 h2)
  rw [hz] at HA HN
  have HGf := Lib.hid (fun w1 (h1 : ArgK w1 v l) => graphFault_any w1 m v l hn h1)
  rw [hg] at HGf
  have HE1 := Lib.hid (errIs 1 (by decide))
  have HE2 := Lib.hid (errIs 2 (by decide))
  have HE3 := Lib.hid (errIs 3 (by decide))
  have HE0 := Lib.hid (fun w => same_nil 0 true rfl w)

  obtain ⟨pu, cu, rfl, _⟩ := id hu
  clear h hu he hz hrm hw
  have HZZ : Hid (Below w.heap.size w w) := Lib.hid (Below.refl _ _)
  go_enter Tryd.func3, Tryd.ntmps3
  go_wp2_with fail
  refine (gone_any w).mono ?_
  rintro e w1 ⟨rfl, hb1⟩
  have HL' := Lib.hid (HL.out.below hb1)
  have HU' := Lib.hid (HU.out.below hb1)
  have HE' := Lib.hid (HE.out.below hb1)
  have HZZ' := Lib.hid (Below.two HZZ.out hb1)
  clear hb1 HZZ HL HU HE
  have HZZ := HZZ'
  clear HZZ'
  have HL := HL'
  clear HL'
  have HU := HU'
  clear HU'
  have HE := HE'
  clear HE'
  go_wp2_with fail
  refine (HGf.out _ HL.out).mono ?_
  rintro e w2 ⟨rfl, hb2⟩
  have HL' := Lib.hid (HL.out.below hb2)
  have HU' := Lib.hid (HU.out.below hb2)
  have HE' := Lib.hid (HE.out.below hb2)
  have HZZ' := Lib.hid (Below.two HZZ.out hb2)
  clear hb2 HZZ HL HU HE
  have HZZ := HZZ'
  clear HZZ'
  have HL := HL'
  clear HL'
  have HU := HU'
  clear HU'
  have HE := HE'
  clear HE'
  go_wp2_with fail
  refine (HN.out _ HL.out HU.out).mono ?_
  rintro e w3 ⟨rfl, hb3⟩
  have HL' := Lib.hid (HL.out.below hb3)
  have HU' := Lib.hid (HU.out.below hb3)
  have HE' := Lib.hid (HE.out.below hb3)
  have HZZ' := Lib.hid (Below.two HZZ.out hb3)
  clear hb3 HZZ HL HU HE
  have HZZ := HZZ'
  clear HZZ'
  have HL := HL'
  clear HL'
  have HU := HU'
  clear HU'
  have HE := HE'
  clear HE'
  simp only [lenN]
  go_wp2_with fail
  refine (HA.out _ HL.out HU.out).mono ?_
  rintro e w4 ⟨rfl, hb4⟩
  have HL' := Lib.hid (HL.out.below hb4)
  have HU' := Lib.hid (HU.out.below hb4)
  have HE' := Lib.hid (HE.out.below hb4)
  have HZZ' := Lib.hid (Below.two HZZ.out hb4)
  clear hb4 HZZ HL HU HE
  have HZZ := HZZ'
  clear HZZ'
  have HL := HL'
  clear HL'
  have HU := HU'
  clear HU'
  have HE := HE'
  clear HE'
  simp only [lenE]
  go_wp2_with fail
  refine (HE3.out _ HE.out).mono ?_
  rintro e w5 ⟨rfl, hb5⟩
  have HL' := Lib.hid (HL.out.below hb5)
  have HU' := Lib.hid (HU.out.below hb5)
  have HE' := Lib.hid (HE.out.below hb5)
  have HZZ' := Lib.hid (Below.two HZZ.out hb5)
  clear hb5 HZZ HL HU HE
  have HZZ := HZZ'
  clear HZZ'
  have HL := HL'
  clear HL'
  have HU := HU'
  clear HU'
  have HE := HE'
  clear HE'
  go_wp2_with fail
  refine (HB.out _ HL.out).mono ?_
  rintro e w6 ⟨rfl, hb6⟩
  have HL' := Lib.hid (HL.out.below hb6)
  have HU' := Lib.hid (HU.out.below hb6)
  have HE' := Lib.hid (HE.out.below hb6)
  have HZZ' := Lib.hid (Below.two HZZ.out hb6)
  clear hb6 HZZ HL HU HE
  have HZZ := HZZ'
  clear HZZ'
  have HL := HL'
  clear HL'
  have HU := HU'
  clear HU'
  have HE := HE'
  clear HE'
  go_wp2_with fail
  refine (HE1.out _ HE.out).mono ?_
  rintro e w7 ⟨rfl, hb7⟩
  have HL' := Lib.hid (HL.out.below hb7)
  have HU' := Lib.hid (HU.out.below hb7)
  have HE' := Lib.hid (HE.out.below hb7)
  have HZZ' := Lib.hid (Below.two HZZ.out hb7)
  clear hb7 HZZ HL HU HE
  have HZZ := HZZ'
  clear HZZ'
  have HL := HL'
  clear HL'
  have HU := HU'
  clear HU'
  have HE := HE'
  clear HE'
  go_wp2_with fail
  refine (HC.out _ HL.out).mono ?_
  rintro e w8 ⟨rfl, hb8⟩
  have HL' := Lib.hid (HL.out.below hb8)
  have HU' := Lib.hid (HU.out.below hb8)
  have HE' := Lib.hid (HE.out.below hb8)
  have HZZ' := Lib.hid (Below.two HZZ.out hb8)
  clear hb8 HZZ HL HU HE
  have HZZ := HZZ'
  clear HZZ'
  have HL := HL'
  clear HL'
  have HU := HU'
  clear HU'
  have HE := HE'
  clear HE'
  go_wp2_with fail
  refine (HE1.out _ HE.out).mono ?_
  rintro e w9 ⟨rfl, hb9⟩
  have HL' := Lib.hid (HL.out.below hb9)
  have HU' := Lib.hid (HU.out.below hb9)
  have HE' := Lib.hid (HE.out.below hb9)
  have HZZ' := Lib.hid (Below.two HZZ.out hb9)
  clear hb9 HZZ HL HU HE
  have HZZ := HZZ'
  clear HZZ'
  have HL := HL'
  clear HL'
  have HU := HU'
  clear HU'
  have HE := HE'
  clear HE'
  go_wp2_with fail
  refine (ints_none w9).mono ?_
  rintro e w10 ⟨rfl, hb10⟩
  have HL' := Lib.hid (HL.out.below hb10)
  have HU' := Lib.hid (HU.out.below hb10)
  have HE' := Lib.hid (HE.out.below hb10)
  have HZZ' := Lib.hid (Below.two HZZ.out hb10)
  clear hb10 HZZ HL HU HE
  have HZZ := HZZ'
  clear HZZ'
  have HL := HL'
  clear HL'
  have HU := HU'
  clear HU'
  have HE := HE'
  clear HE'
  go_wp2_with fail
  go_ret
  exact ⟨rfl, HZZ.out⟩
set_option maxHeartbeats 4000000 in
set_option maxRecDepth 100000 in
theorem wt_b3none (w : World) (m : Nat) (a b : Int) (v u : Value) (l : List Lk) (ws : List Int) (hn : l.length < 4611686018427387904) (hw : ws.length * 8 ≤ 140737488355328) (h : ArgK w v l) (hu : ArgI w u ws) (hrm : Room u) (he : ErrType w) (hg : gBad m l = 0) (hz : lengthG m l ws = none) (g1 : ¬ a < 0) (g2 : ¬ a ≥ (m : Int)) (g3 : b < 0) :
    Calls Tryd.prog 3 #[.int .i64 m, v, .int .i64 a, .int .i64 b, u] w fun e w' => e = .returned (.bool true) ∧ Below w.heap.size w w' := by
  have HL := Lib.hid (h)
  have HU := Lib.hid (hu)
  have HE := Lib.hid (he)
  have e1 : wayBad m l a b = 1 := by unfold wayBad; rw [if_neg (by omega), if_pos (by omega)]
  have HB := Lib.hid (fun w1 (h1 : ArgK w1 v l) => count_bad w1 m a b v l hn h1 (by rw [e1]; decide))
  have HC := Lib.hid (fun w1 (h1 : ArgK w1 v l) => first_bad w1 m a b v l hn h1 (by rw [e1]; decide))
  rw [e1, show errV 1 = .iface 25 (.int .i64 1) from rfl] at HB HC
  clear e1
  have HA := Lib.hid (fun w1 (h1 : ArgK w1 v l) (h2 : ArgI w1 u ws) => length_ok w1 m v u l ws hn (by omega) h1 h2 hrm hg)
  have HN := Lib.hid (fun w1 (h1 : ArgK w1 v l) (h2 : ArgI w1 u ws) => lengthOf_any w1 m v u l ws hn (by omega) h1 h2)
  rw [hz] at HA HN
  have HGf := Lib.hid (fun w1 (h1 : ArgK w1 v l) => graphFault_any w1 m v l hn h1)
  rw [hg] at HGf
  have HE1 := Lib.hid (errIs 1 (by decide))
  have HE2 := Lib.hid (errIs 2 (by decide))
  have HE3 := Lib.hid (errIs 3 (by decide))
  have HE0 := Lib.hid (fun w => same_nil 0 true rfl w)

  obtain ⟨pu, cu, rfl, _⟩ := id hu
  clear h hu he hz hrm hw
  have HZZ : Hid (Below w.heap.size w w) := Lib.hid (Below.refl _ _)
  go_enter Tryd.func3, Tryd.ntmps3
  go_wp2_with fail
  refine (gone_any w).mono ?_
  rintro e w1 ⟨rfl, hb1⟩
  have HL' := Lib.hid (HL.out.below hb1)
  have HU' := Lib.hid (HU.out.below hb1)
  have HE' := Lib.hid (HE.out.below hb1)
  have HZZ' := Lib.hid (Below.two HZZ.out hb1)
  clear hb1 HZZ HL HU HE
  have HZZ := HZZ'
  clear HZZ'
  have HL := HL'
  clear HL'
  have HU := HU'
  clear HU'
  have HE := HE'
  clear HE'
  go_wp2_with fail
  refine (HGf.out _ HL.out).mono ?_
  rintro e w2 ⟨rfl, hb2⟩
  have HL' := Lib.hid (HL.out.below hb2)
  have HU' := Lib.hid (HU.out.below hb2)
  have HE' := Lib.hid (HE.out.below hb2)
  have HZZ' := Lib.hid (Below.two HZZ.out hb2)
  clear hb2 HZZ HL HU HE
  have HZZ := HZZ'
  clear HZZ'
  have HL := HL'
  clear HL'
  have HU := HU'
  clear HU'
  have HE := HE'
  clear HE'
  go_wp2_with fail
  refine (HN.out _ HL.out HU.out).mono ?_
  rintro e w3 ⟨rfl, hb3⟩
  have HL' := Lib.hid (HL.out.below hb3)
  have HU' := Lib.hid (HU.out.below hb3)
  have HE' := Lib.hid (HE.out.below hb3)
  have HZZ' := Lib.hid (Below.two HZZ.out hb3)
  clear hb3 HZZ HL HU HE
  have HZZ := HZZ'
  clear HZZ'
  have HL := HL'
  clear HL'
  have HU := HU'
  clear HU'
  have HE := HE'
  clear HE'
  simp only [lenN]
  go_wp2_with fail
  refine (HA.out _ HL.out HU.out).mono ?_
  rintro e w4 ⟨rfl, hb4⟩
  have HL' := Lib.hid (HL.out.below hb4)
  have HU' := Lib.hid (HU.out.below hb4)
  have HE' := Lib.hid (HE.out.below hb4)
  have HZZ' := Lib.hid (Below.two HZZ.out hb4)
  clear hb4 HZZ HL HU HE
  have HZZ := HZZ'
  clear HZZ'
  have HL := HL'
  clear HL'
  have HU := HU'
  clear HU'
  have HE := HE'
  clear HE'
  simp only [lenE]
  go_wp2_with fail
  refine (HE3.out _ HE.out).mono ?_
  rintro e w5 ⟨rfl, hb5⟩
  have HL' := Lib.hid (HL.out.below hb5)
  have HU' := Lib.hid (HU.out.below hb5)
  have HE' := Lib.hid (HE.out.below hb5)
  have HZZ' := Lib.hid (Below.two HZZ.out hb5)
  clear hb5 HZZ HL HU HE
  have HZZ := HZZ'
  clear HZZ'
  have HL := HL'
  clear HL'
  have HU := HU'
  clear HU'
  have HE := HE'
  clear HE'
  go_wp2_with fail
  refine (HB.out _ HL.out).mono ?_
  rintro e w6 ⟨rfl, hb6⟩
  have HL' := Lib.hid (HL.out.below hb6)
  have HU' := Lib.hid (HU.out.below hb6)
  have HE' := Lib.hid (HE.out.below hb6)
  have HZZ' := Lib.hid (Below.two HZZ.out hb6)
  clear hb6 HZZ HL HU HE
  have HZZ := HZZ'
  clear HZZ'
  have HL := HL'
  clear HL'
  have HU := HU'
  clear HU'
  have HE := HE'
  clear HE'
  go_wp2_with fail
  refine (HE1.out _ HE.out).mono ?_
  rintro e w7 ⟨rfl, hb7⟩
  have HL' := Lib.hid (HL.out.below hb7)
  have HU' := Lib.hid (HU.out.below hb7)
  have HE' := Lib.hid (HE.out.below hb7)
  have HZZ' := Lib.hid (Below.two HZZ.out hb7)
  clear hb7 HZZ HL HU HE
  have HZZ := HZZ'
  clear HZZ'
  have HL := HL'
  clear HL'
  have HU := HU'
  clear HU'
  have HE := HE'
  clear HE'
  go_wp2_with fail
  refine (HC.out _ HL.out).mono ?_
  rintro e w8 ⟨rfl, hb8⟩
  have HL' := Lib.hid (HL.out.below hb8)
  have HU' := Lib.hid (HU.out.below hb8)
  have HE' := Lib.hid (HE.out.below hb8)
  have HZZ' := Lib.hid (Below.two HZZ.out hb8)
  clear hb8 HZZ HL HU HE
  have HZZ := HZZ'
  clear HZZ'
  have HL := HL'
  clear HL'
  have HU := HU'
  clear HU'
  have HE := HE'
  clear HE'
  go_wp2_with fail
  refine (HE1.out _ HE.out).mono ?_
  rintro e w9 ⟨rfl, hb9⟩
  have HL' := Lib.hid (HL.out.below hb9)
  have HU' := Lib.hid (HU.out.below hb9)
  have HE' := Lib.hid (HE.out.below hb9)
  have HZZ' := Lib.hid (Below.two HZZ.out hb9)
  clear hb9 HZZ HL HU HE
  have HZZ := HZZ'
  clear HZZ'
  have HL := HL'
  clear HL'
  have HU := HU'
  clear HU'
  have HE := HE'
  clear HE'
  go_wp2_with fail
  refine (ints_none w9).mono ?_
  rintro e w10 ⟨rfl, hb10⟩
  have HL' := Lib.hid (HL.out.below hb10)
  have HU' := Lib.hid (HU.out.below hb10)
  have HE' := Lib.hid (HE.out.below hb10)
  have HZZ' := Lib.hid (Below.two HZZ.out hb10)
  clear hb10 HZZ HL HU HE
  have HZZ := HZZ'
  clear HZZ'
  have HL := HL'
  clear HL'
  have HU := HU'
  clear HU'
  have HE := HE'
  clear HE'
  go_wp2_with fail
  go_ret
  exact ⟨rfl, HZZ.out⟩
set_option maxHeartbeats 4000000 in
set_option maxRecDepth 100000 in
theorem wt_b4none (w : World) (m : Nat) (a b : Int) (v u : Value) (l : List Lk) (ws : List Int) (hn : l.length < 4611686018427387904) (hw : ws.length * 8 ≤ 140737488355328) (h : ArgK w v l) (hu : ArgI w u ws) (hrm : Room u) (he : ErrType w) (hg : gBad m l = 0) (hz : lengthG m l ws = none) (g1 : ¬ a < 0) (g2 : ¬ a ≥ (m : Int)) (g3 : ¬ b < 0) (g4 : b ≥ (m : Int)) :
    Calls Tryd.prog 3 #[.int .i64 m, v, .int .i64 a, .int .i64 b, u] w fun e w' => e = .returned (.bool true) ∧ Below w.heap.size w w' := by
  have HL := Lib.hid (h)
  have HU := Lib.hid (hu)
  have HE := Lib.hid (he)
  have e1 : wayBad m l a b = 1 := by unfold wayBad; rw [if_neg (by omega), if_pos (by omega)]
  have HB := Lib.hid (fun w1 (h1 : ArgK w1 v l) => count_bad w1 m a b v l hn h1 (by rw [e1]; decide))
  have HC := Lib.hid (fun w1 (h1 : ArgK w1 v l) => first_bad w1 m a b v l hn h1 (by rw [e1]; decide))
  rw [e1, show errV 1 = .iface 25 (.int .i64 1) from rfl] at HB HC
  clear e1
  have HA := Lib.hid (fun w1 (h1 : ArgK w1 v l) (h2 : ArgI w1 u ws) => length_ok w1 m v u l ws hn (by omega) h1 h2 hrm hg)
  have HN := Lib.hid (fun w1 (h1 : ArgK w1 v l) (h2 : ArgI w1 u ws) => lengthOf_any w1 m v u l ws hn (by omega) h1 h2)
  rw [hz] at HA HN
  have HGf := Lib.hid (fun w1 (h1 : ArgK w1 v l) => graphFault_any w1 m v l hn h1)
  rw [hg] at HGf
  have HE1 := Lib.hid (errIs 1 (by decide))
  have HE2 := Lib.hid (errIs 2 (by decide))
  have HE3 := Lib.hid (errIs 3 (by decide))
  have HE0 := Lib.hid (fun w => same_nil 0 true rfl w)

  obtain ⟨pu, cu, rfl, _⟩ := id hu
  clear h hu he hz hrm hw
  have HZZ : Hid (Below w.heap.size w w) := Lib.hid (Below.refl _ _)
  go_enter Tryd.func3, Tryd.ntmps3
  go_wp2_with fail
  refine (gone_any w).mono ?_
  rintro e w1 ⟨rfl, hb1⟩
  have HL' := Lib.hid (HL.out.below hb1)
  have HU' := Lib.hid (HU.out.below hb1)
  have HE' := Lib.hid (HE.out.below hb1)
  have HZZ' := Lib.hid (Below.two HZZ.out hb1)
  clear hb1 HZZ HL HU HE
  have HZZ := HZZ'
  clear HZZ'
  have HL := HL'
  clear HL'
  have HU := HU'
  clear HU'
  have HE := HE'
  clear HE'
  go_wp2_with fail
  refine (HGf.out _ HL.out).mono ?_
  rintro e w2 ⟨rfl, hb2⟩
  have HL' := Lib.hid (HL.out.below hb2)
  have HU' := Lib.hid (HU.out.below hb2)
  have HE' := Lib.hid (HE.out.below hb2)
  have HZZ' := Lib.hid (Below.two HZZ.out hb2)
  clear hb2 HZZ HL HU HE
  have HZZ := HZZ'
  clear HZZ'
  have HL := HL'
  clear HL'
  have HU := HU'
  clear HU'
  have HE := HE'
  clear HE'
  go_wp2_with fail
  refine (HN.out _ HL.out HU.out).mono ?_
  rintro e w3 ⟨rfl, hb3⟩
  have HL' := Lib.hid (HL.out.below hb3)
  have HU' := Lib.hid (HU.out.below hb3)
  have HE' := Lib.hid (HE.out.below hb3)
  have HZZ' := Lib.hid (Below.two HZZ.out hb3)
  clear hb3 HZZ HL HU HE
  have HZZ := HZZ'
  clear HZZ'
  have HL := HL'
  clear HL'
  have HU := HU'
  clear HU'
  have HE := HE'
  clear HE'
  simp only [lenN]
  go_wp2_with fail
  refine (HA.out _ HL.out HU.out).mono ?_
  rintro e w4 ⟨rfl, hb4⟩
  have HL' := Lib.hid (HL.out.below hb4)
  have HU' := Lib.hid (HU.out.below hb4)
  have HE' := Lib.hid (HE.out.below hb4)
  have HZZ' := Lib.hid (Below.two HZZ.out hb4)
  clear hb4 HZZ HL HU HE
  have HZZ := HZZ'
  clear HZZ'
  have HL := HL'
  clear HL'
  have HU := HU'
  clear HU'
  have HE := HE'
  clear HE'
  simp only [lenE]
  go_wp2_with fail
  refine (HE3.out _ HE.out).mono ?_
  rintro e w5 ⟨rfl, hb5⟩
  have HL' := Lib.hid (HL.out.below hb5)
  have HU' := Lib.hid (HU.out.below hb5)
  have HE' := Lib.hid (HE.out.below hb5)
  have HZZ' := Lib.hid (Below.two HZZ.out hb5)
  clear hb5 HZZ HL HU HE
  have HZZ := HZZ'
  clear HZZ'
  have HL := HL'
  clear HL'
  have HU := HU'
  clear HU'
  have HE := HE'
  clear HE'
  go_wp2_with fail
  refine (HB.out _ HL.out).mono ?_
  rintro e w6 ⟨rfl, hb6⟩
  have HL' := Lib.hid (HL.out.below hb6)
  have HU' := Lib.hid (HU.out.below hb6)
  have HE' := Lib.hid (HE.out.below hb6)
  have HZZ' := Lib.hid (Below.two HZZ.out hb6)
  clear hb6 HZZ HL HU HE
  have HZZ := HZZ'
  clear HZZ'
  have HL := HL'
  clear HL'
  have HU := HU'
  clear HU'
  have HE := HE'
  clear HE'
  go_wp2_with fail
  refine (HE1.out _ HE.out).mono ?_
  rintro e w7 ⟨rfl, hb7⟩
  have HL' := Lib.hid (HL.out.below hb7)
  have HU' := Lib.hid (HU.out.below hb7)
  have HE' := Lib.hid (HE.out.below hb7)
  have HZZ' := Lib.hid (Below.two HZZ.out hb7)
  clear hb7 HZZ HL HU HE
  have HZZ := HZZ'
  clear HZZ'
  have HL := HL'
  clear HL'
  have HU := HU'
  clear HU'
  have HE := HE'
  clear HE'
  go_wp2_with fail
  refine (HC.out _ HL.out).mono ?_
  rintro e w8 ⟨rfl, hb8⟩
  have HL' := Lib.hid (HL.out.below hb8)
  have HU' := Lib.hid (HU.out.below hb8)
  have HE' := Lib.hid (HE.out.below hb8)
  have HZZ' := Lib.hid (Below.two HZZ.out hb8)
  clear hb8 HZZ HL HU HE
  have HZZ := HZZ'
  clear HZZ'
  have HL := HL'
  clear HL'
  have HU := HU'
  clear HU'
  have HE := HE'
  clear HE'
  go_wp2_with fail
  refine (HE1.out _ HE.out).mono ?_
  rintro e w9 ⟨rfl, hb9⟩
  have HL' := Lib.hid (HL.out.below hb9)
  have HU' := Lib.hid (HU.out.below hb9)
  have HE' := Lib.hid (HE.out.below hb9)
  have HZZ' := Lib.hid (Below.two HZZ.out hb9)
  clear hb9 HZZ HL HU HE
  have HZZ := HZZ'
  clear HZZ'
  have HL := HL'
  clear HL'
  have HU := HU'
  clear HU'
  have HE := HE'
  clear HE'
  go_wp2_with fail
  refine (ints_none w9).mono ?_
  rintro e w10 ⟨rfl, hb10⟩
  have HL' := Lib.hid (HL.out.below hb10)
  have HU' := Lib.hid (HU.out.below hb10)
  have HE' := Lib.hid (HE.out.below hb10)
  have HZZ' := Lib.hid (Below.two HZZ.out hb10)
  clear hb10 HZZ HL HU HE
  have HZZ := HZZ'
  clear HZZ'
  have HL := HL'
  clear HL'
  have HU := HU'
  clear HU'
  have HE := HE'
  clear HE'
  go_wp2_with fail
  go_ret
  exact ⟨rfl, HZZ.out⟩
set_option maxHeartbeats 4000000 in
set_option maxRecDepth 100000 in
theorem wt_c1none (w : World) (m s t : Nat) (v u : Value) (l : List Lk) (ws : List Int) (hn : l.length < 4611686018427387904) (hw : ws.length * 8 ≤ 140737488355328) (h : ArgK w v l) (hu : ArgI w u ws) (hrm : Room u) (he : ErrType w) (hg : gBad m l = 0) (hs : s < m) (ht : t < m) (hz : lengthG m l ws = none) (h16 : ¬ BellP.far m (BellP.ct l) t s < 16) :
    Calls Tryd.prog 3 #[.int .i64 m, v, .int .i64 s, .int .i64 t, u] w fun e w' => e = .returned (.bool true) ∧ Below w.heap.size w w' := by
  have HL := Lib.hid (h)
  have HU := Lib.hid (hu)
  have HE := Lib.hid (he)
  have hR := ((gBad_zero m l).1 hg).2
  have hm := ((gBad_zero m l).1 hg).1
  have HR := Lib.hid hR
  have HK := Lib.hid (BellP.ct_cost hR)
  have HB := Lib.hid (fun w1 (h1 : ArgK w1 v l) => count_ok w1 m s t v l hn h1 hg hs ht)
  have z0 : ¬ (s : Int) < 0 := by omega
  have z1 : ¬ (s : Int) ≥ (m : Int) := by omega
  have z2 : ¬ (t : Int) < 0 := by omega
  have z3 : ¬ (t : Int) ≥ (m : Int) := by omega
  have HA := Lib.hid (fun w1 (h1 : ArgK w1 v l) (h2 : ArgI w1 u ws) => length_ok w1 m v u l ws hn (by omega) h1 h2 hrm hg)
  have HN := Lib.hid (fun w1 (h1 : ArgK w1 v l) (h2 : ArgI w1 u ws) => lengthOf_any w1 m v u l ws hn (by omega) h1 h2)
  rw [hz] at HA HN
  have HGf := Lib.hid (fun w1 (h1 : ArgK w1 v l) => graphFault_any w1 m v l hn h1)
  rw [hg] at HGf
  have HE1 := Lib.hid (errIs 1 (by decide))
  have HE2 := Lib.hid (errIs 2 (by decide))
  have HE3 := Lib.hid (errIs 3 (by decide))
  have HE0 := Lib.hid (fun w => same_nil 0 true rfl w)

  have hne : s ≠ t := fun e => h16 (by rw [e, BellP.far_to HK.out ht]; omega)
  have HC := Lib.hid (fun w1 (h1 : ArgK w1 v l) => first_none w1 m s t v l hn h1 hg hs ht hne h16)
  have e1 : WaysP.num m (BellP.ct l) t s = 0 := by unfold WaysP.num WaysP.al; rw [if_neg h16]; rfl
  rw [e1] at HB
  have h16' : ¬ (BellP.far m (BellP.ct l) t s : Int) < 16 := by omega
  clear e1 hne h16 hR
  obtain ⟨pu, cu, rfl, _⟩ := id hu
  clear h hu he hz hrm hw
  have HZZ : Hid (Below w.heap.size w w) := Lib.hid (Below.refl _ _)
  go_enter Tryd.func3, Tryd.ntmps3
  go_wp2_with fail
  refine (gone_any w).mono ?_
  rintro e w1 ⟨rfl, hb1⟩
  have HL' := Lib.hid (HL.out.below hb1)
  have HU' := Lib.hid (HU.out.below hb1)
  have HE' := Lib.hid (HE.out.below hb1)
  have HZZ' := Lib.hid (Below.two HZZ.out hb1)
  clear hb1 HZZ HL HU HE
  have HZZ := HZZ'
  clear HZZ'
  have HL := HL'
  clear HL'
  have HU := HU'
  clear HU'
  have HE := HE'
  clear HE'
  go_wp2_with fail
  refine (HGf.out _ HL.out).mono ?_
  rintro e w2 ⟨rfl, hb2⟩
  have HL' := Lib.hid (HL.out.below hb2)
  have HU' := Lib.hid (HU.out.below hb2)
  have HE' := Lib.hid (HE.out.below hb2)
  have HZZ' := Lib.hid (Below.two HZZ.out hb2)
  clear hb2 HZZ HL HU HE
  have HZZ := HZZ'
  clear HZZ'
  have HL := HL'
  clear HL'
  have HU := HU'
  clear HU'
  have HE := HE'
  clear HE'
  go_wp2_with fail
  refine (HN.out _ HL.out HU.out).mono ?_
  rintro e w3 ⟨rfl, hb3⟩
  have HL' := Lib.hid (HL.out.below hb3)
  have HU' := Lib.hid (HU.out.below hb3)
  have HE' := Lib.hid (HE.out.below hb3)
  have HZZ' := Lib.hid (Below.two HZZ.out hb3)
  clear hb3 HZZ HL HU HE
  have HZZ := HZZ'
  clear HZZ'
  have HL := HL'
  clear HL'
  have HU := HU'
  clear HU'
  have HE := HE'
  clear HE'
  simp only [lenN]
  go_wp2_with fail
  refine (farOf_any w3 m t v l (by omega) ht hn HR.out HL.out).mono ?_
  rintro e w4 ⟨gf, cf, _, rfl, hV, hb4⟩
  have HL' := Lib.hid (HL.out.below hb4)
  have HU' := Lib.hid (HU.out.below hb4)
  have HE' := Lib.hid (HE.out.below hb4)
  have HZZ' := Lib.hid (Below.two HZZ.out hb4)
  have HX := Lib.hid (hV)
  clear hb4 HZZ HL HU HE
  have HZZ := HZZ'
  clear HZZ'
  have HL := HL'
  clear HL'
  have HU := HU'
  clear HU'
  have HE := HE'
  clear HE'
  clear hV
  have x0 := HX.out.c s hs
  generalize BellP.far m (BellP.ct l) t s = F at x0 h16'
  go_wp2_with fail
  refine (HA.out _ HL.out HU.out).mono ?_
  rintro e w5 ⟨rfl, hb5⟩
  have HL' := Lib.hid (HL.out.below hb5)
  have HU' := Lib.hid (HU.out.below hb5)
  have HE' := Lib.hid (HE.out.below hb5)
  have HX' := Lib.hid (HX.out.keep hb5)
  have HZZ' := Lib.hid (Below.two HZZ.out hb5)
  clear hb5 HZZ HL HU HE HX
  have HZZ := HZZ'
  clear HZZ'
  have HL := HL'
  clear HL'
  have HU := HU'
  clear HU'
  have HE := HE'
  clear HE'
  have HX := HX'
  clear HX'
  simp only [lenE]
  go_wp2_with fail
  refine (HE3.out _ HE.out).mono ?_
  rintro e w6 ⟨rfl, hb6⟩
  have HL' := Lib.hid (HL.out.below hb6)
  have HU' := Lib.hid (HU.out.below hb6)
  have HE' := Lib.hid (HE.out.below hb6)
  have HX' := Lib.hid (HX.out.keep hb6)
  have HZZ' := Lib.hid (Below.two HZZ.out hb6)
  clear hb6 HZZ HL HU HE HX
  have HZZ := HZZ'
  clear HZZ'
  have HL := HL'
  clear HL'
  have HU := HU'
  clear HU'
  have HE := HE'
  clear HE'
  have HX := HX'
  clear HX'
  go_wp2_with fail
  refine (HB.out _ HL.out).mono ?_
  rintro e w7 ⟨rfl, hb7⟩
  have HL' := Lib.hid (HL.out.below hb7)
  have HU' := Lib.hid (HU.out.below hb7)
  have HE' := Lib.hid (HE.out.below hb7)
  have HX' := Lib.hid (HX.out.keep hb7)
  have HZZ' := Lib.hid (Below.two HZZ.out hb7)
  clear hb7 HZZ HL HU HE HX
  have HZZ := HZZ'
  clear HZZ'
  have HL := HL'
  clear HL'
  have HU := HU'
  clear HU'
  have HE := HE'
  clear HE'
  have HX := HX'
  clear HX'
  go_wp2_with fail
  refine (HE0.out w7).mono ?_
  rintro e w8' ⟨rfl, rfl⟩
  go_wp2_with fail
  refine (HC.out _ HL.out).mono ?_
  rintro e w9 ⟨rfl, hb9⟩
  have HL' := Lib.hid (HL.out.below hb9)
  have HU' := Lib.hid (HU.out.below hb9)
  have HE' := Lib.hid (HE.out.below hb9)
  have HX' := Lib.hid (HX.out.keep hb9)
  have HZZ' := Lib.hid (Below.two HZZ.out hb9)
  clear hb9 HZZ HL HU HE HX
  have HZZ := HZZ'
  clear HZZ'
  have HL := HL'
  clear HL'
  have HU := HU'
  clear HU'
  have HE := HE'
  clear HE'
  have HX := HX'
  clear HX'
  go_wp2_with fail
  refine (HE2.out _ HE.out).mono ?_
  rintro e w10 ⟨rfl, hb10⟩
  have HL' := Lib.hid (HL.out.below hb10)
  have HU' := Lib.hid (HU.out.below hb10)
  have HE' := Lib.hid (HE.out.below hb10)
  have HX' := Lib.hid (HX.out.keep hb10)
  have HZZ' := Lib.hid (Below.two HZZ.out hb10)
  clear hb10 HZZ HL HU HE HX
  have HZZ := HZZ'
  clear HZZ'
  have HL := HL'
  clear HL'
  have HU := HU'
  clear HU'
  have HE := HE'
  clear HE'
  have HX := HX'
  clear HX'
  go_wp2_with fail
  refine (ints_none w10).mono ?_
  rintro e w11 ⟨rfl, hb11⟩
  have HL' := Lib.hid (HL.out.below hb11)
  have HU' := Lib.hid (HU.out.below hb11)
  have HE' := Lib.hid (HE.out.below hb11)
  have HX' := Lib.hid (HX.out.keep hb11)
  have HZZ' := Lib.hid (Below.two HZZ.out hb11)
  clear hb11 HZZ HL HU HE HX
  have HZZ := HZZ'
  clear HZZ'
  have HL := HL'
  clear HL'
  have HU := HU'
  clear HU'
  have HE := HE'
  clear HE'
  have HX := HX'
  clear HX'
  go_wp2_with fail
  go_ret
  exact ⟨rfl, HZZ.out⟩
set_option maxHeartbeats 4000000 in
set_option maxRecDepth 100000 in
theorem wt_c2none (w : World) (m s t : Nat) (v u : Value) (l : List Lk) (ws : List Int) (hn : l.length < 4611686018427387904) (hw : ws.length * 8 ≤ 140737488355328) (h : ArgK w v l) (hu : ArgI w u ws) (hrm : Room u) (he : ErrType w) (hg : gBad m l = 0) (hs : s < m) (ht : t < m) (hz : lengthG m l ws = none) (h16 : BellP.far m (BellP.ct l) t s < 16) :
    Calls Tryd.prog 3 #[.int .i64 m, v, .int .i64 s, .int .i64 t, u] w fun e w' => e = .returned (.bool true) ∧ Below w.heap.size w w' := by
  have HL := Lib.hid (h)
  have HU := Lib.hid (hu)
  have HE := Lib.hid (he)
  have hR := ((gBad_zero m l).1 hg).2
  have hm := ((gBad_zero m l).1 hg).1
  have HR := Lib.hid hR
  have HK := Lib.hid (BellP.ct_cost hR)
  have HB := Lib.hid (fun w1 (h1 : ArgK w1 v l) => count_ok w1 m s t v l hn h1 hg hs ht)
  have z0 : ¬ (s : Int) < 0 := by omega
  have z1 : ¬ (s : Int) ≥ (m : Int) := by omega
  have z2 : ¬ (t : Int) < 0 := by omega
  have z3 : ¬ (t : Int) ≥ (m : Int) := by omega
  have HA := Lib.hid (fun w1 (h1 : ArgK w1 v l) (h2 : ArgI w1 u ws) => length_ok w1 m v u l ws hn (by omega) h1 h2 hrm hg)
  have HN := Lib.hid (fun w1 (h1 : ArgK w1 v l) (h2 : ArgI w1 u ws) => lengthOf_any w1 m v u l ws hn (by omega) h1 h2)
  rw [hz] at HA HN
  have HGf := Lib.hid (fun w1 (h1 : ArgK w1 v l) => graphFault_any w1 m v l hn h1)
  rw [hg] at HGf
  have HE1 := Lib.hid (errIs 1 (by decide))
  have HE2 := Lib.hid (errIs 2 (by decide))
  have HE3 := Lib.hid (errIs 3 (by decide))
  have HE0 := Lib.hid (fun w => same_nil 0 true rfl w)

  have HC := Lib.hid (fun w1 (h1 : ArgK w1 v l) => first_ok w1 m s t v l hn h1 hg hs ht h16)
  have HSh := Lib.hid (fun w1 (h1 : ArgK w1 v l) => shortest_any m t v l hn hR (by omega) ht 16 w1 s (BellP.far m (BellP.ct l) t s) h1 hs h16 (by omega))
  have HAl := Lib.hid (show WaysP.al m (BellP.ct l) t s = WaysP.sh m (BellP.ct l) t 16 (BellP.far m (BellP.ct l) t s) s from if_pos h16)
  have HNe := Lib.hid ((WaysP.al_ne HK.out hs ht).2 h16)
  have HLen := Lib.hid ((WaysP.fst_wk HK.out hs ht h16).short HK.out)
  have h16' : (BellP.far m (BellP.ct l) t s : Int) < 16 := by omega
  rw [← HAl.out] at HSh
  have HDb := Lib.hid (BellP.far_bd m (BellP.ct l) t s)
  have HM0 : Hid ((zz (WaysP.al m (BellP.ct l) t s))[0]! = WaysP.zs (WaysP.fst m (BellP.ct l) t s)) := Lib.hid (by
    have h1 := HNe.out
    unfold WaysP.fst
    cases e : WaysP.al m (BellP.ct l) t s with
    | nil => exact absurd e h1
    | cons p r => rfl)
  have HMl : Hid (0 < (zz (WaysP.al m (BellP.ct l) t s)).length) := Lib.hid (by rw [zz_len]; exact List.length_pos_iff.2 HNe.out)
  rw [show WaysP.num m (BellP.ct l) t s = (zz (WaysP.al m (BellP.ct l) t s)).length from (zz_len _).symm] at HB
  generalize zz (WaysP.al m (BellP.ct l) t s) = M at HB HSh HM0 HMl
  clear h16 hR HAl HNe
  obtain ⟨pu, cu, rfl, _⟩ := id hu
  clear h hu he hz hrm hw
  have HZZ : Hid (Below w.heap.size w w) := Lib.hid (Below.refl _ _)
  go_enter Tryd.func3, Tryd.ntmps3
  go_wp2_with fail
  refine (gone_any w).mono ?_
  rintro e w1 ⟨rfl, hb1⟩
  have HL' := Lib.hid (HL.out.below hb1)
  have HU' := Lib.hid (HU.out.below hb1)
  have HE' := Lib.hid (HE.out.below hb1)
  have HZZ' := Lib.hid (Below.two HZZ.out hb1)
  clear hb1 HZZ HL HU HE
  have HZZ := HZZ'
  clear HZZ'
  have HL := HL'
  clear HL'
  have HU := HU'
  clear HU'
  have HE := HE'
  clear HE'
  go_wp2_with fail
  refine (HGf.out _ HL.out).mono ?_
  rintro e w2 ⟨rfl, hb2⟩
  have HL' := Lib.hid (HL.out.below hb2)
  have HU' := Lib.hid (HU.out.below hb2)
  have HE' := Lib.hid (HE.out.below hb2)
  have HZZ' := Lib.hid (Below.two HZZ.out hb2)
  clear hb2 HZZ HL HU HE
  have HZZ := HZZ'
  clear HZZ'
  have HL := HL'
  clear HL'
  have HU := HU'
  clear HU'
  have HE := HE'
  clear HE'
  go_wp2_with fail
  refine (HN.out _ HL.out HU.out).mono ?_
  rintro e w3 ⟨rfl, hb3⟩
  have HL' := Lib.hid (HL.out.below hb3)
  have HU' := Lib.hid (HU.out.below hb3)
  have HE' := Lib.hid (HE.out.below hb3)
  have HZZ' := Lib.hid (Below.two HZZ.out hb3)
  clear hb3 HZZ HL HU HE
  have HZZ := HZZ'
  clear HZZ'
  have HL := HL'
  clear HL'
  have HU := HU'
  clear HU'
  have HE := HE'
  clear HE'
  simp only [lenN]
  go_wp2_with fail
  refine (farOf_any w3 m t v l (by omega) ht hn HR.out HL.out).mono ?_
  rintro e w4 ⟨gf, cf, _, rfl, hV, hb4⟩
  have HL' := Lib.hid (HL.out.below hb4)
  have HU' := Lib.hid (HU.out.below hb4)
  have HE' := Lib.hid (HE.out.below hb4)
  have HZZ' := Lib.hid (Below.two HZZ.out hb4)
  have HX := Lib.hid (hV)
  clear hb4 HZZ HL HU HE
  have HZZ := HZZ'
  clear HZZ'
  have HL := HL'
  clear HL'
  have HU := HU'
  clear HU'
  have HE := HE'
  clear HE'
  clear hV
  have x0 := HX.out.c s hs
  go_wp2_with fail
  refine (farOf_any w4 m t v l (by omega) ht hn HR.out HL.out).mono ?_
  rintro e w5 ⟨gg, cg, _, rfl, hV, hb5⟩
  have HL' := Lib.hid (HL.out.below hb5)
  have HU' := Lib.hid (HU.out.below hb5)
  have HE' := Lib.hid (HE.out.below hb5)
  have HX' := Lib.hid (HX.out.keep hb5)
  have HZZ' := Lib.hid (Below.two HZZ.out hb5)
  have HY := Lib.hid (hV)
  clear hb5 HZZ HL HU HE HX
  have HZZ := HZZ'
  clear HZZ'
  have HL := HL'
  clear HL'
  have HU := HU'
  clear HU'
  have HE := HE'
  clear HE'
  have HX := HX'
  clear HX'
  clear hV x0 HX
  have x0 := HY.out.c s hs
  go_wp2_with fail
  refine (HSh.out _ HL.out).mono ?_
  rintro e w6 ⟨u6, rfl, hO6, hb6⟩
  have HL' := Lib.hid (HL.out.below hb6)
  have HU' := Lib.hid (HU.out.below hb6)
  have HE' := Lib.hid (HE.out.below hb6)
  have HY' := Lib.hid (HY.out.keep hb6)
  have HZZ' := Lib.hid (Below.two HZZ.out hb6)
  clear hb6 HZZ HL HU HE HY
  have HZZ := HZZ'
  clear HZZ'
  have HL := HL'
  clear HL'
  have HU := HU'
  clear HU'
  have HE := HE'
  clear HE'
  have HY := HY'
  clear HY'
  clear HY x0
  obtain ⟨p6, c6, rfl, hr6⟩ := hO6.arg
  rcases hr6 with e | ⟨b6, o6, rfl, hb6', hS6⟩
  · have := HMl.out
    rw [e] at this
    exact absurd this (by simp)
  obtain ⟨q6, x0, hq6⟩ := hS6 0 HMl.out
  rw [HM0.out] at hq6
  rw [Nat.add_zero] at x0
  obtain ⟨pq, cq, rfl, _⟩ := id hq6
  have HQ := Lib.hid hq6
  have tl : ((M.length : Int) == 0) = false := by
    have := HMl.out
    have : ¬ (M.length : Int) = 0 := by omega
    simpa using this
  have tm : 0 < (M.length : Int) := by have := HMl.out; omega
  clear hO6 hS6 hq6 hb6'
  go_wp2_with fail
  refine (HA.out _ HL.out HU.out).mono ?_
  rintro e w7 ⟨rfl, hb7⟩
  have HL' := Lib.hid (HL.out.below hb7)
  have HU' := Lib.hid (HU.out.below hb7)
  have HE' := Lib.hid (HE.out.below hb7)
  have HQ' := Lib.hid (HQ.out.below hb7)
  have HZZ' := Lib.hid (Below.two HZZ.out hb7)
  clear hb7 HZZ HL HU HE HQ
  have HZZ := HZZ'
  clear HZZ'
  have HL := HL'
  clear HL'
  have HU := HU'
  clear HU'
  have HE := HE'
  clear HE'
  have HQ := HQ'
  clear HQ'
  simp only [lenE]
  go_wp2_with fail
  refine (HE3.out _ HE.out).mono ?_
  rintro e w8 ⟨rfl, hb8⟩
  have HL' := Lib.hid (HL.out.below hb8)
  have HU' := Lib.hid (HU.out.below hb8)
  have HE' := Lib.hid (HE.out.below hb8)
  have HQ' := Lib.hid (HQ.out.below hb8)
  have HZZ' := Lib.hid (Below.two HZZ.out hb8)
  clear hb8 HZZ HL HU HE HQ
  have HZZ := HZZ'
  clear HZZ'
  have HL := HL'
  clear HL'
  have HU := HU'
  clear HU'
  have HE := HE'
  clear HE'
  have HQ := HQ'
  clear HQ'
  go_wp2_with fail
  refine (HB.out _ HL.out).mono ?_
  rintro e w9 ⟨rfl, hb9⟩
  have HL' := Lib.hid (HL.out.below hb9)
  have HU' := Lib.hid (HU.out.below hb9)
  have HE' := Lib.hid (HE.out.below hb9)
  have HQ' := Lib.hid (HQ.out.below hb9)
  have HZZ' := Lib.hid (Below.two HZZ.out hb9)
  clear hb9 HZZ HL HU HE HQ
  have HZZ := HZZ'
  clear HZZ'
  have HL := HL'
  clear HL'
  have HU := HU'
  clear HU'
  have HE := HE'
  clear HE'
  have HQ := HQ'
  clear HQ'
  go_wp2_with fail
  refine (HE0.out w9).mono ?_
  rintro e w10' ⟨rfl, rfl⟩
  go_wp2_with fail
  refine (HC.out _ HL.out).mono ?_
  rintro e w11 ⟨pv, rfl, hP, hb11⟩
  have HL' := Lib.hid (HL.out.below hb11)
  have HU' := Lib.hid (HU.out.below hb11)
  have HE' := Lib.hid (HE.out.below hb11)
  have HQ' := Lib.hid (HQ.out.below hb11)
  have HZZ' := Lib.hid (Below.two HZZ.out hb11)
  have HP := Lib.hid (hP)
  clear hb11 HZZ HL HU HE HQ
  have HZZ := HZZ'
  clear HZZ'
  have HL := HL'
  clear HL'
  have HU := HU'
  clear HU'
  have HE := HE'
  clear HE'
  have HQ := HQ'
  clear HQ'
  obtain ⟨pp, cp, rfl, _⟩ := hP.arg
  clear hP
  go_wp2_with fail
  refine (HE0.out w11).mono ?_
  rintro e w12' ⟨rfl, rfl⟩
  go_wp2_with fail
  refine (ints_same w11 _ _ _ (by rw [WaysP.zs_len]; have := HLen.out; have := HDb.out; omega) HP.out.arg HQ.out).mono ?_
  rintro e w13 ⟨rfl, hb13⟩
  have HL' := Lib.hid (HL.out.below hb13)
  have HU' := Lib.hid (HU.out.below hb13)
  have HE' := Lib.hid (HE.out.below hb13)
  have HQ' := Lib.hid (HQ.out.below hb13)
  have HP' := Lib.hid (HP.out.keep hb13)
  have HZZ' := Lib.hid (Below.two HZZ.out hb13)
  clear hb13 HZZ HL HU HE HQ HP
  have HZZ := HZZ'
  clear HZZ'
  have HL := HL'
  clear HL'
  have HU := HU'
  clear HU'
  have HE := HE'
  clear HE'
  have HQ := HQ'
  clear HQ'
  have HP := HP'
  clear HP'
  go_wp2_with fail
  go_ret
  exact ⟨rfl, HZZ.out⟩
set_option maxHeartbeats 4000000 in
set_option maxRecDepth 100000 in
theorem wt_b1some (w : World) (m : Nat) (a b : Int) (v u : Value) (l : List Lk) (ws : List Int) (hn : l.length < 4611686018427387904) (hw : ws.length * 8 ≤ 140737488355328) (h : ArgK w v l) (hu : ArgI w u ws) (hrm : Room u) (he : ErrType w) (hg : gBad m l = 0) (z : Int) (hz : lengthG m l ws = some z) (g1 : a < 0) :
    Calls Tryd.prog 3 #[.int .i64 m, v, .int .i64 a, .int .i64 b, u] w fun e w' => e = .returned (.bool true) ∧ Below w.heap.size w w' := by
  have HL := Lib.hid (h)
  have HU := Lib.hid (hu)
  have HE := Lib.hid (he)
  have e1 : wayBad m l a b = 1 := by unfold wayBad; rw [if_neg (by omega), if_pos (by omega)]
  have HB := Lib.hid (fun w1 (h1 : ArgK w1 v l) => count_bad w1 m a b v l hn h1 (by rw [e1]; decide))
  have HC := Lib.hid (fun w1 (h1 : ArgK w1 v l) => first_bad w1 m a b v l hn h1 (by rw [e1]; decide))
  rw [e1, show errV 1 = .iface 25 (.int .i64 1) from rfl] at HB HC
  clear e1
  have HA := Lib.hid (fun w1 (h1 : ArgK w1 v l) (h2 : ArgI w1 u ws) => length_ok w1 m v u l ws hn (by omega) h1 h2 hrm hg)
  have HN := Lib.hid (fun w1 (h1 : ArgK w1 v l) (h2 : ArgI w1 u ws) => lengthOf_any w1 m v u l ws hn (by omega) h1 h2)
  rw [hz] at HA HN
  have HGf := Lib.hid (fun w1 (h1 : ArgK w1 v l) => graphFault_any w1 m v l hn h1)
  rw [hg] at HGf
  have HE1 := Lib.hid (errIs 1 (by decide))
  have HE2 := Lib.hid (errIs 2 (by decide))
  have HE3 := Lib.hid (errIs 3 (by decide))
  have HE0 := Lib.hid (fun w => same_nil 0 true rfl w)

  obtain ⟨pu, cu, rfl, _⟩ := id hu
  clear h hu he hz hrm hw
  have HZZ : Hid (Below w.heap.size w w) := Lib.hid (Below.refl _ _)
  go_enter Tryd.func3, Tryd.ntmps3
  go_wp2_with fail
  refine (gone_any w).mono ?_
  rintro e w1 ⟨rfl, hb1⟩
  have HL' := Lib.hid (HL.out.below hb1)
  have HU' := Lib.hid (HU.out.below hb1)
  have HE' := Lib.hid (HE.out.below hb1)
  have HZZ' := Lib.hid (Below.two HZZ.out hb1)
  clear hb1 HZZ HL HU HE
  have HZZ := HZZ'
  clear HZZ'
  have HL := HL'
  clear HL'
  have HU := HU'
  clear HU'
  have HE := HE'
  clear HE'
  go_wp2_with fail
  refine (HGf.out _ HL.out).mono ?_
  rintro e w2 ⟨rfl, hb2⟩
  have HL' := Lib.hid (HL.out.below hb2)
  have HU' := Lib.hid (HU.out.below hb2)
  have HE' := Lib.hid (HE.out.below hb2)
  have HZZ' := Lib.hid (Below.two HZZ.out hb2)
  clear hb2 HZZ HL HU HE
  have HZZ := HZZ'
  clear HZZ'
  have HL := HL'
  clear HL'
  have HU := HU'
  clear HU'
  have HE := HE'
  clear HE'
  go_wp2_with fail
  refine (HN.out _ HL.out HU.out).mono ?_
  rintro e w3 ⟨rfl, hb3⟩
  have HL' := Lib.hid (HL.out.below hb3)
  have HU' := Lib.hid (HU.out.below hb3)
  have HE' := Lib.hid (HE.out.below hb3)
  have HZZ' := Lib.hid (Below.two HZZ.out hb3)
  clear hb3 HZZ HL HU HE
  have HZZ := HZZ'
  clear HZZ'
  have HL := HL'
  clear HL'
  have HU := HU'
  clear HU'
  have HE := HE'
  clear HE'
  simp only [lenN]
  go_wp2_with fail
  refine (HA.out _ HL.out HU.out).mono ?_
  rintro e w4 ⟨rfl, hb4⟩
  have HL' := Lib.hid (HL.out.below hb4)
  have HU' := Lib.hid (HU.out.below hb4)
  have HE' := Lib.hid (HE.out.below hb4)
  have HZZ' := Lib.hid (Below.two HZZ.out hb4)
  clear hb4 HZZ HL HU HE
  have HZZ := HZZ'
  clear HZZ'
  have HL := HL'
  clear HL'
  have HU := HU'
  clear HU'
  have HE := HE'
  clear HE'
  simp only [lenE]
  go_wp2_with fail
  refine (HE0.out w4).mono ?_
  rintro e w5' ⟨rfl, rfl⟩
  go_wp2_with fail
  refine (HB.out _ HL.out).mono ?_
  rintro e w6 ⟨rfl, hb6⟩
  have HL' := Lib.hid (HL.out.below hb6)
  have HU' := Lib.hid (HU.out.below hb6)
  have HE' := Lib.hid (HE.out.below hb6)
  have HZZ' := Lib.hid (Below.two HZZ.out hb6)
  clear hb6 HZZ HL HU HE
  have HZZ := HZZ'
  clear HZZ'
  have HL := HL'
  clear HL'
  have HU := HU'
  clear HU'
  have HE := HE'
  clear HE'
  go_wp2_with fail
  refine (HE1.out _ HE.out).mono ?_
  rintro e w7 ⟨rfl, hb7⟩
  have HL' := Lib.hid (HL.out.below hb7)
  have HU' := Lib.hid (HU.out.below hb7)
  have HE' := Lib.hid (HE.out.below hb7)
  have HZZ' := Lib.hid (Below.two HZZ.out hb7)
  clear hb7 HZZ HL HU HE
  have HZZ := HZZ'
  clear HZZ'
  have HL := HL'
  clear HL'
  have HU := HU'
  clear HU'
  have HE := HE'
  clear HE'
  go_wp2_with fail
  refine (HC.out _ HL.out).mono ?_
  rintro e w8 ⟨rfl, hb8⟩
  have HL' := Lib.hid (HL.out.below hb8)
  have HU' := Lib.hid (HU.out.below hb8)
  have HE' := Lib.hid (HE.out.below hb8)
  have HZZ' := Lib.hid (Below.two HZZ.out hb8)
  clear hb8 HZZ HL HU HE
  have HZZ := HZZ'
  clear HZZ'
  have HL := HL'
  clear HL'
  have HU := HU'
  clear HU'
  have HE := HE'
  clear HE'
  go_wp2_with fail
  refine (HE1.out _ HE.out).mono ?_
  rintro e w9 ⟨rfl, hb9⟩
  have HL' := Lib.hid (HL.out.below hb9)
  have HU' := Lib.hid (HU.out.below hb9)
  have HE' := Lib.hid (HE.out.below hb9)
  have HZZ' := Lib.hid (Below.two HZZ.out hb9)
  clear hb9 HZZ HL HU HE
  have HZZ := HZZ'
  clear HZZ'
  have HL := HL'
  clear HL'
  have HU := HU'
  clear HU'
  have HE := HE'
  clear HE'
  go_wp2_with fail
  refine (ints_none w9).mono ?_
  rintro e w10 ⟨rfl, hb10⟩
  have HL' := Lib.hid (HL.out.below hb10)
  have HU' := Lib.hid (HU.out.below hb10)
  have HE' := Lib.hid (HE.out.below hb10)
  have HZZ' := Lib.hid (Below.two HZZ.out hb10)
  clear hb10 HZZ HL HU HE
  have HZZ := HZZ'
  clear HZZ'
  have HL := HL'
  clear HL'
  have HU := HU'
  clear HU'
  have HE := HE'
  clear HE'
  go_wp2_with fail
  go_ret
  exact ⟨rfl, HZZ.out⟩
set_option maxHeartbeats 4000000 in
set_option maxRecDepth 100000 in
theorem wt_b2some (w : World) (m : Nat) (a b : Int) (v u : Value) (l : List Lk) (ws : List Int) (hn : l.length < 4611686018427387904) (hw : ws.length * 8 ≤ 140737488355328) (h : ArgK w v l) (hu : ArgI w u ws) (hrm : Room u) (he : ErrType w) (hg : gBad m l = 0) (z : Int) (hz : lengthG m l ws = some z) (g1 : ¬ a < 0) (g2 : a ≥ (m : Int)) :
    Calls Tryd.prog 3 #[.int .i64 m, v, .int .i64 a, .int .i64 b, u] w fun e w' => e = .returned (.bool true) ∧ Below w.heap.size w w' := by
  have HL := Lib.hid (h)
  have HU := Lib.hid (hu)
  have HE := Lib.hid (he)
  have e1 : wayBad m l a b = 1 := by unfold wayBad; rw [if_neg (by omega), if_pos (by omega)]
  have HB := Lib.hid (fun w1 (h1 : ArgK w1 v l) => count_bad w1 m a b v l hn h1 (by rw [e1]; decide))
  have HC := Lib.hid (fun w1 (h1 : ArgK w1 v l) => first_bad w1 m a b v l hn h1 (by rw [e1]; decide))
  rw [e1, show errV 1 = .iface 25 (.int .i64 1) from rfl] at HB HC
  clear e1
  have HA := Lib.hid (fun w1 (h1 : ArgK w1 v l) (h2 : ArgI w1 u ws) => length_ok w1 m v u l ws hn (by omega) h1 h2 hrm hg)
  have HN := Lib.hid (fun w1 (h1 : ArgK w1 v l) (h2 : ArgI w1 u ws) => lengthOf_any w1 m v u l ws hn (by omega) h1 h2)
  rw [hz] at HA HN
  have HGf := Lib.hid (fun w1 (h1 : ArgK w1 v l) => graphFault_any w1 m v l hn h1)
  rw [hg] at HGf
  have HE1 := Lib.hid (errIs 1 (by decide))
  have HE2 := Lib.hid (errIs 2 (by decide))
  have HE3 := Lib.hid (errIs 3 (by decide))
  have HE0 := Lib.hid (fun w => same_nil 0 true rfl w)

  obtain ⟨pu, cu, rfl, _⟩ := id hu
  clear h hu he hz hrm hw
  have HZZ : Hid (Below w.heap.size w w) := Lib.hid (Below.refl _ _)
  go_enter Tryd.func3, Tryd.ntmps3
  go_wp2_with fail
  refine (gone_any w).mono ?_
  rintro e w1 ⟨rfl, hb1⟩
  have HL' := Lib.hid (HL.out.below hb1)
  have HU' := Lib.hid (HU.out.below hb1)
  have HE' := Lib.hid (HE.out.below hb1)
  have HZZ' := Lib.hid (Below.two HZZ.out hb1)
  clear hb1 HZZ HL HU HE
  have HZZ := HZZ'
  clear HZZ'
  have HL := HL'
  clear HL'
  have HU := HU'
  clear HU'
  have HE := HE'
  clear HE'
  go_wp2_with fail
  refine (HGf.out _ HL.out).mono ?_
  rintro e w2 ⟨rfl, hb2⟩
  have HL' := Lib.hid (HL.out.below hb2)
  have HU' := Lib.hid (HU.out.below hb2)
  have HE' := Lib.hid (HE.out.below hb2)
  have HZZ' := Lib.hid (Below.two HZZ.out hb2)
  clear hb2 HZZ HL HU HE
  have HZZ := HZZ'
  clear HZZ'
  have HL := HL'
  clear HL'
  have HU := HU'
  clear HU'
  have HE := HE'
  clear HE'
  go_wp2_with fail
  refine (HN.out _ HL.out HU.out).mono ?_
  rintro e w3 ⟨rfl, hb3⟩
  have HL' := Lib.hid (HL.out.below hb3)
  have HU' := Lib.hid (HU.out.below hb3)
  have HE' := Lib.hid (HE.out.below hb3)
  have HZZ' := Lib.hid (Below.two HZZ.out hb3)
  clear hb3 HZZ HL HU HE
  have HZZ := HZZ'
  clear HZZ'
  have HL := HL'
  clear HL'
  have HU := HU'
  clear HU'
  have HE := HE'
  clear HE'
  simp only [lenN]
  go_wp2_with fail
  refine (HA.out _ HL.out HU.out).mono ?_
  rintro e w4 ⟨rfl, hb4⟩
  have HL' := Lib.hid (HL.out.below hb4)
  have HU' := Lib.hid (HU.out.below hb4)
  have HE' := Lib.hid (HE.out.below hb4)
  have HZZ' := Lib.hid (Below.two HZZ.out hb4)
  clear hb4 HZZ HL HU HE
  have HZZ := HZZ'
  clear HZZ'
  have HL := HL'
  clear HL'
  have HU := HU'
  clear HU'
  have HE := HE'
  clear HE'
  simp only [lenE]
  go_wp2_with fail
  refine (HE0.out w4).mono ?_
  rintro e w5' ⟨rfl, rfl⟩
  go_wp2_with fail
  refine (HB.out _ HL.out).mono ?_
  rintro e w6 ⟨rfl, hb6⟩
  have HL' := Lib.hid (HL.out.below hb6)
  have HU' := Lib.hid (HU.out.below hb6)
  have HE' := Lib.hid (HE.out.below hb6)
  have HZZ' := Lib.hid (Below.two HZZ.out hb6)
  clear hb6 HZZ HL HU HE
  have HZZ := HZZ'
  clear HZZ'
  have HL := HL'
  clear HL'
  have HU := HU'
  clear HU'
  have HE := HE'
  clear HE'
  go_wp2_with fail
  refine (HE1.out _ HE.out).mono ?_
  rintro e w7 ⟨rfl, hb7⟩
  have HL' := Lib.hid (HL.out.below hb7)
  have HU' := Lib.hid (HU.out.below hb7)
  have HE' := Lib.hid (HE.out.below hb7)
  have HZZ' := Lib.hid (Below.two HZZ.out hb7)
  clear hb7 HZZ HL HU HE
  have HZZ := HZZ'
  clear HZZ'
  have HL := HL'
  clear HL'
  have HU := HU'
  clear HU'
  have HE := HE'
  clear HE'
  go_wp2_with fail
  refine (HC.out _ HL.out).mono ?_
  rintro e w8 ⟨rfl, hb8⟩
  have HL' := Lib.hid (HL.out.below hb8)
  have HU' := Lib.hid (HU.out.below hb8)
  have HE' := Lib.hid (HE.out.below hb8)
  have HZZ' := Lib.hid (Below.two HZZ.out hb8)
  clear hb8 HZZ HL HU HE
  have HZZ := HZZ'
  clear HZZ'
  have HL := HL'
  clear HL'
  have HU := HU'
  clear HU'
  have HE := HE'
  clear HE'
  go_wp2_with fail
  refine (HE1.out _ HE.out).mono ?_
  rintro e w9 ⟨rfl, hb9⟩
  have HL' := Lib.hid (HL.out.below hb9)
  have HU' := Lib.hid (HU.out.below hb9)
  have HE' := Lib.hid (HE.out.below hb9)
  have HZZ' := Lib.hid (Below.two HZZ.out hb9)
  clear hb9 HZZ HL HU HE
  have HZZ := HZZ'
  clear HZZ'
  have HL := HL'
  clear HL'
  have HU := HU'
  clear HU'
  have HE := HE'
  clear HE'
  go_wp2_with fail
  refine (ints_none w9).mono ?_
  rintro e w10 ⟨rfl, hb10⟩
  have HL' := Lib.hid (HL.out.below hb10)
  have HU' := Lib.hid (HU.out.below hb10)
  have HE' := Lib.hid (HE.out.below hb10)
  have HZZ' := Lib.hid (Below.two HZZ.out hb10)
  clear hb10 HZZ HL HU HE
  have HZZ := HZZ'
  clear HZZ'
  have HL := HL'
  clear HL'
  have HU := HU'
  clear HU'
  have HE := HE'
  clear HE'
  go_wp2_with fail
  go_ret
  exact ⟨rfl, HZZ.out⟩
set_option maxHeartbeats 4000000 in
set_option maxRecDepth 100000 in
theorem wt_b3some (w : World) (m : Nat) (a b : Int) (v u : Value) (l : List Lk) (ws : List Int) (hn : l.length < 4611686018427387904) (hw : ws.length * 8 ≤ 140737488355328) (h : ArgK w v l) (hu : ArgI w u ws) (hrm : Room u) (he : ErrType w) (hg : gBad m l = 0) (z : Int) (hz : lengthG m l ws = some z) (g1 : ¬ a < 0) (g2 : ¬ a ≥ (m : Int)) (g3 : b < 0) :
    Calls Tryd.prog 3 #[.int .i64 m, v, .int .i64 a, .int .i64 b, u] w fun e w' => e = .returned (.bool true) ∧ Below w.heap.size w w' := by
  have HL := Lib.hid (h)
  have HU := Lib.hid (hu)
  have HE := Lib.hid (he)
  have e1 : wayBad m l a b = 1 := by unfold wayBad; rw [if_neg (by omega), if_pos (by omega)]
  have HB := Lib.hid (fun w1 (h1 : ArgK w1 v l) => count_bad w1 m a b v l hn h1 (by rw [e1]; decide))
  have HC := Lib.hid (fun w1 (h1 : ArgK w1 v l) => first_bad w1 m a b v l hn h1 (by rw [e1]; decide))
  rw [e1, show errV 1 = .iface 25 (.int .i64 1) from rfl] at HB HC
  clear e1
  have HA := Lib.hid (fun w1 (h1 : ArgK w1 v l) (h2 : ArgI w1 u ws) => length_ok w1 m v u l ws hn (by omega) h1 h2 hrm hg)
  have HN := Lib.hid (fun w1 (h1 : ArgK w1 v l) (h2 : ArgI w1 u ws) => lengthOf_any w1 m v u l ws hn (by omega) h1 h2)
  rw [hz] at HA HN
  have HGf := Lib.hid (fun w1 (h1 : ArgK w1 v l) => graphFault_any w1 m v l hn h1)
  rw [hg] at HGf
  have HE1 := Lib.hid (errIs 1 (by decide))
  have HE2 := Lib.hid (errIs 2 (by decide))
  have HE3 := Lib.hid (errIs 3 (by decide))
  have HE0 := Lib.hid (fun w => same_nil 0 true rfl w)

  obtain ⟨pu, cu, rfl, _⟩ := id hu
  clear h hu he hz hrm hw
  have HZZ : Hid (Below w.heap.size w w) := Lib.hid (Below.refl _ _)
  go_enter Tryd.func3, Tryd.ntmps3
  go_wp2_with fail
  refine (gone_any w).mono ?_
  rintro e w1 ⟨rfl, hb1⟩
  have HL' := Lib.hid (HL.out.below hb1)
  have HU' := Lib.hid (HU.out.below hb1)
  have HE' := Lib.hid (HE.out.below hb1)
  have HZZ' := Lib.hid (Below.two HZZ.out hb1)
  clear hb1 HZZ HL HU HE
  have HZZ := HZZ'
  clear HZZ'
  have HL := HL'
  clear HL'
  have HU := HU'
  clear HU'
  have HE := HE'
  clear HE'
  go_wp2_with fail
  refine (HGf.out _ HL.out).mono ?_
  rintro e w2 ⟨rfl, hb2⟩
  have HL' := Lib.hid (HL.out.below hb2)
  have HU' := Lib.hid (HU.out.below hb2)
  have HE' := Lib.hid (HE.out.below hb2)
  have HZZ' := Lib.hid (Below.two HZZ.out hb2)
  clear hb2 HZZ HL HU HE
  have HZZ := HZZ'
  clear HZZ'
  have HL := HL'
  clear HL'
  have HU := HU'
  clear HU'
  have HE := HE'
  clear HE'
  go_wp2_with fail
  refine (HN.out _ HL.out HU.out).mono ?_
  rintro e w3 ⟨rfl, hb3⟩
  have HL' := Lib.hid (HL.out.below hb3)
  have HU' := Lib.hid (HU.out.below hb3)
  have HE' := Lib.hid (HE.out.below hb3)
  have HZZ' := Lib.hid (Below.two HZZ.out hb3)
  clear hb3 HZZ HL HU HE
  have HZZ := HZZ'
  clear HZZ'
  have HL := HL'
  clear HL'
  have HU := HU'
  clear HU'
  have HE := HE'
  clear HE'
  simp only [lenN]
  go_wp2_with fail
  refine (HA.out _ HL.out HU.out).mono ?_
  rintro e w4 ⟨rfl, hb4⟩
  have HL' := Lib.hid (HL.out.below hb4)
  have HU' := Lib.hid (HU.out.below hb4)
  have HE' := Lib.hid (HE.out.below hb4)
  have HZZ' := Lib.hid (Below.two HZZ.out hb4)
  clear hb4 HZZ HL HU HE
  have HZZ := HZZ'
  clear HZZ'
  have HL := HL'
  clear HL'
  have HU := HU'
  clear HU'
  have HE := HE'
  clear HE'
  simp only [lenE]
  go_wp2_with fail
  refine (HE0.out w4).mono ?_
  rintro e w5' ⟨rfl, rfl⟩
  go_wp2_with fail
  refine (HB.out _ HL.out).mono ?_
  rintro e w6 ⟨rfl, hb6⟩
  have HL' := Lib.hid (HL.out.below hb6)
  have HU' := Lib.hid (HU.out.below hb6)
  have HE' := Lib.hid (HE.out.below hb6)
  have HZZ' := Lib.hid (Below.two HZZ.out hb6)
  clear hb6 HZZ HL HU HE
  have HZZ := HZZ'
  clear HZZ'
  have HL := HL'
  clear HL'
  have HU := HU'
  clear HU'
  have HE := HE'
  clear HE'
  go_wp2_with fail
  refine (HE1.out _ HE.out).mono ?_
  rintro e w7 ⟨rfl, hb7⟩
  have HL' := Lib.hid (HL.out.below hb7)
  have HU' := Lib.hid (HU.out.below hb7)
  have HE' := Lib.hid (HE.out.below hb7)
  have HZZ' := Lib.hid (Below.two HZZ.out hb7)
  clear hb7 HZZ HL HU HE
  have HZZ := HZZ'
  clear HZZ'
  have HL := HL'
  clear HL'
  have HU := HU'
  clear HU'
  have HE := HE'
  clear HE'
  go_wp2_with fail
  refine (HC.out _ HL.out).mono ?_
  rintro e w8 ⟨rfl, hb8⟩
  have HL' := Lib.hid (HL.out.below hb8)
  have HU' := Lib.hid (HU.out.below hb8)
  have HE' := Lib.hid (HE.out.below hb8)
  have HZZ' := Lib.hid (Below.two HZZ.out hb8)
  clear hb8 HZZ HL HU HE
  have HZZ := HZZ'
  clear HZZ'
  have HL := HL'
  clear HL'
  have HU := HU'
  clear HU'
  have HE := HE'
  clear HE'
  go_wp2_with fail
  refine (HE1.out _ HE.out).mono ?_
  rintro e w9 ⟨rfl, hb9⟩
  have HL' := Lib.hid (HL.out.below hb9)
  have HU' := Lib.hid (HU.out.below hb9)
  have HE' := Lib.hid (HE.out.below hb9)
  have HZZ' := Lib.hid (Below.two HZZ.out hb9)
  clear hb9 HZZ HL HU HE
  have HZZ := HZZ'
  clear HZZ'
  have HL := HL'
  clear HL'
  have HU := HU'
  clear HU'
  have HE := HE'
  clear HE'
  go_wp2_with fail
  refine (ints_none w9).mono ?_
  rintro e w10 ⟨rfl, hb10⟩
  have HL' := Lib.hid (HL.out.below hb10)
  have HU' := Lib.hid (HU.out.below hb10)
  have HE' := Lib.hid (HE.out.below hb10)
  have HZZ' := Lib.hid (Below.two HZZ.out hb10)
  clear hb10 HZZ HL HU HE
  have HZZ := HZZ'
  clear HZZ'
  have HL := HL'
  clear HL'
  have HU := HU'
  clear HU'
  have HE := HE'
  clear HE'
  go_wp2_with fail
  go_ret
  exact ⟨rfl, HZZ.out⟩
set_option maxHeartbeats 4000000 in
set_option maxRecDepth 100000 in
theorem wt_b4some (w : World) (m : Nat) (a b : Int) (v u : Value) (l : List Lk) (ws : List Int) (hn : l.length < 4611686018427387904) (hw : ws.length * 8 ≤ 140737488355328) (h : ArgK w v l) (hu : ArgI w u ws) (hrm : Room u) (he : ErrType w) (hg : gBad m l = 0) (z : Int) (hz : lengthG m l ws = some z) (g1 : ¬ a < 0) (g2 : ¬ a ≥ (m : Int)) (g3 : ¬ b < 0) (g4 : b ≥ (m : Int)) :
    Calls Tryd.prog 3 #[.int .i64 m, v, .int .i64 a, .int .i64 b, u] w fun e w' => e = .returned (.bool true) ∧ Below w.heap.size w w' := by
  have HL := Lib.hid (h)
  have HU := Lib.hid (hu)
  have HE := Lib.hid (he)
  have e1 : wayBad m l a b = 1 := by unfold wayBad; rw [if_neg (by omega), if_pos (by omega)]
  have HB := Lib.hid (fun w1 (h1 : ArgK w1 v l) => count_bad w1 m a b v l hn h1 (by rw [e1]; decide))
  have HC := Lib.hid (fun w1 (h1 : ArgK w1 v l) => first_bad w1 m a b v l hn h1 (by rw [e1]; decide))
  rw [e1, show errV 1 = .iface 25 (.int .i64 1) from rfl] at HB HC
  clear e1
  have HA := Lib.hid (fun w1 (h1 : ArgK w1 v l) (h2 : ArgI w1 u ws) => length_ok w1 m v u l ws hn (by omega) h1 h2 hrm hg)
  have HN := Lib.hid (fun w1 (h1 : ArgK w1 v l) (h2 : ArgI w1 u ws) => lengthOf_any w1 m v u l ws hn (by omega) h1 h2)
  rw [hz] at HA HN
  have HGf := Lib.hid (fun w1 (h1 : ArgK w1 v l) => graphFault_any w1 m v l hn h1)
  rw [hg] at HGf
  have HE1 := Lib.hid (errIs 1 (by decide))
  have HE2 := Lib.hid (errIs 2 (by decide))
  have HE3 := Lib.hid (errIs 3 (by decide))
  have HE0 := Lib.hid (fun w => same_nil 0 true rfl w)

  obtain ⟨pu, cu, rfl, _⟩ := id hu
  clear h hu he hz hrm hw
  have HZZ : Hid (Below w.heap.size w w) := Lib.hid (Below.refl _ _)
  go_enter Tryd.func3, Tryd.ntmps3
  go_wp2_with fail
  refine (gone_any w).mono ?_
  rintro e w1 ⟨rfl, hb1⟩
  have HL' := Lib.hid (HL.out.below hb1)
  have HU' := Lib.hid (HU.out.below hb1)
  have HE' := Lib.hid (HE.out.below hb1)
  have HZZ' := Lib.hid (Below.two HZZ.out hb1)
  clear hb1 HZZ HL HU HE
  have HZZ := HZZ'
  clear HZZ'
  have HL := HL'
  clear HL'
  have HU := HU'
  clear HU'
  have HE := HE'
  clear HE'
  go_wp2_with fail
  refine (HGf.out _ HL.out).mono ?_
  rintro e w2 ⟨rfl, hb2⟩
  have HL' := Lib.hid (HL.out.below hb2)
  have HU' := Lib.hid (HU.out.below hb2)
  have HE' := Lib.hid (HE.out.below hb2)
  have HZZ' := Lib.hid (Below.two HZZ.out hb2)
  clear hb2 HZZ HL HU HE
  have HZZ := HZZ'
  clear HZZ'
  have HL := HL'
  clear HL'
  have HU := HU'
  clear HU'
  have HE := HE'
  clear HE'
  go_wp2_with fail
  refine (HN.out _ HL.out HU.out).mono ?_
  rintro e w3 ⟨rfl, hb3⟩
  have HL' := Lib.hid (HL.out.below hb3)
  have HU' := Lib.hid (HU.out.below hb3)
  have HE' := Lib.hid (HE.out.below hb3)
  have HZZ' := Lib.hid (Below.two HZZ.out hb3)
  clear hb3 HZZ HL HU HE
  have HZZ := HZZ'
  clear HZZ'
  have HL := HL'
  clear HL'
  have HU := HU'
  clear HU'
  have HE := HE'
  clear HE'
  simp only [lenN]
  go_wp2_with fail
  refine (HA.out _ HL.out HU.out).mono ?_
  rintro e w4 ⟨rfl, hb4⟩
  have HL' := Lib.hid (HL.out.below hb4)
  have HU' := Lib.hid (HU.out.below hb4)
  have HE' := Lib.hid (HE.out.below hb4)
  have HZZ' := Lib.hid (Below.two HZZ.out hb4)
  clear hb4 HZZ HL HU HE
  have HZZ := HZZ'
  clear HZZ'
  have HL := HL'
  clear HL'
  have HU := HU'
  clear HU'
  have HE := HE'
  clear HE'
  simp only [lenE]
  go_wp2_with fail
  refine (HE0.out w4).mono ?_
  rintro e w5' ⟨rfl, rfl⟩
  go_wp2_with fail
  refine (HB.out _ HL.out).mono ?_
  rintro e w6 ⟨rfl, hb6⟩
  have HL' := Lib.hid (HL.out.below hb6)
  have HU' := Lib.hid (HU.out.below hb6)
  have HE' := Lib.hid (HE.out.below hb6)
  have HZZ' := Lib.hid (Below.two HZZ.out hb6)
  clear hb6 HZZ HL HU HE
  have HZZ := HZZ'
  clear HZZ'
  have HL := HL'
  clear HL'
  have HU := HU'
  clear HU'
  have HE := HE'
  clear HE'
  go_wp2_with fail
  refine (HE1.out _ HE.out).mono ?_
  rintro e w7 ⟨rfl, hb7⟩
  have HL' := Lib.hid (HL.out.below hb7)
  have HU' := Lib.hid (HU.out.below hb7)
  have HE' := Lib.hid (HE.out.below hb7)
  have HZZ' := Lib.hid (Below.two HZZ.out hb7)
  clear hb7 HZZ HL HU HE
  have HZZ := HZZ'
  clear HZZ'
  have HL := HL'
  clear HL'
  have HU := HU'
  clear HU'
  have HE := HE'
  clear HE'
  go_wp2_with fail
  refine (HC.out _ HL.out).mono ?_
  rintro e w8 ⟨rfl, hb8⟩
  have HL' := Lib.hid (HL.out.below hb8)
  have HU' := Lib.hid (HU.out.below hb8)
  have HE' := Lib.hid (HE.out.below hb8)
  have HZZ' := Lib.hid (Below.two HZZ.out hb8)
  clear hb8 HZZ HL HU HE
  have HZZ := HZZ'
  clear HZZ'
  have HL := HL'
  clear HL'
  have HU := HU'
  clear HU'
  have HE := HE'
  clear HE'
  go_wp2_with fail
  refine (HE1.out _ HE.out).mono ?_
  rintro e w9 ⟨rfl, hb9⟩
  have HL' := Lib.hid (HL.out.below hb9)
  have HU' := Lib.hid (HU.out.below hb9)
  have HE' := Lib.hid (HE.out.below hb9)
  have HZZ' := Lib.hid (Below.two HZZ.out hb9)
  clear hb9 HZZ HL HU HE
  have HZZ := HZZ'
  clear HZZ'
  have HL := HL'
  clear HL'
  have HU := HU'
  clear HU'
  have HE := HE'
  clear HE'
  go_wp2_with fail
  refine (ints_none w9).mono ?_
  rintro e w10 ⟨rfl, hb10⟩
  have HL' := Lib.hid (HL.out.below hb10)
  have HU' := Lib.hid (HU.out.below hb10)
  have HE' := Lib.hid (HE.out.below hb10)
  have HZZ' := Lib.hid (Below.two HZZ.out hb10)
  clear hb10 HZZ HL HU HE
  have HZZ := HZZ'
  clear HZZ'
  have HL := HL'
  clear HL'
  have HU := HU'
  clear HU'
  have HE := HE'
  clear HE'
  go_wp2_with fail
  go_ret
  exact ⟨rfl, HZZ.out⟩
set_option maxHeartbeats 4000000 in
set_option maxRecDepth 100000 in
theorem wt_c1some (w : World) (m s t : Nat) (v u : Value) (l : List Lk) (ws : List Int) (hn : l.length < 4611686018427387904) (hw : ws.length * 8 ≤ 140737488355328) (h : ArgK w v l) (hu : ArgI w u ws) (hrm : Room u) (he : ErrType w) (hg : gBad m l = 0) (hs : s < m) (ht : t < m) (z : Int) (hz : lengthG m l ws = some z) (h16 : ¬ BellP.far m (BellP.ct l) t s < 16) :
    Calls Tryd.prog 3 #[.int .i64 m, v, .int .i64 s, .int .i64 t, u] w fun e w' => e = .returned (.bool true) ∧ Below w.heap.size w w' := by
  have HL := Lib.hid (h)
  have HU := Lib.hid (hu)
  have HE := Lib.hid (he)
  have hR := ((gBad_zero m l).1 hg).2
  have hm := ((gBad_zero m l).1 hg).1
  have HR := Lib.hid hR
  have HK := Lib.hid (BellP.ct_cost hR)
  have HB := Lib.hid (fun w1 (h1 : ArgK w1 v l) => count_ok w1 m s t v l hn h1 hg hs ht)
  have z0 : ¬ (s : Int) < 0 := by omega
  have z1 : ¬ (s : Int) ≥ (m : Int) := by omega
  have z2 : ¬ (t : Int) < 0 := by omega
  have z3 : ¬ (t : Int) ≥ (m : Int) := by omega
  have HA := Lib.hid (fun w1 (h1 : ArgK w1 v l) (h2 : ArgI w1 u ws) => length_ok w1 m v u l ws hn (by omega) h1 h2 hrm hg)
  have HN := Lib.hid (fun w1 (h1 : ArgK w1 v l) (h2 : ArgI w1 u ws) => lengthOf_any w1 m v u l ws hn (by omega) h1 h2)
  rw [hz] at HA HN
  have HGf := Lib.hid (fun w1 (h1 : ArgK w1 v l) => graphFault_any w1 m v l hn h1)
  rw [hg] at HGf
  have HE1 := Lib.hid (errIs 1 (by decide))
  have HE2 := Lib.hid (errIs 2 (by decide))
  have HE3 := Lib.hid (errIs 3 (by decide))
  have HE0 := Lib.hid (fun w => same_nil 0 true rfl w)

  have hne : s ≠ t := fun e => h16 (by rw [e, BellP.far_to HK.out ht]; omega)
  have HC := Lib.hid (fun w1 (h1 : ArgK w1 v l) => first_none w1 m s t v l hn h1 hg hs ht hne h16)
  have e1 : WaysP.num m (BellP.ct l) t s = 0 := by unfold WaysP.num WaysP.al; rw [if_neg h16]; rfl
  rw [e1] at HB
  have h16' : ¬ (BellP.far m (BellP.ct l) t s : Int) < 16 := by omega
  clear e1 hne h16 hR
  obtain ⟨pu, cu, rfl, _⟩ := id hu
  clear h hu he hz hrm hw
  have HZZ : Hid (Below w.heap.size w w) := Lib.hid (Below.refl _ _)
  go_enter Tryd.func3, Tryd.ntmps3
  go_wp2_with fail
  refine (gone_any w).mono ?_
  rintro e w1 ⟨rfl, hb1⟩
  have HL' := Lib.hid (HL.out.below hb1)
  have HU' := Lib.hid (HU.out.below hb1)
  have HE' := Lib.hid (HE.out.below hb1)
  have HZZ' := Lib.hid (Below.two HZZ.out hb1)
  clear hb1 HZZ HL HU HE
  have HZZ := HZZ'
  clear HZZ'
  have HL := HL'
  clear HL'
  have HU := HU'
  clear HU'
  have HE := HE'
  clear HE'
  go_wp2_with fail
  refine (HGf.out _ HL.out).mono ?_
  rintro e w2 ⟨rfl, hb2⟩
  have HL' := Lib.hid (HL.out.below hb2)
  have HU' := Lib.hid (HU.out.below hb2)
  have HE' := Lib.hid (HE.out.below hb2)
  have HZZ' := Lib.hid (Below.two HZZ.out hb2)
  clear hb2 HZZ HL HU HE
  have HZZ := HZZ'
  clear HZZ'
  have HL := HL'
  clear HL'
  have HU := HU'
  clear HU'
  have HE := HE'
  clear HE'
  go_wp2_with fail
  refine (HN.out _ HL.out HU.out).mono ?_
  rintro e w3 ⟨rfl, hb3⟩
  have HL' := Lib.hid (HL.out.below hb3)
  have HU' := Lib.hid (HU.out.below hb3)
  have HE' := Lib.hid (HE.out.below hb3)
  have HZZ' := Lib.hid (Below.two HZZ.out hb3)
  clear hb3 HZZ HL HU HE
  have HZZ := HZZ'
  clear HZZ'
  have HL := HL'
  clear HL'
  have HU := HU'
  clear HU'
  have HE := HE'
  clear HE'
  simp only [lenN]
  go_wp2_with fail
  refine (farOf_any w3 m t v l (by omega) ht hn HR.out HL.out).mono ?_
  rintro e w4 ⟨gf, cf, _, rfl, hV, hb4⟩
  have HL' := Lib.hid (HL.out.below hb4)
  have HU' := Lib.hid (HU.out.below hb4)
  have HE' := Lib.hid (HE.out.below hb4)
  have HZZ' := Lib.hid (Below.two HZZ.out hb4)
  have HX := Lib.hid (hV)
  clear hb4 HZZ HL HU HE
  have HZZ := HZZ'
  clear HZZ'
  have HL := HL'
  clear HL'
  have HU := HU'
  clear HU'
  have HE := HE'
  clear HE'
  clear hV
  have x0 := HX.out.c s hs
  generalize BellP.far m (BellP.ct l) t s = F at x0 h16'
  go_wp2_with fail
  refine (HA.out _ HL.out HU.out).mono ?_
  rintro e w5 ⟨rfl, hb5⟩
  have HL' := Lib.hid (HL.out.below hb5)
  have HU' := Lib.hid (HU.out.below hb5)
  have HE' := Lib.hid (HE.out.below hb5)
  have HX' := Lib.hid (HX.out.keep hb5)
  have HZZ' := Lib.hid (Below.two HZZ.out hb5)
  clear hb5 HZZ HL HU HE HX
  have HZZ := HZZ'
  clear HZZ'
  have HL := HL'
  clear HL'
  have HU := HU'
  clear HU'
  have HE := HE'
  clear HE'
  have HX := HX'
  clear HX'
  simp only [lenE]
  go_wp2_with fail
  refine (HE0.out w5).mono ?_
  rintro e w6' ⟨rfl, rfl⟩
  go_wp2_with fail
  refine (HB.out _ HL.out).mono ?_
  rintro e w7 ⟨rfl, hb7⟩
  have HL' := Lib.hid (HL.out.below hb7)
  have HU' := Lib.hid (HU.out.below hb7)
  have HE' := Lib.hid (HE.out.below hb7)
  have HX' := Lib.hid (HX.out.keep hb7)
  have HZZ' := Lib.hid (Below.two HZZ.out hb7)
  clear hb7 HZZ HL HU HE HX
  have HZZ := HZZ'
  clear HZZ'
  have HL := HL'
  clear HL'
  have HU := HU'
  clear HU'
  have HE := HE'
  clear HE'
  have HX := HX'
  clear HX'
  go_wp2_with fail
  refine (HE0.out w7).mono ?_
  rintro e w8' ⟨rfl, rfl⟩
  go_wp2_with fail
  refine (HC.out _ HL.out).mono ?_
  rintro e w9 ⟨rfl, hb9⟩
  have HL' := Lib.hid (HL.out.below hb9)
  have HU' := Lib.hid (HU.out.below hb9)
  have HE' := Lib.hid (HE.out.below hb9)
  have HX' := Lib.hid (HX.out.keep hb9)
  have HZZ' := Lib.hid (Below.two HZZ.out hb9)
  clear hb9 HZZ HL HU HE HX
  have HZZ := HZZ'
  clear HZZ'
  have HL := HL'
  clear HL'
  have HU := HU'
  clear HU'
  have HE := HE'
  clear HE'
  have HX := HX'
  clear HX'
  go_wp2_with fail
  refine (HE2.out _ HE.out).mono ?_
  rintro e w10 ⟨rfl, hb10⟩
  have HL' := Lib.hid (HL.out.below hb10)
  have HU' := Lib.hid (HU.out.below hb10)
  have HE' := Lib.hid (HE.out.below hb10)
  have HX' := Lib.hid (HX.out.keep hb10)
  have HZZ' := Lib.hid (Below.two HZZ.out hb10)
  clear hb10 HZZ HL HU HE HX
  have HZZ := HZZ'
  clear HZZ'
  have HL := HL'
  clear HL'
  have HU := HU'
  clear HU'
  have HE := HE'
  clear HE'
  have HX := HX'
  clear HX'
  go_wp2_with fail
  refine (ints_none w10).mono ?_
  rintro e w11 ⟨rfl, hb11⟩
  have HL' := Lib.hid (HL.out.below hb11)
  have HU' := Lib.hid (HU.out.below hb11)
  have HE' := Lib.hid (HE.out.below hb11)
  have HX' := Lib.hid (HX.out.keep hb11)
  have HZZ' := Lib.hid (Below.two HZZ.out hb11)
  clear hb11 HZZ HL HU HE HX
  have HZZ := HZZ'
  clear HZZ'
  have HL := HL'
  clear HL'
  have HU := HU'
  clear HU'
  have HE := HE'
  clear HE'
  have HX := HX'
  clear HX'
  go_wp2_with fail
  go_ret
  exact ⟨rfl, HZZ.out⟩
set_option maxHeartbeats 4000000 in
set_option maxRecDepth 100000 in
theorem wt_c2some (w : World) (m s t : Nat) (v u : Value) (l : List Lk) (ws : List Int) (hn : l.length < 4611686018427387904) (hw : ws.length * 8 ≤ 140737488355328) (h : ArgK w v l) (hu : ArgI w u ws) (hrm : Room u) (he : ErrType w) (hg : gBad m l = 0) (hs : s < m) (ht : t < m) (z : Int) (hz : lengthG m l ws = some z) (h16 : BellP.far m (BellP.ct l) t s < 16) :
    Calls Tryd.prog 3 #[.int .i64 m, v, .int .i64 s, .int .i64 t, u] w fun e w' => e = .returned (.bool true) ∧ Below w.heap.size w w' := by
  have HL := Lib.hid (h)
  have HU := Lib.hid (hu)
  have HE := Lib.hid (he)
  have hR := ((gBad_zero m l).1 hg).2
  have hm := ((gBad_zero m l).1 hg).1
  have HR := Lib.hid hR
  have HK := Lib.hid (BellP.ct_cost hR)
  have HB := Lib.hid (fun w1 (h1 : ArgK w1 v l) => count_ok w1 m s t v l hn h1 hg hs ht)
  have z0 : ¬ (s : Int) < 0 := by omega
  have z1 : ¬ (s : Int) ≥ (m : Int) := by omega
  have z2 : ¬ (t : Int) < 0 := by omega
  have z3 : ¬ (t : Int) ≥ (m : Int) := by omega
  have HA := Lib.hid (fun w1 (h1 : ArgK w1 v l) (h2 : ArgI w1 u ws) => length_ok w1 m v u l ws hn (by omega) h1 h2 hrm hg)
  have HN := Lib.hid (fun w1 (h1 : ArgK w1 v l) (h2 : ArgI w1 u ws) => lengthOf_any w1 m v u l ws hn (by omega) h1 h2)
  rw [hz] at HA HN
  have HGf := Lib.hid (fun w1 (h1 : ArgK w1 v l) => graphFault_any w1 m v l hn h1)
  rw [hg] at HGf
  have HE1 := Lib.hid (errIs 1 (by decide))
  have HE2 := Lib.hid (errIs 2 (by decide))
  have HE3 := Lib.hid (errIs 3 (by decide))
  have HE0 := Lib.hid (fun w => same_nil 0 true rfl w)

  have HC := Lib.hid (fun w1 (h1 : ArgK w1 v l) => first_ok w1 m s t v l hn h1 hg hs ht h16)
  have HSh := Lib.hid (fun w1 (h1 : ArgK w1 v l) => shortest_any m t v l hn hR (by omega) ht 16 w1 s (BellP.far m (BellP.ct l) t s) h1 hs h16 (by omega))
  have HAl := Lib.hid (show WaysP.al m (BellP.ct l) t s = WaysP.sh m (BellP.ct l) t 16 (BellP.far m (BellP.ct l) t s) s from if_pos h16)
  have HNe := Lib.hid ((WaysP.al_ne HK.out hs ht).2 h16)
  have HLen := Lib.hid ((WaysP.fst_wk HK.out hs ht h16).short HK.out)
  have h16' : (BellP.far m (BellP.ct l) t s : Int) < 16 := by omega
  rw [← HAl.out] at HSh
  have HDb := Lib.hid (BellP.far_bd m (BellP.ct l) t s)
  have HM0 : Hid ((zz (WaysP.al m (BellP.ct l) t s))[0]! = WaysP.zs (WaysP.fst m (BellP.ct l) t s)) := Lib.hid (by
    have h1 := HNe.out
    unfold WaysP.fst
    cases e : WaysP.al m (BellP.ct l) t s with
    | nil => exact absurd e h1
    | cons p r => rfl)
  have HMl : Hid (0 < (zz (WaysP.al m (BellP.ct l) t s)).length) := Lib.hid (by rw [zz_len]; exact List.length_pos_iff.2 HNe.out)
  rw [show WaysP.num m (BellP.ct l) t s = (zz (WaysP.al m (BellP.ct l) t s)).length from (zz_len _).symm] at HB
  generalize zz (WaysP.al m (BellP.ct l) t s) = M at HB HSh HM0 HMl
  clear h16 hR HAl HNe
  obtain ⟨pu, cu, rfl, _⟩ := id hu
  clear h hu he hz hrm hw
  have HZZ : Hid (Below w.heap.size w w) := Lib.hid (Below.refl _ _)
  go_enter Tryd.func3, Tryd.ntmps3
  go_wp2_with fail
  refine (gone_any w).mono ?_
  rintro e w1 ⟨rfl, hb1⟩
  have HL' := Lib.hid (HL.out.below hb1)
  have HU' := Lib.hid (HU.out.below hb1)
  have HE' := Lib.hid (HE.out.below hb1)
  have HZZ' := Lib.hid (Below.two HZZ.out hb1)
  clear hb1 HZZ HL HU HE
  have HZZ := HZZ'
  clear HZZ'
  have HL := HL'
  clear HL'
  have HU := HU'
  clear HU'
  have HE := HE'
  clear HE'
  go_wp2_with fail
  refine (HGf.out _ HL.out).mono ?_
  rintro e w2 ⟨rfl, hb2⟩
  have HL' := Lib.hid (HL.out.below hb2)
  have HU' := Lib.hid (HU.out.below hb2)
  have HE' := Lib.hid (HE.out.below hb2)
  have HZZ' := Lib.hid (Below.two HZZ.out hb2)
  clear hb2 HZZ HL HU HE
  have HZZ := HZZ'
  clear HZZ'
  have HL := HL'
  clear HL'
  have HU := HU'
  clear HU'
  have HE := HE'
  clear HE'
  go_wp2_with fail
  refine (HN.out _ HL.out HU.out).mono ?_
  rintro e w3 ⟨rfl, hb3⟩
  have HL' := Lib.hid (HL.out.below hb3)
  have HU' := Lib.hid (HU.out.below hb3)
  have HE' := Lib.hid (HE.out.below hb3)
  have HZZ' := Lib.hid (Below.two HZZ.out hb3)
  clear hb3 HZZ HL HU HE
  have HZZ := HZZ'
  clear HZZ'
  have HL := HL'
  clear HL'
  have HU := HU'
  clear HU'
  have HE := HE'
  clear HE'
  simp only [lenN]
  go_wp2_with fail
  refine (farOf_any w3 m t v l (by omega) ht hn HR.out HL.out).mono ?_
  rintro e w4 ⟨gf, cf, _, rfl, hV, hb4⟩
  have HL' := Lib.hid (HL.out.below hb4)
  have HU' := Lib.hid (HU.out.below hb4)
  have HE' := Lib.hid (HE.out.below hb4)
  have HZZ' := Lib.hid (Below.two HZZ.out hb4)
  have HX := Lib.hid (hV)
  clear hb4 HZZ HL HU HE
  have HZZ := HZZ'
  clear HZZ'
  have HL := HL'
  clear HL'
  have HU := HU'
  clear HU'
  have HE := HE'
  clear HE'
  clear hV
  have x0 := HX.out.c s hs
  go_wp2_with fail
  refine (farOf_any w4 m t v l (by omega) ht hn HR.out HL.out).mono ?_
  rintro e w5 ⟨gg, cg, _, rfl, hV, hb5⟩
  have HL' := Lib.hid (HL.out.below hb5)
  have HU' := Lib.hid (HU.out.below hb5)
  have HE' := Lib.hid (HE.out.below hb5)
  have HX' := Lib.hid (HX.out.keep hb5)
  have HZZ' := Lib.hid (Below.two HZZ.out hb5)
  have HY := Lib.hid (hV)
  clear hb5 HZZ HL HU HE HX
  have HZZ := HZZ'
  clear HZZ'
  have HL := HL'
  clear HL'
  have HU := HU'
  clear HU'
  have HE := HE'
  clear HE'
  have HX := HX'
  clear HX'
  clear hV x0 HX
  have x0 := HY.out.c s hs
  go_wp2_with fail
  refine (HSh.out _ HL.out).mono ?_
  rintro e w6 ⟨u6, rfl, hO6, hb6⟩
  have HL' := Lib.hid (HL.out.below hb6)
  have HU' := Lib.hid (HU.out.below hb6)
  have HE' := Lib.hid (HE.out.below hb6)
  have HY' := Lib.hid (HY.out.keep hb6)
  have HZZ' := Lib.hid (Below.two HZZ.out hb6)
  clear hb6 HZZ HL HU HE HY
  have HZZ := HZZ'
  clear HZZ'
  have HL := HL'
  clear HL'
  have HU := HU'
  clear HU'
  have HE := HE'
  clear HE'
  have HY := HY'
  clear HY'
  clear HY x0
  obtain ⟨p6, c6, rfl, hr6⟩ := hO6.arg
  rcases hr6 with e | ⟨b6, o6, rfl, hb6', hS6⟩
  · have := HMl.out
    rw [e] at this
    exact absurd this (by simp)
  obtain ⟨q6, x0, hq6⟩ := hS6 0 HMl.out
  rw [HM0.out] at hq6
  rw [Nat.add_zero] at x0
  obtain ⟨pq, cq, rfl, _⟩ := id hq6
  have HQ := Lib.hid hq6
  have tl : ((M.length : Int) == 0) = false := by
    have := HMl.out
    have : ¬ (M.length : Int) = 0 := by omega
    simpa using this
  have tm : 0 < (M.length : Int) := by have := HMl.out; omega
  clear hO6 hS6 hq6 hb6'
  go_wp2_with fail
  refine (HA.out _ HL.out HU.out).mono ?_
  rintro e w7 ⟨rfl, hb7⟩
  have HL' := Lib.hid (HL.out.below hb7)
  have HU' := Lib.hid (HU.out.below hb7)
  have HE' := Lib.hid (HE.out.below hb7)
  have HQ' := Lib.hid (HQ.out.below hb7)
  have HZZ' := Lib.hid (Below.two HZZ.out hb7)
  clear hb7 HZZ HL HU HE HQ
  have HZZ := HZZ'
  clear HZZ'
  have HL := HL'
  clear HL'
  have HU := HU'
  clear HU'
  have HE := HE'
  clear HE'
  have HQ := HQ'
  clear HQ'
  simp only [lenE]
  go_wp2_with fail
  refine (HE0.out w7).mono ?_
  rintro e w8' ⟨rfl, rfl⟩
  go_wp2_with fail
  refine (HB.out _ HL.out).mono ?_
  rintro e w9 ⟨rfl, hb9⟩
  have HL' := Lib.hid (HL.out.below hb9)
  have HU' := Lib.hid (HU.out.below hb9)
  have HE' := Lib.hid (HE.out.below hb9)
  have HQ' := Lib.hid (HQ.out.below hb9)
  have HZZ' := Lib.hid (Below.two HZZ.out hb9)
  clear hb9 HZZ HL HU HE HQ
  have HZZ := HZZ'
  clear HZZ'
  have HL := HL'
  clear HL'
  have HU := HU'
  clear HU'
  have HE := HE'
  clear HE'
  have HQ := HQ'
  clear HQ'
  go_wp2_with fail
  refine (HE0.out w9).mono ?_
  rintro e w10' ⟨rfl, rfl⟩
  go_wp2_with fail
  refine (HC.out _ HL.out).mono ?_
  rintro e w11 ⟨pv, rfl, hP, hb11⟩
  have HL' := Lib.hid (HL.out.below hb11)
  have HU' := Lib.hid (HU.out.below hb11)
  have HE' := Lib.hid (HE.out.below hb11)
  have HQ' := Lib.hid (HQ.out.below hb11)
  have HZZ' := Lib.hid (Below.two HZZ.out hb11)
  have HP := Lib.hid (hP)
  clear hb11 HZZ HL HU HE HQ
  have HZZ := HZZ'
  clear HZZ'
  have HL := HL'
  clear HL'
  have HU := HU'
  clear HU'
  have HE := HE'
  clear HE'
  have HQ := HQ'
  clear HQ'
  obtain ⟨pp, cp, rfl, _⟩ := hP.arg
  clear hP
  go_wp2_with fail
  refine (HE0.out w11).mono ?_
  rintro e w12' ⟨rfl, rfl⟩
  go_wp2_with fail
  refine (ints_same w11 _ _ _ (by rw [WaysP.zs_len]; have := HLen.out; have := HDb.out; omega) HP.out.arg HQ.out).mono ?_
  rintro e w13 ⟨rfl, hb13⟩
  have HL' := Lib.hid (HL.out.below hb13)
  have HU' := Lib.hid (HU.out.below hb13)
  have HE' := Lib.hid (HE.out.below hb13)
  have HQ' := Lib.hid (HQ.out.below hb13)
  have HP' := Lib.hid (HP.out.keep hb13)
  have HZZ' := Lib.hid (Below.two HZZ.out hb13)
  clear hb13 HZZ HL HU HE HQ HP
  have HZZ := HZZ'
  clear HZZ'
  have HL := HL'
  clear HL'
  have HU := HU'
  clear HU'
  have HE := HE'
  clear HE'
  have HQ := HQ'
  clear HQ'
  have HP := HP'
  clear HP'
  go_wp2_with fail
  go_ret
  exact ⟨rfl, HZZ.out⟩
theorem waysTell_walk (w : World) (n a b : Int) (v u : Value) (l : List Lk) (ws : List Int) (hn : l.length < 4611686018427387904) (hw : ws.length * 8 ≤ 140737488355328) (h : ArgK w v l) (hu : ArgI w u ws) (hrm : Room u) (he : ErrType w) :
    Calls Tryd.prog 3 #[.int .i64 n, v, .int .i64 a, .int .i64 b, u] w fun e w' => e = .returned (.bool true) ∧ Below w.heap.size w w' := by
  by_cases h1 : gBad n l = 0
  · obtain ⟨h2, hr⟩ := (gBad_zero n l).1 h1
    obtain ⟨m, rfl⟩ : ∃ m : Nat, n = m := ⟨n.toNat, by omega⟩
    by_cases g1 : a < 0
    · cases hz : lengthG m l ws with
      | none => exact wt_b1none w m a b v u l ws hn hw h hu hrm he h1 hz g1
      | some z => exact wt_b1some w m a b v u l ws hn hw h hu hrm he h1 z hz g1
    by_cases g2 : a ≥ (m : Int)
    · cases hz : lengthG m l ws with
      | none => exact wt_b2none w m a b v u l ws hn hw h hu hrm he h1 hz g1 g2
      | some z => exact wt_b2some w m a b v u l ws hn hw h hu hrm he h1 z hz g1 g2
    by_cases g3 : b < 0
    · cases hz : lengthG m l ws with
      | none => exact wt_b3none w m a b v u l ws hn hw h hu hrm he h1 hz g1 g2 g3
      | some z => exact wt_b3some w m a b v u l ws hn hw h hu hrm he h1 z hz g1 g2 g3
    by_cases g4 : b ≥ (m : Int)
    · cases hz : lengthG m l ws with
      | none => exact wt_b4none w m a b v u l ws hn hw h hu hrm he h1 hz g1 g2 g3 g4
      | some z => exact wt_b4some w m a b v u l ws hn hw h hu hrm he h1 z hz g1 g2 g3 g4
    obtain ⟨s, rfl⟩ : ∃ s : Nat, a = s := ⟨a.toNat, by omega⟩
    obtain ⟨t, rfl⟩ : ∃ t : Nat, b = t := ⟨b.toNat, by omega⟩
    by_cases h16 : BellP.far m (BellP.ct l) t s < 16
    · cases hz : lengthG m l ws with
      | none => exact wt_c2none w m s t v u l ws hn hw h hu hrm he h1 (by omega) (by omega) hz h16
      | some z => exact wt_c2some w m s t v u l ws hn hw h hu hrm he h1 (by omega) (by omega) z hz h16
    · cases hz : lengthG m l ws with
      | none => exact wt_c1none w m s t v u l ws hn hw h hu hrm he h1 (by omega) (by omega) hz h16
      | some z => exact wt_c1some w m s t v u l ws hn hw h hu hrm he h1 (by omega) (by omega) z hz h16
  · exact wt_a w n a b v u l ws hn h hu hrm he h1
end Go.Proofs.YtomfkmclgabcpaaDoor
