/-
  The law BellTells at every number of nodes, every links, node and estimates: it tells true; what lay in memory stays. Condition: the library's variable errors.errorType is as its text lays it.
-/
import Derived.Test.YtjgpibchnpodjaaDoorBellRounded
import Derived.Test.YtjgpibchnpodjaaDoorRefRound
import Derived.Test.YtjgpibchnpodjaaDoorRefGraph
import Derived.Test.YtjgpibchnpodjaaDoorDistFar
import Derived.Test.YtjgpibchnpodjaaDoorErrOne
namespace Go.Proofs.YtjgpibchnpodjaaDoor
open Go.RowKit Go.Lib

theorem errIs (q : Int) (h : q ≠ 0) (w : World) (hE : ErrType w) : Calls Tryd.prog 8 #[.iface 25 (.int .i64 q), .int .i64 q] w fun r w' => r = .returned (.bool true) ∧ Below w.heap.size w w' := by
  have := sameErr_any q q w hE
  rw [show errV q = .iface 25 (.int .i64 q) from if_neg h, beq_self_eq_true] at this
  exact this
theorem Vec.argCV {w : World} {g n : Nat} {d : Nat → Nat} (h : Vec w g n (fun i => (d i : Int))) (c : Nat) : ArgI w (.slice (some ⟨g, 0, none⟩) n c) (BellP.vec n d) := h.argC c

set_option maxHeartbeats 4000000 in
set_option maxRecDepth 100000 in
theorem tells_s1g (w : World) (n to : Int) (v u : Value) (l : List Lk) (d : List Int) (hn : l.length < 4611686018427387904) (hd : d.length < 4611686018427387904) (h1 : n < 1) (hs : startBad n to = 1) (hg : gBad n l ≠ 0) (h : ArgK w v l) (hu : ArgI w u d) (he : ErrType w) :
    Calls Tryd.prog 3 #[.int .i64 n, v, .int .i64 to, u] w fun e w' => e = .returned (.bool true) ∧ Below w.heap.size w w' := by
  obtain ⟨pu, cu, rfl, hu'⟩ := id hu
  have HL := Lib.hid (h)
  have HU := Lib.hid (hu)
  have HE := Lib.hid (he)
  have HGf := Lib.hid (fun w1 (h1 : ArgK w1 v l) => graphFault_any w1 n v l hn h1)
  have HSt := Lib.hid (fun w1 => start_bad w1 n to (by rw [hs]; decide))
  rw [hs, show errV 1 = .iface 25 (.int .i64 1) from rfl] at HSt
  have HEs := Lib.hid (errIs 1 (by decide))
  clear hs
  have e1 : runBad n l to = gBad n l := if_pos hg
  have e2 : roundBad n l to d = gBad n l := by unfold roundBad; rw [e1, if_pos hg]
  have HRu := Lib.hid (fun w1 (h1 : ArgK w1 v l) => run_bad w1 n to v l hn h1 (by rw [e1]; exact hg))
  have HRo := Lib.hid (fun w1 (h1 : ArgK w1 v l) (h2 : ArgI w1 (.slice pu d.length cu) d) => round_bad w1 n to v (.slice pu d.length cu) l d hn hd h1 h2 (by rw [e2]; exact hg))
  rw [e1, errV_ne hg] at HRu
  rw [e2, errV_ne hg] at HRo
  have HEr := Lib.hid (errIs (gBad n l) hg)
  have t0 : (gBad n l == 0) = false := by simpa using hg
  clear e1 e2 hg
  generalize gBad n l = q at HGf HRu HRo HEr t0
  clear h hu he hu'
  have HZZ : Hid (Below w.heap.size w w) := Lib.hid (Below.refl _ _)
  go_enter Tryd.func3, Tryd.ntmps3
  go_wp2_with fail
  refine (rounded_any w).mono ?_
  rintro e w1 ⟨rfl, hb1⟩
  have HL' := Lib.hid (HL.out.below hb1)
  have HU' := Lib.hid (HU.out.below hb1)
  have HE' := Lib.hid (HE.out.below hb1)
  have HZZ' := Lib.hid (Below.two HZZ.out hb1)
  clear hb1 HZZ HL HU HE
  have HZZ := HZZ'
  clear HZZ'
  have HL := HL'
  clear HL'
  have HU := HU'
  clear HU'
  have HE := HE'
  clear HE'
  go_wp2_with fail
  refine (HSt.out _).mono ?_
  rintro e w2' ⟨rfl, rfl⟩
  go_wp2_with fail
  refine (HEs.out _ HE.out).mono ?_
  rintro e w3 ⟨rfl, hb3⟩
  have HL' := Lib.hid (HL.out.below hb3)
  have HU' := Lib.hid (HU.out.below hb3)
  have HE' := Lib.hid (HE.out.below hb3)
  have HZZ' := Lib.hid (Below.two HZZ.out hb3)
  clear hb3 HZZ HL HU HE
  have HZZ := HZZ'
  clear HZZ'
  have HL := HL'
  clear HL'
  have HU := HU'
  clear HU'
  have HE := HE'
  clear HE'
  go_wp2_with fail
  refine (sameInts_none w3 none none 0 0).mono ?_
  rintro e w4 ⟨rfl, hb4⟩
  have HL' := Lib.hid (HL.out.below hb4)
  have HU' := Lib.hid (HU.out.below hb4)
  have HE' := Lib.hid (HE.out.below hb4)
  have HZZ' := Lib.hid (Below.two HZZ.out hb4)
  clear hb4 HZZ HL HU HE
  have HZZ := HZZ'
  clear HZZ'
  have HL := HL'
  clear HL'
  have HU := HU'
  clear HU'
  have HE := HE'
  clear HE'
  go_wp2_with fail
  refine (HGf.out _ HL.out).mono ?_
  rintro e w5 ⟨rfl, hb5⟩
  have HL' := Lib.hid (HL.out.below hb5)
  have HU' := Lib.hid (HU.out.below hb5)
  have HE' := Lib.hid (HE.out.below hb5)
  have HZZ' := Lib.hid (Below.two HZZ.out hb5)
  clear hb5 HZZ HL HU HE
  have HZZ := HZZ'
  clear HZZ'
  have HL := HL'
  clear HL'
  have HU := HU'
  clear HU'
  have HE := HE'
  clear HE'
  go_wp2_with fail
  refine wp_loop_rounds 1 ?_
  rw [rounds_succ]
  go_wp2_with fail
  refine (HRo.out _ HL.out HU.out).mono ?_
  rintro e w6 ⟨rfl, hb6⟩
  have HL' := Lib.hid (HL.out.below hb6)
  have HU' := Lib.hid (HU.out.below hb6)
  have HE' := Lib.hid (HE.out.below hb6)
  have HZZ' := Lib.hid (Below.two HZZ.out hb6)
  clear hb6 HZZ HL HU HE
  have HZZ := HZZ'
  clear HZZ'
  have HL := HL'
  clear HL'
  have HU := HU'
  clear HU'
  have HE := HE'
  clear HE'
  go_wp2_with fail
  refine (HEr.out _ HE.out).mono ?_
  rintro e w7 ⟨rfl, hb7⟩
  have HL' := Lib.hid (HL.out.below hb7)
  have HU' := Lib.hid (HU.out.below hb7)
  have HE' := Lib.hid (HE.out.below hb7)
  have HZZ' := Lib.hid (Below.two HZZ.out hb7)
  clear hb7 HZZ HL HU HE
  have HZZ := HZZ'
  clear HZZ'
  have HL := HL'
  clear HL'
  have HU := HU'
  clear HU'
  have HE := HE'
  clear HE'
  go_wp2_with fail
  refine (sameInts_none w7 none none 0 0).mono ?_
  rintro e w8 ⟨rfl, hb8⟩
  have HL' := Lib.hid (HL.out.below hb8)
  have HU' := Lib.hid (HU.out.below hb8)
  have HE' := Lib.hid (HE.out.below hb8)
  have HZZ' := Lib.hid (Below.two HZZ.out hb8)
  clear hb8 HZZ HL HU HE
  have HZZ := HZZ'
  clear HZZ'
  have HL := HL'
  clear HL'
  have HU := HU'
  clear HU'
  have HE := HE'
  clear HE'
  go_wp2_with fail
  refine (HRu.out _ HL.out).mono ?_
  rintro e w9 ⟨rfl, hb9⟩
  have HL' := Lib.hid (HL.out.below hb9)
  have HU' := Lib.hid (HU.out.below hb9)
  have HE' := Lib.hid (HE.out.below hb9)
  have HZZ' := Lib.hid (Below.two HZZ.out hb9)
  clear hb9 HZZ HL HU HE
  have HZZ := HZZ'
  clear HZZ'
  have HL := HL'
  clear HL'
  have HU := HU'
  clear HU'
  have HE := HE'
  clear HE'
  go_wp2_with fail
  refine (HEr.out _ HE.out).mono ?_
  rintro e w10 ⟨rfl, hb10⟩
  have HL' := Lib.hid (HL.out.below hb10)
  have HU' := Lib.hid (HU.out.below hb10)
  have HE' := Lib.hid (HE.out.below hb10)
  have HZZ' := Lib.hid (Below.two HZZ.out hb10)
  clear hb10 HZZ HL HU HE
  have HZZ := HZZ'
  clear HZZ'
  have HL := HL'
  clear HL'
  have HU := HU'
  clear HU'
  have HE := HE'
  clear HE'
  go_wp2_with fail
  refine (sameInts_none w10 none none 0 0).mono ?_
  rintro e w11 ⟨rfl, hb11⟩
  have HL' := Lib.hid (HL.out.below hb11)
  have HU' := Lib.hid (HU.out.below hb11)
  have HE' := Lib.hid (HE.out.below hb11)
  have HZZ' := Lib.hid (Below.two HZZ.out hb11)
  clear hb11 HZZ HL HU HE
  have HZZ := HZZ'
  clear HZZ'
  have HL := HL'
  clear HL'
  have HU := HU'
  clear HU'
  have HE := HE'
  clear HE'
  go_wp2_with fail
  go_ret
  exact ⟨rfl, HZZ.out⟩
set_option maxHeartbeats 4000000 in
set_option maxRecDepth 100000 in
theorem tells_s2g (w : World) (n to : Int) (v u : Value) (l : List Lk) (d : List Int) (hn : l.length < 4611686018427387904) (hd : d.length < 4611686018427387904) (h1 : ¬ n < 1) (h2 : 8 < n) (hs : startBad n to = 1) (hg : gBad n l ≠ 0) (h : ArgK w v l) (hu : ArgI w u d) (he : ErrType w) :
    Calls Tryd.prog 3 #[.int .i64 n, v, .int .i64 to, u] w fun e w' => e = .returned (.bool true) ∧ Below w.heap.size w w' := by
  obtain ⟨pu, cu, rfl, hu'⟩ := id hu
  have HL := Lib.hid (h)
  have HU := Lib.hid (hu)
  have HE := Lib.hid (he)
  have HGf := Lib.hid (fun w1 (h1 : ArgK w1 v l) => graphFault_any w1 n v l hn h1)
  have HSt := Lib.hid (fun w1 => start_bad w1 n to (by rw [hs]; decide))
  rw [hs, show errV 1 = .iface 25 (.int .i64 1) from rfl] at HSt
  have HEs := Lib.hid (errIs 1 (by decide))
  clear hs
  have e1 : runBad n l to = gBad n l := if_pos hg
  have e2 : roundBad n l to d = gBad n l := by unfold roundBad; rw [e1, if_pos hg]
  have HRu := Lib.hid (fun w1 (h1 : ArgK w1 v l) => run_bad w1 n to v l hn h1 (by rw [e1]; exact hg))
  have HRo := Lib.hid (fun w1 (h1 : ArgK w1 v l) (h2 : ArgI w1 (.slice pu d.length cu) d) => round_bad w1 n to v (.slice pu d.length cu) l d hn hd h1 h2 (by rw [e2]; exact hg))
  rw [e1, errV_ne hg] at HRu
  rw [e2, errV_ne hg] at HRo
  have HEr := Lib.hid (errIs (gBad n l) hg)
  have t0 : (gBad n l == 0) = false := by simpa using hg
  clear e1 e2 hg
  generalize gBad n l = q at HGf HRu HRo HEr t0
  clear h hu he hu'
  have HZZ : Hid (Below w.heap.size w w) := Lib.hid (Below.refl _ _)
  go_enter Tryd.func3, Tryd.ntmps3
  go_wp2_with fail
  refine (rounded_any w).mono ?_
  rintro e w1 ⟨rfl, hb1⟩
  have HL' := Lib.hid (HL.out.below hb1)
  have HU' := Lib.hid (HU.out.below hb1)
  have HE' := Lib.hid (HE.out.below hb1)
  have HZZ' := Lib.hid (Below.two HZZ.out hb1)
  clear hb1 HZZ HL HU HE
  have HZZ := HZZ'
  clear HZZ'
  have HL := HL'
  clear HL'
  have HU := HU'
  clear HU'
  have HE := HE'
  clear HE'
  go_wp2_with fail
  refine (HSt.out _).mono ?_
  rintro e w2' ⟨rfl, rfl⟩
  go_wp2_with fail
  refine (HEs.out _ HE.out).mono ?_
  rintro e w3 ⟨rfl, hb3⟩
  have HL' := Lib.hid (HL.out.below hb3)
  have HU' := Lib.hid (HU.out.below hb3)
  have HE' := Lib.hid (HE.out.below hb3)
  have HZZ' := Lib.hid (Below.two HZZ.out hb3)
  clear hb3 HZZ HL HU HE
  have HZZ := HZZ'
  clear HZZ'
  have HL := HL'
  clear HL'
  have HU := HU'
  clear HU'
  have HE := HE'
  clear HE'
  go_wp2_with fail
  refine (sameInts_none w3 none none 0 0).mono ?_
  rintro e w4 ⟨rfl, hb4⟩
  have HL' := Lib.hid (HL.out.below hb4)
  have HU' := Lib.hid (HU.out.below hb4)
  have HE' := Lib.hid (HE.out.below hb4)
  have HZZ' := Lib.hid (Below.two HZZ.out hb4)
  clear hb4 HZZ HL HU HE
  have HZZ := HZZ'
  clear HZZ'
  have HL := HL'
  clear HL'
  have HU := HU'
  clear HU'
  have HE := HE'
  clear HE'
  go_wp2_with fail
  refine (HGf.out _ HL.out).mono ?_
  rintro e w5 ⟨rfl, hb5⟩
  have HL' := Lib.hid (HL.out.below hb5)
  have HU' := Lib.hid (HU.out.below hb5)
  have HE' := Lib.hid (HE.out.below hb5)
  have HZZ' := Lib.hid (Below.two HZZ.out hb5)
  clear hb5 HZZ HL HU HE
  have HZZ := HZZ'
  clear HZZ'
  have HL := HL'
  clear HL'
  have HU := HU'
  clear HU'
  have HE := HE'
  clear HE'
  go_wp2_with fail
  refine wp_loop_rounds 1 ?_
  rw [rounds_succ]
  go_wp2_with fail
  refine (HRo.out _ HL.out HU.out).mono ?_
  rintro e w6 ⟨rfl, hb6⟩
  have HL' := Lib.hid (HL.out.below hb6)
  have HU' := Lib.hid (HU.out.below hb6)
  have HE' := Lib.hid (HE.out.below hb6)
  have HZZ' := Lib.hid (Below.two HZZ.out hb6)
  clear hb6 HZZ HL HU HE
  have HZZ := HZZ'
  clear HZZ'
  have HL := HL'
  clear HL'
  have HU := HU'
  clear HU'
  have HE := HE'
  clear HE'
  go_wp2_with fail
  refine (HEr.out _ HE.out).mono ?_
  rintro e w7 ⟨rfl, hb7⟩
  have HL' := Lib.hid (HL.out.below hb7)
  have HU' := Lib.hid (HU.out.below hb7)
  have HE' := Lib.hid (HE.out.below hb7)
  have HZZ' := Lib.hid (Below.two HZZ.out hb7)
  clear hb7 HZZ HL HU HE
  have HZZ := HZZ'
  clear HZZ'
  have HL := HL'
  clear HL'
  have HU := HU'
  clear HU'
  have HE := HE'
  clear HE'
  go_wp2_with fail
  refine (sameInts_none w7 none none 0 0).mono ?_
  rintro e w8 ⟨rfl, hb8⟩
  have HL' := Lib.hid (HL.out.below hb8)
  have HU' := Lib.hid (HU.out.below hb8)
  have HE' := Lib.hid (HE.out.below hb8)
  have HZZ' := Lib.hid (Below.two HZZ.out hb8)
  clear hb8 HZZ HL HU HE
  have HZZ := HZZ'
  clear HZZ'
  have HL := HL'
  clear HL'
  have HU := HU'
  clear HU'
  have HE := HE'
  clear HE'
  go_wp2_with fail
  refine (HRu.out _ HL.out).mono ?_
  rintro e w9 ⟨rfl, hb9⟩
  have HL' := Lib.hid (HL.out.below hb9)
  have HU' := Lib.hid (HU.out.below hb9)
  have HE' := Lib.hid (HE.out.below hb9)
  have HZZ' := Lib.hid (Below.two HZZ.out hb9)
  clear hb9 HZZ HL HU HE
  have HZZ := HZZ'
  clear HZZ'
  have HL := HL'
  clear HL'
  have HU := HU'
  clear HU'
  have HE := HE'
  clear HE'
  go_wp2_with fail
  refine (HEr.out _ HE.out).mono ?_
  rintro e w10 ⟨rfl, hb10⟩
  have HL' := Lib.hid (HL.out.below hb10)
  have HU' := Lib.hid (HU.out.below hb10)
  have HE' := Lib.hid (HE.out.below hb10)
  have HZZ' := Lib.hid (Below.two HZZ.out hb10)
  clear hb10 HZZ HL HU HE
  have HZZ := HZZ'
  clear HZZ'
  have HL := HL'
  clear HL'
  have HU := HU'
  clear HU'
  have HE := HE'
  clear HE'
  go_wp2_with fail
  refine (sameInts_none w10 none none 0 0).mono ?_
  rintro e w11 ⟨rfl, hb11⟩
  have HL' := Lib.hid (HL.out.below hb11)
  have HU' := Lib.hid (HU.out.below hb11)
  have HE' := Lib.hid (HE.out.below hb11)
  have HZZ' := Lib.hid (Below.two HZZ.out hb11)
  clear hb11 HZZ HL HU HE
  have HZZ := HZZ'
  clear HZZ'
  have HL := HL'
  clear HL'
  have HU := HU'
  clear HU'
  have HE := HE'
  clear HE'
  go_wp2_with fail
  go_ret
  exact ⟨rfl, HZZ.out⟩
set_option maxHeartbeats 4000000 in
set_option maxRecDepth 100000 in
theorem tells_s3g (w : World) (n to : Int) (v u : Value) (l : List Lk) (d : List Int) (hn : l.length < 4611686018427387904) (hd : d.length < 4611686018427387904) (h1 : ¬ n < 1) (h2 : ¬ 8 < n) (h3 : to < 0) (hs : startBad n to = 1) (hg : gBad n l ≠ 0) (h : ArgK w v l) (hu : ArgI w u d) (he : ErrType w) :
    Calls Tryd.prog 3 #[.int .i64 n, v, .int .i64 to, u] w fun e w' => e = .returned (.bool true) ∧ Below w.heap.size w w' := by
  obtain ⟨pu, cu, rfl, hu'⟩ := id hu
  have HL := Lib.hid (h)
  have HU := Lib.hid (hu)
  have HE := Lib.hid (he)
  have HGf := Lib.hid (fun w1 (h1 : ArgK w1 v l) => graphFault_any w1 n v l hn h1)
  have HSt := Lib.hid (fun w1 => start_bad w1 n to (by rw [hs]; decide))
  rw [hs, show errV 1 = .iface 25 (.int .i64 1) from rfl] at HSt
  have HEs := Lib.hid (errIs 1 (by decide))
  clear hs
  have e1 : runBad n l to = gBad n l := if_pos hg
  have e2 : roundBad n l to d = gBad n l := by unfold roundBad; rw [e1, if_pos hg]
  have HRu := Lib.hid (fun w1 (h1 : ArgK w1 v l) => run_bad w1 n to v l hn h1 (by rw [e1]; exact hg))
  have HRo := Lib.hid (fun w1 (h1 : ArgK w1 v l) (h2 : ArgI w1 (.slice pu d.length cu) d) => round_bad w1 n to v (.slice pu d.length cu) l d hn hd h1 h2 (by rw [e2]; exact hg))
  rw [e1, errV_ne hg] at HRu
  rw [e2, errV_ne hg] at HRo
  have HEr := Lib.hid (errIs (gBad n l) hg)
  have t0 : (gBad n l == 0) = false := by simpa using hg
  clear e1 e2 hg
  generalize gBad n l = q at HGf HRu HRo HEr t0
  clear h hu he hu'
  have HZZ : Hid (Below w.heap.size w w) := Lib.hid (Below.refl _ _)
  go_enter Tryd.func3, Tryd.ntmps3
  go_wp2_with fail
  refine (rounded_any w).mono ?_
  rintro e w1 ⟨rfl, hb1⟩
  have HL' := Lib.hid (HL.out.below hb1)
  have HU' := Lib.hid (HU.out.below hb1)
  have HE' := Lib.hid (HE.out.below hb1)
  have HZZ' := Lib.hid (Below.two HZZ.out hb1)
  clear hb1 HZZ HL HU HE
  have HZZ := HZZ'
  clear HZZ'
  have HL := HL'
  clear HL'
  have HU := HU'
  clear HU'
  have HE := HE'
  clear HE'
  go_wp2_with fail
  refine (HSt.out _).mono ?_
  rintro e w2' ⟨rfl, rfl⟩
  go_wp2_with fail
  refine (HEs.out _ HE.out).mono ?_
  rintro e w3 ⟨rfl, hb3⟩
  have HL' := Lib.hid (HL.out.below hb3)
  have HU' := Lib.hid (HU.out.below hb3)
  have HE' := Lib.hid (HE.out.below hb3)
  have HZZ' := Lib.hid (Below.two HZZ.out hb3)
  clear hb3 HZZ HL HU HE
  have HZZ := HZZ'
  clear HZZ'
  have HL := HL'
  clear HL'
  have HU := HU'
  clear HU'
  have HE := HE'
  clear HE'
  go_wp2_with fail
  refine (sameInts_none w3 none none 0 0).mono ?_
  rintro e w4 ⟨rfl, hb4⟩
  have HL' := Lib.hid (HL.out.below hb4)
  have HU' := Lib.hid (HU.out.below hb4)
  have HE' := Lib.hid (HE.out.below hb4)
  have HZZ' := Lib.hid (Below.two HZZ.out hb4)
  clear hb4 HZZ HL HU HE
  have HZZ := HZZ'
  clear HZZ'
  have HL := HL'
  clear HL'
  have HU := HU'
  clear HU'
  have HE := HE'
  clear HE'
  go_wp2_with fail
  refine (HGf.out _ HL.out).mono ?_
  rintro e w5 ⟨rfl, hb5⟩
  have HL' := Lib.hid (HL.out.below hb5)
  have HU' := Lib.hid (HU.out.below hb5)
  have HE' := Lib.hid (HE.out.below hb5)
  have HZZ' := Lib.hid (Below.two HZZ.out hb5)
  clear hb5 HZZ HL HU HE
  have HZZ := HZZ'
  clear HZZ'
  have HL := HL'
  clear HL'
  have HU := HU'
  clear HU'
  have HE := HE'
  clear HE'
  go_wp2_with fail
  refine wp_loop_rounds 1 ?_
  rw [rounds_succ]
  go_wp2_with fail
  refine (HRo.out _ HL.out HU.out).mono ?_
  rintro e w6 ⟨rfl, hb6⟩
  have HL' := Lib.hid (HL.out.below hb6)
  have HU' := Lib.hid (HU.out.below hb6)
  have HE' := Lib.hid (HE.out.below hb6)
  have HZZ' := Lib.hid (Below.two HZZ.out hb6)
  clear hb6 HZZ HL HU HE
  have HZZ := HZZ'
  clear HZZ'
  have HL := HL'
  clear HL'
  have HU := HU'
  clear HU'
  have HE := HE'
  clear HE'
  go_wp2_with fail
  refine (HEr.out _ HE.out).mono ?_
  rintro e w7 ⟨rfl, hb7⟩
  have HL' := Lib.hid (HL.out.below hb7)
  have HU' := Lib.hid (HU.out.below hb7)
  have HE' := Lib.hid (HE.out.below hb7)
  have HZZ' := Lib.hid (Below.two HZZ.out hb7)
  clear hb7 HZZ HL HU HE
  have HZZ := HZZ'
  clear HZZ'
  have HL := HL'
  clear HL'
  have HU := HU'
  clear HU'
  have HE := HE'
  clear HE'
  go_wp2_with fail
  refine (sameInts_none w7 none none 0 0).mono ?_
  rintro e w8 ⟨rfl, hb8⟩
  have HL' := Lib.hid (HL.out.below hb8)
  have HU' := Lib.hid (HU.out.below hb8)
  have HE' := Lib.hid (HE.out.below hb8)
  have HZZ' := Lib.hid (Below.two HZZ.out hb8)
  clear hb8 HZZ HL HU HE
  have HZZ := HZZ'
  clear HZZ'
  have HL := HL'
  clear HL'
  have HU := HU'
  clear HU'
  have HE := HE'
  clear HE'
  go_wp2_with fail
  refine (HRu.out _ HL.out).mono ?_
  rintro e w9 ⟨rfl, hb9⟩
  have HL' := Lib.hid (HL.out.below hb9)
  have HU' := Lib.hid (HU.out.below hb9)
  have HE' := Lib.hid (HE.out.below hb9)
  have HZZ' := Lib.hid (Below.two HZZ.out hb9)
  clear hb9 HZZ HL HU HE
  have HZZ := HZZ'
  clear HZZ'
  have HL := HL'
  clear HL'
  have HU := HU'
  clear HU'
  have HE := HE'
  clear HE'
  go_wp2_with fail
  refine (HEr.out _ HE.out).mono ?_
  rintro e w10 ⟨rfl, hb10⟩
  have HL' := Lib.hid (HL.out.below hb10)
  have HU' := Lib.hid (HU.out.below hb10)
  have HE' := Lib.hid (HE.out.below hb10)
  have HZZ' := Lib.hid (Below.two HZZ.out hb10)
  clear hb10 HZZ HL HU HE
  have HZZ := HZZ'
  clear HZZ'
  have HL := HL'
  clear HL'
  have HU := HU'
  clear HU'
  have HE := HE'
  clear HE'
  go_wp2_with fail
  refine (sameInts_none w10 none none 0 0).mono ?_
  rintro e w11 ⟨rfl, hb11⟩
  have HL' := Lib.hid (HL.out.below hb11)
  have HU' := Lib.hid (HU.out.below hb11)
  have HE' := Lib.hid (HE.out.below hb11)
  have HZZ' := Lib.hid (Below.two HZZ.out hb11)
  clear hb11 HZZ HL HU HE
  have HZZ := HZZ'
  clear HZZ'
  have HL := HL'
  clear HL'
  have HU := HU'
  clear HU'
  have HE := HE'
  clear HE'
  go_wp2_with fail
  go_ret
  exact ⟨rfl, HZZ.out⟩
set_option maxHeartbeats 4000000 in
set_option maxRecDepth 100000 in
theorem tells_s3h (w : World) (n to : Int) (v u : Value) (l : List Lk) (d : List Int) (hn : l.length < 4611686018427387904) (hd : d.length < 4611686018427387904) (h1 : ¬ n < 1) (h2 : ¬ 8 < n) (h3 : to < 0) (hs : startBad n to = 1) (ht : nodeBad n to = 1) (hg : gBad n l = 0) (h : ArgK w v l) (hu : ArgI w u d) (he : ErrType w) :
    Calls Tryd.prog 3 #[.int .i64 n, v, .int .i64 to, u] w fun e w' => e = .returned (.bool true) ∧ Below w.heap.size w w' := by
  obtain ⟨pu, cu, rfl, hu'⟩ := id hu
  have HL := Lib.hid (h)
  have HU := Lib.hid (hu)
  have HE := Lib.hid (he)
  have HGf := Lib.hid (fun w1 (h1 : ArgK w1 v l) => graphFault_any w1 n v l hn h1)
  have HSt := Lib.hid (fun w1 => start_bad w1 n to (by rw [hs]; decide))
  rw [hs, show errV 1 = .iface 25 (.int .i64 1) from rfl] at HSt
  have HEs := Lib.hid (errIs 1 (by decide))
  clear hs
  have e1 : runBad n l to = 1 := by unfold runBad; rw [if_neg (by omega)]; exact ht
  have e2 : roundBad n l to d = 1 := by unfold roundBad; rw [e1]; rfl
  have HRu := Lib.hid (fun w1 (h1 : ArgK w1 v l) => run_bad w1 n to v l hn h1 (by rw [e1]; decide))
  have HRo := Lib.hid (fun w1 (h1 : ArgK w1 v l) (h2 : ArgI w1 (.slice pu d.length cu) d) => round_bad w1 n to v (.slice pu d.length cu) l d hn hd h1 h2 (by rw [e2]; decide))
  rw [e1, show errV 1 = .iface 25 (.int .i64 1) from rfl] at HRu
  rw [e2, show errV 1 = .iface 25 (.int .i64 1) from rfl] at HRo
  have HEr := Lib.hid (errIs 1 (by decide))
  rw [hg] at HGf
  clear e1 e2 hg ht
  clear h hu he hu'
  have HZZ : Hid (Below w.heap.size w w) := Lib.hid (Below.refl _ _)
  go_enter Tryd.func3, Tryd.ntmps3
  go_wp2_with fail
  refine (rounded_any w).mono ?_
  rintro e w1 ⟨rfl, hb1⟩
  have HL' := Lib.hid (HL.out.below hb1)
  have HU' := Lib.hid (HU.out.below hb1)
  have HE' := Lib.hid (HE.out.below hb1)
  have HZZ' := Lib.hid (Below.two HZZ.out hb1)
  clear hb1 HZZ HL HU HE
  have HZZ := HZZ'
  clear HZZ'
  have HL := HL'
  clear HL'
  have HU := HU'
  clear HU'
  have HE := HE'
  clear HE'
  go_wp2_with fail
  refine (HSt.out _).mono ?_
  rintro e w2' ⟨rfl, rfl⟩
  go_wp2_with fail
  refine (HEs.out _ HE.out).mono ?_
  rintro e w3 ⟨rfl, hb3⟩
  have HL' := Lib.hid (HL.out.below hb3)
  have HU' := Lib.hid (HU.out.below hb3)
  have HE' := Lib.hid (HE.out.below hb3)
  have HZZ' := Lib.hid (Below.two HZZ.out hb3)
  clear hb3 HZZ HL HU HE
  have HZZ := HZZ'
  clear HZZ'
  have HL := HL'
  clear HL'
  have HU := HU'
  clear HU'
  have HE := HE'
  clear HE'
  go_wp2_with fail
  refine (sameInts_none w3 none none 0 0).mono ?_
  rintro e w4 ⟨rfl, hb4⟩
  have HL' := Lib.hid (HL.out.below hb4)
  have HU' := Lib.hid (HU.out.below hb4)
  have HE' := Lib.hid (HE.out.below hb4)
  have HZZ' := Lib.hid (Below.two HZZ.out hb4)
  clear hb4 HZZ HL HU HE
  have HZZ := HZZ'
  clear HZZ'
  have HL := HL'
  clear HL'
  have HU := HU'
  clear HU'
  have HE := HE'
  clear HE'
  go_wp2_with fail
  refine (HGf.out _ HL.out).mono ?_
  rintro e w5 ⟨rfl, hb5⟩
  have HL' := Lib.hid (HL.out.below hb5)
  have HU' := Lib.hid (HU.out.below hb5)
  have HE' := Lib.hid (HE.out.below hb5)
  have HZZ' := Lib.hid (Below.two HZZ.out hb5)
  clear hb5 HZZ HL HU HE
  have HZZ := HZZ'
  clear HZZ'
  have HL := HL'
  clear HL'
  have HU := HU'
  clear HU'
  have HE := HE'
  clear HE'
  go_wp2_with fail
  refine wp_loop_rounds 1 ?_
  rw [rounds_succ]
  go_wp2_with fail
  refine (HRo.out _ HL.out HU.out).mono ?_
  rintro e w6 ⟨rfl, hb6⟩
  have HL' := Lib.hid (HL.out.below hb6)
  have HU' := Lib.hid (HU.out.below hb6)
  have HE' := Lib.hid (HE.out.below hb6)
  have HZZ' := Lib.hid (Below.two HZZ.out hb6)
  clear hb6 HZZ HL HU HE
  have HZZ := HZZ'
  clear HZZ'
  have HL := HL'
  clear HL'
  have HU := HU'
  clear HU'
  have HE := HE'
  clear HE'
  go_wp2_with fail
  refine (HEr.out _ HE.out).mono ?_
  rintro e w7 ⟨rfl, hb7⟩
  have HL' := Lib.hid (HL.out.below hb7)
  have HU' := Lib.hid (HU.out.below hb7)
  have HE' := Lib.hid (HE.out.below hb7)
  have HZZ' := Lib.hid (Below.two HZZ.out hb7)
  clear hb7 HZZ HL HU HE
  have HZZ := HZZ'
  clear HZZ'
  have HL := HL'
  clear HL'
  have HU := HU'
  clear HU'
  have HE := HE'
  clear HE'
  go_wp2_with fail
  refine (sameInts_none w7 none none 0 0).mono ?_
  rintro e w8 ⟨rfl, hb8⟩
  have HL' := Lib.hid (HL.out.below hb8)
  have HU' := Lib.hid (HU.out.below hb8)
  have HE' := Lib.hid (HE.out.below hb8)
  have HZZ' := Lib.hid (Below.two HZZ.out hb8)
  clear hb8 HZZ HL HU HE
  have HZZ := HZZ'
  clear HZZ'
  have HL := HL'
  clear HL'
  have HU := HU'
  clear HU'
  have HE := HE'
  clear HE'
  go_wp2_with fail
  refine (HRu.out _ HL.out).mono ?_
  rintro e w9 ⟨rfl, hb9⟩
  have HL' := Lib.hid (HL.out.below hb9)
  have HU' := Lib.hid (HU.out.below hb9)
  have HE' := Lib.hid (HE.out.below hb9)
  have HZZ' := Lib.hid (Below.two HZZ.out hb9)
  clear hb9 HZZ HL HU HE
  have HZZ := HZZ'
  clear HZZ'
  have HL := HL'
  clear HL'
  have HU := HU'
  clear HU'
  have HE := HE'
  clear HE'
  go_wp2_with fail
  refine (HEr.out _ HE.out).mono ?_
  rintro e w10 ⟨rfl, hb10⟩
  have HL' := Lib.hid (HL.out.below hb10)
  have HU' := Lib.hid (HU.out.below hb10)
  have HE' := Lib.hid (HE.out.below hb10)
  have HZZ' := Lib.hid (Below.two HZZ.out hb10)
  clear hb10 HZZ HL HU HE
  have HZZ := HZZ'
  clear HZZ'
  have HL := HL'
  clear HL'
  have HU := HU'
  clear HU'
  have HE := HE'
  clear HE'
  go_wp2_with fail
  refine (sameInts_none w10 none none 0 0).mono ?_
  rintro e w11 ⟨rfl, hb11⟩
  have HL' := Lib.hid (HL.out.below hb11)
  have HU' := Lib.hid (HU.out.below hb11)
  have HE' := Lib.hid (HE.out.below hb11)
  have HZZ' := Lib.hid (Below.two HZZ.out hb11)
  clear hb11 HZZ HL HU HE
  have HZZ := HZZ'
  clear HZZ'
  have HL := HL'
  clear HL'
  have HU := HU'
  clear HU'
  have HE := HE'
  clear HE'
  go_wp2_with fail
  go_ret
  exact ⟨rfl, HZZ.out⟩
set_option maxHeartbeats 4000000 in
set_option maxRecDepth 100000 in
theorem tells_s4g (w : World) (n to : Int) (v u : Value) (l : List Lk) (d : List Int) (hn : l.length < 4611686018427387904) (hd : d.length < 4611686018427387904) (h1 : ¬ n < 1) (h2 : ¬ 8 < n) (h3 : ¬ to < 0) (h4 : n ≤ to) (hs : startBad n to = 1) (hg : gBad n l ≠ 0) (h : ArgK w v l) (hu : ArgI w u d) (he : ErrType w) :
    Calls Tryd.prog 3 #[.int .i64 n, v, .int .i64 to, u] w fun e w' => e = .returned (.bool true) ∧ Below w.heap.size w w' := by
  obtain ⟨pu, cu, rfl, hu'⟩ := id hu
  have HL := Lib.hid (h)
  have HU := Lib.hid (hu)
  have HE := Lib.hid (he)
  have HGf := Lib.hid (fun w1 (h1 : ArgK w1 v l) => graphFault_any w1 n v l hn h1)
  have HSt := Lib.hid (fun w1 => start_bad w1 n to (by rw [hs]; decide))
  rw [hs, show errV 1 = .iface 25 (.int .i64 1) from rfl] at HSt
  have HEs := Lib.hid (errIs 1 (by decide))
  clear hs
  have e1 : runBad n l to = gBad n l := if_pos hg
  have e2 : roundBad n l to d = gBad n l := by unfold roundBad; rw [e1, if_pos hg]
  have HRu := Lib.hid (fun w1 (h1 : ArgK w1 v l) => run_bad w1 n to v l hn h1 (by rw [e1]; exact hg))
  have HRo := Lib.hid (fun w1 (h1 : ArgK w1 v l) (h2 : ArgI w1 (.slice pu d.length cu) d) => round_bad w1 n to v (.slice pu d.length cu) l d hn hd h1 h2 (by rw [e2]; exact hg))
  rw [e1, errV_ne hg] at HRu
  rw [e2, errV_ne hg] at HRo
  have HEr := Lib.hid (errIs (gBad n l) hg)
  have t0 : (gBad n l == 0) = false := by simpa using hg
  clear e1 e2 hg
  generalize gBad n l = q at HGf HRu HRo HEr t0
  clear h hu he hu'
  have HZZ : Hid (Below w.heap.size w w) := Lib.hid (Below.refl _ _)
  go_enter Tryd.func3, Tryd.ntmps3
  go_wp2_with fail
  refine (rounded_any w).mono ?_
  rintro e w1 ⟨rfl, hb1⟩
  have HL' := Lib.hid (HL.out.below hb1)
  have HU' := Lib.hid (HU.out.below hb1)
  have HE' := Lib.hid (HE.out.below hb1)
  have HZZ' := Lib.hid (Below.two HZZ.out hb1)
  clear hb1 HZZ HL HU HE
  have HZZ := HZZ'
  clear HZZ'
  have HL := HL'
  clear HL'
  have HU := HU'
  clear HU'
  have HE := HE'
  clear HE'
  go_wp2_with fail
  refine (HSt.out _).mono ?_
  rintro e w2' ⟨rfl, rfl⟩
  go_wp2_with fail
  refine (HEs.out _ HE.out).mono ?_
  rintro e w3 ⟨rfl, hb3⟩
  have HL' := Lib.hid (HL.out.below hb3)
  have HU' := Lib.hid (HU.out.below hb3)
  have HE' := Lib.hid (HE.out.below hb3)
  have HZZ' := Lib.hid (Below.two HZZ.out hb3)
  clear hb3 HZZ HL HU HE
  have HZZ := HZZ'
  clear HZZ'
  have HL := HL'
  clear HL'
  have HU := HU'
  clear HU'
  have HE := HE'
  clear HE'
  go_wp2_with fail
  refine (sameInts_none w3 none none 0 0).mono ?_
  rintro e w4 ⟨rfl, hb4⟩
  have HL' := Lib.hid (HL.out.below hb4)
  have HU' := Lib.hid (HU.out.below hb4)
  have HE' := Lib.hid (HE.out.below hb4)
  have HZZ' := Lib.hid (Below.two HZZ.out hb4)
  clear hb4 HZZ HL HU HE
  have HZZ := HZZ'
  clear HZZ'
  have HL := HL'
  clear HL'
  have HU := HU'
  clear HU'
  have HE := HE'
  clear HE'
  go_wp2_with fail
  refine (HGf.out _ HL.out).mono ?_
  rintro e w5 ⟨rfl, hb5⟩
  have HL' := Lib.hid (HL.out.below hb5)
  have HU' := Lib.hid (HU.out.below hb5)
  have HE' := Lib.hid (HE.out.below hb5)
  have HZZ' := Lib.hid (Below.two HZZ.out hb5)
  clear hb5 HZZ HL HU HE
  have HZZ := HZZ'
  clear HZZ'
  have HL := HL'
  clear HL'
  have HU := HU'
  clear HU'
  have HE := HE'
  clear HE'
  go_wp2_with fail
  refine wp_loop_rounds 1 ?_
  rw [rounds_succ]
  go_wp2_with fail
  refine (HRo.out _ HL.out HU.out).mono ?_
  rintro e w6 ⟨rfl, hb6⟩
  have HL' := Lib.hid (HL.out.below hb6)
  have HU' := Lib.hid (HU.out.below hb6)
  have HE' := Lib.hid (HE.out.below hb6)
  have HZZ' := Lib.hid (Below.two HZZ.out hb6)
  clear hb6 HZZ HL HU HE
  have HZZ := HZZ'
  clear HZZ'
  have HL := HL'
  clear HL'
  have HU := HU'
  clear HU'
  have HE := HE'
  clear HE'
  go_wp2_with fail
  refine (HEr.out _ HE.out).mono ?_
  rintro e w7 ⟨rfl, hb7⟩
  have HL' := Lib.hid (HL.out.below hb7)
  have HU' := Lib.hid (HU.out.below hb7)
  have HE' := Lib.hid (HE.out.below hb7)
  have HZZ' := Lib.hid (Below.two HZZ.out hb7)
  clear hb7 HZZ HL HU HE
  have HZZ := HZZ'
  clear HZZ'
  have HL := HL'
  clear HL'
  have HU := HU'
  clear HU'
  have HE := HE'
  clear HE'
  go_wp2_with fail
  refine (sameInts_none w7 none none 0 0).mono ?_
  rintro e w8 ⟨rfl, hb8⟩
  have HL' := Lib.hid (HL.out.below hb8)
  have HU' := Lib.hid (HU.out.below hb8)
  have HE' := Lib.hid (HE.out.below hb8)
  have HZZ' := Lib.hid (Below.two HZZ.out hb8)
  clear hb8 HZZ HL HU HE
  have HZZ := HZZ'
  clear HZZ'
  have HL := HL'
  clear HL'
  have HU := HU'
  clear HU'
  have HE := HE'
  clear HE'
  go_wp2_with fail
  refine (HRu.out _ HL.out).mono ?_
  rintro e w9 ⟨rfl, hb9⟩
  have HL' := Lib.hid (HL.out.below hb9)
  have HU' := Lib.hid (HU.out.below hb9)
  have HE' := Lib.hid (HE.out.below hb9)
  have HZZ' := Lib.hid (Below.two HZZ.out hb9)
  clear hb9 HZZ HL HU HE
  have HZZ := HZZ'
  clear HZZ'
  have HL := HL'
  clear HL'
  have HU := HU'
  clear HU'
  have HE := HE'
  clear HE'
  go_wp2_with fail
  refine (HEr.out _ HE.out).mono ?_
  rintro e w10 ⟨rfl, hb10⟩
  have HL' := Lib.hid (HL.out.below hb10)
  have HU' := Lib.hid (HU.out.below hb10)
  have HE' := Lib.hid (HE.out.below hb10)
  have HZZ' := Lib.hid (Below.two HZZ.out hb10)
  clear hb10 HZZ HL HU HE
  have HZZ := HZZ'
  clear HZZ'
  have HL := HL'
  clear HL'
  have HU := HU'
  clear HU'
  have HE := HE'
  clear HE'
  go_wp2_with fail
  refine (sameInts_none w10 none none 0 0).mono ?_
  rintro e w11 ⟨rfl, hb11⟩
  have HL' := Lib.hid (HL.out.below hb11)
  have HU' := Lib.hid (HU.out.below hb11)
  have HE' := Lib.hid (HE.out.below hb11)
  have HZZ' := Lib.hid (Below.two HZZ.out hb11)
  clear hb11 HZZ HL HU HE
  have HZZ := HZZ'
  clear HZZ'
  have HL := HL'
  clear HL'
  have HU := HU'
  clear HU'
  have HE := HE'
  clear HE'
  go_wp2_with fail
  go_ret
  exact ⟨rfl, HZZ.out⟩
set_option maxHeartbeats 4000000 in
set_option maxRecDepth 100000 in
theorem tells_s4h (w : World) (n to : Int) (v u : Value) (l : List Lk) (d : List Int) (hn : l.length < 4611686018427387904) (hd : d.length < 4611686018427387904) (h1 : ¬ n < 1) (h2 : ¬ 8 < n) (h3 : ¬ to < 0) (h4 : n ≤ to) (hs : startBad n to = 1) (ht : nodeBad n to = 1) (hg : gBad n l = 0) (h : ArgK w v l) (hu : ArgI w u d) (he : ErrType w) :
    Calls Tryd.prog 3 #[.int .i64 n, v, .int .i64 to, u] w fun e w' => e = .returned (.bool true) ∧ Below w.heap.size w w' := by
  obtain ⟨pu, cu, rfl, hu'⟩ := id hu
  have HL := Lib.hid (h)
  have HU := Lib.hid (hu)
  have HE := Lib.hid (he)
  have HGf := Lib.hid (fun w1 (h1 : ArgK w1 v l) => graphFault_any w1 n v l hn h1)
  have HSt := Lib.hid (fun w1 => start_bad w1 n to (by rw [hs]; decide))
  rw [hs, show errV 1 = .iface 25 (.int .i64 1) from rfl] at HSt
  have HEs := Lib.hid (errIs 1 (by decide))
  clear hs
  have e1 : runBad n l to = 1 := by unfold runBad; rw [if_neg (by omega)]; exact ht
  have e2 : roundBad n l to d = 1 := by unfold roundBad; rw [e1]; rfl
  have HRu := Lib.hid (fun w1 (h1 : ArgK w1 v l) => run_bad w1 n to v l hn h1 (by rw [e1]; decide))
  have HRo := Lib.hid (fun w1 (h1 : ArgK w1 v l) (h2 : ArgI w1 (.slice pu d.length cu) d) => round_bad w1 n to v (.slice pu d.length cu) l d hn hd h1 h2 (by rw [e2]; decide))
  rw [e1, show errV 1 = .iface 25 (.int .i64 1) from rfl] at HRu
  rw [e2, show errV 1 = .iface 25 (.int .i64 1) from rfl] at HRo
  have HEr := Lib.hid (errIs 1 (by decide))
  rw [hg] at HGf
  clear e1 e2 hg ht
  clear h hu he hu'
  have HZZ : Hid (Below w.heap.size w w) := Lib.hid (Below.refl _ _)
  go_enter Tryd.func3, Tryd.ntmps3
  go_wp2_with fail
  refine (rounded_any w).mono ?_
  rintro e w1 ⟨rfl, hb1⟩
  have HL' := Lib.hid (HL.out.below hb1)
  have HU' := Lib.hid (HU.out.below hb1)
  have HE' := Lib.hid (HE.out.below hb1)
  have HZZ' := Lib.hid (Below.two HZZ.out hb1)
  clear hb1 HZZ HL HU HE
  have HZZ := HZZ'
  clear HZZ'
  have HL := HL'
  clear HL'
  have HU := HU'
  clear HU'
  have HE := HE'
  clear HE'
  go_wp2_with fail
  refine (HSt.out _).mono ?_
  rintro e w2' ⟨rfl, rfl⟩
  go_wp2_with fail
  refine (HEs.out _ HE.out).mono ?_
  rintro e w3 ⟨rfl, hb3⟩
  have HL' := Lib.hid (HL.out.below hb3)
  have HU' := Lib.hid (HU.out.below hb3)
  have HE' := Lib.hid (HE.out.below hb3)
  have HZZ' := Lib.hid (Below.two HZZ.out hb3)
  clear hb3 HZZ HL HU HE
  have HZZ := HZZ'
  clear HZZ'
  have HL := HL'
  clear HL'
  have HU := HU'
  clear HU'
  have HE := HE'
  clear HE'
  go_wp2_with fail
  refine (sameInts_none w3 none none 0 0).mono ?_
  rintro e w4 ⟨rfl, hb4⟩
  have HL' := Lib.hid (HL.out.below hb4)
  have HU' := Lib.hid (HU.out.below hb4)
  have HE' := Lib.hid (HE.out.below hb4)
  have HZZ' := Lib.hid (Below.two HZZ.out hb4)
  clear hb4 HZZ HL HU HE
  have HZZ := HZZ'
  clear HZZ'
  have HL := HL'
  clear HL'
  have HU := HU'
  clear HU'
  have HE := HE'
  clear HE'
  go_wp2_with fail
  refine (HGf.out _ HL.out).mono ?_
  rintro e w5 ⟨rfl, hb5⟩
  have HL' := Lib.hid (HL.out.below hb5)
  have HU' := Lib.hid (HU.out.below hb5)
  have HE' := Lib.hid (HE.out.below hb5)
  have HZZ' := Lib.hid (Below.two HZZ.out hb5)
  clear hb5 HZZ HL HU HE
  have HZZ := HZZ'
  clear HZZ'
  have HL := HL'
  clear HL'
  have HU := HU'
  clear HU'
  have HE := HE'
  clear HE'
  go_wp2_with fail
  refine wp_loop_rounds 1 ?_
  rw [rounds_succ]
  go_wp2_with fail
  refine (HRo.out _ HL.out HU.out).mono ?_
  rintro e w6 ⟨rfl, hb6⟩
  have HL' := Lib.hid (HL.out.below hb6)
  have HU' := Lib.hid (HU.out.below hb6)
  have HE' := Lib.hid (HE.out.below hb6)
  have HZZ' := Lib.hid (Below.two HZZ.out hb6)
  clear hb6 HZZ HL HU HE
  have HZZ := HZZ'
  clear HZZ'
  have HL := HL'
  clear HL'
  have HU := HU'
  clear HU'
  have HE := HE'
  clear HE'
  go_wp2_with fail
  refine (HEr.out _ HE.out).mono ?_
  rintro e w7 ⟨rfl, hb7⟩
  have HL' := Lib.hid (HL.out.below hb7)
  have HU' := Lib.hid (HU.out.below hb7)
  have HE' := Lib.hid (HE.out.below hb7)
  have HZZ' := Lib.hid (Below.two HZZ.out hb7)
  clear hb7 HZZ HL HU HE
  have HZZ := HZZ'
  clear HZZ'
  have HL := HL'
  clear HL'
  have HU := HU'
  clear HU'
  have HE := HE'
  clear HE'
  go_wp2_with fail
  refine (sameInts_none w7 none none 0 0).mono ?_
  rintro e w8 ⟨rfl, hb8⟩
  have HL' := Lib.hid (HL.out.below hb8)
  have HU' := Lib.hid (HU.out.below hb8)
  have HE' := Lib.hid (HE.out.below hb8)
  have HZZ' := Lib.hid (Below.two HZZ.out hb8)
  clear hb8 HZZ HL HU HE
  have HZZ := HZZ'
  clear HZZ'
  have HL := HL'
  clear HL'
  have HU := HU'
  clear HU'
  have HE := HE'
  clear HE'
  go_wp2_with fail
  refine (HRu.out _ HL.out).mono ?_
  rintro e w9 ⟨rfl, hb9⟩
  have HL' := Lib.hid (HL.out.below hb9)
  have HU' := Lib.hid (HU.out.below hb9)
  have HE' := Lib.hid (HE.out.below hb9)
  have HZZ' := Lib.hid (Below.two HZZ.out hb9)
  clear hb9 HZZ HL HU HE
  have HZZ := HZZ'
  clear HZZ'
  have HL := HL'
  clear HL'
  have HU := HU'
  clear HU'
  have HE := HE'
  clear HE'
  go_wp2_with fail
  refine (HEr.out _ HE.out).mono ?_
  rintro e w10 ⟨rfl, hb10⟩
  have HL' := Lib.hid (HL.out.below hb10)
  have HU' := Lib.hid (HU.out.below hb10)
  have HE' := Lib.hid (HE.out.below hb10)
  have HZZ' := Lib.hid (Below.two HZZ.out hb10)
  clear hb10 HZZ HL HU HE
  have HZZ := HZZ'
  clear HZZ'
  have HL := HL'
  clear HL'
  have HU := HU'
  clear HU'
  have HE := HE'
  clear HE'
  go_wp2_with fail
  refine (sameInts_none w10 none none 0 0).mono ?_
  rintro e w11 ⟨rfl, hb11⟩
  have HL' := Lib.hid (HL.out.below hb11)
  have HU' := Lib.hid (HU.out.below hb11)
  have HE' := Lib.hid (HE.out.below hb11)
  have HZZ' := Lib.hid (Below.two HZZ.out hb11)
  clear hb11 HZZ HL HU HE
  have HZZ := HZZ'
  clear HZZ'
  have HL := HL'
  clear HL'
  have HU := HU'
  clear HU'
  have HE := HE'
  clear HE'
  go_wp2_with fail
  go_ret
  exact ⟨rfl, HZZ.out⟩
set_option maxHeartbeats 4000000 in
set_option maxRecDepth 100000 in
theorem tells_s0g (w : World) (m t : Nat) (v u : Value) (l : List Lk) (d : List Int) (hn : l.length < 4611686018427387904) (hd : d.length < 4611686018427387904) (ht : t < m) (hm1 : 1 ≤ m) (hm8 : m ≤ 8) (hg : gBad m l ≠ 0) (h : ArgK w v l) (hu : ArgI w u d) (he : ErrType w) :
    Calls Tryd.prog 3 #[.int .i64 m, v, .int .i64 t, u] w fun e w' => e = .returned (.bool true) ∧ Below w.heap.size w w' := by
  obtain ⟨pu, cu, rfl, hu'⟩ := id hu
  have HL := Lib.hid (h)
  have HU := Lib.hid (hu)
  have HE := Lib.hid (he)
  have HGf := Lib.hid (fun w1 (h1 : ArgK w1 v l) => graphFault_any w1 m v l hn h1)
  have e1 : runBad m l t = gBad m l := if_pos hg
  have e2 : roundBad m l t d = gBad m l := by unfold roundBad; rw [e1, if_pos hg]
  have HRu := Lib.hid (fun w1 (h1 : ArgK w1 v l) => run_bad w1 m t v l hn h1 (by rw [e1]; exact hg))
  have HRo := Lib.hid (fun w1 (h1 : ArgK w1 v l) (h2 : ArgI w1 (.slice pu d.length cu) d) => round_bad w1 m t v (.slice pu d.length cu) l d hn hd h1 h2 (by rw [e2]; exact hg))
  rw [e1, errV_ne hg] at HRu
  rw [e2, errV_ne hg] at HRo
  have HEr := Lib.hid (errIs (gBad m l) hg)
  have t0 : (gBad m l == 0) = false := by simpa using hg
  clear e1 e2 hg
  generalize gBad m l = q at HGf HRu HRo HEr t0
  clear h hu he hu'
  have HZZ : Hid (Below w.heap.size w w) := Lib.hid (Below.refl _ _)
  go_enter Tryd.func3, Tryd.ntmps3
  go_wp2_with fail
  refine (rounded_any w).mono ?_
  rintro e w1 ⟨rfl, hb1⟩
  have HL' := Lib.hid (HL.out.below hb1)
  have HU' := Lib.hid (HU.out.below hb1)
  have HE' := Lib.hid (HE.out.below hb1)
  have HZZ' := Lib.hid (Below.two HZZ.out hb1)
  clear hb1 HZZ HL HU HE
  have HZZ := HZZ'
  clear HZZ'
  have HL := HL'
  clear HL'
  have HU := HU'
  clear HU'
  have HE := HE'
  clear HE'
  go_wp2_with fail
  refine (startOf_any w1 m t hm8 ht).mono ?_
  rintro e w2 ⟨g1, c1, _, rfl, hV, hb2⟩
  have HL' := Lib.hid (HL.out.below hb2)
  have HU' := Lib.hid (HU.out.below hb2)
  have HE' := Lib.hid (HE.out.below hb2)
  have HZZ' := Lib.hid (Below.two HZZ.out hb2)
  have HS1 := Lib.hid (hV)
  clear hb2 HZZ HL HU HE
  have HZZ := HZZ'
  clear HZZ'
  have HL := HL'
  clear HL'
  have HU := HU'
  clear HU'
  have HE := HE'
  clear HE'
  clear hV
  go_wp2_with fail
  refine (start_ok w2 m t hm1 hm8 ht).mono ?_
  rintro e w3 ⟨g2, _, rfl, hV, hb3⟩
  have HL' := Lib.hid (HL.out.below hb3)
  have HU' := Lib.hid (HU.out.below hb3)
  have HE' := Lib.hid (HE.out.below hb3)
  have HS1' := Lib.hid (HS1.out.keep hb3)
  have HZZ' := Lib.hid (Below.two HZZ.out hb3)
  have HS2 := Lib.hid (hV)
  clear hb3 HZZ HL HU HE HS1
  have HZZ := HZZ'
  clear HZZ'
  have HL := HL'
  clear HL'
  have HU := HU'
  clear HU'
  have HE := HE'
  clear HE'
  have HS1 := HS1'
  clear HS1'
  clear hV
  go_wp2_with fail
  refine (same_nil 0 true rfl w3).mono ?_
  rintro e w4' ⟨rfl, rfl⟩
  have HS := sameInts_any w3 _ _ _ _ (by rw [BellP.vec_len]; omega) HS2.out.argV (HS1.out.argCV c1)
  rw [decide_eq_true rfl] at HS
  have HS := Lib.hid HS
  go_wp2_with fail
  refine (HS.out).mono ?_
  rintro e w5 ⟨rfl, hb5⟩
  have HL' := Lib.hid (HL.out.below hb5)
  have HU' := Lib.hid (HU.out.below hb5)
  have HE' := Lib.hid (HE.out.below hb5)
  have HS1' := Lib.hid (HS1.out.keep hb5)
  have HS2' := Lib.hid (HS2.out.keep hb5)
  have HZZ' := Lib.hid (Below.two HZZ.out hb5)
  clear hb5 HZZ HL HU HE HS1 HS2
  have HZZ := HZZ'
  clear HZZ'
  have HL := HL'
  clear HL'
  have HU := HU'
  clear HU'
  have HE := HE'
  clear HE'
  have HS1 := HS1'
  clear HS1'
  have HS2 := HS2'
  clear HS2'
  clear HS
  clear HS1 HS2
  go_wp2_with fail
  refine (HGf.out _ HL.out).mono ?_
  rintro e w6 ⟨rfl, hb6⟩
  have HL' := Lib.hid (HL.out.below hb6)
  have HU' := Lib.hid (HU.out.below hb6)
  have HE' := Lib.hid (HE.out.below hb6)
  have HZZ' := Lib.hid (Below.two HZZ.out hb6)
  clear hb6 HZZ HL HU HE
  have HZZ := HZZ'
  clear HZZ'
  have HL := HL'
  clear HL'
  have HU := HU'
  clear HU'
  have HE := HE'
  clear HE'
  go_wp2_with fail
  refine wp_loop_rounds 1 ?_
  rw [rounds_succ]
  go_wp2_with fail
  refine (HRo.out _ HL.out HU.out).mono ?_
  rintro e w7 ⟨rfl, hb7⟩
  have HL' := Lib.hid (HL.out.below hb7)
  have HU' := Lib.hid (HU.out.below hb7)
  have HE' := Lib.hid (HE.out.below hb7)
  have HZZ' := Lib.hid (Below.two HZZ.out hb7)
  clear hb7 HZZ HL HU HE
  have HZZ := HZZ'
  clear HZZ'
  have HL := HL'
  clear HL'
  have HU := HU'
  clear HU'
  have HE := HE'
  clear HE'
  go_wp2_with fail
  refine (HEr.out _ HE.out).mono ?_
  rintro e w8 ⟨rfl, hb8⟩
  have HL' := Lib.hid (HL.out.below hb8)
  have HU' := Lib.hid (HU.out.below hb8)
  have HE' := Lib.hid (HE.out.below hb8)
  have HZZ' := Lib.hid (Below.two HZZ.out hb8)
  clear hb8 HZZ HL HU HE
  have HZZ := HZZ'
  clear HZZ'
  have HL := HL'
  clear HL'
  have HU := HU'
  clear HU'
  have HE := HE'
  clear HE'
  go_wp2_with fail
  refine (sameInts_none w8 none none 0 0).mono ?_
  rintro e w9 ⟨rfl, hb9⟩
  have HL' := Lib.hid (HL.out.below hb9)
  have HU' := Lib.hid (HU.out.below hb9)
  have HE' := Lib.hid (HE.out.below hb9)
  have HZZ' := Lib.hid (Below.two HZZ.out hb9)
  clear hb9 HZZ HL HU HE
  have HZZ := HZZ'
  clear HZZ'
  have HL := HL'
  clear HL'
  have HU := HU'
  clear HU'
  have HE := HE'
  clear HE'
  go_wp2_with fail
  refine (HRu.out _ HL.out).mono ?_
  rintro e w10 ⟨rfl, hb10⟩
  have HL' := Lib.hid (HL.out.below hb10)
  have HU' := Lib.hid (HU.out.below hb10)
  have HE' := Lib.hid (HE.out.below hb10)
  have HZZ' := Lib.hid (Below.two HZZ.out hb10)
  clear hb10 HZZ HL HU HE
  have HZZ := HZZ'
  clear HZZ'
  have HL := HL'
  clear HL'
  have HU := HU'
  clear HU'
  have HE := HE'
  clear HE'
  go_wp2_with fail
  refine (HEr.out _ HE.out).mono ?_
  rintro e w11 ⟨rfl, hb11⟩
  have HL' := Lib.hid (HL.out.below hb11)
  have HU' := Lib.hid (HU.out.below hb11)
  have HE' := Lib.hid (HE.out.below hb11)
  have HZZ' := Lib.hid (Below.two HZZ.out hb11)
  clear hb11 HZZ HL HU HE
  have HZZ := HZZ'
  clear HZZ'
  have HL := HL'
  clear HL'
  have HU := HU'
  clear HU'
  have HE := HE'
  clear HE'
  go_wp2_with fail
  refine (sameInts_none w11 none none 0 0).mono ?_
  rintro e w12 ⟨rfl, hb12⟩
  have HL' := Lib.hid (HL.out.below hb12)
  have HU' := Lib.hid (HU.out.below hb12)
  have HE' := Lib.hid (HE.out.below hb12)
  have HZZ' := Lib.hid (Below.two HZZ.out hb12)
  clear hb12 HZZ HL HU HE
  have HZZ := HZZ'
  clear HZZ'
  have HL := HL'
  clear HL'
  have HU := HU'
  clear HU'
  have HE := HE'
  clear HE'
  go_wp2_with fail
  go_ret
  exact ⟨rfl, HZZ.out⟩
set_option maxHeartbeats 4000000 in
set_option maxRecDepth 100000 in
theorem tells_s0h1 (w : World) (m t r : Nat) (v u : Value) (l : List Lk) (d : List Int) (hn : l.length < 4611686018427387904) (hd : d.length < 4611686018427387904) (ht : t < m) (hg : gBad m l = 0) (hc : BellP.Cnt m (BellP.ct l) t r) (hl : (d.length : Int) ≠ m) (hf : estBad m d = 3) (h : ArgK w v l) (hu : ArgI w u d) (he : ErrType w) :
    Calls Tryd.prog 3 #[.int .i64 m, v, .int .i64 t, u] w fun e w' => e = .returned (.bool true) ∧ Below w.heap.size w w' := by
  obtain ⟨pu, cu, rfl, hu'⟩ := id hu
  have HL := Lib.hid (h)
  have HU := Lib.hid (hu)
  have HE := Lib.hid (he)
  have HGf := Lib.hid (fun w1 (h1 : ArgK w1 v l) => graphFault_any w1 m v l hn h1)
  have h1 : 1 ≤ m := by omega
  have HR := Lib.hid ((gBad_zero m l).1 hg).2
  have h8 : m ≤ 8 := by have := ((gBad_zero m l).1 hg).1; omega
  have HC := Lib.hid hc
  have hrm := hc.lt
  rw [hg] at HGf
  clear hc
  have e2 : roundBad m l t d = 3 := by unfold roundBad; rw [show runBad m l t = 0 from runBad_zero.2 ⟨hg, by omega, by omega⟩, if_neg (by decide)]; exact hf
  have HRo := Lib.hid (fun w1 (h1 : ArgK w1 v l) (h2 : ArgI w1 (.slice pu d.length cu) d) => round_bad w1 m t v (.slice pu d.length cu) l d hn hd h1 h2 (by rw [e2]; decide))
  rw [e2, show errV 3 = .iface 25 (.int .i64 3) from rfl] at HRo
  have HEr := Lib.hid (errIs 3 (by decide))
  clear e2
  have tl : ((d.length : Int) != (m : Int)) = true := by simpa using hl
  clear hl hf
  clear h hu he hu'
  have HZZ : Hid (Below w.heap.size w w) := Lib.hid (Below.refl _ _)
  go_enter Tryd.func3, Tryd.ntmps3
  go_wp2_with fail
  refine (rounded_any w).mono ?_
  rintro e w1 ⟨rfl, hb1⟩
  have HL' := Lib.hid (HL.out.below hb1)
  have HU' := Lib.hid (HU.out.below hb1)
  have HE' := Lib.hid (HE.out.below hb1)
  have HZZ' := Lib.hid (Below.two HZZ.out hb1)
  clear hb1 HZZ HL HU HE
  have HZZ := HZZ'
  clear HZZ'
  have HL := HL'
  clear HL'
  have HU := HU'
  clear HU'
  have HE := HE'
  clear HE'
  go_wp2_with fail
  refine (startOf_any w1 m t h8 ht).mono ?_
  rintro e w2 ⟨g1, c1, _, rfl, hV, hb2⟩
  have HL' := Lib.hid (HL.out.below hb2)
  have HU' := Lib.hid (HU.out.below hb2)
  have HE' := Lib.hid (HE.out.below hb2)
  have HZZ' := Lib.hid (Below.two HZZ.out hb2)
  have HS1 := Lib.hid (hV)
  clear hb2 HZZ HL HU HE
  have HZZ := HZZ'
  clear HZZ'
  have HL := HL'
  clear HL'
  have HU := HU'
  clear HU'
  have HE := HE'
  clear HE'
  clear hV
  go_wp2_with fail
  refine (start_ok w2 m t h1 h8 ht).mono ?_
  rintro e w3 ⟨g2, _, rfl, hV, hb3⟩
  have HL' := Lib.hid (HL.out.below hb3)
  have HU' := Lib.hid (HU.out.below hb3)
  have HE' := Lib.hid (HE.out.below hb3)
  have HS1' := Lib.hid (HS1.out.keep hb3)
  have HZZ' := Lib.hid (Below.two HZZ.out hb3)
  have HS2 := Lib.hid (hV)
  clear hb3 HZZ HL HU HE HS1
  have HZZ := HZZ'
  clear HZZ'
  have HL := HL'
  clear HL'
  have HU := HU'
  clear HU'
  have HE := HE'
  clear HE'
  have HS1 := HS1'
  clear HS1'
  clear hV
  go_wp2_with fail
  refine (same_nil 0 true rfl w3).mono ?_
  rintro e w4' ⟨rfl, rfl⟩
  have HS := sameInts_any w3 _ _ _ _ (by rw [BellP.vec_len]; omega) HS2.out.argV (HS1.out.argCV c1)
  rw [decide_eq_true rfl] at HS
  have HS := Lib.hid HS
  go_wp2_with fail
  refine (HS.out).mono ?_
  rintro e w5 ⟨rfl, hb5⟩
  have HL' := Lib.hid (HL.out.below hb5)
  have HU' := Lib.hid (HU.out.below hb5)
  have HE' := Lib.hid (HE.out.below hb5)
  have HS1' := Lib.hid (HS1.out.keep hb5)
  have HS2' := Lib.hid (HS2.out.keep hb5)
  have HZZ' := Lib.hid (Below.two HZZ.out hb5)
  clear hb5 HZZ HL HU HE HS1 HS2
  have HZZ := HZZ'
  clear HZZ'
  have HL := HL'
  clear HL'
  have HU := HU'
  clear HU'
  have HE := HE'
  clear HE'
  have HS1 := HS1'
  clear HS1'
  have HS2 := HS2'
  clear HS2'
  clear HS
  clear HS1 HS2
  go_wp2_with fail
  refine (HGf.out _ HL.out).mono ?_
  rintro e w6 ⟨rfl, hb6⟩
  have HL' := Lib.hid (HL.out.below hb6)
  have HU' := Lib.hid (HU.out.below hb6)
  have HE' := Lib.hid (HE.out.below hb6)
  have HZZ' := Lib.hid (Below.two HZZ.out hb6)
  clear hb6 HZZ HL HU HE
  have HZZ := HZZ'
  clear HZZ'
  have HL := HL'
  clear HL'
  have HU := HU'
  clear HU'
  have HE := HE'
  clear HE'
  go_wp2_with fail
  refine wp_loop_rounds 1 ?_
  rw [rounds_succ]
  go_wp2_with fail
  refine (HRo.out _ HL.out HU.out).mono ?_
  rintro e w7 ⟨rfl, hb7⟩
  have HL' := Lib.hid (HL.out.below hb7)
  have HU' := Lib.hid (HU.out.below hb7)
  have HE' := Lib.hid (HE.out.below hb7)
  have HZZ' := Lib.hid (Below.two HZZ.out hb7)
  clear hb7 HZZ HL HU HE
  have HZZ := HZZ'
  clear HZZ'
  have HL := HL'
  clear HL'
  have HU := HU'
  clear HU'
  have HE := HE'
  clear HE'
  go_wp2_with fail
  refine (HEr.out _ HE.out).mono ?_
  rintro e w8 ⟨rfl, hb8⟩
  have HL' := Lib.hid (HL.out.below hb8)
  have HU' := Lib.hid (HU.out.below hb8)
  have HE' := Lib.hid (HE.out.below hb8)
  have HZZ' := Lib.hid (Below.two HZZ.out hb8)
  clear hb8 HZZ HL HU HE
  have HZZ := HZZ'
  clear HZZ'
  have HL := HL'
  clear HL'
  have HU := HU'
  clear HU'
  have HE := HE'
  clear HE'
  go_wp2_with fail
  refine (sameInts_none w8 none none 0 0).mono ?_
  rintro e w9 ⟨rfl, hb9⟩
  have HL' := Lib.hid (HL.out.below hb9)
  have HU' := Lib.hid (HU.out.below hb9)
  have HE' := Lib.hid (HE.out.below hb9)
  have HZZ' := Lib.hid (Below.two HZZ.out hb9)
  clear hb9 HZZ HL HU HE
  have HZZ := HZZ'
  clear HZZ'
  have HL := HL'
  clear HL'
  have HU := HU'
  clear HU'
  have HE := HE'
  clear HE'
  go_wp2_with fail
  refine (farOf_any w9 m t v l h8 ht hn HR.out HL.out).mono ?_
  rintro e w10 ⟨gf, cf, _, rfl, hV, hb10⟩
  have HL' := Lib.hid (HL.out.below hb10)
  have HU' := Lib.hid (HU.out.below hb10)
  have HE' := Lib.hid (HE.out.below hb10)
  have HZZ' := Lib.hid (Below.two HZZ.out hb10)
  have HF := Lib.hid (hV)
  clear hb10 HZZ HL HU HE
  have HZZ := HZZ'
  clear HZZ'
  have HL := HL'
  clear HL'
  have HU := HU'
  clear HU'
  have HE := HE'
  clear HE'
  clear hV
  go_wp2_with fail
  refine (startOf_any w10 m t h8 ht).mono ?_
  rintro e w11 ⟨gs, cs, _, rfl, hV, hb11⟩
  have HL' := Lib.hid (HL.out.below hb11)
  have HU' := Lib.hid (HU.out.below hb11)
  have HE' := Lib.hid (HE.out.below hb11)
  have HF' := Lib.hid (HF.out.keep hb11)
  have HZZ' := Lib.hid (Below.two HZZ.out hb11)
  have HX := Lib.hid (hV.congr (d' := (fun i => (BellP.it m (BellP.ct l) t (BellP.st t) 0 i : Int))) fun i _ => rfl)
  clear hb11 HZZ HL HU HE HF
  have HZZ := HZZ'
  clear HZZ'
  have HL := HL'
  clear HL'
  have HU := HU'
  clear HU'
  have HE := HE'
  clear HE'
  have HF := HF'
  clear HF'
  clear hV
  go_wp2_with fail
  go_loopw [23, 24] (fun x y wr => ∃ (s b c : Nat), x = .int .i64 s ∧ s ≤ r ∧ y = .slice (some ⟨b, 0, none⟩) m c ∧ Hid (Below w.heap.size w wr) ∧ Hid (ArgK wr v l) ∧ Hid (ErrType wr) ∧ Hid (Vec wr gf m (fun i => (BellP.far m (BellP.ct l) t i : Int))) ∧ Hid (Vec wr b m (fun i => (BellP.it m (BellP.ct l) t (BellP.st t) s i : Int)))) (fun x _ _ => r - (RowKit.intOf x).toNat)
  case atStart => exact ⟨0, gs, cs, rfl, Nat.zero_le _, rfl, HZZ, HL, HE, HF, HX⟩
  case round =>
    clear HZZ HL HE HF HX
    obtain ⟨s, b, c, rfl, hs, rfl, HZZ, HL, HE, HF, HX⟩ := hrel
    by_cases hsr : s < r
    · have HS := sameInts_any wr _ _ _ _ (by rw [BellP.vec_len]; omega) (show ArgI wr _ (BellP.vec m (BellP.it m (BellP.ct l) t (BellP.st t) s)) from HX.out.argC c) (show ArgI wr _ (BellP.vec m (BellP.far m (BellP.ct l) t)) from HF.out.argC cf)
      rw [decide_eq_false (HC.out.first s hsr)] at HS
      have HS := Lib.hid HS
      have t20 : (s : Int) < 20 := by omega
      go_wp2_with fail
      refine HS.out.mono ?_
      rintro e x1 ⟨rfl, hb⟩
      have HZZ' := Lib.hid (Below.two HZZ.out hb); have HL' := Lib.hid (HL.out.below hb); have HE' := Lib.hid (HE.out.below hb); have HF' := Lib.hid (HF.out.keep hb); have HX' := Lib.hid (HX.out.keep hb)
      clear hb HS HZZ HL HE HF HX
      go_wp2_with fail
      refine (roundOf_any x1 m t v l b 0 c _ h8 (by omega) hn HR.out HL'.out (BellP.it_bd m _ t (BellP.st_bd t) s) HX'.out.lt (fun j hj => by rw [Nat.zero_add]; exact HX'.out.c j hj)).mono ?_
      rintro e x2 ⟨b2, c2, _, rfl, hV, hb⟩
      have HX := Lib.hid (hV.congr (d' := (fun i => (BellP.it m (BellP.ct l) t (BellP.st t) (s + 1) i : Int))) fun i _ => rfl)
      have HZZ := Lib.hid (Below.two HZZ'.out hb); have HL := Lib.hid (HL'.out.below hb); have HE := Lib.hid (HE'.out.below hb); have HF := Lib.hid (HF'.out.keep hb)
      clear hb hV HZZ' HL' HE' HF' HX'
      go_wp2_with fail
      go_roundw
      case rel => exact ⟨s + 1, b2, c2, by go_num, by omega, rfl, HZZ, HL, HE, HF, HX⟩
      case measure => simp [RowKit.intOf]; omega
    · obtain rfl : s = r := by omega
      have HS := sameInts_any wr _ _ _ _ (by rw [BellP.vec_len]; omega) (show ArgI wr _ (BellP.vec m (BellP.it m (BellP.ct l) t (BellP.st t) s)) from HX.out.argC c) (show ArgI wr _ (BellP.vec m (BellP.far m (BellP.ct l) t)) from HF.out.argC cf)
      rw [decide_eq_true HC.out.at_] at HS
      have HS := Lib.hid HS
      clear hsr
      go_wp2_with fail
      refine (HS.out).mono ?_
      rintro e w51 ⟨rfl, hb51⟩
      have HL' := Lib.hid (HL.out.below hb51)
      have HE' := Lib.hid (HE.out.below hb51)
      have HF' := Lib.hid (HF.out.keep hb51)
      have HZZ' := Lib.hid (Below.two HZZ.out hb51)
      clear hb51 HZZ HL HE HF
      have HZZ := HZZ'
      clear HZZ'
      have HL := HL'
      clear HL'
      have HE := HE'
      clear HE'
      have HF := HF'
      clear HF'
      clear HS HX
      go_wp2_with fail
      refine (run_ok w51 m t s v l hn HL.out hg ht HC.out).mono ?_
      rintro e w52 ⟨gr, _, rfl, hV, hb52⟩
      have HL' := Lib.hid (HL.out.below hb52)
      have HE' := Lib.hid (HE.out.below hb52)
      have HF' := Lib.hid (HF.out.keep hb52)
      have HZZ' := Lib.hid (Below.two HZZ.out hb52)
      have HQ := Lib.hid (hV)
      clear hb52 HZZ HL HE HF
      have HZZ := HZZ'
      clear HZZ'
      have HL := HL'
      clear HL'
      have HE := HE'
      clear HE'
      have HF := HF'
      clear HF'
      clear hV
      go_wp2_with fail
      refine (same_nil 0 true rfl w52).mono ?_
      rintro e w53' ⟨rfl, rfl⟩
      have HS := sameInts_any w52 _ _ _ _ (by rw [BellP.vec_len]; omega) HQ.out.argV (HF.out.argCV cf)
      rw [decide_eq_true rfl] at HS
      have HS := Lib.hid HS
      go_wp2_with fail
      refine (HS.out).mono ?_
      rintro e w54 ⟨rfl, hb54⟩
      have HL' := Lib.hid (HL.out.below hb54)
      have HE' := Lib.hid (HE.out.below hb54)
      have HF' := Lib.hid (HF.out.keep hb54)
      have HQ' := Lib.hid (HQ.out.keep hb54)
      have HZZ' := Lib.hid (Below.two HZZ.out hb54)
      clear hb54 HZZ HL HE HF HQ
      have HZZ := HZZ'
      clear HZZ'
      have HL := HL'
      clear HL'
      have HE := HE'
      clear HE'
      have HF := HF'
      clear HF'
      have HQ := HQ'
      clear HQ'
      clear HS
      go_wp2_with fail
      go_ret
      exact ⟨rfl, HZZ.out⟩
set_option maxHeartbeats 4000000 in
set_option maxRecDepth 100000 in
theorem tells_s0h2 (w : World) (m t r : Nat) (v u : Value) (l : List Lk) (d : List Int) (hn : l.length < 4611686018427387904) (hd : d.length < 4611686018427387904) (ht : t < m) (hg : gBad m l = 0) (hc : BellP.Cnt m (BellP.ct l) t r) (hl : d.length = m) (hf : estBad m d = 1) (h : ArgK w v l) (hu : ArgI w u d) (he : ErrType w) :
    Calls Tryd.prog 3 #[.int .i64 m, v, .int .i64 t, u] w fun e w' => e = .returned (.bool true) ∧ Below w.heap.size w w' := by
  obtain ⟨pu, cu, rfl, hu'⟩ := id hu
  have HL := Lib.hid (h)
  have HU := Lib.hid (hu)
  have HE := Lib.hid (he)
  have HGf := Lib.hid (fun w1 (h1 : ArgK w1 v l) => graphFault_any w1 m v l hn h1)
  have h1 : 1 ≤ m := by omega
  have HR := Lib.hid ((gBad_zero m l).1 hg).2
  have h8 : m ≤ 8 := by have := ((gBad_zero m l).1 hg).1; omega
  have HC := Lib.hid hc
  have hrm := hc.lt
  rw [hg] at HGf
  clear hc
  have e2 : roundBad m l t d = 1 := by unfold roundBad; rw [show runBad m l t = 0 from runBad_zero.2 ⟨hg, by omega, by omega⟩, if_neg (by decide)]; exact hf
  have HRo := Lib.hid (fun w1 (h1 : ArgK w1 v l) (h2 : ArgI w1 (.slice pu d.length cu) d) => round_bad w1 m t v (.slice pu d.length cu) l d hn hd h1 h2 (by rw [e2]; decide))
  rw [e2, show errV 1 = .iface 25 (.int .i64 1) from rfl] at HRo
  have HEr := Lib.hid (errIs 1 (by decide))
  clear e2
  obtain h0 | ⟨bu, ou, rfl, hbu, hsu⟩ := hu'
  · subst h0; simp at hl; omega
  have hl' : (d.length : Int) = m := by omega
  have hl2 := hl
  have HB0 := Lib.hid hbu
  have HSU := Lib.hid hsu
  have HNo := Lib.hid (show ¬ ∀ x ∈ d, 0 ≤ x ∧ x ≤ 16 from fun g => by
    unfold estBad at hf
    rw [if_neg (by omega), if_pos g] at hf
    cases hf)
  clear hf hsu
  rw [hl] at HRo HU ⊢
  clear hl hl'
  clear h hu he
  have HZZ : Hid (Below w.heap.size w w) := Lib.hid (Below.refl _ _)
  go_enter Tryd.func3, Tryd.ntmps3
  go_wp2_with fail
  refine (rounded_any w).mono ?_
  rintro e w1 ⟨rfl, hb1⟩
  have HL' := Lib.hid (HL.out.below hb1)
  have HU' := Lib.hid (HU.out.below hb1)
  have HE' := Lib.hid (HE.out.below hb1)
  have HZZ' := Lib.hid (Below.two HZZ.out hb1)
  clear hb1 HZZ HL HU HE
  have HZZ := HZZ'
  clear HZZ'
  have HL := HL'
  clear HL'
  have HU := HU'
  clear HU'
  have HE := HE'
  clear HE'
  go_wp2_with fail
  refine (startOf_any w1 m t h8 ht).mono ?_
  rintro e w2 ⟨g1, c1, _, rfl, hV, hb2⟩
  have HL' := Lib.hid (HL.out.below hb2)
  have HU' := Lib.hid (HU.out.below hb2)
  have HE' := Lib.hid (HE.out.below hb2)
  have HZZ' := Lib.hid (Below.two HZZ.out hb2)
  have HS1 := Lib.hid (hV)
  clear hb2 HZZ HL HU HE
  have HZZ := HZZ'
  clear HZZ'
  have HL := HL'
  clear HL'
  have HU := HU'
  clear HU'
  have HE := HE'
  clear HE'
  clear hV
  go_wp2_with fail
  refine (start_ok w2 m t h1 h8 ht).mono ?_
  rintro e w3 ⟨g2, _, rfl, hV, hb3⟩
  have HL' := Lib.hid (HL.out.below hb3)
  have HU' := Lib.hid (HU.out.below hb3)
  have HE' := Lib.hid (HE.out.below hb3)
  have HS1' := Lib.hid (HS1.out.keep hb3)
  have HZZ' := Lib.hid (Below.two HZZ.out hb3)
  have HS2 := Lib.hid (hV)
  clear hb3 HZZ HL HU HE HS1
  have HZZ := HZZ'
  clear HZZ'
  have HL := HL'
  clear HL'
  have HU := HU'
  clear HU'
  have HE := HE'
  clear HE'
  have HS1 := HS1'
  clear HS1'
  clear hV
  go_wp2_with fail
  refine (same_nil 0 true rfl w3).mono ?_
  rintro e w4' ⟨rfl, rfl⟩
  have HS := sameInts_any w3 _ _ _ _ (by rw [BellP.vec_len]; omega) HS2.out.argV (HS1.out.argCV c1)
  rw [decide_eq_true rfl] at HS
  have HS := Lib.hid HS
  go_wp2_with fail
  refine (HS.out).mono ?_
  rintro e w5 ⟨rfl, hb5⟩
  have HL' := Lib.hid (HL.out.below hb5)
  have HU' := Lib.hid (HU.out.below hb5)
  have HE' := Lib.hid (HE.out.below hb5)
  have HS1' := Lib.hid (HS1.out.keep hb5)
  have HS2' := Lib.hid (HS2.out.keep hb5)
  have HZZ' := Lib.hid (Below.two HZZ.out hb5)
  clear hb5 HZZ HL HU HE HS1 HS2
  have HZZ := HZZ'
  clear HZZ'
  have HL := HL'
  clear HL'
  have HU := HU'
  clear HU'
  have HE := HE'
  clear HE'
  have HS1 := HS1'
  clear HS1'
  have HS2 := HS2'
  clear HS2'
  clear HS
  clear HS1 HS2
  go_wp2_with fail
  refine (HGf.out _ HL.out).mono ?_
  rintro e w6 ⟨rfl, hb6⟩
  have HL' := Lib.hid (HL.out.below hb6)
  have HU' := Lib.hid (HU.out.below hb6)
  have HE' := Lib.hid (HE.out.below hb6)
  have HZZ' := Lib.hid (Below.two HZZ.out hb6)
  clear hb6 HZZ HL HU HE
  have HZZ := HZZ'
  clear HZZ'
  have HL := HL'
  clear HL'
  have HU := HU'
  clear HU'
  have HE := HE'
  clear HE'
  go_wp2_with fail
  go_loopw [16, 17] (fun z x wr => ∃ (k : Nat), x = .int .i64 k ∧ k ≤ m ∧ Hid (w6 = wr) ∧ ((z = .int .i64 0 ∧ Hid (∀ x ∈ d.take k, 0 ≤ x ∧ x ≤ 16)) ∨ z = .int .i64 1)) (fun _ x _ => m - (RowKit.intOf x).toNat)
  case atStart => exact ⟨0, rfl, Nat.zero_le _, Lib.hid rfl, Or.inl ⟨rfl, Lib.hid (by simp)⟩⟩
  case round =>
    obtain ⟨k, rfl, hk, HW, hz⟩ := hrel
    obtain rfl := HW.out
    clear HW
    rcases hz with ⟨rfl, HA⟩ | rfl
    · by_cases hkm : k < m
      · have hkd : k < d.length := by omega
        have a0 := (HZZ.out.cell (p := ⟨bu, ou + k, none⟩) HB0.out).trans (HSU.out k hkd)
        have HT := Lib.hid (fun h : 0 ≤ d[k]! ∧ d[k]! ≤ 16 => allT (p := fun x => 0 ≤ x ∧ x ≤ 16) hkd HA.out h)
        generalize d[k]! = y at a0 HT
        rcases DistP.cases y with hy | ⟨y', rfl, hy⟩
        · have HFn := Lib.hid (refFar_yes y hy)
          clear hy HT
          go_wp2_with fail
          refine (HFn.out _).mono ?_
          rintro e x1 ⟨rfl, rfl⟩
          go_wp2_with fail
          go_roundw
          case rel => exact ⟨k + 1, by go_num, by omega, Lib.hid trivial, Or.inr rfl⟩
          case measure => simp [RowKit.intOf]; omega
        · have HFn := Lib.hid (refFar_no y' hy)
          have HA' := Lib.hid (HT.out (by omega))
          clear HT
          go_wp2_with fail
          refine (HFn.out _).mono ?_
          rintro e x1 ⟨rfl, rfl⟩
          go_wp2_with fail
          go_roundw
          case rel => exact ⟨k + 1, by go_num, by omega, Lib.hid trivial, Or.inl ⟨rfl, HA'⟩⟩
          case measure => simp [RowKit.intOf]; omega
      · refine absurd ?_ HNo.out
        have := HA.out
        rwa [List.take_of_length_le (by omega)] at this
    · skip
      go_wp2_with fail
      refine (HRo.out _ HL.out HU.out).mono ?_
      rintro e w31 ⟨rfl, hb31⟩
      have HL' := Lib.hid (HL.out.below hb31)
      have HU' := Lib.hid (HU.out.below hb31)
      have HE' := Lib.hid (HE.out.below hb31)
      have HZZ' := Lib.hid (Below.two HZZ.out hb31)
      clear hb31 HZZ HL HU HE
      have HZZ := HZZ'
      clear HZZ'
      have HL := HL'
      clear HL'
      have HU := HU'
      clear HU'
      have HE := HE'
      clear HE'
      go_wp2_with fail
      refine (HEr.out _ HE.out).mono ?_
      rintro e w32 ⟨rfl, hb32⟩
      have HL' := Lib.hid (HL.out.below hb32)
      have HU' := Lib.hid (HU.out.below hb32)
      have HE' := Lib.hid (HE.out.below hb32)
      have HZZ' := Lib.hid (Below.two HZZ.out hb32)
      clear hb32 HZZ HL HU HE
      have HZZ := HZZ'
      clear HZZ'
      have HL := HL'
      clear HL'
      have HU := HU'
      clear HU'
      have HE := HE'
      clear HE'
      go_wp2_with fail
      refine (sameInts_none w32 none none 0 0).mono ?_
      rintro e w33 ⟨rfl, hb33⟩
      have HL' := Lib.hid (HL.out.below hb33)
      have HU' := Lib.hid (HU.out.below hb33)
      have HE' := Lib.hid (HE.out.below hb33)
      have HZZ' := Lib.hid (Below.two HZZ.out hb33)
      clear hb33 HZZ HL HU HE
      have HZZ := HZZ'
      clear HZZ'
      have HL := HL'
      clear HL'
      have HU := HU'
      clear HU'
      have HE := HE'
      clear HE'
      clear HU
      go_wp2_with fail
      refine (farOf_any w33 m t v l h8 ht hn HR.out HL.out).mono ?_
      rintro e w34 ⟨gf, cf, _, rfl, hV, hb34⟩
      have HL' := Lib.hid (HL.out.below hb34)
      have HE' := Lib.hid (HE.out.below hb34)
      have HZZ' := Lib.hid (Below.two HZZ.out hb34)
      have HF := Lib.hid (hV)
      clear hb34 HZZ HL HE
      have HZZ := HZZ'
      clear HZZ'
      have HL := HL'
      clear HL'
      have HE := HE'
      clear HE'
      clear hV
      go_wp2_with fail
      refine (startOf_any w34 m t h8 ht).mono ?_
      rintro e w35 ⟨gs, cs, _, rfl, hV, hb35⟩
      have HL' := Lib.hid (HL.out.below hb35)
      have HE' := Lib.hid (HE.out.below hb35)
      have HF' := Lib.hid (HF.out.keep hb35)
      have HZZ' := Lib.hid (Below.two HZZ.out hb35)
      have HX := Lib.hid (hV.congr (d' := (fun i => (BellP.it m (BellP.ct l) t (BellP.st t) 0 i : Int))) fun i _ => rfl)
      clear hb35 HZZ HL HE HF
      have HZZ := HZZ'
      clear HZZ'
      have HL := HL'
      clear HL'
      have HE := HE'
      clear HE'
      have HF := HF'
      clear HF'
      clear hV
      go_wp2_with fail
      go_loopw [23, 24] (fun x y wr => ∃ (s b c : Nat), x = .int .i64 s ∧ s ≤ r ∧ y = .slice (some ⟨b, 0, none⟩) m c ∧ Hid (Below w.heap.size w wr) ∧ Hid (ArgK wr v l) ∧ Hid (ErrType wr) ∧ Hid (Vec wr gf m (fun i => (BellP.far m (BellP.ct l) t i : Int))) ∧ Hid (Vec wr b m (fun i => (BellP.it m (BellP.ct l) t (BellP.st t) s i : Int)))) (fun x _ _ => r - (RowKit.intOf x).toNat)
      case atStart => exact ⟨0, gs, cs, rfl, Nat.zero_le _, rfl, HZZ, HL, HE, HF, HX⟩
      case round =>
        clear HZZ HL HE HF HX
        obtain ⟨s, b, c, rfl, hs, rfl, HZZ, HL, HE, HF, HX⟩ := hrel
        by_cases hsr : s < r
        · have HS := sameInts_any wr _ _ _ _ (by rw [BellP.vec_len]; omega) (show ArgI wr _ (BellP.vec m (BellP.it m (BellP.ct l) t (BellP.st t) s)) from HX.out.argC c) (show ArgI wr _ (BellP.vec m (BellP.far m (BellP.ct l) t)) from HF.out.argC cf)
          rw [decide_eq_false (HC.out.first s hsr)] at HS
          have HS := Lib.hid HS
          have t20 : (s : Int) < 20 := by omega
          go_wp2_with fail
          refine HS.out.mono ?_
          rintro e x1 ⟨rfl, hb⟩
          have HZZ' := Lib.hid (Below.two HZZ.out hb); have HL' := Lib.hid (HL.out.below hb); have HE' := Lib.hid (HE.out.below hb); have HF' := Lib.hid (HF.out.keep hb); have HX' := Lib.hid (HX.out.keep hb)
          clear hb HS HZZ HL HE HF HX
          go_wp2_with fail
          refine (roundOf_any x1 m t v l b 0 c _ h8 (by omega) hn HR.out HL'.out (BellP.it_bd m _ t (BellP.st_bd t) s) HX'.out.lt (fun j hj => by rw [Nat.zero_add]; exact HX'.out.c j hj)).mono ?_
          rintro e x2 ⟨b2, c2, _, rfl, hV, hb⟩
          have HX := Lib.hid (hV.congr (d' := (fun i => (BellP.it m (BellP.ct l) t (BellP.st t) (s + 1) i : Int))) fun i _ => rfl)
          have HZZ := Lib.hid (Below.two HZZ'.out hb); have HL := Lib.hid (HL'.out.below hb); have HE := Lib.hid (HE'.out.below hb); have HF := Lib.hid (HF'.out.keep hb)
          clear hb hV HZZ' HL' HE' HF' HX'
          go_wp2_with fail
          go_roundw
          case rel => exact ⟨s + 1, b2, c2, by go_num, by omega, rfl, HZZ, HL, HE, HF, HX⟩
          case measure => simp [RowKit.intOf]; omega
        · obtain rfl : s = r := by omega
          have HS := sameInts_any wr _ _ _ _ (by rw [BellP.vec_len]; omega) (show ArgI wr _ (BellP.vec m (BellP.it m (BellP.ct l) t (BellP.st t) s)) from HX.out.argC c) (show ArgI wr _ (BellP.vec m (BellP.far m (BellP.ct l) t)) from HF.out.argC cf)
          rw [decide_eq_true HC.out.at_] at HS
          have HS := Lib.hid HS
          clear hsr
          go_wp2_with fail
          refine (HS.out).mono ?_
          rintro e w51 ⟨rfl, hb51⟩
          have HL' := Lib.hid (HL.out.below hb51)
          have HE' := Lib.hid (HE.out.below hb51)
          have HF' := Lib.hid (HF.out.keep hb51)
          have HZZ' := Lib.hid (Below.two HZZ.out hb51)
          clear hb51 HZZ HL HE HF
          have HZZ := HZZ'
          clear HZZ'
          have HL := HL'
          clear HL'
          have HE := HE'
          clear HE'
          have HF := HF'
          clear HF'
          clear HS HX
          go_wp2_with fail
          refine (run_ok w51 m t s v l hn HL.out hg ht HC.out).mono ?_
          rintro e w52 ⟨gr, _, rfl, hV, hb52⟩
          have HL' := Lib.hid (HL.out.below hb52)
          have HE' := Lib.hid (HE.out.below hb52)
          have HF' := Lib.hid (HF.out.keep hb52)
          have HZZ' := Lib.hid (Below.two HZZ.out hb52)
          have HQ := Lib.hid (hV)
          clear hb52 HZZ HL HE HF
          have HZZ := HZZ'
          clear HZZ'
          have HL := HL'
          clear HL'
          have HE := HE'
          clear HE'
          have HF := HF'
          clear HF'
          clear hV
          go_wp2_with fail
          refine (same_nil 0 true rfl w52).mono ?_
          rintro e w53' ⟨rfl, rfl⟩
          have HS := sameInts_any w52 _ _ _ _ (by rw [BellP.vec_len]; omega) HQ.out.argV (HF.out.argCV cf)
          rw [decide_eq_true rfl] at HS
          have HS := Lib.hid HS
          go_wp2_with fail
          refine (HS.out).mono ?_
          rintro e w54 ⟨rfl, hb54⟩
          have HL' := Lib.hid (HL.out.below hb54)
          have HE' := Lib.hid (HE.out.below hb54)
          have HF' := Lib.hid (HF.out.keep hb54)
          have HQ' := Lib.hid (HQ.out.keep hb54)
          have HZZ' := Lib.hid (Below.two HZZ.out hb54)
          clear hb54 HZZ HL HE HF HQ
          have HZZ := HZZ'
          clear HZZ'
          have HL := HL'
          clear HL'
          have HE := HE'
          clear HE'
          have HF := HF'
          clear HF'
          have HQ := HQ'
          clear HQ'
          clear HS
          go_wp2_with fail
          go_ret
          exact ⟨rfl, HZZ.out⟩
set_option maxHeartbeats 4000000 in
set_option maxRecDepth 100000 in
theorem tells_s0h3 (w : World) (m t r : Nat) (v u : Value) (l : List Lk) (D : Nat → Nat) (hn : l.length < 4611686018427387904) (ht : t < m) (hg : gBad m l = 0) (hc : BellP.Cnt m (BellP.ct l) t r) (hD : ∀ j, D j ≤ 16) (h : ArgK w v l) (hu : ArgI w u (BellP.vec m D)) (he : ErrType w) :
    Calls Tryd.prog 3 #[.int .i64 m, v, .int .i64 t, u] w fun e w' => e = .returned (.bool true) ∧ Below w.heap.size w w' := by
  obtain ⟨pu, cu, rfl, hu'⟩ := id hu
  have HL := Lib.hid (h)
  have HU := Lib.hid (hu)
  have HE := Lib.hid (he)
  have HGf := Lib.hid (fun w1 (h1 : ArgK w1 v l) => graphFault_any w1 m v l hn h1)
  have h1 : 1 ≤ m := by omega
  have HR := Lib.hid ((gBad_zero m l).1 hg).2
  have h8 : m ≤ 8 := by have := ((gBad_zero m l).1 hg).1; omega
  have HC := Lib.hid hc
  have hrm := hc.lt
  rw [hg] at HGf
  clear hc
  obtain ⟨bu, ou, cu', hcu, hbu, hsu⟩ := vec_arg hu (by omega)
  simp only [BellP.vec_len] at hcu
  simp only [Value.slice.injEq, true_and] at hcu
  obtain ⟨rfl, rfl⟩ := hcu
  rw [BellP.vec_len] at HU ⊢
  have HSU := Lib.hid hsu
  have HB0 := Lib.hid hbu
  have HD := Lib.hid hD
  clear hsu hD
  clear h hu he hu'
  have HZZ : Hid (Below w.heap.size w w) := Lib.hid (Below.refl _ _)
  go_enter Tryd.func3, Tryd.ntmps3
  go_wp2_with fail
  refine (rounded_any w).mono ?_
  rintro e w1 ⟨rfl, hb1⟩
  have HL' := Lib.hid (HL.out.below hb1)
  have HU' := Lib.hid (HU.out.below hb1)
  have HE' := Lib.hid (HE.out.below hb1)
  have HZZ' := Lib.hid (Below.two HZZ.out hb1)
  clear hb1 HZZ HL HU HE
  have HZZ := HZZ'
  clear HZZ'
  have HL := HL'
  clear HL'
  have HU := HU'
  clear HU'
  have HE := HE'
  clear HE'
  go_wp2_with fail
  refine (startOf_any w1 m t h8 ht).mono ?_
  rintro e w2 ⟨g1, c1, _, rfl, hV, hb2⟩
  have HL' := Lib.hid (HL.out.below hb2)
  have HU' := Lib.hid (HU.out.below hb2)
  have HE' := Lib.hid (HE.out.below hb2)
  have HZZ' := Lib.hid (Below.two HZZ.out hb2)
  have HS1 := Lib.hid (hV)
  clear hb2 HZZ HL HU HE
  have HZZ := HZZ'
  clear HZZ'
  have HL := HL'
  clear HL'
  have HU := HU'
  clear HU'
  have HE := HE'
  clear HE'
  clear hV
  go_wp2_with fail
  refine (start_ok w2 m t h1 h8 ht).mono ?_
  rintro e w3 ⟨g2, _, rfl, hV, hb3⟩
  have HL' := Lib.hid (HL.out.below hb3)
  have HU' := Lib.hid (HU.out.below hb3)
  have HE' := Lib.hid (HE.out.below hb3)
  have HS1' := Lib.hid (HS1.out.keep hb3)
  have HZZ' := Lib.hid (Below.two HZZ.out hb3)
  have HS2 := Lib.hid (hV)
  clear hb3 HZZ HL HU HE HS1
  have HZZ := HZZ'
  clear HZZ'
  have HL := HL'
  clear HL'
  have HU := HU'
  clear HU'
  have HE := HE'
  clear HE'
  have HS1 := HS1'
  clear HS1'
  clear hV
  go_wp2_with fail
  refine (same_nil 0 true rfl w3).mono ?_
  rintro e w4' ⟨rfl, rfl⟩
  have HS := sameInts_any w3 _ _ _ _ (by rw [BellP.vec_len]; omega) HS2.out.argV (HS1.out.argCV c1)
  rw [decide_eq_true rfl] at HS
  have HS := Lib.hid HS
  go_wp2_with fail
  refine (HS.out).mono ?_
  rintro e w5 ⟨rfl, hb5⟩
  have HL' := Lib.hid (HL.out.below hb5)
  have HU' := Lib.hid (HU.out.below hb5)
  have HE' := Lib.hid (HE.out.below hb5)
  have HS1' := Lib.hid (HS1.out.keep hb5)
  have HS2' := Lib.hid (HS2.out.keep hb5)
  have HZZ' := Lib.hid (Below.two HZZ.out hb5)
  clear hb5 HZZ HL HU HE HS1 HS2
  have HZZ := HZZ'
  clear HZZ'
  have HL := HL'
  clear HL'
  have HU := HU'
  clear HU'
  have HE := HE'
  clear HE'
  have HS1 := HS1'
  clear HS1'
  have HS2 := HS2'
  clear HS2'
  clear HS
  clear HS1 HS2
  go_wp2_with fail
  refine (HGf.out _ HL.out).mono ?_
  rintro e w6 ⟨rfl, hb6⟩
  have HL' := Lib.hid (HL.out.below hb6)
  have HU' := Lib.hid (HU.out.below hb6)
  have HE' := Lib.hid (HE.out.below hb6)
  have HZZ' := Lib.hid (Below.two HZZ.out hb6)
  clear hb6 HZZ HL HU HE
  have HZZ := HZZ'
  clear HZZ'
  have HL := HL'
  clear HL'
  have HU := HU'
  clear HU'
  have HE := HE'
  clear HE'
  go_wp2_with fail
  go_loopw [16, 17] (fun z x wr => ∃ (k : Nat), x = .int .i64 k ∧ k ≤ m ∧ Hid (w6 = wr) ∧ z = .int .i64 0) (fun _ x _ => m - (RowKit.intOf x).toNat)
  case atStart => exact ⟨0, rfl, Nat.zero_le _, Lib.hid rfl, rfl⟩
  case round =>
    obtain ⟨k, rfl, hk, HW, rfl⟩ := hrel
    obtain rfl := HW.out
    clear HW
    by_cases hkm : k < m
    · have a0 := (HZZ.out.cell (p := ⟨bu, ou + k, none⟩) HB0.out).trans (HSU.out k hkm)
      have hdk := HD.out k
      generalize D k = y at a0 hdk
      have HFn := Lib.hid (refFar_no y hdk)
      go_wp2_with fail
      refine (HFn.out _).mono ?_
      rintro e x1 ⟨rfl, rfl⟩
      go_wp2_with fail
      go_roundw
      case rel => exact ⟨k + 1, by go_num, by omega, Lib.hid trivial, rfl⟩
      case measure => simp [RowKit.intOf]; omega
    · obtain rfl : k = m := by omega
      clear hk
      go_wp2_with fail
      refine (roundOf_any w6 k t v l bu ou cu D h8 (by omega) hn HR.out HL.out HD.out (Nat.lt_of_lt_of_le HB0.out HZZ.out.size) (fun j hj => (HZZ.out.cell (p := ⟨bu, ou + j, none⟩) HB0.out).trans (HSU.out j hj))).mono ?_
      rintro e w31 ⟨g3, c3, _, rfl, hV, hb31⟩
      have HL' := Lib.hid (HL.out.below hb31)
      have HU' := Lib.hid (HU.out.below hb31)
      have HE' := Lib.hid (HE.out.below hb31)
      have HZZ' := Lib.hid (Below.two HZZ.out hb31)
      have HV3 := Lib.hid (hV)
      clear hb31 HZZ HL HU HE
      have HZZ := HZZ'
      clear HZZ'
      have HL := HL'
      clear HL'
      have HU := HU'
      clear HU'
      have HE := HE'
      clear HE'
      clear hV
      go_wp2_with fail
      refine (round_ok w31 k t v _ l D hn HL.out HU.out hg ht HD.out).mono ?_
      rintro e w32 ⟨g4, _, rfl, hV, hb32⟩
      have HL' := Lib.hid (HL.out.below hb32)
      have HU' := Lib.hid (HU.out.below hb32)
      have HE' := Lib.hid (HE.out.below hb32)
      have HV3' := Lib.hid (HV3.out.keep hb32)
      have HZZ' := Lib.hid (Below.two HZZ.out hb32)
      have HV4 := Lib.hid (hV)
      clear hb32 HZZ HL HU HE HV3
      have HZZ := HZZ'
      clear HZZ'
      have HL := HL'
      clear HL'
      have HU := HU'
      clear HU'
      have HE := HE'
      clear HE'
      have HV3 := HV3'
      clear HV3'
      clear hV
      go_wp2_with fail
      refine (same_nil 0 true rfl w32).mono ?_
      rintro e w33' ⟨rfl, rfl⟩
      have HS := sameInts_any w32 _ _ _ _ (by rw [BellP.vec_len]; omega) HV4.out.argV (HV3.out.argCV c3)
      rw [decide_eq_true rfl] at HS
      have HS := Lib.hid HS
      go_wp2_with fail
      refine (HS.out).mono ?_
      rintro e w34 ⟨rfl, hb34⟩
      have HL' := Lib.hid (HL.out.below hb34)
      have HU' := Lib.hid (HU.out.below hb34)
      have HE' := Lib.hid (HE.out.below hb34)
      have HV3' := Lib.hid (HV3.out.keep hb34)
      have HV4' := Lib.hid (HV4.out.keep hb34)
      have HZZ' := Lib.hid (Below.two HZZ.out hb34)
      clear hb34 HZZ HL HU HE HV3 HV4
      have HZZ := HZZ'
      clear HZZ'
      have HL := HL'
      clear HL'
      have HU := HU'
      clear HU'
      have HE := HE'
      clear HE'
      have HV3 := HV3'
      clear HV3'
      have HV4 := HV4'
      clear HV4'
      clear HS
      clear HV3 HV4 HU
      go_wp2_with fail
      refine (farOf_any w34 k t v l h8 ht hn HR.out HL.out).mono ?_
      rintro e w35 ⟨gf, cf, _, rfl, hV, hb35⟩
      have HL' := Lib.hid (HL.out.below hb35)
      have HE' := Lib.hid (HE.out.below hb35)
      have HZZ' := Lib.hid (Below.two HZZ.out hb35)
      have HF := Lib.hid (hV)
      clear hb35 HZZ HL HE
      have HZZ := HZZ'
      clear HZZ'
      have HL := HL'
      clear HL'
      have HE := HE'
      clear HE'
      clear hV
      go_wp2_with fail
      refine (startOf_any w35 k t h8 ht).mono ?_
      rintro e w36 ⟨gs, cs, _, rfl, hV, hb36⟩
      have HL' := Lib.hid (HL.out.below hb36)
      have HE' := Lib.hid (HE.out.below hb36)
      have HF' := Lib.hid (HF.out.keep hb36)
      have HZZ' := Lib.hid (Below.two HZZ.out hb36)
      have HX := Lib.hid (hV.congr (d' := (fun i => (BellP.it k (BellP.ct l) t (BellP.st t) 0 i : Int))) fun i _ => rfl)
      clear hb36 HZZ HL HE HF
      have HZZ := HZZ'
      clear HZZ'
      have HL := HL'
      clear HL'
      have HE := HE'
      clear HE'
      have HF := HF'
      clear HF'
      clear hV
      go_wp2_with fail
      go_loopw [23, 24] (fun x y wr => ∃ (s b c : Nat), x = .int .i64 s ∧ s ≤ r ∧ y = .slice (some ⟨b, 0, none⟩) k c ∧ Hid (Below w.heap.size w wr) ∧ Hid (ArgK wr v l) ∧ Hid (ErrType wr) ∧ Hid (Vec wr gf k (fun i => (BellP.far k (BellP.ct l) t i : Int))) ∧ Hid (Vec wr b k (fun i => (BellP.it k (BellP.ct l) t (BellP.st t) s i : Int)))) (fun x _ _ => r - (RowKit.intOf x).toNat)
      case atStart => exact ⟨0, gs, cs, rfl, Nat.zero_le _, rfl, HZZ, HL, HE, HF, HX⟩
      case round =>
        clear HZZ HL HE HF HX
        obtain ⟨s, b, c, rfl, hs, rfl, HZZ, HL, HE, HF, HX⟩ := hrel
        by_cases hsr : s < r
        · have HS := sameInts_any wr _ _ _ _ (by rw [BellP.vec_len]; omega) (show ArgI wr _ (BellP.vec k (BellP.it k (BellP.ct l) t (BellP.st t) s)) from HX.out.argC c) (show ArgI wr _ (BellP.vec k (BellP.far k (BellP.ct l) t)) from HF.out.argC cf)
          rw [decide_eq_false (HC.out.first s hsr)] at HS
          have HS := Lib.hid HS
          have t20 : (s : Int) < 20 := by omega
          go_wp2_with fail
          refine HS.out.mono ?_
          rintro e x1 ⟨rfl, hb⟩
          have HZZ' := Lib.hid (Below.two HZZ.out hb); have HL' := Lib.hid (HL.out.below hb); have HE' := Lib.hid (HE.out.below hb); have HF' := Lib.hid (HF.out.keep hb); have HX' := Lib.hid (HX.out.keep hb)
          clear hb HS HZZ HL HE HF HX
          go_wp2_with fail
          refine (roundOf_any x1 k t v l b 0 c _ h8 (by omega) hn HR.out HL'.out (BellP.it_bd k _ t (BellP.st_bd t) s) HX'.out.lt (fun j hj => by rw [Nat.zero_add]; exact HX'.out.c j hj)).mono ?_
          rintro e x2 ⟨b2, c2, _, rfl, hV, hb⟩
          have HX := Lib.hid (hV.congr (d' := (fun i => (BellP.it k (BellP.ct l) t (BellP.st t) (s + 1) i : Int))) fun i _ => rfl)
          have HZZ := Lib.hid (Below.two HZZ'.out hb); have HL := Lib.hid (HL'.out.below hb); have HE := Lib.hid (HE'.out.below hb); have HF := Lib.hid (HF'.out.keep hb)
          clear hb hV HZZ' HL' HE' HF' HX'
          go_wp2_with fail
          go_roundw
          case rel => exact ⟨s + 1, b2, c2, by go_num, by omega, rfl, HZZ, HL, HE, HF, HX⟩
          case measure => simp [RowKit.intOf]; omega
        · obtain rfl : s = r := by omega
          have HS := sameInts_any wr _ _ _ _ (by rw [BellP.vec_len]; omega) (show ArgI wr _ (BellP.vec k (BellP.it k (BellP.ct l) t (BellP.st t) s)) from HX.out.argC c) (show ArgI wr _ (BellP.vec k (BellP.far k (BellP.ct l) t)) from HF.out.argC cf)
          rw [decide_eq_true HC.out.at_] at HS
          have HS := Lib.hid HS
          clear hsr
          go_wp2_with fail
          refine (HS.out).mono ?_
          rintro e w51 ⟨rfl, hb51⟩
          have HL' := Lib.hid (HL.out.below hb51)
          have HE' := Lib.hid (HE.out.below hb51)
          have HF' := Lib.hid (HF.out.keep hb51)
          have HZZ' := Lib.hid (Below.two HZZ.out hb51)
          clear hb51 HZZ HL HE HF
          have HZZ := HZZ'
          clear HZZ'
          have HL := HL'
          clear HL'
          have HE := HE'
          clear HE'
          have HF := HF'
          clear HF'
          clear HS HX
          go_wp2_with fail
          refine (run_ok w51 k t s v l hn HL.out hg ht HC.out).mono ?_
          rintro e w52 ⟨gr, _, rfl, hV, hb52⟩
          have HL' := Lib.hid (HL.out.below hb52)
          have HE' := Lib.hid (HE.out.below hb52)
          have HF' := Lib.hid (HF.out.keep hb52)
          have HZZ' := Lib.hid (Below.two HZZ.out hb52)
          have HQ := Lib.hid (hV)
          clear hb52 HZZ HL HE HF
          have HZZ := HZZ'
          clear HZZ'
          have HL := HL'
          clear HL'
          have HE := HE'
          clear HE'
          have HF := HF'
          clear HF'
          clear hV
          go_wp2_with fail
          refine (same_nil 0 true rfl w52).mono ?_
          rintro e w53' ⟨rfl, rfl⟩
          have HS := sameInts_any w52 _ _ _ _ (by rw [BellP.vec_len]; omega) HQ.out.argV (HF.out.argCV cf)
          rw [decide_eq_true rfl] at HS
          have HS := Lib.hid HS
          go_wp2_with fail
          refine (HS.out).mono ?_
          rintro e w54 ⟨rfl, hb54⟩
          have HL' := Lib.hid (HL.out.below hb54)
          have HE' := Lib.hid (HE.out.below hb54)
          have HF' := Lib.hid (HF.out.keep hb54)
          have HQ' := Lib.hid (HQ.out.keep hb54)
          have HZZ' := Lib.hid (Below.two HZZ.out hb54)
          clear hb54 HZZ HL HE HF HQ
          have HZZ := HZZ'
          clear HZZ'
          have HL := HL'
          clear HL'
          have HE := HE'
          clear HE'
          have HF := HF'
          clear HF'
          have HQ := HQ'
          clear HQ'
          clear HS
          go_wp2_with fail
          go_ret
          exact ⟨rfl, HZZ.out⟩
theorem bellTells_walk (w : World) (n to : Int) (v u : Value) (l : List Lk) (d : List Int) (hn : l.length < 4611686018427387904) (hd : d.length < 4611686018427387904) (h : ArgK w v l) (hu : ArgI w u d) (he : ErrType w) :
    Calls Tryd.prog 3 #[.int .i64 n, v, .int .i64 to, u] w fun e w' => e = .returned (.bool true) ∧ Below w.heap.size w w' := by
  by_cases h1 : n < 1
  · exact tells_s1g w n to v u l d hn hd h1 (if_pos (Or.inl h1)) (by unfold gBad; rw [if_pos (Or.inl h1)]; decide) h hu he
  · by_cases h2 : 8 < n
    · exact tells_s2g w n to v u l d hn hd h1 h2 (if_pos (Or.inr h2)) (by unfold gBad; rw [if_pos (Or.inr h2)]; decide) h hu he
    · have hs : startBad n to = nodeBad n to := if_neg (by omega)
      by_cases h3 : to < 0
      · have ht : nodeBad n to = 1 := if_pos (Or.inl h3)
        by_cases hg : gBad n l = 0
        · exact tells_s3h w n to v u l d hn hd h1 h2 h3 (hs.trans ht) ht hg h hu he
        · exact tells_s3g w n to v u l d hn hd h1 h2 h3 (hs.trans ht) hg h hu he
      · by_cases h4 : n ≤ to
        · have ht : nodeBad n to = 1 := if_pos (Or.inr h4)
          by_cases hg : gBad n l = 0
          · exact tells_s4h w n to v u l d hn hd h1 h2 h3 h4 (hs.trans ht) ht hg h hu he
          · exact tells_s4g w n to v u l d hn hd h1 h2 h3 h4 (hs.trans ht) hg h hu he
        · obtain ⟨m, rfl⟩ : ∃ m : Nat, n = m := ⟨n.toNat, by omega⟩
          obtain ⟨t, rfl⟩ : ∃ t : Nat, to = t := ⟨to.toNat, by omega⟩
          by_cases hg : gBad m l = 0
          · obtain ⟨r, hc⟩ := BellP.cnt_is (BellP.ct_cost ((gBad_zero m l).1 hg).2) (show t < m by omega)
            by_cases hl : d.length = m
            · by_cases hf : estBad m d = 0
              · obtain ⟨D, rfl, hD⟩ := est_vec hf
                exact tells_s0h3 w m t r v u l D hn (by omega) hg hc hD h hu he
              · have hf1 : estBad m d = 1 := by
                  unfold estBad at hf ⊢
                  rw [if_neg (by omega)] at hf ⊢
                  by_cases g : ∀ x ∈ d, 0 ≤ x ∧ x ≤ 16
                  · rw [if_pos g] at hf; exact absurd rfl hf
                  · rw [if_neg g]
                exact tells_s0h2 w m t r v u l d hn hd (by omega) hg hc hl hf1 h hu he
            · exact tells_s0h1 w m t r v u l d hn hd (by omega) hg hc (by omega) (if_pos (by omega)) h hu he
          · exact tells_s0g w m t v u l d hn hd (by omega) (by omega) (by omega) hg h hu he
end Go.Proofs.YtjgpibchnpodjaaDoor
