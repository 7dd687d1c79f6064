/-
  The law SpfTells at every number of nodes, every links and node: it tells true; what lay in memory stays. Condition: the library's variable errors.errorType is as its text lays it.
-/
import Derived.Test.YtjgmehmhhplkaaaDoorSpfNearest
import Derived.Test.YtjgmehmhhplkaaaDoorSpfLists
import Derived.Test.YtjgmehmhhplkaaaDoorRefRound
import Derived.Test.YtjgmehmhhplkaaaDoorRefGraph
import Derived.Test.YtjgmehmhhplkaaaDoorErrOne
import Derived.Test.YtjgmehmhhplkaaaDoorRowsOwn
import Derived.Test.YtjgmehmhhplkaaaDoorSameRows
import Derived.Deep.QuietTactic
import Derived.BigQuiet
namespace Go.Proofs.YtjgmehmhhplkaaaDoor
open Go.RowKit Go.Lib

theorem errIs (q : Int) (h : q ≠ 0) (w : World) (hE : ErrType w) : Calls Tryd.prog 10 #[.iface 24 (.int .i64 q), .int .i64 q] w fun r w' => r = .returned (.bool true) ∧ Below w.heap.size w w' := by
  have := sameErr_any q q w hE
  rw [show errV q = .iface 24 (.int .i64 q) from if_neg h, beq_self_eq_true] at this
  exact this
theorem Vec.argCV {w : World} {g n : Nat} {d : Nat → Nat} (h : Vec w g n (fun i => (d i : Int))) (c : Nat) : ArgI w (.slice (some ⟨g, 0, none⟩) n c) (BellP.vec n d) := h.argC c
/-- The first k nodes' lists. -/
def upsN (m : Nat) (C : MatP.T) (t k : Nat) : List (List Int) := (List.range k).map (SpfP.ups m C t)
theorem upsN_len (m : Nat) (C : MatP.T) (t k : Nat) : (upsN m C t k).length = k := by simp [upsN]
theorem upsN_more (m : Nat) (C : MatP.T) (t k : Nat) : upsN m C t (k + 1) = upsN m C t k ++ [SpfP.ups m C t k] := by simp [upsN, List.range_succ]
theorem rows_none (w : World) : Calls Tryd.prog 13 #[.slice none 0 0, .slice none 0 0] w fun e w' => e = .returned (.bool true) ∧ Below w.heap.size w w' := by
  have := sameRows_any w (.slice none 0 0) (.slice none 0 0) [] [] (by simp) (by simp) ⟨none, 0, rfl, Or.inl rfl⟩ ⟨none, 0, rfl, Or.inl rfl⟩
  rwa [decide_eq_true rfl] at this
theorem ints_none (w : World) : Calls Tryd.prog 11 #[.slice none 0 0, .slice none 0 0] w fun e w' => e = .returned (.bool true) ∧ Below w.heap.size w w' := by
  have := sameInts_any w (.slice none 0 0) (.slice none 0 0) [] [] (by simp) ⟨none, 0, rfl, Or.inl rfl⟩ ⟨none, 0, rfl, Or.inl rfl⟩
  rwa [decide_eq_true rfl] at this

set_option maxHeartbeats 4000000 in
set_option maxRecDepth 100000 in
theorem tells_a (w : World) (n fr : Int) (v : Value) (l : List Lk) (hn : l.length < 4611686018427387904) (h : ArgK w v l) (he : ErrType w) (hg : gBad n l ≠ 0) :
    Calls Tryd.prog 3 #[.int .i64 n, v, .int .i64 fr] w fun e w' => e = .returned (.bool true) ∧ Below w.heap.size w w' := by
  have HL := Lib.hid (h)
  have HE := Lib.hid (he)
  have e1 : spfBad n l fr = gBad n l := if_pos hg
  have HR := Lib.hid (fun w1 (h1 : ArgK w1 v l) => far_bad w1 n fr v l hn h1 (by rw [e1]; exact hg))
  have HU := Lib.hid (fun w1 (h1 : ArgK w1 v l) => ups_bad w1 n fr v l hn h1 (by rw [e1]; exact hg))
  rw [e1, spf_err hg] at HR HU
  have HGf := Lib.hid (fun w1 (h1 : ArgK w1 v l) => graphFault_any w1 n v l hn h1)
  have HEr := Lib.hid (errIs (gBad n l) hg)
  have t0 : (gBad n l == 0) = false := by simpa using hg
  clear h he e1 hg
  generalize gBad n l = q at HR HU HGf HEr t0
  have HZZ : Hid (Below w.heap.size w w) := Lib.hid (Below.refl _ _)
  go_enter Tryd.func3, Tryd.ntmps3
  go_wp2_with fail
  refine (nearest_any w).mono ?_
  rintro e w1 ⟨rfl, hb1⟩
  have HL' := Lib.hid (HL.out.below hb1)
  have HE' := Lib.hid (HE.out.below hb1)
  have HZZ' := Lib.hid (Below.two HZZ.out hb1)
  clear hb1 HZZ HL HE
  have HZZ := HZZ'
  clear HZZ'
  have HL := HL'
  clear HL'
  have HE := HE'
  clear HE'
  go_wp2_with fail
  refine (HGf.out _ HL.out).mono ?_
  rintro e w2 ⟨rfl, hb2⟩
  have HL' := Lib.hid (HL.out.below hb2)
  have HE' := Lib.hid (HE.out.below hb2)
  have HZZ' := Lib.hid (Below.two HZZ.out hb2)
  clear hb2 HZZ HL HE
  have HZZ := HZZ'
  clear HZZ'
  have HL := HL'
  clear HL'
  have HE := HE'
  clear HE'
  go_wp2_with fail
  refine wp_loop_rounds 1 ?_
  rw [rounds_succ]
  go_wp2_with fail
  refine (HR.out _ HL.out).mono ?_
  rintro e w3 ⟨rfl, hb3⟩
  have HL' := Lib.hid (HL.out.below hb3)
  have HE' := Lib.hid (HE.out.below hb3)
  have HZZ' := Lib.hid (Below.two HZZ.out hb3)
  clear hb3 HZZ HL HE
  have HZZ := HZZ'
  clear HZZ'
  have HL := HL'
  clear HL'
  have HE := HE'
  clear HE'
  go_wp2_with fail
  refine (HEr.out _ HE.out).mono ?_
  rintro e w4 ⟨rfl, hb4⟩
  have HL' := Lib.hid (HL.out.below hb4)
  have HE' := Lib.hid (HE.out.below hb4)
  have HZZ' := Lib.hid (Below.two HZZ.out hb4)
  clear hb4 HZZ HL HE
  have HZZ := HZZ'
  clear HZZ'
  have HL := HL'
  clear HL'
  have HE := HE'
  clear HE'
  go_wp2_with fail
  refine (ints_none w4).mono ?_
  rintro e w5 ⟨rfl, hb5⟩
  have HL' := Lib.hid (HL.out.below hb5)
  have HE' := Lib.hid (HE.out.below hb5)
  have HZZ' := Lib.hid (Below.two HZZ.out hb5)
  clear hb5 HZZ HL HE
  have HZZ := HZZ'
  clear HZZ'
  have HL := HL'
  clear HL'
  have HE := HE'
  clear HE'
  go_wp2_with fail
  refine (HU.out _ HL.out).mono ?_
  rintro e w6 ⟨rfl, hb6⟩
  have HL' := Lib.hid (HL.out.below hb6)
  have HE' := Lib.hid (HE.out.below hb6)
  have HZZ' := Lib.hid (Below.two HZZ.out hb6)
  clear hb6 HZZ HL HE
  have HZZ := HZZ'
  clear HZZ'
  have HL := HL'
  clear HL'
  have HE := HE'
  clear HE'
  go_wp2_with fail
  refine (HEr.out _ HE.out).mono ?_
  rintro e w7 ⟨rfl, hb7⟩
  have HL' := Lib.hid (HL.out.below hb7)
  have HE' := Lib.hid (HE.out.below hb7)
  have HZZ' := Lib.hid (Below.two HZZ.out hb7)
  clear hb7 HZZ HL HE
  have HZZ := HZZ'
  clear HZZ'
  have HL := HL'
  clear HL'
  have HE := HE'
  clear HE'
  go_wp2_with fail
  refine (rows_none w7).mono ?_
  rintro e w8 ⟨rfl, hb8⟩
  have HL' := Lib.hid (HL.out.below hb8)
  have HE' := Lib.hid (HE.out.below hb8)
  have HZZ' := Lib.hid (Below.two HZZ.out hb8)
  clear hb8 HZZ HL HE
  have HZZ := HZZ'
  clear HZZ'
  have HL := HL'
  clear HL'
  have HE := HE'
  clear HE'
  go_wp2_with fail
  go_ret
  exact ⟨rfl, HZZ.out⟩
set_option maxHeartbeats 4000000 in
set_option maxRecDepth 100000 in
theorem tells_b1 (w : World) (m : Nat) (fr : Int) (v : Value) (l : List Lk) (hn : l.length < 4611686018427387904) (h : ArgK w v l) (he : ErrType w) (hg : gBad m l = 0) (hz : fr < 0) :
    Calls Tryd.prog 3 #[.int .i64 m, v, .int .i64 fr] w fun e w' => e = .returned (.bool true) ∧ Below w.heap.size w w' := by
  have HL := Lib.hid (h)
  have HE := Lib.hid (he)
  have hb : fr < 0 ∨ (m : Int) ≤ fr := by omega
  have e1 : spfBad m l fr = 1 := by unfold spfBad; rw [if_neg (by omega), if_pos hb]
  have HR := Lib.hid (fun w1 (h1 : ArgK w1 v l) => far_bad w1 m fr v l hn h1 (by rw [e1]; decide))
  have HU := Lib.hid (fun w1 (h1 : ArgK w1 v l) => ups_bad w1 m fr v l hn h1 (by rw [e1]; decide))
  rw [e1, spf_err (by decide)] at HR HU
  have HGf := Lib.hid (fun w1 (h1 : ArgK w1 v l) => graphFault_any w1 m v l hn h1)
  rw [hg] at HGf
  have HEr := Lib.hid (errIs 1 (by decide))
  clear h he e1 hg hb

  have HZZ : Hid (Below w.heap.size w w) := Lib.hid (Below.refl _ _)
  go_enter Tryd.func3, Tryd.ntmps3
  go_wp2_with fail
  refine (nearest_any w).mono ?_
  rintro e w1 ⟨rfl, hb1⟩
  have HL' := Lib.hid (HL.out.below hb1)
  have HE' := Lib.hid (HE.out.below hb1)
  have HZZ' := Lib.hid (Below.two HZZ.out hb1)
  clear hb1 HZZ HL HE
  have HZZ := HZZ'
  clear HZZ'
  have HL := HL'
  clear HL'
  have HE := HE'
  clear HE'
  go_wp2_with fail
  refine (HGf.out _ HL.out).mono ?_
  rintro e w2 ⟨rfl, hb2⟩
  have HL' := Lib.hid (HL.out.below hb2)
  have HE' := Lib.hid (HE.out.below hb2)
  have HZZ' := Lib.hid (Below.two HZZ.out hb2)
  clear hb2 HZZ HL HE
  have HZZ := HZZ'
  clear HZZ'
  have HL := HL'
  clear HL'
  have HE := HE'
  clear HE'
  go_wp2_with fail
  refine wp_loop_rounds 1 ?_
  rw [rounds_succ]
  go_wp2_with fail
  refine (HR.out _ HL.out).mono ?_
  rintro e w3 ⟨rfl, hb3⟩
  have HL' := Lib.hid (HL.out.below hb3)
  have HE' := Lib.hid (HE.out.below hb3)
  have HZZ' := Lib.hid (Below.two HZZ.out hb3)
  clear hb3 HZZ HL HE
  have HZZ := HZZ'
  clear HZZ'
  have HL := HL'
  clear HL'
  have HE := HE'
  clear HE'
  go_wp2_with fail
  refine (HEr.out _ HE.out).mono ?_
  rintro e w4 ⟨rfl, hb4⟩
  have HL' := Lib.hid (HL.out.below hb4)
  have HE' := Lib.hid (HE.out.below hb4)
  have HZZ' := Lib.hid (Below.two HZZ.out hb4)
  clear hb4 HZZ HL HE
  have HZZ := HZZ'
  clear HZZ'
  have HL := HL'
  clear HL'
  have HE := HE'
  clear HE'
  go_wp2_with fail
  refine (ints_none w4).mono ?_
  rintro e w5 ⟨rfl, hb5⟩
  have HL' := Lib.hid (HL.out.below hb5)
  have HE' := Lib.hid (HE.out.below hb5)
  have HZZ' := Lib.hid (Below.two HZZ.out hb5)
  clear hb5 HZZ HL HE
  have HZZ := HZZ'
  clear HZZ'
  have HL := HL'
  clear HL'
  have HE := HE'
  clear HE'
  go_wp2_with fail
  refine (HU.out _ HL.out).mono ?_
  rintro e w6 ⟨rfl, hb6⟩
  have HL' := Lib.hid (HL.out.below hb6)
  have HE' := Lib.hid (HE.out.below hb6)
  have HZZ' := Lib.hid (Below.two HZZ.out hb6)
  clear hb6 HZZ HL HE
  have HZZ := HZZ'
  clear HZZ'
  have HL := HL'
  clear HL'
  have HE := HE'
  clear HE'
  go_wp2_with fail
  refine (HEr.out _ HE.out).mono ?_
  rintro e w7 ⟨rfl, hb7⟩
  have HL' := Lib.hid (HL.out.below hb7)
  have HE' := Lib.hid (HE.out.below hb7)
  have HZZ' := Lib.hid (Below.two HZZ.out hb7)
  clear hb7 HZZ HL HE
  have HZZ := HZZ'
  clear HZZ'
  have HL := HL'
  clear HL'
  have HE := HE'
  clear HE'
  go_wp2_with fail
  refine (rows_none w7).mono ?_
  rintro e w8 ⟨rfl, hb8⟩
  have HL' := Lib.hid (HL.out.below hb8)
  have HE' := Lib.hid (HE.out.below hb8)
  have HZZ' := Lib.hid (Below.two HZZ.out hb8)
  clear hb8 HZZ HL HE
  have HZZ := HZZ'
  clear HZZ'
  have HL := HL'
  clear HL'
  have HE := HE'
  clear HE'
  go_wp2_with fail
  go_ret
  exact ⟨rfl, HZZ.out⟩
set_option maxHeartbeats 4000000 in
set_option maxRecDepth 100000 in
theorem tells_b2 (w : World) (m : Nat) (fr : Int) (v : Value) (l : List Lk) (hn : l.length < 4611686018427387904) (h : ArgK w v l) (he : ErrType w) (hg : gBad m l = 0) (hz : ¬ fr < 0) (hy : (m : Int) ≤ fr) :
    Calls Tryd.prog 3 #[.int .i64 m, v, .int .i64 fr] w fun e w' => e = .returned (.bool true) ∧ Below w.heap.size w w' := by
  have HL := Lib.hid (h)
  have HE := Lib.hid (he)
  have hb : fr < 0 ∨ (m : Int) ≤ fr := by omega
  have e1 : spfBad m l fr = 1 := by unfold spfBad; rw [if_neg (by omega), if_pos hb]
  have HR := Lib.hid (fun w1 (h1 : ArgK w1 v l) => far_bad w1 m fr v l hn h1 (by rw [e1]; decide))
  have HU := Lib.hid (fun w1 (h1 : ArgK w1 v l) => ups_bad w1 m fr v l hn h1 (by rw [e1]; decide))
  rw [e1, spf_err (by decide)] at HR HU
  have HGf := Lib.hid (fun w1 (h1 : ArgK w1 v l) => graphFault_any w1 m v l hn h1)
  rw [hg] at HGf
  have HEr := Lib.hid (errIs 1 (by decide))
  clear h he e1 hg hb
  have hy2 : fr ≥ (m : Int) := hy
  clear hy

  have HZZ : Hid (Below w.heap.size w w) := Lib.hid (Below.refl _ _)
  go_enter Tryd.func3, Tryd.ntmps3
  go_wp2_with fail
  refine (nearest_any w).mono ?_
  rintro e w1 ⟨rfl, hb1⟩
  have HL' := Lib.hid (HL.out.below hb1)
  have HE' := Lib.hid (HE.out.below hb1)
  have HZZ' := Lib.hid (Below.two HZZ.out hb1)
  clear hb1 HZZ HL HE
  have HZZ := HZZ'
  clear HZZ'
  have HL := HL'
  clear HL'
  have HE := HE'
  clear HE'
  go_wp2_with fail
  refine (HGf.out _ HL.out).mono ?_
  rintro e w2 ⟨rfl, hb2⟩
  have HL' := Lib.hid (HL.out.below hb2)
  have HE' := Lib.hid (HE.out.below hb2)
  have HZZ' := Lib.hid (Below.two HZZ.out hb2)
  clear hb2 HZZ HL HE
  have HZZ := HZZ'
  clear HZZ'
  have HL := HL'
  clear HL'
  have HE := HE'
  clear HE'
  go_wp2_with fail
  refine wp_loop_rounds 1 ?_
  rw [rounds_succ]
  go_wp2_with fail
  refine (HR.out _ HL.out).mono ?_
  rintro e w3 ⟨rfl, hb3⟩
  have HL' := Lib.hid (HL.out.below hb3)
  have HE' := Lib.hid (HE.out.below hb3)
  have HZZ' := Lib.hid (Below.two HZZ.out hb3)
  clear hb3 HZZ HL HE
  have HZZ := HZZ'
  clear HZZ'
  have HL := HL'
  clear HL'
  have HE := HE'
  clear HE'
  go_wp2_with fail
  refine (HEr.out _ HE.out).mono ?_
  rintro e w4 ⟨rfl, hb4⟩
  have HL' := Lib.hid (HL.out.below hb4)
  have HE' := Lib.hid (HE.out.below hb4)
  have HZZ' := Lib.hid (Below.two HZZ.out hb4)
  clear hb4 HZZ HL HE
  have HZZ := HZZ'
  clear HZZ'
  have HL := HL'
  clear HL'
  have HE := HE'
  clear HE'
  go_wp2_with fail
  refine (ints_none w4).mono ?_
  rintro e w5 ⟨rfl, hb5⟩
  have HL' := Lib.hid (HL.out.below hb5)
  have HE' := Lib.hid (HE.out.below hb5)
  have HZZ' := Lib.hid (Below.two HZZ.out hb5)
  clear hb5 HZZ HL HE
  have HZZ := HZZ'
  clear HZZ'
  have HL := HL'
  clear HL'
  have HE := HE'
  clear HE'
  go_wp2_with fail
  refine (HU.out _ HL.out).mono ?_
  rintro e w6 ⟨rfl, hb6⟩
  have HL' := Lib.hid (HL.out.below hb6)
  have HE' := Lib.hid (HE.out.below hb6)
  have HZZ' := Lib.hid (Below.two HZZ.out hb6)
  clear hb6 HZZ HL HE
  have HZZ := HZZ'
  clear HZZ'
  have HL := HL'
  clear HL'
  have HE := HE'
  clear HE'
  go_wp2_with fail
  refine (HEr.out _ HE.out).mono ?_
  rintro e w7 ⟨rfl, hb7⟩
  have HL' := Lib.hid (HL.out.below hb7)
  have HE' := Lib.hid (HE.out.below hb7)
  have HZZ' := Lib.hid (Below.two HZZ.out hb7)
  clear hb7 HZZ HL HE
  have HZZ := HZZ'
  clear HZZ'
  have HL := HL'
  clear HL'
  have HE := HE'
  clear HE'
  go_wp2_with fail
  refine (rows_none w7).mono ?_
  rintro e w8 ⟨rfl, hb8⟩
  have HL' := Lib.hid (HL.out.below hb8)
  have HE' := Lib.hid (HE.out.below hb8)
  have HZZ' := Lib.hid (Below.two HZZ.out hb8)
  clear hb8 HZZ HL HE
  have HZZ := HZZ'
  clear HZZ'
  have HL := HL'
  clear HL'
  have HE := HE'
  clear HE'
  go_wp2_with fail
  go_ret
  exact ⟨rfl, HZZ.out⟩
set_option maxHeartbeats 4000000 in
set_option maxRecDepth 100000 in
theorem tells_c (w : World) (m t : Nat) (v : Value) (l : List Lk) (hn : l.length < 4611686018427387904) (h : ArgK w v l) (he : ErrType w) (hg : gBad m l = 0) (ht : t < m) :
    Calls Tryd.prog 3 #[.int .i64 m, v, .int .i64 t] w fun e w' => e = .returned (.bool true) ∧ Below w.heap.size w w' := by
  have HL := Lib.hid (h)
  have HE := Lib.hid (he)
  have hR := ((gBad_zero m l).1 hg).2
  have hm := ((gBad_zero m l).1 hg).1
  have HR := Lib.hid hR
  have HK := Lib.hid (BellP.ct_cost hR)
  have HI := Lib.hid (fun i j => BellP.ct_int hR i j)
  have HS := Lib.hid (SpfP.ct_sym l)
  have HD := Lib.hid (BellP.far_bd m (BellP.ct l) t)
  have HGf := Lib.hid (fun w1 (h1 : ArgK w1 v l) => graphFault_any w1 m v l hn h1)
  rw [hg] at HGf
  have z0 : ¬ (t : Int) < 0 := by omega
  have z1 : ¬ (t : Int) ≥ (m : Int) := by omega
  clear h he hR
  have HZZ : Hid (Below w.heap.size w w) := Lib.hid (Below.refl _ _)
  go_enter Tryd.func3, Tryd.ntmps3
  go_wp2_with fail
  refine (nearest_any w).mono ?_
  rintro e w1 ⟨rfl, hb1⟩
  have HL' := Lib.hid (HL.out.below hb1)
  have HE' := Lib.hid (HE.out.below hb1)
  have HZZ' := Lib.hid (Below.two HZZ.out hb1)
  clear hb1 HZZ HL HE
  have HZZ := HZZ'
  clear HZZ'
  have HL := HL'
  clear HL'
  have HE := HE'
  clear HE'
  go_wp2_with fail
  refine (HGf.out _ HL.out).mono ?_
  rintro e w2 ⟨rfl, hb2⟩
  have HL' := Lib.hid (HL.out.below hb2)
  have HE' := Lib.hid (HE.out.below hb2)
  have HZZ' := Lib.hid (Below.two HZZ.out hb2)
  clear hb2 HZZ HL HE
  have HZZ := HZZ'
  clear HZZ'
  have HL := HL'
  clear HL'
  have HE := HE'
  clear HE'
  go_wp2_with fail
  refine (farOf_any w2 m t v l (by omega) ht hn HR.out HL.out).mono ?_
  rintro e w3 ⟨gf, cf, _, rfl, hV, hb3⟩
  have HL' := Lib.hid (HL.out.below hb3)
  have HE' := Lib.hid (HE.out.below hb3)
  have HZZ' := Lib.hid (Below.two HZZ.out hb3)
  have HF := Lib.hid (hV)
  clear hb3 HZZ HL HE
  have HZZ := HZZ'
  clear HZZ'
  have HL := HL'
  clear HL'
  have HE := HE'
  clear HE'
  clear hV
  go_wp2_with fail
  have d0 : decide ((t : Int) < 0) = false := by simp
  (try simp only [d0])
  clear d0
  go_loopw [10, 11] (fun us x wr => ∃ i : Nat, x = .int .i64 i ∧ i ≤ m ∧ Hid (Below w3.heap.size w3 wr) ∧ Hid (OwnR wr w3.heap.size us (upsN m (BellP.ct l) t i))) (fun _ x _ => m - (RowKit.intOf x).toNat)
  case atStart => exact ⟨0, rfl, Nat.zero_le _, Lib.hid (Below.refl _ _), Lib.hid (OwnR.nil _ _)⟩
  case round =>
    obtain ⟨i, rfl, him, HB, HO⟩ := hrel
    by_cases him2 : i < m
    · obtain ⟨w0, HW0⟩ : ∃ w0, Hid (w0 = wr) := ⟨wr, Lib.hid rfl⟩
      have HB0 : Hid (Below w3.heap.size w3 w0) := Lib.hid (by rw [HW0.out]; exact HB.out)
      have HO0 := Lib.hid (show OwnR w0 w3.heap.size _ _ by rw [HW0.out]; exact HO.out)
      have HS0 : Hid (Below w0.heap.size w0 wr) := Lib.hid (by rw [HW0.out]; exact Below.refl _ _)
      clear HW0 HB HO
      go_wp2_with fail
      go_loopw [12, 13] (fun r x wq => ∃ k : Nat, x = .int .i64 k ∧ k ≤ m ∧ Hid (Below w0.heap.size w0 wq) ∧ Hid (OwnI wq w0.heap.size r (SpfP.upsTo m (BellP.ct l) t i k))) (fun _ x _ => m - (RowKit.intOf x).toNat)
      case atStart => exact ⟨0, rfl, Nat.zero_le _, HS0, Lib.hid (OwnI.nil _ _)⟩
      case round =>
        obtain ⟨k, rfl, hk, HB2, HO2⟩ := hrel
        by_cases hkm : k < m
        · have HCO := Lib.hid (costOf_any wr v l k i hn (HL.out.below (Below.two HB0.out HB2.out)))
          have hck : costG l (k : Int) (i : Int) = (BellP.ct l i k : Int) := by rw [← HI.out k i, HS.out k i]
          rw [hck] at HCO
          clear hck
          have VF := HF.out.keep (Below.two HB0.out HB2.out)
          have vi := VF.c i him2
          have vk := VF.c k hkm
          clear VF
          have hIs := SpfP.isUp_iff m (BellP.ct l) t i k
          have hNot := SpfP.not_up HK.out ht k
          have hcb := HK.out.bd i k
          have hdi := HD.out i
          have hlen := SpfP.upsTo_len m (BellP.ct l) t i k
          have hit : i = t → ¬ SpfP.isUp m (BellP.ct l) t i k = true := fun e => by rw [e]; exact hNot
          generalize BellP.far m (BellP.ct l) t i = y at vi hIs hdi
          generalize hcc : BellP.ct l i k = cc at HCO hIs hcb
          clear hNot hcc
          by_cases q0 : i = t
          · have HNo := hit q0
            have HN : Hid (SpfP.upsTo m (BellP.ct l) t i (k + 1) = SpfP.upsTo m (BellP.ct l) t i k) := Lib.hid (by rw [SpfP.upsTo, if_neg HNo])
            clear HNo hIs hit
            subst q0
            go_wp2_with fail
            refine HCO.out.mono ?_
            rintro e wz ⟨rfl, rfl⟩
            go_wp2_with fail
            go_quiet (fail)
            have HBd : Hid (Below w0.heap.size w0 (wr.drewN nq)) := Lib.hid (Below.drewN HB2.out _)
            have HOd : Hid (OwnI (wr.drewN nq) w0.heap.size _ (SpfP.upsTo m (BellP.ct l) i i k)) := Lib.hid (HO2.out.keep (Below.drewN (Below.refl _ _) _))
            clear HB2 HO2
            generalize wr.drewN nq = wd at HBd HOd ⊢
            go_wp2_with fail
            go_roundw
            case rel => exact ⟨k + 1, by go_num, by omega, HBd, Lib.hid (HN.out ▸ HOd.out)⟩
            case measure => simp [RowKit.intOf]; omega
          · have n0 : ((i : Int) != (t : Int)) = true := by
              have : ¬ (i : Int) = t := by omega
              simpa using this
            by_cases q1 : k = i
            · have HNo : ¬ SpfP.isUp m (BellP.ct l) t i k = true := fun e => (hIs.1 e).1 q1
              have HN : Hid (SpfP.upsTo m (BellP.ct l) t i (k + 1) = SpfP.upsTo m (BellP.ct l) t i k) := Lib.hid (by rw [SpfP.upsTo, if_neg HNo])
              clear HNo hIs hit
              subst q1
              go_wp2_with fail
              refine HCO.out.mono ?_
              rintro e wz ⟨rfl, rfl⟩
              go_wp2_with fail
              go_quiet (fail)
              have HBd : Hid (Below w0.heap.size w0 (wr.drewN nq)) := Lib.hid (Below.drewN HB2.out _)
              have HOd : Hid (OwnI (wr.drewN nq) w0.heap.size _ (SpfP.upsTo m (BellP.ct l) t k k)) := Lib.hid (HO2.out.keep (Below.drewN (Below.refl _ _) _))
              clear HB2 HO2
              generalize wr.drewN nq = wd at HBd HOd ⊢
              go_wp2_with fail
              go_roundw
              case rel => exact ⟨k + 1, by go_num, by omega, HBd, Lib.hid (HN.out ▸ HOd.out)⟩
              case measure => simp [RowKit.intOf]; omega
            · have n1 : ((k : Int) != (i : Int)) = true := by
                have : ¬ (k : Int) = i := by omega
                simpa using this
              have hdk := HD.out k
              generalize BellP.far m (BellP.ct l) t k = z at vk hIs hdk
              by_cases q2 : cc < 16
              · have n2 : (cc : Int) < 16 := by omega
                by_cases q3 : y < 16
                · have n3 : (y : Int) < 16 := by omega
                  by_cases q4 : z + cc = y
                  · have n4 : (z : Int) + (cc : Int) = (y : Int) := by omega
                    have HN : Hid (SpfP.upsTo m (BellP.ct l) t i (k + 1) = SpfP.upsTo m (BellP.ct l) t i k ++ [(k : Int)]) := Lib.hid (by rw [SpfP.upsTo, if_pos (hIs.2 ⟨q1, q3, q4⟩)])
                    clear hIs hit q4
                    go_wp2_with fail
                    refine HCO.out.mono ?_
                    rintro e wz ⟨rfl, rfl⟩
                    go_wp2_with fail
                    go_quiet (fail)
                    have HBd : Hid (Below w0.heap.size w0 (wr.drewN nq)) := Lib.hid (Below.drewN HB2.out _)
                    have HOd : Hid (OwnI (wr.drewN nq) w0.heap.size _ (SpfP.upsTo m (BellP.ct l) t i k)) := Lib.hid (HO2.out.keep (Below.drewN (Below.refl _ _) _))
                    clear HB2 HO2
                    generalize wr.drewN nq = wd at HBd HOd ⊢
                    have hl8 : ((SpfP.upsTo m (BellP.ct l) t i k).length + 1) * 8 ≤ 140737488355328 := by omega
                    have HKd := Lib.hid (HOd.out.keep ((Below.refl wd.heap.size wd).alloc (Nat.le_refl _) (.cells #[.int .i64 k] 3)))
                    go_wp2_with (at_builtin; refine wpl_append_oneI rfl _ _ rfl w0.heap.size _ (SpfP.upsTo m (BellP.ct l) t i k) (k : Int) wd.heap.size 1 rfl rfl HKd.out (by simp) hl8 (Nat.le_trans HBd.out.size (by simp)) ?_; intro v' w5 hO5 hg5 _)
                    go_roundw
                    case rel => exact ⟨k + 1, by go_num, by omega, Lib.hid ((HBd.out.alloc HBd.out.size _).grown hg5 (Nat.le_trans HBd.out.size (by simp)) HOd.out.past), Lib.hid (HN.out ▸ hO5)⟩
                    case measure => simp [RowKit.intOf]; omega
                  · have n4 : ((z : Int) + (cc : Int) == (y : Int)) = false := by
                      have : ¬ (z : Int) + (cc : Int) = (y : Int) := by omega
                      simpa using this
                    have HNo : ¬ SpfP.isUp m (BellP.ct l) t i k = true := fun e => q4 (hIs.1 e).2.2
                    have HN : Hid (SpfP.upsTo m (BellP.ct l) t i (k + 1) = SpfP.upsTo m (BellP.ct l) t i k) := Lib.hid (by rw [SpfP.upsTo, if_neg HNo])
                    clear HNo hIs hit
                    have n5 : ((z : Int) + (cc : Int) = (y : Int)) = False := eq_false (by omega)
                    go_wp2_with fail
                    refine HCO.out.mono ?_
                    rintro e wz ⟨rfl, rfl⟩
                    go_wp2_with fail
                    go_quiet (fail)
                    have HBd : Hid (Below w0.heap.size w0 (wr.drewN nq)) := Lib.hid (Below.drewN HB2.out _)
                    have HOd : Hid (OwnI (wr.drewN nq) w0.heap.size _ (SpfP.upsTo m (BellP.ct l) t i k)) := Lib.hid (HO2.out.keep (Below.drewN (Below.refl _ _) _))
                    clear HB2 HO2
                    generalize wr.drewN nq = wd at HBd HOd ⊢
                    go_wp2_with fail
                    go_roundw
                    case rel => exact ⟨k + 1, by go_num, by omega, HBd, Lib.hid (HN.out ▸ HOd.out)⟩
                    case measure => simp [RowKit.intOf]; omega
                · have n3 : ((y : Int) < 16) = False := eq_false (by omega)
                  have HNo : ¬ SpfP.isUp m (BellP.ct l) t i k = true := fun e => q3 (hIs.1 e).2.1
                  have HN : Hid (SpfP.upsTo m (BellP.ct l) t i (k + 1) = SpfP.upsTo m (BellP.ct l) t i k) := Lib.hid (by rw [SpfP.upsTo, if_neg HNo])
                  clear HNo hIs hit
                  go_wp2_with fail
                  refine HCO.out.mono ?_
                  rintro e wz ⟨rfl, rfl⟩
                  go_wp2_with fail
                  go_quiet (fail)
                  have HBd : Hid (Below w0.heap.size w0 (wr.drewN nq)) := Lib.hid (Below.drewN HB2.out _)
                  have HOd : Hid (OwnI (wr.drewN nq) w0.heap.size _ (SpfP.upsTo m (BellP.ct l) t i k)) := Lib.hid (HO2.out.keep (Below.drewN (Below.refl _ _) _))
                  clear HB2 HO2
                  generalize wr.drewN nq = wd at HBd HOd ⊢
                  go_wp2_with fail
                  go_roundw
                  case rel => exact ⟨k + 1, by go_num, by omega, HBd, Lib.hid (HN.out ▸ HOd.out)⟩
                  case measure => simp [RowKit.intOf]; omega
              · have n2 : ((cc : Int) < 16) = False := eq_false (by omega)
                have HNo : ¬ SpfP.isUp m (BellP.ct l) t i k = true := fun e => by
                  have := hIs.1 e
                  omega
                have HN : Hid (SpfP.upsTo m (BellP.ct l) t i (k + 1) = SpfP.upsTo m (BellP.ct l) t i k) := Lib.hid (by rw [SpfP.upsTo, if_neg HNo])
                clear HNo hIs hit
                go_wp2_with fail
                refine HCO.out.mono ?_
                rintro e wz ⟨rfl, rfl⟩
                go_wp2_with fail
                go_quiet (fail)
                have HBd : Hid (Below w0.heap.size w0 (wr.drewN nq)) := Lib.hid (Below.drewN HB2.out _)
                have HOd : Hid (OwnI (wr.drewN nq) w0.heap.size _ (SpfP.upsTo m (BellP.ct l) t i k)) := Lib.hid (HO2.out.keep (Below.drewN (Below.refl _ _) _))
                clear HB2 HO2
                generalize wr.drewN nq = wd at HBd HOd ⊢
                go_wp2_with fail
                go_roundw
                case rel => exact ⟨k + 1, by go_num, by omega, HBd, Lib.hid (HN.out ▸ HOd.out)⟩
                case measure => simp [RowKit.intOf]; omega
        · obtain rfl : k = m := by omega
          obtain ⟨p7, c7, hv7, _⟩ := HO2.out.arg
          have HU7 : Hid (SpfP.upsTo k (BellP.ct l) t i k = SpfP.ups k (BellP.ct l) t i) := Lib.hid rfl
          subst hv7
          have HR2 := Lib.hid ((HO0.out.keep HB2.out).keep ((Below.refl wr.heap.size wr).alloc (Nat.le_refl _) (.cells #[.slice p7 (SpfP.upsTo k (BellP.ct l) t i k).length c7] 26)))
          have HI2 := Lib.hid ((HO2.out.down HB0.out.size).keep ((Below.refl wr.heap.size wr).alloc (Nat.le_refl _) (.cells #[.slice p7 (SpfP.upsTo k (BellP.ct l) t i k).length c7] 26)))
          have HB3 := Lib.hid (Below.two HB0.out HB2.out)
          have HLen := Lib.hid (upsN_len k (BellP.ct l) t i)
          have HM := Lib.hid (upsN_more k (BellP.ct l) t i)
          go_wp2_with (at_builtin; refine wpl_append_oneR rfl _ _ rfl w3.heap.size _ _ (.slice p7 (SpfP.upsTo k (BellP.ct l) t i k).length c7) _ wr.heap.size 1 rfl rfl HR2.out HI2.out (by simp) (by rw [HLen.out]; omega) (Nat.le_trans HB3.out.size (by simp)) ?_; intro v' w5 hO5 hg5)
          go_roundw
          case rel => exact ⟨i + 1, by go_num, by omega, Lib.hid ((HB3.out.alloc HB3.out.size _).grown hg5 (Nat.le_trans HB3.out.size (by simp)) HO0.out.past), Lib.hid (by rw [HM.out]; exact hO5)⟩
          case measure => simp [RowKit.intOf]; omega
    · obtain rfl : i = m := by omega
      have HRW := Lib.hid HO.out.arg
      have HLR := Lib.hid (upsN_len i (BellP.ct l) t i)
      have HZZ1 := Lib.hid (Below.two HZZ.out HB.out)
      have HL1 := Lib.hid (HL.out.below HB.out)
      have HE1 := Lib.hid (HE.out.below HB.out)
      have HF1 := Lib.hid (HF.out.keep HB.out)
      clear HZZ HL HE HF HB HO
      have HZZ := HZZ1
      have HL := HL1
      have HE := HE1
      have HF := HF1
      clear HZZ1 HL1 HE1 HF1
      go_wp2_with fail
      refine (far_ok wr i t v l hn HL.out hg ht).mono ?_
      rintro e w51 ⟨f1, _, rfl, hV, hb51⟩
      have HL' := Lib.hid (HL.out.below hb51)
      have HE' := Lib.hid (HE.out.below hb51)
      have HF' := Lib.hid (HF.out.keep hb51)
      have HRW' := Lib.hid (HRW.out.below hb51)
      have HZZ' := Lib.hid (Below.two HZZ.out hb51)
      have HX := Lib.hid (hV)
      clear hb51 HZZ HL HE HF HRW
      have HZZ := HZZ'
      clear HZZ'
      have HL := HL'
      clear HL'
      have HE := HE'
      clear HE'
      have HF := HF'
      clear HF'
      have HRW := HRW'
      clear HRW'
      clear hV
      go_wp2_with fail
      refine (same_nil 0 true rfl w51).mono ?_
      rintro e w52' ⟨rfl, rfl⟩
      have HS1 := sameInts_any w51 _ _ _ _ (by rw [BellP.vec_len]; omega) HX.out.argV (HF.out.argCV cf)
      rw [decide_eq_true rfl] at HS1
      have HS1 := Lib.hid HS1
      go_wp2_with fail
      refine (HS1.out).mono ?_
      rintro e w53 ⟨rfl, hb53⟩
      have HL' := Lib.hid (HL.out.below hb53)
      have HE' := Lib.hid (HE.out.below hb53)
      have HF' := Lib.hid (HF.out.keep hb53)
      have HRW' := Lib.hid (HRW.out.below hb53)
      have HX' := Lib.hid (HX.out.keep hb53)
      have HZZ' := Lib.hid (Below.two HZZ.out hb53)
      clear hb53 HZZ HL HE HF HRW HX
      have HZZ := HZZ'
      clear HZZ'
      have HL := HL'
      clear HL'
      have HE := HE'
      clear HE'
      have HF := HF'
      clear HF'
      have HRW := HRW'
      clear HRW'
      have HX := HX'
      clear HX'
      clear HS1
      go_wp2_with fail
      refine (ups_ok w53 i t v l hn HL.out hg ht).mono ?_
      rintro e w54 ⟨u, vs, rfl, hT, hb54⟩
      have HL' := Lib.hid (HL.out.below hb54)
      have HE' := Lib.hid (HE.out.below hb54)
      have HF' := Lib.hid (HF.out.keep hb54)
      have HRW' := Lib.hid (HRW.out.below hb54)
      have HX' := Lib.hid (HX.out.keep hb54)
      have HZZ' := Lib.hid (Below.two HZZ.out hb54)
      have HT := Lib.hid (hT)
      clear hb54 HZZ HL HE HF HRW HX
      have HZZ := HZZ'
      clear HZZ'
      have HL := HL'
      clear HL'
      have HE := HE'
      clear HE'
      have HF := HF'
      clear HF'
      have HRW := HRW'
      clear HRW'
      have HX := HX'
      clear HX'
      clear hT
      go_wp2_with fail
      refine (same_nil 0 true rfl w54).mono ?_
      rintro e w55' ⟨rfl, rfl⟩
      have HS2 := sameRows_any w54 _ _ (upsN i (BellP.ct l) t i) (upsN i (BellP.ct l) t i) (by rw [HLR.out]; omega) (fun r hr => by
        obtain ⟨j, _, rfl⟩ := List.mem_map.1 hr
        have := SpfP.upsTo_len i (BellP.ct l) t j i
        show (SpfP.upsTo i (BellP.ct l) t j i).length < _
        omega) HT.out.arg HRW.out
      rw [decide_eq_true rfl] at HS2
      have HS2 := Lib.hid HS2
      go_wp2_with fail
      refine (HS2.out).mono ?_
      rintro e w56 ⟨rfl, hb56⟩
      have HL' := Lib.hid (HL.out.below hb56)
      have HE' := Lib.hid (HE.out.below hb56)
      have HF' := Lib.hid (HF.out.keep hb56)
      have HRW' := Lib.hid (HRW.out.below hb56)
      have HX' := Lib.hid (HX.out.keep hb56)
      have HT' := Lib.hid (HT.out.keep hb56)
      have HZZ' := Lib.hid (Below.two HZZ.out hb56)
      clear hb56 HZZ HL HE HF HRW HX HT
      have HZZ := HZZ'
      clear HZZ'
      have HL := HL'
      clear HL'
      have HE := HE'
      clear HE'
      have HF := HF'
      clear HF'
      have HRW := HRW'
      clear HRW'
      have HX := HX'
      clear HX'
      have HT := HT'
      clear HT'
      clear HS2
      go_wp2_with fail
      go_ret
      exact ⟨rfl, HZZ.out⟩
theorem spfTells_walk (w : World) (n fr : Int) (v : Value) (l : List Lk) (hn : l.length < 4611686018427387904) (h : ArgK w v l) (he : ErrType w) :
    Calls Tryd.prog 3 #[.int .i64 n, v, .int .i64 fr] w fun e w' => e = .returned (.bool true) ∧ Below w.heap.size w w' := by
  by_cases h1 : gBad n l = 0
  · obtain ⟨h4, _⟩ := (gBad_zero n l).1 h1
    obtain ⟨m, rfl⟩ : ∃ m : Nat, n = m := ⟨n.toNat, by omega⟩
    by_cases h2 : fr < 0
    · exact tells_b1 w m fr v l hn h he h1 h2
    · by_cases h3 : (m : Int) ≤ fr
      · exact tells_b2 w m fr v l hn h he h1 h2 h3
      · obtain ⟨t, rfl⟩ : ∃ t : Nat, fr = t := ⟨fr.toNat, by omega⟩
        exact tells_c w m t v l hn h he h1 (by omega)
  · exact tells_a w n fr v l hn h he h1
end Go.Proofs.YtjgmehmhhplkaaaDoor
