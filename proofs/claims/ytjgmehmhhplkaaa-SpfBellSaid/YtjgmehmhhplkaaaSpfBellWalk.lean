/-
  The law SpfBell at every number of nodes, every links and node: it tells true; what lay in memory stays.
-/
import Derived.Test.YtjgmehmhhplkaaaSpfNearest
import Derived.Test.YtjgmehmhhplkaaaBellRun
import Derived.Test.YtjgmehmhhplkaaaMatStar
namespace Go.Proofs.Ytjgmehmhhplkaaa
open Go.RowKit Go.Lib

set_option maxHeartbeats 2000000 in
set_option maxRecDepth 100000 in
theorem bell_1 (w : World) (n a : Int) (v : Value) (l : List Lk) (hn : l.length < 4611686018427387904) (h : ArgK w v l) (hg : spfBad n l a ≠ 0) :
    Calls Try.prog 3 #[.int .i64 n, v, .int .i64 a] w fun e w' => e = .returned (.bool true) ∧ Below w.heap.size w w' := by
  have HL := Lib.hid (h)
  have HR := Lib.hid (fun w1 (h1 : ArgK w1 v l) => far_bad w1 n a v l hn h1 hg)
  rw [spf_err hg] at HR
  clear h
  generalize spfBad n l a = q at HR hg
  have HZZ : Hid (Below w.heap.size w w) := Lib.hid (Below.refl _ _)
  go_enter Try.func3, Try.ntmps3
  go_wp2_with fail
  refine (nearest_any w).mono ?_
  rintro e w1 ⟨rfl, hb1⟩
  have HL' := Lib.hid (HL.out.below hb1)
  have HZZ' := Lib.hid (Below.two HZZ.out hb1)
  clear hb1 HZZ HL
  have HZZ := HZZ'
  clear HZZ'
  have HL := HL'
  clear HL'
  go_wp2_with fail
  refine (HR.out _ HL.out).mono ?_
  rintro e w2 ⟨rfl, hb2⟩
  have HL' := Lib.hid (HL.out.below hb2)
  have HZZ' := Lib.hid (Below.two HZZ.out hb2)
  clear hb2 HZZ HL
  have HZZ := HZZ'
  clear HZZ'
  have HL := HL'
  clear HL'
  go_wp2_with fail
  go_ret
  exact ⟨rfl, HZZ.out⟩
/-- A row of a grid, read. -/
theorem row_argV {w : World} {g n : Nat} {f : Nat → Nat → Nat} (h : Grid w g n n (fun i j => (f i j : Int))) (i : Nat) (hi : i < n) : ArgI w (.slice (some ⟨g + 1 + i, 0, none⟩) n n) (BellP.vec n (f i)) := by
  refine ⟨_, n, by rw [BellP.vec_len], Or.inr ⟨g + 1 + i, 0, rfl, by have := h.lt; omega, fun j hj => ?_⟩⟩
  rw [BellP.vec_len] at hj
  rw [Nat.zero_add, BellP.vec_at n (f i) j hj]
  exact h.e i hi j hj
set_option maxHeartbeats 2000000 in
set_option maxRecDepth 100000 in
theorem bell_2 (w : World) (m t r : Nat) (v : Value) (l : List Lk) (hn : l.length < 4611686018427387904) (h : ArgK w v l) (hg : gBad m l = 0) (ht : t < m) (hc : BellP.Cnt m (BellP.ct l) t r) :
    Calls Try.prog 3 #[.int .i64 m, v, .int .i64 t] w fun e w' => e = .returned (.bool true) ∧ Below w.heap.size w w' := by
  have HL := Lib.hid (h)
  have hR := ((gBad_zero m l).1 hg).2
  have hm := ((gBad_zero m l).1 hg).1
  have HK := Lib.hid (BellP.ct_cost hR)
  have HI := Lib.hid (fun i j => BellP.ct_int hR i j)
  have HS := Lib.hid (SpfP.ct_sym l)
  have HC := Lib.hid hc
  clear h hc hR
  have HZZ : Hid (Below w.heap.size w w) := Lib.hid (Below.refl _ _)
  go_enter Try.func3, Try.ntmps3
  go_wp2_with fail
  refine (nearest_any w).mono ?_
  rintro e w1 ⟨rfl, hb1⟩
  have HL' := Lib.hid (HL.out.below hb1)
  have HZZ' := Lib.hid (Below.two HZZ.out hb1)
  clear hb1 HZZ HL
  have HZZ := HZZ'
  clear HZZ'
  have HL := HL'
  clear HL'
  go_wp2_with fail
  refine (far_ok w1 m t v l hn HL.out hg ht).mono ?_
  rintro e w2 ⟨f1, _, rfl, hV, hb2⟩
  have HL' := Lib.hid (HL.out.below hb2)
  have HZZ' := Lib.hid (Below.two HZZ.out hb2)
  have HX := Lib.hid (hV)
  clear hb2 HZZ HL
  have HZZ := HZZ'
  clear HZZ'
  have HL := HL'
  clear HL'
  clear hV
  go_wp2_with fail
  refine (run_ok w2 m t r v l hn HL.out hg ht HC.out).mono ?_
  rintro e w3 ⟨q1, _, rfl, hV, hb3⟩
  have HL' := Lib.hid (HL.out.below hb3)
  have HX' := Lib.hid (HX.out.keep hb3)
  have HZZ' := Lib.hid (Below.two HZZ.out hb3)
  have HY := Lib.hid (hV)
  clear hb3 HZZ HL HX
  have HZZ := HZZ'
  clear HZZ'
  have HL := HL'
  clear HL'
  have HX := HX'
  clear HX'
  clear hV
  go_wp2_with fail
  refine (costs_ok w3 m v l hn HL.out hg).mono ?_
  rintro e w4 ⟨g1, _, rfl, hG, hb4⟩
  have HL' := Lib.hid (HL.out.below hb4)
  have HX' := Lib.hid (HX.out.keep hb4)
  have HY' := Lib.hid (HY.out.keep hb4)
  have HZZ' := Lib.hid (Below.two HZZ.out hb4)
  have HG := Lib.hid (hG.congr (g := fun i j => (BellP.ct l i j : Int)) fun i _ j _ => (HI.out i j).symm)
  clear hb4 HZZ HL HX HY
  have HZZ := HZZ'
  clear HZZ'
  have HL := HL'
  clear HL'
  have HX := HX'
  clear HX'
  have HY := HY'
  clear HY'
  clear hG
  go_wp2_with fail
  refine (star_ok w4 _ m (BellP.ct l) (by omega) (by omega) HK.out.bd HG.out.arg).mono ?_
  rintro e w5 ⟨g2, _, rfl, hG, hb5⟩
  have HL' := Lib.hid (HL.out.below hb5)
  have HX' := Lib.hid (HX.out.keep hb5)
  have HY' := Lib.hid (HY.out.keep hb5)
  have HG' := Lib.hid (HG.out.keep hb5)
  have HZZ' := Lib.hid (Below.two HZZ.out hb5)
  have HT := Lib.hid (hG.congr (g := fun i j => (BellP.far m (BellP.ct l) i j : Int)) fun i hi j hj => by rw [SpfP.far_sym HK.out HS.out hi hj, SpfP.far_star HK.out (MatP.fw_star m (BellP.ct l)) hj i hi])
  clear hb5 HZZ HL HX HY HG
  have HZZ := HZZ'
  clear HZZ'
  have HL := HL'
  clear HL'
  have HX := HX'
  clear HX'
  have HY := HY'
  clear HY'
  have HG := HG'
  clear HG'
  clear hG
  have HS1 := sameInts_any w5 _ _ _ _ (by rw [BellP.vec_len]; omega) HX.out.argV HY.out.argV
  rw [decide_eq_true rfl] at HS1
  have HS1 := Lib.hid HS1
  go_wp2_with fail
  refine (HS1.out).mono ?_
  rintro e w6 ⟨rfl, hb6⟩
  have HL' := Lib.hid (HL.out.below hb6)
  have HX' := Lib.hid (HX.out.keep hb6)
  have HY' := Lib.hid (HY.out.keep hb6)
  have HG' := Lib.hid (HG.out.keep hb6)
  have HT' := Lib.hid (HT.out.keep hb6)
  have HZZ' := Lib.hid (Below.two HZZ.out hb6)
  clear hb6 HZZ HL HX HY HG HT
  have HZZ := HZZ'
  clear HZZ'
  have HL := HL'
  clear HL'
  have HX := HX'
  clear HX'
  have HY := HY'
  clear HY'
  have HG := HG'
  clear HG'
  have HT := HT'
  clear HT'
  clear HS1
  have o := HT.out.o t ht
  have HS2 := sameInts_any w6 _ _ (BellP.vec m (BellP.far m (BellP.ct l) t)) _ (by rw [BellP.vec_len]; omega) (row_argV HT.out t ht) HX.out.argV
  rw [decide_eq_true rfl] at HS2
  have HS2 := Lib.hid HS2
  go_wp2_with fail
  refine (HS2.out).mono ?_
  rintro e w7 ⟨rfl, hb7⟩
  have HL' := Lib.hid (HL.out.below hb7)
  have HX' := Lib.hid (HX.out.keep hb7)
  have HY' := Lib.hid (HY.out.keep hb7)
  have HG' := Lib.hid (HG.out.keep hb7)
  have HT' := Lib.hid (HT.out.keep hb7)
  have HZZ' := Lib.hid (Below.two HZZ.out hb7)
  clear hb7 HZZ HL HX HY HG HT
  have HZZ := HZZ'
  clear HZZ'
  have HL := HL'
  clear HL'
  have HX := HX'
  clear HX'
  have HY := HY'
  clear HY'
  have HG := HG'
  clear HG'
  have HT := HT'
  clear HT'
  clear HS2
  go_wp2_with fail
  go_ret
  exact ⟨rfl, HZZ.out⟩
theorem spfBell_walk (w : World) (n a : Int) (v : Value) (l : List Lk) (hn : l.length < 4611686018427387904) (h : ArgK w v l) :
    Calls Try.prog 3 #[.int .i64 n, v, .int .i64 a] w fun e w' => e = .returned (.bool true) ∧ Below w.heap.size w w' := by
  by_cases h1 : spfBad n l a = 0
  · obtain ⟨m, t, rfl, rfl, _, _, ht, hg, hr⟩ := spf_nat h1
    obtain ⟨r, hc⟩ := BellP.cnt_is (BellP.ct_cost hr) ht
    exact bell_2 w m t r v l hn h hg ht hc
  · exact bell_1 w n a v l hn h h1
end Go.Proofs.Ytjgmehmhhplkaaa
