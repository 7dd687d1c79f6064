/-
  The law SpfTriangle at every number of nodes, every links and nodes: it tells true; what lay in memory stays.
-/
import Derived.Test.YtjgmehmhhplkaaaSpfNearest
import Derived.Deep.QuietTactic
import Derived.BigQuiet
namespace Go.Proofs.Ytjgmehmhhplkaaa
open Go.RowKit Go.Lib

set_option maxHeartbeats 2000000 in
set_option maxRecDepth 100000 in
theorem triangle_1 (w : World) (n a b c : Int) (v : Value) (l : List Lk) (hn : l.length < 4611686018427387904) (h : ArgK w v l) (hg : spfBad n l a ≠ 0) :
    Calls Try.prog 4 #[.int .i64 n, v, .int .i64 a, .int .i64 b, .int .i64 c] w fun e w' => e = .returned (.bool true) ∧ Below w.heap.size w w' := by
  have HL := Lib.hid (h)
  have HR := Lib.hid (fun w1 (h1 : ArgK w1 v l) => far_bad w1 n a v l hn h1 hg)
  rw [spf_err hg] at HR
  clear h
  generalize spfBad n l a = q at HR hg
  have HZZ : Hid (Below w.heap.size w w) := Lib.hid (Below.refl _ _)
  go_enter Try.func4, Try.ntmps4
  go_wp2_with fail
  refine (nearest_any w).mono ?_
  rintro e w1 ⟨rfl, hb1⟩
  have HL' := Lib.hid (HL.out.below hb1)
  have HZZ' := Lib.hid (Below.two HZZ.out hb1)
  clear hb1 HZZ HL
  have HZZ := HZZ'
  clear HZZ'
  have HL := HL'
  clear HL'
  go_wp2_with fail
  refine (HR.out _ HL.out).mono ?_
  rintro e w2 ⟨rfl, hb2⟩
  have HL' := Lib.hid (HL.out.below hb2)
  have HZZ' := Lib.hid (Below.two HZZ.out hb2)
  clear hb2 HZZ HL
  have HZZ := HZZ'
  clear HZZ'
  have HL := HL'
  clear HL'
  go_wp2_with fail
  refine (far_some w2 n b v l hn HL.out).mono ?_
  rintro e w3 ⟨x, y, rfl, hb3⟩
  have HL' := Lib.hid (HL.out.below hb3)
  have HZZ' := Lib.hid (Below.two HZZ.out hb3)
  clear hb3 HZZ HL
  have HZZ := HZZ'
  clear HZZ'
  have HL := HL'
  clear HL'
  go_wp2_with fail
  go_ret
  exact ⟨rfl, HZZ.out⟩
set_option maxHeartbeats 2000000 in
set_option maxRecDepth 100000 in
theorem triangle_2 (w : World) (m a : Nat) (b c : Int) (v : Value) (l : List Lk) (hn : l.length < 4611686018427387904) (h : ArgK w v l) (hg : gBad m l = 0) (ha : a < m) (hg2 : spfBad m l b ≠ 0) :
    Calls Try.prog 4 #[.int .i64 m, v, .int .i64 a, .int .i64 b, .int .i64 c] w fun e w' => e = .returned (.bool true) ∧ Below w.heap.size w w' := by
  have HL := Lib.hid (h)
  have HR := Lib.hid (fun w1 (h1 : ArgK w1 v l) => far_bad w1 m b v l hn h1 hg2)
  rw [spf_err hg2] at HR
  clear h
  generalize spfBad m l b = q at HR hg2
  have HZZ : Hid (Below w.heap.size w w) := Lib.hid (Below.refl _ _)
  go_enter Try.func4, Try.ntmps4
  go_wp2_with fail
  refine (nearest_any w).mono ?_
  rintro e w1 ⟨rfl, hb1⟩
  have HL' := Lib.hid (HL.out.below hb1)
  have HZZ' := Lib.hid (Below.two HZZ.out hb1)
  clear hb1 HZZ HL
  have HZZ := HZZ'
  clear HZZ'
  have HL := HL'
  clear HL'
  go_wp2_with fail
  refine (far_ok w1 m a v l hn HL.out hg ha).mono ?_
  rintro e w2 ⟨f1, _, rfl, _, hb2⟩
  have HL' := Lib.hid (HL.out.below hb2)
  have HZZ' := Lib.hid (Below.two HZZ.out hb2)
  clear hb2 HZZ HL
  have HZZ := HZZ'
  clear HZZ'
  have HL := HL'
  clear HL'
  go_wp2_with fail
  refine (HR.out _ HL.out).mono ?_
  rintro e w3 ⟨rfl, hb3⟩
  have HL' := Lib.hid (HL.out.below hb3)
  have HZZ' := Lib.hid (Below.two HZZ.out hb3)
  clear hb3 HZZ HL
  have HZZ := HZZ'
  clear HZZ'
  have HL := HL'
  clear HL'
  go_wp2_with fail
  go_ret
  exact ⟨rfl, HZZ.out⟩
set_option maxHeartbeats 2000000 in
set_option maxRecDepth 100000 in
theorem triangle_3 (w : World) (m a b : Nat) (c : Int) (v : Value) (l : List Lk) (hn : l.length < 4611686018427387904) (h : ArgK w v l) (hg : gBad m l = 0) (ha : a < m) (hb : b < m) (hc : c < 0 ∨ (m : Int) ≤ c) :
    Calls Try.prog 4 #[.int .i64 m, v, .int .i64 a, .int .i64 b, .int .i64 c] w fun e w' => e = .returned (.bool true) ∧ Below w.heap.size w w' := by
  have HL := Lib.hid (h)
  clear h
  have HZZ : Hid (Below w.heap.size w w) := Lib.hid (Below.refl _ _)
  go_enter Try.func4, Try.ntmps4
  go_wp2_with fail
  refine (nearest_any w).mono ?_
  rintro e w1 ⟨rfl, hb1⟩
  have HL' := Lib.hid (HL.out.below hb1)
  have HZZ' := Lib.hid (Below.two HZZ.out hb1)
  clear hb1 HZZ HL
  have HZZ := HZZ'
  clear HZZ'
  have HL := HL'
  clear HL'
  go_wp2_with fail
  refine (far_ok w1 m a v l hn HL.out hg ha).mono ?_
  rintro e w2 ⟨f1, _, rfl, hV, hb2⟩
  have HL' := Lib.hid (HL.out.below hb2)
  have HZZ' := Lib.hid (Below.two HZZ.out hb2)
  have HX := Lib.hid (hV)
  clear hb2 HZZ HL
  have HZZ := HZZ'
  clear HZZ'
  have HL := HL'
  clear HL'
  clear hV
  go_wp2_with fail
  refine (far_ok w2 m b v l hn HL.out hg hb).mono ?_
  rintro e w3 ⟨f2, _, rfl, hV, hb3⟩
  have HL' := Lib.hid (HL.out.below hb3)
  have HX' := Lib.hid (HX.out.keep hb3)
  have HZZ' := Lib.hid (Below.two HZZ.out hb3)
  have HY := Lib.hid (hV)
  clear hb3 HZZ HL HX
  have HZZ := HZZ'
  clear HZZ'
  have HL := HL'
  clear HL'
  have HX := HX'
  clear HX'
  clear hV
  rcases hc with hc | hc
  · go_wp2_with fail
    go_ret
    exact ⟨rfl, HZZ.out⟩
  · have h0 : ¬ c < 0 := by omega
    have h2 : c ≥ (m : Int) := by omega
    clear hc
    go_wp2_with fail
    go_ret
    exact ⟨rfl, HZZ.out⟩
set_option maxHeartbeats 2000000 in
set_option maxRecDepth 100000 in
theorem triangle_4 (w : World) (m a b : Nat) (c : Nat) (v : Value) (l : List Lk) (hn : l.length < 4611686018427387904) (h : ArgK w v l) (hg : gBad m l = 0) (ha : a < m) (hb : b < m) (hc : c < m) :
    Calls Try.prog 4 #[.int .i64 m, v, .int .i64 a, .int .i64 b, .int .i64 c] w fun e w' => e = .returned (.bool true) ∧ Below w.heap.size w w' := by
  have HL := Lib.hid (h)
  have HK := Lib.hid (BellP.ct_cost ((gBad_zero m l).1 hg).2)
  have hm := ((gBad_zero m l).1 hg).1
  have HS := Lib.hid (SpfP.ct_sym l)
  clear h
  have HZZ : Hid (Below w.heap.size w w) := Lib.hid (Below.refl _ _)
  go_enter Try.func4, Try.ntmps4
  go_wp2_with fail
  refine (nearest_any w).mono ?_
  rintro e w1 ⟨rfl, hb1⟩
  have HL' := Lib.hid (HL.out.below hb1)
  have HZZ' := Lib.hid (Below.two HZZ.out hb1)
  clear hb1 HZZ HL
  have HZZ := HZZ'
  clear HZZ'
  have HL := HL'
  clear HL'
  go_wp2_with fail
  refine (far_ok w1 m a v l hn HL.out hg ha).mono ?_
  rintro e w2 ⟨f1, _, rfl, hV, hb2⟩
  have HL' := Lib.hid (HL.out.below hb2)
  have HZZ' := Lib.hid (Below.two HZZ.out hb2)
  have HX := Lib.hid (hV)
  clear hb2 HZZ HL
  have HZZ := HZZ'
  clear HZZ'
  have HL := HL'
  clear HL'
  clear hV
  go_wp2_with fail
  refine (far_ok w2 m b v l hn HL.out hg hb).mono ?_
  rintro e w3 ⟨f2, _, rfl, hV, hb3⟩
  have HL' := Lib.hid (HL.out.below hb3)
  have HX' := Lib.hid (HX.out.keep hb3)
  have HZZ' := Lib.hid (Below.two HZZ.out hb3)
  have HY := Lib.hid (hV)
  clear hb3 HZZ HL HX
  have HZZ := HZZ'
  clear HZZ'
  have HL := HL'
  clear HL'
  have HX := HX'
  clear HX'
  clear hV
  have h0 : ¬ (c : Int) < 0 := by omega
  have h2 : ¬ (c : Int) ≥ (m : Int) := by omega
  go_wp2_with fail
  have xa := HX.out.c a ha
  have xb := HX.out.c b hb
  have xc := HX.out.c c hc
  have ya := HY.out.c a ha
  have yc := HY.out.c c hc
  have e1 := BellP.far_to HK.out ha
  have e2 := SpfP.far_sym HK.out HS.out ha hb
  have e3 := SpfP.far_tri HK.out ha hb hc
  have e4 := BellP.far_bd m (BellP.ct l) a c
  have e6 := BellP.far_bd m (BellP.ct l) a b
  have e7 := BellP.far_bd m (BellP.ct l) b c
  have e5 : a ≠ b → 0 < BellP.far m (BellP.ct l) a b := fun e => SpfP.far_pos HK.out ha b hb (Ne.symm e)
  rw [e1] at xa
  rw [← e2] at ya
  by_cases eab : a = b
  · subst eab
    rw [e1] at xb ya e3
    clear e1 e2 e5 e6
    generalize BellP.far m (BellP.ct l) a c = zc at xc yc e3 e4 e7
    have t3 : (zc : Int) ≤ 0 + zc := by omega
    have t4 : (zc : Int) ≥ 0 := by omega
    have t5 : (zc : Int) ≤ 16 := by omega
    go_quiet (fail)
    go_wp2_with fail
    go_ret
    exact ⟨rfl, Below.drewN HZZ.out _⟩
  · have e5 := e5 eab
    clear e1 e2
    generalize BellP.far m (BellP.ct l) a c = zc at xc e3 e4
    generalize BellP.far m (BellP.ct l) a b = zb at xb ya e3 e5 e6
    generalize BellP.far m (BellP.ct l) b c = yz at yc e3 e7
    have t3 : (zc : Int) ≤ (zb : Int) + yz := by omega
    have t4 : (zc : Int) ≥ 0 := by omega
    have t5 : (zc : Int) ≤ 16 := by omega
    have t6 : (zb : Int) > 0 := by omega
    have t7 : ((a : Int) == (b : Int)) = false := by
      have : ¬ (a : Int) = b := by omega
      simpa using this
    go_quiet (fail)
    go_wp2_with fail
    go_ret
    exact ⟨rfl, Below.drewN HZZ.out _⟩
theorem spfTriangle_walk (w : World) (n a b c : Int) (v : Value) (l : List Lk) (hn : l.length < 4611686018427387904) (h : ArgK w v l) :
    Calls Try.prog 4 #[.int .i64 n, v, .int .i64 a, .int .i64 b, .int .i64 c] w fun e w' => e = .returned (.bool true) ∧ Below w.heap.size w w' := by
  by_cases h1 : spfBad n l a = 0
  · obtain ⟨m, x, rfl, rfl, _, _, ha, hg, _⟩ := spf_nat h1
    by_cases h2 : spfBad m l b = 0
    · obtain ⟨m', y, e, rfl, _, _, hb, _, _⟩ := spf_nat h2
      obtain rfl : m = m' := by omega
      by_cases h3 : c < 0 ∨ (m : Int) ≤ c
      · exact triangle_3 w m x y c v l hn h hg ha hb h3
      · obtain ⟨z, rfl⟩ : ∃ z : Nat, c = z := ⟨c.toNat, by omega⟩
        exact triangle_4 w m x y z v l hn h hg ha hb (by omega)
    · exact triangle_2 w m x b c v l hn h hg ha h2
  · exact triangle_1 w n a b c v l hn h h1
end Go.Proofs.Ytjgmehmhhplkaaa
