/-
  The law RibAges at every input.
-/
import Derived.Test.YtoocmogmocapoaaRibFact
import Derived.StillTailTactics
namespace Go.Proofs.Ytoocmogmocapoaa
open Go.RowKit Go.Lib RibP

set_option maxHeartbeats 4000000 in
set_option maxRecDepth 100000 in
theorem ages_bad (w : World) (f : Int) (a : Nat) (l m t u : Int) (ha : a < 4294967296) (hk : learnE (0, []) f (a, l) m t ≠ 0) :
    Calls Try.prog 3 #[.int .i64 f, .agg #[.int .u32 (a : Int), .int .i64 l], .int .i64 m, .int .i64 t, .int .i64 u] w fun e w' => e = .returned (.bool true) ∧ Below w.heap.size w w' := by
  have HX := Lib.hid (Box.new w (.int .u32 (a : Int)) (.int .i64 l) 24)
  have HA := Lib.hid ((Below.refl w.heap.size w).alloc (Nat.le_refl _) (.cells #[.int .u32 (a : Int), .int .i64 l] 24))
  have HF := Lib.hid (learnt_any (w.alloc (.cells #[.int .u32 (a : Int), .int .i64 l] 24)))
  go_enter Try.func3, Try.ntmps3
  go_wp2_with fail
  refine HF.out.mono ?_
  rintro e w1 ⟨rfl, hb1⟩
  have HN := Lib.hid (new_oneB (w.alloc (.cells #[.int .u32 (a : Int), .int .i64 l] 24)) w1 hb1)
  clear hb1
  go_wp2_with fail
  refine HN.out.mono ?_
  rintro e w2 ⟨rfl, h2⟩
  have H2 := Lib.hid h2
  obtain ⟨_, n0, n1, _, _⟩ := HX.out.kept h2.bel
  clear h2 HN
  have hl := one_learn H2.out f a l m t ha
  rw [show errV (learnE (0, []) f (a, l) m t) = .iface 59 (.int .i64 (learnE (0, []) f (a, l) m t)) from if_neg hk] at hl
  have HL := Lib.hid hl
  clear hl
  generalize learnE (0, []) f (a, l) m t = k at HL hk
  go_wp2_with fail
  refine HL.out.mono ?_
  rintro e w3 ⟨rfl, h3⟩
  go_wp2_with fail
  go_ret
  exact ⟨rfl, HA.out.trans (h3.bel.mono HA.out.size)⟩

set_option maxHeartbeats 4000000 in
set_option maxRecDepth 100000 in
theorem ages_sixteen (w : World) (f : Int) (a : Nat) (l m t u : Int) (ha : a < 4294967296) (hk : learnE (0, []) f (a, l) m t = 0) (hm : m = 16) :
    Calls Try.prog 3 #[.int .i64 f, .agg #[.int .u32 (a : Int), .int .i64 l], .int .i64 m, .int .i64 t, .int .i64 u] w fun e w' => e = .returned (.bool true) ∧ Below w.heap.size w w' := by
  have HX := Lib.hid (Box.new w (.int .u32 (a : Int)) (.int .i64 l) 24)
  have HA := Lib.hid ((Below.refl w.heap.size w).alloc (Nat.le_refl _) (.cells #[.int .u32 (a : Int), .int .i64 l] 24))
  have HF := Lib.hid (learnt_any (w.alloc (.cells #[.int .u32 (a : Int), .int .i64 l] 24)))
  go_enter Try.func3, Try.ntmps3
  go_wp2_with fail
  refine HF.out.mono ?_
  rintro e w1 ⟨rfl, hb1⟩
  have HN := Lib.hid (new_oneB (w.alloc (.cells #[.int .u32 (a : Int), .int .i64 l] 24)) w1 hb1)
  clear hb1
  go_wp2_with fail
  refine HN.out.mono ?_
  rintro e w2 ⟨rfl, h2⟩
  have H2 := Lib.hid h2
  obtain ⟨_, n0, n1, _, _⟩ := HX.out.kept h2.bel
  clear h2 HN
  have hl := one_learn H2.out f a l m t ha
  rw [hk, show errV 0 = .nilIface from rfl] at hl
  have HL := Lib.hid hl
  clear hl
  subst hm
  go_wp2_with fail
  refine HL.out.mono ?_
  rintro e w3 ⟨rfl, h3⟩
  go_wp2_with fail
  go_ret
  exact ⟨rfl, HA.out.trans (h3.bel.mono HA.out.size)⟩

set_option maxHeartbeats 4000000 in
set_option maxRecDepth 100000 in
theorem ages_early (w : World) (f : Int) (a : Nat) (l m t u : Int) (ha : a < 4294967296) (hk : learnE (0, []) f (a, l) m t = 0) (hs : learnS (0, []) f (a, l) m t = (t, [⟨⟨f, (a, l), m⟩, t⟩])) (hm : (m == 16) = false) (hu : ¬ okT t u) (h1 : u < t) :
    Calls Try.prog 3 #[.int .i64 f, .agg #[.int .u32 (a : Int), .int .i64 l], .int .i64 m, .int .i64 t, .int .i64 u] w fun e w' => e = .returned (.bool true) ∧ Below w.heap.size w w' := by
  have HX := Lib.hid (Box.new w (.int .u32 (a : Int)) (.int .i64 l) 24)
  have HA := Lib.hid ((Below.refl w.heap.size w).alloc (Nat.le_refl _) (.cells #[.int .u32 (a : Int), .int .i64 l] 24))
  have HF := Lib.hid (learnt_any (w.alloc (.cells #[.int .u32 (a : Int), .int .i64 l] 24)))
  go_enter Try.func3, Try.ntmps3
  go_wp2_with fail
  refine HF.out.mono ?_
  rintro e w1 ⟨rfl, hb1⟩
  have HN := Lib.hid (new_oneB (w.alloc (.cells #[.int .u32 (a : Int), .int .i64 l] 24)) w1 hb1)
  clear hb1
  go_wp2_with fail
  refine HN.out.mono ?_
  rintro e w2 ⟨rfl, h2⟩
  have H2 := Lib.hid h2
  obtain ⟨_, n0, n1, _, _⟩ := HX.out.kept h2.bel
  clear h2 HN
  have hl := one_learn H2.out f a l m t ha
  rw [hk, show errV 0 = .nilIface from rfl, hs] at hl
  have HL := Lib.hid hl
  clear hl
  go_wp2_with fail
  refine HL.out.mono ?_
  rintro e w3 ⟨rfl, h3⟩
  have H3 := Lib.hid h3
  clear h3 n0 n1
  have hg := one_age H3.out u
  rw [show errV (ageE (t, [⟨⟨f, (a, l), m⟩, t⟩]) u) = .iface 59 (.int .i64 1) by unfold ageE; rw [if_neg hu]; rfl] at hg
  have HG := Lib.hid hg
  clear hg
  go_wp2_with fail
  refine HG.out.mono ?_
  rintro e w4 ⟨rfl, h4⟩
  go_wp2_with fail
  go_ret
  exact ⟨rfl, HA.out.trans (h4.bel.mono HA.out.size)⟩

set_option maxHeartbeats 4000000 in
set_option maxRecDepth 100000 in
theorem ages_late (w : World) (f : Int) (a : Nat) (l m t u : Int) (ha : a < 4294967296) (hk : learnE (0, []) f (a, l) m t = 0) (hs : learnS (0, []) f (a, l) m t = (t, [⟨⟨f, (a, l), m⟩, t⟩])) (hm : (m == 16) = false) (hu : ¬ okT t u) (h1 : ¬ u < t) (h2 : 1099511627776 < u) :
    Calls Try.prog 3 #[.int .i64 f, .agg #[.int .u32 (a : Int), .int .i64 l], .int .i64 m, .int .i64 t, .int .i64 u] w fun e w' => e = .returned (.bool true) ∧ Below w.heap.size w w' := by
  have HX := Lib.hid (Box.new w (.int .u32 (a : Int)) (.int .i64 l) 24)
  have HA := Lib.hid ((Below.refl w.heap.size w).alloc (Nat.le_refl _) (.cells #[.int .u32 (a : Int), .int .i64 l] 24))
  have HF := Lib.hid (learnt_any (w.alloc (.cells #[.int .u32 (a : Int), .int .i64 l] 24)))
  go_enter Try.func3, Try.ntmps3
  go_wp2_with fail
  refine HF.out.mono ?_
  rintro e w1 ⟨rfl, hb1⟩
  have HN := Lib.hid (new_oneB (w.alloc (.cells #[.int .u32 (a : Int), .int .i64 l] 24)) w1 hb1)
  clear hb1
  go_wp2_with fail
  refine HN.out.mono ?_
  rintro e w2 ⟨rfl, h2⟩
  have H2 := Lib.hid h2
  obtain ⟨_, n0, n1, _, _⟩ := HX.out.kept h2.bel
  clear h2 HN
  have hl := one_learn H2.out f a l m t ha
  rw [hk, show errV 0 = .nilIface from rfl, hs] at hl
  have HL := Lib.hid hl
  clear hl
  go_wp2_with fail
  refine HL.out.mono ?_
  rintro e w3 ⟨rfl, h3⟩
  have H3 := Lib.hid h3
  clear h3 n0 n1
  have hg := one_age H3.out u
  rw [show errV (ageE (t, [⟨⟨f, (a, l), m⟩, t⟩]) u) = .iface 59 (.int .i64 1) by unfold ageE; rw [if_neg hu]; rfl] at hg
  have HG := Lib.hid hg
  clear hg
  go_wp2_with fail
  refine HG.out.mono ?_
  rintro e w4 ⟨rfl, h4⟩
  go_wp2_with fail
  go_ret
  exact ⟨rfl, HA.out.trans (h4.bel.mono HA.out.size)⟩

set_option maxHeartbeats 4000000 in
set_option maxRecDepth 100000 in
theorem ages_young (w : World) (f : Int) (a : Nat) (l m t u : Int) (ha : a < 4294967296) (hk : learnE (0, []) f (a, l) m t = 0) (hs : learnS (0, []) f (a, l) m t = (t, [⟨⟨f, (a, l), m⟩, t⟩])) (hm : (m == 16) = false) (hu : okT t u) (hL : age u [⟨⟨f, (a, l), m⟩, t⟩] = [⟨⟨f, (a, l), m⟩, t⟩]) (h3 : u - t < 180) :
    Calls Try.prog 3 #[.int .i64 f, .agg #[.int .u32 (a : Int), .int .i64 l], .int .i64 m, .int .i64 t, .int .i64 u] w fun e w' => e = .returned (.bool true) ∧ Below w.heap.size w w' := by
  have hw : IntKind.i64.wrap (u - t) = u - t := by have := hu.1; have := hu.2; rw [IntKind.wrap_i64]; omega
  have HX := Lib.hid (Box.new w (.int .u32 (a : Int)) (.int .i64 l) 24)
  have HA := Lib.hid ((Below.refl w.heap.size w).alloc (Nat.le_refl _) (.cells #[.int .u32 (a : Int), .int .i64 l] 24))
  have HF := Lib.hid (learnt_any (w.alloc (.cells #[.int .u32 (a : Int), .int .i64 l] 24)))
  go_enter Try.func3, Try.ntmps3
  go_wp2_with fail
  refine HF.out.mono ?_
  rintro e w1 ⟨rfl, hb1⟩
  have HN := Lib.hid (new_oneB (w.alloc (.cells #[.int .u32 (a : Int), .int .i64 l] 24)) w1 hb1)
  clear hb1
  go_wp2_with fail
  refine HN.out.mono ?_
  rintro e w2 ⟨rfl, h2⟩
  have H2 := Lib.hid h2
  obtain ⟨_, n0, n1, _, _⟩ := HX.out.kept h2.bel
  clear h2 HN
  have hl := one_learn H2.out f a l m t ha
  rw [hk, show errV 0 = .nilIface from rfl, hs] at hl
  have HL := Lib.hid hl
  clear hl
  go_wp2_with fail
  refine HL.out.mono ?_
  rintro e w3 ⟨rfl, h3⟩
  have H3 := Lib.hid h3
  clear h3 n0 n1
  have hg := one_age H3.out u
  rw [show errV (ageE (t, [⟨⟨f, (a, l), m⟩, t⟩]) u) = .nilIface by unfold ageE; rw [if_pos hu]; rfl] at hg
  rw [show ageS (t, [⟨⟨f, (a, l), m⟩, t⟩]) u = (u, [⟨⟨f, (a, l), m⟩, t⟩]) from (if_pos hu).trans (by rw [hL])] at hg
  have HG := Lib.hid hg
  clear hg
  go_wp2_with fail
  refine HG.out.mono ?_
  rintro e w4 ⟨rfl, h4⟩
  have H5 := Lib.hid h4
  clear h4
  go_wp2_with fail
  refine (one_list H5.out).mono ?_
  rintro e w6 ⟨v, H, rfl, hT, hH, hb6⟩
  obtain rfl := hT.single
  obtain ⟨g, c, rfl, _, _, c0, c1, c2, c3⟩ := hH.first
  have HB6 := Lib.hid ((H5.out.below hb6).bel)
  obtain ⟨_, n0, n1, _, _⟩ := HX.out.kept HB6.out
  clear hT hH hb6
  dsimp only at c0 c1 c2 c3
  go_wp2_with fail
  go_still (by kernel_rfl)
  go_wp2_with fail
  go_ret
  exact ⟨rfl, HA.out.trans (HB6.out.drew.mono HA.out.size)⟩

set_option maxHeartbeats 4000000 in
set_option maxRecDepth 100000 in
theorem ages_old (w : World) (f : Int) (a : Nat) (l m t u : Int) (ha : a < 4294967296) (hk : learnE (0, []) f (a, l) m t = 0) (hs : learnS (0, []) f (a, l) m t = (t, [⟨⟨f, (a, l), m⟩, t⟩])) (hm : (m == 16) = false) (hu : okT t u) (hL : age u [⟨⟨f, (a, l), m⟩, t⟩] = [⟨⟨f, (a, l), 16⟩, t + 180⟩]) (h3 : ¬ u - t < 180) (h6 : u - t < 300) :
    Calls Try.prog 3 #[.int .i64 f, .agg #[.int .u32 (a : Int), .int .i64 l], .int .i64 m, .int .i64 t, .int .i64 u] w fun e w' => e = .returned (.bool true) ∧ Below w.heap.size w w' := by
  have hw : IntKind.i64.wrap (u - t) = u - t := by have := hu.1; have := hu.2; rw [IntKind.wrap_i64]; omega
  have HX := Lib.hid (Box.new w (.int .u32 (a : Int)) (.int .i64 l) 24)
  have HA := Lib.hid ((Below.refl w.heap.size w).alloc (Nat.le_refl _) (.cells #[.int .u32 (a : Int), .int .i64 l] 24))
  have HF := Lib.hid (learnt_any (w.alloc (.cells #[.int .u32 (a : Int), .int .i64 l] 24)))
  go_enter Try.func3, Try.ntmps3
  go_wp2_with fail
  refine HF.out.mono ?_
  rintro e w1 ⟨rfl, hb1⟩
  have HN := Lib.hid (new_oneB (w.alloc (.cells #[.int .u32 (a : Int), .int .i64 l] 24)) w1 hb1)
  clear hb1
  go_wp2_with fail
  refine HN.out.mono ?_
  rintro e w2 ⟨rfl, h2⟩
  have H2 := Lib.hid h2
  obtain ⟨_, n0, n1, _, _⟩ := HX.out.kept h2.bel
  clear h2 HN
  have hl := one_learn H2.out f a l m t ha
  rw [hk, show errV 0 = .nilIface from rfl, hs] at hl
  have HL := Lib.hid hl
  clear hl
  go_wp2_with fail
  refine HL.out.mono ?_
  rintro e w3 ⟨rfl, h3⟩
  have H3 := Lib.hid h3
  clear h3 n0 n1
  have hg := one_age H3.out u
  rw [show errV (ageE (t, [⟨⟨f, (a, l), m⟩, t⟩]) u) = .nilIface by unfold ageE; rw [if_pos hu]; rfl] at hg
  rw [show ageS (t, [⟨⟨f, (a, l), m⟩, t⟩]) u = (u, [⟨⟨f, (a, l), 16⟩, t + 180⟩]) from (if_pos hu).trans (by rw [hL])] at hg
  have HG := Lib.hid hg
  clear hg
  go_wp2_with fail
  refine HG.out.mono ?_
  rintro e w4 ⟨rfl, h4⟩
  have H5 := Lib.hid h4
  clear h4
  go_wp2_with fail
  refine (one_list H5.out).mono ?_
  rintro e w6 ⟨v, H, rfl, hT, hH, hb6⟩
  obtain rfl := hT.single
  obtain ⟨g, c, rfl, _, _, c0, c1, c2, c3⟩ := hH.first
  have HB6 := Lib.hid ((H5.out.below hb6).bel)
  obtain ⟨_, n0, n1, _, _⟩ := HX.out.kept HB6.out
  clear hT hH hb6
  dsimp only at c0 c1 c2 c3
  go_wp2_with fail
  go_still (by kernel_rfl)
  go_wp2_with fail
  go_ret
  exact ⟨rfl, HA.out.trans (HB6.out.drew.mono HA.out.size)⟩

set_option maxHeartbeats 4000000 in
set_option maxRecDepth 100000 in
theorem ages_gone (w : World) (f : Int) (a : Nat) (l m t u : Int) (ha : a < 4294967296) (hk : learnE (0, []) f (a, l) m t = 0) (hs : learnS (0, []) f (a, l) m t = (t, [⟨⟨f, (a, l), m⟩, t⟩])) (hm : (m == 16) = false) (hu : okT t u) (h0 : 0 ≤ t) (hL : age u [⟨⟨f, (a, l), m⟩, t⟩] = []) (h6 : ¬ u - t < 300) :
    Calls Try.prog 3 #[.int .i64 f, .agg #[.int .u32 (a : Int), .int .i64 l], .int .i64 m, .int .i64 t, .int .i64 u] w fun e w' => e = .returned (.bool true) ∧ Below w.heap.size w w' := by
  have hw : IntKind.i64.wrap (u - t) = u - t := by have := hu.1; have := hu.2; rw [IntKind.wrap_i64]; omega
  have HX := Lib.hid (Box.new w (.int .u32 (a : Int)) (.int .i64 l) 24)
  have HA := Lib.hid ((Below.refl w.heap.size w).alloc (Nat.le_refl _) (.cells #[.int .u32 (a : Int), .int .i64 l] 24))
  have HF := Lib.hid (learnt_any (w.alloc (.cells #[.int .u32 (a : Int), .int .i64 l] 24)))
  go_enter Try.func3, Try.ntmps3
  go_wp2_with fail
  refine HF.out.mono ?_
  rintro e w1 ⟨rfl, hb1⟩
  have HN := Lib.hid (new_oneB (w.alloc (.cells #[.int .u32 (a : Int), .int .i64 l] 24)) w1 hb1)
  clear hb1
  go_wp2_with fail
  refine HN.out.mono ?_
  rintro e w2 ⟨rfl, h2⟩
  have H2 := Lib.hid h2
  obtain ⟨_, n0, n1, _, _⟩ := HX.out.kept h2.bel
  clear h2 HN
  have hl := one_learn H2.out f a l m t ha
  rw [hk, show errV 0 = .nilIface from rfl, hs] at hl
  have HL := Lib.hid hl
  clear hl
  go_wp2_with fail
  refine HL.out.mono ?_
  rintro e w3 ⟨rfl, h3⟩
  have H3 := Lib.hid h3
  clear h3 n0 n1
  have hg := one_age H3.out u
  rw [show errV (ageE (t, [⟨⟨f, (a, l), m⟩, t⟩]) u) = .nilIface by unfold ageE; rw [if_pos hu]; rfl] at hg
  rw [show ageS (t, [⟨⟨f, (a, l), m⟩, t⟩]) u = (u, []) from (if_pos hu).trans (by rw [hL])] at hg
  have HG := Lib.hid hg
  clear hg
  go_wp2_with fail
  refine HG.out.mono ?_
  rintro e w4 ⟨rfl, h4⟩
  have H5 := Lib.hid h4
  clear h4
  go_wp2_with fail
  refine (one_list H5.out).mono ?_
  rintro e w6 ⟨v, H, rfl, hT, hH, hb6⟩
  obtain rfl := hT.none
  obtain ⟨q, c, rfl⟩ := hH.len
  have HB6 := Lib.hid ((H5.out.below hb6).bel)
  clear hT hH hb6
  simp only [List.length_nil]
  go_wp2_with fail
  go_ret
  exact ⟨rfl, HA.out.trans (HB6.out.mono HA.out.size)⟩

theorem ribAges_walk (w : World) (f : Int) (a : Nat) (l m t u : Int) (ha : a < 4294967296) :
    Calls Try.prog 3 #[.int .i64 f, .agg #[.int .u32 (a : Int), .int .i64 l], .int .i64 m, .int .i64 t, .int .i64 u] w fun e w' => e = .returned (.bool true) ∧ Below w.heap.size w w' := by
  by_cases hk : learnE (0, []) f (a, l) m t = 0
  · obtain ⟨⟨k1, k2⟩, k3, k4, k5⟩ := learnE_zero hk
    have h0 : 0 ≤ t := k1.1
    by_cases hm : m = 16
    · exact ages_sixteen w f a l m t u ha hk hm
    · have hm' : (m == 16) = false := by simpa using hm
      have hs : learnS (0, []) f (a, l) m t = (t, [⟨⟨f, (a, l), m⟩, t⟩]) := by
        unfold learnS
        rw [if_pos hk]
        have : learn ⟨⟨f, (a, l), m⟩, t⟩ [] = [] ++ [⟨⟨f, (a, l), m⟩, t⟩] := learn_more _ _ rfl hm
        exact congrArg (Prod.mk t) this
      by_cases hu : okT t u
      · have key : ∀ e' : Rt, ageR u ⟨⟨f, (a, l), m⟩, t⟩ = e' → age u [⟨⟨f, (a, l), m⟩, t⟩] = if kpt u e' = true then [e'] else [] := fun e' h => by
          unfold age
          rw [List.map_cons, List.map_nil, h, List.filter_cons, List.filter_nil]
        by_cases h3 : u - t < 180
        · refine ages_young w f a l m t u ha hk hs hm' hu ?_ h3
          rw [key ⟨⟨f, (a, l), m⟩, t⟩ (by unfold ageR; rw [if_neg (fun h => by have := h.2; simp only at this; omega)])]
          exact if_pos (decide_eq_true (Or.inl hm))
        · have he : ageR u ⟨⟨f, (a, l), m⟩, t⟩ = ⟨⟨f, (a, l), 16⟩, t + 180⟩ := by
            unfold ageR
            rw [if_pos ⟨hm, by simp only; omega⟩]
          by_cases h4 : u - t < 300
          · refine ages_old w f a l m t u ha hk hs hm' hu ?_ h3 h4
            rw [key _ he]
            exact if_pos (decide_eq_true (Or.inr (by simp only; omega)))
          · refine ages_gone w f a l m t u ha hk hs hm' hu h0 ?_ h4
            rw [key _ he]
            refine if_neg (fun h => ?_)
            have := of_decide_eq_true h
            simp only [ne_eq, not_true_eq_false, false_or] at this
            omega
      · by_cases h1 : u < t
        · exact ages_early w f a l m t u ha hk hs hm' hu h1
        · exact ages_late w f a l m t u ha hk hs hm' hu h1 (by unfold okT at hu; omega)
  · exact ages_bad w f a l m t u ha hk
end Go.Proofs.Ytoocmogmocapoaa
