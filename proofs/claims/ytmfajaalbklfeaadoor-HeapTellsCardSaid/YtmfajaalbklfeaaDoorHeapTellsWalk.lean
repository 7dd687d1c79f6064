/-
  The law HeapTells at every size and every acts: it tells true; what lay in memory stays. Condition: the library's variable errors.errorType is as its text lays it.
-/
import Derived.Test.YtmfajaalbklfeaaDoorHeapTl
import Derived.Test.YtmfajaalbklfeaaDoorErrTold
import Derived.BigQuiet
namespace Go.Proofs.YtmfajaalbklfeaaDoor
open Go.RowKit Go.Lib HeapP

set_option maxHeartbeats 2000000 in
set_option maxRecDepth 100000 in
/-- No such size. -/
theorem heapTells_far (w : World) (n : Int) (v1 v2 v3 : Value) (h : n < 0 ∨ 5000 < n) (hE : ErrType w) :
    Calls Tryd.prog 3 #[.int .i64 n, v1, v2, v3] w fun e w' => e = .returned (.bool true) ∧ Below w.heap.size w w' := by
  have HN := Lib.hid fun w1 => new_bad w1 n h
  have HE := Lib.hid hE
  clear hE
  by_cases t : n < 0
  · clear h
    go_enter Tryd.func3, Tryd.ntmps3
    go_wp2_with fail
    refine (heaped_any w).mono ?_
    rintro e w1 ⟨rfl, hb1⟩
    have HB := Lib.hid hb1
    have HS := Lib.hid (same_err 1 1 true rfl w1 (HE.out.below hb1))
    clear hb1
    go_wp2_with fail
    refine (HN.out w1).mono ?_
    rintro e w2 ⟨rfl, rfl⟩
    go_wp2_with fail
    refine HS.out.mono ?_
    rintro e w3 ⟨rfl, hb3⟩
    have HB3 := Lib.hid (Below.two HB.out hb3)
    clear hb3
    go_wp2_with fail
    go_ret
    exact ⟨rfl, HB3.out⟩
  · have t2 : n > 5000 := by omega
    clear h
    go_enter Tryd.func3, Tryd.ntmps3
    go_wp2_with fail
    refine (heaped_any w).mono ?_
    rintro e w1 ⟨rfl, hb1⟩
    have HB := Lib.hid hb1
    have HS := Lib.hid (same_err 1 1 true rfl w1 (HE.out.below hb1))
    clear hb1
    go_wp2_with fail
    refine (HN.out w1).mono ?_
    rintro e w2 ⟨rfl, rfl⟩
    go_wp2_with fail
    refine HS.out.mono ?_
    rintro e w3 ⟨rfl, hb3⟩
    have HB3 := Lib.hid (Below.two HB.out hb3)
    clear hb3
    go_wp2_with fail
    go_ret
    exact ⟨rfl, HB3.out⟩

set_option maxHeartbeats 2000000 in
set_option maxRecDepth 100000 in
/-- More than the law asks of. -/
theorem heapTells_mid (w : World) (n : Nat) (v1 v2 v3 : Value) (h : 100 < n) (h5 : n ≤ 5000) :
    Calls Tryd.prog 3 #[.int .i64 n, v1, v2, v3] w fun e w' => e = .returned (.bool true) ∧ Below w.heap.size w w' := by
  have HN := Lib.hid fun w1 (hb : Below w.heap.size w w1) => new_one w w1 n n h5 rfl hb
  have t1 : ¬ (n : Int) < 0 := by omega
  have t2 : ¬ (n : Int) > 5000 := by omega
  have t3 : (n : Int) > 100 := by omega
  go_enter Tryd.func3, Tryd.ntmps3
  go_wp2_with fail
  refine (heaped_any w).mono ?_
  rintro e w1 ⟨rfl, hb1⟩
  have HN1 := Lib.hid (HN.out w1 hb1)
  clear HN hb1
  go_wp2_with fail
  refine HN1.out.mono ?_
  rintro e w2 ⟨q, rfl, ho⟩
  have HB := Lib.hid ho.bel
  clear ho
  go_wp2_with fail
  refine (same_nil 0 true rfl w2).mono ?_
  rintro e w3 ⟨rfl, rfl⟩
  go_wp2_with fail
  go_ret
  exact ⟨rfl, HB.out⟩

set_option maxHeartbeats 16000000 in
set_option maxRecDepth 100000 in
theorem heapTells_near (w : World) (n : Nat) (v1 v2 v3 : Value) (l1 l2 : List Int) (l3 : List Bool) (a1 : ArgI w v1 l1) (a2 : ArgI w v2 l2) (a3 : ArgBo w v3 l3) (h5 : n ≤ 100) (hlen : l1.length * 8 ≤ 140737488355328) (hE : ErrType w) :
    Calls Tryd.prog 3 #[.int .i64 n, v1, v2, v3] w fun e w' => e = .returned (.bool true) ∧ Below w.heap.size w w' := by
  obtain ⟨p1, c1, rfl, a1⟩ := a1
  obtain ⟨p2, c2, rfl, a2⟩ := a2
  obtain ⟨p3, c3, rfl, a3⟩ := a3
  have H1 : Hid (∀ i, i < l1.length → ∃ b off, p1 = some ⟨b, off, none⟩ ∧ b < w.heap.size ∧ SeenI w b off l1) := Lib.hid (by
    intro i hi
    rcases a1 with rfl | h
    · simp at hi
    · exact h)
  have H2 : Hid (∀ i, i < l2.length → ∃ b off, p2 = some ⟨b, off, none⟩ ∧ b < w.heap.size ∧ SeenI w b off l2) := Lib.hid (by
    intro i hi
    rcases a2 with rfl | h
    · simp at hi
    · exact h)
  have H3 : Hid (∀ i, i < l3.length → ∃ b off, p3 = some ⟨b, off, none⟩ ∧ b < w.heap.size ∧ SeenBo w b off l3) := Lib.hid (by
    intro i hi
    rcases a3 with rfl | h
    · simp at hi
    · exact h)
  clear a1 a2 a3
  obtain ⟨n1, hn1⟩ : ∃ n1, l1.length = n1 := ⟨_, rfl⟩
  obtain ⟨n2, hn2⟩ : ∃ n2, l2.length = n2 := ⟨_, rfl⟩
  obtain ⟨n3, hn3⟩ : ∃ n3, l3.length = n3 := ⟨_, rfl⟩
  rw [hn1] at H1 hlen ⊢
  rw [hn2] at H2 ⊢
  rw [hn3] at H3 ⊢
  have HL1 := Lib.hid hn1
  have HL2 := Lib.hid hn2
  have HL3 := Lib.hid hn3
  have HE := Lib.hid hE
  clear hn1 hn2 hn3 hE
  have HN := Lib.hid fun w1 (hb : Below w.heap.size w w1) => new_hb w1 n n (by omega) rfl
  have t1 : ¬ (n : Int) < 0 := by omega
  have t2 : ¬ (n : Int) > 5000 := by omega
  have t3 : ¬ (n : Int) > 100 := by omega
  have hmB := run_make_row' (P := Tryd.prog) 23 4 _ 1 Tryd.underlying23 info_bool rfl .i64 .i64 n (by omega) (by omega)
  have hmI := run_make_row' (P := Tryd.prog) 22 3 _ 8 Tryd.underlying22 info_int rfl .i64 .i64 n (by omega) (by omega)
  go_enter Tryd.func3, Tryd.ntmps3
  go_wp2_with fail
  refine (heaped_any w).mono ?_
  rintro e w1 ⟨rfl, hb1⟩
  have HN1 := Lib.hid (HN.out w1 hb1)
  have HB1 := Lib.hid hb1
  clear HN hb1
  go_wp2_with fail
  refine HN1.out.mono ?_
  rintro e w2 ⟨q, S, rfl, hh, hs, hb2⟩
  have HH2 := Lib.hid (And.intro hh (And.intro hs (Below.two HB1.out hb2)))
  have HZ2 := Lib.hid (Nat.le_trans HB1.out.size (Nat.le_refl _))
  have HS2 : Hid (∀ b, S b → w.heap.size ≤ b) := Lib.hid fun b e => Nat.le_trans HB1.out.size (hs b e)
  clear hh hs hb2 HN1 HB1 HZ2
  go_wp2_with fail
  refine (same_nil 0 true rfl w2).mono ?_
  rintro e w3 ⟨rfl, rfl⟩
  go_wp2_with fail
  have HT0 : Hid (Tl w ((w2.alloc (.cells (madeCells #[.bool false] n) 4)).alloc (.cells (madeCells #[.int .i64 0] n) 3)) q n w2.heap.size (w2.heap.size + 1) (fun _ => false) (fun _ => 0) (fun _ => false) (fun _ => 0)) := Lib.hid (by
    obtain ⟨hh, _, hb⟩ := HH2.out
    have A1 := (Below.refl w2.heap.size w2).alloc (Nat.le_refl _) (.cells (madeCells #[.bool false] n) 4)
    have hz : (w2.alloc (.cells (madeCells #[.bool false] n) 4)).heap.size = w2.heap.size + 1 := by simp
    have A2 := (Below.refl (w2.heap.size + 1) (w2.alloc (.cells (madeCells #[.bool false] n) 4))).alloc (by rw [hz]; exact Nat.le_refl _) (.cells (madeCells #[.int .i64 0] n) 3)
    have A3 := A1.alloc A1.size (.cells (madeCells #[.int .i64 0] n) 3)
    have v2 := Vec.made (w2.alloc (.cells (madeCells #[.bool false] n) 4)) n 3
    rw [hz] at v2
    have hsz := hb.size
    refine ⟨⟨S, (hh.below A3).congr (fun _ _ => rfl) fun b => ⟨fun c => c.elim, fun c => by have := c.2; simp at this⟩, fun e => ?_, fun e => ?_, HS2.out⟩, (VecB.made w2 n 4).keep (by rw [hz]; exact A2), v2, by omega, hsz, by omega, hb.trans (A3.mono hsz)⟩
    · have := hh.lt e; omega
    · have := hh.lt e; omega)
  generalize w2.heap.size = g at HT0 ⊢
  obtain ⟨c, hc⟩ : ∃ c, c = g + 1 := ⟨_, rfl⟩
  rw [← hc] at HT0 ⊢
  clear hc hmB hmI HH2 HS2
  generalize (w2.alloc (.cells (madeCells #[.bool false] n) 4)).alloc (.cells (madeCells #[.int .i64 0] n) 3) = w4 at HT0 ⊢
  have d1 : decide ((n : Int) < 0) = false := decide_eq_false (by omega)
  have d2 : decide (5000 < (n : Int)) = false := decide_eq_false (by omega)
  have d3 : decide (100 < (n : Int)) = false := decide_eq_false (by omega)
  simp only [d1, d2, d3, Bool.or_self]
  clear d1 d2 d3
  go_loopw [16] (fun v wr => ∃ (k : Nat) (hs : Nat → Bool) (ky : Nat → Int), v = .int .i64 k ∧ Hid (Tl w wr q n g c hs ky hs ky)) (fun v _ => n1 - (RowKit.intOf v).toNat)
  case atStart => exact ⟨0, _, _, rfl, HT0⟩
  case round =>
    clear HT0
    obtain ⟨k, hs, ky, rfl, HT⟩ := hrel
    have t1 : ¬ (n : Int) < 0 := by omega
    by_cases k1 : k < n1
    · have K1 : (k : Int) < (n1 : Int) := by omega
      by_cases k2 : k < n2
      · have K2 : (k : Int) < (n2 : Int) := by omega
        by_cases k3 : k < n3
        · have K3 : (k : Int) < (n3 : Int) := by omega
          obtain ⟨b1, o1, rfl, hb1, s1⟩ := H1.out k k1
          obtain ⟨b2, o2, rfl, hb2, s2⟩ := H2.out k k2
          obtain ⟨b3, o3, rfl, hb3, s3⟩ := H3.out k k3
          have s1 := s1 k (by rw [HL1.out]; exact k1)
          have s2 := s2 k (by rw [HL2.out]; exact k2)
          have s3 := s3 k (by rw [HL3.out]; exact k3)
          generalize l1[k]! = z at s1
          generalize l2[k]! = x at s2
          generalize l3[k]! = dr at s3
          have L1 := Lib.hid fun w1 (hb : Below w.heap.size w w1) => (hb.cell (p := ⟨b1, o1 + k, none⟩) hb1).trans s1
          have L2 := Lib.hid fun w1 (hb : Below w.heap.size w w1) => (hb.cell (p := ⟨b2, o2 + k, none⟩) hb2).trans s2
          have L3 := Lib.hid fun w1 (hb : Below w.heap.size w w1) => (hb.cell (p := ⟨b3, o3 + k, none⟩) hb3).trans s3
          clear s1 s2 s3 hb1 hb2 hb3
          have cz := L1.out wr HT.out.bel
          by_cases hz : z < 0 ∨ (n : Int) ≤ z
          · have HK := Lib.hid (HT.out.keyBad z hz)
            have HP := Lib.hid (HT.out.putBad z x hz)
            have HD := Lib.hid (HT.out.dropBad z hz)
            have HS1 := Lib.hid fun w1 (hb : Below wr.heap.size wr w1) => same_err 1 1 true rfl w1 (HE.out.below (Below.two HT.out.bel hb))
            by_cases z0 : z < 0
            · cases dr with
              | true =>
                have cd := L3.out wr HT.out.bel
                go_wp2_with fail
                refine HK.out.mono ?_
                rintro e wk ⟨rfl, rfl⟩
                go_wp2_with fail
                refine (HS1.out wr (Below.refl _ _)).mono ?_
                rintro e wl ⟨rfl, hbl⟩
                have HTl := Lib.hid (HT.out.below hbl)
                have HDl := Lib.hid (HTl.out.dropBad z hz)
                have cd := L3.out wl HTl.out.bel
                have HSl := Lib.hid (same_err 1 1 true rfl wl (HE.out.below HTl.out.bel))
                clear HT HK HP HD HS1 cz hbl
                go_wp2_with fail
                refine HDl.out.mono ?_
                rintro e wm ⟨rfl, rfl⟩
                go_wp2_with fail
                refine HSl.out.mono ?_
                rintro e wp ⟨rfl, hbp⟩
                have HT := Lib.hid (HTl.out.below hbp)
                clear HTl HDl HSl hbp cd
                as_aux_lemma =>
                  go_wp2_with fail
                  go_loopw [24, 25, 26] (fun u v y wi => ∃ (j : Nat) (z : Int), u = .int .i64 z ∧ v = .int .i64 (cntH hs j) ∧ y = .int .i64 j ∧ j ≤ n ∧ Hid (BestH hs ky j z) ∧ Hid (Tl w wi q n g c hs ky hs ky)) (fun _ _ y _ => n - (RowKit.intOf y).toNat)
                  case atStart => exact ⟨0, -1, rfl, rfl, rfl, Nat.zero_le _, Lib.hid (Or.inl ⟨rfl, fun b hb => by omega⟩), HT⟩
                  case round =>
                    clear HT
                    obtain ⟨j, zz, rfl, rfl, rfl, hj, HBs, HT⟩ := hrel
                    by_cases hjn : j < n
                    · have cj := HT.out.vb.c j hjn
                      have e3 : (j : Int) < (n : Int) := by omega
                      have hcl : cntH hs j ≤ 100 := by have := cntH_le hs j; omega
                      by_cases hh : hs j = true
                      · rw [hh] at cj
                        have HC1 := Lib.hid (cntH_yes hs j hh)
                        have HJ := Lib.hid hh
                        clear hh
                        rcases HBs.out with ⟨rfl, hb⟩ | ⟨s, rfl, hs1, hs2, hs3⟩
                        · have HB1 := Lib.hid (BestH.one (ky := ky) hb HJ.out)
                          clear hb
                          go_wp2_with fail
                          go_quiet (fail)
                          go_wp2_with fail
                          go_roundw
                          case rel => exact ⟨j + 1, _, rfl, by rw [HC1.out]; go_num, by go_num, by omega, HB1, Lib.hid (HT.out.below (Below.drewN (Below.refl _ _) _))⟩
                          case measure => simp [RowKit.intOf]; omega
                        · have cs := HT.out.vk.c s (by omega)
                          have cj2 := HT.out.vk.c j hjn
                          have e4 : (s : Int) < (n : Int) := by omega
                          have e5 : ((s : Int) < 0) = False := by simp
                          have HB1 := Lib.hid (And.intro (BestH.less (ky := ky) hs3 HJ.out) (BestH.more hs1 hs2 hs3))
                          clear hs1 hs2 hs3
                          by_cases hl : ky j < ky s
                          · have HL := Lib.hid (HB1.out.1 hl)
                            clear HB1
                            generalize ky j = y1 at cj2 hl
                            generalize ky s = y2 at cs hl
                            go_wp2_with fail
                            go_quiet (fail)
                            go_wp2_with fail
                            go_roundw
                            case rel => exact ⟨j + 1, _, rfl, by rw [HC1.out]; go_num, by go_num, by omega, HL, Lib.hid (HT.out.below (Below.drewN (Below.refl _ _) _))⟩
                            case measure => simp [RowKit.intOf]; omega
                          · have HL := Lib.hid (HB1.out.2 hl)
                            clear HB1
                            generalize ky j = y1 at cj2 hl
                            generalize ky s = y2 at cs hl
                            go_wp2_with fail
                            go_quiet (fail)
                            go_wp2_with fail
                            go_roundw
                            case rel => exact ⟨j + 1, _, rfl, by rw [HC1.out]; go_num, by go_num, by omega, HL, Lib.hid (HT.out.below (Below.drewN (Below.refl _ _) _))⟩
                            case measure => simp [RowKit.intOf]; omega
                      · have hh : hs j = false := by simpa using hh
                        rw [hh] at cj
                        have HC1 := Lib.hid (cntH_no hs j hh)
                        have HB1 := Lib.hid (HBs.out.no hh)
                        clear hh
                        go_wp2_with fail
                        go_quiet (fail)
                        go_wp2_with fail
                        go_roundw
                        case rel => exact ⟨j + 1, _, rfl, by rw [HC1.out], by go_num, by omega, HB1, Lib.hid (HT.out.below (Below.drewN (Below.refl _ _) _))⟩
                        case measure => simp [RowKit.intOf]; omega
                    · obtain rfl : j = n := by omega
                      rcases HBs.out with ⟨rfl, hb⟩ | ⟨s, rfl, hs1, hs2, hs3⟩
                      · have HM := Lib.hid (HT.out.minNone hb)
                        clear hb HBs
                        go_wp2_with fail
                        refine HM.out.mono ?_
                        rintro e wm ⟨rfl, rfl⟩
                        have HS1 := Lib.hid (same_err 2 2 true rfl _ (HE.out.below HT.out.bel))
                        clear HM
                        go_wp2_with fail
                        refine HS1.out.mono ?_
                        rintro e wn ⟨rfl, hbn⟩
                        have HT2 := Lib.hid (HT.out.below hbn)
                        have HLn := Lib.hid HT2.out.len
                        clear hbn HS1
                        go_wp2_with fail
                        refine HLn.out.mono ?_
                        rintro e wo ⟨rfl, rfl⟩
                        clear HLn
                        go_wp2_with fail
                        go_roundw
                        case rel => exact ⟨k + 1, hs, ky, by go_num, HT2⟩
                        case measure => simp [RowKit.intOf]; omega
                      · have cs := HT.out.vk.c s hs1
                        have e4 : (s : Int) < (j : Int) := by omega
                        have e5 : ((s : Int) < 0) = False := by simp
                        have HM := Lib.hid (HT.out.min s hs1 hs2 hs3)
                        clear hs1 hs2 hs3 HBs
                        generalize ky s = y1 at cs HM
                        go_wp2_with fail
                        refine HM.out.mono ?_
                        rintro e wm ⟨rfl, htm⟩
                        have HTm := Lib.hid htm
                        clear htm HM cs
                        go_wp2_with fail
                        refine (same_nil 0 true rfl wm).mono ?_
                        rintro e wn ⟨rfl, rfl⟩
                        have HLn := Lib.hid HTm.out.len
                        go_wp2_with fail
                        refine HLn.out.mono ?_
                        rintro e wo ⟨rfl, rfl⟩
                        clear HLn
                        go_wp2_with fail
                        go_roundw
                        case rel => exact ⟨k + 1, hs, ky, by go_num, HTm⟩
                        case measure => simp [RowKit.intOf]; omega
              | false =>
                go_wp2_with fail
                refine HK.out.mono ?_
                rintro e wk ⟨rfl, rfl⟩
                go_wp2_with fail
                refine (HS1.out wr (Below.refl _ _)).mono ?_
                rintro e wl ⟨rfl, hbl⟩
                have HTl := Lib.hid (HT.out.below hbl)
                have HDl := Lib.hid (HTl.out.putBad z x hz)
                have cd := L3.out wl HTl.out.bel
                have cx := L2.out wl HTl.out.bel
                have HSl := Lib.hid (same_err 1 1 true rfl wl (HE.out.below HTl.out.bel))
                clear HT HK HP HD HS1 cz hbl
                go_wp2_with fail
                refine HDl.out.mono ?_
                rintro e wm ⟨rfl, rfl⟩
                go_wp2_with fail
                refine HSl.out.mono ?_
                rintro e wp ⟨rfl, hbp⟩
                have HT := Lib.hid (HTl.out.below hbp)
                clear HTl HDl HSl hbp cd cx
                as_aux_lemma =>
                  go_wp2_with fail
                  go_loopw [24, 25, 26] (fun u v y wi => ∃ (j : Nat) (z : Int), u = .int .i64 z ∧ v = .int .i64 (cntH hs j) ∧ y = .int .i64 j ∧ j ≤ n ∧ Hid (BestH hs ky j z) ∧ Hid (Tl w wi q n g c hs ky hs ky)) (fun _ _ y _ => n - (RowKit.intOf y).toNat)
                  case atStart => exact ⟨0, -1, rfl, rfl, rfl, Nat.zero_le _, Lib.hid (Or.inl ⟨rfl, fun b hb => by omega⟩), HT⟩
                  case round =>
                    clear HT
                    obtain ⟨j, zz, rfl, rfl, rfl, hj, HBs, HT⟩ := hrel
                    by_cases hjn : j < n
                    · have cj := HT.out.vb.c j hjn
                      have e3 : (j : Int) < (n : Int) := by omega
                      have hcl : cntH hs j ≤ 100 := by have := cntH_le hs j; omega
                      by_cases hh : hs j = true
                      · rw [hh] at cj
                        have HC1 := Lib.hid (cntH_yes hs j hh)
                        have HJ := Lib.hid hh
                        clear hh
                        rcases HBs.out with ⟨rfl, hb⟩ | ⟨s, rfl, hs1, hs2, hs3⟩
                        · have HB1 := Lib.hid (BestH.one (ky := ky) hb HJ.out)
                          clear hb
                          go_wp2_with fail
                          go_quiet (fail)
                          go_wp2_with fail
                          go_roundw
                          case rel => exact ⟨j + 1, _, rfl, by rw [HC1.out]; go_num, by go_num, by omega, HB1, Lib.hid (HT.out.below (Below.drewN (Below.refl _ _) _))⟩
                          case measure => simp [RowKit.intOf]; omega
                        · have cs := HT.out.vk.c s (by omega)
                          have cj2 := HT.out.vk.c j hjn
                          have e4 : (s : Int) < (n : Int) := by omega
                          have e5 : ((s : Int) < 0) = False := by simp
                          have HB1 := Lib.hid (And.intro (BestH.less (ky := ky) hs3 HJ.out) (BestH.more hs1 hs2 hs3))
                          clear hs1 hs2 hs3
                          by_cases hl : ky j < ky s
                          · have HL := Lib.hid (HB1.out.1 hl)
                            clear HB1
                            generalize ky j = y1 at cj2 hl
                            generalize ky s = y2 at cs hl
                            go_wp2_with fail
                            go_quiet (fail)
                            go_wp2_with fail
                            go_roundw
                            case rel => exact ⟨j + 1, _, rfl, by rw [HC1.out]; go_num, by go_num, by omega, HL, Lib.hid (HT.out.below (Below.drewN (Below.refl _ _) _))⟩
                            case measure => simp [RowKit.intOf]; omega
                          · have HL := Lib.hid (HB1.out.2 hl)
                            clear HB1
                            generalize ky j = y1 at cj2 hl
                            generalize ky s = y2 at cs hl
                            go_wp2_with fail
                            go_quiet (fail)
                            go_wp2_with fail
                            go_roundw
                            case rel => exact ⟨j + 1, _, rfl, by rw [HC1.out]; go_num, by go_num, by omega, HL, Lib.hid (HT.out.below (Below.drewN (Below.refl _ _) _))⟩
                            case measure => simp [RowKit.intOf]; omega
                      · have hh : hs j = false := by simpa using hh
                        rw [hh] at cj
                        have HC1 := Lib.hid (cntH_no hs j hh)
                        have HB1 := Lib.hid (HBs.out.no hh)
                        clear hh
                        go_wp2_with fail
                        go_quiet (fail)
                        go_wp2_with fail
                        go_roundw
                        case rel => exact ⟨j + 1, _, rfl, by rw [HC1.out], by go_num, by omega, HB1, Lib.hid (HT.out.below (Below.drewN (Below.refl _ _) _))⟩
                        case measure => simp [RowKit.intOf]; omega
                    · obtain rfl : j = n := by omega
                      rcases HBs.out with ⟨rfl, hb⟩ | ⟨s, rfl, hs1, hs2, hs3⟩
                      · have HM := Lib.hid (HT.out.minNone hb)
                        clear hb HBs
                        go_wp2_with fail
                        refine HM.out.mono ?_
                        rintro e wm ⟨rfl, rfl⟩
                        have HS1 := Lib.hid (same_err 2 2 true rfl _ (HE.out.below HT.out.bel))
                        clear HM
                        go_wp2_with fail
                        refine HS1.out.mono ?_
                        rintro e wn ⟨rfl, hbn⟩
                        have HT2 := Lib.hid (HT.out.below hbn)
                        have HLn := Lib.hid HT2.out.len
                        clear hbn HS1
                        go_wp2_with fail
                        refine HLn.out.mono ?_
                        rintro e wo ⟨rfl, rfl⟩
                        clear HLn
                        go_wp2_with fail
                        go_roundw
                        case rel => exact ⟨k + 1, hs, ky, by go_num, HT2⟩
                        case measure => simp [RowKit.intOf]; omega
                      · have cs := HT.out.vk.c s hs1
                        have e4 : (s : Int) < (j : Int) := by omega
                        have e5 : ((s : Int) < 0) = False := by simp
                        have HM := Lib.hid (HT.out.min s hs1 hs2 hs3)
                        clear hs1 hs2 hs3 HBs
                        generalize ky s = y1 at cs HM
                        go_wp2_with fail
                        refine HM.out.mono ?_
                        rintro e wm ⟨rfl, htm⟩
                        have HTm := Lib.hid htm
                        clear htm HM cs
                        go_wp2_with fail
                        refine (same_nil 0 true rfl wm).mono ?_
                        rintro e wn ⟨rfl, rfl⟩
                        have HLn := Lib.hid HTm.out.len
                        go_wp2_with fail
                        refine HLn.out.mono ?_
                        rintro e wo ⟨rfl, rfl⟩
                        clear HLn
                        go_wp2_with fail
                        go_roundw
                        case rel => exact ⟨k + 1, hs, ky, by go_num, HTm⟩
                        case measure => simp [RowKit.intOf]; omega
            · have z1 : z ≥ (n : Int) := by omega
              cases dr with
              | true =>
                have cd := L3.out wr HT.out.bel
                go_wp2_with fail
                refine HK.out.mono ?_
                rintro e wk ⟨rfl, rfl⟩
                go_wp2_with fail
                refine (HS1.out wr (Below.refl _ _)).mono ?_
                rintro e wl ⟨rfl, hbl⟩
                have HTl := Lib.hid (HT.out.below hbl)
                have HDl := Lib.hid (HTl.out.dropBad z hz)
                have cd := L3.out wl HTl.out.bel
                have HSl := Lib.hid (same_err 1 1 true rfl wl (HE.out.below HTl.out.bel))
                clear HT HK HP HD HS1 cz hbl
                go_wp2_with fail
                refine HDl.out.mono ?_
                rintro e wm ⟨rfl, rfl⟩
                go_wp2_with fail
                refine HSl.out.mono ?_
                rintro e wp ⟨rfl, hbp⟩
                have HT := Lib.hid (HTl.out.below hbp)
                clear HTl HDl HSl hbp cd
                as_aux_lemma =>
                  go_wp2_with fail
                  go_loopw [24, 25, 26] (fun u v y wi => ∃ (j : Nat) (z : Int), u = .int .i64 z ∧ v = .int .i64 (cntH hs j) ∧ y = .int .i64 j ∧ j ≤ n ∧ Hid (BestH hs ky j z) ∧ Hid (Tl w wi q n g c hs ky hs ky)) (fun _ _ y _ => n - (RowKit.intOf y).toNat)
                  case atStart => exact ⟨0, -1, rfl, rfl, rfl, Nat.zero_le _, Lib.hid (Or.inl ⟨rfl, fun b hb => by omega⟩), HT⟩
                  case round =>
                    clear HT
                    obtain ⟨j, zz, rfl, rfl, rfl, hj, HBs, HT⟩ := hrel
                    by_cases hjn : j < n
                    · have cj := HT.out.vb.c j hjn
                      have e3 : (j : Int) < (n : Int) := by omega
                      have hcl : cntH hs j ≤ 100 := by have := cntH_le hs j; omega
                      by_cases hh : hs j = true
                      · rw [hh] at cj
                        have HC1 := Lib.hid (cntH_yes hs j hh)
                        have HJ := Lib.hid hh
                        clear hh
                        rcases HBs.out with ⟨rfl, hb⟩ | ⟨s, rfl, hs1, hs2, hs3⟩
                        · have HB1 := Lib.hid (BestH.one (ky := ky) hb HJ.out)
                          clear hb
                          go_wp2_with fail
                          go_quiet (fail)
                          go_wp2_with fail
                          go_roundw
                          case rel => exact ⟨j + 1, _, rfl, by rw [HC1.out]; go_num, by go_num, by omega, HB1, Lib.hid (HT.out.below (Below.drewN (Below.refl _ _) _))⟩
                          case measure => simp [RowKit.intOf]; omega
                        · have cs := HT.out.vk.c s (by omega)
                          have cj2 := HT.out.vk.c j hjn
                          have e4 : (s : Int) < (n : Int) := by omega
                          have e5 : ((s : Int) < 0) = False := by simp
                          have HB1 := Lib.hid (And.intro (BestH.less (ky := ky) hs3 HJ.out) (BestH.more hs1 hs2 hs3))
                          clear hs1 hs2 hs3
                          by_cases hl : ky j < ky s
                          · have HL := Lib.hid (HB1.out.1 hl)
                            clear HB1
                            generalize ky j = y1 at cj2 hl
                            generalize ky s = y2 at cs hl
                            go_wp2_with fail
                            go_quiet (fail)
                            go_wp2_with fail
                            go_roundw
                            case rel => exact ⟨j + 1, _, rfl, by rw [HC1.out]; go_num, by go_num, by omega, HL, Lib.hid (HT.out.below (Below.drewN (Below.refl _ _) _))⟩
                            case measure => simp [RowKit.intOf]; omega
                          · have HL := Lib.hid (HB1.out.2 hl)
                            clear HB1
                            generalize ky j = y1 at cj2 hl
                            generalize ky s = y2 at cs hl
                            go_wp2_with fail
                            go_quiet (fail)
                            go_wp2_with fail
                            go_roundw
                            case rel => exact ⟨j + 1, _, rfl, by rw [HC1.out]; go_num, by go_num, by omega, HL, Lib.hid (HT.out.below (Below.drewN (Below.refl _ _) _))⟩
                            case measure => simp [RowKit.intOf]; omega
                      · have hh : hs j = false := by simpa using hh
                        rw [hh] at cj
                        have HC1 := Lib.hid (cntH_no hs j hh)
                        have HB1 := Lib.hid (HBs.out.no hh)
                        clear hh
                        go_wp2_with fail
                        go_quiet (fail)
                        go_wp2_with fail
                        go_roundw
                        case rel => exact ⟨j + 1, _, rfl, by rw [HC1.out], by go_num, by omega, HB1, Lib.hid (HT.out.below (Below.drewN (Below.refl _ _) _))⟩
                        case measure => simp [RowKit.intOf]; omega
                    · obtain rfl : j = n := by omega
                      rcases HBs.out with ⟨rfl, hb⟩ | ⟨s, rfl, hs1, hs2, hs3⟩
                      · have HM := Lib.hid (HT.out.minNone hb)
                        clear hb HBs
                        go_wp2_with fail
                        refine HM.out.mono ?_
                        rintro e wm ⟨rfl, rfl⟩
                        have HS1 := Lib.hid (same_err 2 2 true rfl _ (HE.out.below HT.out.bel))
                        clear HM
                        go_wp2_with fail
                        refine HS1.out.mono ?_
                        rintro e wn ⟨rfl, hbn⟩
                        have HT2 := Lib.hid (HT.out.below hbn)
                        have HLn := Lib.hid HT2.out.len
                        clear hbn HS1
                        go_wp2_with fail
                        refine HLn.out.mono ?_
                        rintro e wo ⟨rfl, rfl⟩
                        clear HLn
                        go_wp2_with fail
                        go_roundw
                        case rel => exact ⟨k + 1, hs, ky, by go_num, HT2⟩
                        case measure => simp [RowKit.intOf]; omega
                      · have cs := HT.out.vk.c s hs1
                        have e4 : (s : Int) < (j : Int) := by omega
                        have e5 : ((s : Int) < 0) = False := by simp
                        have HM := Lib.hid (HT.out.min s hs1 hs2 hs3)
                        clear hs1 hs2 hs3 HBs
                        generalize ky s = y1 at cs HM
                        go_wp2_with fail
                        refine HM.out.mono ?_
                        rintro e wm ⟨rfl, htm⟩
                        have HTm := Lib.hid htm
                        clear htm HM cs
                        go_wp2_with fail
                        refine (same_nil 0 true rfl wm).mono ?_
                        rintro e wn ⟨rfl, rfl⟩
                        have HLn := Lib.hid HTm.out.len
                        go_wp2_with fail
                        refine HLn.out.mono ?_
                        rintro e wo ⟨rfl, rfl⟩
                        clear HLn
                        go_wp2_with fail
                        go_roundw
                        case rel => exact ⟨k + 1, hs, ky, by go_num, HTm⟩
                        case measure => simp [RowKit.intOf]; omega
              | false =>
                go_wp2_with fail
                refine HK.out.mono ?_
                rintro e wk ⟨rfl, rfl⟩
                go_wp2_with fail
                refine (HS1.out wr (Below.refl _ _)).mono ?_
                rintro e wl ⟨rfl, hbl⟩
                have HTl := Lib.hid (HT.out.below hbl)
                have HDl := Lib.hid (HTl.out.putBad z x hz)
                have cd := L3.out wl HTl.out.bel
                have cx := L2.out wl HTl.out.bel
                have HSl := Lib.hid (same_err 1 1 true rfl wl (HE.out.below HTl.out.bel))
                clear HT HK HP HD HS1 cz hbl
                go_wp2_with fail
                refine HDl.out.mono ?_
                rintro e wm ⟨rfl, rfl⟩
                go_wp2_with fail
                refine HSl.out.mono ?_
                rintro e wp ⟨rfl, hbp⟩
                have HT := Lib.hid (HTl.out.below hbp)
                clear HTl HDl HSl hbp cd cx
                as_aux_lemma =>
                  go_wp2_with fail
                  go_loopw [24, 25, 26] (fun u v y wi => ∃ (j : Nat) (z : Int), u = .int .i64 z ∧ v = .int .i64 (cntH hs j) ∧ y = .int .i64 j ∧ j ≤ n ∧ Hid (BestH hs ky j z) ∧ Hid (Tl w wi q n g c hs ky hs ky)) (fun _ _ y _ => n - (RowKit.intOf y).toNat)
                  case atStart => exact ⟨0, -1, rfl, rfl, rfl, Nat.zero_le _, Lib.hid (Or.inl ⟨rfl, fun b hb => by omega⟩), HT⟩
                  case round =>
                    clear HT
                    obtain ⟨j, zz, rfl, rfl, rfl, hj, HBs, HT⟩ := hrel
                    by_cases hjn : j < n
                    · have cj := HT.out.vb.c j hjn
                      have e3 : (j : Int) < (n : Int) := by omega
                      have hcl : cntH hs j ≤ 100 := by have := cntH_le hs j; omega
                      by_cases hh : hs j = true
                      · rw [hh] at cj
                        have HC1 := Lib.hid (cntH_yes hs j hh)
                        have HJ := Lib.hid hh
                        clear hh
                        rcases HBs.out with ⟨rfl, hb⟩ | ⟨s, rfl, hs1, hs2, hs3⟩
                        · have HB1 := Lib.hid (BestH.one (ky := ky) hb HJ.out)
                          clear hb
                          go_wp2_with fail
                          go_quiet (fail)
                          go_wp2_with fail
                          go_roundw
                          case rel => exact ⟨j + 1, _, rfl, by rw [HC1.out]; go_num, by go_num, by omega, HB1, Lib.hid (HT.out.below (Below.drewN (Below.refl _ _) _))⟩
                          case measure => simp [RowKit.intOf]; omega
                        · have cs := HT.out.vk.c s (by omega)
                          have cj2 := HT.out.vk.c j hjn
                          have e4 : (s : Int) < (n : Int) := by omega
                          have e5 : ((s : Int) < 0) = False := by simp
                          have HB1 := Lib.hid (And.intro (BestH.less (ky := ky) hs3 HJ.out) (BestH.more hs1 hs2 hs3))
                          clear hs1 hs2 hs3
                          by_cases hl : ky j < ky s
                          · have HL := Lib.hid (HB1.out.1 hl)
                            clear HB1
                            generalize ky j = y1 at cj2 hl
                            generalize ky s = y2 at cs hl
                            go_wp2_with fail
                            go_quiet (fail)
                            go_wp2_with fail
                            go_roundw
                            case rel => exact ⟨j + 1, _, rfl, by rw [HC1.out]; go_num, by go_num, by omega, HL, Lib.hid (HT.out.below (Below.drewN (Below.refl _ _) _))⟩
                            case measure => simp [RowKit.intOf]; omega
                          · have HL := Lib.hid (HB1.out.2 hl)
                            clear HB1
                            generalize ky j = y1 at cj2 hl
                            generalize ky s = y2 at cs hl
                            go_wp2_with fail
                            go_quiet (fail)
                            go_wp2_with fail
                            go_roundw
                            case rel => exact ⟨j + 1, _, rfl, by rw [HC1.out]; go_num, by go_num, by omega, HL, Lib.hid (HT.out.below (Below.drewN (Below.refl _ _) _))⟩
                            case measure => simp [RowKit.intOf]; omega
                      · have hh : hs j = false := by simpa using hh
                        rw [hh] at cj
                        have HC1 := Lib.hid (cntH_no hs j hh)
                        have HB1 := Lib.hid (HBs.out.no hh)
                        clear hh
                        go_wp2_with fail
                        go_quiet (fail)
                        go_wp2_with fail
                        go_roundw
                        case rel => exact ⟨j + 1, _, rfl, by rw [HC1.out], by go_num, by omega, HB1, Lib.hid (HT.out.below (Below.drewN (Below.refl _ _) _))⟩
                        case measure => simp [RowKit.intOf]; omega
                    · obtain rfl : j = n := by omega
                      rcases HBs.out with ⟨rfl, hb⟩ | ⟨s, rfl, hs1, hs2, hs3⟩
                      · have HM := Lib.hid (HT.out.minNone hb)
                        clear hb HBs
                        go_wp2_with fail
                        refine HM.out.mono ?_
                        rintro e wm ⟨rfl, rfl⟩
                        have HS1 := Lib.hid (same_err 2 2 true rfl _ (HE.out.below HT.out.bel))
                        clear HM
                        go_wp2_with fail
                        refine HS1.out.mono ?_
                        rintro e wn ⟨rfl, hbn⟩
                        have HT2 := Lib.hid (HT.out.below hbn)
                        have HLn := Lib.hid HT2.out.len
                        clear hbn HS1
                        go_wp2_with fail
                        refine HLn.out.mono ?_
                        rintro e wo ⟨rfl, rfl⟩
                        clear HLn
                        go_wp2_with fail
                        go_roundw
                        case rel => exact ⟨k + 1, hs, ky, by go_num, HT2⟩
                        case measure => simp [RowKit.intOf]; omega
                      · have cs := HT.out.vk.c s hs1
                        have e4 : (s : Int) < (j : Int) := by omega
                        have e5 : ((s : Int) < 0) = False := by simp
                        have HM := Lib.hid (HT.out.min s hs1 hs2 hs3)
                        clear hs1 hs2 hs3 HBs
                        generalize ky s = y1 at cs HM
                        go_wp2_with fail
                        refine HM.out.mono ?_
                        rintro e wm ⟨rfl, htm⟩
                        have HTm := Lib.hid htm
                        clear htm HM cs
                        go_wp2_with fail
                        refine (same_nil 0 true rfl wm).mono ?_
                        rintro e wn ⟨rfl, rfl⟩
                        have HLn := Lib.hid HTm.out.len
                        go_wp2_with fail
                        refine HLn.out.mono ?_
                        rintro e wo ⟨rfl, rfl⟩
                        clear HLn
                        go_wp2_with fail
                        go_roundw
                        case rel => exact ⟨k + 1, hs, ky, by go_num, HTm⟩
                        case measure => simp [RowKit.intOf]; omega
          · obtain ⟨a, rfl⟩ := Int.eq_ofNat_of_zero_le (a := z) (by omega)
            have ha : a < n := by omega
            have z0 : ¬ (a : Int) < 0 := by omega
            have z1 : ¬ (a : Int) ≥ (n : Int) := by omega
            have z2 : (a : Int) < (n : Int) := by omega
            have ca := HT.out.vb.c a ha
            clear hz
            by_cases hm : hs a = true
            · rw [hm] at ca
              have ck := HT.out.vk.c a ha
              have HK := Lib.hid (HT.out.key a ha hm)
              have HM := Lib.hid hm
              clear hm
              generalize hy : ky a = y at ck HK
              clear hy
              go_wp2_with fail
              refine HK.out.mono ?_
              rintro e wk ⟨rfl, htk⟩
              have HTk := Lib.hid htk
              clear htk HT HK cz ca ck
              go_wp2_with fail
              refine (same_nil 0 true rfl wk).mono ?_
              rintro e wl ⟨rfl, rfl⟩
              have cd := L3.out wk HTk.out.bel
              cases dr with
              | true =>
                have HDl := Lib.hid (HTk.out.drop a ha HM.out)
                go_wp2_with fail
                refine HDl.out.mono ?_
                rintro e wm ⟨rfl, htm⟩
                have HTm := Lib.hid htm
                clear htm HTk HDl cd
                go_wp2_with fail
                refine (same_nil 0 true rfl wm).mono ?_
                rintro e wp ⟨rfl, rfl⟩
                have cg := HTm.out.vb.c a ha
                have fg := HTm.out.vb.f a
                have HT := Lib.hid (HTm.out.setB a false)
                clear HTm
                as_aux_lemma =>
                  go_wp2_with fail
                  go_loopw [24, 25, 26] (fun u v y wi => ∃ (j : Nat) (z : Int), u = .int .i64 z ∧ v = .int .i64 (cntH (setH hs a false) j) ∧ y = .int .i64 j ∧ j ≤ n ∧ Hid (BestH (setH hs a false) ky j z) ∧ Hid (Tl w wi q n g c (setH hs a false) ky (setH hs a false) ky)) (fun _ _ y _ => n - (RowKit.intOf y).toNat)
                  case atStart => exact ⟨0, -1, rfl, rfl, rfl, Nat.zero_le _, Lib.hid (Or.inl ⟨rfl, fun b hb => by omega⟩), HT⟩
                  case round =>
                    clear HT
                    obtain ⟨j, zz, rfl, rfl, rfl, hj, HBs, HT⟩ := hrel
                    by_cases hjn : j < n
                    · have cj := HT.out.vb.c j hjn
                      have e3 : (j : Int) < (n : Int) := by omega
                      have hcl : cntH (setH hs a false) j ≤ 100 := by have := cntH_le (setH hs a false) j; omega
                      by_cases hh : (setH hs a false) j = true
                      · rw [hh] at cj
                        have HC1 := Lib.hid (cntH_yes (setH hs a false) j hh)
                        have HJ := Lib.hid hh
                        clear hh
                        rcases HBs.out with ⟨rfl, hb⟩ | ⟨s, rfl, hs1, hs2, hs3⟩
                        · have HB1 := Lib.hid (BestH.one (ky := ky) hb HJ.out)
                          clear hb
                          go_wp2_with fail
                          go_quiet (fail)
                          go_wp2_with fail
                          go_roundw
                          case rel => exact ⟨j + 1, _, rfl, by rw [HC1.out]; go_num, by go_num, by omega, HB1, Lib.hid (HT.out.below (Below.drewN (Below.refl _ _) _))⟩
                          case measure => simp [RowKit.intOf]; omega
                        · have cs := HT.out.vk.c s (by omega)
                          have cj2 := HT.out.vk.c j hjn
                          have e4 : (s : Int) < (n : Int) := by omega
                          have e5 : ((s : Int) < 0) = False := by simp
                          have HB1 := Lib.hid (And.intro (BestH.less (ky := ky) hs3 HJ.out) (BestH.more hs1 hs2 hs3))
                          clear hs1 hs2 hs3
                          by_cases hl : ky j < ky s
                          · have HL := Lib.hid (HB1.out.1 hl)
                            clear HB1
                            generalize ky j = y1 at cj2 hl
                            generalize ky s = y2 at cs hl
                            go_wp2_with fail
                            go_quiet (fail)
                            go_wp2_with fail
                            go_roundw
                            case rel => exact ⟨j + 1, _, rfl, by rw [HC1.out]; go_num, by go_num, by omega, HL, Lib.hid (HT.out.below (Below.drewN (Below.refl _ _) _))⟩
                            case measure => simp [RowKit.intOf]; omega
                          · have HL := Lib.hid (HB1.out.2 hl)
                            clear HB1
                            generalize ky j = y1 at cj2 hl
                            generalize ky s = y2 at cs hl
                            go_wp2_with fail
                            go_quiet (fail)
                            go_wp2_with fail
                            go_roundw
                            case rel => exact ⟨j + 1, _, rfl, by rw [HC1.out]; go_num, by go_num, by omega, HL, Lib.hid (HT.out.below (Below.drewN (Below.refl _ _) _))⟩
                            case measure => simp [RowKit.intOf]; omega
                      · have hh : (setH hs a false) j = false := by simpa using hh
                        rw [hh] at cj
                        have HC1 := Lib.hid (cntH_no (setH hs a false) j hh)
                        have HB1 := Lib.hid (HBs.out.no hh)
                        clear hh
                        go_wp2_with fail
                        go_quiet (fail)
                        go_wp2_with fail
                        go_roundw
                        case rel => exact ⟨j + 1, _, rfl, by rw [HC1.out], by go_num, by omega, HB1, Lib.hid (HT.out.below (Below.drewN (Below.refl _ _) _))⟩
                        case measure => simp [RowKit.intOf]; omega
                    · obtain rfl : j = n := by omega
                      rcases HBs.out with ⟨rfl, hb⟩ | ⟨s, rfl, hs1, hs2, hs3⟩
                      · have HM := Lib.hid (HT.out.minNone hb)
                        clear hb HBs
                        go_wp2_with fail
                        refine HM.out.mono ?_
                        rintro e wm ⟨rfl, rfl⟩
                        have HS1 := Lib.hid (same_err 2 2 true rfl _ (HE.out.below HT.out.bel))
                        clear HM
                        go_wp2_with fail
                        refine HS1.out.mono ?_
                        rintro e wn ⟨rfl, hbn⟩
                        have HT2 := Lib.hid (HT.out.below hbn)
                        have HLn := Lib.hid HT2.out.len
                        clear hbn HS1
                        go_wp2_with fail
                        refine HLn.out.mono ?_
                        rintro e wo ⟨rfl, rfl⟩
                        clear HLn
                        go_wp2_with fail
                        go_roundw
                        case rel => exact ⟨k + 1, (setH hs a false), ky, by go_num, HT2⟩
                        case measure => simp [RowKit.intOf]; omega
                      · have cs := HT.out.vk.c s hs1
                        have e4 : (s : Int) < (j : Int) := by omega
                        have e5 : ((s : Int) < 0) = False := by simp
                        have HM := Lib.hid (HT.out.min s hs1 hs2 hs3)
                        clear hs1 hs2 hs3 HBs
                        generalize ky s = y1 at cs HM
                        go_wp2_with fail
                        refine HM.out.mono ?_
                        rintro e wm ⟨rfl, htm⟩
                        have HTm := Lib.hid htm
                        clear htm HM cs
                        go_wp2_with fail
                        refine (same_nil 0 true rfl wm).mono ?_
                        rintro e wn ⟨rfl, rfl⟩
                        have HLn := Lib.hid HTm.out.len
                        go_wp2_with fail
                        refine HLn.out.mono ?_
                        rintro e wo ⟨rfl, rfl⟩
                        clear HLn
                        go_wp2_with fail
                        go_roundw
                        case rel => exact ⟨k + 1, (setH hs a false), ky, by go_num, HTm⟩
                        case measure => simp [RowKit.intOf]; omega
              | false =>
                have HDl := Lib.hid (HTk.out.put a x ha)
                have cx := L2.out wk HTk.out.bel
                go_wp2_with fail
                refine HDl.out.mono ?_
                rintro e wm ⟨rfl, htm⟩
                have HTm := Lib.hid htm
                clear htm HTk HDl cd cx
                go_wp2_with fail
                refine (same_nil 0 true rfl wm).mono ?_
                rintro e wp ⟨rfl, rfl⟩
                have cg := HTm.out.vb.c a ha
                have fg := HTm.out.vb.f a
                have HTb := Lib.hid (HTm.out.setB a true)
                have cx := L2.out _ HTb.out.bel
                have cc := HTb.out.vk.c a ha
                have fc := HTb.out.vk.f a
                have HT := Lib.hid (HTb.out.setK a x)
                clear HTm HTb
                as_aux_lemma =>
                  go_wp2_with fail
                  go_loopw [24, 25, 26] (fun u v y wi => ∃ (j : Nat) (z : Int), u = .int .i64 z ∧ v = .int .i64 (cntH (setH hs a true) j) ∧ y = .int .i64 j ∧ j ≤ n ∧ Hid (BestH (setH hs a true) (putK ky a x) j z) ∧ Hid (Tl w wi q n g c (setH hs a true) (putK ky a x) (setH hs a true) (putK ky a x))) (fun _ _ y _ => n - (RowKit.intOf y).toNat)
                  case atStart => exact ⟨0, -1, rfl, rfl, rfl, Nat.zero_le _, Lib.hid (Or.inl ⟨rfl, fun b hb => by omega⟩), HT⟩
                  case round =>
                    clear HT
                    obtain ⟨j, zz, rfl, rfl, rfl, hj, HBs, HT⟩ := hrel
                    by_cases hjn : j < n
                    · have cj := HT.out.vb.c j hjn
                      have e3 : (j : Int) < (n : Int) := by omega
                      have hcl : cntH (setH hs a true) j ≤ 100 := by have := cntH_le (setH hs a true) j; omega
                      by_cases hh : (setH hs a true) j = true
                      · rw [hh] at cj
                        have HC1 := Lib.hid (cntH_yes (setH hs a true) j hh)
                        have HJ := Lib.hid hh
                        clear hh
                        rcases HBs.out with ⟨rfl, hb⟩ | ⟨s, rfl, hs1, hs2, hs3⟩
                        · have HB1 := Lib.hid (BestH.one (ky := (putK ky a x)) hb HJ.out)
                          clear hb
                          go_wp2_with fail
                          go_quiet (fail)
                          go_wp2_with fail
                          go_roundw
                          case rel => exact ⟨j + 1, _, rfl, by rw [HC1.out]; go_num, by go_num, by omega, HB1, Lib.hid (HT.out.below (Below.drewN (Below.refl _ _) _))⟩
                          case measure => simp [RowKit.intOf]; omega
                        · have cs := HT.out.vk.c s (by omega)
                          have cj2 := HT.out.vk.c j hjn
                          have e4 : (s : Int) < (n : Int) := by omega
                          have e5 : ((s : Int) < 0) = False := by simp
                          have HB1 := Lib.hid (And.intro (BestH.less (ky := (putK ky a x)) hs3 HJ.out) (BestH.more hs1 hs2 hs3))
                          clear hs1 hs2 hs3
                          by_cases hl : (putK ky a x) j < (putK ky a x) s
                          · have HL := Lib.hid (HB1.out.1 hl)
                            clear HB1
                            generalize (putK ky a x) j = y1 at cj2 hl
                            generalize (putK ky a x) s = y2 at cs hl
                            go_wp2_with fail
                            go_quiet (fail)
                            go_wp2_with fail
                            go_roundw
                            case rel => exact ⟨j + 1, _, rfl, by rw [HC1.out]; go_num, by go_num, by omega, HL, Lib.hid (HT.out.below (Below.drewN (Below.refl _ _) _))⟩
                            case measure => simp [RowKit.intOf]; omega
                          · have HL := Lib.hid (HB1.out.2 hl)
                            clear HB1
                            generalize (putK ky a x) j = y1 at cj2 hl
                            generalize (putK ky a x) s = y2 at cs hl
                            go_wp2_with fail
                            go_quiet (fail)
                            go_wp2_with fail
                            go_roundw
                            case rel => exact ⟨j + 1, _, rfl, by rw [HC1.out]; go_num, by go_num, by omega, HL, Lib.hid (HT.out.below (Below.drewN (Below.refl _ _) _))⟩
                            case measure => simp [RowKit.intOf]; omega
                      · have hh : (setH hs a true) j = false := by simpa using hh
                        rw [hh] at cj
                        have HC1 := Lib.hid (cntH_no (setH hs a true) j hh)
                        have HB1 := Lib.hid (HBs.out.no hh)
                        clear hh
                        go_wp2_with fail
                        go_quiet (fail)
                        go_wp2_with fail
                        go_roundw
                        case rel => exact ⟨j + 1, _, rfl, by rw [HC1.out], by go_num, by omega, HB1, Lib.hid (HT.out.below (Below.drewN (Below.refl _ _) _))⟩
                        case measure => simp [RowKit.intOf]; omega
                    · obtain rfl : j = n := by omega
                      rcases HBs.out with ⟨rfl, hb⟩ | ⟨s, rfl, hs1, hs2, hs3⟩
                      · have HM := Lib.hid (HT.out.minNone hb)
                        clear hb HBs
                        go_wp2_with fail
                        refine HM.out.mono ?_
                        rintro e wm ⟨rfl, rfl⟩
                        have HS1 := Lib.hid (same_err 2 2 true rfl _ (HE.out.below HT.out.bel))
                        clear HM
                        go_wp2_with fail
                        refine HS1.out.mono ?_
                        rintro e wn ⟨rfl, hbn⟩
                        have HT2 := Lib.hid (HT.out.below hbn)
                        have HLn := Lib.hid HT2.out.len
                        clear hbn HS1
                        go_wp2_with fail
                        refine HLn.out.mono ?_
                        rintro e wo ⟨rfl, rfl⟩
                        clear HLn
                        go_wp2_with fail
                        go_roundw
                        case rel => exact ⟨k + 1, (setH hs a true), (putK ky a x), by go_num, HT2⟩
                        case measure => simp [RowKit.intOf]; omega
                      · have cs := HT.out.vk.c s hs1
                        have e4 : (s : Int) < (j : Int) := by omega
                        have e5 : ((s : Int) < 0) = False := by simp
                        have HM := Lib.hid (HT.out.min s hs1 hs2 hs3)
                        clear hs1 hs2 hs3 HBs
                        generalize (putK ky a x) s = y1 at cs HM
                        go_wp2_with fail
                        refine HM.out.mono ?_
                        rintro e wm ⟨rfl, htm⟩
                        have HTm := Lib.hid htm
                        clear htm HM cs
                        go_wp2_with fail
                        refine (same_nil 0 true rfl wm).mono ?_
                        rintro e wn ⟨rfl, rfl⟩
                        have HLn := Lib.hid HTm.out.len
                        go_wp2_with fail
                        refine HLn.out.mono ?_
                        rintro e wo ⟨rfl, rfl⟩
                        clear HLn
                        go_wp2_with fail
                        go_roundw
                        case rel => exact ⟨k + 1, (setH hs a true), (putK ky a x), by go_num, HTm⟩
                        case measure => simp [RowKit.intOf]; omega
            · have hm : hs a = false := by simpa using hm
              rw [hm] at ca
              have HK := Lib.hid (HT.out.keyNone a ha hm)
              have HM := Lib.hid hm
              clear hm
              have HS1 := Lib.hid (same_err 2 2 true rfl wr (HE.out.below HT.out.bel))
              go_wp2_with fail
              refine HK.out.mono ?_
              rintro e wk ⟨rfl, rfl⟩
              clear HK
              go_wp2_with fail
              refine HS1.out.mono ?_
              rintro e wl ⟨rfl, hbl⟩
              have HTl := Lib.hid (HT.out.below hbl)
              have cd := L3.out wl HTl.out.bel
              clear HT HS1 hbl cz ca
              cases dr with
              | true =>
                have HDl := Lib.hid (HTl.out.dropNone a ha HM.out)
                have HSl := Lib.hid (same_err 2 2 true rfl wl (HE.out.below HTl.out.bel))
                go_wp2_with fail
                refine HDl.out.mono ?_
                rintro e wm ⟨rfl, rfl⟩
                go_wp2_with fail
                refine HSl.out.mono ?_
                rintro e wp ⟨rfl, hbp⟩
                have HT := Lib.hid (HTl.out.below hbp)
                clear HTl HDl HSl hbp cd
                as_aux_lemma =>
                  go_wp2_with fail
                  go_loopw [24, 25, 26] (fun u v y wi => ∃ (j : Nat) (z : Int), u = .int .i64 z ∧ v = .int .i64 (cntH hs j) ∧ y = .int .i64 j ∧ j ≤ n ∧ Hid (BestH hs ky j z) ∧ Hid (Tl w wi q n g c hs ky hs ky)) (fun _ _ y _ => n - (RowKit.intOf y).toNat)
                  case atStart => exact ⟨0, -1, rfl, rfl, rfl, Nat.zero_le _, Lib.hid (Or.inl ⟨rfl, fun b hb => by omega⟩), HT⟩
                  case round =>
                    clear HT
                    obtain ⟨j, zz, rfl, rfl, rfl, hj, HBs, HT⟩ := hrel
                    by_cases hjn : j < n
                    · have cj := HT.out.vb.c j hjn
                      have e3 : (j : Int) < (n : Int) := by omega
                      have hcl : cntH hs j ≤ 100 := by have := cntH_le hs j; omega
                      by_cases hh : hs j = true
                      · rw [hh] at cj
                        have HC1 := Lib.hid (cntH_yes hs j hh)
                        have HJ := Lib.hid hh
                        clear hh
                        rcases HBs.out with ⟨rfl, hb⟩ | ⟨s, rfl, hs1, hs2, hs3⟩
                        · have HB1 := Lib.hid (BestH.one (ky := ky) hb HJ.out)
                          clear hb
                          go_wp2_with fail
                          go_quiet (fail)
                          go_wp2_with fail
                          go_roundw
                          case rel => exact ⟨j + 1, _, rfl, by rw [HC1.out]; go_num, by go_num, by omega, HB1, Lib.hid (HT.out.below (Below.drewN (Below.refl _ _) _))⟩
                          case measure => simp [RowKit.intOf]; omega
                        · have cs := HT.out.vk.c s (by omega)
                          have cj2 := HT.out.vk.c j hjn
                          have e4 : (s : Int) < (n : Int) := by omega
                          have e5 : ((s : Int) < 0) = False := by simp
                          have HB1 := Lib.hid (And.intro (BestH.less (ky := ky) hs3 HJ.out) (BestH.more hs1 hs2 hs3))
                          clear hs1 hs2 hs3
                          by_cases hl : ky j < ky s
                          · have HL := Lib.hid (HB1.out.1 hl)
                            clear HB1
                            generalize ky j = y1 at cj2 hl
                            generalize ky s = y2 at cs hl
                            go_wp2_with fail
                            go_quiet (fail)
                            go_wp2_with fail
                            go_roundw
                            case rel => exact ⟨j + 1, _, rfl, by rw [HC1.out]; go_num, by go_num, by omega, HL, Lib.hid (HT.out.below (Below.drewN (Below.refl _ _) _))⟩
                            case measure => simp [RowKit.intOf]; omega
                          · have HL := Lib.hid (HB1.out.2 hl)
                            clear HB1
                            generalize ky j = y1 at cj2 hl
                            generalize ky s = y2 at cs hl
                            go_wp2_with fail
                            go_quiet (fail)
                            go_wp2_with fail
                            go_roundw
                            case rel => exact ⟨j + 1, _, rfl, by rw [HC1.out]; go_num, by go_num, by omega, HL, Lib.hid (HT.out.below (Below.drewN (Below.refl _ _) _))⟩
                            case measure => simp [RowKit.intOf]; omega
                      · have hh : hs j = false := by simpa using hh
                        rw [hh] at cj
                        have HC1 := Lib.hid (cntH_no hs j hh)
                        have HB1 := Lib.hid (HBs.out.no hh)
                        clear hh
                        go_wp2_with fail
                        go_quiet (fail)
                        go_wp2_with fail
                        go_roundw
                        case rel => exact ⟨j + 1, _, rfl, by rw [HC1.out], by go_num, by omega, HB1, Lib.hid (HT.out.below (Below.drewN (Below.refl _ _) _))⟩
                        case measure => simp [RowKit.intOf]; omega
                    · obtain rfl : j = n := by omega
                      rcases HBs.out with ⟨rfl, hb⟩ | ⟨s, rfl, hs1, hs2, hs3⟩
                      · have HM := Lib.hid (HT.out.minNone hb)
                        clear hb HBs
                        go_wp2_with fail
                        refine HM.out.mono ?_
                        rintro e wm ⟨rfl, rfl⟩
                        have HS1 := Lib.hid (same_err 2 2 true rfl _ (HE.out.below HT.out.bel))
                        clear HM
                        go_wp2_with fail
                        refine HS1.out.mono ?_
                        rintro e wn ⟨rfl, hbn⟩
                        have HT2 := Lib.hid (HT.out.below hbn)
                        have HLn := Lib.hid HT2.out.len
                        clear hbn HS1
                        go_wp2_with fail
                        refine HLn.out.mono ?_
                        rintro e wo ⟨rfl, rfl⟩
                        clear HLn
                        go_wp2_with fail
                        go_roundw
                        case rel => exact ⟨k + 1, hs, ky, by go_num, HT2⟩
                        case measure => simp [RowKit.intOf]; omega
                      · have cs := HT.out.vk.c s hs1
                        have e4 : (s : Int) < (j : Int) := by omega
                        have e5 : ((s : Int) < 0) = False := by simp
                        have HM := Lib.hid (HT.out.min s hs1 hs2 hs3)
                        clear hs1 hs2 hs3 HBs
                        generalize ky s = y1 at cs HM
                        go_wp2_with fail
                        refine HM.out.mono ?_
                        rintro e wm ⟨rfl, htm⟩
                        have HTm := Lib.hid htm
                        clear htm HM cs
                        go_wp2_with fail
                        refine (same_nil 0 true rfl wm).mono ?_
                        rintro e wn ⟨rfl, rfl⟩
                        have HLn := Lib.hid HTm.out.len
                        go_wp2_with fail
                        refine HLn.out.mono ?_
                        rintro e wo ⟨rfl, rfl⟩
                        clear HLn
                        go_wp2_with fail
                        go_roundw
                        case rel => exact ⟨k + 1, hs, ky, by go_num, HTm⟩
                        case measure => simp [RowKit.intOf]; omega
              | false =>
                have HDl := Lib.hid (HTl.out.put a x ha)
                have cx := L2.out wl HTl.out.bel
                go_wp2_with fail
                refine HDl.out.mono ?_
                rintro e wm ⟨rfl, htm⟩
                have HTm := Lib.hid htm
                clear htm HTl HDl cd cx
                go_wp2_with fail
                refine (same_nil 0 true rfl wm).mono ?_
                rintro e wp ⟨rfl, rfl⟩
                have cg := HTm.out.vb.c a ha
                have fg := HTm.out.vb.f a
                have HTb := Lib.hid (HTm.out.setB a true)
                have cx := L2.out _ HTb.out.bel
                have cc := HTb.out.vk.c a ha
                have fc := HTb.out.vk.f a
                have HT := Lib.hid (HTb.out.setK a x)
                clear HTm HTb
                as_aux_lemma =>
                  go_wp2_with fail
                  go_loopw [24, 25, 26] (fun u v y wi => ∃ (j : Nat) (z : Int), u = .int .i64 z ∧ v = .int .i64 (cntH (setH hs a true) j) ∧ y = .int .i64 j ∧ j ≤ n ∧ Hid (BestH (setH hs a true) (putK ky a x) j z) ∧ Hid (Tl w wi q n g c (setH hs a true) (putK ky a x) (setH hs a true) (putK ky a x))) (fun _ _ y _ => n - (RowKit.intOf y).toNat)
                  case atStart => exact ⟨0, -1, rfl, rfl, rfl, Nat.zero_le _, Lib.hid (Or.inl ⟨rfl, fun b hb => by omega⟩), HT⟩
                  case round =>
                    clear HT
                    obtain ⟨j, zz, rfl, rfl, rfl, hj, HBs, HT⟩ := hrel
                    by_cases hjn : j < n
                    · have cj := HT.out.vb.c j hjn
                      have e3 : (j : Int) < (n : Int) := by omega
                      have hcl : cntH (setH hs a true) j ≤ 100 := by have := cntH_le (setH hs a true) j; omega
                      by_cases hh : (setH hs a true) j = true
                      · rw [hh] at cj
                        have HC1 := Lib.hid (cntH_yes (setH hs a true) j hh)
                        have HJ := Lib.hid hh
                        clear hh
                        rcases HBs.out with ⟨rfl, hb⟩ | ⟨s, rfl, hs1, hs2, hs3⟩
                        · have HB1 := Lib.hid (BestH.one (ky := (putK ky a x)) hb HJ.out)
                          clear hb
                          go_wp2_with fail
                          go_quiet (fail)
                          go_wp2_with fail
                          go_roundw
                          case rel => exact ⟨j + 1, _, rfl, by rw [HC1.out]; go_num, by go_num, by omega, HB1, Lib.hid (HT.out.below (Below.drewN (Below.refl _ _) _))⟩
                          case measure => simp [RowKit.intOf]; omega
                        · have cs := HT.out.vk.c s (by omega)
                          have cj2 := HT.out.vk.c j hjn
                          have e4 : (s : Int) < (n : Int) := by omega
                          have e5 : ((s : Int) < 0) = False := by simp
                          have HB1 := Lib.hid (And.intro (BestH.less (ky := (putK ky a x)) hs3 HJ.out) (BestH.more hs1 hs2 hs3))
                          clear hs1 hs2 hs3
                          by_cases hl : (putK ky a x) j < (putK ky a x) s
                          · have HL := Lib.hid (HB1.out.1 hl)
                            clear HB1
                            generalize (putK ky a x) j = y1 at cj2 hl
                            generalize (putK ky a x) s = y2 at cs hl
                            go_wp2_with fail
                            go_quiet (fail)
                            go_wp2_with fail
                            go_roundw
                            case rel => exact ⟨j + 1, _, rfl, by rw [HC1.out]; go_num, by go_num, by omega, HL, Lib.hid (HT.out.below (Below.drewN (Below.refl _ _) _))⟩
                            case measure => simp [RowKit.intOf]; omega
                          · have HL := Lib.hid (HB1.out.2 hl)
                            clear HB1
                            generalize (putK ky a x) j = y1 at cj2 hl
                            generalize (putK ky a x) s = y2 at cs hl
                            go_wp2_with fail
                            go_quiet (fail)
                            go_wp2_with fail
                            go_roundw
                            case rel => exact ⟨j + 1, _, rfl, by rw [HC1.out]; go_num, by go_num, by omega, HL, Lib.hid (HT.out.below (Below.drewN (Below.refl _ _) _))⟩
                            case measure => simp [RowKit.intOf]; omega
                      · have hh : (setH hs a true) j = false := by simpa using hh
                        rw [hh] at cj
                        have HC1 := Lib.hid (cntH_no (setH hs a true) j hh)
                        have HB1 := Lib.hid (HBs.out.no hh)
                        clear hh
                        go_wp2_with fail
                        go_quiet (fail)
                        go_wp2_with fail
                        go_roundw
                        case rel => exact ⟨j + 1, _, rfl, by rw [HC1.out], by go_num, by omega, HB1, Lib.hid (HT.out.below (Below.drewN (Below.refl _ _) _))⟩
                        case measure => simp [RowKit.intOf]; omega
                    · obtain rfl : j = n := by omega
                      rcases HBs.out with ⟨rfl, hb⟩ | ⟨s, rfl, hs1, hs2, hs3⟩
                      · have HM := Lib.hid (HT.out.minNone hb)
                        clear hb HBs
                        go_wp2_with fail
                        refine HM.out.mono ?_
                        rintro e wm ⟨rfl, rfl⟩
                        have HS1 := Lib.hid (same_err 2 2 true rfl _ (HE.out.below HT.out.bel))
                        clear HM
                        go_wp2_with fail
                        refine HS1.out.mono ?_
                        rintro e wn ⟨rfl, hbn⟩
                        have HT2 := Lib.hid (HT.out.below hbn)
                        have HLn := Lib.hid HT2.out.len
                        clear hbn HS1
                        go_wp2_with fail
                        refine HLn.out.mono ?_
                        rintro e wo ⟨rfl, rfl⟩
                        clear HLn
                        go_wp2_with fail
                        go_roundw
                        case rel => exact ⟨k + 1, (setH hs a true), (putK ky a x), by go_num, HT2⟩
                        case measure => simp [RowKit.intOf]; omega
                      · have cs := HT.out.vk.c s hs1
                        have e4 : (s : Int) < (j : Int) := by omega
                        have e5 : ((s : Int) < 0) = False := by simp
                        have HM := Lib.hid (HT.out.min s hs1 hs2 hs3)
                        clear hs1 hs2 hs3 HBs
                        generalize (putK ky a x) s = y1 at cs HM
                        go_wp2_with fail
                        refine HM.out.mono ?_
                        rintro e wm ⟨rfl, htm⟩
                        have HTm := Lib.hid htm
                        clear htm HM cs
                        go_wp2_with fail
                        refine (same_nil 0 true rfl wm).mono ?_
                        rintro e wn ⟨rfl, rfl⟩
                        have HLn := Lib.hid HTm.out.len
                        go_wp2_with fail
                        refine HLn.out.mono ?_
                        rintro e wo ⟨rfl, rfl⟩
                        clear HLn
                        go_wp2_with fail
                        go_roundw
                        case rel => exact ⟨k + 1, (setH hs a true), (putK ky a x), by go_num, HTm⟩
                        case measure => simp [RowKit.intOf]; omega
        · have K3 : ¬ (k : Int) < (n3 : Int) := by omega
          go_wp2_with fail
          go_ret
          exact ⟨rfl, HT.out.bel⟩
      · have K2 : ¬ (k : Int) < (n2 : Int) := by omega
        go_wp2_with fail
        go_ret
        exact ⟨rfl, HT.out.bel⟩
    · have K1 : ¬ (k : Int) < (n1 : Int) := by omega
      go_wp2_with fail
      go_ret
      exact ⟨rfl, HT.out.bel⟩

/-- At every size and every acts. -/
theorem heapTells_walk (w : World) (n : Int) (v1 v2 v3 : Value) (l1 l2 : List Int) (l3 : List Bool) (a1 : ArgI w v1 l1) (a2 : ArgI w v2 l2) (a3 : ArgBo w v3 l3) (hlen : l1.length * 8 ≤ 140737488355328) (hE : ErrType w) :
    Calls Tryd.prog 3 #[.int .i64 n, v1, v2, v3] w fun e w' => e = .returned (.bool true) ∧ Below w.heap.size w w' := by
  by_cases h : n < 0 ∨ 5000 < n
  · exact heapTells_far w n v1 v2 v3 h hE
  · obtain ⟨m, rfl⟩ := Int.eq_ofNat_of_zero_le (a := n) (by omega)
    by_cases h2 : m ≤ 100
    · exact heapTells_near w m v1 v2 v3 l1 l2 l3 a1 a2 a3 h2 hlen hE
    · exact heapTells_mid w m v1 v2 v3 (by omega) (by omega)
end Go.Proofs.YtmfajaalbklfeaaDoor
