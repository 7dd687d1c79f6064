/-
  ways.First at every number of nodes, links and two numbers: a list of the call's own; what lay in memory stays.
-/
import Derived.Test.YtomfkmclgabcpaaDoorWaysCount
import Derived.LoopN
namespace Go.Proofs.YtomfkmclgabcpaaDoor
open Go.RowKit Go.Lib

set_option maxHeartbeats 400000 in
set_option maxRecDepth 100000 in
/-- ways.First at what is wrong. -/
theorem first_bad (w : World) (n a b : Int) (v : Value) (l : List Lk) (hn : l.length < 4611686018427387904) (h : ArgK w v l) (hg : wayBad n l a b ≠ 0) :
    Calls Tryd.prog 13 #[.int .i64 n, v, .int .i64 a, .int .i64 b] w fun e w' => e = .returned (.tuple #[.slice none 0 0, errV (wayBad n l a b)]) ∧ Below w.heap.size w w' := by
  have HC := Lib.hid (onward_bad w n a b v l hn h hg)
  rw [show errV (wayBad n l a b) = .iface 25 (.int .i64 (wayBad n l a b)) from if_neg hg] at HC ⊢
  clear h
  generalize wayBad n l a b = q at HC hg
  go_enter Tryd.func13, Tryd.ntmps13
  go_wp2_with fail
  refine HC.out.mono ?_
  rintro e w1 ⟨rfl, hb1⟩
  go_wp2_with fail
  go_ret2
  exact ⟨rfl, hb1⟩
set_option maxHeartbeats 1000000 in
set_option maxRecDepth 100000 in
/-- ways.First where there is none. -/
theorem first_none (w : World) (m s t : Nat) (v : Value) (l : List Lk) (hn : l.length < 4611686018427387904) (h : ArgK w v l) (hg : gBad m l = 0) (hs : s < m) (ht : t < m) (hne : s ≠ t) (h16 : ¬ BellP.far m (BellP.ct l) t s < 16) :
    Calls Tryd.prog 13 #[.int .i64 m, v, .int .i64 s, .int .i64 t] w fun e w' => e = .returned (.tuple #[.slice none 0 0, .iface 25 (.int .i64 2)]) ∧ Below w.heap.size w w' := by
  have HC := Lib.hid (onward_ok w m s t v l hn h hg hs ht)
  have HU : Hid (SpfP.ups m (BellP.ct l) t s = []) := Lib.hid (SpfP.ups_none h16 m)
  have t0 : ((s : Int) != (t : Int)) = true := by
    have : ¬ (s : Int) = t := by omega
    simpa using this
  clear h hg h16 hne
  go_enter Tryd.func13, Tryd.ntmps13
  go_wp2_with fail
  refine HC.out.mono ?_
  rintro e w1 ⟨u, vs, rfl, hG, hb1⟩
  have c0 := hG.c s hs
  obtain ⟨p, c, hv, _⟩ := (hG.o s hs).arg
  rw [hv, HU.out] at c0
  have HB := Lib.hid hb1
  clear hG hb1 hv
  go_wp2_with fail
  go_ret2
  exact ⟨rfl, HB.out⟩
set_option maxHeartbeats 2000000 in
set_option maxRecDepth 100000 in
/-- ways.First where there is one. -/
theorem first_ok (w : World) (m s t : Nat) (v : Value) (l : List Lk) (hn : l.length < 4611686018427387904) (h : ArgK w v l) (hg : gBad m l = 0) (hs : s < m) (ht : t < m) (h16 : BellP.far m (BellP.ct l) t s < 16) :
    Calls Tryd.prog 13 #[.int .i64 m, v, .int .i64 s, .int .i64 t] w fun e w' => ∃ p, e = .returned (.tuple #[p, .nilIface]) ∧ OwnI w' w.heap.size p (WaysP.zs (WaysP.fst m (BellP.ct l) t s)) ∧ Below w.heap.size w w' := by
  have HC := Lib.hid (onward_ok w m s t v l hn h hg hs ht)
  have HR := Lib.hid (BellP.ct_cost ((gBad_zero m l).1 hg).2)
  have HF := Lib.hid h16
  clear h hg h16
  go_enter Tryd.func13, Tryd.ntmps13
  go_wp2_with fail
  refine HC.out.mono ?_
  rintro e w1 ⟨u, vs, rfl, hG, hb1⟩
  have HB := Lib.hid hb1
  have HL := Lib.hid hG
  clear hG hb1
  by_cases hst : s = t
  · subst hst
    have HO := Lib.hid (OwnI.one w1 w.heap.size s HB.out.size)
    have HB2 := Lib.hid (HB.out.alloc HB.out.size (.cells #[.int .i64 s] 3))
    go_wp2_with fail
    refine wp_loop_rounds 1 ?_
    rw [rounds_succ]
    go_wp2_with fail
    go_ret2
    exact ⟨_, rfl, by rw [WaysP.fst_own HR.out ht]; exact HO.out, HB2.out⟩
  · have c0 := HL.out.c s hs
    obtain ⟨p0, ce0, hv0, _⟩ := (HL.out.o s hs).arg
    rw [hv0] at c0
    have h0 : ¬ ((SpfP.ups m (BellP.ct l) t s).length : Int) = 0 := by
      have := (SpfP.ups_some HR.out ht s hs).2 ⟨hst, HF.out⟩
      have := List.length_pos_iff.2 this
      omega
    have t0 : ((s : Int) != (t : Int)) = true := by
      have : ¬ (s : Int) = t := by omega
      simpa using this
    have t1 : (((SpfP.ups m (BellP.ct l) t s).length : Int) == 0) = false := by simpa using h0
    have HO := Lib.hid (OwnI.one w1 w1.heap.size s (Nat.le_refl _))
    have HB1 := Lib.hid ((Below.refl w1.heap.size w1).alloc (Nat.le_refl _) (.cells #[.int .i64 s] 3))
    have HSh := Lib.hid ((WaysP.fst_wk HR.out hs ht HF.out).short HR.out)
    clear hv0 h0
    generalize (SpfP.ups m (BellP.ct l) t s).length = q at c0 t1
    go_wp2_with fail
    clear c0 t0 t1
    go_loopw [12, 13] (fun y x wr => ∃ (a : Nat) (pre : List Nat), x = .int .i64 a ∧ a < m ∧ Hid (BellP.far m (BellP.ct l) t a < 16) ∧ Hid (OwnI wr w1.heap.size y (WaysP.zs (pre ++ [a]))) ∧ Hid (WaysP.fst m (BellP.ct l) t s = pre ++ WaysP.fst m (BellP.ct l) t a) ∧ Hid (Below w1.heap.size w1 wr)) (fun _ x _ => BellP.far m (BellP.ct l) t (RowKit.intOf x).toNat)
    case atStart => exact ⟨s, [], rfl, hs, HF, HO, Lib.hid rfl, HB1⟩
    case round =>
      obtain ⟨a, pre, rfl, ha, HFa, HOa, HE, HBr⟩ := hrel
      by_cases hat : a = t
      · subst hat
        have E : Hid (WaysP.zs (WaysP.fst m (BellP.ct l) a s) = WaysP.zs (pre ++ [a])) := Lib.hid (by rw [HE.out, WaysP.fst_own HR.out ha])
        go_wp2_with fail
        go_ret2
        exact ⟨_, rfl, by rw [E.out]; exact HOa.out.down HB.out.size, Below.two HB.out HBr.out⟩
      · obtain ⟨j, r, hu, hj, hja, hsum, hfst⟩ := WaysP.fst_step HR.out ht ha hat HFa.out
        have hc := HR.out.off a j (Ne.symm hja)
        have HLr := HL.out.keep HBr.out
        have a0 := HLr.c a ha
        obtain ⟨p1, ce1, hv1, hp1⟩ := (HLr.o a ha).arg
        rw [hv1, hu] at a0
        rw [hu] at hp1
        rcases hp1 with e | ⟨b1, o1, rfl, hb1, hs1⟩
        · cases e
        · have a1 : wr.cell? ⟨b1, o1, none⟩ = some (.int .i64 j) := hs1 0 (by simp)
          have t0 : ((a : Int) != (t : Int)) = true := by
            have : ¬ (a : Int) = t := by omega
            simpa using this
          have HM := Lib.hid (show BellP.far m (BellP.ct l) t j < BellP.far m (BellP.ct l) t a by omega)
          have HE2 : Hid (WaysP.fst m (BellP.ct l) t s = (pre ++ [a]) ++ WaysP.fst m (BellP.ct l) t j) := Lib.hid (by rw [HE.out, hfst]; simp)
          have hlen : pre.length + 1 ≤ 17 := by
            have h1 := HSh.out
            have h2 := HF.out
            have h3 := congrArg List.length HE2.out
            simp at h3
            omega
          have hzl : (WaysP.zs (pre ++ [a])).length = pre.length + 1 := by rw [WaysP.zs_len]; simp
          have HK1 := Lib.hid (HOa.out.keep ((Below.refl wr.heap.size wr).alloc (Nat.le_refl _) (.cells #[.int .i64 j] 3)))
          have HPa := Lib.hid HOa.out.past
          simp only [List.length_cons] at a0
          have hr1 : 0 < (r.length : Int) + 1 := by omega
          clear HLr hv1 hs1 hu hsum hfst hc HE HOa
          go_wp2_with (at_builtin; refine wpl_append_oneI rfl _ _ rfl w1.heap.size _ (WaysP.zs (pre ++ [a])) (j : Int) wr.heap.size 1 rfl rfl HK1.out (by simp) (by rw [hzl]; omega) (Nat.le_trans HBr.out.size (by simp)) ?_; intro v' w3 hO3 hg3 _)
          go_roundw
          case rel => exact ⟨j, pre ++ [a], rfl, hj, Lib.hid (by have := HM.out; have := HFa.out; omega), Lib.hid (by rw [WaysP.zs_app (pre ++ [a])]; exact hO3), HE2, Lib.hid ((HBr.out.alloc HBr.out.size _).grown hg3 (Nat.le_trans HBr.out.size (by simp)) HPa.out)⟩
          case measure => simpa [RowKit.intOf] using HM.out
end Go.Proofs.YtomfkmclgabcpaaDoor
