/-
  spf.ups: the neighbors by whom one node is reached; what lay in memory stays.
-/
import Derived.Test.YtomfkmclgabcpaaDoorSpfChecked
namespace Go.Proofs.YtomfkmclgabcpaaDoor
open Go.RowKit Go.Lib

set_option maxHeartbeats 1000000 in
set_option maxRecDepth 100000 in
theorem ups_any (w : World) (bc n i fr fb : Nat) (C : MatP.T) (h8 : n ≤ 8) (hi : i < n) (hC : BellP.Cost C) (hbc : bc < w.heap.size) (hc : ∀ j, j < n → w.cell? ⟨bc, j, none⟩ = some (.int .i64 (C i j : Int))) (hv : Vec w fb n (fun j => (BellP.far n C fr j : Int))) :
    Calls Tryd.prog 42 #[.slice (some ⟨bc, 0, none⟩) n n, .int .i64 i, .slice (some ⟨fb, 0, none⟩) n n] w fun e w' => ∃ v, e = .returned v ∧ OwnI w' w.heap.size v (SpfP.ups n C fr i) ∧ Below w.heap.size w w' := by
  have HC := Lib.hid hc; have HV := Lib.hid hv; have HK := Lib.hid hC
  have HD := Lib.hid (BellP.far_bd n C fr)
  have ci := hv.c i hi
  have hUn : Hid (¬ BellP.far n C fr i < 16 → SpfP.ups n C fr i = []) := Lib.hid fun h => SpfP.ups_none h n
  have hUp : Hid (∀ j, SpfP.isUp n C fr i j = decide (j ≠ i ∧ BellP.far n C fr i < 16 ∧ DistP.add (BellP.far n C fr j) (C i j) = BellP.far n C fr i)) := Lib.hid fun j => rfl
  clear hc hC hv
  generalize hdi : BellP.far n C fr i = di at ci hUn hUp
  have hd16 : di ≤ 16 := by rw [← hdi]; exact HD.out i
  have HDI := Lib.hid hdi
  clear hdi
  go_enter Tryd.func42, Tryd.ntmps42
  by_cases hd : di = 16
  · subst hd
    go_wp2_with fail
    go_ret
    exact ⟨_, rfl, by rw [hUn.out (by omega)]; exact OwnI.nil _ _, Below.refl _ _⟩
  · have t0 : ((di : Int) == 16) = false := by
      have : ¬ (di : Int) = 16 := by omega
      simpa using this
    go_wp2_with fail
    go_loopw [7, 19] (fun u v wr => ∃ (k : Nat), v = .int .i64 k ∧ k ≤ n ∧ Hid (Below w.heap.size w wr) ∧ Hid (OwnI wr w.heap.size u (SpfP.upsTo n C fr i k))) (fun _ v _ => n - (RowKit.intOf v).toNat)
    case atStart => exact ⟨0, rfl, Nat.zero_le _, Lib.hid (Below.refl _ _), Lib.hid (OwnI.nil _ _)⟩
    case round =>
      obtain ⟨k, rfl, hk, hB, HO⟩ := hrel
      clear ci
      by_cases hkn : k < n
      · have c0 := (hB.out.cell (p := ⟨bc, k, none⟩) hbc).trans (HC.out k hkn)
        have V := HV.out.below hB.out HV.out.lt
        have c1 := V.c k hkn
        have HA := Lib.hid (add_yes (BellP.far n C fr k) (C i k) (HD.out k) (HK.out.bd i k))
        have hIs := hUp.out k
        generalize BellP.far n C fr k = x at c1 HA hIs
        generalize C i k = y at c0 HA hIs
        generalize DistP.add x y = z at HA hIs
        have HIs := Lib.hid hIs
        clear V hIs
        go_wp2_with fail
        refine (HA.out _).mono ?_
        rintro e w1 ⟨rfl, hb1⟩
        have HB1 := Lib.hid (Below.two hB.out hb1)
        have HO1 := Lib.hid (HO.out.keep hb1)
        have ci := (HV.out.below HB1.out HV.out.lt).c i hi
        rw [HDI.out] at ci
        clear hb1 c0 c1 HA HO
        by_cases hki : k = i
        · subst hki
          have HN : Hid (SpfP.upsTo n C fr k (k + 1) = SpfP.upsTo n C fr k k) := Lib.hid (by rw [SpfP.upsTo, if_neg (by rw [HIs.out]; simp)])
          go_wp2_with fail
          go_roundw
          case rel => exact ⟨k + 1, by go_num, by omega, HB1, Lib.hid (HN.out ▸ HO1.out)⟩
          case measure => simp [RowKit.intOf]; omega
        · have t1 : ((k : Int) != (i : Int)) = true := by
            have : ¬ (k : Int) = i := by omega
            simpa using this
          by_cases hz : z = di
          · have HN : Hid (SpfP.upsTo n C fr i (k + 1) = SpfP.upsTo n C fr i k ++ [(k : Int)]) := Lib.hid (by rw [SpfP.upsTo, if_pos (by rw [HIs.out]; simp only [decide_eq_true_iff]; exact ⟨hki, by omega, hz⟩)])
            have hlen := SpfP.upsTo_len n C fr i k
            subst hz
            have HK1 := Lib.hid (HO1.out.keep ((Below.refl w1.heap.size w1).alloc (Nat.le_refl _) (.cells #[.int .i64 k] 3)))
            go_wp2_with (at_builtin; refine wpl_append_oneI rfl _ _ rfl w.heap.size _ (SpfP.upsTo n C fr i k) (k : Int) w1.heap.size 1 rfl rfl HK1.out (by simp) (by omega) (Nat.le_trans HB1.out.size (by simp)) ?_; intro v' w3 hO3 hg3 _)
            go_roundw
            case rel => exact ⟨k + 1, by go_num, by omega, Lib.hid ((HB1.out.alloc HB1.out.size _).grown hg3 (Nat.le_trans HB1.out.size (by simp)) HO1.out.past), Lib.hid (HN.out ▸ hO3)⟩
            case measure => simp [RowKit.intOf]; omega
          · have HN : Hid (SpfP.upsTo n C fr i (k + 1) = SpfP.upsTo n C fr i k) := Lib.hid (by rw [SpfP.upsTo, if_neg (by rw [HIs.out]; simp only [decide_eq_true_iff]; exact fun h => hz h.2.2)])
            have t2 : ((z : Int) == (di : Int)) = false := by
              have : ¬ (z : Int) = di := by omega
              simpa using this
            go_wp2_with fail
            go_roundw
            case rel => exact ⟨k + 1, by go_num, by omega, HB1, Lib.hid (HN.out ▸ HO1.out)⟩
            case measure => simp [RowKit.intOf]; omega
      · obtain rfl : k = n := by omega
        go_wp2_with fail
        go_ret
        exact ⟨_, rfl, HO.out, hB.out⟩
end Go.Proofs.YtomfkmclgabcpaaDoor
