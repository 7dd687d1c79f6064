/-
  bell.estimate and bell.round on rows of costs; what lay in memory stays.
-/
import Derived.Test.YtjgmehmhhplkaaaBellPlain
import Derived.Test.YtjgmehmhhplkaaaVec
import Derived.Test.YtjgmehmhhplkaaaDist
namespace Go.Proofs.Ytjgmehmhhplkaaa
open Go.RowKit Go.Lib

set_option maxHeartbeats 1000000 in
set_option maxRecDepth 100000 in
/-- bell.estimate. -/
theorem estimate_any (w : World) (bc oc cc bd od cd n i : Nat) (C : MatP.T) (d : Nat → Nat) (h8 : n ≤ 8) (hC : MatP.Bd C) (hd : ∀ j, d j ≤ 16) (hbc : bc < w.heap.size) (hbd : bd < w.heap.size) (hc : ∀ j, j < n → w.cell? ⟨bc, oc + j, none⟩ = some (.int .i64 (C i j : Int))) (hv : ∀ j, j < n → w.cell? ⟨bd, od + j, none⟩ = some (.int .i64 (d j : Int))) :
    Calls Try.prog 38 #[.slice (some ⟨bc, oc, none⟩) n cc, .int .i64 i, .slice (some ⟨bd, od, none⟩) n cd] w fun e w' => e = .returned (.int .i64 (BellP.est C i d n : Int)) ∧ Below w.heap.size w w' := by
  have HC := Lib.hid hc; have HV := Lib.hid hv; have HK := Lib.hid hC; have HD := Lib.hid hd
  clear hc hv hC hd
  go_enter Try.func38, Try.ntmps38
  go_wp2_with fail
  go_loopw [7, 14] (fun u v wr => ∃ (k : Nat), v = .int .i64 k ∧ k ≤ n ∧ u = .int .i64 (BellP.est C i d k : Int) ∧ Hid (Below w.heap.size w wr)) (fun _ v _ => n - (RowKit.intOf v).toNat)
  case atStart => exact ⟨0, rfl, Nat.zero_le _, rfl, Lib.hid (Below.refl _ _)⟩
  case round =>
    obtain ⟨k, rfl, hk, rfl, HB⟩ := hrel
    by_cases hkn : k < n
    · have a0 := (HB.out.cell (p := ⟨bc, oc + k, none⟩) hbc).trans (HC.out k hkn)
      by_cases hki : k = i
      · subst hki
        have HE := Lib.hid (BellP.est_own C k d)
        go_wp2_with fail
        go_roundw
        case rel => exact ⟨k + 1, by go_num, by omega, by rw [HE.out], HB⟩
        case measure => simp [RowKit.intOf]; omega
      · have a1 := (HB.out.cell (p := ⟨bd, od + k, none⟩) hbd).trans (HV.out k hkn)
        have HA := Lib.hid (add_yes (C i k) (d k) (HK.out i k) (HD.out k))
        have t : ((k : Int) != (i : Int)) = true := by
          have : ¬ (k : Int) = i := by omega
          simpa using this
        have HE := Lib.hid (BellP.est_other C i d k hki)
        generalize C i k = x at a0 HA HE
        generalize d k = y at a1 HA HE
        generalize DistP.add x y = s at HA HE
        have HL := Lib.hid (DistP.least_min (BellP.est C i d k) s)
        generalize hz : BellP.est C i d k = z at HE HL
        clear hz
        go_wp2_with fail
        refine (HA.out _).mono ?_
        rintro e w1 ⟨rfl, hb1⟩
        have HB1 := Lib.hid (Below.two HB.out hb1)
        clear hb1
        go_wp2_with fail
        go_roundw
        case rel => exact ⟨k + 1, by go_num, by omega, by rw [HE.out, ← HL.out], HB1⟩
        case measure => simp [RowKit.intOf]; omega
    · obtain rfl : k = n := by omega
      go_wp2_with fail
      go_ret
      exact ⟨rfl, HB.out⟩

set_option maxHeartbeats 1000000 in
set_option maxRecDepth 100000 in
/-- bell.round. -/
theorem round_any (w : World) (g n t bd od cd : Nat) (C : MatP.T) (d : Nat → Nat) (h8 : n ≤ 8) (hC : MatP.Bd C) (hd : ∀ j, d j ≤ 16) (hG : Grid w g n n (fun i j => (C i j : Int))) (hbd : bd < w.heap.size) (hv : ∀ j, j < n → w.cell? ⟨bd, od + j, none⟩ = some (.int .i64 (d j : Int))) :
    Calls Try.prog 20 #[.slice (some ⟨g, 0, none⟩) n n, .int .i64 t, .slice (some ⟨bd, od, none⟩) n cd] w fun e w' => ∃ q, w.heap.size ≤ q ∧ e = .returned (.slice (some ⟨q, 0, none⟩) n n) ∧ Vec w' q n (fun i => (BellP.rd n C t d i : Int)) ∧ Below w.heap.size w w' := by
  have hm := run_make_row' (P := Try.prog) 24 3 _ 8 Try.underlying24 info_int rfl .i64 .i64 n (by omega) (by omega)
  have HG := Lib.hid hG; have HV := Lib.hid hv; have HK := Lib.hid hC; have HD := Lib.hid hd
  have HB0 := Lib.hid ((Below.refl w.heap.size w).alloc (Nat.le_refl _) (.cells (madeCells #[.int .i64 0] n) 3))
  have HV0 := Lib.hid (Vec.made w n 3)
  clear hG hv hC hd
  go_enter Try.func20, Try.ntmps20
  go_wp2_with fail
  go_loopw [15] (fun v wr => ∃ (k : Nat), v = .int .i64 k ∧ k ≤ n ∧ Hid (Below w.heap.size w wr) ∧ Hid (Vec wr w.heap.size n (fun i => if i < k then (BellP.rd n C t d i : Int) else 0))) (fun v _ => n - (RowKit.intOf v).toNat)
  case atStart => exact ⟨0, rfl, Nat.zero_le _, HB0, Lib.hid (HV0.out.congr fun i _ => (if_neg (by omega)).symm)⟩
  case round =>
    clear HB0 HV0 hm
    obtain ⟨k, rfl, hk, HB, HV1⟩ := hrel
    by_cases hkn : k < n
    · have G := HG.out.below HB.out HG.out.lt
      have a0 := G.o k hkn
      clear G
      by_cases hkt : k = t
      · subst hkt
        have HV2 : Hid (Vec wr w.heap.size n (fun i => if i < k + 1 then (BellP.rd n C k d i : Int) else 0)) := Lib.hid (HV1.out.congr fun i _ => by
          by_cases e : i < k
          · rw [if_pos e, if_pos (by omega)]
          · rw [if_neg e]
            by_cases e2 : i = k
            · subst e2
              rw [if_pos (by omega)]
              unfold BellP.rd; rw [if_pos rfl]; rfl
            · rw [if_neg (by omega)])
        go_wp2_with fail
        go_roundw
        case rel => exact ⟨k + 1, by go_num, by omega, HB, HV2⟩
        case measure => simp [RowKit.intOf]; omega
      · have t1 : ((k : Int) != (t : Int)) = true := by
          have : ¬ (k : Int) = t := by omega
          simpa using this
        have HE := Lib.hid (estimate_any wr (g + 1 + k) 0 n bd od cd n k C d h8 HK.out HD.out (by have := HG.out.lt; have := HB.out.size; omega) (Nat.lt_of_lt_of_le hbd HB.out.size) (fun j hj => by rw [Nat.zero_add]; exact (HG.out.below HB.out HG.out.lt).e k hkn j hj) (fun j hj => (HB.out.cell (p := ⟨bd, od + j, none⟩) hbd).trans (HV.out j hj)))
        have HR : Hid ((BellP.est C k d n : Int) = (BellP.rd n C t d k : Int)) := Lib.hid (by unfold BellP.rd; rw [if_neg hkt])
        generalize BellP.est C k d n = z at HE HR
        go_wp2_with fail
        refine HE.out.mono ?_
        rintro e w1 ⟨rfl, hb1⟩
        have V := HV1.out.keep hb1
        have HB1 := Lib.hid (Below.two HB.out hb1)
        have c0 := V.c k hkn
        have f0 := V.f k
        have HV2 := Lib.hid V
        clear V hb1
        generalize (if k < k then (BellP.rd n C t d k : Int) else 0) = y at c0
        go_wp2_with fail
        go_roundw
        case rel =>
          refine ⟨k + 1, by go_num, by omega, Lib.hid (HB1.out.setCell (p := ⟨w.heap.size, k, none⟩) (Nat.le_refl _) _), Lib.hid ((HV2.out.set k z).congr fun i _ => ?_)⟩
          by_cases e : i = k
          · rw [if_pos e, if_pos (by omega), e]; exact HR.out
          · rw [if_neg e]
            by_cases e2 : i < k
            · rw [if_pos e2, if_pos (by omega)]
            · rw [if_neg e2, if_neg (by omega)]
        case measure => simp [RowKit.intOf]; omega
    · obtain rfl : k = n := by omega
      go_wp2_with fail
      go_ret
      exact ⟨w.heap.size, Nat.le_refl _, rfl, HV1.out.congr fun i hi => if_pos hi, HB.out⟩
end Go.Proofs.Ytjgmehmhhplkaaa
