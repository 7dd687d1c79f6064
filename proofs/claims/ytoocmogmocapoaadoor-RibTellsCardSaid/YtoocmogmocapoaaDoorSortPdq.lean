/-
  sort.pdqsort_func over a row, whatever the comparison lays: the row holds what the plain sort makes of it.
-/
import Derived.Test.YtoocmogmocapoaaDoorSortIns
import Derived.Test.YtoocmogmocapoaaDoorSortHeap2
import Derived.Test.YtoocmogmocapoaaDoorSortPivot
import Derived.Test.YtoocmogmocapoaaDoorSortPartEq
import Derived.Test.YtoocmogmocapoaaDoorSortPart
import Derived.Test.YtoocmogmocapoaaDoorSortPartial
import Derived.Test.YtoocmogmocapoaaDoorSortBreak
namespace Go.Proofs.YtoocmogmocapoaaDoor
open Go.RowKit
variable {E : Type} [Inhabited E]

set_option maxHeartbeats 8000000 in
set_option maxRecDepth 1000000 in
theorem pdq_any [Elt E] {g sf : Nat} {lb sb : Array Value} {blk size : Nat} {w0 : World} (S : Srt E g sf lb sb blk size w0) : ∀ (N : Nat) (W : World) (d : Array E) (a b limit : Nat), b - a < N → Keeps w0 blk W → Row W blk d → d.size = size → a ≤ b → b ≤ size → limit ≤ 64 → Go.Sort.Below Elt.lt a b d →
    Calls Tryd.prog 42 #[.agg #[.func (.func g) #[] lb, .func (.func sf) #[] sb], .int .i64 a, .int .i64 b, .int .i64 limit] W fun e w' => e = .returned (.tuple #[]) ∧ Keeps W blk w' ∧ Row w' blk (Go.Sort.pdq Elt.lt d a b limit true true) := by
  have eg := S.enter
  have few := S.few
  have HS := Lib.hid S
  clear S
  intro N
  induction N with
  | zero => intro _ _ _ _ _ h; exact absurd h (Nat.not_lt_zero _)
  | succ N ih =>
    intro W d a b limit hN hk hr hd hab hb hlim hBel
    have O := Lib.hid (On.start HS.out hk hr hd 91)
    have IH := Lib.hid ih
    have HBel := Lib.hid hBel
    clear ih hk hr hBel
    generalize hR : Go.Sort.pdq Elt.lt d a b limit true true = R
    have HR := Lib.hid hR; clear hR
    go_enter Tryd.func42, Tryd.ntmps42
    go_wp2_with fail
    go_loopw [1, 2, 3, 8, 9] (fun s1 s2 s3 s8 s9 wr => ∃ (a' b' lim : Nat) (wb wp : Bool) (dk : Array E), s1 = .int .i64 a' ∧ s2 = .int .i64 b' ∧ s3 = .int .i64 lim ∧ s8 = .bool wb ∧ s9 = .bool wp ∧ a' ≤ b' ∧ b' ≤ size ∧ b' - a' ≤ b - a ∧ lim ≤ 64 ∧ Hid (Go.Sort.Below Elt.lt a' b' dk) ∧ Hid (On g sf lb sb blk size w0 W dk wr) ∧ Hid (Go.Sort.pdq Elt.lt dk a' b' lim wb wp = R)) (fun s1 s2 _ _ _ _ => (intOf s2 - intOf s1).toNat)
    case atStart => exact ⟨a, b, limit, true, true, d, rfl, rfl, rfl, rfl, rfl, hab, hb, Nat.le_refl _, hlim, HBel, O, HR⟩
    case round =>
      clear O HBel
      obtain ⟨a', b', lim, wb, wp, dk, rfl, rfl, rfl, rfl, rfl, hab', hb', hle, hlm, HBel, O, HE⟩ := hrel
      by_cases h12 : b' - a' ≤ 12
      · have t : (b' : Int) - a' ≤ 12 := by omega
        have hc := insSort_any HS.out wr dk a' b' O.out.base O.out.row O.out.dsz hab' hb'
        have c0 := O.out.c0
        have c1 := O.out.c1
        go_wp2_with fail
        refine hc.mono ?_
        rintro e w1 ⟨rfl, K1, R1⟩
        go_wp2_with fail
        first | go_end0 | ((try simp only [Exit.inBlock, Exit.then]); refine bodyPost_ret (results_none rfl _ _ _) rfl ?_)
        exact ⟨rfl, O.out.own.trans K1, by rw [← HE.out, Go.Sort.pdq_small h12]; exact R1⟩
      · have t : ¬ (b' : Int) - a' ≤ 12 := by omega
        by_cases hl0 : lim = 0
        · subst hl0
          have hc := heap_any HS.out wr dk a' b' O.out.base O.out.row O.out.dsz (by omega) hb'
          have c0 := O.out.c0
          have c1 := O.out.c1
          go_wp2_with fail
          refine hc.mono ?_
          rintro e w1 ⟨rfl, K1, R1⟩
          go_wp2_with fail
          first | go_end0 | ((try simp only [Exit.inBlock, Exit.then]); refine bodyPost_ret (results_none rfl _ _ _) rfl ?_)
          exact ⟨rfl, O.out.own.trans K1, by rw [← HE.out, Go.Sort.pdq_heap h12 rfl]; exact R1⟩
        · have tl : ((lim : Int) == 0) = false := by
            have : ¬ (lim : Int) = 0 := by omega
            simpa using this
          have F := Go.Sort.rd_facts (lt := Elt.lt) (limit := lim) (wb := wb) (wp := wp) Elt.swo Go.Sort.partialInsertionSort_holds Go.Sort.reverseRange_holds (show a' < b' by omega) (show b' ≤ dk.size by rw [O.out.dsz]; exact hb') HBel.out
          obtain ⟨s1, _, hc1, s2, _, hpv, s3, B3⟩ := F
          have HB3 := Lib.hid B3; clear B3
          have hll := Go.Sort.rd_lim_le (lt := Elt.lt) (d := dk) (a := a') (b := b') (limit := lim) (wb := wb) (wp := wp)
          rw [O.out.dsz] at s1 s2 s3
          go_upto_if 35 with fail
          go_cut [3] from 19 to 129 (fun s3 wc => s3 = .int .i64 (Go.Sort.rd Elt.lt dk a' b' lim wb wp).lim ∧ Hid (On g sf lb sb blk size w0 W (Go.Sort.rd Elt.lt dk a' b' lim wb wp).d1 wc))
          case first =>
            cases wb
            · have hc := break_any HS.out wr dk a' b' O.out.base O.out.row O.out.dsz (by omega) hb'
              have c0 := O.out.c0
              have c1 := O.out.c1
              go_wp2_with fail
              refine hc.mono ?_
              rintro e w1 ⟨rfl, K1, R1⟩
              have O1 := O.out.call R1 K1 s1
              clear c0 c1
              go_wp2_with fail
              go_meet
              case rel => exact ⟨by show Value.int .i64 ((lim : Int) - 1) = Value.int .i64 ((lim - 1 : Nat) : Int); congr 1; omega, Lib.hid O1⟩
            · go_wp2_with fail
              go_meet
              case rel => exact ⟨rfl, O⟩
          case rest =>
            clear O
            obtain ⟨rfl, O⟩ := hcut
            have hc := pivot_any HS.out wc (Go.Sort.rd Elt.lt dk a' b' lim wb wp).d1 s1 a' b' O.out.base O.out.row (by omega) hb'
            rw [← Go.Sort.rd_c] at hc
            have c0 := O.out.c0
            have c1 := O.out.c1
            go_upto_if 50 with fail
            refine hc.mono ?_
            rintro e w2 ⟨rfl, hb2⟩
            have O2 := Lib.hid (O.out.below HS.out hb2)
            clear c0 c1 O hc
            go_upto_if 50 with fail
            go_cut [11, 12] from 19 to 129 (fun s11 s12 wc => s11 = .int .i64 (Go.Sort.rd Elt.lt dk a' b' lim wb wp).pivot ∧ s12 = .int .i64 (Go.Sort.hintCode (Go.Sort.rd Elt.lt dk a' b' lim wb wp).hint) ∧ Hid (On g sf lb sb blk size w0 W (Go.Sort.rd Elt.lt dk a' b' lim wb wp).d2 wc))
            case first =>
              by_cases hh : (Go.Sort.rd Elt.lt dk a' b' lim wb wp).c.2 = .decreasing
              · have hcode : Go.Sort.hintCode (Go.Sort.rd Elt.lt dk a' b' lim wb wp).c.2 = 2 := by rw [hh]; rfl
                obtain ⟨e2, epv, eht⟩ := Go.Sort.rd_dec hh
                have hc := reverse_any HS.out w2 (Go.Sort.rd Elt.lt dk a' b' lim wb wp).d1 a' b' O2.out.base O2.out.row s1 (by omega) hb'
                have c0 := O2.out.c0
                have c1 := O2.out.c1
                go_wp2_with fail
                refine hc.mono ?_
                rintro e w3 ⟨rfl, K3, R3⟩
                have O3 := O2.out.call R3 K3 (by rw [← e2]; exact s2)
                clear c0 c1
                go_wp2_with fail
                go_meet
                case rel =>
                  refine ⟨?_, by rw [eht]; rfl, Lib.hid (by rw [e2]; exact O3)⟩
                  rw [epv]
                  congr 1
                  omega
              · have hcode : (Go.Sort.hintCode (Go.Sort.rd Elt.lt dk a' b' lim wb wp).c.2 == 2) = false := by
                  cases hq : (Go.Sort.rd Elt.lt dk a' b' lim wb wp).c.2
                  · rfl
                  · rfl
                  · exact absurd hq hh
                obtain ⟨e2, epv, eht⟩ := Go.Sort.rd_not hh
                go_wp2_with fail
                go_meet
                case rel => exact ⟨by rw [epv], by rw [eht], Lib.hid (by rw [e2]; exact O2.out)⟩
            case rest =>
              clear O2
              obtain ⟨rfl, rfl, O⟩ := hcut
              go_upto_region 16 with fail
              go_cut [12, 68] from 19 to 129 (fun s12 s68 wx => s12 = .int .i64 (Go.Sort.hintCode (Go.Sort.rd Elt.lt dk a' b' lim wb wp).hint) ∧ s68 = .bool (wb && wp && decide ((Go.Sort.rd Elt.lt dk a' b' lim wb wp).hint = .increasing)) ∧ Hid (On g sf lb sb blk size w0 W (Go.Sort.rd Elt.lt dk a' b' lim wb wp).d2 wx))
              case first =>
                have hcd : ∀ h : Go.Sort.Hint, (Go.Sort.hintCode h == 1) = decide (h = .increasing) := by intro h; cases h <;> rfl
                have hce := hcd (Go.Sort.rd Elt.lt dk a' b' lim wb wp).hint
                clear hcd
                cases wb
                · go_wp2_with fail
                  go_meet
                  case rel => exact ⟨rfl, by simp, O⟩
                · cases wp
                  · go_wp2_with fail
                    go_meet
                    case rel => exact ⟨rfl, by simp, O⟩
                  · generalize hz : decide ((Go.Sort.rd Elt.lt dk a' b' lim true true).hint = .increasing) = z at hce ⊢
                    cases z
                    · go_wp2_with fail
                      go_meet
                      case rel => exact ⟨rfl, by rw [hz]; rfl, O⟩
                    · go_wp2_with fail
                      go_meet
                      case rel => exact ⟨rfl, by rw [hz]; rfl, O⟩
              case rest =>
                clear O
                obtain ⟨rfl, rfl, O⟩ := hcut
                go_upto_if 68 with fail
                go_cut [] from 19 to 129 (fun wx => Hid ((Go.Sort.rd Elt.lt dk a' b' lim wb wp).pi.2 = false) ∧ Hid (On g sf lb sb blk size w0 W (Go.Sort.rd Elt.lt dk a' b' lim wb wp).pi.1 wx))
                case first =>
                  cases h68 : (wb && wp && decide ((Go.Sort.rd Elt.lt dk a' b' lim wb wp).hint = .increasing))
                  · have epi := Go.Sort.rd_pi_no h68
                    go_wp2_with fail
                    go_meet
                    case rel => exact ⟨Lib.hid (by rw [epi]), Lib.hid (by rw [epi]; exact O.out)⟩
                  · have epi := Go.Sort.rd_pi_yes h68
                    have hc := partial_any HS.out wc (Go.Sort.rd Elt.lt dk a' b' lim wb wp).d2 a' b' O.out.base O.out.row s2 (by omega) hb'
                    rw [← epi] at hc
                    have c0 := O.out.c0
                    have c1 := O.out.c1
                    have Hep := Lib.hid epi; clear epi
                    have H68 := Lib.hid h68
                    generalize hpi : (Go.Sort.rd Elt.lt dk a' b' lim wb wp).pi = pi at hc s3 HB3 Hep ⊢
                    obtain ⟨d3, v3⟩ := pi
                    have Hpi := Lib.hid hpi; clear hpi
                    simp only at hc s3
                    cases v3
                    · go_wp2_with fail
                      refine hc.mono ?_
                      rintro e w4 ⟨rfl, K4, R4⟩
                      have O4 := O.out.call R4 K4 s3
                      clear c0 c1
                      go_wp2_with fail
                      go_meet
                      case rel => exact ⟨Lib.hid (by rw [Hpi.out]), Lib.hid (by rw [Hpi.out]; exact O4)⟩
                    · go_wp2_with fail
                      refine hc.mono ?_
                      rintro e w4 ⟨rfl, K4, R4⟩
                      have O4 := O.out.call R4 K4 s3
                      clear c0 c1
                      go_wp2_with fail
                      first | go_end0 | ((try simp only [Exit.inBlock, Exit.then]); refine bodyPost_ret (results_none rfl _ _ _) rfl ?_)
                      exact ⟨rfl, O4.own, by rw [← HE.out, Go.Sort.pdq_done h12 hl0 (by rw [Hpi.out]), Hpi.out]; exact O4.row⟩
                case rest =>
                  clear O
                  obtain ⟨hp2, O⟩ := hcut
                  go_upto_region 18 with fail
                  go_cut [83] from 19 to 129 (fun s83 wx => s83 = .bool (decide (a' > 0) && !Elt.lt (Go.Sort.rd Elt.lt dk a' b' lim wb wp).pi.1[a' - 1]! (Go.Sort.rd Elt.lt dk a' b' lim wb wp).pi.1[(Go.Sort.rd Elt.lt dk a' b' lim wb wp).pivot]!) ∧ Hid (On g sf lb sb blk size w0 W (Go.Sort.rd Elt.lt dk a' b' lim wb wp).pi.1 wx))
                  case first =>
                    have c0 := O.out.c0
                    by_cases ha0 : 0 < a'
                    · have t0 : (0 : Int) < (a' : Int) := by omega
                      cases hlv : Elt.lt (Go.Sort.rd Elt.lt dk a' b' lim wb wp).pi.1[a' - 1]! (Go.Sort.rd Elt.lt dk a' b' lim wb wp).pi.1[(Go.Sort.rd Elt.lt dk a' b' lim wb wp).pivot]!
                      · go_wp2_with fail
                        refine (O.out.cmp HS.out (a' - 1) (Go.Sort.rd Elt.lt dk a' b' lim wb wp).pivot false hlv (by omega) rfl (by omega) (by omega)).mono ?_
                        rintro e w6 ⟨rfl, O6⟩
                        go_wp2_with fail
                        go_meet
                        case rel => exact ⟨by simp [ha0, hlv], Lib.hid O6⟩
                      · go_wp2_with fail
                        refine (O.out.cmp HS.out (a' - 1) (Go.Sort.rd Elt.lt dk a' b' lim wb wp).pivot true hlv (by omega) rfl (by omega) (by omega)).mono ?_
                        rintro e w6 ⟨rfl, O6⟩
                        go_wp2_with fail
                        go_meet
                        case rel => exact ⟨by simp [ha0, hlv], Lib.hid O6⟩
                    · have t0 : ¬ (0 : Int) < (a' : Int) := by omega
                      go_wp2_with fail
                      go_meet
                      case rel => exact ⟨by simp [ha0], O⟩
                  case rest =>
                    clear O
                    obtain ⟨rfl, O⟩ := hcut
                    cases h87 : (decide (a' > 0) && !Elt.lt (Go.Sort.rd Elt.lt dk a' b' lim wb wp).pi.1[a' - 1]! (Go.Sort.rd Elt.lt dk a' b' lim wb wp).pi.1[(Go.Sort.rd Elt.lt dk a' b' lim wb wp).pivot]!)
                    · have hc := part_any HS.out wc (Go.Sort.rd Elt.lt dk a' b' lim wb wp).pi.1 a' b' (Go.Sort.rd Elt.lt dk a' b' lim wb wp).pivot O.out.base O.out.row s3 hpv.1 hpv.2 hb'
                      obtain ⟨mid, ap, d4, hx⟩ : ∃ mid ap d4, Go.Sort.partition Elt.lt (Go.Sort.rd Elt.lt dk a' b' lim wb wp).pi.1 a' b' (Go.Sort.rd Elt.lt dk a' b' lim wb wp).pivot = (mid, ap, d4) := ⟨_, _, _, rfl⟩
                      obtain ⟨r1, r2, r3, r4, r5, r6, r7⟩ := Go.Sort.round_part Elt.swo (Go.Sort.partition_holds Elt.lt) hpv.1 hpv.2 (show b' ≤ (Go.Sort.rd Elt.lt dk a' b' lim wb wp).pi.1.size by omega) HB3.out hx
                      rw [hx] at hc
                      simp only at hc
                      have X := Lib.hid hx; clear hx
                      have H6 := Lib.hid r6; have H7 := Lib.hid r7; have H4 := Lib.hid r4; have H5 := Lib.hid r5
                      clear r4 r5 r6 r7
                      have hs4 : d4.size = size := r3.trans s3
                      have c0 := O.out.c0
                      have c1 := O.out.c1
                      go_upto_if 109 with fail
                      refine hc.mono ?_
                      rintro e w7 ⟨rfl, K7, R7⟩
                      have O7 := Lib.hid (O.out.call R7 K7 hs4)
                      clear c0 c1 hc K7 R7
                      have c0 := O7.out.c0
                      have c1 := O7.out.c1
                      by_cases h4 : mid - a' < b' - mid
                      · have h4z : (mid : Int) - (a' : Int) < (b' : Int) - (mid : Int) := by omega
                        have hih := IH.out w7 d4 a' mid (Go.Sort.rd Elt.lt dk a' b' lim wb wp).lim (by omega) O7.out.base O7.out.row hs4 (by omega) (by omega) (by omega) H4.out
                        obtain ⟨pL, sL⟩ := Go.Sort.pdq_sorts Elt.lt Elt.swo d4 a' mid (Go.Sort.rd Elt.lt dk a' b' lim wb wp).lim true true (by omega) (by omega) H4.out
                        have HP := Lib.hid pL; have HL := Lib.hid sL
                        clear pL sL
                        go_wp2_with fail
                        refine hih.mono ?_
                        rintro e w8 ⟨rfl, K8, R8⟩
                        have O8 := Lib.hid (O7.out.call R8 K8 (by rw [HP.out.1, hs4]))
                        clear c0 c1 K8 R8 hih
                        go_wp2_with fail
                        go_roundw
                        case rel =>
                          refine ⟨mid + 1, b', (Go.Sort.rd Elt.lt dk a' b' lim wb wp).lim, decide (mid - a' ≥ (b' - a') / 8), ap, Go.Sort.pdq Elt.lt d4 a' mid (Go.Sort.rd Elt.lt dk a' b' lim wb wp).lim true true, by go_num, rfl, rfl, ?_, rfl, by omega, by omega, by omega, by omega, Lib.hid (H6.out _ HP.out HL.out).1, O8, Lib.hid ?_⟩
                          · exact congrArg Value.bool (decide_eq_decide.mpr (by omega))
                          · rw [← HE.out, Go.Sort.pdq_left h12 hl0 hp2.out h87 (by rw [X.out]; exact ⟨r1, r2⟩) (by rw [X.out]; exact h4), X.out]
                        case measure => simp only [intOf]; omega
                      · have h4z : ¬ (mid : Int) - (a' : Int) < (b' : Int) - (mid : Int) := by omega
                        have hih := IH.out w7 d4 (mid + 1) b' (Go.Sort.rd Elt.lt dk a' b' lim wb wp).lim (by omega) O7.out.base O7.out.row hs4 (by omega) (by omega) (by omega) H5.out
                        rw [show ((mid + 1 : Nat) : Int) = (mid : Int) + 1 by omega] at hih
                        obtain ⟨pL, sL⟩ := Go.Sort.pdq_sorts Elt.lt Elt.swo d4 (mid + 1) b' (Go.Sort.rd Elt.lt dk a' b' lim wb wp).lim true true (by omega) (by omega) H5.out
                        have HP := Lib.hid pL; have HL := Lib.hid sL
                        clear pL sL
                        go_wp2_with fail
                        refine hih.mono ?_
                        rintro e w8 ⟨rfl, K8, R8⟩
                        have O8 := Lib.hid (O7.out.call R8 K8 (by rw [HP.out.1, hs4]))
                        clear c0 c1 K8 R8 hih
                        go_wp2_with fail
                        go_roundw
                        case rel =>
                          refine ⟨a', mid, (Go.Sort.rd Elt.lt dk a' b' lim wb wp).lim, decide (b' - mid ≥ (b' - a') / 8), ap, Go.Sort.pdq Elt.lt d4 (mid + 1) b' (Go.Sort.rd Elt.lt dk a' b' lim wb wp).lim true true, rfl, rfl, rfl, ?_, rfl, by omega, by omega, by omega, by omega, Lib.hid (H7.out _ HP.out HL.out).1, O8, Lib.hid ?_⟩
                          · exact congrArg Value.bool (decide_eq_decide.mpr (by omega))
                          · rw [← HE.out, Go.Sort.pdq_right h12 hl0 hp2.out h87 (by rw [X.out]; exact ⟨r1, r2⟩) (by rw [X.out]; exact h4), X.out]
                        case measure => simp only [intOf]; omega
                    · have h87' := h87
                      simp only [Bool.and_eq_true, decide_eq_true_eq, Bool.not_eq_true'] at h87'
                      have hc := partEq_any HS.out wc (Go.Sort.rd Elt.lt dk a' b' lim wb wp).pi.1 a' b' (Go.Sort.rd Elt.lt dk a' b' lim wb wp).pivot O.out.base O.out.row s3 hpv.1 hpv.2 hb'
                      obtain ⟨mid, d4, hx⟩ : ∃ mid d4, Go.Sort.partitionEqual Elt.lt (Go.Sort.rd Elt.lt dk a' b' lim wb wp).pi.1 a' b' (Go.Sort.rd Elt.lt dk a' b' lim wb wp).pivot = (mid, d4) := ⟨_, _, rfl⟩
                      obtain ⟨r1, r2, r3, r4, _⟩ := Go.Sort.round_eq Elt.swo (Go.Sort.partitionEqual_holds Elt.lt) h87'.1 hpv.1 hpv.2 (show b' ≤ (Go.Sort.rd Elt.lt dk a' b' lim wb wp).pi.1.size by omega) HB3.out h87'.2 hx
                      rw [hx] at hc
                      simp only at hc
                      have X := Lib.hid hx; clear hx
                      have H4 := Lib.hid r4; clear r4
                      have hs4 : d4.size = size := r3.trans s3
                      have c0 := O.out.c0
                      have c1 := O.out.c1
                      clear h87'
                      go_wp2_with fail
                      refine hc.mono ?_
                      rintro e w7 ⟨rfl, K7, R7⟩
                      have O7 := Lib.hid (O.out.call R7 K7 hs4)
                      clear c0 c1 hc K7 R7
                      go_wp2_with fail
                      go_roundw
                      case rel => exact ⟨mid, b', (Go.Sort.rd Elt.lt dk a' b' lim wb wp).lim, wb, wp, d4, rfl, rfl, rfl, rfl, rfl, r2, hb', by omega, by omega, H4, O7, Lib.hid (by rw [← HE.out, Go.Sort.pdq_eq h12 hl0 hp2.out h87 (by rw [X.out]; exact ⟨r1, r2⟩), X.out])⟩
                      case measure => simp only [intOf]; omega
end Go.Proofs.YtoocmogmocapoaaDoor
