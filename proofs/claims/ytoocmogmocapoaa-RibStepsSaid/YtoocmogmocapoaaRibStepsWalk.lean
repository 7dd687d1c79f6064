/-
  The law RibSteps at every input.
-/
import Derived.Test.YtoocmogmocapoaaRibFact
import Derived.Test.YtoocmogmocapoaaSameHeard
import Derived.Test.YtoocmogmocapoaaListAt
import Derived.StillTailTactics
import Derived.Deep.CutBlock
import Derived.Deep.CutRange
import Derived.LoopN
namespace Go.Proofs.Ytoocmogmocapoaa
open Go.RowKit Go.Lib RibP

set_option maxHeartbeats 8000000 in
set_option maxRecDepth 100000 in
theorem ribSteps_walk (w : World) (v0 v1 v2 : Value) (fs : List Int) (ns : List Nt) (ms : List Int) (a b : Int) (hlen : fs.length * 8 ≤ 140737488351232) (h0 : ArgI w v0 fs) (h1 : Arg w v1 ns) (h2 : ArgI w v2 ms) (hok : ∀ x ∈ ns, x.1 < 4294967296) :
    Calls Try.prog 4 #[v0, v1, v2, .int .i64 a, .int .i64 b] w fun e w' => e = .returned (.bool true) ∧ Below w.heap.size w w' := by
  obtain ⟨p0, q0, rfl, _⟩ := id h0
  obtain ⟨p1, q1, rfl, _⟩ := id h1
  obtain ⟨p2, q2, rfl, _⟩ := id h2
  have HA0 := Lib.hid h0; have HA1 := Lib.hid h1; have HA2 := Lib.hid h2; have HOK := Lib.hid hok
  have HF := Lib.hid (learnt_any w)
  clear h0 h1 h2 hok
  go_enter Try.func4, Try.ntmps4
  go_wp2_with fail
  refine HF.out.mono ?_
  rintro e w1 ⟨rfl, hb1⟩
  have HN := Lib.hid (new_oneB w w1 hb1)
  clear hb1 HF
  go_wp2_with fail
  refine HN.out.mono ?_
  rintro e w2 ⟨rfl, h2⟩
  have HM := Lib.hid (new_twoB w w2 w1.heap.size (0, []) h2)
  clear h2 HN
  go_wp2_with fail
  refine HM.out.mono ?_
  rintro e w3 ⟨rfl, h3⟩
  have H3 := Lib.hid h3
  clear h3 HM
  generalize w1.heap.size = p at H3 ⊢
  generalize w2.heap.size = q at H3 ⊢
  go_upto_block 0 with fail
  go_cut [14] from 32 to 77 (fun _ wc => ∃ s : St, s.1 = 0 ∧ Hid (TwoB w wc p q s s))
  case first =>
    go_wp2_with fail
    go_loopw [14] (fun u wr => ∃ (k : Nat) (s : St), u = .int .i64 k ∧ k ≤ fs.length ∧ s.1 = 0 ∧ Hid (TwoB w wr p q s s)) (fun v _ => fs.length - (RowKit.intOf v).toNat)
    case atStart => exact ⟨0, (0, []), rfl, Nat.zero_le _, rfl, H3⟩
    case round =>
      obtain ⟨k, s, rfl, hk, hs0, hO⟩ := hrel
      by_cases k0 : k < fs.length
      · by_cases k1 : k < ns.length
        · by_cases k2 : k < ms.length
          · obtain ⟨b0, o0, rfl, L0, c0⟩ := HA0.out.at k k0
            obtain ⟨b1, o1, rfl, L1, c1, c2⟩ := HA1.out.at k k1
            obtain ⟨b2, o2, rfl, L2, c3⟩ := HA2.out.at k k2
            have hok := Lib.hid (HOK.out ns[k]! (by rw [getElem!_pos ns k k1]; exact List.getElem_mem k1))
            generalize fs[k]! = f at c0
            generalize ns[k]! = n at c1 c2 hok
            generalize ms[k]! = m at c3
            have C0 := Lib.hid c0; have C1 := Lib.hid c1; have C2 := Lib.hid c2; have C3 := Lib.hid c3
            have B := Lib.hid hO.out.bel
            clear c0 c1 c2 c3
            have i0 := (B.out.cell (p := ⟨b0, o0 + k, none⟩) L0).trans C0.out
            have i1 := (B.out.cell (p := ⟨b1, o1 + k * 2, none⟩) L1).trans C1.out
            have i2 := (B.out.cell (p := ⟨b1, o1 + k * 2 + 1, none⟩) L1).trans C2.out
            have i3 := (B.out.cell (p := ⟨b2, o2 + k, none⟩) L2).trans C3.out
            dsimp only [Nt.v0, Nt.v1] at i1 i2
            have HLL := Lib.hid (two_learn (hO.out.below ((Below.refl wr.heap.size wr).drew)) f n.1 n.2 m 0 hok.out)
            go_wp2_with fail
            go_still_tail 13, (by kernel_rfl)
            change wpList _ _ _ _ _ wr.drew
            generalize wr.drew = w5 at HLL ⊢
            go_wp2_with fail
            refine HLL.out.mono ?_
            rintro e w6 ⟨rfl, h6⟩
            have hO6 := Lib.hid h6.swap
            clear h6 i0 i1 i2 i3 HLL
            have B6 := Lib.hid hO6.out.bel
            have i0 := (B6.out.cell (p := ⟨b0, o0 + k, none⟩) L0).trans C0.out
            have i1 := (B6.out.cell (p := ⟨b1, o1 + k * 2, none⟩) L1).trans C1.out
            have i2 := (B6.out.cell (p := ⟨b1, o1 + k * 2 + 1, none⟩) L1).trans C2.out
            have i3 := (B6.out.cell (p := ⟨b2, o2 + k, none⟩) L2).trans C3.out
            dsimp only [Nt.v0, Nt.v1] at i1 i2
            have HLL := Lib.hid (two_learn (hO6.out.below ((Below.refl w6.heap.size w6).drew)) f n.1 n.2 m 0 hok.out)
            have HE := Lib.hid (learnS_zero s f (n.1, n.2) m hs0)
            generalize learnS s f (n.1, n.2) m 0 = s' at hO6 HLL HE
            go_wp2_with fail
            go_still_tail 13, (by kernel_rfl)
            change wpList _ _ _ _ _ w6.drew
            generalize w6.drew = w7 at HLL ⊢
            go_wp2_with fail
            refine HLL.out.mono ?_
            rintro e w8 ⟨rfl, h8⟩
            have hO8 := Lib.hid h8.swap
            clear h8 i0 i1 i2 i3 HLL
            go_wp2_with fail
            go_roundw
            case rel => exact ⟨k + 1, s', by go_num, by omega, HE.out, hO8⟩
            case measure => simp [RowKit.intOf]; omega
          · go_wp2_with fail
            go_meet
            case rel => exact ⟨s, hs0, hO⟩
        · go_wp2_with fail
          go_meet
          case rel => exact ⟨s, hs0, hO⟩
      · go_wp2_with fail
        go_meet
        case rel => exact ⟨s, hs0, hO⟩
  case rest =>
    obtain ⟨s, hs0, hO⟩ := hcut
    clear H3
    have hn0 : okT s.1 a ↔ 0 ≤ a ∧ a ≤ 1099511627776 := by unfold okT; rw [hs0]
    by_cases h1 : okT s.1 a
    · have e1 : (ageS s a).1 = a := by unfold ageS; rw [if_pos h1]
      have a0 : ¬ a < 0 := by have := hn0.1 h1; omega
      by_cases h2 : okT (ageS s a).1 b
      · have h3 : okT s.1 b := by
          rw [e1] at h2
          exact ⟨Int.le_trans h1.1 h2.1, h2.2⟩
        have hEQ : (ageS (ageS s a) b).2 = (ageS s b).2 := by
          rw [show ageS (ageS s a) b = (b, age b (ageS s a).2) from if_pos h2, show ageS s b = (b, age b s.2) from if_pos h3, show ageS s a = (a, age a s.2) from if_pos h1]
          exact age_age a b s.2 (by rw [e1] at h2; exact h2.1)
        clear hn0 e1 a0
        have ha := two_age hO.out a
        rw [show errV (ageE s a) = .nilIface by unfold ageE; rw [if_pos h1]; rfl] at ha
        have HA := Lib.hid ha
        clear ha
        go_wp2_with fail
        refine HA.out.mono ?_
        rintro e w5 ⟨rfl, h5⟩
        have H5 := Lib.hid h5
        clear h5 HA
        have hb := two_age H5.out b
        rw [show errV (ageE (ageS s a) b) = .nilIface by unfold ageE; rw [if_pos h2]; rfl] at hb
        have HB := Lib.hid hb
        clear hb
        go_wp2_with fail
        refine HB.out.mono ?_
        rintro e w6 ⟨rfl, h6⟩
        have H6 := Lib.hid h6.swap
        clear h6 HB
        have hc := two_age H6.out b
        rw [show errV (ageE s b) = .nilIface by unfold ageE; rw [if_pos h3]; rfl] at hc
        have HC := Lib.hid hc
        clear hc
        go_wp2_with fail
        refine HC.out.mono ?_
        rintro e w7 ⟨rfl, h7⟩
        have H7 := Lib.hid h7.swap
        clear h7 HC
        go_wp2_with fail
        refine (two_list H7.out).mono ?_
        rintro e w8 ⟨v8, X, rfl, hX, gX, hb8⟩
        have H8 := Lib.hid (H7.out.below hb8)
        have G8 := Lib.hid gX.arg
        have T8 := Lib.hid hX
        obtain ⟨q8, n8, rfl⟩ := gX.len
        clear hX gX hb8
        go_wp2_with fail
        refine (two_list H8.out.swap).mono ?_
        rintro e w9 ⟨v9, Y, rfl, hY, gY, hb9⟩
        have H9 := Lib.hid (H8.out.below hb9)
        have hXY := T8.out.one (by have := H8.out.ex; obtain ⟨_, _, r, _⟩ := this; exact r.good.keys) (by rw [hEQ]) hY
        subst hXY
        have HS := Lib.hid (sameHeard_any w9 _ v9 X X (by have := T8.out.len; have h64 : (ageS (ageS s a) b).2.length ≤ 64 := (by have := H8.out.ex; obtain ⟨_, _, r, _⟩ := this; exact r.good.len); omega) (G8.out.below hb9) gY.arg)
        obtain ⟨q9, n9, rfl⟩ := gY.len
        clear hY gY hb9
        go_wp2_with fail
        refine HS.out.mono ?_
        rintro e w10 ⟨rfl, hb10⟩
        have HE := Lib.hid (H9.out.bel.trans (hb10.mono H9.out.bel.size))
        clear hb10
        simp only [decide_true]
        go_wp2_with fail
        go_ret
        exact ⟨rfl, HE.out⟩
      · by_cases b1 : b < a
        · clear hn0 e1
          have ha := two_age hO.out a
          rw [show errV (ageE s a) = .nilIface by unfold ageE; rw [if_pos h1]; rfl] at ha
          have HA := Lib.hid ha
          clear ha
          go_wp2_with fail
          refine HA.out.mono ?_
          rintro e w5 ⟨rfl, h5⟩
          have H5 := Lib.hid h5
          clear h5 HA
          have hb := two_age H5.out b
          rw [show errV (ageE (ageS s a) b) = .iface 59 (.int .i64 1) by unfold ageE; rw [if_neg h2]; rfl] at hb
          have HB := Lib.hid hb
          clear hb
          go_wp2_with fail
          refine HB.out.mono ?_
          rintro e w6 ⟨rfl, h6⟩
          have H6 := Lib.hid h6.swap
          clear h6 HB
          have hc := two_age H6.out b
          obtain ⟨e3, he3⟩ : ∃ e3, e3 = errV (ageE s b) := ⟨_, rfl⟩
          rw [← he3] at hc
          clear he3
          have HC := Lib.hid hc
          clear hc
          go_wp2_with fail
          refine HC.out.mono ?_
          rintro e w7 ⟨rfl, h7⟩
          have H7 := Lib.hid h7.swap
          clear h7 HC
          go_wp2_with fail
          go_ret
          exact ⟨rfl, H7.out.bel⟩
        · have b2 : 1099511627776 < b := by
            rw [e1] at h2
            unfold okT at h2
            omega
          clear hn0 e1
          have ha := two_age hO.out a
          rw [show errV (ageE s a) = .nilIface by unfold ageE; rw [if_pos h1]; rfl] at ha
          have HA := Lib.hid ha
          clear ha
          go_wp2_with fail
          refine HA.out.mono ?_
          rintro e w5 ⟨rfl, h5⟩
          have H5 := Lib.hid h5
          clear h5 HA
          have hb := two_age H5.out b
          rw [show errV (ageE (ageS s a) b) = .iface 59 (.int .i64 1) by unfold ageE; rw [if_neg h2]; rfl] at hb
          have HB := Lib.hid hb
          clear hb
          go_wp2_with fail
          refine HB.out.mono ?_
          rintro e w6 ⟨rfl, h6⟩
          have H6 := Lib.hid h6.swap
          clear h6 HB
          have hc := two_age H6.out b
          obtain ⟨e3, he3⟩ : ∃ e3, e3 = errV (ageE s b) := ⟨_, rfl⟩
          rw [← he3] at hc
          clear he3
          have HC := Lib.hid hc
          clear hc
          go_wp2_with fail
          refine HC.out.mono ?_
          rintro e w7 ⟨rfl, h7⟩
          have H7 := Lib.hid h7.swap
          clear h7 HC
          go_wp2_with fail
          go_ret
          exact ⟨rfl, H7.out.bel⟩
    · by_cases a0 : a < 0
      · clear hn0
        have ha := two_age hO.out a
        rw [show errV (ageE s a) = .iface 59 (.int .i64 1) by unfold ageE; rw [if_neg h1]; rfl] at ha
        have HA := Lib.hid ha
        clear ha
        go_wp2_with fail
        refine HA.out.mono ?_
        rintro e w5 ⟨rfl, h5⟩
        have H5 := Lib.hid h5
        clear h5 HA
        have hb := two_age H5.out b
        obtain ⟨e2, he2⟩ : ∃ e2, e2 = errV (ageE (ageS s a) b) := ⟨_, rfl⟩
        rw [← he2] at hb
        clear he2
        have HB := Lib.hid hb
        clear hb
        go_wp2_with fail
        refine HB.out.mono ?_
        rintro e w6 ⟨rfl, h6⟩
        have H6 := Lib.hid h6.swap
        clear h6 HB
        have hc := two_age H6.out b
        obtain ⟨e3, he3⟩ : ∃ e3, e3 = errV (ageE s b) := ⟨_, rfl⟩
        rw [← he3] at hc
        clear he3
        have HC := Lib.hid hc
        clear hc
        go_wp2_with fail
        refine HC.out.mono ?_
        rintro e w7 ⟨rfl, h7⟩
        have H7 := Lib.hid h7.swap
        clear h7 HC
        go_wp2_with fail
        go_ret
        exact ⟨rfl, H7.out.bel⟩
      · by_cases b1 : b < a
        · clear hn0
          have ha := two_age hO.out a
          rw [show errV (ageE s a) = .iface 59 (.int .i64 1) by unfold ageE; rw [if_neg h1]; rfl] at ha
          have HA := Lib.hid ha
          clear ha
          go_wp2_with fail
          refine HA.out.mono ?_
          rintro e w5 ⟨rfl, h5⟩
          have H5 := Lib.hid h5
          clear h5 HA
          have hb := two_age H5.out b
          obtain ⟨e2, he2⟩ : ∃ e2, e2 = errV (ageE (ageS s a) b) := ⟨_, rfl⟩
          rw [← he2] at hb
          clear he2
          have HB := Lib.hid hb
          clear hb
          go_wp2_with fail
          refine HB.out.mono ?_
          rintro e w6 ⟨rfl, h6⟩
          have H6 := Lib.hid h6.swap
          clear h6 HB
          have hc := two_age H6.out b
          obtain ⟨e3, he3⟩ : ∃ e3, e3 = errV (ageE s b) := ⟨_, rfl⟩
          rw [← he3] at hc
          clear he3
          have HC := Lib.hid hc
          clear hc
          go_wp2_with fail
          refine HC.out.mono ?_
          rintro e w7 ⟨rfl, h7⟩
          have H7 := Lib.hid h7.swap
          clear h7 HC
          go_wp2_with fail
          go_ret
          exact ⟨rfl, H7.out.bel⟩
        · have b2 : 1099511627776 < b := by
            have : ¬ (0 ≤ a ∧ a ≤ 1099511627776) := fun h => h1 (hn0.2 h)
            omega
          clear hn0
          have ha := two_age hO.out a
          rw [show errV (ageE s a) = .iface 59 (.int .i64 1) by unfold ageE; rw [if_neg h1]; rfl] at ha
          have HA := Lib.hid ha
          clear ha
          go_wp2_with fail
          refine HA.out.mono ?_
          rintro e w5 ⟨rfl, h5⟩
          have H5 := Lib.hid h5
          clear h5 HA
          have hb := two_age H5.out b
          obtain ⟨e2, he2⟩ : ∃ e2, e2 = errV (ageE (ageS s a) b) := ⟨_, rfl⟩
          rw [← he2] at hb
          clear he2
          have HB := Lib.hid hb
          clear hb
          go_wp2_with fail
          refine HB.out.mono ?_
          rintro e w6 ⟨rfl, h6⟩
          have H6 := Lib.hid h6.swap
          clear h6 HB
          have hc := two_age H6.out b
          obtain ⟨e3, he3⟩ : ∃ e3, e3 = errV (ageE s b) := ⟨_, rfl⟩
          rw [← he3] at hc
          clear he3
          have HC := Lib.hid hc
          clear hc
          go_wp2_with fail
          refine HC.out.mono ?_
          rintro e w7 ⟨rfl, h7⟩
          have H7 := Lib.hid h7.swap
          clear h7 HC
          go_wp2_with fail
          go_ret
          exact ⟨rfl, H7.out.bel⟩
end Go.Proofs.Ytoocmogmocapoaa
