/-
  sort.partition_func over a row, whatever the comparison lays.
-/
import Derived.Test.YtoocmogmocapoaaDoorSortScan
import Derived.Deep.CutBlock
namespace Go.Proofs.YtoocmogmocapoaaDoor
open Go.RowKit
variable {E : Type} [Inhabited E]

set_option maxHeartbeats 2000000 in
set_option maxRecDepth 100000 in
theorem part_any [Elt E] {g sf : Nat} {lb sb : Array Value} {blk size : Nat} {w0 : World} (S : Srt E g sf lb sb blk size w0) (W : World) (d : Array E) (a b p : Nat) (hk : Keeps w0 blk W) (hr : Row W blk d) (hd : d.size = size) (hap : a ≤ p) (hpb : p < b) (hb : b ≤ size) :
    Calls Tryd.prog 65 #[.agg #[.func (.func g) #[] lb, .func (.func sf) #[] sb], .int .i64 a, .int .i64 b, .int .i64 p] W fun e w' => e = .returned (.tuple #[.int .i64 (Go.Sort.partition Elt.lt d a b p).1, .bool (Go.Sort.partition Elt.lt d a b p).2.1]) ∧ Keeps W blk w' ∧ Row w' blk (Go.Sort.partition Elt.lt d a b p).2.2 := by
  have eg := S.enter
  have few := S.few
  have O := Lib.hid (On.start S hk hr hd 91)
  have HS := Lib.hid S
  clear S hk hr
  generalize hR : Go.Sort.partition Elt.lt d a b p = R
  obtain ⟨j, ej⟩ : ∃ j, b = j + 1 := ⟨b - 1, by omega⟩
  subst ej
  have hij : a + 1 ≤ j + 2 := by omega
  have HR := Lib.hid hR; clear hR
  rw [show ((j + 1 : Nat) : Int) = (j : Int) + 1 by omega]
  go_enter Tryd.func65, Tryd.ntmps65
  have c1 := O.out.c1
  go_wp2_with fail
  obtain ⟨w1, hs, O1⟩ := O.out.exch HS.out (a : Int) (p : Int) a p rfl rfl (by omega) (by omega)
  rw [hs, Oper.upon_value]
  clear c1 hs O
  have O := Lib.hid O1; clear O1
  generalize hdk : Go.Sort.swp d a p = dk at O ⊢
  have Hdk := Lib.hid hdk; clear hdk
  go_upto_block 0 with fail
  go_cut [10] from 21 to 32 (fun sx wc => sx = .int .i64 (Go.Sort.scanUp (fun x => Elt.lt x dk[a]!) dk j (a + 1) : Nat) ∧ Hid (On g sf lb sb blk size w0 W dk wc))
  case first =>
    go_wp2_with fail
    go_loopw [10] (fun vi wr => ∃ (k : Nat), vi = .int .i64 k ∧ (a + 1) ≤ k ∧ k ≤ j + 2 ∧ Hid (On g sf lb sb blk size w0 W dk wr) ∧ Hid (Go.Sort.scanUp (fun x => Elt.lt x dk[a]!) dk j k = Go.Sort.scanUp (fun x => Elt.lt x dk[a]!) dk j (a + 1))) (fun vi _ => j + 2 - (intOf vi).toNat)
    case atStart => exact ⟨(a + 1), rfl, Nat.le_refl _, hij, O, Lib.hid rfl⟩
    case round =>
      clear O
      obtain ⟨k, rfl, hik, hkj, O, HI⟩ := hrel
      have c0 := O.out.c0
      by_cases hkj' : k ≤ j
      · cases hv : Elt.lt dk[k]! dk[a]! with
        | true =>
          go_wp2_with fail
          refine (O.out.cmp HS.out k a true hv rfl rfl (by omega) (by omega)).mono ?_
          rintro e w2 ⟨rfl, O2⟩
          go_wp2_with fail
          go_roundw
          case rel => exact ⟨k + 1, by go_num, by omega, by omega, Lib.hid O2, Lib.hid (by rw [← HI.out, scanUp_on _ dk j k hkj' (by simp [hv])])⟩
          case measure => simp [intOf]; omega
        | false =>
          go_wp2_with fail
          refine (O.out.cmp HS.out k a false hv rfl rfl (by omega) (by omega)).mono ?_
          rintro e w2 ⟨rfl, O2⟩
          go_wp2_with fail
          go_meet
          case rel => exact ⟨by rw [← HI.out, scanUp_out _ dk j k (Or.inr (by simp [hv]))], Lib.hid O2⟩
      · go_wp2_with fail
        go_meet
        case rel => exact ⟨by rw [← HI.out, scanUp_out _ dk j k (Or.inl hkj')], O⟩
  case rest =>
    clear O
    obtain ⟨rfl, O⟩ := hcut
    obtain ⟨u1, u2⟩ := scanUp_in (fun x => Elt.lt x dk[a]!) dk j _ (a + 1) (Nat.le_refl _) hij
    generalize hi2 : Go.Sort.scanUp (fun x => Elt.lt x dk[a]!) dk j (a + 1) = i2 at u1 u2 ⊢
    have Hi2 := Lib.hid hi2; clear hi2
    go_upto_block 2 with fail
    go_cut [11] from 33 to 45 (fun sx wc => sx = .int .i64 (Go.Sort.scanDown (fun x => !Elt.lt x dk[a]!) dk i2 j : Nat) ∧ Hid (On g sf lb sb blk size w0 W dk wc))
    case first =>
      go_wp2_with fail
      go_loopw [11] (fun vj wr => ∃ (k : Nat), vj = .int .i64 k ∧ k ≤ j ∧ Hid (On g sf lb sb blk size w0 W dk wr) ∧ Hid (Go.Sort.scanDown (fun x => !Elt.lt x dk[a]!) dk i2 k = Go.Sort.scanDown (fun x => !Elt.lt x dk[a]!) dk i2 j)) (fun vj _ => (intOf vj).toNat)
      case atStart => exact ⟨j, rfl, Nat.le_refl _, O, Lib.hid rfl⟩
      case round =>
        clear O
        obtain ⟨k, rfl, hkj, O, HI⟩ := hrel
        have c0 := O.out.c0
        by_cases hkj' : i2 ≤ k
        · cases hv : Elt.lt dk[k]! dk[a]! with
          | false =>
            go_wp2_with fail
            refine (O.out.cmp HS.out k a false hv rfl rfl (by omega) (by omega)).mono ?_
            rintro e w2 ⟨rfl, O2⟩
            go_wp2_with fail
            go_roundw
            case rel => exact ⟨k - 1, by congr 1; omega, by omega, Lib.hid O2, Lib.hid (by rw [← HI.out, scanDown_on _ dk i2 k (by omega) hkj' (by simp [hv])])⟩
            case measure => simp [intOf]; omega
          | true =>
            go_wp2_with fail
            refine (O.out.cmp HS.out k a true hv rfl rfl (by omega) (by omega)).mono ?_
            rintro e w2 ⟨rfl, O2⟩
            go_wp2_with fail
            go_meet
            case rel => exact ⟨by rw [← HI.out, scanDown_out _ dk i2 k (Or.inr (by simp [hv]))], Lib.hid O2⟩
        · go_wp2_with fail
          go_meet
          case rel => exact ⟨by rw [← HI.out, scanDown_out _ dk i2 k (Or.inl hkj')], O⟩
    case rest =>
      clear O
      obtain ⟨rfl, O⟩ := hcut
      have v1 := Go.Sort.scanDown_le (fun x => !Elt.lt x dk[a]!) dk i2 j
      generalize hj2 : Go.Sort.scanDown (fun x => !Elt.lt x dk[a]!) dk i2 j = j2 at v1 ⊢
      have Hj2 := Lib.hid hj2; clear hj2
      by_cases hc : i2 > j2
      · have e : R = (j2, true, Go.Sort.swp dk j2 a) := by
          rw [← HR.out]
          unfold Go.Sort.partition
          simp only [Hdk.out, show j + 1 - 1 = j from rfl, Hi2.out, Hj2.out]
          rw [if_pos hc]
        subst e
        have c1 := O.out.c1
        go_wp2_with fail
        obtain ⟨w3, hs, O3⟩ := O.out.exch HS.out (j2 : Int) (a : Int) j2 a rfl rfl (by omega) (by omega)
        rw [hs, Oper.upon_value]
        clear c1 hs
        go_wp2_with fail
        refine bodyPost_ret (v := .tuple #[.int .i64 j2, .bool true]) (by simp [results, Tryd.results65, go_sem]) rfl ?_
        exact ⟨rfl, O3.own, O3.row⟩
      · have HE : Hid (R = ((Go.Sort.partLoop Elt.lt a (i2 + 1) (j2 - 1) (Go.Sort.swp dk i2 j2)).1, false, Go.Sort.swp (Go.Sort.partLoop Elt.lt a (i2 + 1) (j2 - 1) (Go.Sort.swp dk i2 j2)).2 (Go.Sort.partLoop Elt.lt a (i2 + 1) (j2 - 1) (Go.Sort.swp dk i2 j2)).1 a)) := Lib.hid (by
          rw [← HR.out]
          unfold Go.Sort.partition
          simp only [Hdk.out, show j + 1 - 1 = j from rfl, Hi2.out, Hj2.out]
          rw [if_neg hc])
        have c1 := O.out.c1
        go_wp2_with fail
        obtain ⟨w3, hs, O3⟩ := O.out.exch HS.out (i2 : Int) (j2 : Int) i2 j2 rfl rfl (by omega) (by omega)
        rw [hs, Oper.upon_value]
        clear c1 hs O
        have O := Lib.hid O3; clear O3
        go_wp2_with fail
        generalize Go.Sort.swp dk i2 j2 = d0 at O HE ⊢
        go_loopw [10, 11] (fun vi vj wr => ∃ (i j : Nat) (dk : Array E), vi = .int .i64 i ∧ vj = .int .i64 j ∧ a < i ∧ i ≤ j + 2 ∧ j ≤ j2 ∧ Hid (On g sf lb sb blk size w0 W dk wr) ∧ Hid (Go.Sort.partLoop Elt.lt a i j dk = Go.Sort.partLoop Elt.lt a (i2 + 1) (j2 - 1) d0)) (fun vi vj _ => (intOf vj + 1 - intOf vi).toNat)
        case atStart => exact ⟨i2 + 1, j2 - 1, d0, by go_num, by congr 1; omega, by omega, by omega, by omega, O, Lib.hid rfl⟩
        case round =>
          clear O
          have hjj : j2 ≤ j := by omega
          have hjb : j < size := by omega
          clear hc hij u1 u2 v1
          generalize Go.Sort.partLoop Elt.lt a (i2 + 1) (j2 - 1) d0 = goal at hrel HE ⊢
          obtain ⟨i, k1, dj, rfl, rfl, hai, hij, hjb2, O, HO⟩ := hrel
          have HQ := Lib.hid (Go.Sort.partLoop_eq Elt.lt a i k1 dj)
          have hk1 : k1 < size := by omega
          go_upto_block 6 with fail
          go_cut [10] from 64 to 75 (fun sx wc => sx = .int .i64 (Go.Sort.scanUp (fun x => Elt.lt x dj[a]!) dj k1 i : Nat) ∧ Hid (On g sf lb sb blk size w0 W dj wc))
          case first =>
            go_wp2_with fail
            go_loopw [10] (fun vi wr => ∃ (k : Nat), vi = .int .i64 k ∧ i ≤ k ∧ k ≤ k1 + 2 ∧ Hid (On g sf lb sb blk size w0 W dj wr) ∧ Hid (Go.Sort.scanUp (fun x => Elt.lt x dj[a]!) dj k1 k = Go.Sort.scanUp (fun x => Elt.lt x dj[a]!) dj k1 i)) (fun vi _ => k1 + 2 - (intOf vi).toNat)
            case atStart => exact ⟨i, rfl, Nat.le_refl _, hij, O, Lib.hid rfl⟩
            case round =>
              clear O
              obtain ⟨k, rfl, hik, hkj, O, HI⟩ := hrel
              have c0 := O.out.c0
              by_cases hkj' : k ≤ k1
              · cases hv : Elt.lt dj[k]! dj[a]! with
                | true =>
                  go_wp2_with fail
                  refine (O.out.cmp HS.out k a true hv rfl rfl (by omega) (by omega)).mono ?_
                  rintro e w2 ⟨rfl, O2⟩
                  go_wp2_with fail
                  go_roundw
                  case rel => exact ⟨k + 1, by go_num, by omega, by omega, Lib.hid O2, Lib.hid (by rw [← HI.out, scanUp_on _ dj k1 k hkj' (by simp [hv])])⟩
                  case measure => simp [intOf]; omega
                | false =>
                  go_wp2_with fail
                  refine (O.out.cmp HS.out k a false hv rfl rfl (by omega) (by omega)).mono ?_
                  rintro e w2 ⟨rfl, O2⟩
                  go_wp2_with fail
                  go_meet
                  case rel => exact ⟨by rw [← HI.out, scanUp_out _ dj k1 k (Or.inr (by simp [hv]))], Lib.hid O2⟩
              · go_wp2_with fail
                go_meet
                case rel => exact ⟨by rw [← HI.out, scanUp_out _ dj k1 k (Or.inl hkj')], O⟩
          case rest =>
            clear O
            obtain ⟨rfl, O⟩ := hcut
            obtain ⟨u1, u2⟩ := scanUp_in (fun x => Elt.lt x dj[a]!) dj k1 _ i (Nat.le_refl _) hij
            generalize Go.Sort.scanUp (fun x => Elt.lt x dj[a]!) dj k1 i = i3 at u1 u2 HQ ⊢
            go_upto_block 8 with fail
            go_cut [11] from 76 to 88 (fun sx wc => sx = .int .i64 (Go.Sort.scanDown (fun x => !Elt.lt x dj[a]!) dj i3 k1 : Nat) ∧ Hid (On g sf lb sb blk size w0 W dj wc))
            case first =>
              go_wp2_with fail
              go_loopw [11] (fun vj wr => ∃ (k : Nat), vj = .int .i64 k ∧ k ≤ k1 ∧ Hid (On g sf lb sb blk size w0 W dj wr) ∧ Hid (Go.Sort.scanDown (fun x => !Elt.lt x dj[a]!) dj i3 k = Go.Sort.scanDown (fun x => !Elt.lt x dj[a]!) dj i3 k1)) (fun vj _ => (intOf vj).toNat)
              case atStart => exact ⟨k1, rfl, Nat.le_refl _, O, Lib.hid rfl⟩
              case round =>
                clear O
                obtain ⟨k, rfl, hkj, O, HI⟩ := hrel
                have c0 := O.out.c0
                by_cases hkj' : i3 ≤ k
                · cases hv : Elt.lt dj[k]! dj[a]! with
                  | false =>
                    go_wp2_with fail
                    refine (O.out.cmp HS.out k a false hv rfl rfl (by omega) (by omega)).mono ?_
                    rintro e w2 ⟨rfl, O2⟩
                    go_wp2_with fail
                    go_roundw
                    case rel => exact ⟨k - 1, by congr 1; omega, by omega, Lib.hid O2, Lib.hid (by rw [← HI.out, scanDown_on _ dj i3 k (by omega) hkj' (by simp [hv])])⟩
                    case measure => simp [intOf]; omega
                  | true =>
                    go_wp2_with fail
                    refine (O.out.cmp HS.out k a true hv rfl rfl (by omega) (by omega)).mono ?_
                    rintro e w2 ⟨rfl, O2⟩
                    go_wp2_with fail
                    go_meet
                    case rel => exact ⟨by rw [← HI.out, scanDown_out _ dj i3 k (Or.inr (by simp [hv]))], Lib.hid O2⟩
                · go_wp2_with fail
                  go_meet
                  case rel => exact ⟨by rw [← HI.out, scanDown_out _ dj i3 k (Or.inl hkj')], O⟩
            case rest =>
              clear O
              obtain ⟨rfl, O⟩ := hcut
              have v1 := Go.Sort.scanDown_le (fun x => !Elt.lt x dj[a]!) dj i3 k1
              generalize Go.Sort.scanDown (fun x => !Elt.lt x dj[a]!) dj i3 k1 = j3 at v1 HQ ⊢
              by_cases hc : i3 > j3
              · have c1 := O.out.c1
                go_wp2_with fail
                obtain ⟨w3, hs, O3⟩ := O.out.exch HS.out (j3 : Int) (a : Int) j3 a rfl rfl (by omega) (by omega)
                rw [hs, Oper.upon_value]
                clear c1 hs
                go_wp2_with fail
                have e : R = (j3, false, Go.Sort.swp dj j3 a) := by rw [HE.out, ← HO.out, HQ.out, if_pos hc]
                subst e
                refine bodyPost_ret (v := .tuple #[.int .i64 j3, .bool false]) (by simp [results, Tryd.results65, go_sem]) rfl ?_
                exact ⟨rfl, O3.own, O3.row⟩
              · have c1 := O.out.c1
                go_wp2_with fail
                obtain ⟨w3, hs, O3⟩ := O.out.exch HS.out (i3 : Int) (j3 : Int) i3 j3 rfl rfl (by omega) (by omega)
                rw [hs, Oper.upon_value]
                clear c1 hs
                go_wp2_with fail
                go_roundw
                case rel => exact ⟨i3 + 1, j3 - 1, Go.Sort.swp dj i3 j3, by go_num, by congr 1; omega, by omega, by omega, by omega, Lib.hid O3, Lib.hid (by rw [← HO.out, HQ.out, if_neg hc])⟩
                case measure => simp [intOf]; omega
end Go.Proofs.YtoocmogmocapoaaDoor
