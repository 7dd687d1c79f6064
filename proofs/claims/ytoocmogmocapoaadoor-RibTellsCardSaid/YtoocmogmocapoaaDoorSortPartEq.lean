/-
  sort.partitionEqual_func over a row, whatever the comparison lays.
-/
import Derived.Test.YtoocmogmocapoaaDoorSortScan
import Derived.Deep.CutBlock
namespace Go.Proofs.YtoocmogmocapoaaDoor
open Go.RowKit
variable {E : Type} [Inhabited E]

set_option maxHeartbeats 2000000 in
set_option maxRecDepth 100000 in
theorem partEq_any [Elt E] {g sf : Nat} {lb sb : Array Value} {blk size : Nat} {w0 : World} (S : Srt E g sf lb sb blk size w0) (W : World) (d : Array E) (a b p : Nat) (hk : Keeps w0 blk W) (hr : Row W blk d) (hd : d.size = size) (hap : a ≤ p) (hpb : p < b) (hb : b ≤ size) :
    Calls Tryd.prog 64 #[.agg #[.func (.func g) #[] lb, .func (.func sf) #[] sb], .int .i64 a, .int .i64 b, .int .i64 p] W fun e w' => e = .returned (.int .i64 (Go.Sort.partitionEqual Elt.lt d a b p).1) ∧ Keeps W blk w' ∧ Row w' blk (Go.Sort.partitionEqual Elt.lt d a b p).2 := by
  have eg := S.enter
  have few := S.few
  have O := Lib.hid (On.start S hk hr hd 91)
  have HS := Lib.hid S
  clear S hk hr
  go_enter Tryd.func64, Tryd.ntmps64
  have c1 := O.out.c1
  go_wp2_with fail
  obtain ⟨w1, hs, O1⟩ := O.out.exch HS.out (a : Int) (p : Int) a p rfl rfl (by omega) (by omega)
  rw [hs, Oper.upon_value]
  clear c1 hs O
  have O := Lib.hid O1; clear O1
  go_wp2_with fail
  go_loopw [9, 10] (fun vi vj wr => ∃ (i j : Nat) (dk : Array E), vi = .int .i64 i ∧ vj = .int .i64 j ∧ a < i ∧ i ≤ j + 2 ∧ j < b ∧ Hid (On g sf lb sb blk size w0 W dk wr) ∧ Hid (Go.Sort.partEqLoop Elt.lt a i j dk = Go.Sort.partEqLoop Elt.lt a (a + 1) (b - 1) (Go.Sort.swp d a p))) (fun vi vj _ => (intOf vj + 1 - intOf vi).toNat)
  case atStart => exact ⟨a + 1, b - 1, Go.Sort.swp d a p, by go_num, by congr 1; omega, by omega, by omega, by omega, O, Lib.hid rfl⟩
  case round =>
    clear O
    obtain ⟨i, j, dk, rfl, rfl, hai, hij, hjb, O, HO⟩ := hrel
    have HQ := Lib.hid (Go.Sort.partEqLoop_eq Elt.lt a i j dk)
    go_upto_block 2 with fail
    go_cut [9] from 20 to 32 (fun sx wc => sx = .int .i64 (Go.Sort.scanUp (fun x => !Elt.lt dk[a]! x) dk j i : Nat) ∧ Hid (On g sf lb sb blk size w0 W dk wc))
    case first =>
      go_wp2_with fail
      go_loopw [9] (fun vi wr => ∃ (k : Nat), vi = .int .i64 k ∧ i ≤ k ∧ k ≤ j + 2 ∧ Hid (On g sf lb sb blk size w0 W dk wr) ∧ Hid (Go.Sort.scanUp (fun x => !Elt.lt dk[a]! x) dk j k = Go.Sort.scanUp (fun x => !Elt.lt dk[a]! x) dk j i)) (fun vi _ => j + 2 - (intOf vi).toNat)
      case atStart => exact ⟨i, rfl, Nat.le_refl _, hij, O, Lib.hid rfl⟩
      case round =>
        clear O
        obtain ⟨k, rfl, hik, hkj, O, HI⟩ := hrel
        have c0 := O.out.c0
        by_cases hkj' : k ≤ j
        · cases hv : Elt.lt dk[a]! dk[k]! with
          | false =>
            go_wp2_with fail
            refine (O.out.cmp HS.out a k false hv rfl rfl (by omega) (by omega)).mono ?_
            rintro e w2 ⟨rfl, O2⟩
            go_wp2_with fail
            go_roundw
            case rel => exact ⟨k + 1, by go_num, by omega, by omega, Lib.hid O2, Lib.hid (by rw [← HI.out, scanUp_on _ dk j k hkj' (by simp [hv])])⟩
            case measure => simp [intOf]; omega
          | true =>
            go_wp2_with fail
            refine (O.out.cmp HS.out a k true hv rfl rfl (by omega) (by omega)).mono ?_
            rintro e w2 ⟨rfl, O2⟩
            go_wp2_with fail
            go_meet
            case rel => exact ⟨by rw [← HI.out, scanUp_out _ dk j k (Or.inr (by simp [hv]))], Lib.hid O2⟩
        · go_wp2_with fail
          go_meet
          case rel => exact ⟨by rw [← HI.out, scanUp_out _ dk j k (Or.inl hkj')], O⟩
    case rest =>
      clear O
      obtain ⟨rfl, O⟩ := hcut
      obtain ⟨u1, u2⟩ := scanUp_in (fun x => !Elt.lt dk[a]! x) dk j _ i (Nat.le_refl _) hij
      generalize Go.Sort.scanUp (fun x => !Elt.lt dk[a]! x) dk j i = i2 at u1 u2 HQ ⊢
      go_upto_block 4 with fail
      go_cut [10] from 33 to 44 (fun sx wc => sx = .int .i64 (Go.Sort.scanDown (fun x => Elt.lt dk[a]! x) dk i2 j : Nat) ∧ Hid (On g sf lb sb blk size w0 W dk wc))
      case first =>
        go_wp2_with fail
        go_loopw [10] (fun vj wr => ∃ (k : Nat), vj = .int .i64 k ∧ k ≤ j ∧ Hid (On g sf lb sb blk size w0 W dk wr) ∧ Hid (Go.Sort.scanDown (fun x => Elt.lt dk[a]! x) dk i2 k = Go.Sort.scanDown (fun x => Elt.lt dk[a]! x) dk i2 j)) (fun vj _ => (intOf vj).toNat)
        case atStart => exact ⟨j, rfl, Nat.le_refl _, O, Lib.hid rfl⟩
        case round =>
          clear O
          obtain ⟨k, rfl, hkj, O, HI⟩ := hrel
          have c0 := O.out.c0
          by_cases hkj' : i2 ≤ k
          · cases hv : Elt.lt dk[a]! dk[k]! with
            | true =>
              go_wp2_with fail
              refine (O.out.cmp HS.out a k true hv rfl rfl (by omega) (by omega)).mono ?_
              rintro e w2 ⟨rfl, O2⟩
              go_wp2_with fail
              go_roundw
              case rel => exact ⟨k - 1, by congr 1; omega, by omega, Lib.hid O2, Lib.hid (by rw [← HI.out, scanDown_on _ dk i2 k (by omega) hkj' (by simp [hv])])⟩
              case measure => simp [intOf]; omega
            | false =>
              go_wp2_with fail
              refine (O.out.cmp HS.out a k false hv rfl rfl (by omega) (by omega)).mono ?_
              rintro e w2 ⟨rfl, O2⟩
              go_wp2_with fail
              go_meet
              case rel => exact ⟨by rw [← HI.out, scanDown_out _ dk i2 k (Or.inr (by simp [hv]))], Lib.hid O2⟩
          · go_wp2_with fail
            go_meet
            case rel => exact ⟨by rw [← HI.out, scanDown_out _ dk i2 k (Or.inl hkj')], O⟩
      case rest =>
        clear O
        obtain ⟨rfl, O⟩ := hcut
        have v1 := Go.Sort.scanDown_le (fun x => Elt.lt dk[a]! x) dk i2 j
        generalize Go.Sort.scanDown (fun x => Elt.lt dk[a]! x) dk i2 j = j2 at v1 HQ ⊢
        by_cases hc : i2 > j2
        · go_wp2_with fail
          go_ret
          have e : Go.Sort.partitionEqual Elt.lt d a b p = (i2, dk) := by unfold Go.Sort.partitionEqual; rw [← HO.out, HQ.out, if_pos hc]
          rw [e]
          exact ⟨rfl, O.out.own, O.out.row⟩
        · have c1 := O.out.c1
          go_wp2_with fail
          obtain ⟨w3, hs, O3⟩ := O.out.exch HS.out (i2 : Int) (j2 : Int) i2 j2 rfl rfl (by omega) (by omega)
          rw [hs, Oper.upon_value]
          clear c1 hs
          go_wp2_with fail
          go_roundw
          case rel => exact ⟨i2 + 1, j2 - 1, Go.Sort.swp dk i2 j2, by go_num, by congr 1; omega, by omega, by omega, by omega, Lib.hid O3, Lib.hid (by rw [← HO.out, HQ.out, if_neg hc])⟩
          case measure => simp [intOf]; omega
end Go.Proofs.YtoocmogmocapoaaDoor
