/-
  sort.siftDown_func and sort.heapSort_func over a row, whatever the comparison lays.
-/
import Derived.Test.YtoocmogmocapoaaDoorSortRow
namespace Go.Proofs.YtoocmogmocapoaaDoor
open Go.RowKit
variable {E : Type} [Inhabited E]

set_option maxHeartbeats 1000000 in
set_option maxRecDepth 100000 in
theorem sift_any [Elt E] {g sf : Nat} {lb sb : Array Value} {blk size : Nat} {w0 : World} (S : Srt E g sf lb sb blk size w0) (W : World) (d : Array E) (lo hi f : Nat) (hk : Keeps w0 blk W) (hr : Row W blk d) (hd : d.size = size) (hlo : lo ≤ hi) (hf : f + hi ≤ size) :
    Calls Tryd.prog 70 #[.agg #[.func (.func g) #[] lb, .func (.func sf) #[] sb], .int .i64 lo, .int .i64 hi, .int .i64 f] W fun e w' => e = .returned (.tuple #[]) ∧ Keeps W blk w' ∧ Row w' blk (Go.Sort.siftDown Elt.lt hi f lo d) := by
  have eg := S.enter
  have few := S.few
  have O := Lib.hid (On.start S hk hr hd 91)
  have HS := Lib.hid S
  clear S hk hr
  go_enter Tryd.func70, Tryd.ntmps70
  go_wp2
  go_loopw [8] (fun v wr => ∃ (r : Nat) (dk : Array E), v = .int .i64 r ∧ r ≤ hi ∧ Hid (On g sf lb sb blk size w0 W dk wr) ∧ Hid (Go.Sort.siftDown Elt.lt hi f r dk = Go.Sort.siftDown Elt.lt hi f lo d)) (fun v _ => hi - (intOf v).toNat)
  case atStart => exact ⟨lo, d, by go_num, by omega, O, Lib.hid rfl⟩
  case round =>
    clear O
    obtain ⟨r, dk, rfl, hrh, O, HO⟩ := hrel
    by_cases h1 : hi ≤ 2 * r + 1
    · have t1 : (hi : Int) ≤ 2 * (r : Int) + 1 := by omega
      go_wp2_with fail
      first | go_end0 | ((try simp only [Exit.inBlock, Exit.then]); refine bodyPost_ret (results_none rfl _ _ _) rfl ?_)
      have e : Go.Sort.siftDown Elt.lt hi f lo d = dk := by rw [← HO.out, sd_end Elt.lt hi f r dk h1]
      exact ⟨rfl, O.out.own, by rw [e]; exact O.out.row⟩
    · have t1 : ¬ (hi : Int) ≤ 2 * (r : Int) + 1 := by omega
      by_cases h2 : 2 * r + 2 < hi
      · have t2 : 2 * (r : Int) + 1 + 1 < (hi : Int) := by omega
        have c0 := O.out.c0
        cases hl : Elt.lt dk[f + (2 * r + 1)]! dk[f + (2 * r + 2)]! with
        | true =>
          go_wp2_with fail
          refine (O.out.cmp HS.out (f + (2 * r + 1)) (f + (2 * r + 2)) true hl (by omega) (by omega) (by omega) (by omega)).mono ?_
          rintro e w1 ⟨rfl, O1⟩
          clear c0
          have c0 := O1.c0
          cases hg : Elt.lt dk[f + r]! dk[f + (2 * r + 2)]! with
          | true =>
            go_wp2_with fail
            refine (O1.cmp HS.out (f + r) (f + (2 * r + 2)) true hg (by omega) (by omega) (by omega) (by omega)).mono ?_
            rintro e w2 ⟨rfl, O2⟩
            have c1 := O2.c1
            go_wp2_with fail
            obtain ⟨w3, hs, O3⟩ := O2.exch HS.out ((f : Int) + r) ((f : Int) + (2 * (r : Int) + 1 + 1)) (f + r) (f + (2 * r + 2)) (by omega) (by omega) (by omega) (by omega)
            rw [hs, Oper.upon_value]
            clear c0 c1 O2 hs
            go_wp2_with fail
            go_roundw
            case rel => exact ⟨2 * r + 2, Go.Sort.swp dk (f + r) (f + (2 * r + 2)), by congr 1 <;> omega, by omega, Lib.hid O3, Lib.hid (by rw [← HO.out, sd_right Elt.lt hi f r dk h2 hl, if_pos hg])⟩
            case measure => simp [intOf]; omega
          | false =>
            go_wp2_with fail
            refine (O1.cmp HS.out (f + r) (f + (2 * r + 2)) false hg (by omega) (by omega) (by omega) (by omega)).mono ?_
            rintro e w2 ⟨rfl, O2⟩
            go_wp2_with fail
            first | go_end0 | ((try simp only [Exit.inBlock, Exit.then]); refine bodyPost_ret (results_none rfl _ _ _) rfl ?_)
            have e : Go.Sort.siftDown Elt.lt hi f lo d = dk := by rw [← HO.out, sd_right Elt.lt hi f r dk h2 hl, if_neg (by rw [hg]; exact Bool.noConfusion)]
            exact ⟨rfl, O2.own, by rw [e]; exact O2.row⟩
        | false =>
          go_wp2_with fail
          refine (O.out.cmp HS.out (f + (2 * r + 1)) (f + (2 * r + 2)) false hl (by omega) (by omega) (by omega) (by omega)).mono ?_
          rintro e w1 ⟨rfl, O1⟩
          clear c0
          have c0 := O1.c0
          cases hg : Elt.lt dk[f + r]! dk[f + (2 * r + 1)]! with
          | true =>
            go_wp2_with fail
            refine (O1.cmp HS.out (f + r) (f + (2 * r + 1)) true hg (by omega) (by omega) (by omega) (by omega)).mono ?_
            rintro e w2 ⟨rfl, O2⟩
            have c1 := O2.c1
            go_wp2_with fail
            obtain ⟨w3, hs, O3⟩ := O2.exch HS.out ((f : Int) + r) ((f : Int) + (2 * (r : Int) + 1)) (f + r) (f + (2 * r + 1)) (by omega) (by omega) (by omega) (by omega)
            rw [hs, Oper.upon_value]
            clear c0 c1 O2 hs
            go_wp2_with fail
            go_roundw
            case rel => exact ⟨2 * r + 1, Go.Sort.swp dk (f + r) (f + (2 * r + 1)), by congr 1 <;> omega, by omega, Lib.hid O3, Lib.hid (by rw [← HO.out, sd_left Elt.lt hi f r dk (by omega) (fun _ => hl), if_pos hg])⟩
            case measure => simp [intOf]; omega
          | false =>
            go_wp2_with fail
            refine (O1.cmp HS.out (f + r) (f + (2 * r + 1)) false hg (by omega) (by omega) (by omega) (by omega)).mono ?_
            rintro e w2 ⟨rfl, O2⟩
            go_wp2_with fail
            first | go_end0 | ((try simp only [Exit.inBlock, Exit.then]); refine bodyPost_ret (results_none rfl _ _ _) rfl ?_)
            have e : Go.Sort.siftDown Elt.lt hi f lo d = dk := by rw [← HO.out, sd_left Elt.lt hi f r dk (by omega) (fun _ => hl), if_neg (by rw [hg]; exact Bool.noConfusion)]
            exact ⟨rfl, O2.own, by rw [e]; exact O2.row⟩
      · have t2 : ¬ 2 * (r : Int) + 1 + 1 < (hi : Int) := by omega
        have c0 := O.out.c0
        cases hg : Elt.lt dk[f + r]! dk[f + (2 * r + 1)]! with
        | true =>
          go_wp2_with fail
          refine (O.out.cmp HS.out (f + r) (f + (2 * r + 1)) true hg (by omega) (by omega) (by omega) (by omega)).mono ?_
          rintro e w2 ⟨rfl, O2⟩
          have c1 := O2.c1
          go_wp2_with fail
          obtain ⟨w3, hs, O3⟩ := O2.exch HS.out ((f : Int) + r) ((f : Int) + (2 * (r : Int) + 1)) (f + r) (f + (2 * r + 1)) (by omega) (by omega) (by omega) (by omega)
          rw [hs, Oper.upon_value]
          clear c0 c1 O2 hs
          go_wp2_with fail
          go_roundw
          case rel => exact ⟨2 * r + 1, Go.Sort.swp dk (f + r) (f + (2 * r + 1)), by congr 1 <;> omega, by omega, Lib.hid O3, Lib.hid (by rw [← HO.out, sd_left Elt.lt hi f r dk (by omega) (fun h => absurd h h2), if_pos hg])⟩
          case measure => simp [intOf]; omega
        | false =>
          go_wp2_with fail
          refine (O.out.cmp HS.out (f + r) (f + (2 * r + 1)) false hg (by omega) (by omega) (by omega) (by omega)).mono ?_
          rintro e w2 ⟨rfl, O2⟩
          go_wp2_with fail
          first | go_end0 | ((try simp only [Exit.inBlock, Exit.then]); refine bodyPost_ret (results_none rfl _ _ _) rfl ?_)
          have e : Go.Sort.siftDown Elt.lt hi f lo d = dk := by rw [← HO.out, sd_left Elt.lt hi f r dk (by omega) (fun h => absurd h h2), if_neg (by rw [hg]; exact Bool.noConfusion)]
          exact ⟨rfl, O2.own, by rw [e]; exact O2.row⟩
end Go.Proofs.YtoocmogmocapoaaDoor
