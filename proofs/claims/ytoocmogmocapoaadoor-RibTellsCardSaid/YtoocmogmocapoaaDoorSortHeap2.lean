/-
  sort.heapSort_func over a row, whatever the comparison lays.
-/
import Derived.Test.YtoocmogmocapoaaDoorSortHeap
namespace Go.Proofs.YtoocmogmocapoaaDoor
open Go.RowKit
variable {E : Type} [Inhabited E]

set_option maxHeartbeats 1000000 in
set_option maxRecDepth 100000 in
theorem heap_any [Elt E] {g sf : Nat} {lb sb : Array Value} {blk size : Nat} {w0 : World} (S : Srt E g sf lb sb blk size w0) (W : World) (d : Array E) (a b : Nat) (hk : Keeps w0 blk W) (hr : Row W blk d) (hd : d.size = size) (hab : a < b) (hb : b ≤ size) :
    Calls Tryd.prog 59 #[.agg #[.func (.func g) #[] lb, .func (.func sf) #[] sb], .int .i64 a, .int .i64 b] W fun e w' => e = .returned (.tuple #[]) ∧ Keeps W blk w' ∧ Row w' blk (Go.Sort.heapSort Elt.lt d a b) := by
  have eg := S.enter
  have few := S.few
  have O := Lib.hid (On.start S hk hr hd 91)
  have HS := Lib.hid S
  clear S hk hr
  go_enter Tryd.func59, Tryd.ntmps59
  go_wp2
  go_loopw [9] (fun v wr => ∃ (k : Nat) (dk : Array E), v = .int .i64 ((k : Int) - 1) ∧ k ≤ (b - a - 1) / 2 + 1 ∧ Hid (On g sf lb sb blk size w0 W dk wr) ∧ Hid (Go.Sort.heapBuild Elt.lt (b - a) a k dk = Go.Sort.heapBuild Elt.lt (b - a) a ((b - a - 1) / 2 + 1) d)) (fun v _ => (intOf v + 1).toNat)
  case atStart => exact ⟨(b - a - 1) / 2 + 1, d, by congr 1; omega, Nat.le_refl _, O, Lib.hid rfl⟩
  case round =>
    clear O
    obtain ⟨k, dk, rfl, hkk, O, HO⟩ := hrel
    cases k with
    | zero =>
      have HB := Lib.hid (show dk = Go.Sort.heapBuild Elt.lt (b - a) a ((b - a - 1) / 2 + 1) d from HO.out)
      clear HO hkk
      go_wp2_with fail
      go_loopw [10] (fun v wr => ∃ (k : Nat) (dj : Array E), v = .int .i64 ((k : Int) - 1) ∧ k ≤ b - a ∧ Hid (On g sf lb sb blk size w0 W dj wr) ∧ Hid (Go.Sort.heapPop Elt.lt a k dj = Go.Sort.heapPop Elt.lt a (b - a) dk)) (fun v _ => (intOf v + 1).toNat)
      case atStart => exact ⟨b - a, dk, by congr 1; omega, Nat.le_refl _, O, Lib.hid rfl⟩
      case round =>
        clear O
        obtain ⟨k, dj, rfl, hkk, O, HO⟩ := hrel
        cases k with
        | zero =>
          go_wp2_with fail
          first | go_end0 | ((try simp only [Exit.inBlock, Exit.then]); refine bodyPost_ret (results_none rfl _ _ _) rfl ?_)
          have e : Go.Sort.heapSort Elt.lt d a b = dj := by
            have h : dj = Go.Sort.heapPop Elt.lt a (b - a) dk := HO.out
            unfold Go.Sort.heapSort
            rw [← HB.out, ← h]
          exact ⟨rfl, O.out.own, by rw [e]; exact O.out.row⟩
        | succ k =>
          rw [show ((k + 1 : Nat) : Int) - 1 = (k : Int) by omega]
          have c1 := O.out.c1
          go_wp2_with fail
          obtain ⟨w1, hs, O1⟩ := O.out.exch HS.out (a : Int) ((a : Int) + k) a (a + k) (by omega) (by omega) (by omega) (by omega)
          rw [hs, Oper.upon_value]
          clear c1 hs
          have c0 := O1.c0
          have c1 := O1.c1
          have hc := sift_any HS.out w1 (Go.Sort.swp dj a (a + k)) 0 k a O1.base O1.row O1.dsz (by omega) (by omega)
          go_wp2_with fail
          refine hc.mono ?_
          rintro e w2 ⟨rfl, hk2, hr2⟩
          have O2 := O1.call hr2 hk2 (by rw [sd_size Elt.lt k k a 0 _ (by omega)]; exact O1.dsz)
          clear c0 c1 hc hk2 hr2
          go_wp2_with fail
          go_roundw
          case rel =>
            (repeat apply Exists.intro)
            exact ⟨⟨k, _, rfl, by omega, Lib.hid O2, HO⟩, rfl⟩
          case measure => simp [intOf]
    | succ k =>
      rw [show ((k + 1 : Nat) : Int) - 1 = (k : Int) by omega]
      have c0 := O.out.c0
      have c1 := O.out.c1
      have hc := sift_any HS.out wr dk k (b - a) a O.out.base O.out.row O.out.dsz (by omega) (by omega)
      rw [show ((b - a : Nat) : Int) = (b : Int) - a by omega] at hc
      go_wp2_with fail
      refine hc.mono ?_
      rintro e w2 ⟨rfl, hk2, hr2⟩
      have O2 := O.out.call hr2 hk2 (by rw [sd_size Elt.lt (b - a) (b - a) a k _ (by omega)]; exact O.out.dsz)
      clear c0 c1 hc hk2 hr2
      go_wp2_with fail
      go_roundw
      case rel => exact ⟨k, _, by congr 1, by omega, Lib.hid O2, HO⟩
      case measure => simp [intOf]
end Go.Proofs.YtoocmogmocapoaaDoor
