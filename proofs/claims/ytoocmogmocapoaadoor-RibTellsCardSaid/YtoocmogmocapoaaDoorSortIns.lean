/-
  sort.insertionSort_func over a row, whatever the comparison lays.
-/
import Derived.Test.YtoocmogmocapoaaDoorSortRow
namespace Go.Proofs.YtoocmogmocapoaaDoor
open Go.RowKit
variable {E : Type} [Inhabited E]

set_option maxHeartbeats 1000000 in
set_option maxRecDepth 100000 in
theorem insSort_any [Elt E] {g sf : Nat} {lb sb : Array Value} {blk size : Nat} {w0 : World} (S : Srt E g sf lb sb blk size w0) (W : World) (d : Array E) (a b : Nat) (hk : Keeps w0 blk W) (hr : Row W blk d) (hd : d.size = size) (hab : a ≤ b) (hb : b ≤ size) :
    Calls Tryd.prog 58 #[.agg #[.func (.func g) #[] lb, .func (.func sf) #[] sb], .int .i64 a, .int .i64 b] W fun e w' => e = .returned (.tuple #[]) ∧ Keeps W blk w' ∧ Row w' blk (Go.Sort.insertionSort Elt.lt d a b) := by
  have eg := S.enter
  have few := S.few
  have O := Lib.hid (On.start S hk hr hd 91)
  have HS := Lib.hid S
  clear S hk hr
  go_enter Tryd.func58, Tryd.ntmps58
  go_wp2
  go_loopw [6] (fun vi wr => ∃ (i : Nat) (dk : Array E), vi = .int .i64 i ∧ a < i ∧ i ≤ b + 1 ∧ Hid (On g sf lb sb blk size w0 W dk wr) ∧ Hid (Go.Sort.insOuter Elt.lt a b i dk = Go.Sort.insOuter Elt.lt a b (a + 1) d)) (fun vi _ => b + 1 - (intOf vi).toNat)
  case atStart => exact ⟨a + 1, d, by go_num, by omega, by omega, O, Lib.hid rfl⟩
  case round =>
    obtain ⟨i, dk, rfl, hai, hib, O, HO⟩ := hrel
    go_wp2
    · go_loopw [7] (fun vj wr2 => ∃ (j : Nat) (dj : Array E), vj = .int .i64 j ∧ a ≤ j ∧ j ≤ i ∧ Hid (On g sf lb sb blk size w0 W dj wr2) ∧ Hid (Go.Sort.insInner Elt.lt a j dj = Go.Sort.insInner Elt.lt a i dk)) (fun vj _ => (intOf vj).toNat)
      case atStart => exact ⟨i, dk, rfl, by omega, Nat.le_refl _, O, Lib.hid rfl⟩
      case round =>
        clear O
        obtain ⟨j, dj, rfl, haj, hji, O, HI⟩ := hrel
        have hlt : i < b := by assumption
        have c0 := O.out.c0
        by_cases hja : a < j
        · have hl := O.out.less HS.out j (j - 1) (by omega) (by omega)
          rw [show (((j - 1 : Nat) : Int)) = (j : Int) - 1 by omega] at hl
          cases hlv : Elt.lt dj[j]! dj[j - 1]! with
          | true =>
            rw [hlv] at hl
            go_wp2_with fail
            refine hl.mono ?_
            rintro e w1 ⟨rfl, O1⟩
            have c1 := O1.c1
            go_wp2_with fail
            obtain ⟨w2, hs, O2⟩ := O1.swap HS.out j (j - 1) (by omega) (by omega)
            rw [show (((j - 1 : Nat) : Int)) = (j : Int) - 1 by omega] at hs
            rw [hs, Oper.upon_value]
            clear c0 c1 O1 hs
            go_wp2_with fail
            go_roundw
            case rel =>
              (repeat apply Exists.intro)
              refine ⟨⟨j - 1, Go.Sort.swp dj j (j - 1), by congr 1 <;> omega, by omega, by omega, Lib.hid O2, Lib.hid (by rw [← HI.out, ins_go Elt.lt a j dj hja hlv])⟩, by rw [decide_eq_true hlt, show ((j - 1 : Nat) : Int) = (j : Int) - 1 by omega]⟩
            case measure => simp [intOf]; omega
          | false =>
            rw [hlv] at hl
            go_wp2_with fail
            refine hl.mono ?_
            rintro e w1 ⟨rfl, O1⟩
            go_wp2_with fail
            go_roundw
            case rel => exact ⟨i + 1, dj, by go_num, by omega, by omega, Lib.hid O1, Lib.hid (by rw [← HO.out, insO_go Elt.lt a b i dk hlt, ← HI.out, ins_stop Elt.lt a j dj (Or.inr hlv)])⟩
            case measure => simp [intOf]; omega
        · go_wp2_with fail
          go_roundw
          case rel => exact ⟨i + 1, dj, by go_num, by omega, by omega, O, Lib.hid (by rw [← HO.out, insO_go Elt.lt a b i dk hlt, ← HI.out, ins_stop Elt.lt a j dj (Or.inl (by omega))])⟩
          case measure => simp [intOf]; omega
    · have hge : ¬ i < b := by assumption
      go_end0
      have e : Go.Sort.insertionSort Elt.lt d a b = dk := by unfold Go.Sort.insertionSort; rw [← HO.out, insO_stop Elt.lt a b i dk hge]
      exact ⟨rfl, O.out.own, by rw [e]; exact O.out.row⟩
end Go.Proofs.YtoocmogmocapoaaDoor
