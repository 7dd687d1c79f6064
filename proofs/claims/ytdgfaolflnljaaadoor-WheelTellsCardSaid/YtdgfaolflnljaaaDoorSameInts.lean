/-
  The statements' own comparison of two lists of numbers; what lay in memory stays.
-/
import Derived.Test.YtdgfaolflnljaaaDoorIntList
import Derived.Deep.RegionHeld3
import Derived.LoopN
import Derived.Lib.Walk
namespace Go.Proofs.YtdgfaolflnljaaaDoor
open Go.RowKit Go.Lib

theorem take_more {α : Type} [Inhabited α] {l m : List α} {k : Nat} (h1 : k < l.length) (h2 : k < m.length) (ht : l.take k = m.take k) (he : l[k]! = m[k]!) : l.take (k + 1) = m.take (k + 1) := by
  rw [List.take_succ_eq_append_getElem h1, List.take_succ_eq_append_getElem h2, ht, ← getElem!_pos l k h1, ← getElem!_pos m k h2, he]

set_option maxHeartbeats 1000000 in
set_option maxRecDepth 100000 in
theorem sameInts_some (w : World) (b off c b' off' c' : Nat) (l m : List Int) (hn : l.length < 4611686018427387904) (he : l.length = m.length) (hb : b < w.heap.size) (hb' : b' < w.heap.size) (hs : SeenI w b off l) (hs' : SeenI w b' off' m) :
    Calls Tryd.prog 12 #[.slice (some ⟨b, off, none⟩) l.length c, .slice (some ⟨b', off', none⟩) m.length c'] w fun e w' => e = .returned (.bool (decide (l = m))) ∧ Below w.heap.size w w' := by
  rw [← he]
  have HS := Lib.hid hs; have HS' := Lib.hid hs'
  have HL := Lib.hid he
  clear hs hs' he
  go_enter Tryd.func12, Tryd.ntmps12
  go_wp2_with fail
  go_loopw [5] (fun v wr => ∃ (k : Nat), v = .int .i64 k ∧ k ≤ l.length ∧ Hid (Below w.heap.size w wr) ∧ Hid (l.take k = m.take k)) (fun v _ => l.length - (RowKit.intOf v).toNat)
  case atStart => exact ⟨0, rfl, Nat.zero_le _, Lib.hid (Below.refl _ _), Lib.hid rfl⟩
  case round =>
    obtain ⟨k, rfl, hk, hB, HE⟩ := hrel
    by_cases hkn : k < l.length
    · have S := HS.out.below hB.out hb
      have S' := HS'.out.below hB.out hb'
      have hkm : k < m.length := by rw [← HL.out]; exact hkn
      have a0 := S k hkn
      have d0 := S' k hkm
      have HT := fun h => Lib.hid (take_more hkn hkm HE.out h)
      have HX : Hid (l[k]! ≠ m[k]! → decide (l = m) = false) := Lib.hid fun h => decide_eq_false fun e => h (by rw [e])
      clear S S' hkm
      generalize l[k]! = x at a0 HT HX
      generalize m[k]! = y at d0 HT HX
      by_cases h1 : x = y
      · have HT' := HT h1
        subst h1
        clear HT HX
        go_wp2_with fail
        go_region
        go_wp2_with fail
        go_roundw
        case rel => exact ⟨k + 1, by go_num, by omega, Lib.hid hB.out.drew, HT'⟩
        case measure => simp [RowKit.intOf]; omega
      · have t1 : (x != y) = true := by simpa using h1
        have e : decide (l = m) = false := HX.out h1
        clear HT HX h1
        go_wp2_with fail
        go_region
        go_wp2_with fail
        go_ret
        exact ⟨by rw [e]; rfl, hB.out.drew⟩
    · have e : decide (l = m) = true := decide_eq_true (by
        have := HE.out
        rwa [List.take_of_length_le (by omega), List.take_of_length_le (by rw [← HL.out]; omega)] at this)
      go_wp2_with fail
      go_ret
      exact ⟨by rw [e]; rfl, hB.out⟩

set_option maxHeartbeats 400000 in
set_option maxRecDepth 100000 in
theorem sameInts_unlike (w : World) (p p' : Option Addr) (n c n' c' : Nat) (h : n ≠ n') :
    Calls Tryd.prog 12 #[.slice p n c, .slice p' n' c'] w fun e w' => e = .returned (.bool false) ∧ Below w.heap.size w w' := by
  have t : ((n : Int) != (n' : Int)) = true := by
    have : ¬ (n : Int) = n' := by omega
    simpa using this
  go_enter Tryd.func12, Tryd.ntmps12
  go_wp2_with fail
  go_ret
  exact ⟨rfl, Below.refl _ _⟩
set_option maxHeartbeats 400000 in
set_option maxRecDepth 100000 in
theorem sameInts_none (w : World) (p p' : Option Addr) (c c' : Nat) :
    Calls Tryd.prog 12 #[.slice p 0 c, .slice p' 0 c'] w fun e w' => e = .returned (.bool true) ∧ Below w.heap.size w w' := by
  go_enter Tryd.func12, Tryd.ntmps12
  go_wp2_with fail
  refine wp_loop_rounds 1 ?_
  rw [rounds_succ]
  go_wp2_with fail
  go_ret
  exact ⟨rfl, Below.refl _ _⟩
/-- waywardensame.Ints at every two lists. -/
theorem sameInts_any (w : World) (v v' : Value) (l m : List Int) (hn : l.length < 4611686018427387904) (h : ArgI w v l) (h' : ArgI w v' m) :
    Calls Tryd.prog 12 #[v, v'] w fun e w' => e = .returned (.bool (decide (l = m))) ∧ Below w.heap.size w w' := by
  obtain ⟨p, c, rfl, h⟩ := h
  obtain ⟨p', c', rfl, h'⟩ := h'
  by_cases hl : l.length = m.length
  · rcases h with rfl | ⟨b, off, rfl, hb, hs⟩
    · have e : m = [] := List.length_eq_zero_iff.1 hl.symm
      subst e
      exact sameInts_none w p p' c c'
    · rcases h' with rfl | ⟨b', off', rfl, hb', hs'⟩
      · have e : l = [] := List.length_eq_zero_iff.1 hl
        subst e
        exact sameInts_none w _ p' c c'
      · exact sameInts_some w b off c b' off' c' l m hn hl hb hb' hs hs'
  · rw [decide_eq_false (fun e => hl (by rw [e]))]
    exact sameInts_unlike w p p' l.length c m.length c' hl
end Go.Proofs.YtdgfaolflnljaaaDoor
