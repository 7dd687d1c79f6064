/-
  The statements' own In: does a list have a number; nothing in memory turns.
-/
import Derived.Test.YtdgfaolflnljaaaDoorIntList
import Derived.LoopN
namespace Go.Proofs.YtdgfaolflnljaaaDoor
open Go.RowKit

set_option maxHeartbeats 1000000 in
set_option maxRecDepth 100000 in
theorem in_some (w : World) (b off c : Nat) (l : List Int) (x : Int) (hn : l.length < 4611686018427387904) (hs : SeenI w b off l) :
    Calls Tryd.prog 15 #[.slice (some ⟨b, off, none⟩) l.length c, .int .i64 x] w fun e w' => e = .returned (.bool (decide (x ∈ l))) ∧ w = w' := by
  have HS := Lib.hid hs; clear hs
  go_enter Tryd.func15, Tryd.ntmps15
  go_wp2_with fail
  go_loopw [5] (fun v wr => ∃ (k : Nat), v = .int .i64 k ∧ k ≤ l.length ∧ Hid (w = wr) ∧ Hid (decide (x ∈ l.drop k) = decide (x ∈ l))) (fun v _ => l.length - (intOf v).toNat)
  case atStart => exact ⟨0, rfl, Nat.zero_le _, Lib.hid rfl, Lib.hid rfl⟩
  case round =>
    obtain ⟨k, rfl, hk, hW, HE⟩ := hrel
    obtain rfl := hW.out
    clear hW
    by_cases hkn : k < l.length
    · have a0 := HS.out k hkn
      have hd := Lib.hid (show l.drop k = l[k]! :: l.drop (k + 1) by rw [getElem!_pos l k hkn]; exact List.drop_eq_getElem_cons hkn)
      generalize l[k]! = y at a0 hd
      by_cases h1 : y = x
      · have E : Hid (decide (x ∈ l) = true) := Lib.hid (by rw [← HE.out, hd.out]; simp [h1])
        subst h1
        go_wp2_with fail
        go_ret
        exact ⟨by rw [E.out]; rfl, rfl⟩
      · have t1 : (y == x) = false := by simpa using h1
        have E : Hid (decide (x ∈ l.drop (k + 1)) = decide (x ∈ l)) := Lib.hid (by
          have h2 : ¬ x = y := fun e => h1 e.symm
          rw [← HE.out, hd.out]; simp [h2])
        clear h1
        go_wp2_with fail
        go_roundw
        case rel => exact ⟨k + 1, by go_num, by omega, Lib.hid trivial, E⟩
        case measure => simp [intOf]; omega
    · have E : Hid (decide (x ∈ l) = false) := Lib.hid (by rw [← HE.out, List.drop_eq_nil_of_le (by omega)]; simp)
      go_wp2_with fail
      go_ret
      exact ⟨by rw [E.out]; rfl, rfl⟩
set_option maxHeartbeats 400000 in
set_option maxRecDepth 100000 in
theorem in_none (w : World) (p : Option Addr) (c : Nat) (x : Int) :
    Calls Tryd.prog 15 #[.slice p 0 c, .int .i64 x] w fun e w' => e = .returned (.bool false) ∧ w = w' := by
  go_enter Tryd.func15, Tryd.ntmps15
  go_wp2_with fail
  refine wp_loop_rounds 1 ?_
  rw [rounds_succ]
  go_wp2_with fail
  go_ret
  exact ⟨rfl, rfl⟩
/-- waywardenref2.In. -/
theorem refIn_any (w : World) (v : Value) (l : List Int) (x : Int) (hn : l.length < 4611686018427387904) (h : ArgI w v l) :
    Calls Tryd.prog 15 #[v, .int .i64 x] w fun e w' => e = .returned (.bool (decide (x ∈ l))) ∧ w' = w := by
  obtain ⟨p, c, rfl, h⟩ := h
  rcases h with rfl | ⟨b, off, rfl, _, hs⟩
  · exact (in_none w p c x).mono fun _ _ h => ⟨h.1, h.2.symm⟩
  · exact (in_some w b off c l x hn hs).mono fun _ _ h => ⟨h.1, h.2.symm⟩
end Go.Proofs.YtdgfaolflnljaaaDoor
