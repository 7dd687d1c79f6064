/-
  The document's Compared at every two lists of numbers: the world stays as it was.
-/
import Derived.Test.YtomfkmclgabcpaaWaysPlain
import Derived.Test.YtomfkmclgabcpaaIntList
import Derived.Deep.RegionHeld3
import Derived.Deep.QuietTactic
import Derived.BigQuiet
namespace Go.Proofs.Ytomfkmclgabcpaa
open Go.RowKit Go.Lib

theorem cmp_nil (s : List Int) : WaysP.cmp [] s = -(s.length : Int) := by cases s <;> simp [WaysP.cmp]
theorem cmp_nil' (r : List Int) : WaysP.cmp r [] = (r.length : Int) := by cases r <;> simp [WaysP.cmp]
set_option maxHeartbeats 2000000 in
set_option maxRecDepth 100000 in
/-- waywardenref2.Compared, both lists having numbers. -/
theorem compared_some (w : World) (b off c b' off' c' : Nat) (l m : List Int) (hn : l.length < 4611686018427387904) (hm : m.length < 4611686018427387904) (hs : SeenI w b off l) (hs' : SeenI w b' off' m) :
    Calls Try.prog 10 #[.slice (some ⟨b, off, none⟩) l.length c, .slice (some ⟨b', off', none⟩) m.length c'] w fun e w' => e = .returned (.int .i64 (WaysP.cmp l m)) ∧ ∃ q, w' = w.drewN q := by
  have HS := Lib.hid hs
  have HS' := Lib.hid hs'
  clear hs hs'
  go_enter Try.func10, Try.ntmps10
  go_wp2_with fail
  go_loopw [5] (fun x wr => ∃ k q : Nat, x = .int .i64 k ∧ k ≤ l.length ∧ k ≤ m.length ∧ wr = w.drewN q ∧ Hid (WaysP.cmp l m = WaysP.cmp (l.drop k) (m.drop k))) (fun x _ => l.length - (RowKit.intOf x).toNat)
  case atStart => exact ⟨0, 0, rfl, Nat.zero_le _, Nat.zero_le _, rfl, Lib.hid rfl⟩
  case round =>
    obtain ⟨k, q, rfl, hk, hk', rfl, HE⟩ := hrel
    by_cases hkl : k < l.length
    · by_cases hkm : k < m.length
      · have a0 := HS.out k hkl
        have a1 := HS'.out k hkm
        have hd : l.drop k = l[k]! :: l.drop (k + 1) := by rw [getElem!_pos l k hkl]; exact List.drop_eq_getElem_cons hkl
        have hd' : m.drop k = m[k]! :: m.drop (k + 1) := by rw [getElem!_pos m k hkm]; exact List.drop_eq_getElem_cons hkm
        have hl : WaysP.cmp l m = if l[k]! < m[k]! then -1 else if m[k]! < l[k]! then 1 else WaysP.cmp (l.drop (k + 1)) (m.drop (k + 1)) := by rw [HE.out, hd, hd']; rfl
        have HL := Lib.hid hl
        clear hl hd hd' HE
        generalize l[k]! = x at a0 HL
        generalize m[k]! = y at a1 HL
        have i0 : (k : Int) < l.length := by omega
        have i1 : (k : Int) < m.length := by omega
        by_cases h1 : x < y
        · have E : Hid (WaysP.cmp l m = -1) := Lib.hid (by rw [HL.out, if_pos h1])
          clear HL
          go_wp2_with fail
          go_quiet (fail)
          go_wp2_with fail
          go_ret
          exact ⟨by rw [E.out]; rfl, _, World.drewN_drewN _ _ _⟩
        · by_cases h2 : y < x
          · have E : Hid (WaysP.cmp l m = 1) := Lib.hid (by rw [HL.out, if_neg h1, if_pos h2])
            have h1' : (x < y) = False := by simp; omega
            have h2' : x > y := h2
            clear HL h1
            go_wp2_with fail
            go_quiet (fail)
            go_wp2_with fail
            go_quiet (fail)
            go_wp2_with fail
            go_ret
            exact ⟨by rw [E.out]; rfl, _, by rw [World.drewN_drewN, World.drewN_drewN]⟩
          · have E : Hid (WaysP.cmp l m = WaysP.cmp (l.drop (k + 1)) (m.drop (k + 1))) := Lib.hid (by rw [HL.out, if_neg h1, if_neg h2])
            have h1' : (x < y) = False := by simp; omega
            have h2' : (x > y) = False := by simp; omega
            clear HL h1 h2
            go_wp2_with fail
            go_quiet (fail)
            go_wp2_with fail
            go_quiet (fail)
            go_wp2_with fail
            go_roundw
            case rel => exact ⟨k + 1, _, by go_num, by omega, by omega, rfl, E⟩
            case measure => simp [RowKit.intOf]; omega
      · obtain rfl : k = m.length := by omega
        have E : Hid (WaysP.cmp l m = (l.length : Int) - m.length) := Lib.hid (by
          rw [HE.out, List.drop_length, cmp_nil', List.length_drop]; omega)
        go_wp2_with fail
        go_ret
        exact ⟨by rw [E.out]; rfl, _, rfl⟩
    · obtain rfl : k = l.length := by omega
      have E : Hid (WaysP.cmp l m = (l.length : Int) - m.length) := Lib.hid (by
        rw [HE.out, List.drop_length, cmp_nil, List.length_drop]; omega)
      go_wp2_with fail
      go_ret
      exact ⟨by rw [E.out]; rfl, _, rfl⟩
end Go.Proofs.Ytomfkmclgabcpaa
