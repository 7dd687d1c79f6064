/-
  slices.Equal at every two lists of numbers; what lay in memory stays.
-/
import Derived.Test.YtjgmehmhhplkaaaSameInts
namespace Go.Proofs.Ytjgmehmhhplkaaa
open Go.RowKit Go.Lib

set_option maxHeartbeats 1000000 in
set_option maxRecDepth 100000 in
theorem equalI_some (w : World) (b off c b' off' c' : Nat) (l m : List Int) (hn : l.length < 4611686018427387904) (he : l.length = m.length) (hb : b < w.heap.size) (hb' : b' < w.heap.size) (hs : SeenI w b off l) (hs' : SeenI w b' off' m) :
    Calls Try.prog 21 #[.slice (some ⟨b, off, none⟩) l.length c, .slice (some ⟨b', off', none⟩) m.length c'] w fun e w' => e = .returned (.bool (decide (l = m))) ∧ Below w.heap.size w w' := by
  rw [← he]
  have HS := Lib.hid hs; have HS' := Lib.hid hs'
  have HL := Lib.hid he
  clear hs hs' he
  go_enter Try.func21, Try.ntmps21
  go_wp2_with fail
  go_loopw [13] (fun v wr => ∃ (k : Nat), v = .int .i64 k ∧ k ≤ l.length ∧ Hid (Below w.heap.size w wr) ∧ Hid (l.take k = m.take k)) (fun v _ => l.length - (RowKit.intOf v).toNat)
  case atStart => exact ⟨0, rfl, Nat.zero_le _, Lib.hid (Below.refl _ _), Lib.hid rfl⟩
  case round =>
    obtain ⟨k, rfl, hk, hB, HE⟩ := hrel
    by_cases hkn : k < l.length
    · have S := HS.out.below hB.out hb
      have S' := HS'.out.below hB.out hb'
      have hkm : k < m.length := by rw [← HL.out]; exact hkn
      have a0 := S k hkn
      have d0 := S' k hkm
      have HT := fun h => Lib.hid (take_more hkn hkm HE.out h)
      have HX : Hid (l[k]! ≠ m[k]! → decide (l = m) = false) := Lib.hid fun h => decide_eq_false fun e => h (by rw [e])
      clear S S' hkm
      generalize l[k]! = x at a0 HT HX
      generalize m[k]! = y at d0 HT HX
      by_cases h1 : x = y
      · have HT' := HT h1
        subst h1
        clear HT HX
        go_wp2_with fail
        go_region
        go_wp2_with fail
        go_roundw
        case rel => exact ⟨k + 1, by go_num, by omega, Lib.hid hB.out.drew, HT'⟩
        case measure => simp [RowKit.intOf]; omega
      · have t1 : (x != y) = true := by simpa using h1
        have e : decide (l = m) = false := HX.out h1
        clear HT HX h1
        go_wp2_with fail
        go_region
        go_wp2_with fail
        go_ret
        exact ⟨by rw [e]; rfl, hB.out.drew⟩
    · have e : decide (l = m) = true := decide_eq_true (by
        have := HE.out
        rwa [List.take_of_length_le (by omega), List.take_of_length_le (by rw [← HL.out]; omega)] at this)
      go_wp2_with fail
      go_ret
      exact ⟨by rw [e]; rfl, hB.out⟩
end Go.Proofs.Ytjgmehmhhplkaaa
