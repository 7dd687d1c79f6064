/-
  bell.checkNode and bell.checkEstimates at every two numbers and every list; the world stays as it was.
-/
import Derived.Test.YtjgpibchnpodjaaBellPlain
import Derived.Test.YtjgpibchnpodjaaErrV
import Derived.Test.YtjgpibchnpodjaaDist
import Derived.LoopN
namespace Go.Proofs.Ytjgpibchnpodjaa
open Go.RowKit Go.Lib

/-- The fault of a node. -/
def nodeBad (n to : Int) : Int := if to < 0 ∨ n ≤ to then 1 else 0
theorem nodeBad_zero (n to : Int) : nodeBad n to = 0 ↔ 0 ≤ to ∧ to < n := by
  unfold nodeBad; split
  · constructor
    · intro h; omega
    · intro h; omega
  · constructor
    · intro _; omega
    · intro _; rfl
/-- The fault of what nodes think. -/
def estBad (n : Int) (d : List Int) : Int := if (d.length : Int) ≠ n then 3 else if ∀ x ∈ d, 0 ≤ x ∧ x ≤ 16 then 0 else 1
/-- What is right is a list of distances. -/
theorem est_vec {n : Nat} {d : List Int} (h : estBad n d = 0) : ∃ D : Nat → Nat, d = BellP.vec n D ∧ ∀ i, D i ≤ 16 := by
  unfold estBad at h
  split at h
  · omega
  · rename_i hl
    split at h
    · rename_i ha
      have hl : d.length = n := by omega
      subst hl
      have hr : ∀ i, i < d.length → 0 ≤ d[i]! ∧ d[i]! ≤ 16 := fun i hi => ha _ (memAt hi)
      refine ⟨fun i => if i < d.length then d[i]!.toNat else 0, ?_, fun i => ?_⟩
      · apply List.ext_getElem
        · rw [BellP.vec_len]
        · intro i h1 h2
          have h3 := BellP.vec_at d.length (fun i => if i < d.length then d[i]!.toNat else 0) i h1
          rw [getElem!_pos _ i h2] at h3
          rw [h3]
          have := hr i h1
          rw [if_pos h1, ← getElem!_pos d i h1]
          omega
      · show (if i < d.length then d[i]!.toNat else 0) ≤ 16
        split
        · rename_i hi
          have := hr i hi
          omega
        · omega
    · omega
theorem vec_est (n : Nat) (D : Nat → Nat) (h : ∀ i, i < n → D i ≤ 16) : estBad n (BellP.vec n D) = 0 := by
  unfold estBad
  rw [if_neg (by rw [BellP.vec_len]; omega), if_pos]
  intro x hx
  simp only [BellP.vec, rowTo, List.mem_map, List.mem_range] at hx
  obtain ⟨i, hi, rfl⟩ := hx
  have := h i hi
  omega

set_option maxHeartbeats 400000 in
set_option maxRecDepth 100000 in
/-- bell.checkNode. -/
theorem checkNode_any (w : World) (n to : Int) :
    Calls Try.prog 15 #[.int .i64 n, .int .i64 to] w fun e w' => e = .returned (errV (nodeBad n to)) ∧ w = w' := by
  by_cases h1 : to < 0
  · rw [show nodeBad n to = 1 from if_pos (Or.inl h1)]
    go_enter Try.func15, Try.ntmps15
    go_wp2_with fail
    go_ret
    exact ⟨rfl, rfl⟩
  · by_cases h2 : n ≤ to
    · rw [show nodeBad n to = 1 from if_pos (Or.inr h2)]
      go_enter Try.func15, Try.ntmps15
      go_wp2_with fail
      go_ret
      exact ⟨rfl, rfl⟩
    · rw [show nodeBad n to = 0 from if_neg (by omega)]
      go_enter Try.func15, Try.ntmps15
      go_wp2_with fail
      go_ret
      exact ⟨rfl, rfl⟩

set_option maxHeartbeats 400000 in
set_option maxRecDepth 100000 in
theorem checkEst_len (w : World) (p : Option Addr) (m c : Nat) (n : Int) (h : (m : Int) ≠ n) :
    Calls Try.prog 16 #[.int .i64 n, .slice p m c] w fun e w' => e = .returned (.iface 45 (.int .i64 3)) ∧ w = w' := by
  have t : ((m : Int) != n) = true := by simpa using h
  clear h
  go_enter Try.func16, Try.ntmps16
  go_wp2_with fail
  go_ret
  exact ⟨rfl, rfl⟩
set_option maxHeartbeats 1000000 in
set_option maxRecDepth 100000 in
theorem checkEst_some (w : World) (b off c : Nat) (d : List Int) (hn : d.length < 4611686018427387904) (hs : SeenI w b off d) :
    Calls Try.prog 16 #[.int .i64 d.length, .slice (some ⟨b, off, none⟩) d.length c] w fun e w' => e = .returned (errV (estBad d.length d)) ∧ w = w' := by
  have HS := Lib.hid hs; clear hs
  go_enter Try.func16, Try.ntmps16
  go_wp2_with fail
  go_loopw [15] (fun v wr => ∃ (k : Nat), v = .int .i64 k ∧ k ≤ d.length ∧ Hid (w = wr) ∧ Hid (∀ x ∈ d.take k, 0 ≤ x ∧ x ≤ 16)) (fun v _ => d.length - (RowKit.intOf v).toNat)
  case atStart => exact ⟨0, rfl, Nat.zero_le _, Lib.hid rfl, Lib.hid (by simp)⟩
  case round =>
    obtain ⟨k, rfl, hk, HW, HA⟩ := hrel
    obtain rfl := HW.out
    by_cases hkn : k < d.length
    · have a0 := HS.out k hkn
      have HM := Lib.hid (memAt hkn)
      have HT := Lib.hid (fun h : 0 ≤ d[k]! ∧ d[k]! ≤ 16 => allT (p := fun x => 0 ≤ x ∧ x ≤ 16) hkn HA.out h)
      generalize d[k]! = x at a0 HM HT
      rcases DistP.cases x with h | ⟨q, rfl, hq⟩
      · have e : estBad d.length d = 1 := by
          unfold estBad
          rw [if_neg (by omega), if_neg]
          intro g
          have := g x HM.out
          unfold DistP.Far at h
          omega
        have E := Lib.hid e
        have HC := Lib.hid (distCheck_no x h)
        clear e h HT
        go_wp2_with fail
        refine (HC.out _).mono ?_
        rintro e w1 ⟨rfl, rfl⟩
        go_wp2_with fail
        go_ret
        exact ⟨by rw [E.out]; rfl, rfl⟩
      · have HA' := Lib.hid (HT.out (by omega))
        have HC := Lib.hid (distCheck_yes q hq)
        clear HT HM
        go_wp2_with fail
        refine (HC.out _).mono ?_
        rintro e w1 ⟨rfl, rfl⟩
        go_wp2_with fail
        go_roundw
        case rel => exact ⟨k + 1, by go_num, by omega, Lib.hid trivial, HA'⟩
        case measure => simp [RowKit.intOf]; omega
    · have e : estBad d.length d = 0 := by
        unfold estBad
        rw [if_neg (by omega), if_pos]
        have := HA.out
        rwa [List.take_of_length_le (by omega)] at this
      have E := Lib.hid e
      clear e
      go_wp2_with fail
      go_ret
      exact ⟨by rw [E.out]; rfl, rfl⟩
set_option maxHeartbeats 400000 in
set_option maxRecDepth 100000 in
theorem checkEst_none (w : World) (p : Option Addr) (c : Nat) :
    Calls Try.prog 16 #[.int .i64 0, .slice p 0 c] w fun e w' => e = .returned .nilIface ∧ w = w' := by
  go_enter Try.func16, Try.ntmps16
  go_wp2_with fail
  refine wp_loop_rounds 1 ?_
  rw [rounds_succ]
  go_wp2_with fail
  go_ret
  exact ⟨rfl, rfl⟩
/-- bell.checkEstimates. -/
theorem checkEst_any (w : World) (n : Int) (v : Value) (d : List Int) (hn : d.length < 4611686018427387904) (h : ArgI w v d) :
    Calls Try.prog 16 #[.int .i64 n, v] w fun e w' => e = .returned (errV (estBad n d)) ∧ w = w' := by
  obtain ⟨p, c, rfl, h⟩ := h
  by_cases hl : (d.length : Int) = n
  · subst hl
    rcases h with rfl | ⟨b, off, rfl, _, hs⟩
    · exact checkEst_none w p c
    · exact checkEst_some w b off c d hn hs
  · rw [show estBad n d = 3 from if_pos hl]
    exact checkEst_len w p d.length c n hl
end Go.Proofs.Ytjgpibchnpodjaa
