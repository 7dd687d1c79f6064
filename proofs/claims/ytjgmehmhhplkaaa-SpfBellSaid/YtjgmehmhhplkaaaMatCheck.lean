/-
  mat.checkShape and mat.Check at every table; the world stays as it was.
-/
import Derived.Test.YtjgmehmhhplkaaaMatPlain
import Derived.Test.YtjgmehmhhplkaaaErrV
import Derived.Deep.RegionHeld3
namespace Go.Proofs.Ytjgmehmhhplkaaa
open Go.RowKit Go.Lib

set_option maxHeartbeats 400000 in
set_option maxRecDepth 100000 in
theorem shape_few (w : World) (p : Option Addr) (n c : Nat) (h : n < 1 ∨ 8 < n) :
    Calls Try.prog 40 #[.slice p n c] w fun e w' => e = .returned (.iface 60 (.int .i64 3)) ∧ w = w' := by
  rcases h with h | h
  · have h1 : ((n : Int) < 1) := by omega
    go_enter Try.func40, Try.ntmps40
    go_wp2_with fail
    go_ret
    exact ⟨rfl, rfl⟩
  · have h1 : ¬ ((n : Int) < 1) := by omega
    have h2 : ((8 : Int) < n) := by omega
    go_enter Try.func40, Try.ntmps40
    go_wp2_with fail
    go_ret
    exact ⟨rfl, rfl⟩
set_option maxHeartbeats 1000000 in
set_option maxRecDepth 100000 in
theorem shape_some (w : World) (b off c : Nat) (M : List (List Int)) (h1 : 1 ≤ M.length) (h8 : M.length ≤ 8) (hs : SeenR w b off M) :
    Calls Try.prog 40 #[.slice (some ⟨b, off, none⟩) M.length c] w fun e w' => e = .returned (errV (shapeBad M)) ∧ w = w' := by
  have HS := Lib.hid hs; clear hs
  have t1 : ¬ ((M.length : Int) < 1) := by omega
  have t2 : ¬ ((8 : Int) < M.length) := by omega
  go_enter Try.func40, Try.ntmps40
  go_wp2_with fail
  clear t1 t2
  go_loopw [16] (fun v wr => ∃ (k : Nat), v = .int .i64 k ∧ k ≤ M.length ∧ Hid (w = wr) ∧ Hid (∀ r ∈ M.take k, r.length = M.length)) (fun v _ => M.length - (RowKit.intOf v).toNat)
  case atStart => exact ⟨0, rfl, Nat.zero_le _, Lib.hid rfl, Lib.hid (by simp)⟩
  case round =>
    obtain ⟨k, rfl, hk, HW, HA⟩ := hrel
    obtain rfl := HW.out
    by_cases hkn : k < M.length
    · obtain ⟨v, a0, p1, c1, rfl, _⟩ := HS.out k hkn
      by_cases h : M[k]!.length = M.length
      · have HA' : Hid (∀ r ∈ M.take (k + 1), r.length = M.length) := Lib.hid (allT hkn HA.out h)
        rw [h] at a0
        clear h
        go_wp2_with fail
        go_roundw
        case rel => exact ⟨k + 1, by go_num, by omega, Lib.hid trivial, HA'⟩
        case measure => simp [RowKit.intOf]; omega
      · have e : shapeBad M = 3 := if_neg fun g => h (g.2.2 _ (memAt hkn))
        have t : ((M[k]!.length : Int) != (M.length : Int)) = true := by
          have : ¬ (M[k]!.length : Int) = M.length := by omega
          simpa using this
        have E := Lib.hid e
        clear e h
        generalize M[k]!.length = q at a0 t
        go_wp2_with fail
        go_ret
        exact ⟨by rw [E.out]; rfl, rfl⟩
    · have e : shapeBad M = 0 := if_pos ⟨h1, h8, by
        have := HA.out
        rwa [List.take_of_length_le (by omega)] at this⟩
      have E := Lib.hid e
      clear e
      go_wp2_with fail
      go_ret
      exact ⟨by rw [E.out]; rfl, rfl⟩
/-- mat.checkShape. -/
theorem shape_any (w : World) (v : Value) (M : List (List Int)) (h : ArgR w v M) :
    Calls Try.prog 40 #[v] w fun e w' => e = .returned (errV (shapeBad M)) ∧ w = w' := by
  obtain ⟨p, c, rfl, h⟩ := h
  by_cases g : 1 ≤ M.length ∧ M.length ≤ 8
  · rcases h with rfl | ⟨b, off, rfl, _, hs⟩
    · simp at g
    · exact shape_some w b off c M g.1 g.2 hs
  · have e : shapeBad M = 3 := if_neg fun k => g ⟨k.1, k.2.1⟩
    rw [e]
    exact shape_few w p M.length c (by omega)

set_option maxHeartbeats 400000 in
set_option maxRecDepth 100000 in
theorem matCheck_form (w : World) (v : Value) (M : List (List Int)) (h : ArgR w v M) (hb : shapeBad M ≠ 0) :
    Calls Try.prog 24 #[v] w fun e w' => e = .returned (errV (matBad M)) ∧ w = w' := by
  obtain ⟨e1, e2⟩ := shape_mat hb
  have HC := shape_any w v M h
  rw [e1] at HC
  rw [e2]
  have HC : Hid (Calls Try.prog 40 #[v] w fun e w' => e = .returned (.iface 60 (.int .i64 3)) ∧ w = w') := Lib.hid HC
  clear h hb e1 e2
  go_enter Try.func24, Try.ntmps24
  go_wp2_with fail
  refine HC.out.mono ?_
  rintro e w1 ⟨rfl, rfl⟩
  go_wp2_with fail
  go_ret
  exact ⟨rfl, rfl⟩
set_option maxHeartbeats 1000000 in
set_option maxRecDepth 100000 in
theorem matCheck_some (w : World) (b off c : Nat) (M : List (List Int)) (h1 : 1 ≤ M.length) (h8 : M.length ≤ 8) (hr : ∀ r ∈ M, r.length = M.length) (hbb : b < w.heap.size) (hs : SeenR w b off M) :
    Calls Try.prog 24 #[.slice (some ⟨b, off, none⟩) M.length c] w fun e w' => e = .returned (errV (matBad M)) ∧ w = w' := by
  have hz : shapeBad M = 0 := if_pos ⟨h1, h8, hr⟩
  have HC := shape_any w (.slice (some ⟨b, off, none⟩) M.length c) M ⟨_, _, rfl, Or.inr ⟨b, off, rfl, hbb, hs⟩⟩
  rw [hz] at HC
  have HC : Hid (Calls Try.prog 40 #[.slice (some ⟨b, off, none⟩) M.length c] w fun e w' => e = .returned .nilIface ∧ w = w') := Lib.hid HC
  have HM := Lib.hid (mat_shape hz)
  have HR := Lib.hid hr
  have HS := Lib.hid hs
  clear hz hr hs
  go_enter Try.func24, Try.ntmps24
  go_wp2_with fail
  refine HC.out.mono ?_
  rintro e w1 ⟨rfl, rfl⟩
  clear HC
  go_wp2_with fail
  go_loopw [16] (fun v wr => ∃ (k : Nat), v = .int .i64 k ∧ k ≤ M.length ∧ Hid (w = wr) ∧ Hid (∀ r ∈ M.take k, ∀ d ∈ r, 0 ≤ d ∧ d ≤ 16)) (fun v _ => M.length - (RowKit.intOf v).toNat)
  case atStart => exact ⟨0, rfl, Nat.zero_le _, Lib.hid rfl, Lib.hid (by simp)⟩
  case round =>
    obtain ⟨k, rfl, hk, HW, HA⟩ := hrel
    obtain rfl := HW.out
    by_cases hkn : k < M.length
    · obtain ⟨v, a0, p1, c1, rfl, hx⟩ := HS.out k hkn
      have hl := HR.out _ (memAt hkn)
      have HX := Lib.hid hx
      clear hx
      have HA1 : Hid ((∀ d ∈ M[k]!, 0 ≤ d ∧ d ≤ 16) → ∀ r ∈ M.take (k + 1), ∀ d ∈ r, 0 ≤ d ∧ d ≤ 16) := Lib.hid (allT hkn HA.out)
      have HN : Hid (∀ d ∈ M[k]!, ¬ (0 ≤ d ∧ d ≤ 16) → matBad M = 1) := Lib.hid fun d hd hn => HM.out.trans (if_neg fun g => hn (g _ (memAt hkn) d hd))
      rw [hl] at a0
      generalize M[k]! = r at hl HX HA1 HN
      have HL := Lib.hid hl
      clear hl
      go_wp2_with fail
      go_loopw [22] (fun v wr => ∃ (j : Nat), v = .int .i64 j ∧ j ≤ M.length ∧ Hid (w = wr) ∧ Hid (∀ d ∈ r.take j, 0 ≤ d ∧ d ≤ 16)) (fun v _ => M.length - (RowKit.intOf v).toNat)
      case atStart => exact ⟨0, rfl, Nat.zero_le _, Lib.hid rfl, Lib.hid (by simp)⟩
      case round =>
        obtain ⟨j, rfl, hj, HW2, HD⟩ := hrel
        obtain rfl := HW2.out
        by_cases hjn : j < M.length
        · have hjr : j < r.length := by rw [HL.out]; exact hjn
          obtain ⟨b1, off1, rfl, hs1⟩ : ∃ b1 off1, p1 = some ⟨b1, off1, none⟩ ∧ SeenI w b1 off1 r := by
            rcases HX.out with h | ⟨b1, off1, h2, _, h3⟩
            · rw [h] at hjr; simp at hjr
            · exact ⟨b1, off1, h2, h3⟩
          have e0 := hs1 j hjr
          have HD1 := fun h => Lib.hid (allT hjr HD.out h)
          have HN1 := fun h => Lib.hid (HN.out _ (memAt hjr) h)
          clear hjr hs1
          generalize r[j]! = x at e0 HD1 HN1
          rcases DistP.cases x with hx | ⟨n, rfl, hn⟩
          · have E := HN1 (by unfold DistP.Far at hx; omega)
            have HF := Lib.hid (distCheck_no x hx w)
            clear HN1 HD1 hx
            go_wp2_with fail
            refine HF.out.mono ?_
            rintro e w1 ⟨rfl, rfl⟩
            go_wp2_with fail
            go_ret
            exact ⟨by rw [E.out]; rfl, rfl⟩
          · have HD2 := HD1 (by omega)
            have HF := Lib.hid (distCheck_yes n hn w)
            clear HN1 HD1
            go_wp2_with fail
            refine HF.out.mono ?_
            rintro e w1 ⟨rfl, rfl⟩
            go_wp2_with fail
            go_roundw
            case rel => exact ⟨j + 1, by go_num, by omega, Lib.hid trivial, HD2⟩
            case measure => simp [RowKit.intOf]; omega
        · have HA2 := Lib.hid (HA1.out (by
            have := HD.out
            rwa [List.take_of_length_le (by rw [HL.out]; omega)] at this))
          go_wp2_with fail
          go_roundw
          case rel => exact ⟨k + 1, by go_num, by omega, Lib.hid trivial, HA2⟩
          case measure => simp [RowKit.intOf]; omega
    · have e : matBad M = 0 := HM.out.trans (if_pos (by
        have := HA.out
        rwa [List.take_of_length_le (by omega)] at this))
      have E := Lib.hid e
      clear e
      go_wp2_with fail
      go_ret
      exact ⟨by rw [E.out]; rfl, rfl⟩
/-- mat.Check. -/
theorem matCheck_any (w : World) (v : Value) (M : List (List Int)) (h : ArgR w v M) :
    Calls Try.prog 24 #[v] w fun e w' => e = .returned (errV (matBad M)) ∧ w = w' := by
  by_cases hz : shapeBad M = 0
  · obtain ⟨h1, h8, hr⟩ := shape_zero hz
    obtain ⟨p, c, rfl, g⟩ := h
    rcases g with rfl | ⟨b, off, rfl, hb, hs⟩
    · simp at h1
    · exact matCheck_some w b off c M h1 h8 hr hb hs
  · exact matCheck_form w v M h hz
end Go.Proofs.Ytjgmehmhhplkaaa
