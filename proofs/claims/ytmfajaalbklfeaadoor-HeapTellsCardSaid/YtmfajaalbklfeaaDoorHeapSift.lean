/-
  container/heap's up and down on the heap in memory: a thing that stands too low, one that stands too high.
-/
import Derived.Test.YtmfajaalbklfeaaDoorHeapEnds
namespace Go.Proofs.YtmfajaalbklfeaaDoor
open Go.RowKit Go.Lib HeapP

set_option maxHeartbeats 1000000 in
set_option maxRecDepth 100000 in
/-- heap.up. -/
theorem up_any (w : World) (q : Nat) (tv : Value) (p k n : Nat) (ky : Nat → Int) (L : List Nat) (m j : Nat) (h : Hp w q tv p k n ky L) (hj : j < m) (hm : m ≤ L.length) (hx : Hx ky L m j) (hk : Heirs ky L m j) :
    Calls Tryd.prog 23 #[.iface 47 (.pointer (some ⟨q, 0, none⟩)), .int .i64 j] w fun e w' => e = .returned (.tuple #[]) ∧ ∃ L', Same m L L' ∧ Ord ky L' m ∧ Hp w' q tv p k n ky L' ∧ Keep (InH q tv p k) w w' := by
  have HQ0 := Lib.hid h
  have HX0 := Lib.hid (And.intro hx hk)
  have hm5 : m ≤ 5000 := by have := h.len; have := h.mx; omega
  clear h hx hk
  go_enter Tryd.func23, Tryd.ntmps23
  go_wp2_with fail
  go_loopw [1] (fun v wr => ∃ (r : Nat), v = .int .i64 r ∧ r < m ∧ ∃ Lr, Hid (Same m L Lr) ∧ Hid (Hx ky Lr m r ∧ Heirs ky Lr m r) ∧ Hid (Hp wr q tv p k n ky Lr) ∧ Hid (Keep (InH q tv p k) w wr)) (fun v _ => (RowKit.intOf v).toNat)
  case atStart => exact ⟨j, rfl, hj, L, Lib.hid (Same.refl m L), HX0, HQ0, Lib.hid (Keep.refl _ _)⟩
  case round =>
    clear HX0 HQ0
    obtain ⟨r, rfl, hr, Lr, HA, HX, HQ, HK⟩ := hrel
    have hrl : m ≤ Lr.length := by have := HA.out.len; omega
    by_cases hr0 : r = 0
    · subst hr0
      go_wp2_with fail
      go_end0
      exact ⟨rfl, Lr, HA.out, HX.out.1.done HX.out.2 (fun c => absurd c (Nat.lt_irrefl 0)), HQ.out, HK.out⟩
    · obtain ⟨i, hi⟩ : ∃ i, i = (r - 1) / 2 := ⟨_, rfl⟩
      have HI := Lib.hid hi
      have e1 : ((r : Int) - 1) / 2 = (i : Int) := by omega
      have e2 : ¬ (i : Int) = (r : Int) := by omega
      have hik : i < r := by omega
      have m1 := meth_less ⟨q, 0, none⟩ wr
      have HL := Lib.hid (tLess_any wr q tv p k n ky Lr HQ.out r i r i (by omega) (by omega) rfl rfl)
      clear hi
      go_wp2_with fail
      refine HL.out.mono ?_
      rintro e w1 ⟨rfl, hb1⟩
      have HQ1 := Lib.hid (HQ.out.below hb1)
      have HK1 := Lib.hid (HK.out.trans (Keep.of hb1))
      clear hb1 HL m1
      by_cases hlt : lt ky Lr[r]! Lr[i]!
      · rw [decide_eq_true hlt]
        have m2 := meth_swap ⟨q, 0, none⟩ w1
        have HS := Lib.hid (tSwap_any w1 q tv p k n ky Lr HQ1.out i r i r (by omega) (by omega) (by omega) rfl rfl)
        go_wp2_with fail
        refine HS.out.mono ?_
        rintro e w2 ⟨rfl, hq2, hk2⟩
        have HQ2 := Lib.hid hq2
        have HA2 := Lib.hid (HA.out.trans (Same.exch (c := m) Lr i r (by omega) (by omega) (by omega) (by omega)))
        have HK2 := Lib.hid (HK1.out.trans hk2)
        have HX2 := Lib.hid (HX.out.1.up HX.out.2 hr hrl (by omega) HI.out hlt)
        clear hq2 hk2 HS m2 hlt
        go_wp2_with fail
        go_roundw
        case rel => exact ⟨i, rfl, by omega, _, HA2, HX2, HQ2, HK2⟩
        case measure => simp [RowKit.intOf]; omega
      · rw [decide_eq_false hlt]
        have HF := Lib.hid hlt
        clear hlt
        go_wp2_with fail
        go_end0
        exact ⟨rfl, Lr, HA.out, HX.out.1.done HX.out.2 (fun _ => by rw [← HI.out]; exact HF.out), HQ1.out, HK1.out⟩

set_option maxHeartbeats 4000000 in
set_option maxRecDepth 100000 in
/-- heap.down. -/
theorem down_any (w : World) (q : Nat) (tv : Value) (p k n : Nat) (ky : Nat → Int) (L : List Nat) (m i0 : Nat) (h : Hp w q tv p k n ky L) (hj : i0 < m) (hm : m ≤ L.length) (hx : Hx ky L m i0) :
    Calls Tryd.prog 22 #[.iface 47 (.pointer (some ⟨q, 0, none⟩)), .int .i64 i0, .int .i64 m] w fun e w' => ∃ b, e = .returned (.bool b) ∧ ∃ L', Same m L L' ∧ Hp w' q tv p k n ky L' ∧ Keep (InH q tv p k) w w' ∧ (b = false → L' = L ∧ Heirs ky L m i0) ∧ (b = true → Ord ky L' m) := by
  have HQ0 := Lib.hid h
  have HX0 := Lib.hid hx
  have hm5 : m ≤ 5000 := by have := h.len; have := h.mx; omega
  clear h hx
  have Done : ∀ (r : Nat) (Lr : List Nat), Hx ky Lr m r → (r = i0 ∧ Lr = L) ∨ (i0 < r ∧ ¬ lt ky Lr[r]! Lr[(r - 1) / 2]!) → Heirs ky Lr m r → (decide (i0 < r) = false → Lr = L ∧ Heirs ky L m i0) ∧ (decide (i0 < r) = true → Ord ky Lr m) := by
    intro r Lr hx ho hk
    rcases ho with ⟨rfl, rfl⟩ | ⟨h1, h2⟩
    · exact ⟨fun _ => ⟨rfl, hk⟩, fun c => absurd (of_decide_eq_true c) (by omega)⟩
    · exact ⟨fun c => absurd (of_decide_eq_false c) (by omega), fun _ => hx.done hk fun _ => h2⟩
  have HD := Lib.hid Done
  clear Done
  go_enter Tryd.func22, Tryd.ntmps22
  go_wp2_with fail
  go_loopw [7] (fun v wr => ∃ (r : Nat), v = .int .i64 r ∧ r < m ∧ i0 ≤ r ∧ ∃ Lr, Hid (Same m L Lr) ∧ Hid (Hx ky Lr m r) ∧ Hid ((r = i0 ∧ Lr = L) ∨ (i0 < r ∧ ¬ lt ky Lr[r]! Lr[(r - 1) / 2]!)) ∧ Hid (Hp wr q tv p k n ky Lr) ∧ Hid (Keep (InH q tv p k) w wr)) (fun v _ => m - (RowKit.intOf v).toNat)
  case atStart => exact ⟨i0, rfl, hj, Nat.le_refl _, L, Lib.hid (Same.refl m L), HX0, Lib.hid (Or.inl ⟨rfl, rfl⟩), HQ0, Lib.hid (Keep.refl _ _)⟩
  case round =>
    clear HX0 HQ0
    obtain ⟨r, rfl, hr, hir, Lr, HA, HX, HO, HQwr, HKwr⟩ := hrel
    have hrl : m ≤ Lr.length := by have := HA.out.len; omega
    by_cases h1 : 2 * r + 1 < m
    · obtain ⟨j1, hj1⟩ : ∃ j1, j1 = 2 * r + 1 := ⟨_, rfl⟩
      have e2 : ¬ 2 * (r : Int) + 1 ≥ (m : Int) := by omega
      have e3 : ¬ 2 * (r : Int) + 1 < 0 := by omega
      by_cases h2 : j1 + 1 < m
      · obtain ⟨j2, hj2⟩ : ∃ j2, j2 = j1 + 1 := ⟨_, rfl⟩
        have e5 : 2 * (r : Int) + 1 + 1 < (m : Int) := by omega
        have m1 := meth_less ⟨q, 0, none⟩ wr
        go_wp2_with fail
        refine (tLess_any wr q tv p k n ky Lr HQwr.out j2 j1 _ _ (by omega) (by omega) (by omega) (by omega)).mono ?_
        rintro e w1 ⟨rfl, hb1⟩
        have HQw1 := Lib.hid (HQwr.out.below hb1)
        have HKw1 := Lib.hid (HKwr.out.trans (Keep.of hb1))
        clear hb1 m1
        by_cases hl2 : lt ky Lr[j2]! Lr[j1]!
        · rw [decide_eq_true hl2]
          have HL2 := Lib.hid hl2
          clear hl2
          have m3 := meth_less ⟨q, 0, none⟩ w1
          go_wp2_with fail
          refine (tLess_any w1 q tv p k n ky Lr HQw1.out j2 r _ _ (by omega) (by omega) (by omega) (by omega)).mono ?_
          rintro e w5 ⟨rfl, hb5⟩
          have HQw5 := Lib.hid (HQw1.out.below hb5)
          have HKw5 := Lib.hid (HKw1.out.trans (Keep.of hb5))
          clear hb5 m3
          by_cases hlt : lt ky Lr[j2]! Lr[r]!
          · rw [decide_eq_true hlt]
            have m4 := meth_swap ⟨q, 0, none⟩ w5
            have HX6 := Lib.hid (HX.out.down (j := j2) (by omega) hrl (by omega) (by omega) (kids_set hrl hr _ (fun _ => by rw [← hj1]; exact lt_asymm HL2.out) (fun _ => by rw [show 2 * r + 2 = j2 by omega]; exact lt_irr)) hlt)
            clear hlt
            go_wp2_with fail
            refine (tSwap_any w5 q tv p k n ky Lr HQw5.out r j2 _ _ (by omega) (by omega) (by omega) (by omega) (by omega)).mono ?_
            rintro e w6 ⟨rfl, hq6, hk6⟩
            have HQ6 := Lib.hid hq6
            have HA6 := Lib.hid (HA.out.trans (Same.exch (c := m) Lr r j2 (by omega) (by omega) (by omega) (by omega)))
            have HK6 := Lib.hid (HKw5.out.trans hk6)
            clear hq6 hk6 m4
            go_wp2_with fail
            go_roundw
            case rel => exact ⟨j2, congrArg _ (by omega), by omega, by omega, _, HA6, Lib.hid HX6.out.1, Lib.hid (Or.inr ⟨by omega, HX6.out.2⟩), HQ6, HK6⟩
            case measure => simp [RowKit.intOf]; omega
          · rw [decide_eq_false hlt]
            have HF := Lib.hid hlt
            clear hlt
            go_wp2_with fail
            go_ret
            exact ⟨_, rfl, Lr, HA.out, HQw5.out, HKw5.out, HD.out r Lr HX.out HO.out (kids_two (fun _ => by rw [← hj1]; exact fun c => HF.out (lt_trans HL2.out c)) (fun _ => by rw [show 2 * r + 2 = j2 by omega]; exact HF.out))⟩
        · rw [decide_eq_false hl2]
          have HL2 := Lib.hid hl2
          clear hl2
          have m3 := meth_less ⟨q, 0, none⟩ w1
          go_wp2_with fail
          refine (tLess_any w1 q tv p k n ky Lr HQw1.out j1 r _ _ (by omega) (by omega) (by omega) (by omega)).mono ?_
          rintro e w5 ⟨rfl, hb5⟩
          have HQw5 := Lib.hid (HQw1.out.below hb5)
          have HKw5 := Lib.hid (HKw1.out.trans (Keep.of hb5))
          clear hb5 m3
          by_cases hlt : lt ky Lr[j1]! Lr[r]!
          · rw [decide_eq_true hlt]
            have m4 := meth_swap ⟨q, 0, none⟩ w5
            have HX6 := Lib.hid (HX.out.down (j := j1) (by omega) hrl (by omega) (by omega) (kids_set hrl hr _ (fun _ => by rw [← hj1]; exact lt_irr) (fun _ => by rw [show 2 * r + 2 = j2 by omega]; exact HL2.out)) hlt)
            clear hlt
            go_wp2_with fail
            refine (tSwap_any w5 q tv p k n ky Lr HQw5.out r j1 _ _ (by omega) (by omega) (by omega) (by omega) (by omega)).mono ?_
            rintro e w6 ⟨rfl, hq6, hk6⟩
            have HQ6 := Lib.hid hq6
            have HA6 := Lib.hid (HA.out.trans (Same.exch (c := m) Lr r j1 (by omega) (by omega) (by omega) (by omega)))
            have HK6 := Lib.hid (HKw5.out.trans hk6)
            clear hq6 hk6 m4
            go_wp2_with fail
            go_roundw
            case rel => exact ⟨j1, congrArg _ (by omega), by omega, by omega, _, HA6, Lib.hid HX6.out.1, Lib.hid (Or.inr ⟨by omega, HX6.out.2⟩), HQ6, HK6⟩
            case measure => simp [RowKit.intOf]; omega
          · rw [decide_eq_false hlt]
            have HF := Lib.hid hlt
            clear hlt
            go_wp2_with fail
            go_ret
            exact ⟨_, rfl, Lr, HA.out, HQw5.out, HKw5.out, HD.out r Lr HX.out HO.out (kids_two (fun _ => by rw [← hj1]; exact HF.out) (fun _ => by rw [show 2 * r + 2 = j2 by omega]; exact le_trans HF.out HL2.out))⟩
      · have e5 : ¬ 2 * (r : Int) + 1 + 1 < (m : Int) := by omega
        have m3 := meth_less ⟨q, 0, none⟩ wr
        go_wp2_with fail
        refine (tLess_any wr q tv p k n ky Lr HQwr.out j1 r _ _ (by omega) (by omega) (by omega) (by omega)).mono ?_
        rintro e w5 ⟨rfl, hb5⟩
        have HQw5 := Lib.hid (HQwr.out.below hb5)
        have HKw5 := Lib.hid (HKwr.out.trans (Keep.of hb5))
        clear hb5 m3
        by_cases hlt : lt ky Lr[j1]! Lr[r]!
        · rw [decide_eq_true hlt]
          have m4 := meth_swap ⟨q, 0, none⟩ w5
          have HX6 := Lib.hid (HX.out.down (j := j1) (by omega) hrl (by omega) (by omega) (kids_set hrl hr _ (fun _ => by rw [← hj1]; exact lt_irr) (fun c => absurd c (by omega))) hlt)
          clear hlt
          go_wp2_with fail
          refine (tSwap_any w5 q tv p k n ky Lr HQw5.out r j1 _ _ (by omega) (by omega) (by omega) (by omega) (by omega)).mono ?_
          rintro e w6 ⟨rfl, hq6, hk6⟩
          have HQ6 := Lib.hid hq6
          have HA6 := Lib.hid (HA.out.trans (Same.exch (c := m) Lr r j1 (by omega) (by omega) (by omega) (by omega)))
          have HK6 := Lib.hid (HKw5.out.trans hk6)
          clear hq6 hk6 m4
          go_wp2_with fail
          go_roundw
          case rel => exact ⟨j1, congrArg _ (by omega), by omega, by omega, _, HA6, Lib.hid HX6.out.1, Lib.hid (Or.inr ⟨by omega, HX6.out.2⟩), HQ6, HK6⟩
          case measure => simp [RowKit.intOf]; omega
        · rw [decide_eq_false hlt]
          have HF := Lib.hid hlt
          clear hlt
          go_wp2_with fail
          go_ret
          exact ⟨_, rfl, Lr, HA.out, HQw5.out, HKw5.out, HD.out r Lr HX.out HO.out (kids_two (fun _ => by rw [← hj1]; exact HF.out) (fun c => absurd c (by omega)))⟩
    · have e2 : 2 * (r : Int) + 1 ≥ (m : Int) := by omega
      go_wp2_with fail
      go_ret
      exact ⟨_, rfl, Lr, HA.out, HQwr.out, HKwr.out, HD.out r Lr HX.out HO.out (kids_none h1)⟩
end Go.Proofs.YtmfajaalbklfeaaDoor
