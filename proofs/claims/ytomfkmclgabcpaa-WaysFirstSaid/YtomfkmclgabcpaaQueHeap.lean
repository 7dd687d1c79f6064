/-
  container/heap on the queue: whatever is compared, the same pairs are in it; one more, one less.
-/
import Derived.Test.YtomfkmclgabcpaaQueEnds
namespace Go.Proofs.Ytomfkmclgabcpaa
open Go.RowKit Go.Lib

theorem Que.swap {w w1 : World} {q g cap i j : Nat} {L : List Rc} (h : Que w q g cap L) (hr : RowQ w1 g cap (exch L i j)) (hk : Keep (fun b => b = g) w w1) : Que w1 q g cap (exch L i j) :=
  ⟨by rw [exch_len]; exact (World.cell?_of_block (a := ⟨q, 0, none⟩) (hk.block q h.lq h.ne.symm)).trans h.cq, (World.frozen?_of_block (a := ⟨q, 0, none⟩) (hk.block q h.lq h.ne.symm)).trans h.fq, Nat.lt_of_lt_of_le h.lq hk.size, h.ne, hr⟩

set_option maxHeartbeats 1000000 in
set_option maxRecDepth 100000 in
/-- heap.up. -/
theorem up_any (w : World) (q g cap j : Nat) (L : List Rc) (h : Que w q g cap L) (hj : j < L.length) (hl : L.length ≤ 1000) :
    Calls Try.prog 31 #[.iface 52 (.pointer (some ⟨q, 0, none⟩)), .int .i64 j] w fun e w' => e = .returned (.tuple #[]) ∧ ∃ L', Alike L L' ∧ Que w' q g cap L' ∧ Keep (InQ q g) w w' := by
  have HQ0 := Lib.hid h
  clear h
  go_enter Try.func31, Try.ntmps31
  go_wp2_with fail
  go_loopw [1] (fun v wr => ∃ (k : Nat), v = .int .i64 k ∧ k < L.length ∧ ∃ Lr, Hid (Alike L Lr) ∧ Hid (Que wr q g cap Lr) ∧ Hid (Keep (InQ q g) w wr)) (fun v _ => (RowKit.intOf v).toNat)
  case atStart => exact ⟨j, rfl, hj, L, Lib.hid (Alike.refl L), HQ0, Lib.hid (Keep.refl _ _)⟩
  case round =>
    obtain ⟨k, rfl, hk, Lr, HA, HQ, HK⟩ := hrel
    by_cases hk0 : k = 0
    · subst hk0
      go_wp2_with fail
      go_end0
      exact ⟨rfl, Lr, HA.out, HQ.out, HK.out⟩
    · obtain ⟨i, hi⟩ : ∃ i, i = (k - 1) / 2 := ⟨_, rfl⟩
      have hkl : k < Lr.length := by have := HA.out.1; omega
      have e1 : ((k : Int) - 1) / 2 = (i : Int) := by omega
      have e2 : ¬ (i : Int) = (k : Int) := by omega
      have hik : i < k := by omega
      have m1 := meth_less q _ wr HQ.out.cq
      have HL := Lib.hid (qLess_any wr g cap k i Lr HQ.out.row (by omega) (by omega))
      clear hi
      go_wp2_with fail
      refine HL.out.mono ?_
      rintro e w1 ⟨rfl, hb1⟩
      have HQ1 := Lib.hid (HQ.out.below hb1)
      have HK1 := Lib.hid (HK.out.trans (Keep.of hb1))
      clear hb1 HL m1
      generalize decide ((Lr[k]!.2 : Int) < Lr[i]!.2) = b
      cases b with
      | false =>
        go_wp2_with fail
        go_end0
        exact ⟨rfl, Lr, HA.out, HQ1.out, HK1.out⟩
      | true =>
        have m2 := meth_swap q _ w1 HQ1.out.cq
        have HS := Lib.hid (qSwap_any w1 g cap i k Lr HQ1.out.row (by omega) (by omega))
        go_wp2_with fail
        refine HS.out.mono ?_
        rintro e w2 ⟨rfl, hr, hk2⟩
        have HQ2 := Lib.hid (HQ1.out.swap hr hk2)
        have HA2 := Lib.hid (HA.out.trans (exch_alike Lr i k (by omega) (by omega)))
        have HK2 := Lib.hid (HK1.out.trans (hk2.mono fun b hb => Or.inr hb))
        clear hr hk2 HS m2
        go_wp2_with fail
        go_roundw
        case rel => exact ⟨i, rfl, by omega, _, HA2, HQ2, HK2⟩
        case measure => simp [RowKit.intOf]; omega
/-! ### down, Push, Pop -/
/-- Two compared, two exchanged: their places told as the walk has them. -/
theorem qLess_at (w : World) (g cap i j : Nat) (x y : Int) (L : List Rc) (h : RowQ w g cap L) (hi : i < L.length) (hj : j < L.length) (hx : x = i) (hy : y = j) :
    Calls Try.prog 58 #[.slice (some ⟨g, 0, none⟩) L.length cap, .int .i64 x, .int .i64 y] w fun e w' => e = .returned (.bool (decide ((L[i]!.2 : Int) < L[j]!.2))) ∧ Below w.heap.size w w' := by
  subst hx hy; exact qLess_any w g cap i j L h hi hj
theorem qSwap_at (w : World) (g cap i j : Nat) (x y : Int) (L : List Rc) (h : RowQ w g cap L) (hi : i < L.length) (hj : j < L.length) (hx : x = i) (hy : y = j) :
    Calls Try.prog 61 #[.slice (some ⟨g, 0, none⟩) L.length cap, .int .i64 x, .int .i64 y] w fun e w' => e = .returned (.tuple #[]) ∧ RowQ w' g cap (exch L i j) ∧ Keep (fun b => b = g) w w' := by
  subst hx hy; exact qSwap_any w g cap i j L h hi hj

set_option maxHeartbeats 4000000 in
set_option maxRecDepth 100000 in
/-- heap.down. -/
theorem down_any (w : World) (q g cap n : Nat) (L : List Rc) (h : Que w q g cap L) (hn : n < L.length) (hl : L.length ≤ 1000) :
    Calls Try.prog 32 #[.iface 52 (.pointer (some ⟨q, 0, none⟩)), .int .i64 0, .int .i64 n] w fun e w' => ∃ v, e = .returned v ∧ ∃ L', Alike L L' ∧ Que w' q g cap L' ∧ Keep (InQ q g) w w' := by
  have HQ0 := Lib.hid h
  clear h
  go_enter Try.func32, Try.ntmps32
  go_wp2_with fail
  go_loopw [7] (fun v wr => ∃ (k : Nat), v = .int .i64 k ∧ k ≤ n ∧ ∃ Lr, Hid (Alike L Lr) ∧ Hid (Que wr q g cap Lr) ∧ Hid (Keep (InQ q g) w wr)) (fun v _ => n - (RowKit.intOf v).toNat)
  case atStart => exact ⟨0, rfl, Nat.zero_le _, L, Lib.hid (Alike.refl L), HQ0, Lib.hid (Keep.refl _ _)⟩
  case round =>
    obtain ⟨k, rfl, hk, Lr, HA, HQwr, HKwr⟩ := hrel
    have hnl : n < Lr.length := by have := HA.out.1; omega
    by_cases h1 : 2 * k + 1 < n
    · obtain ⟨j1, hj1⟩ : ∃ j1, j1 = 2 * k + 1 := ⟨_, rfl⟩
      have e2 : ¬ 2 * (k : Int) + 1 ≥ (n : Int) := by omega
      have e3 : ¬ 2 * (k : Int) + 1 < 0 := by omega
      by_cases h2 : j1 + 1 < n
      · obtain ⟨j2, hj2⟩ : ∃ j2, j2 = j1 + 1 := ⟨_, rfl⟩
        have e5 : 2 * (k : Int) + 1 + 1 < (n : Int) := by omega
        have m1 := meth_less q _ wr HQwr.out.cq
        go_wp2_with fail
        refine (qLess_at wr g cap j2 j1 _ _ Lr HQwr.out.row (by omega) (by omega) (by omega) (by omega)).mono ?_
        rintro e w1 ⟨rfl, hb1⟩
        have HQw1 := Lib.hid (HQwr.out.below hb1)
        have HKw1 := Lib.hid (HKwr.out.trans (Keep.of hb1))
        clear hb1 m1
        generalize decide ((Lr[j2]!.2 : Int) < Lr[j1]!.2) = b
        cases b with
        | false =>
          have m3 := meth_less q _ w1 HQw1.out.cq
          go_wp2_with fail
          refine (qLess_at w1 g cap j1 k _ _ Lr HQw1.out.row (by omega) (by omega) (by omega) (by omega)).mono ?_
          rintro e w5 ⟨rfl, hb5⟩
          have HQ5 := Lib.hid (HQw1.out.below hb5)
          have HK5 := Lib.hid (HKw1.out.trans (Keep.of hb5))
          clear hb5 m3
          generalize decide ((Lr[j1]!.2 : Int) < Lr[k]!.2) = b5
          cases b5 with
          | false =>
            go_wp2_with fail
            go_ret
            exact ⟨_, rfl, Lr, HA.out, HQ5.out, HK5.out⟩
          | true =>
            have m4 := meth_swap q _ w5 HQ5.out.cq
            go_wp2_with fail
            refine (qSwap_at w5 g cap k j1 _ _ Lr HQ5.out.row (by omega) (by omega) (by omega) (by omega)).mono ?_
            rintro e w6 ⟨rfl, hr, hk6⟩
            have HQ6 := Lib.hid (HQ5.out.swap hr hk6)
            have HA6 := Lib.hid (HA.out.trans (exch_alike Lr k j1 (by omega) (by omega)))
            have HK6 := Lib.hid (HK5.out.trans (hk6.mono fun b hb => Or.inr hb))
            clear hr hk6 m4
            go_wp2_with fail
            go_roundw
            case rel => exact ⟨j1, congrArg _ (by omega), by omega, _, HA6, HQ6, HK6⟩
            case measure => simp [RowKit.intOf]; omega
        | true =>
          have m3 := meth_less q _ w1 HQw1.out.cq
          go_wp2_with fail
          refine (qLess_at w1 g cap j2 k _ _ Lr HQw1.out.row (by omega) (by omega) (by omega) (by omega)).mono ?_
          rintro e w5 ⟨rfl, hb5⟩
          have HQ5 := Lib.hid (HQw1.out.below hb5)
          have HK5 := Lib.hid (HKw1.out.trans (Keep.of hb5))
          clear hb5 m3
          generalize decide ((Lr[j2]!.2 : Int) < Lr[k]!.2) = b5
          cases b5 with
          | false =>
            go_wp2_with fail
            go_ret
            exact ⟨_, rfl, Lr, HA.out, HQ5.out, HK5.out⟩
          | true =>
            have m4 := meth_swap q _ w5 HQ5.out.cq
            go_wp2_with fail
            refine (qSwap_at w5 g cap k j2 _ _ Lr HQ5.out.row (by omega) (by omega) (by omega) (by omega)).mono ?_
            rintro e w6 ⟨rfl, hr, hk6⟩
            have HQ6 := Lib.hid (HQ5.out.swap hr hk6)
            have HA6 := Lib.hid (HA.out.trans (exch_alike Lr k j2 (by omega) (by omega)))
            have HK6 := Lib.hid (HK5.out.trans (hk6.mono fun b hb => Or.inr hb))
            clear hr hk6 m4
            go_wp2_with fail
            go_roundw
            case rel => exact ⟨j2, congrArg _ (by omega), by omega, _, HA6, HQ6, HK6⟩
            case measure => simp [RowKit.intOf]; omega
      · have e5 : ¬ 2 * (k : Int) + 1 + 1 < (n : Int) := by omega
        have m3 := meth_less q _ wr HQwr.out.cq
        go_wp2_with fail
        refine (qLess_at wr g cap j1 k _ _ Lr HQwr.out.row (by omega) (by omega) (by omega) (by omega)).mono ?_
        rintro e w5 ⟨rfl, hb5⟩
        have HQ5 := Lib.hid (HQwr.out.below hb5)
        have HK5 := Lib.hid (HKwr.out.trans (Keep.of hb5))
        clear hb5 m3
        generalize decide ((Lr[j1]!.2 : Int) < Lr[k]!.2) = b5
        cases b5 with
        | false =>
          go_wp2_with fail
          go_ret
          exact ⟨_, rfl, Lr, HA.out, HQ5.out, HK5.out⟩
        | true =>
          have m4 := meth_swap q _ w5 HQ5.out.cq
          go_wp2_with fail
          refine (qSwap_at w5 g cap k j1 _ _ Lr HQ5.out.row (by omega) (by omega) (by omega) (by omega)).mono ?_
          rintro e w6 ⟨rfl, hr, hk6⟩
          have HQ6 := Lib.hid (HQ5.out.swap hr hk6)
          have HA6 := Lib.hid (HA.out.trans (exch_alike Lr k j1 (by omega) (by omega)))
          have HK6 := Lib.hid (HK5.out.trans (hk6.mono fun b hb => Or.inr hb))
          clear hr hk6 m4
          go_wp2_with fail
          go_roundw
          case rel => exact ⟨j1, congrArg _ (by omega), by omega, _, HA6, HQ6, HK6⟩
          case measure => simp [RowKit.intOf]; omega
    · have e2 : 2 * (k : Int) + 1 ≥ (n : Int) := by omega
      go_wp2_with fail
      go_ret
      exact ⟨_, rfl, Lr, HA.out, HQwr.out, HKwr.out⟩
end Go.Proofs.Ytomfkmclgabcpaa
