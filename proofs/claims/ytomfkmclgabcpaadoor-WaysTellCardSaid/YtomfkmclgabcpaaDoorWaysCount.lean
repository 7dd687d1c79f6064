/-
  ways.onward, ways.count and ways.Count at every number of nodes, links and two numbers; what lay in memory stays.
-/
import Derived.Test.YtomfkmclgabcpaaDoorWaysPlain
import Derived.Test.YtomfkmclgabcpaaDoorSpfLists
import Derived.Test.YtomfkmclgabcpaaDoorWaysLen
import Derived.OwnWalk
namespace Go.Proofs.YtomfkmclgabcpaaDoor
open Go.RowKit Go.Lib

/-- What is wrong: graph.Check's, then no such node. -/
def wayBad (n : Int) (l : List Lk) (a b : Int) : Int := if gBad n l ≠ 0 then gBad n l else if (b < 0 ∨ n ≤ b) ∨ a < 0 ∨ n ≤ a then 1 else 0
theorem wayBad_zero {n : Int} {l : List Lk} {a b : Int} : wayBad n l a b = 0 ↔ gBad n l = 0 ∧ (0 ≤ b ∧ b < n) ∧ 0 ≤ a ∧ a < n := by
  unfold wayBad
  by_cases h : gBad n l = 0
  · rw [if_neg (by omega)]
    by_cases h2 : (b < 0 ∨ n ≤ b) ∨ a < 0 ∨ n ≤ a
    · rw [if_pos h2]; omega
    · rw [if_neg h2]; omega
  · rw [if_pos h]; omega
theorem way_nat {n : Int} {l : List Lk} {a b : Int} (h : wayBad n l a b = 0) : ∃ m s t : Nat, n = m ∧ a = s ∧ b = t ∧ 1 ≤ m ∧ m ≤ 8 ∧ s < m ∧ t < m ∧ gBad m l = 0 ∧ Right m l := by
  obtain ⟨h1, h2, h3⟩ := wayBad_zero.1 h
  obtain ⟨h4, h5⟩ := (gBad_zero n l).1 h1
  obtain ⟨m, rfl⟩ : ∃ m : Nat, n = m := ⟨n.toNat, by omega⟩
  obtain ⟨s, rfl⟩ : ∃ s : Nat, a = s := ⟨a.toNat, by omega⟩
  obtain ⟨t, rfl⟩ : ∃ t : Nat, b = t := ⟨b.toNat, by omega⟩
  exact ⟨m, s, t, rfl, rfl, rfl, by omega, by omega, by omega, by omega, h1, h5⟩

set_option maxHeartbeats 400000 in
set_option maxRecDepth 100000 in
theorem onward_bad1 (w : World) (n a b : Int) (v : Value) (l : List Lk) (hn : l.length < 4611686018427387904) (h : ArgK w v l) (hg : spfBad n l b ≠ 0) :
    Calls Tryd.prog 26 #[.int .i64 n, v, .int .i64 a, .int .i64 b] w fun e w' => e = .returned (.tuple #[.slice none 0 0, errV (spfBad n l b)]) ∧ Below w.heap.size w w' := by
  have HC := Lib.hid (ups_bad w n b v l hn h hg)
  rw [spf_err hg] at HC ⊢
  clear h
  generalize spfBad n l b = q at HC hg
  go_enter Tryd.func26, Tryd.ntmps26
  go_wp2_with fail
  refine HC.out.mono ?_
  rintro e w1 ⟨rfl, hb1⟩
  go_wp2_with fail
  go_ret2
  exact ⟨rfl, hb1⟩
set_option maxHeartbeats 400000 in
set_option maxRecDepth 100000 in
theorem onward_bad2 (w : World) (m t : Nat) (a : Int) (v : Value) (l : List Lk) (hn : l.length < 4611686018427387904) (h : ArgK w v l) (hg : gBad m l = 0) (ht : t < m) (ha : ¬ (0 ≤ a ∧ a < m)) :
    Calls Tryd.prog 26 #[.int .i64 m, v, .int .i64 a, .int .i64 t] w fun e w' => e = .returned (.tuple #[.slice none 0 0, .iface 25 (.int .i64 1)]) ∧ Below w.heap.size w w' := by
  have HC := Lib.hid (ups_ok w m t v l hn h hg ht)
  have HX := Lib.hid ha
  clear h hg ha
  go_enter Tryd.func26, Tryd.ntmps26
  go_wp2_with fail
  refine HC.out.mono ?_
  rintro e w1 ⟨u, vs, rfl, hG, hb1⟩
  have HB := Lib.hid hb1
  clear hG hb1
  go_wp2_with fail
  refine (isN_no m a HX.out w1).mono ?_
  rintro e w2 ⟨rfl, rfl⟩
  go_wp2_with fail
  go_ret2
  exact ⟨rfl, HB.out⟩
set_option maxHeartbeats 400000 in
set_option maxRecDepth 100000 in
theorem onward_ok (w : World) (m s t : Nat) (v : Value) (l : List Lk) (hn : l.length < 4611686018427387904) (h : ArgK w v l) (hg : gBad m l = 0) (hs : s < m) (ht : t < m) :
    Calls Tryd.prog 26 #[.int .i64 m, v, .int .i64 s, .int .i64 t] w fun e w' => ∃ u vs, e = .returned (.tuple #[.slice (some ⟨u, 0, none⟩) m m, .nilIface]) ∧ Lists w' u m m w.heap.size vs (SpfP.ups m (BellP.ct l) t) ∧ Below w.heap.size w w' := by
  have HC := Lib.hid (ups_ok w m t v l hn h hg ht)
  clear h hg
  go_enter Tryd.func26, Tryd.ntmps26
  go_wp2_with fail
  refine HC.out.mono ?_
  rintro e w1 ⟨u, vs, rfl, hG, hb1⟩
  have HB := Lib.hid (And.intro hG hb1)
  clear hG hb1
  go_wp2_with fail
  refine (isN_yes m s (by omega) w1).mono ?_
  rintro e w2 ⟨rfl, rfl⟩
  go_wp2_with fail
  go_ret2
  exact ⟨u, vs, rfl, HB.out⟩
/-- ways.onward at what is wrong. -/
theorem onward_bad (w : World) (n a b : Int) (v : Value) (l : List Lk) (hn : l.length < 4611686018427387904) (h : ArgK w v l) (hg : wayBad n l a b ≠ 0) :
    Calls Tryd.prog 26 #[.int .i64 n, v, .int .i64 a, .int .i64 b] w fun e w' => e = .returned (.tuple #[.slice none 0 0, errV (wayBad n l a b)]) ∧ Below w.heap.size w w' := by
  by_cases h1 : spfBad n l b = 0
  · obtain ⟨m, t, rfl, rfl, _, _, ht, hg2, _⟩ := spf_nat h1
    have ha : ¬ (0 ≤ a ∧ a < m) := fun e => hg (wayBad_zero.2 ⟨hg2, by omega, e⟩)
    have e2 : wayBad m l a t = 1 := by unfold wayBad; rw [if_neg (by omega), if_pos (by omega)]
    rw [e2]
    exact onward_bad2 w m t a v l hn h hg2 ht ha
  · have e1 : wayBad n l a b = spfBad n l b := by
      unfold wayBad spfBad at *
      by_cases g : gBad n l = 0
      · rw [if_neg (by omega)] at h1 ⊢
        by_cases g2 : b < 0 ∨ n ≤ b
        · rw [if_pos (Or.inl g2), if_neg (by omega), if_pos g2]
        · exact absurd (if_neg g2) h1
      · rw [if_pos g, if_pos g]
    rw [e1]
    exact onward_bad1 w n a b v l hn h h1

/-- What is told of a call of ways.count. -/
def Cnts (u m t f : Nat) (C : MatP.T) (w : World) : Prop := ∀ w1 a, Below w.heap.size w w1 → a < m → BellP.far m C t a < f → Calls Tryd.prog 27 #[.slice (some ⟨u, 0, none⟩) m m, .int .i64 a, .int .i64 t] w1 fun e w' => e = .returned (.int .i64 (WaysP.num m C t a)) ∧ Below w1.heap.size w1 w'
set_option maxHeartbeats 1000000 in
set_option maxRecDepth 100000 in
theorem count_own (w : World) (u m t : Nat) (C : MatP.T) (hC : BellP.Cost C) (ht : t < m) :
    Calls Tryd.prog 27 #[.slice (some ⟨u, 0, none⟩) m m, .int .i64 t, .int .i64 t] w fun e w' => e = .returned (.int .i64 (WaysP.num m C t t)) ∧ Below w.heap.size w w' := by
  rw [WaysP.num_own hC ht]
  go_enter Tryd.func27, Tryd.ntmps27
  go_wp2_with fail
  go_ret
  exact ⟨rfl, Below.refl _ _⟩
set_option maxHeartbeats 1000000 in
set_option maxRecDepth 100000 in
theorem count_step (w : World) (u m t a f base : Nat) (vs : Nat → Value) (C : MatP.T) (hC : BellP.Cost C) (h8 : m ≤ 8) (ha : a < m) (ht : t < m) (hat : a ≠ t) (hf : BellP.far m C t a < f + 1) (hL : Lists w u m m base vs (SpfP.ups m C t)) (hI : Cnts u m t f C w) :
    Calls Tryd.prog 27 #[.slice (some ⟨u, 0, none⟩) m m, .int .i64 a, .int .i64 t] w fun e w' => e = .returned (.int .i64 (WaysP.num m C t a)) ∧ Below w.heap.size w w' := by
  have HC := Lib.hid hC
  have t0 : ((a : Int) == (t : Int)) = false := by
    have : ¬ (a : Int) = t := by omega
    simpa using this
  have E := Lib.hid (WaysP.num_step hC ht ha hat)
  have HI := Lib.hid hI
  have HM := Lib.hid (fun x (hx : x ∈ SpfP.ups m C t a) => WaysP.mem_ups hx)
  have HS := Lib.hid (fun k => WaysP.sums_bd hC h8 ht (a := a) k)
  have hl8 : (SpfP.ups m C t a).length ≤ 8 := Nat.le_trans (SpfP.upsTo_len m C t a m) h8
  have c0 := hL.c a ha
  obtain ⟨p, c, hv, hp⟩ := (hL.o a ha).arg
  rw [hv] at c0
  have HU := Lib.hid hp
  have HF := Lib.hid hf
  clear hI hC hL hv hp hf hat
  generalize SpfP.ups m C t a = F at E HM HS hl8 c0 HU
  generalize WaysP.num m C t a = z at E ⊢
  go_enter Tryd.func27, Tryd.ntmps27
  go_wp2_with fail
  clear c0
  go_loopw [7, 18] (fun y x wr => ∃ k : Nat, x = .int .i64 k ∧ k ≤ F.length ∧ y = .int .i64 (WaysP.sums m C t (F.take k)) ∧ Hid (Below w.heap.size w wr)) (fun _ x _ => F.length - (RowKit.intOf x).toNat)
  case atStart => exact ⟨0, rfl, Nat.zero_le _, rfl, Lib.hid (Below.refl _ _)⟩
  case round =>
    obtain ⟨k, rfl, hk, rfl, HB⟩ := hrel
    by_cases hkn : k < F.length
    · have HE := Lib.hid (WaysP.sums_more m C t F k hkn)
      have hs1 := HS.out (k + 1)
      rcases HU.out with e | ⟨b, off, rfl, hb, hs⟩
      · rw [e] at hkn; exact absurd hkn (by simp)
      · have a0 := (hs.below HB.out hb) k hkn
        obtain ⟨j, hj, hjm, hja, h16, hsum⟩ := HM.out F[k]! (by rw [getElem!_pos F k hkn]; exact List.getElem_mem hkn)
        rw [hj] at a0 HE
        rw [Int.toNat_natCast] at HE
        have hca := HC.out.off a j (Ne.symm hja)
        have HK := Lib.hid (HI.out wr j HB.out hjm (by have := HF.out; omega))
        rw [HE.out] at hs1
        generalize WaysP.sums m C t (F.take k) = y at HE hs1
        generalize WaysP.num m C t j = q at HE hs1 HK
        clear hs hj hsum h16 hca hja
        go_wp2_with fail
        refine HK.out.mono ?_
        rintro e w1 ⟨rfl, hb1⟩
        have HB1 := Lib.hid (Below.two HB.out hb1)
        clear hb1
        go_wp2_with fail
        go_roundw
        case rel => exact ⟨k + 1, by go_num, by omega, by rw [HE.out]; go_num, HB1⟩
        case measure => simp [RowKit.intOf]; omega
    · obtain rfl : k = F.length := by omega
      have E2 : Hid (WaysP.sums m C t (F.take F.length) = z) := Lib.hid (by rw [List.take_length, E.out])
      go_wp2_with fail
      go_ret
      exact ⟨by rw [E2.out]; rfl, HB.out⟩
theorem count_any (u m t base : Nat) (vs : Nat → Value) (C : MatP.T) (hC : BellP.Cost C) (h8 : m ≤ 8) (ht : t < m) (w : World) (hL : Lists w u m m base vs (SpfP.ups m C t)) : ∀ f, Cnts u m t f C w
  | 0 => fun _ _ _ _ h => by omega
  | f + 1 => fun w1 a hb ha h => by
    by_cases e : a = t
    · subst e
      exact count_own w1 u m a C hC ht
    · exact count_step w1 u m t a f base vs C hC h8 ha ht e h (hL.keep hb) fun w2 j hb2 => count_any u m t base vs C hC h8 ht w hL f w2 j (Below.two hb hb2)

set_option maxHeartbeats 400000 in
set_option maxRecDepth 100000 in
/-- ways.Count at what is wrong. -/
theorem count_bad (w : World) (n a b : Int) (v : Value) (l : List Lk) (hn : l.length < 4611686018427387904) (h : ArgK w v l) (hg : wayBad n l a b ≠ 0) :
    Calls Tryd.prog 12 #[.int .i64 n, v, .int .i64 a, .int .i64 b] w fun e w' => e = .returned (.tuple #[.int .i64 0, errV (wayBad n l a b)]) ∧ Below w.heap.size w w' := by
  have HC := Lib.hid (onward_bad w n a b v l hn h hg)
  rw [show errV (wayBad n l a b) = .iface 25 (.int .i64 (wayBad n l a b)) from if_neg hg] at HC ⊢
  clear h
  generalize wayBad n l a b = q at HC hg
  go_enter Tryd.func12, Tryd.ntmps12
  go_wp2_with fail
  refine HC.out.mono ?_
  rintro e w1 ⟨rfl, hb1⟩
  go_wp2_with fail
  go_ret2
  exact ⟨rfl, hb1⟩
set_option maxHeartbeats 400000 in
set_option maxRecDepth 100000 in
/-- ways.Count at what is right. -/
theorem count_ok (w : World) (m s t : Nat) (v : Value) (l : List Lk) (hn : l.length < 4611686018427387904) (h : ArgK w v l) (hg : gBad m l = 0) (hs : s < m) (ht : t < m) :
    Calls Tryd.prog 12 #[.int .i64 m, v, .int .i64 s, .int .i64 t] w fun e w' => e = .returned (.tuple #[.int .i64 (WaysP.num m (BellP.ct l) t s), .nilIface]) ∧ Below w.heap.size w w' := by
  have HC := Lib.hid (onward_ok w m s t v l hn h hg hs ht)
  have HN := Lib.hid (fun u vs w1 (hL : Lists w1 u m m w.heap.size vs (SpfP.ups m (BellP.ct l) t)) => count_any u m t w.heap.size vs (BellP.ct l) (BellP.ct_cost ((gBad_zero m l).1 hg).2) (by have := ((gBad_zero m l).1 hg).1; omega) ht w1 hL (BellP.far m (BellP.ct l) t s + 1) w1 s (Below.refl _ _) hs (Nat.lt_succ_self _))
  clear h hg
  generalize WaysP.num m (BellP.ct l) t s = z at HN ⊢
  go_enter Tryd.func12, Tryd.ntmps12
  go_wp2_with fail
  refine HC.out.mono ?_
  rintro e w1 ⟨u, vs, rfl, hG, hb1⟩
  have HK := Lib.hid (HN.out u vs w1 hG)
  have HB := Lib.hid hb1
  clear hG hb1 HN HC
  go_wp2_with fail
  refine HK.out.mono ?_
  rintro e w2 ⟨rfl, hb2⟩
  have HB2 := Lib.hid (Below.two HB.out hb2)
  clear hb2
  go_wp2_with fail
  go_ret2
  exact ⟨rfl, HB2.out⟩
end Go.Proofs.YtomfkmclgabcpaaDoor
