/-
  The statements' own comparison of two lists of entries and of two messages; what lay in memory stays.
-/
import Derived.Test.YtlgkjbkbdmneaaaDoorEntList
import Derived.Test.YtlgkjbkbdmneaaaDoorBoxSet
import Derived.Lib.Hide
import Derived.Deep.RegionHeld3
import Derived.LoopN
import Derived.Lib.Walk
namespace Go.Proofs.YtlgkjbkbdmneaaaDoor
open Go.RowKit Go.Lib

theorem takeE_more {l m : List En} {k : Nat} (h1 : k < l.length) (h2 : k < m.length) (ht : l.take k = m.take k) (he : l[k]! = m[k]!) : l.take (k + 1) = m.take (k + 1) := by
  rw [List.take_succ_eq_append_getElem h1, List.take_succ_eq_append_getElem h2, ht, ← getElem!_pos l k h1, ← getElem!_pos m k h2, he]

set_option maxHeartbeats 2000000 in
set_option maxRecDepth 100000 in
theorem sameEnts_some (w : World) (b off c b' off' c' : Nat) (l m : List En) (hn : l.length < 4611686018427387904) (he : l.length = m.length) (hb : b < w.heap.size) (hb' : b' < w.heap.size) (hs : SeenE w b off l) (hs' : SeenE w b' off' m) :
    Calls Tryd.prog 17 #[.slice (some ⟨b, off, none⟩) l.length c, .slice (some ⟨b', off', none⟩) m.length c'] w fun e w' => e = .returned (.bool (decide (l = m))) ∧ Below w.heap.size w w' := by
  rw [← he]
  have HS := Lib.hid hs; have HS' := Lib.hid hs'
  have HL := Lib.hid he
  clear hs hs' he
  go_enter Tryd.func17, Tryd.ntmps17
  go_wp2_with fail
  go_loopw [5] (fun v wr => ∃ (k : Nat), v = .int .i64 k ∧ k ≤ l.length ∧ Hid (Below w.heap.size w wr) ∧ Hid (l.take k = m.take k)) (fun v _ => l.length - (RowKit.intOf v).toNat)
  case atStart => exact ⟨0, rfl, Nat.zero_le _, Lib.hid (Below.refl _ _), Lib.hid rfl⟩
  case round =>
    obtain ⟨k, rfl, hk, hB, HE⟩ := hrel
    by_cases hkn : k < l.length
    · have S := HS.out.below hB.out hb
      have S' := HS'.out.below hB.out hb'
      have hkm : k < m.length := by rw [← HL.out]; exact hkn
      obtain ⟨a0, a1, a2, a3, a4⟩ := S k hkn
      obtain ⟨d0, d1, d2, d3, d4⟩ := S' k hkm
      have HT := fun h => Lib.hid (takeE_more hkn hkm HE.out h)
      have HX : Hid (l[k]! ≠ m[k]! → decide (l = m) = false) := Lib.hid fun h => decide_eq_false fun e => h (by rw [e])
      clear S S' hkm
      generalize l[k]! = x at a0 a1 a2 a3 a4 HT HX
      generalize m[k]! = y at d0 d1 d2 d3 d4 HT HX
      by_cases hxy : x = y
      · have HT' := HT hxy
        subst hxy
        clear HT HX
        go_wp2_with fail
        go_region
        go_wp2_with fail
        go_roundw
        case rel => exact ⟨k + 1, by go_num, by omega, Lib.hid hB.out.drew, HT'⟩
        case measure => simp [RowKit.intOf]; omega
      · have e : decide (l = m) = false := HX.out hxy
        have E := Lib.hid e
        clear HT HX
        have hne : ¬ (x.a = y.a ∧ x.n = y.n ∧ x.t = y.t ∧ x.h = y.h ∧ x.m = y.m) := fun h => hxy ((En.same x y).2 h)
        obtain ⟨xa, xn, xt, xh, xm⟩ := x
        obtain ⟨ya, yn, yt, yh, ym⟩ := y
        simp only at a0 a1 a2 a3 a4 d0 d1 d2 d3 d4 hne
        clear hxy e
        by_cases h0 : xa = ya
        · subst h0
          by_cases h1 : xn = yn
          · subst h1
            by_cases h2 : xt = yt
            · subst h2
              by_cases h3 : xh = yh
              · subst h3
                have t4 : (xm == ym) = false := by
                  have : ¬ xm = ym := fun h => hne ⟨rfl, rfl, rfl, rfl, h⟩
                  simpa using this
                clear hne
                go_wp2_with fail
                go_region
                go_wp2_with fail
                go_ret
                exact ⟨by rw [E.out]; rfl, hB.out.drew⟩
              · have t3 : ((xh : Int) == (yh : Int)) = false := by
                  have : ¬ (xh : Int) = yh := by omega
                  simpa using this
                clear hne
                go_wp2_with fail
                go_region
                go_wp2_with fail
                go_ret
                exact ⟨by rw [E.out]; rfl, hB.out.drew⟩
            · have t2 : (xt == yt) = false := by simpa using h2
              clear hne
              go_wp2_with fail
              go_region
              go_wp2_with fail
              go_ret
              exact ⟨by rw [E.out]; rfl, hB.out.drew⟩
          · have t1 : (xn == yn) = false := by simpa using h1
            clear hne
            go_wp2_with fail
            go_region
            go_wp2_with fail
            go_ret
            exact ⟨by rw [E.out]; rfl, hB.out.drew⟩
        · have t0 : ((xa : Int) == (ya : Int)) = false := by
            have : ¬ (xa : Int) = ya := by omega
            simpa using this
          clear hne
          go_wp2_with fail
          go_region
          go_wp2_with fail
          go_ret
          exact ⟨by rw [E.out]; rfl, hB.out.drew⟩
    · have e : decide (l = m) = true := decide_eq_true (by
        have := HE.out
        rwa [List.take_of_length_le (by omega), List.take_of_length_le (by rw [← HL.out]; omega)] at this)
      go_wp2_with fail
      go_ret
      exact ⟨by rw [e]; rfl, hB.out⟩

set_option maxHeartbeats 400000 in
set_option maxRecDepth 100000 in
theorem sameEnts_unlike (w : World) (p p' : Option Addr) (n c n' c' : Nat) (h : n ≠ n') :
    Calls Tryd.prog 17 #[.slice p n c, .slice p' n' c'] w fun e w' => e = .returned (.bool false) ∧ Below w.heap.size w w' := by
  have t : ((n : Int) == (n' : Int)) = false := by
    have : ¬ (n : Int) = n' := by omega
    simpa using this
  go_enter Tryd.func17, Tryd.ntmps17
  go_wp2_with fail
  go_ret
  exact ⟨rfl, Below.refl _ _⟩
set_option maxHeartbeats 400000 in
set_option maxRecDepth 100000 in
theorem sameEnts_none (w : World) (p p' : Option Addr) (c c' : Nat) :
    Calls Tryd.prog 17 #[.slice p 0 c, .slice p' 0 c'] w fun e w' => e = .returned (.bool true) ∧ Below w.heap.size w w' := by
  go_enter Tryd.func17, Tryd.ntmps17
  go_wp2_with fail
  refine wp_loop_rounds 1 ?_
  rw [rounds_succ]
  go_wp2_with fail
  go_ret
  exact ⟨rfl, Below.refl _ _⟩
/-- waywardensame.Entries at every two lists. -/
theorem sameEnts_any (w : World) (v v' : Value) (l m : List En) (hn : l.length < 4611686018427387904) (h : ArgE w v l) (h' : ArgE w v' m) :
    Calls Tryd.prog 17 #[v, v'] w fun e w' => e = .returned (.bool (decide (l = m))) ∧ Below w.heap.size w w' := by
  obtain ⟨p, c, rfl, _, h⟩ := h
  obtain ⟨p', c', rfl, _, h'⟩ := h'
  by_cases hl : l.length = m.length
  · rcases h with rfl | ⟨b, off, rfl, hb, hs⟩
    · have e : m = [] := List.length_eq_zero_iff.1 hl.symm
      subst e
      exact sameEnts_none w p p' c c'
    · rcases h' with rfl | ⟨b', off', rfl, hb', hs'⟩
      · have e : l = [] := List.length_eq_zero_iff.1 hl
        subst e
        exact sameEnts_none w _ p' c c'
      · exact sameEnts_some w b off c b' off' c' l m hn hl hb hb' hs hs'
  · rw [decide_eq_false (fun e => hl (by rw [e]))]
    exact sameEnts_unlike w p p' l.length c m.length c' hl

set_option maxHeartbeats 1000000 in
set_option maxRecDepth 100000 in
/-- waywardensame.Message at every two messages. -/
theorem sameMsg_any (w : World) (a a' : Bool) (v v' : Value) (l m : List En) (hn : l.length < 4611686018427387904) (h : ArgE w v l) (h' : ArgE w v' m) :
    Calls Tryd.prog 16 #[.agg #[.bool a, v], .agg #[.bool a', v']] w fun e w' => e = .returned (.bool (decide (l = m) && (a == a'))) ∧ Below w.heap.size w w' := by
  obtain ⟨h1, h2, h3⟩ := box2 (w := w) (x := .bool a) (y := v) (x' := .bool a') (y' := v') (T := 24) (T' := 24) (Below.refl _ _)
  have HC := Lib.hid (sameEnts_any _ v v' l m hn (h.below h3) (h'.below h3))
  obtain ⟨p, c, rfl, _, _⟩ := h
  obtain ⟨p', c', rfl, _, _⟩ := h'
  have H1 := Lib.hid h1; have H2 := Lib.hid h2; have H3 := Lib.hid h3
  clear h1 h2 h3
  generalize decide (l = m) = d at HC ⊢
  go_enter Tryd.func16, Tryd.ntmps16
  go_wp2_with fail
  refine HC.out.mono ?_
  rintro x w1 ⟨rfl, hb⟩
  obtain ⟨_, a0, a1, _, _⟩ := H1.out.kept hb
  obtain ⟨_, b0, b1, _, _⟩ := H2.out.kept hb
  have HB := Lib.hid (Below.two H3.out hb)
  clear hb HC
  cases d
  · go_wp2_with fail
    go_ret
    exact ⟨rfl, HB.out⟩
  · go_wp2_with fail
    go_ret
    exact ⟨rfl, HB.out⟩
end Go.Proofs.YtlgkjbkbdmneaaaDoor
