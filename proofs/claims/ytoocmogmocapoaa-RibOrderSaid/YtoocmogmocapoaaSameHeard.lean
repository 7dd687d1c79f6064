/-
  The statements' own comparison of two lists of what was heard; what lay in memory stays.
-/
import Derived.Test.YtoocmogmocapoaaRibMem
import Derived.Lib.Hide
import Derived.LoopN
import Derived.Lib.Walk
namespace Go.Proofs.Ytoocmogmocapoaa
open Go.RowKit Go.Lib

theorem takeH_more {l m : List Hd} {k : Nat} (h1 : k < l.length) (h2 : k < m.length) (ht : l.take k = m.take k) (he : l[k]! = m[k]!) : l.take (k + 1) = m.take (k + 1) := by
  rw [List.take_succ_eq_append_getElem h1, List.take_succ_eq_append_getElem h2, ht, ← getElem!_pos l k h1, ← getElem!_pos m k h2, he]

set_option maxHeartbeats 2000000 in
set_option maxRecDepth 100000 in
theorem sameHeard_some (w : World) (b off c b' off' c' : Nat) (l m : List Hd) (hn : l.length < 4611686018427387904) (he : l.length = m.length) (hb : b < w.heap.size) (hb' : b' < w.heap.size) (hs : LSeen w b off l) (hs' : LSeen w b' off' m) :
    Calls Try.prog 13 #[.slice (some ⟨b, off, none⟩) l.length c, .slice (some ⟨b', off', none⟩) m.length c'] w fun e w' => e = .returned (.bool (decide (l = m))) ∧ Below w.heap.size w w' := by
  rw [← he]
  have HS := Lib.hid hs; have HS' := Lib.hid hs'
  have HL := Lib.hid he
  clear hs hs' he
  go_enter Try.func13, Try.ntmps13
  go_wp2_with fail
  go_loopw [5] (fun v wr => ∃ (k : Nat), v = .int .i64 k ∧ k ≤ l.length ∧ Hid (Below w.heap.size w wr) ∧ Hid (l.take k = m.take k)) (fun v _ => l.length - (RowKit.intOf v).toNat)
  case atStart => exact ⟨0, rfl, Nat.zero_le _, Lib.hid (Below.refl _ _), Lib.hid rfl⟩
  case round =>
    obtain ⟨k, rfl, hk, hB, HE⟩ := hrel
    by_cases hkn : k < l.length
    · have hkm : k < m.length := by rw [← HL.out]; exact hkn
      obtain ⟨p0, p1, p2, p3⟩ := ((HS.out.below hB.out hb) k hkn).hd
      obtain ⟨q0, q1, q2, q3⟩ := ((HS'.out.below hB.out hb') k hkm).hd
      have a0 : wr.cell? ⟨b, off + k * 4, none⟩ = _ := p0
      have a1 : wr.cell? ⟨b, off + k * 4 + 1, none⟩ = _ := p1
      have a2 : wr.cell? ⟨b, off + k * 4 + 2, none⟩ = _ := p2
      have a3 : wr.cell? ⟨b, off + k * 4 + 3, none⟩ = _ := p3
      have d0 : wr.cell? ⟨b', off' + k * 4, none⟩ = _ := q0
      have d1 : wr.cell? ⟨b', off' + k * 4 + 1, none⟩ = _ := q1
      have d2 : wr.cell? ⟨b', off' + k * 4 + 2, none⟩ = _ := q2
      have d3 : wr.cell? ⟨b', off' + k * 4 + 3, none⟩ = _ := q3
      have HT := fun h => Lib.hid (takeH_more hkn hkm HE.out h)
      have HX : Hid (l[k]! ≠ m[k]! → decide (l = m) = false) := Lib.hid fun h => decide_eq_false fun e => h (by rw [e])
      clear p0 p1 p2 p3 q0 q1 q2 q3 hkm
      generalize l[k]! = x at a0 a1 a2 a3 HT HX
      generalize m[k]! = y at d0 d1 d2 d3 HT HX
      by_cases hxy : x = y
      · have HT' := HT hxy
        subst hxy
        clear HT HX
        go_wp2_with fail
        go_region
        go_wp2_with fail
        go_roundw
        case rel => exact ⟨k + 1, by go_num, by omega, Lib.hid hB.out.drew, HT'⟩
        case measure => simp [RowKit.intOf]; omega
      · have e : decide (l = m) = false := HX.out hxy
        have E := Lib.hid e
        clear HT HX
        have hne : ¬ (x.f = y.f ∧ x.n.1 = y.n.1 ∧ x.n.2 = y.n.2 ∧ x.m = y.m) := fun h => hxy ((Hd.same x y).2 h)
        obtain ⟨xf, ⟨xa, xl⟩, xm⟩ := x
        obtain ⟨yf, ⟨ya, yl⟩, ym⟩ := y
        simp only at a0 a1 a2 a3 d0 d1 d2 d3 hne
        clear hxy e
        by_cases h0 : xf = yf
        · subst h0
          by_cases h1 : xa = ya
          · subst h1
            by_cases h2 : xl = yl
            · subst h2
              have t4 : (xm == ym) = false := by
                have : ¬ xm = ym := fun h => hne ⟨rfl, rfl, rfl, h⟩
                simpa using this
              clear hne
              go_wp2_with fail
              go_region
              go_wp2_with fail
              go_ret
              exact ⟨by rw [E.out]; rfl, hB.out.drew⟩
            · have t2 : (xl == yl) = false := by simpa using h2
              clear hne
              go_wp2_with fail
              go_region
              go_wp2_with fail
              go_ret
              exact ⟨by rw [E.out]; rfl, hB.out.drew⟩
          · have t1 : ((xa : Int) == (ya : Int)) = false := by
              have : ¬ (xa : Int) = ya := by omega
              simpa using this
            clear hne
            go_wp2_with fail
            go_region
            go_wp2_with fail
            go_ret
            exact ⟨by rw [E.out]; rfl, hB.out.drew⟩
        · have t0 : (xf == yf) = false := by simpa using h0
          clear hne
          go_wp2_with fail
          go_region
          go_wp2_with fail
          go_ret
          exact ⟨by rw [E.out]; rfl, hB.out.drew⟩
    · have e : decide (l = m) = true := decide_eq_true (by
        have := HE.out
        rwa [List.take_of_length_le (by omega), List.take_of_length_le (by rw [← HL.out]; omega)] at this)
      go_wp2_with fail
      go_ret
      exact ⟨by rw [e]; rfl, hB.out⟩

set_option maxHeartbeats 400000 in
set_option maxRecDepth 100000 in
theorem sameHeard_unlike (w : World) (p p' : Option Addr) (n c n' c' : Nat) (h : n ≠ n') :
    Calls Try.prog 13 #[.slice p n c, .slice p' n' c'] w fun e w' => e = .returned (.bool false) ∧ Below w.heap.size w w' := by
  have t : ((n : Int) == (n' : Int)) = false := by
    have : ¬ (n : Int) = n' := by omega
    simpa using this
  go_enter Try.func13, Try.ntmps13
  go_wp2_with fail
  go_ret
  exact ⟨rfl, Below.refl _ _⟩
set_option maxHeartbeats 400000 in
set_option maxRecDepth 100000 in
theorem sameHeard_none (w : World) (p p' : Option Addr) (c c' : Nat) :
    Calls Try.prog 13 #[.slice p 0 c, .slice p' 0 c'] w fun e w' => e = .returned (.bool true) ∧ Below w.heap.size w w' := by
  go_enter Try.func13, Try.ntmps13
  go_wp2_with fail
  refine wp_loop_rounds 1 ?_
  rw [rounds_succ]
  go_wp2_with fail
  go_ret
  exact ⟨rfl, Below.refl _ _⟩
/-- waywardensame.Heard at every two lists. -/
theorem sameHeard_any (w : World) (v v' : Value) (l m : List Hd) (hn : l.length < 4611686018427387904) (h : LArg w v l) (h' : LArg w v' m) :
    Calls Try.prog 13 #[v, v'] w fun e w' => e = .returned (.bool (decide (l = m))) ∧ Below w.heap.size w w' := by
  obtain ⟨p, c, rfl, _, h⟩ := h
  obtain ⟨p', c', rfl, _, h'⟩ := h'
  by_cases hl : l.length = m.length
  · rcases h with rfl | ⟨b, off, rfl, hb, hs⟩
    · have e : m = [] := List.length_eq_zero_iff.1 hl.symm
      subst e
      exact sameHeard_none w p p' c c'
    · rcases h' with rfl | ⟨b', off', rfl, hb', hs'⟩
      · have e : l = [] := List.length_eq_zero_iff.1 hl
        subst e
        exact sameHeard_none w _ p' c c'
      · exact sameHeard_some w b off c b' off' c' l m hn hl hb hb' hs hs'
  · have e : decide (l = m) = false := decide_eq_false fun h => hl (by rw [h])
    rw [e]
    exact sameHeard_unlike w p p' _ c _ c' hl
end Go.Proofs.Ytoocmogmocapoaa
