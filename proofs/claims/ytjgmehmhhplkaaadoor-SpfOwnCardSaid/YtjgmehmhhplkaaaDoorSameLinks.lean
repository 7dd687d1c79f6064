/-
  The statements' own comparison of two lists of links; what lay in memory stays.
-/
import Derived.Test.YtjgmehmhhplkaaaDoorLinkList
import Derived.Test.YtjgmehmhhplkaaaDoorSameInts
namespace Go.Proofs.YtjgmehmhhplkaaaDoor
open Go.RowKit Go.Lib

set_option maxHeartbeats 1000000 in
set_option maxRecDepth 100000 in
theorem sameLinks_some (w : World) (b off c b' off' c' : Nat) (l m : List Lk) (hn : l.length < 4611686018427387904) (he : l.length = m.length) (hb : b < w.heap.size) (hb' : b' < w.heap.size) (hs : SeenK w b off l) (hs' : SeenK w b' off' m) :
    Calls Tryd.prog 16 #[.slice (some ⟨b, off, none⟩) l.length c, .slice (some ⟨b', off', none⟩) m.length c'] w fun e w' => e = .returned (.bool (decide (l = m))) ∧ Below w.heap.size w w' := by
  rw [← he]
  have HS := Lib.hid hs; have HS' := Lib.hid hs'
  have HL := Lib.hid he
  clear hs hs' he
  go_enter Tryd.func16, Tryd.ntmps16
  go_wp2_with fail
  go_loopw [5] (fun v wr => ∃ (k : Nat), v = .int .i64 k ∧ k ≤ l.length ∧ Hid (Below w.heap.size w wr) ∧ Hid (l.take k = m.take k)) (fun v _ => l.length - (RowKit.intOf v).toNat)
  case atStart => exact ⟨0, rfl, Nat.zero_le _, Lib.hid (Below.refl _ _), Lib.hid rfl⟩
  case round =>
    obtain ⟨k, rfl, hk, hB, HE⟩ := hrel
    by_cases hkn : k < l.length
    · have S := HS.out.below hB.out hb
      have S' := HS'.out.below hB.out hb'
      have hkm : k < m.length := by rw [← HL.out]; exact hkn
      have a0 : wr.cell? ⟨b, off + k * 3, none⟩ = some (.int .i64 l[k]!.1) := S.c0 k hkn
      have a1 : wr.cell? ⟨b, off + k * 3 + 1, none⟩ = some (.int .i64 l[k]!.2.1) := S.c1 k hkn
      have a2 : wr.cell? ⟨b, off + k * 3 + 2, none⟩ = some (.int .i64 l[k]!.2.2) := S.c2 k hkn
      have d0 : wr.cell? ⟨b', off' + k * 3, none⟩ = some (.int .i64 m[k]!.1) := S'.c0 k hkm
      have d1 : wr.cell? ⟨b', off' + k * 3 + 1, none⟩ = some (.int .i64 m[k]!.2.1) := S'.c1 k hkm
      have d2 : wr.cell? ⟨b', off' + k * 3 + 2, none⟩ = some (.int .i64 m[k]!.2.2) := S'.c2 k hkm
      have HT := fun h => Lib.hid (take_more hkn hkm HE.out h)
      have HX : Hid (l[k]! ≠ m[k]! → decide (l = m) = false) := Lib.hid fun h => decide_eq_false fun e => h (by rw [e])
      clear S S' hkm
      generalize l[k]! = x at a0 a1 a2 HT HX
      generalize m[k]! = y at d0 d1 d2 HT HX
      by_cases hxy : x = y
      · have HT' := HT hxy
        subst hxy
        clear HT HX
        go_wp2_with fail
        go_region
        go_wp2_with fail
        go_roundw
        case rel => exact ⟨k + 1, by go_num, by omega, Lib.hid hB.out.drew, HT'⟩
        case measure => simp [RowKit.intOf]; omega
      · have e : decide (l = m) = false := HX.out hxy
        obtain ⟨x0, x1, x2⟩ := x
        obtain ⟨y0, y1, y2⟩ := y
        simp only at a0 a1 a2 d0 d1 d2
        have hc : (x0 == y0) = false ∨ (x0 = y0 ∧ (x1 == y1) = false) ∨ (x0 = y0 ∧ x1 = y1 ∧ (x2 == y2) = false) := by
          simp only [beq_eq_false_iff_ne]
          simp only [Prod.mk.injEq] at hxy
          omega
        clear HT HX hxy
        rcases hc with t0 | ⟨t0, t1⟩ | ⟨t0, t1, t2⟩
        · go_wp2_with fail
          go_region
          go_wp2_with fail
          go_ret
          exact ⟨by rw [e]; rfl, hB.out.drew⟩
        · subst t0
          go_wp2_with fail
          go_region
          go_wp2_with fail
          go_ret
          exact ⟨by rw [e]; rfl, hB.out.drew⟩
        · subst t0 t1
          go_wp2_with fail
          go_region
          go_wp2_with fail
          go_ret
          exact ⟨by rw [e]; rfl, hB.out.drew⟩
    · have e : decide (l = m) = true := decide_eq_true (by
        have := HE.out
        rwa [List.take_of_length_le (by omega), List.take_of_length_le (by rw [← HL.out]; omega)] at this)
      go_wp2_with fail
      go_ret
      exact ⟨by rw [e]; rfl, hB.out⟩
set_option maxHeartbeats 400000 in
set_option maxRecDepth 100000 in
theorem sameLinks_unlike (w : World) (p p' : Option Addr) (n c n' c' : Nat) (h : n ≠ n') :
    Calls Tryd.prog 16 #[.slice p n c, .slice p' n' c'] w fun e w' => e = .returned (.bool false) ∧ Below w.heap.size w w' := by
  have t : ((n : Int) != (n' : Int)) = true := by
    have : ¬ (n : Int) = n' := by omega
    simpa using this
  go_enter Tryd.func16, Tryd.ntmps16
  go_wp2_with fail
  go_ret
  exact ⟨rfl, Below.refl _ _⟩
set_option maxHeartbeats 400000 in
set_option maxRecDepth 100000 in
theorem sameLinks_none (w : World) (p p' : Option Addr) (c c' : Nat) :
    Calls Tryd.prog 16 #[.slice p 0 c, .slice p' 0 c'] w fun e w' => e = .returned (.bool true) ∧ Below w.heap.size w w' := by
  go_enter Tryd.func16, Tryd.ntmps16
  go_wp2_with fail
  refine wp_loop_rounds 1 ?_
  rw [rounds_succ]
  go_wp2_with fail
  go_ret
  exact ⟨rfl, Below.refl _ _⟩
/-- waywardensame.Links at every two lists. -/
theorem sameLinks_any (w : World) (v v' : Value) (l m : List Lk) (hn : l.length < 4611686018427387904) (h : ArgK w v l) (h' : ArgK w v' m) :
    Calls Tryd.prog 16 #[v, v'] w fun e w' => e = .returned (.bool (decide (l = m))) ∧ Below w.heap.size w w' := by
  obtain ⟨p, c, rfl, h⟩ := h
  obtain ⟨p', c', rfl, h'⟩ := h'
  by_cases hl : l.length = m.length
  · rcases h with rfl | ⟨b, off, rfl, hb, hs⟩
    · have e : m = [] := List.length_eq_zero_iff.1 hl.symm
      subst e
      exact sameLinks_none w p p' c c'
    · rcases h' with rfl | ⟨b', off', rfl, hb', hs'⟩
      · have e : l = [] := List.length_eq_zero_iff.1 hl
        subst e
        exact sameLinks_none w _ p' c c'
      · exact sameLinks_some w b off c b' off' c' l m hn hl hb hb' hs hs'
  · rw [decide_eq_false (fun e => hl (by rw [e]))]
    exact sameLinks_unlike w p p' l.length c m.length c' hl
end Go.Proofs.YtjgmehmhhplkaaaDoor
