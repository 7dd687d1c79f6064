/-
  The statements' own comparison of two lists of rows; what lay in memory stays.
-/
import Derived.Test.YtjgmehmhhplkaaaDoorRowSeen
import Derived.StillTailTactics
namespace Go.Proofs.YtjgmehmhhplkaaaDoor
open Go.RowKit Go.Lib

set_option maxHeartbeats 1000000 in
set_option maxRecDepth 100000 in
theorem sameRows_some (w : World) (b off c b' off' c' : Nat) (l m : List (List Int)) (hn : l.length < 4611686018427387904) (hr : ∀ r ∈ l, r.length < 4611686018427387904) (he : l.length = m.length) (hb : b < w.heap.size) (hb' : b' < w.heap.size) (hs : SeenR w b off l) (hs' : SeenR w b' off' m) :
    Calls Tryd.prog 13 #[.slice (some ⟨b, off, none⟩) l.length c, .slice (some ⟨b', off', none⟩) m.length c'] w fun e w' => e = .returned (.bool (decide (l = m))) ∧ Below w.heap.size w w' := by
  rw [← he]
  have HS := Lib.hid hs; have HS' := Lib.hid hs'
  have HL := Lib.hid he
  have HR := Lib.hid hr
  clear hs hs' he hr
  go_enter Tryd.func13, Tryd.ntmps13
  go_wp2_with fail
  go_loopw [5] (fun v wr => ∃ (k : Nat), v = .int .i64 k ∧ k ≤ l.length ∧ Hid (Below w.heap.size w wr) ∧ Hid (l.take k = m.take k)) (fun v _ => l.length - (RowKit.intOf v).toNat)
  case atStart => exact ⟨0, rfl, Nat.zero_le _, Lib.hid (Below.refl _ _), Lib.hid rfl⟩
  case round =>
    obtain ⟨k, rfl, hk, hB, HE⟩ := hrel
    by_cases hkn : k < l.length
    · have hkm : k < m.length := by rw [← HL.out]; exact hkn
      obtain ⟨v, a0, hv⟩ := (HS.out.below hB.out hb) k hkn
      obtain ⟨v', d0, hv'⟩ := (HS'.out.below hB.out hb') k hkm
      have hlen : l[k]!.length < 4611686018427387904 := HR.out _ (by rw [getElem!_pos l k hkn]; exact List.getElem_mem hkn)
      have HT := fun h => Lib.hid (take_more hkn hkm HE.out h)
      have HX : Hid (l[k]! ≠ m[k]! → decide (l = m) = false) := Lib.hid fun h => decide_eq_false fun e => h (by rw [e])
      clear hkm
      generalize l[k]! = x at hv HT HX hlen
      generalize m[k]! = y at hv' HT HX
      have HC := Lib.hid (sameInts_any wr.drew v v' x y hlen (hv.below (Below.refl _ _).drew) (hv'.below (Below.refl _ _).drew))
      clear hlen hv hv'
      by_cases h1 : x = y
      · have HT' := HT h1
        rw [decide_eq_true h1] at HC
        clear HT HX h1
        go_wp2_with fail
        go_still_tail 8, (by kernel_rfl)
        change wpList _ _ _ _ _ wr.drew
        have HBd := Lib.hid hB.out.drew
        generalize wr.drew = w2 at HC HBd ⊢
        go_wp2_with fail
        refine HC.out.mono ?_
        rintro e w3 ⟨rfl, hb3⟩
        have HB3 := Lib.hid (Below.two HBd.out hb3); clear hb3
        go_wp2_with fail
        go_roundw
        case rel => exact ⟨k + 1, by go_num, by omega, HB3, HT'⟩
        case measure => simp [RowKit.intOf]; omega
      · have e : decide (l = m) = false := HX.out h1
        have E := Lib.hid e
        rw [decide_eq_false h1] at HC
        clear HT HX h1 e
        go_wp2_with fail
        go_still_tail 8, (by kernel_rfl)
        change wpList _ _ _ _ _ wr.drew
        have HBd := Lib.hid hB.out.drew
        generalize wr.drew = w2 at HC HBd ⊢
        go_wp2_with fail
        refine HC.out.mono ?_
        rintro e w3 ⟨rfl, hb3⟩
        have HB3 := Lib.hid (Below.two HBd.out hb3); clear hb3
        go_wp2_with fail
        go_ret
        exact ⟨by rw [E.out]; rfl, HB3.out⟩
    · have e : decide (l = m) = true := decide_eq_true (by
        have := HE.out
        rwa [List.take_of_length_le (by omega), List.take_of_length_le (by rw [← HL.out]; omega)] at this)
      go_wp2_with fail
      go_ret
      exact ⟨by rw [e]; rfl, hB.out⟩

set_option maxHeartbeats 400000 in
set_option maxRecDepth 100000 in
theorem sameRows_unlike (w : World) (p p' : Option Addr) (n c n' c' : Nat) (h : n ≠ n') :
    Calls Tryd.prog 13 #[.slice p n c, .slice p' n' c'] w fun e w' => e = .returned (.bool false) ∧ Below w.heap.size w w' := by
  have t : ((n : Int) != (n' : Int)) = true := by
    have : ¬ (n : Int) = n' := by omega
    simpa using this
  go_enter Tryd.func13, Tryd.ntmps13
  go_wp2_with fail
  go_ret
  exact ⟨rfl, Below.refl _ _⟩
set_option maxHeartbeats 400000 in
set_option maxRecDepth 100000 in
theorem sameRows_none (w : World) (p p' : Option Addr) (c c' : Nat) :
    Calls Tryd.prog 13 #[.slice p 0 c, .slice p' 0 c'] w fun e w' => e = .returned (.bool true) ∧ Below w.heap.size w w' := by
  go_enter Tryd.func13, Tryd.ntmps13
  go_wp2_with fail
  refine wp_loop_rounds 1 ?_
  rw [rounds_succ]
  go_wp2_with fail
  go_ret
  exact ⟨rfl, Below.refl _ _⟩
/-- waywardensame.Rows at every two lists of rows. -/
theorem sameRows_any (w : World) (v v' : Value) (l m : List (List Int)) (hn : l.length < 4611686018427387904) (hr : ∀ r ∈ l, r.length < 4611686018427387904) (h : ArgR w v l) (h' : ArgR w v' m) :
    Calls Tryd.prog 13 #[v, v'] w fun e w' => e = .returned (.bool (decide (l = m))) ∧ Below w.heap.size w w' := by
  obtain ⟨p, c, rfl, h⟩ := h
  obtain ⟨p', c', rfl, h'⟩ := h'
  by_cases hl : l.length = m.length
  · rcases h with rfl | ⟨b, off, rfl, hb, hs⟩
    · have e : m = [] := List.length_eq_zero_iff.1 hl.symm
      subst e
      exact sameRows_none w p p' c c'
    · rcases h' with rfl | ⟨b', off', rfl, hb', hs'⟩
      · have e : l = [] := List.length_eq_zero_iff.1 hl
        subst e
        exact sameRows_none w _ p' c c'
      · exact sameRows_some w b off c b' off' c' l m hn hr hl hb hb' hs hs'
  · rw [decide_eq_false (fun e => hl (by rw [e]))]
    exact sameRows_unlike w p p' l.length c m.length c' hl
end Go.Proofs.YtjgmehmhhplkaaaDoor
