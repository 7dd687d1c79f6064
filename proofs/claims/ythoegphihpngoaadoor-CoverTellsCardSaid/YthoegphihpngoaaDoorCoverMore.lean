/-
  cover.Cover at every list, right or not; waywardensame.Nets at every two lists; what lay in memory stays.
-/
import Derived.Test.YthoegphihpngoaaDoorCoverCov
namespace Go.Proofs.YthoegphihpngoaaDoor
open Go.RowKit Go.Lib

/-- What Cover answers: the cover, or nothing. -/
def covE (l : List Nt) : List Nt := if badL l = 0 then cov l else []

theorem stepR_len (st : List Nt) (n : Nt) : (stepR st n).length ≤ st.length + 1 := by
  cases st with
  | nil => rw [stepR]; exact joinR_len [n]
  | cons t r =>
    rw [stepR]
    split
    · exact Nat.le_succ _
    · exact joinR_len (n :: t :: r)
theorem covR_len : ∀ (l st : List Nt), (covR l st).length ≤ st.length + l.length
  | [], st => by rw [covR]; exact Nat.le_refl _
  | n :: r, st => by
    rw [covR, List.length_cons]
    have h1 := covR_len r (stepR st n)
    have h2 := stepR_len st n
    omega
/-- A cover has no more networks than the list. -/
theorem cov_len (l : List Nt) : (cov l).length ≤ l.length := by
  unfold cov
  have := covR_len (srt l) []
  rw [srt_len] at this
  simpa using this
theorem covE_len {N : Nat} (l : List Nt) (h : l.length < N) : (covE l).length < N := by
  unfold covE
  split
  · exact Nat.lt_of_le_of_lt (cov_len l) h
  · simp only [List.length_nil]; omega

set_option maxHeartbeats 400000 in
set_option maxRecDepth 100000 in
theorem cover_bad (w : World) (v : Value) (l : List Nt) (harg : Arg w v l) (hn : l.length < 4611686018427387904) (hok : ∀ x ∈ l, x.1 < 4294967296) (hb : badL l ≠ 0) :
    Calls Tryd.prog 8 #[v] w fun e w' => e = .returned (.tuple #[.slice none 0 0, errV (badL l)]) ∧ Below w.heap.size w w' := by
  have hE : errV (badL l) = .iface 25 (.int .i64 (badL l)) := if_neg hb
  have hC := checkL_any w v l hn harg hok
  rw [hE] at hC ⊢
  have HC := Lib.hid hC; clear hC hE harg hok hb
  generalize badL l = q at HC ⊢
  go_enter Tryd.func8, Tryd.ntmps8
  go_wp2_with fail
  refine HC.out.mono ?_
  rintro e w1 ⟨rfl, hb⟩
  go_wp2_with fail
  exact bodyPost_ret (v := .tuple #[.slice none 0 0, .iface 25 (.int .i64 q)]) (by simp [results, Tryd.results8, go_sem]) rfl ⟨rfl, hb⟩

theorem cover_any (w : World) (v : Value) (l : List Nt) (harg : Arg w v l) (hn : l.length < 4611686018427387904) (hok : ∀ x ∈ l, x.1 < 4294967296) :
    Calls Tryd.prog 8 #[v] w fun e w' => ∃ v', e = .returned (.tuple #[v', errV (badL l)]) ∧ Own w' w.heap.size v' (covE l) ∧ Below w.heap.size w w' := by
  by_cases hb : badL l = 0
  · have h0 := (badL_zero l).1 hb
    refine (cover_ok w v l harg h0.2 (fun x hx => ⟨hok x hx, h0.1 x hx⟩)).mono ?_
    rintro e w' ⟨v', rfl, ho, hbl⟩
    unfold covE
    rw [hb, if_pos rfl]
    exact ⟨v', rfl, ho, hbl⟩
  · refine (cover_bad w v l harg hn hok hb).mono ?_
    rintro e w' ⟨rfl, hbl⟩
    unfold covE
    rw [if_neg hb]
    exact ⟨_, rfl, World.ownsRow_nil w' w.heap.size 29 2, hbl⟩

theorem take_more {l m : List Nt} {k : Nat} (h1 : k < l.length) (h2 : k < m.length) (ht : l.take k = m.take k) (he : l[k]! = m[k]!) : l.take (k + 1) = m.take (k + 1) := by
  rw [List.take_succ_eq_append_getElem h1, List.take_succ_eq_append_getElem h2, ht, ← getElem!_pos l k h1, ← getElem!_pos m k h2, he]

set_option maxHeartbeats 1000000 in
set_option maxRecDepth 100000 in
theorem sameNets_some (w : World) (b off c b' off' c' : Nat) (l m : List Nt) (hn : l.length < 4611686018427387904) (he : l.length = m.length) (hb : b < w.heap.size) (hb' : b' < w.heap.size) (hs : Seen w b off l) (hs' : Seen w b' off' m) :
    Calls Tryd.prog 10 #[.slice (some ⟨b, off, none⟩) l.length c, .slice (some ⟨b', off', none⟩) m.length c'] w fun e w' => e = .returned (.bool (decide (l = m))) ∧ Below w.heap.size w w' := by
  rw [← he]
  have HS := Lib.hid hs; have HS' := Lib.hid hs'
  have HL := Lib.hid he
  clear hs hs' he
  go_enter Tryd.func10, Tryd.ntmps10
  go_wp2_with fail
  go_loopw [5] (fun v wr => ∃ (k : Nat), v = .int .i64 k ∧ k ≤ l.length ∧ Hid (Below w.heap.size w wr) ∧ Hid (l.take k = m.take k)) (fun v _ => l.length - (intOf v).toNat)
  case atStart => exact ⟨0, rfl, Nat.zero_le _, Lib.hid (Below.refl _ _), Lib.hid rfl⟩
  case round =>
    obtain ⟨k, rfl, hk, hB, HE⟩ := hrel
    by_cases hkn : k < l.length
    · have S := HS.out.below hB.out hb
      have S' := HS'.out.below hB.out hb'
      have hkm : k < m.length := by rw [← HL.out]; exact hkn
      have a0 : wr.cell? ⟨b, off + k * 2, none⟩ = some (.int .u32 (l[k]!.1 : Int)) := S.c0 k hkn
      have a1 : wr.cell? ⟨b, off + k * 2 + 1, none⟩ = some (.int .i64 l[k]!.2) := S.c1 k hkn
      have d0 : wr.cell? ⟨b', off' + k * 2, none⟩ = some (.int .u32 (m[k]!.1 : Int)) := S'.c0 k hkm
      have d1 : wr.cell? ⟨b', off' + k * 2 + 1, none⟩ = some (.int .i64 m[k]!.2) := S'.c1 k hkm
      have HT := fun h => Lib.hid (take_more hkn hkm HE.out h)
      have HX : Hid (l[k]! ≠ m[k]! → decide (l = m) = false) := Lib.hid fun h => decide_eq_false fun e => h (by rw [e])
      clear S S' hkm
      generalize l[k]! = x at a0 a1 HT HX
      generalize m[k]! = y at d0 d1 HT HX
      by_cases h1 : x.1 = y.1
      · by_cases h2 : x.2 = y.2
        · have exy : x = y := Prod.ext h1 h2
          have HT' := HT exy
          subst exy
          clear HT HX h1 h2
          go_wp2_with fail
          go_region
          go_wp2_with fail
          go_roundw
          case rel => exact ⟨k + 1, by go_num, by omega, Lib.hid hB.out.drew, HT'⟩
          case measure => simp [intOf]; omega
        · have t2 : (x.2 == y.2) = false := by simpa using h2
          have e : decide (l = m) = false := HX.out (fun h => h2 (by rw [h]))
          rw [h1] at a0
          clear HT HX
          go_wp2_with fail
          go_region
          go_wp2_with fail
          go_ret
          exact ⟨by rw [e]; rfl, hB.out.drew⟩
      · have t1 : ((x.1 : Int) == (y.1 : Int)) = false := by
          have : ¬ (x.1 : Int) = y.1 := by omega
          simpa using this
        have e : decide (l = m) = false := HX.out (fun h => h1 (by rw [h]))
        clear HT HX
        go_wp2_with fail
        go_region
        go_wp2_with fail
        go_ret
        exact ⟨by rw [e]; rfl, hB.out.drew⟩
    · have e : decide (l = m) = true := decide_eq_true (by
        have := HE.out
        rwa [List.take_of_length_le (by omega), List.take_of_length_le (by rw [← HL.out]; omega)] at this)
      go_wp2_with fail
      go_ret
      exact ⟨by rw [e]; rfl, hB.out⟩

set_option maxHeartbeats 400000 in
set_option maxRecDepth 100000 in
theorem sameNets_unlike (w : World) (p p' : Option Addr) (n c n' c' : Nat) (h : n ≠ n') :
    Calls Tryd.prog 10 #[.slice p n c, .slice p' n' c'] w fun e w' => e = .returned (.bool false) ∧ Below w.heap.size w w' := by
  have t : ((n : Int) == (n' : Int)) = false := by
    have : ¬ (n : Int) = n' := by omega
    simpa using this
  go_enter Tryd.func10, Tryd.ntmps10
  go_wp2_with fail
  go_ret
  exact ⟨rfl, Below.refl _ _⟩
set_option maxHeartbeats 400000 in
set_option maxRecDepth 100000 in
theorem sameNets_none (w : World) (p p' : Option Addr) (c c' : Nat) :
    Calls Tryd.prog 10 #[.slice p 0 c, .slice p' 0 c'] w fun e w' => e = .returned (.bool true) ∧ Below w.heap.size w w' := by
  go_enter Tryd.func10, Tryd.ntmps10
  go_wp2_with fail
  refine wp_loop_rounds 1 ?_
  rw [rounds_succ]
  go_wp2_with fail
  go_ret
  exact ⟨rfl, Below.refl _ _⟩
/-- waywardensame.Nets at every two lists. -/
theorem sameNets_any (w : World) (v v' : Value) (l m : List Nt) (hn : l.length < 4611686018427387904) (h : Arg w v l) (h' : Arg w v' m) :
    Calls Tryd.prog 10 #[v, v'] w fun e w' => e = .returned (.bool (decide (l = m))) ∧ Below w.heap.size w w' := by
  obtain ⟨p, c, rfl, h⟩ := h
  obtain ⟨p', c', rfl, h'⟩ := h'
  by_cases hl : l.length = m.length
  · rcases h with rfl | ⟨b, off, rfl, hb, hs⟩
    · have e : m = [] := List.length_eq_zero_iff.1 hl.symm
      subst e
      exact sameNets_none w p p' c c'
    · rcases h' with rfl | ⟨b', off', rfl, hb', hs'⟩
      · have e : l = [] := List.length_eq_zero_iff.1 hl
        subst e
        exact sameNets_none w _ p' c c'
      · exact sameNets_some w b off c b' off' c' l m hn hl hb hb' hs hs'
  · rw [decide_eq_false (fun e => hl (by rw [e]))]
    exact sameNets_unlike w p p' l.length c m.length c' hl
end Go.Proofs.YthoegphihpngoaaDoor
