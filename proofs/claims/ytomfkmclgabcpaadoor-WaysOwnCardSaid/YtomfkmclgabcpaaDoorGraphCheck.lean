/-
  graph.Check at every number of nodes and every list of links; what lay in memory stays.
-/
import Derived.Test.YtomfkmclgabcpaaDoorGraphMap
import Derived.LoopN
namespace Go.Proofs.YtomfkmclgabcpaaDoor
open Go.RowKit Go.Maps

theorem drop_atK (l : List Lk) (k : Nat) (h : k < l.length) : l.drop k = l[k]! :: l.drop (k + 1) := by
  rw [getElem!_pos l k h]; exact List.drop_eq_getElem_cons h
theorem take_atK (l : List Lk) (k : Nat) (h : k < l.length) : l.take (k + 1) = l.take k ++ [l[k]!] := by
  rw [getElem!_pos l k h]; exact List.take_succ_eq_append_getElem h

set_option maxHeartbeats 1000000 in
set_option maxRecDepth 100000 in
theorem check_some (w : World) (n : Int) (b off c : Nat) (l : List Lk) (h1 : ¬ n < 1) (h8 : ¬ 8 < n) (hn : l.length < 4611686018427387904) (hb : b < w.heap.size) (hs : SeenK w b off l) :
    Calls Tryd.prog 30 #[.int .i64 n, .slice (some ⟨b, off, none⟩) l.length c] w fun e w' => e = .returned (errV (badFrom n [] l)) ∧ Below w.heap.size w w' := by
  have HS := Lib.hid hs; clear hs
  have hmm := @run_makeMap Tryd.prog
  have H8 := Lib.hid h8
  go_enter Tryd.func30, Tryd.ntmps30
  go_wp2_with fail
  go_loopw [20] (fun v wr => ∃ (k : Nat), v = .int .i64 k ∧ k ≤ l.length ∧ Hid (Below w.heap.size w wr) ∧ Hid (PSet wr w.heap.size k (l.take k)) ∧ Hid (badFrom n (l.take k) (l.drop k) = badFrom n [] l)) (fun v _ => l.length - (intOf v).toNat)
  case atStart => exact ⟨0, rfl, Nat.zero_le _, Lib.hid ((Below.refl _ w).alloc (Nat.le_refl _) _), Lib.hid (PSet.made w), Lib.hid rfl⟩
  case round =>
    obtain ⟨k, rfl, hk, hB, HP, HE⟩ := hrel
    by_cases hkn : k < l.length
    · have S := HS.out.below hB.out hb
      have s0 : wr.cell? ⟨b, off + k * 3, none⟩ = some (.int .i64 l[k]!.1) := S.c0 k hkn
      have s1 : wr.cell? ⟨b, off + k * 3 + 1, none⟩ = some (.int .i64 l[k]!.2.1) := S.c1 k hkn
      have s2 : wr.cell? ⟨b, off + k * 3 + 2, none⟩ = some (.int .i64 l[k]!.2.2) := S.c2 k hkn
      have hd := Lib.hid (drop_atK l k hkn)
      have ht := Lib.hid (take_atK l k hkn)
      clear S
      generalize l[k]! = x at s0 s1 s2 hd ht
      have HC := Lib.hid (checkLink_any n x)
      have hE : badFrom n [] l = if linkBad n x ≠ 0 then linkBad n x else if (l.take k).any (bond x.1 x.2.1) then 5 else badFrom n (l.take k ++ [x]) (l.drop (k + 1)) := by
        rw [← HE.out, hd.out]; rfl
      by_cases h0 : linkBad n x = 0
      · rw [if_neg (by simp [h0])] at hE
        have hr := Lib.hid ((linkBad_zero n x).1 h0)
        rw [h0] at HC
        have hE := Lib.hid hE
        go_wp2_with fail
        refine (HC.out _).mono ?_
        rintro e w1 ⟨rfl, hb1⟩
        obtain ⟨⟨l1, c0, c1, c2⟩, hB1⟩ := lk1 hb1; clear hb1
        rw [show errV 0 = Value.nilIface from rfl]
        have P1 := Lib.hid (HP.out.below hB1 HP.out.lt)
        have B1 := Lib.hid (Below.two hB.out hB1)
        have L0 : wr.heap.size < w1.heap.size := l1
        clear s0 s1 s2 hB1
        go_wp2_with fail
        refine (ends_any x.1 x.2.1 _).mono ?_
        rintro e w2 ⟨rfl, hb2⟩
        have P2 := Lib.hid (P1.out.below hb2 P1.out.lt)
        have B2 := Lib.hid (Below.two B1.out hb2)
        clear hb2
        have P3 := Lib.hid (P2.out.below ((Below.refl w2.heap.size w2).alloc (Nat.le_refl _) (.cells #[.int .i64 (min x.1 x.2.1), .int .i64 (max x.1 x.2.1)] 67)) P2.out.lt)
        have hp : (Lit.int .i64 (min x.1 x.2.1)).wf = true := WalkArith.wf_i64 (by have := hr.out; have := H8.out; omega)
        have hq : (Lit.int .i64 (max x.1 x.2.1)).wf = true := WalkArith.wf_i64 (by have := hr.out; have := H8.out; omega)
        clear c0 c1 c2
        by_cases h2 : (l.take k).any (bond x.1 x.2.1) = true
        · go_wp2_with (at_lookup; refine wp_lookup_pset rfl _ _ rfl w.heap.size k (l.take k) x.1 x.2.1 hp hq rfl P3.out rfl ?_; rw [h2])
          go_ret
          exact ⟨by rw [hE.out, if_pos h2]; rfl, B2.out.alloc B2.out.size _⟩
        · have h2' : (l.take k).any (bond x.1 x.2.1) = false := by simpa using h2
          have hE' := Lib.hid (hE.out.trans (if_neg h2))
          clear hE h2
          go_wp2_with (first | (at_lookup; refine wp_lookup_pset rfl _ _ rfl w.heap.size k (l.take k) x.1 x.2.1 hp hq rfl P3.out rfl ?_; rw [h2']) | (at_mapUpdate; refine wp_update_pset rfl _ _ _ rfl w.heap.size k (l.take k) x hp hq rfl P3.out (by unfold maxLen; omega) rfl rfl ?_; intro w3 hP3 hg3))
          go_roundw
          case rel =>
            refine ⟨k + 1, by go_num, by omega, Lib.hid ((B2.out.alloc B2.out.size _).grown hg3 (Nat.le_trans B2.out.size (by simp)) (fun q hq => by cases hq; exact Nat.le_refl _)), Lib.hid (ht.out ▸ hP3), Lib.hid ?_⟩
            rw [ht.out, hE'.out]
          case measure => simp [intOf]; omega
      · have hEV : errV (linkBad n x) = .iface 25 (.int .i64 (linkBad n x)) := if_neg h0
        rw [if_pos h0] at hE
        have hE := Lib.hid hE
        rw [hEV] at HC
        have HV := Lib.hid hEV; clear hEV
        generalize linkBad n x = q at HC hE HV h0
        go_wp2_with fail
        refine (HC.out _).mono ?_
        rintro e w1 ⟨rfl, hb1⟩
        clear s0 s1 s2
        go_wp2_with fail
        go_ret
        exact ⟨by rw [hE.out, HV.out]; rfl, Below.two hB.out (lk1 hb1).2⟩
    · have e0 : badFrom n [] l = 0 := by rw [← HE.out, List.drop_eq_nil_of_le (by omega)]; rfl
      go_wp2_with fail
      go_ret
      exact ⟨by rw [e0]; rfl, hB.out⟩

set_option maxHeartbeats 400000 in
set_option maxRecDepth 100000 in
theorem check_none (w : World) (n : Int) (p : Option Addr) (c : Nat) (h1 : ¬ n < 1) (h8 : ¬ 8 < n) :
    Calls Tryd.prog 30 #[.int .i64 n, .slice p 0 c] w fun e w' => e = .returned .nilIface ∧ Below w.heap.size w w' := by
  have hmm := @run_makeMap Tryd.prog
  go_enter Tryd.func30, Tryd.ntmps30
  go_wp2_with fail
  refine wp_loop_rounds 1 ?_
  rw [rounds_succ]
  go_wp2_with fail
  go_ret
  exact ⟨rfl, (Below.refl _ w).alloc (Nat.le_refl _) _⟩
set_option maxHeartbeats 400000 in
set_option maxRecDepth 100000 in
theorem check_far (w : World) (n : Int) (v : Value) (h : n < 1 ∨ 8 < n) :
    Calls Tryd.prog 30 #[.int .i64 n, v] w fun e w' => e = .returned (.iface 25 (.int .i64 1)) ∧ Below w.heap.size w w' := by
  by_cases h1 : n < 1
  · clear h
    go_enter Tryd.func30, Tryd.ntmps30
    go_wp2_with fail
    go_ret
    exact ⟨rfl, Below.refl _ _⟩
  · have h2 : 8 < n := by omega
    clear h
    go_enter Tryd.func30, Tryd.ntmps30
    go_wp2_with fail
    go_ret
    exact ⟨rfl, Below.refl _ _⟩
/-- graph.Check. -/
theorem gCheck_any (w : World) (n : Int) (v : Value) (l : List Lk) (hn : l.length < 4611686018427387904) (h : ArgK w v l) :
    Calls Tryd.prog 30 #[.int .i64 n, v] w fun e w' => e = .returned (errV (gBad n l)) ∧ Below w.heap.size w w' := by
  unfold gBad
  by_cases hf : n < 1 ∨ 8 < n
  · rw [if_pos hf]; exact check_far w n v hf
  · rw [if_neg hf]
    obtain ⟨p, c, rfl, h⟩ := h
    rcases h with rfl | ⟨b, off, rfl, hb, hs⟩
    · exact check_none w n p c (by omega) (by omega)
    · exact check_some w n b off c l (by omega) (by omega) hn hb hs
end Go.Proofs.YtomfkmclgabcpaaDoor
