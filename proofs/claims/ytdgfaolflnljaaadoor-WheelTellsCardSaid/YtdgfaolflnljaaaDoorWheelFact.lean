/-
  The fact that the statements begin with; the row of 64 noughts that they lay.
-/
import Derived.Test.YtdgfaolflnljaaaDoorWheelUse
import Derived.OwnWalk
namespace Go.Proofs.YtdgfaolflnljaaaDoor
open Go.RowKit Go.Lib WheelP

theorem due_len {f : Nat → Nat} {x : Nat} {L : List Du} (h : Due f x L) : L.length ≤ 64 := by
  have hn : (L.map (·.1)).Nodup := by
    unfold List.Nodup
    rw [List.pairwise_map]
    refine List.Pairwise.imp_of_mem ?_ h.ord
    intro a b ha hb hne e
    obtain ⟨_, _, _, a4⟩ := (h.mem a).1 ha
    obtain ⟨_, _, _, b4⟩ := (h.mem b).1 hb
    unfold ltD at hne
    rw [a4, b4, e] at hne
    omega
  have hs := bd_len (n := 64) hn fun x hx => by
    obtain ⟨p, hp, rfl⟩ := List.mem_map.1 hx
    exact ((h.mem p).1 hp).1
  simpa using hs
theorem okS_35 : okS 0 3 5 := ⟨by omega, by omega, by omega, by omega⟩
theorem setV_35 : setV 0 3 5 = .nilIface := if_pos okS_35
theorem putW_35 : putW (fun _ => 0) 0 3 5 = upd (fun _ => 0) 3 5 := putW_yes (fun _ => 0) 0 3 5 okS_35
theorem ids_35 : zsD [(3, 5)] = [3] := by simp [zsD]
set_option maxHeartbeats 1000000 in
set_option maxRecDepth 100000 in
theorem wheeled_any (w : World) : Calls Tryd.prog 5 #[] w fun e w' => e = .returned (.bool true) ∧ Below w.heap.size w w' := by
  have HN := Lib.hid (new_one w w (Below.refl _ _))
  go_enter Tryd.func5, Tryd.ntmps5
  go_wp2_with fail
  refine HN.out.mono ?_
  rintro e w1 ⟨rfl, h1⟩
  obtain ⟨m, hw, hs⟩ := h1.step
  have hS := set_stp hw 3 5
  rw [setV_35, putW_35] at hS
  have HS := Lib.hid hS
  have HST := Lib.hid hs
  clear h1 hw hs hS HN
  go_wp2_with fail
  refine HS.out.mono ?_
  rintro e w2 ⟨rfl, st⟩
  have h2 := HST.out _ _ _ st
  clear st HS HST
  obtain ⟨m2, hw, hs⟩ := h2.step
  have HT := Lib.hid (tick_stp hw 5 ⟨by omega, by omega⟩)
  have HST := Lib.hid hs
  have HZ := Lib.hid h2.bel.size
  clear hw hs h2
  rw [show (((5 : Nat) : Int)) = 5 from rfl] at HT
  go_wp2_with fail
  refine HT.out.mono ?_
  rintro e w3 ⟨v, L, rfl, hd, ho, st⟩
  have h3 := HST.out _ _ _ st
  obtain rfl := hd.one due_35
  rw [ids_35] at ho
  have HB := Lib.hid h3.bel
  have HI := Lib.hid (sameInts_any (w3.alloc (.cells #[.int .i64 3] 3)) v (.slice (some ⟨w3.heap.size, 0, none⟩) 1 1) [3] [3] (by simp) (ho.keep ((Below.refl _ _).alloc (Nat.le_refl _) _)).arg ⟨_, 1, rfl, Or.inr ⟨w3.heap.size, 0, rfl, by simp, fun i hi => by
    have : i = 0 := by simp at hi; omega
    subst this
    simp⟩⟩)
  have HB3 := Lib.hid ((Below.refl w3.heap.size w3).alloc (Nat.le_refl _) (.cells #[.int .i64 3] 3))
  clear st h3 ho hd HT HST
  go_wp2_with fail
  refine HI.out.mono ?_
  rintro e w4 ⟨rfl, hb4⟩
  have HB4 := Lib.hid (HB.out.trans ((HB3.out.trans (hb4.mono HB3.out.size)).mono HB.out.size))
  clear hb4
  simp only [decide_true]
  go_wp2_with fail
  go_ret
  exact ⟨rfl, HB4.out⟩

/-- n noughts. -/
def noughts (n : Nat) : List Int := List.replicate n 0
theorem noughts_len (n : Nat) : (noughts n).length = n := by simp [noughts]
theorem noughts_more (n : Nat) : noughts (n + 1) = noughts n ++ [0] := by unfold noughts; rw [List.replicate_succ']
set_option maxHeartbeats 1000000 in
set_option maxRecDepth 100000 in
/-- waywardenref1.Repeat. -/
theorem repeat64_any (w : World) :
    Calls Tryd.prog 7 #[.int .i64 0, .int .i64 64] w fun e w' => ∃ u, e = .returned u ∧ OwnI w' w.heap.size u (noughts 64) ∧ Below w.heap.size w w' := by
  go_enter Tryd.func7, Tryd.ntmps7
  go_wp2_with fail
  go_loopw [5, 6] (fun u v wr => ∃ (k : Nat), v = .int .i64 k ∧ k ≤ 64 ∧ Hid (Below w.heap.size w wr) ∧ Hid (OwnI wr w.heap.size u (noughts k))) (fun _ v _ => 64 - (RowKit.intOf v).toNat)
  case atStart => exact ⟨0, rfl, Nat.zero_le _, Lib.hid (Below.refl _ _), Lib.hid (OwnI.nil _ _)⟩
  case round =>
    obtain ⟨k, rfl, hk, HB, HO⟩ := hrel
    by_cases hkn : k < 64
    · have t : (k : Int) < 64 := by omega
      have HLen := Lib.hid (noughts_len k)
      have HM := Lib.hid (noughts_more k)
      have HK2 := Lib.hid (HO.out.keep ((Below.refl wr.heap.size wr).alloc (Nat.le_refl _) (.cells #[.int .i64 0] 3)))
      go_wp2_with (at_builtin; refine wpl_append_oneI rfl _ _ rfl w.heap.size _ (noughts k) 0 wr.heap.size 1 rfl rfl HK2.out (by simp) (by rw [HLen.out]; omega) (Nat.le_trans HB.out.size (by simp)) ?_; intro v' w3 hO3 hg3 _)
      go_roundw
      case rel => exact ⟨k + 1, by go_num, by omega, Lib.hid ((HB.out.alloc HB.out.size _).grown hg3 (Nat.le_trans HB.out.size (by simp)) HO.out.past), Lib.hid (by rw [HM.out]; exact hO3)⟩
      case measure => simp [RowKit.intOf]; omega
    · obtain rfl : k = 64 := by omega
      clear hkn
      go_wp2_with fail
      go_ret
      exact ⟨_, rfl, HO.out, HB.out⟩
/-- The row laid beside a wheel. -/
theorem row_made {w0 w w1 : World} {p now : Nat} {f : Nat → Nat} {u : Value} (h : OneW w0 w p now f) (ho : OwnI w1 w.heap.size u (noughts 64)) (hb : Below w.heap.size w w1) : ∃ c cap, u = .slice (some ⟨c, 0, none⟩) 64 cap ∧ RowW w0 w1 p now f c (fun _ => 0) := by
  have ha := ho.arg
  obtain ⟨_, ⟨hv, h0⟩ | ⟨g, cap, cur, hv, hg0, hg, _⟩⟩ := id ho
  · rw [noughts_len] at h0; omega
  · rw [noughts_len] at hv
    obtain ⟨q, c, hv2, h2⟩ := ha
    rw [noughts_len, hv] at hv2
    injection hv2 with e1 _ e3
    subst e1 e3
    rcases h2 with h2 | ⟨b, off, hp, hlt, hs⟩
    · have := congrArg List.length h2; rw [noughts_len] at this; simp at this
    · simp only [Option.some.injEq, Addr.mk.injEq, and_true] at hp
      obtain ⟨rfl, rfl⟩ := hp
      obtain ⟨m, h1, h2⟩ := h.ex
      refine ⟨g, cap, hv, ⟨m, h1.below hb, h2, fun e => by have := h1.in e; omega⟩, ⟨hlt, fun i hi => ?_, fun i => frozen_of_row w1 g i cur _ hg⟩, Nat.le_trans h.bel.size hg0, h.bel.trans (hb.mono h.bel.size)⟩
      have := hs i (by rw [noughts_len]; exact hi)
      rw [Nat.zero_add] at this
      rw [this, getElem!_pos _ i (by rw [noughts_len]; exact hi)]
      unfold noughts
      rw [List.getElem_replicate]
      rfl
end Go.Proofs.YtdgfaolflnljaaaDoor
