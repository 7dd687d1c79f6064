/-
  wire.checkEntry and wire.Check at every entry and every message; what lay in memory stays.
-/
import Derived.Test.YtlgkjbkbdmneaaaDoorEntList
import Derived.Test.YtlgkjbkbdmneaaaDoorPrefErr
import Derived.LoopN
import Derived.Lib.Walk
namespace Go.Proofs.YtlgkjbkbdmneaaaDoor
open Go.RowKit Go.Lib

theorem entDrop (l : List En) (k : Nat) (h : k < l.length) : l.drop k = l[k]! :: l.drop (k + 1) := by
  rw [List.drop_eq_getElem_cons h, getElem!_pos l k h]
theorem ebox1 {w w1 : World} {e : En} {T : TypeId} (hb : Below (w.alloc (.cells #[.int .u32 (e.a : Int), .int .i64 e.n, .int .i64 e.t, .int .u32 (e.h : Int), .int .i64 e.m] T)).heap.size (w.alloc (.cells #[.int .u32 (e.a : Int), .int .i64 e.n, .int .i64 e.t, .int .u32 (e.h : Int), .int .i64 e.m] T)) w1) :
    EBox w1 w.heap.size e ∧ Below w.heap.size w w1 :=
  ⟨(EBox.new w e T).kept hb, ((Below.refl _ w).alloc (Nat.le_refl _) _).trans (hb.mono (by simp))⟩

set_option maxHeartbeats 1000000 in
set_option maxRecDepth 100000 in
theorem checkEntry_any (w : World) (e : En) (ha : e.a < 4294967296) :
    Calls Tryd.prog 21 #[e.v] w fun x w' => x = .returned (errV e.chk) ∧ Below w.heap.size w w' := by
  unfold En.v
  have hC := check1_any e.a e.n ha
  unfold En.chk
  by_cases h0 : PrefP.chk e.a e.n = 0
  · rw [if_pos h0]
    rw [h0, show errV 0 = Value.nilIface from rfl] at hC
    have HC := Lib.hid hC; clear hC h0 ha
    go_enter Tryd.func21, Tryd.ntmps21
    go_wp2_with fail
    refine (HC.out _).mono ?_
    rintro x w1 ⟨rfl, hb1⟩
    obtain ⟨⟨⟨c0, c1, c2, c3, c4⟩, hf⟩, hB⟩ := ebox1 hb1
    clear hb1 HC
    simp only [Nat.zero_add] at c0 c1 c2 c3 c4
    by_cases ht : e.t < 0
    · go_wp2_with fail
      go_ret
      exact ⟨by first | rfl | (rw [if_pos (Or.inl ht)]; rfl), hB⟩
    · by_cases ht1 : 65535 < e.t
      · go_wp2_with fail
        go_ret
        exact ⟨by first | rfl | (rw [if_pos (Or.inr ht1)]; rfl), hB⟩
      · by_cases hm : e.m < 1
        · go_wp2_with fail
          go_ret
          exact ⟨by first | rfl | (rw [if_neg (by omega), if_pos (Or.inl hm)]; rfl), hB⟩
        · by_cases hm1 : 16 < e.m
          · go_wp2_with fail
            go_ret
            exact ⟨by first | rfl | (rw [if_neg (by omega), if_pos (Or.inr hm1)]; rfl), hB⟩
          · go_wp2_with fail
            go_ret
            exact ⟨by first | rfl | (rw [if_neg (by omega), if_neg (by omega)]; rfl), hB⟩
  · rw [if_neg h0]
    have hE : errV (PrefP.chk e.a e.n) = .iface 27 (.int .i64 (PrefP.chk e.a e.n)) := if_neg h0
    rw [hE] at hC ⊢
    generalize PrefP.chk e.a e.n = q at *
    have HC := Lib.hid hC; clear hC ha
    go_enter Tryd.func21, Tryd.ntmps21
    go_wp2_with fail
    refine (HC.out _).mono ?_
    rintro x w1 ⟨rfl, hb1⟩
    have hB := (ebox1 hb1).2
    clear hb1 HC
    go_wp2_with fail
    go_ret
    exact ⟨rfl, hB⟩

set_option maxHeartbeats 1000000 in
set_option maxRecDepth 100000 in
theorem wireCheck_any (w : World) (ask : Bool) (v : Value) (l : List En) (hn : l.length < 4611686018427387904) (h : ArgE w v l) (hok : ∀ e ∈ l, e.Fits) :
    Calls Tryd.prog 10 #[.agg #[.bool ask, v]] w fun x w' => x = .returned (errV (WireP.chkM l)) ∧ Below w.heap.size w w' := by
  obtain ⟨p, c, rfl, hc, h⟩ := h
  have HA := Lib.hid h; have HK := Lib.hid hok
  clear h hok
  have HB0 := Lib.hid ((Below.refl w.heap.size w).alloc (Nat.le_refl _) (.cells #[.bool ask, .slice p l.length c] 24))
  by_cases h25 : 25 < l.length
  · have e2 : WireP.chkM l = 4 := if_pos h25
    have h25' : (25 : Int) < l.length := by omega
    rw [e2]
    go_enter Tryd.func10, Tryd.ntmps10
    go_wp2_with fail
    go_ret
    exact ⟨rfl, HB0.out⟩
  · have e2 : WireP.chkM l = WireP.chkL l := if_neg h25
    have h25' : ¬ (25 : Int) < l.length := by omega
    rw [e2]
    go_enter Tryd.func10, Tryd.ntmps10
    go_wp2_with fail
    go_loopw [14] (fun s wr => ∃ (k : Nat), s = .int .i64 k ∧ k ≤ l.length ∧ Hid (Below w.heap.size w wr) ∧ Hid (WireP.chkL (l.drop k) = WireP.chkL l)) (fun s _ => l.length - (RowKit.intOf s).toNat)
    case atStart => exact ⟨0, rfl, Nat.zero_le _, HB0, Lib.hid rfl⟩
    case round =>
      obtain ⟨k, rfl, hk, hB, HE⟩ := hrel
      by_cases hkn : k < l.length
      · obtain ⟨b, off, hp, hlt, hs⟩ : ∃ b off, p = some ⟨b, off, none⟩ ∧ b < w.heap.size ∧ SeenE w b off l := by
          rcases HA.out with h | h
          · rw [h] at hkn; simp at hkn
          · exact h
        subst hp
        obtain ⟨c0, c1, c2, c3, c4⟩ := (hs.below hB.out hlt) k hkn
        have ha : l[k]!.a < 4294967296 := (HK.out _ (by rw [getElem!_pos l k hkn]; exact List.getElem_mem hkn)).1
        have hd := entDrop l k hkn
        generalize l[k]! = e at c0 c1 c2 c3 c4 ha hd
        clear hs
        by_cases h0 : e.chk = 0
        · have hC := fun w => checkEntry_any w e ha
          rw [h0] at hC
          unfold En.v at hC
          have HC := Lib.hid hC; clear hC
          go_wp2_with fail
          refine (HC.out _).mono ?_
          rintro x w1 ⟨rfl, hb1⟩
          clear c0 c1 c2 c3 c4
          rw [show errV 0 = Value.nilIface from rfl]
          go_wp2_with fail
          go_roundw
          case rel => exact ⟨k + 1, by go_num, by omega, Lib.hid (Below.two hB.out (ebox1 hb1).2), Lib.hid (by rw [← HE.out, hd, WireP.chkL, if_pos h0])⟩
          case measure => simp [RowKit.intOf]; omega
        · have hC := fun w => checkEntry_any w e ha
          have hE : errV e.chk = .iface 27 (.int .i64 e.chk) := if_neg h0
          have e3 : WireP.chkL l = e.chk := by rw [← HE.out, hd, WireP.chkL, if_neg h0]
          rw [hE] at hC
          unfold En.v at hC
          have E3 := Lib.hid e3; clear e3
          generalize e.chk = q at *
          have HC := Lib.hid hC; clear hC
          go_wp2_with fail
          refine (HC.out _).mono ?_
          rintro x w1 ⟨rfl, hb1⟩
          clear c0 c1 c2 c3 c4
          go_wp2_with fail
          go_ret
          exact ⟨by rw [E3.out, hE]; rfl, Below.two hB.out (ebox1 hb1).2⟩
      · have e0 : WireP.chkL l = 0 := by rw [← HE.out, List.drop_eq_nil_of_le (by omega)]; rfl
        go_wp2_with fail
        go_ret
        exact ⟨by rw [e0]; rfl, hB.out⟩
end Go.Proofs.YtlgkjbkbdmneaaaDoor
