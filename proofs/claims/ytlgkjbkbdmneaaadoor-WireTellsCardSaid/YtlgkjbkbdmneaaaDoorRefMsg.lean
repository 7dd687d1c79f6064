/-
  The document's own answer MessageFault at every message; what lay in memory stays.
-/
import Derived.Test.YtlgkjbkbdmneaaaDoorWireCheck
import Derived.Test.YtlgkjbkbdmneaaaDoorRefFault
import Derived.Test.YtlgkjbkbdmneaaaDoorBoxSet
namespace Go.Proofs.YtlgkjbkbdmneaaaDoor
open Go.RowKit Go.Lib

set_option maxHeartbeats 1000000 in
set_option maxRecDepth 100000 in
theorem msgFault_any (w : World) (ask : Bool) (v : Value) (l : List En) (hn : l.length < 4611686018427387904) (h : ArgE w v l) (hok : ∀ e ∈ l, e.Fits) :
    Calls Tryd.prog 8 #[.agg #[.bool ask, v]] w fun x w' => x = .returned (.int .i64 (WireP.chkM l)) ∧ Below w.heap.size w w' := by
  have HA := Lib.hid h; have HK := Lib.hid hok
  obtain ⟨p, c, rfl, hc, -⟩ := h
  clear hok
  have HB0 := Lib.hid ((Below.refl w.heap.size w).alloc (Nat.le_refl _) (.cells #[.bool ask, .slice p l.length c] 24))
  have HM0 := Lib.hid (Box.new w (.bool ask) (.slice p l.length c) 24)
  by_cases h25 : 25 < l.length
  · have e2 : WireP.chkM l = 4 := if_pos h25
    have h25' : (25 : Int) < l.length := by omega
    rw [e2]
    go_enter Tryd.func8, Tryd.ntmps8
    go_wp2_with fail
    go_ret
    exact ⟨rfl, HB0.out⟩
  · have e2 : WireP.chkM l = WireP.chkL l := if_neg h25
    have h25' : ¬ (25 : Int) < l.length := by omega
    rw [e2]
    clear e2
    go_enter Tryd.func8, Tryd.ntmps8
    go_wp2_with fail
    go_loopw [3] (fun s wr => ∃ (k : Nat), s = .int .i64 k ∧ k ≤ l.length ∧ Hid (Below w.heap.size w wr) ∧ Hid (Box wr w.heap.size (.bool ask) (.slice p l.length c)) ∧ Hid (WireP.chkL (l.drop k) = WireP.chkL l)) (fun s _ => l.length - (RowKit.intOf s).toNat)
    case atStart => exact ⟨0, rfl, Nat.zero_le _, HB0, HM0, Lib.hid rfl⟩
    case round =>
      obtain ⟨k, rfl, hk, hB, HM, HE⟩ := hrel
      obtain ⟨_, m0, m1, _, _⟩ := HM.out
      by_cases hkn : k < l.length
      · obtain ⟨b, off, hp, hlt, hs⟩ : ∃ b off, p = some ⟨b, off, none⟩ ∧ b < w.heap.size ∧ SeenE w b off l := by
          obtain ⟨p', c', e, _, h⟩ := HA.out
          injection e with e1 e2 e3
          subst e1
          rcases h with h | h
          · rw [h] at hkn; simp at hkn
          · exact h
        subst hp
        obtain ⟨c0, c1, c2, c3, c4⟩ := (hs.below hB.out hlt) k hkn
        have hfit : (l[k]!).Fits := HK.out _ (by rw [getElem!_pos l k hkn]; exact List.getElem_mem hkn)
        have hd := entDrop l k hkn
        generalize l[k]! = e at c0 c1 c2 c3 c4 hfit hd
        have hstep : WireP.chkL l = if e.chk = 0 then WireP.chkL (l.drop (k + 1)) else e.chk := by rw [← HE.out, hd, WireP.chkL]
        have HC := Lib.hid (fun w => fault_any e.a e.n hfit.1 w)
        have EB := EBox.new wr e 49
        have B3 := (Below.refl wr.heap.size wr).alloc (Nat.le_refl _) (.cells #[.int .u32 (e.a : Int), .int .i64 e.n, .int .i64 e.t, .int .u32 (e.h : Int), .int .i64 e.m] 49)
        have HB3 := Lib.hid (Below.two hB.out B3)
        have HM3 := Lib.hid (HM.out.kept B3)
        have HE3 := Lib.hid EB
        have HST := Lib.hid hstep
        obtain ⟨⟨d0, d1, d2, d3, d4⟩, _⟩ := EB
        simp only [Nat.zero_add] at d0 d1 d2 d3 d4
        clear hs hfit hd B3 hstep
        by_cases h0 : PrefP.chk e.a e.n = 0
        · have hch : e.chk = if e.t < 0 ∨ 65535 < e.t then 1 else if e.m < 1 ∨ 16 < e.m then 1 else 0 := by unfold En.chk; rw [if_pos h0]
          rw [h0] at HC
          have HCH := Lib.hid hch
          clear hch h0
          go_wp2_with fail
          refine (HC.out _).mono ?_
          rintro x w4 ⟨rfl, b4⟩
          have HB4 := Lib.hid (Below.two HB3.out b4)
          have HM4 := Lib.hid (HM3.out.kept b4)
          obtain ⟨⟨f0, f1, f2, f3, f4⟩, _⟩ := HE3.out.kept b4
          simp only [Nat.zero_add] at f0 f1 f2 f3 f4
          clear b4 c0 c1 c2 c3 c4 d0 d1 d2 d3 d4 m0 m1
          by_cases ht : e.t < 0
          · have E := Lib.hid (show WireP.chkL l = 1 by rw [HST.out, show e.chk = 1 by rw [HCH.out, if_pos (Or.inl ht)]]; rfl)
            go_wp2_with fail
            go_ret
            exact ⟨by rw [E.out]; rfl, HB4.out⟩
          · by_cases ht1 : 65535 < e.t
            · have E := Lib.hid (show WireP.chkL l = 1 by rw [HST.out, show e.chk = 1 by rw [HCH.out, if_pos (Or.inr ht1)]]; rfl)
              go_wp2_with fail
              go_ret
              exact ⟨by rw [E.out]; rfl, HB4.out⟩
            · by_cases hm : e.m < 1
              · have E := Lib.hid (show WireP.chkL l = 1 by rw [HST.out, show e.chk = 1 by rw [HCH.out, if_neg (by omega), if_pos (Or.inl hm)]]; rfl)
                go_wp2_with fail
                go_ret
                exact ⟨by rw [E.out]; rfl, HB4.out⟩
              · by_cases hm1 : 16 < e.m
                · have E := Lib.hid (show WireP.chkL l = 1 by rw [HST.out, show e.chk = 1 by rw [HCH.out, if_neg (by omega), if_pos (Or.inr hm1)]]; rfl)
                  go_wp2_with fail
                  go_ret
                  exact ⟨by rw [E.out]; rfl, HB4.out⟩
                · have E := Lib.hid (show WireP.chkL (l.drop (k + 1)) = WireP.chkL l by rw [HST.out, show e.chk = 0 by rw [HCH.out, if_neg (by omega), if_neg (by omega)]]; rfl)
                  go_wp2_with fail
                  go_roundw
                  case rel => exact ⟨k + 1, by go_num, by omega, HB4, HM4, E⟩
                  case measure => simp [RowKit.intOf]; omega
        · have E := Lib.hid (show WireP.chkL l = PrefP.chk e.a e.n by
            have : e.chk = PrefP.chk e.a e.n := by unfold En.chk; rw [if_neg h0]
            rw [HST.out, this, if_neg h0])
          have hq : (PrefP.chk e.a e.n == 0) = false := by simpa using h0
          clear h0
          generalize PrefP.chk e.a e.n = q at HC E hq
          go_wp2_with fail
          refine (HC.out _).mono ?_
          rintro x w4 ⟨rfl, b4⟩
          have HB4 := Lib.hid (Below.two HB3.out b4)
          obtain ⟨⟨f0, f1, f2, f3, f4⟩, _⟩ := HE3.out.kept b4
          simp only [Nat.zero_add] at f0 f1 f2 f3 f4
          clear b4 c0 c1 c2 c3 c4 d0 d1 d2 d3 d4 m0 m1
          go_wp2_with fail
          refine (HC.out _).mono ?_
          rintro x w5 ⟨rfl, b5⟩
          have HB5 := Lib.hid (Below.two HB4.out b5)
          clear b5 f0 f1 f2 f3 f4
          go_wp2_with fail
          go_ret
          exact ⟨by rw [E.out]; rfl, HB5.out⟩
      · have e0 : WireP.chkL l = 0 := by rw [← HE.out, List.drop_eq_nil_of_le (by omega)]; rfl
        go_wp2_with fail
        go_ret
        exact ⟨by rw [e0]; rfl, hB.out⟩
end Go.Proofs.YtlgkjbkbdmneaaaDoor
