/-
  bell.Run at every number of nodes, every list of links and every node; what lay in memory stays.
-/
import Derived.Test.YtjgmehmhhplkaaaBellBad
import Derived.OwnWalk
namespace Go.Proofs.Ytjgmehmhhplkaaa
open Go.RowKit Go.Lib

set_option maxHeartbeats 400000 in
set_option maxRecDepth 100000 in
theorem run_bad1 (w : World) (n to : Int) (v : Value) (l : List Lk) (hn : l.length < 4611686018427387904) (h : ArgK w v l) (hg : gBad n l ≠ 0) :
    Calls Try.prog 10 #[.int .i64 n, v, .int .i64 to] w fun e w' => e = .returned (.tuple #[.slice none 0 0, .int .i64 0, errV (gBad n l)]) ∧ Below w.heap.size w w' := by
  have HC := Lib.hid (costs_bad w n v l hn h hg)
  rw [errV_ne hg] at HC ⊢
  clear h
  generalize gBad n l = q at HC hg
  go_enter Try.func10, Try.ntmps10
  go_wp2_with fail
  refine HC.out.mono ?_
  rintro e w1 ⟨rfl, hb1⟩
  go_wp2_with fail
  go_ret3
  exact ⟨rfl, hb1⟩
set_option maxHeartbeats 400000 in
set_option maxRecDepth 100000 in
theorem run_bad2 (w : World) (m : Nat) (to : Int) (v : Value) (l : List Lk) (hn : l.length < 4611686018427387904) (h : ArgK w v l) (hg : gBad m l = 0) (ht : nodeBad m to ≠ 0) :
    Calls Try.prog 10 #[.int .i64 m, v, .int .i64 to] w fun e w' => e = .returned (.tuple #[.slice none 0 0, .int .i64 0, errV (nodeBad m to)]) ∧ Below w.heap.size w w' := by
  have HC := Lib.hid (costs_ok w m v l hn h hg)
  obtain ⟨hm, _⟩ := (gBad_zero m l).1 hg
  have e : startBad m to = nodeBad m to := if_neg (by omega)
  have HN := Lib.hid (fun w => start_bad w m to (by rw [e]; exact ht))
  rw [e, errV_ne ht] at HN
  rw [errV_ne ht]
  clear h hg e hm
  generalize nodeBad m to = q at HN ht
  go_enter Try.func10, Try.ntmps10
  go_wp2_with fail
  refine HC.out.mono ?_
  rintro e w1 ⟨g, hgs, rfl, hG, hb1⟩
  have HB := Lib.hid hb1
  clear hG hb1
  go_wp2_with fail
  refine (HN.out _).mono ?_
  rintro e w2 ⟨rfl, rfl⟩
  go_wp2_with fail
  go_ret3
  exact ⟨rfl, HB.out⟩
/-- bell.Run at what is wrong. -/
theorem run_bad (w : World) (n to : Int) (v : Value) (l : List Lk) (hn : l.length < 4611686018427387904) (h : ArgK w v l) (hg : runBad n l to ≠ 0) :
    Calls Try.prog 10 #[.int .i64 n, v, .int .i64 to] w fun e w' => e = .returned (.tuple #[.slice none 0 0, .int .i64 0, errV (runBad n l to)]) ∧ Below w.heap.size w w' := by
  by_cases h1 : gBad n l = 0
  · obtain ⟨h4, _⟩ := (gBad_zero n l).1 h1
    obtain ⟨m, rfl⟩ : ∃ m : Nat, n = m := ⟨n.toNat, by omega⟩
    have e1 : runBad m l to = nodeBad m to := if_neg (by omega)
    rw [e1] at hg ⊢
    exact run_bad2 w m to v l hn h h1 hg
  · have e1 : runBad n l to = gBad n l := if_pos h1
    rw [e1]
    exact run_bad1 w n to v l hn h h1
theorem equalV (w : World) (g g' m : Nat) (d d' : Nat → Nat) (hm : m ≤ 8) (h : Vec w g m (fun i => (d i : Int))) (h' : Vec w g' m (fun i => (d' i : Int))) :
    Calls Try.prog 21 #[.slice (some ⟨g, 0, none⟩) m m, .slice (some ⟨g', 0, none⟩) m m] w fun e w' => e = .returned (.bool (decide (BellP.vec m d = BellP.vec m d'))) ∧ Below w.heap.size w w' := by
  have := equalI_some w g 0 m g' 0 m (BellP.vec m d) (BellP.vec m d') (by rw [BellP.vec_len]; omega) (by rw [BellP.vec_len, BellP.vec_len]) h.lt h'.lt h.seen h'.seen
  rw [BellP.vec_len, BellP.vec_len] at this
  exact this

set_option maxHeartbeats 2000000 in
set_option maxRecDepth 100000 in
/-- bell.Run at what is right. -/
theorem run_ok (w : World) (m t r : Nat) (v : Value) (l : List Lk) (hn : l.length < 4611686018427387904) (h : ArgK w v l) (hg : gBad m l = 0) (ht : t < m) (hc : BellP.Cnt m (BellP.ct l) t r) :
    Calls Try.prog 10 #[.int .i64 m, v, .int .i64 t] w fun e w' => ∃ q, w.heap.size ≤ q ∧ e = .returned (.tuple #[.slice (some ⟨q, 0, none⟩) m m, .int .i64 r, .nilIface]) ∧ Vec w' q m (fun i => (BellP.far m (BellP.ct l) t i : Int)) ∧ Below w.heap.size w w' := by
  obtain ⟨hm, hr⟩ := (gBad_zero m l).1 hg
  have hC := BellP.ct_cost hr
  have HC := Lib.hid (costs_ok w m v l hn h hg)
  have HN := Lib.hid (fun w => start_ok w m t (by omega) (by omega) ht)
  have HI := Lib.hid (fun i j => (BellP.ct_int hr i j).symm)
  have HR := Lib.hid (fun (w : World) g b s (hG : Grid w g m m (fun i j => (BellP.ct l i j : Int))) (hV : Vec w b m (fun i => (BellP.it m (BellP.ct l) t (BellP.st t) s i : Int))) => round_any w g m t b 0 m (BellP.ct l) _ (by omega) hC.bd (BellP.it_bd m _ t (BellP.st_bd t) s) hG hV.lt hV.cells)
  have HQ := Lib.hid (fun (w : World) b b' s s' (h1 : Vec w b m (fun i => (BellP.it m (BellP.ct l) t (BellP.st t) s i : Int))) (h2 : Vec w b' m (fun i => (BellP.it m (BellP.ct l) t (BellP.st t) s' i : Int))) => equalV w b b' m _ _ (by omega) h1 h2)
  have HMore := Lib.hid (hc.more hC ht)
  have HDone := Lib.hid (hc.done hC ht)
  have HEnd := Lib.hid (fun i (hi : i < m) => BellP.vec_inj hc.at_ i hi)
  have HS0 := Lib.hid (show ∀ i, BellP.it m (BellP.ct l) t (BellP.st t) 0 i = BellP.st t i from fun _ => rfl)
  have HS1 := Lib.hid (show ∀ s i, BellP.rd m (BellP.ct l) t (BellP.it m (BellP.ct l) t (BellP.st t) s) i = BellP.it m (BellP.ct l) t (BellP.st t) (s + 1) i from fun _ _ => rfl)
  have hrm : r < m := hc.lt
  clear hc hC h hg hr
  generalize BellP.far m (BellP.ct l) t = far at HEnd ⊢
  go_enter Try.func10, Try.ntmps10
  go_wp2_with fail
  refine HC.out.mono ?_
  rintro e w1 ⟨g, hgs, rfl, hG, hb1⟩
  have HG := Lib.hid (hG.congr fun i _ j _ => HI.out i j)
  have HB := Lib.hid hb1
  have HGS := Lib.hid hgs
  clear hG hb1 hgs HI HC
  go_wp2_with fail
  refine (HN.out _).mono ?_
  rintro e w2 ⟨b, hbs, rfl, hV, hb2⟩
  have HG2 := Lib.hid (HG.out.keep hb2)
  have HBS := Lib.hid (Nat.le_trans HB.out.size hbs)
  have HB2 := Lib.hid (Below.two HB.out hb2)
  have HV := Lib.hid (hV.congr (d' := fun i => (BellP.it m (BellP.ct l) t (BellP.st t) 0 i : Int)) fun i _ => by rw [HS0.out i])
  clear hV hb2 hbs HN HG HB HS0
  go_wp2_with fail
  refine (HR.out _ g b 0 HG2.out HV.out).mono ?_
  rintro e w3 ⟨b', hbs', rfl, hV', hb3⟩
  have HG3 := Lib.hid (HG2.out.keep hb3)
  have HV0 := Lib.hid (HV.out.keep hb3)
  have HV1 := Lib.hid (hV'.congr (d' := fun i => (BellP.it m (BellP.ct l) t (BellP.st t) (0 + 1) i : Int)) fun i _ => by rw [HS1.out 0 i])
  have HBS' := Lib.hid (Nat.le_trans HB2.out.size hbs')
  have HB3 := Lib.hid (Below.two HB2.out hb3)
  clear hV' hb3 hbs' HG2 HV HB2
  go_wp2_with fail
  go_loopw [11, 12, 13] (fun u v x wr => ∃ (s b b' : Nat), v = .int .i64 s ∧ s ≤ r ∧ u = .slice (some ⟨b, 0, none⟩) m m ∧ x = .slice (some ⟨b', 0, none⟩) m m ∧ Hid (Below w.heap.size w wr) ∧ Hid (Grid wr g m m (fun i j => (BellP.ct l i j : Int))) ∧ Hid (w.heap.size ≤ b) ∧ Hid (w.heap.size ≤ b') ∧ Hid (Vec wr b m (fun i => (BellP.it m (BellP.ct l) t (BellP.st t) s i : Int))) ∧ Hid (Vec wr b' m (fun i => (BellP.it m (BellP.ct l) t (BellP.st t) (s + 1) i : Int)))) (fun _ v _ _ => r - (RowKit.intOf v).toNat)
  case atStart => exact ⟨0, b, b', rfl, Nat.zero_le _, rfl, rfl, HB3, HG3, HBS, HBS', HV0, HV1⟩
  case round =>
    clear HB3 HG3 HBS HBS' HV0 HV1
    obtain ⟨s, b, b', rfl, hs, rfl, rfl, HB, HG, HBS, HBS', HV, HV'⟩ := hrel
    by_cases hsr : s < r
    · have HE := HQ.out _ b' b (s + 1) s HV'.out HV.out
      rw [decide_eq_false (HMore.out s hsr)] at HE
      have HE := Lib.hid HE
      go_wp2_with fail
      refine HE.out.mono ?_
      rintro e w4 ⟨rfl, hb4⟩
      have HB4 := Lib.hid (Below.two HB.out hb4)
      have HG4 := Lib.hid (HG.out.keep hb4)
      have HV4 := Lib.hid (HV'.out.keep hb4)
      clear hb4 HB HG HV HV' HE
      go_wp2_with fail
      refine (HR.out _ g b' (s + 1) HG4.out HV4.out).mono ?_
      rintro e w5 ⟨b5, hbs5, rfl, hV5, hb5⟩
      have HB5 := Lib.hid (Below.two HB4.out hb5)
      have HG5 := Lib.hid (HG4.out.keep hb5)
      have HV5 := Lib.hid (HV4.out.keep hb5)
      have HW5 := Lib.hid (hV5.congr (d' := fun i => (BellP.it m (BellP.ct l) t (BellP.st t) (s + 1 + 1) i : Int)) fun i _ => by rw [HS1.out (s + 1) i])
      have HBS5 := Lib.hid (Nat.le_trans HB4.out.size hbs5)
      clear hV5 hb5 hbs5 HB4 HG4 HV4
      go_wp2_with fail
      go_roundw
      case rel => exact ⟨s + 1, b', b5, by go_num, by omega, rfl, rfl, HB5, HG5, HBS', HBS5, HV5, HW5⟩
      case measure => simp [RowKit.intOf]; omega
    · obtain rfl : s = r := by omega
      have HE := HQ.out _ b' b (s + 1) s HV'.out HV.out
      rw [decide_eq_true HDone.out] at HE
      have HE := Lib.hid HE
      go_wp2_with fail
      refine HE.out.mono ?_
      rintro e w4 ⟨rfl, hb4⟩
      have HB4 := Lib.hid (Below.two HB.out hb4)
      have HV4 := Lib.hid ((HV.out.keep hb4).congr (d' := fun i => (far i : Int)) fun i hi => by rw [HEnd.out i hi])
      clear hb4 HB HG HV HV' HE
      go_wp2_with fail
      go_ret3
      exact ⟨b, HBS.out, rfl, HV4.out, HB4.out⟩
end Go.Proofs.Ytjgmehmhhplkaaa
