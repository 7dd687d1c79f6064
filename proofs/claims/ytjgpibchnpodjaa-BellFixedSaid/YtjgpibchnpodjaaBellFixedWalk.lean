/-
  The law BellFixed at every number of nodes, every links, node and estimates: it tells true; what lay in memory stays.
-/
import Derived.Test.YtjgpibchnpodjaaBellRounded
namespace Go.Proofs.Ytjgpibchnpodjaa
open Go.RowKit Go.Lib

set_option maxHeartbeats 2000000 in
set_option maxRecDepth 100000 in
theorem fixed_1 (w : World) (n to : Int) (v u : Value) (l : List Lk) (hn : l.length < 4611686018427387904) (h : ArgK w v l) (hg : runBad n l to ≠ 0) :
    Calls Try.prog 3 #[.int .i64 n, v, .int .i64 to, u] w fun e w' => e = .returned (.bool true) ∧ Below w.heap.size w w' := by
  have HL := Lib.hid (h)
  have HR := Lib.hid (fun w1 (h1 : ArgK w1 v l) => run_bad w1 n to v l hn h1 hg)
  rw [errV_ne hg] at HR
  clear h
  generalize runBad n l to = q at HR hg
  have HZZ : Hid (Below w.heap.size w w) := Lib.hid (Below.refl _ _)
  go_enter Try.func3, Try.ntmps3
  go_wp2_with fail
  refine (rounded_any w).mono ?_
  rintro e w1 ⟨rfl, hb1⟩
  have HL' := Lib.hid (HL.out.below hb1)
  have HZZ' := Lib.hid (Below.two HZZ.out hb1)
  clear hb1 HZZ HL
  have HZZ := HZZ'
  clear HZZ'
  have HL := HL'
  clear HL'
  go_wp2_with fail
  refine (HR.out _ HL.out).mono ?_
  rintro e w2 ⟨rfl, hb2⟩
  have HL' := Lib.hid (HL.out.below hb2)
  have HZZ' := Lib.hid (Below.two HZZ.out hb2)
  clear hb2 HZZ HL
  have HZZ := HZZ'
  clear HZZ'
  have HL := HL'
  clear HL'
  go_wp2_with fail
  go_ret
  exact ⟨rfl, HZZ.out⟩
set_option maxHeartbeats 2000000 in
set_option maxRecDepth 100000 in
theorem fixed_2 (w : World) (m t r : Nat) (v u : Value) (l : List Lk) (d : List Int) (hn : l.length < 4611686018427387904) (hd : d.length < 4611686018427387904) (h : ArgK w v l) (hu : ArgI w u d) (hg : gBad m l = 0) (ht : t < m) (hc : BellP.Cnt m (BellP.ct l) t r) (hf : roundBad m l t d ≠ 0) :
    Calls Try.prog 3 #[.int .i64 m, v, .int .i64 t, u] w fun e w' => e = .returned (.bool true) ∧ Below w.heap.size w w' := by
  have hm := ((gBad_zero m l).1 hg).1
  have HK := Lib.hid (BellP.ct_cost ((gBad_zero m l).1 hg).2)
  have HC := Lib.hid hc
  have hrm := hc.lt
  clear hc
  have HL := Lib.hid (h)
  have HU := Lib.hid (hu)
  have HR := Lib.hid (fun w1 (h1 : ArgK w1 v l) (h2 : ArgI w1 u d) => round_bad w1 m t v u l d hn hd h1 h2 hf)
  rw [errV_ne hf] at HR
  clear h hu
  generalize roundBad m l t d = q at HR hf
  have HZZ : Hid (Below w.heap.size w w) := Lib.hid (Below.refl _ _)
  go_enter Try.func3, Try.ntmps3
  go_wp2_with fail
  refine (rounded_any w).mono ?_
  rintro e w1 ⟨rfl, hb1⟩
  have HL' := Lib.hid (HL.out.below hb1)
  have HU' := Lib.hid (HU.out.below hb1)
  have HZZ' := Lib.hid (Below.two HZZ.out hb1)
  clear hb1 HZZ HL HU
  have HZZ := HZZ'
  clear HZZ'
  have HL := HL'
  clear HL'
  have HU := HU'
  clear HU'
  go_wp2_with fail
  refine (run_ok w1 m t r v l hn HL.out hg ht HC.out).mono ?_
  rintro e w2 ⟨q1, _, rfl, hV, hb2⟩
  have HL' := Lib.hid (HL.out.below hb2)
  have HU' := Lib.hid (HU.out.below hb2)
  have HZZ' := Lib.hid (Below.two HZZ.out hb2)
  have HF := Lib.hid (hV)
  clear hb2 HZZ HL HU
  have HZZ := HZZ'
  clear HZZ'
  have HL := HL'
  clear HL'
  have HU := HU'
  clear HU'
  clear hV
  go_wp2_with fail
  refine (round_ok w2 m t v _ l _ hn HL.out HF.out.argV hg ht (BellP.far_bd m _ t)).mono ?_
  rintro e w3 ⟨q2, _, rfl, hV, hb3⟩
  have HL' := Lib.hid (HL.out.below hb3)
  have HU' := Lib.hid (HU.out.below hb3)
  have HF' := Lib.hid (HF.out.keep hb3)
  have HZZ' := Lib.hid (Below.two HZZ.out hb3)
  have HF2 := Lib.hid (hV.congr (d' := (fun i => (BellP.far m (BellP.ct l) t i : Int))) fun i hi => by rw [BellP.far_fixed HK.out ht i hi])
  clear hb3 HZZ HL HU HF
  have HZZ := HZZ'
  clear HZZ'
  have HL := HL'
  clear HL'
  have HU := HU'
  clear HU'
  have HF := HF'
  clear HF'
  clear hV
  have HS := sameInts_any w3 _ _ _ _ (by rw [BellP.vec_len]; omega) HF2.out.argV HF.out.argV
  rw [decide_eq_true rfl] at HS
  have HS := Lib.hid HS
  go_wp2_with fail
  refine (HS.out).mono ?_
  rintro e w4 ⟨rfl, hb4⟩
  have HL' := Lib.hid (HL.out.below hb4)
  have HU' := Lib.hid (HU.out.below hb4)
  have HF' := Lib.hid (HF.out.keep hb4)
  have HF2' := Lib.hid (HF2.out.keep hb4)
  have HZZ' := Lib.hid (Below.two HZZ.out hb4)
  clear hb4 HZZ HL HU HF HF2
  have HZZ := HZZ'
  clear HZZ'
  have HL := HL'
  clear HL'
  have HU := HU'
  clear HU'
  have HF := HF'
  clear HF'
  have HF2 := HF2'
  clear HF2'
  clear HS
  go_wp2_with fail
  refine (HR.out _ HL.out HU.out).mono ?_
  rintro e w5 ⟨rfl, hb5⟩
  have HL' := Lib.hid (HL.out.below hb5)
  have HU' := Lib.hid (HU.out.below hb5)
  have HF' := Lib.hid (HF.out.keep hb5)
  have HF2' := Lib.hid (HF2.out.keep hb5)
  have HZZ' := Lib.hid (Below.two HZZ.out hb5)
  clear hb5 HZZ HL HU HF HF2
  have HZZ := HZZ'
  clear HZZ'
  have HL := HL'
  clear HL'
  have HU := HU'
  clear HU'
  have HF := HF'
  clear HF'
  have HF2 := HF2'
  clear HF2'
  go_wp2_with fail
  go_ret
  exact ⟨rfl, HZZ.out⟩
set_option maxHeartbeats 2000000 in
set_option maxRecDepth 100000 in
theorem fixed_3 (w : World) (m t r : Nat) (v u : Value) (l : List Lk) (d : Nat → Nat) (hn : l.length < 4611686018427387904) (h : ArgK w v l) (hu : ArgI w u (BellP.vec m d)) (hg : gBad m l = 0) (ht : t < m) (hc : BellP.Cnt m (BellP.ct l) t r) (hd : ∀ j, d j ≤ 16) :
    Calls Try.prog 3 #[.int .i64 m, v, .int .i64 t, u] w fun e w' => e = .returned (.bool true) ∧ Below w.heap.size w w' := by
  have hm := ((gBad_zero m l).1 hg).1
  have HK := Lib.hid (BellP.ct_cost ((gBad_zero m l).1 hg).2)
  have HC := Lib.hid hc
  have hrm := hc.lt
  clear hc
  have HL := Lib.hid (h)
  have HU := Lib.hid (hu)
  have HD := Lib.hid hd
  clear h hu hd
  have HZZ : Hid (Below w.heap.size w w) := Lib.hid (Below.refl _ _)
  go_enter Try.func3, Try.ntmps3
  go_wp2_with fail
  refine (rounded_any w).mono ?_
  rintro e w1 ⟨rfl, hb1⟩
  have HL' := Lib.hid (HL.out.below hb1)
  have HU' := Lib.hid (HU.out.below hb1)
  have HZZ' := Lib.hid (Below.two HZZ.out hb1)
  clear hb1 HZZ HL HU
  have HZZ := HZZ'
  clear HZZ'
  have HL := HL'
  clear HL'
  have HU := HU'
  clear HU'
  go_wp2_with fail
  refine (run_ok w1 m t r v l hn HL.out hg ht HC.out).mono ?_
  rintro e w2 ⟨q1, _, rfl, hV, hb2⟩
  have HL' := Lib.hid (HL.out.below hb2)
  have HU' := Lib.hid (HU.out.below hb2)
  have HZZ' := Lib.hid (Below.two HZZ.out hb2)
  have HF := Lib.hid (hV)
  clear hb2 HZZ HL HU
  have HZZ := HZZ'
  clear HZZ'
  have HL := HL'
  clear HL'
  have HU := HU'
  clear HU'
  clear hV
  go_wp2_with fail
  refine (round_ok w2 m t v _ l _ hn HL.out HF.out.argV hg ht (BellP.far_bd m _ t)).mono ?_
  rintro e w3 ⟨q2, _, rfl, hV, hb3⟩
  have HL' := Lib.hid (HL.out.below hb3)
  have HU' := Lib.hid (HU.out.below hb3)
  have HF' := Lib.hid (HF.out.keep hb3)
  have HZZ' := Lib.hid (Below.two HZZ.out hb3)
  have HF2 := Lib.hid (hV.congr (d' := (fun i => (BellP.far m (BellP.ct l) t i : Int))) fun i hi => by rw [BellP.far_fixed HK.out ht i hi])
  clear hb3 HZZ HL HU HF
  have HZZ := HZZ'
  clear HZZ'
  have HL := HL'
  clear HL'
  have HU := HU'
  clear HU'
  have HF := HF'
  clear HF'
  clear hV
  have HS := sameInts_any w3 _ _ _ _ (by rw [BellP.vec_len]; omega) HF2.out.argV HF.out.argV
  rw [decide_eq_true rfl] at HS
  have HS := Lib.hid HS
  go_wp2_with fail
  refine (HS.out).mono ?_
  rintro e w4 ⟨rfl, hb4⟩
  have HL' := Lib.hid (HL.out.below hb4)
  have HU' := Lib.hid (HU.out.below hb4)
  have HF' := Lib.hid (HF.out.keep hb4)
  have HF2' := Lib.hid (HF2.out.keep hb4)
  have HZZ' := Lib.hid (Below.two HZZ.out hb4)
  clear hb4 HZZ HL HU HF HF2
  have HZZ := HZZ'
  clear HZZ'
  have HL := HL'
  clear HL'
  have HU := HU'
  clear HU'
  have HF := HF'
  clear HF'
  have HF2 := HF2'
  clear HF2'
  clear HS
  go_wp2_with fail
  refine (round_ok w4 m t v u l d hn HL.out HU.out hg ht HD.out).mono ?_
  rintro e w5 ⟨q3, _, rfl, hV, hb5⟩
  have HL' := Lib.hid (HL.out.below hb5)
  have HU' := Lib.hid (HU.out.below hb5)
  have HF' := Lib.hid (HF.out.keep hb5)
  have HF2' := Lib.hid (HF2.out.keep hb5)
  have HZZ' := Lib.hid (Below.two HZZ.out hb5)
  have HX := Lib.hid (hV.congr (d' := fun i => (BellP.it m (BellP.ct l) t d (0 + 1) i : Int)) fun i _ => rfl)
  clear hb5 HZZ HL HU HF HF2
  have HZZ := HZZ'
  clear HZZ'
  have HL := HL'
  clear HL'
  have HU := HU'
  clear HU'
  have HF := HF'
  clear HF'
  have HF2 := HF2'
  clear HF2'
  clear hV
  go_wp2_with fail
  go_loopw [14, 16, 17] (fun x y z wr => ∃ (k b : Nat), z = .int .i64 k ∧ k ≤ 16 ∧ x = .nilIface ∧ y = .slice (some ⟨b, 0, none⟩) m m ∧ Hid (Below w.heap.size w wr) ∧ Hid (ArgK wr v l) ∧ Hid (Vec wr q1 m (fun i => (BellP.far m (BellP.ct l) t i : Int))) ∧ Hid (Vec wr b m (fun i => (BellP.it m (BellP.ct l) t d (k + 1) i : Int)))) (fun _ _ z _ => 16 - (RowKit.intOf z).toNat)
  case atStart => exact ⟨0, q3, rfl, by omega, rfl, rfl, HZZ, HL, HF, HX⟩
  case round =>
    clear HZZ HL HF HX HF2 HU
    obtain ⟨k, b, rfl, hk, rfl, rfl, HZZ, HL, HF, HX⟩ := hrel
    by_cases hkn : k < 16
    · have HR := Lib.hid (round_ok wr m t v _ l _ hn HL.out HX.out.argV hg ht (BellP.it_bd m _ t HD.out (k + 1)))
      go_wp2_with fail
      refine HR.out.mono ?_
      rintro e x1 ⟨b1, _, rfl, hV, hb⟩
      have HZZ' := Lib.hid (Below.two HZZ.out hb)
      have HL' := Lib.hid (HL.out.below hb)
      have HF' := Lib.hid (HF.out.keep hb)
      have HX' := Lib.hid (hV.congr (d' := fun i => (BellP.it m (BellP.ct l) t d (k + 1 + 1) i : Int)) fun i _ => rfl)
      clear hV hb HR HZZ HL HF HX
      go_wp2_with fail
      go_roundw
      case rel => exact ⟨k + 1, b1, by go_num, by omega, rfl, rfl, HZZ', HL', HF', HX'⟩
      case measure => simp [RowKit.intOf]; omega
    · obtain rfl : k = 16 := by omega
      have HX2 := HX.out.congr (d' := (fun i => (BellP.far m (BellP.ct l) t i : Int))) fun i hi => by rw [BellP.it_all HK.out ht HD.out (16 + 1) (by omega) i hi]
      have HS := sameInts_any wr _ _ _ _ (by rw [BellP.vec_len]; omega) HX2.argV HF.out.argV
      rw [decide_eq_true rfl] at HS
      have HS := Lib.hid HS
      clear HX2
      go_wp2_with fail
      refine HS.out.mono ?_
      rintro e x1 ⟨rfl, hb⟩
      have HZZ' := Lib.hid (Below.two HZZ.out hb)
      clear hb
      go_wp2_with fail
      go_ret
      exact ⟨rfl, HZZ'.out⟩
theorem bellFixed_walk (w : World) (n to : Int) (v u : Value) (l : List Lk) (d : List Int) (hn : l.length < 4611686018427387904) (hd : d.length < 4611686018427387904) (h : ArgK w v l) (hu : ArgI w u d) :
    Calls Try.prog 3 #[.int .i64 n, v, .int .i64 to, u] w fun e w' => e = .returned (.bool true) ∧ Below w.heap.size w w' := by
  by_cases h1 : runBad n l to = 0
  · obtain ⟨m, t, rfl, rfl, hm, _, ht, hg, hr⟩ := run_nat h1
    obtain ⟨r, hc⟩ := BellP.cnt_is (BellP.ct_cost hr) ht
    by_cases h2 : roundBad m l t d = 0
    · obtain ⟨D, rfl, hD⟩ := est_vec (roundBad_zero.1 h2).2
      exact fixed_3 w m t r v u l D hn h hu hg ht hc hD
    · exact fixed_2 w m t r v u l d hn hd h hu hg ht hc h2
  · exact fixed_1 w n to v u l hn h h1
end Go.Proofs.Ytjgpibchnpodjaa
