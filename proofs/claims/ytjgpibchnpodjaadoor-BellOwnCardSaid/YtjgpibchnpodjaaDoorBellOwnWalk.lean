/-
  The law BellOwn at every number of nodes, every links, node, estimates and number: it tells true; what lay in memory stays. Condition: the library's variable errors.errorType is as its text lays it.
-/
import Derived.Test.YtjgpibchnpodjaaDoorBellRounded
import Derived.Test.YtjgpibchnpodjaaDoorIntsCopy
import Derived.Test.YtjgpibchnpodjaaDoorErrTwo
import Derived.LoopN
namespace Go.Proofs.YtjgpibchnpodjaaDoor
open Go.RowKit Go.Lib

set_option maxHeartbeats 400000 in
set_option maxRecDepth 100000 in
theorem spoil_none (w : World) (x : Int) : Calls Tryd.prog 18 #[.slice none 0 0, .int .i64 x] w fun e w' => e = .returned (.tuple #[]) ∧ w = w' := by
  go_enter Tryd.func18, Tryd.ntmps18
  go_wp2_with fail
  refine wp_loop_rounds 1 ?_
  rw [rounds_succ]
  go_wp2_with fail
  go_end0
  exact ⟨rfl, rfl⟩
set_option maxHeartbeats 400000 in
set_option maxRecDepth 100000 in
theorem one_any (w : World) : Calls Tryd.prog 17 #[] w fun e w' => ∃ g, e = .returned (.slice (some ⟨g, 0, none⟩) 1 1) ∧ ArgK w' (.slice (some ⟨g, 0, none⟩) 1 1) [(0, 1, 3)] ∧ Below w.heap.size w w' := by
  go_enter Tryd.func17, Tryd.ntmps17
  go_wp2_with fail
  go_ret
  exact ⟨_, rfl, one_arg w, (Below.refl _ w).alloc (Nat.le_refl _) _⟩

set_option maxHeartbeats 4000000 in
set_option maxRecDepth 100000 in
theorem own_1 (w : World) (n to x : Int) (v u : Value) (l : List Lk) (d : List Int) (hn : l.length < 4611686018427387904) (hd : d.length * 8 ≤ 140737488355328) (h : ArgK w v l) (hu : ArgI w u d) (he : ErrType w) (hg : roundBad n l to d ≠ 0) :
    Calls Tryd.prog 4 #[.int .i64 n, v, .int .i64 to, u, .int .i64 x] w fun e w' => e = .returned (.bool true) ∧ Below w.heap.size w w' := by
  have HL := Lib.hid (h)
  have HU := Lib.hid (hu)
  have HE := Lib.hid (he)
  have HRo := Lib.hid (fun w1 u1 (h1 : ArgK w1 v l) (h2 : ArgI w1 u1 d) => round_bad w1 n to v u1 l d hn (by omega) h1 h2 hg)
  have HTo := Lib.hid (fun w1 (h1 : ErrType w1) => sameTold_any (roundBad n l to d) (roundBad n l to d) w1 h1)
  rw [errV_ne hg] at HRo HTo
  rw [beq_self_eq_true] at HTo
  obtain ⟨pu, cu, rfl, _⟩ := id hu
  clear h hu he
  generalize roundBad n l to d = q at HRo HTo hg
  have HZZ : Hid (Below w.heap.size w w) := Lib.hid (Below.refl _ _)
  go_enter Tryd.func4, Tryd.ntmps4
  go_wp2_with fail
  refine (intsCopy_any w _ d (by omega) HU.out).mono ?_
  rintro e w1 ⟨own, rfl, hO, hb1⟩
  have HL' := Lib.hid (HL.out.below hb1)
  have HU' := Lib.hid (HU.out.below hb1)
  have HE' := Lib.hid (HE.out.below hb1)
  have HZZ' := Lib.hid (Below.two HZZ.out hb1)
  have HO := Lib.hid (hO.arg)
  clear hb1 HZZ HL HU HE
  have HZZ := HZZ'
  clear HZZ'
  have HL := HL'
  clear HL'
  have HU := HU'
  clear HU'
  have HE := HE'
  clear HE'
  clear hO
  go_wp2_with fail
  refine (HRo.out _ _ HL.out HO.out).mono ?_
  rintro e w2 ⟨rfl, hb2⟩
  have HL' := Lib.hid (HL.out.below hb2)
  have HU' := Lib.hid (HU.out.below hb2)
  have HE' := Lib.hid (HE.out.below hb2)
  have HO' := Lib.hid (HO.out.below hb2)
  have HZZ' := Lib.hid (Below.two HZZ.out hb2)
  clear hb2 HZZ HL HU HE HO
  have HZZ := HZZ'
  clear HZZ'
  have HL := HL'
  clear HL'
  have HU := HU'
  clear HU'
  have HE := HE'
  clear HE'
  have HO := HO'
  clear HO'
  go_wp2_with fail
  refine (one_any w2).mono ?_
  rintro e w3 ⟨go, rfl, hK, hb3⟩
  have HL' := Lib.hid (HL.out.below hb3)
  have HU' := Lib.hid (HU.out.below hb3)
  have HE' := Lib.hid (HE.out.below hb3)
  have HO' := Lib.hid (HO.out.below hb3)
  have HZZ' := Lib.hid (Below.two HZZ.out hb3)
  have HK1 := Lib.hid (hK)
  clear hb3 HZZ HL HU HE HO
  have HZZ := HZZ'
  clear HZZ'
  have HL := HL'
  clear HL'
  have HU := HU'
  clear HU'
  have HE := HE'
  clear HE'
  have HO := HO'
  clear HO'
  clear hK
  go_wp2_with fail
  refine (run_ok w3 2 0 1 _ [(0, 1, 3)] (by decide) HK1.out rounded_right (by decide) rounded_cnt).mono ?_
  rintro e w4 ⟨qr, _, rfl, hV, hb4⟩
  have HL' := Lib.hid (HL.out.below hb4)
  have HU' := Lib.hid (HU.out.below hb4)
  have HE' := Lib.hid (HE.out.below hb4)
  have HO' := Lib.hid (HO.out.below hb4)
  have HK1' := Lib.hid (HK1.out.below hb4)
  have HZZ' := Lib.hid (Below.two HZZ.out hb4)
  clear hb4 HZZ HL HU HE HO HK1
  have HZZ := HZZ'
  clear HZZ'
  have HL := HL'
  clear HL'
  have HU := HU'
  clear HU'
  have HE := HE'
  clear HE'
  have HO := HO'
  clear HO'
  have HK1 := HK1'
  clear HK1'
  clear hV
  clear HK1
  have HS := sameInts_any w4 _ _ d d (by omega) HO.out HU.out
  rw [decide_eq_true rfl] at HS
  have HS := Lib.hid HS
  go_wp2_with fail
  refine (HS.out).mono ?_
  rintro e w5 ⟨rfl, hb5⟩
  have HL' := Lib.hid (HL.out.below hb5)
  have HU' := Lib.hid (HU.out.below hb5)
  have HE' := Lib.hid (HE.out.below hb5)
  have HO' := Lib.hid (HO.out.below hb5)
  have HZZ' := Lib.hid (Below.two HZZ.out hb5)
  clear hb5 HZZ HL HU HE HO
  have HZZ := HZZ'
  clear HZZ'
  have HL := HL'
  clear HL'
  have HU := HU'
  clear HU'
  have HE := HE'
  clear HE'
  have HO := HO'
  clear HO'
  clear HS
  go_wp2_with fail
  refine (spoil_none w5 x).mono ?_
  rintro e w6' ⟨rfl, rfl⟩
  have HS := sameInts_any w5 _ _ d d (by omega) HO.out HU.out
  rw [decide_eq_true rfl] at HS
  have HS := Lib.hid HS
  go_wp2_with fail
  refine (HS.out).mono ?_
  rintro e w7 ⟨rfl, hb7⟩
  have HL' := Lib.hid (HL.out.below hb7)
  have HU' := Lib.hid (HU.out.below hb7)
  have HE' := Lib.hid (HE.out.below hb7)
  have HO' := Lib.hid (HO.out.below hb7)
  have HZZ' := Lib.hid (Below.two HZZ.out hb7)
  clear hb7 HZZ HL HU HE HO
  have HZZ := HZZ'
  clear HZZ'
  have HL := HL'
  clear HL'
  have HU := HU'
  clear HU'
  have HE := HE'
  clear HE'
  have HO := HO'
  clear HO'
  clear HS
  go_wp2_with fail
  refine (HRo.out _ _ HL.out HU.out).mono ?_
  rintro e w8 ⟨rfl, hb8⟩
  have HL' := Lib.hid (HL.out.below hb8)
  have HU' := Lib.hid (HU.out.below hb8)
  have HE' := Lib.hid (HE.out.below hb8)
  have HO' := Lib.hid (HO.out.below hb8)
  have HZZ' := Lib.hid (Below.two HZZ.out hb8)
  clear hb8 HZZ HL HU HE HO
  have HZZ := HZZ'
  clear HZZ'
  have HL := HL'
  clear HL'
  have HU := HU'
  clear HU'
  have HE := HE'
  clear HE'
  have HO := HO'
  clear HO'
  go_wp2_with fail
  refine (HTo.out _ HE.out).mono ?_
  rintro e w9 ⟨rfl, hb9⟩
  have HL' := Lib.hid (HL.out.below hb9)
  have HU' := Lib.hid (HU.out.below hb9)
  have HE' := Lib.hid (HE.out.below hb9)
  have HO' := Lib.hid (HO.out.below hb9)
  have HZZ' := Lib.hid (Below.two HZZ.out hb9)
  clear hb9 HZZ HL HU HE HO
  have HZZ := HZZ'
  clear HZZ'
  have HL := HL'
  clear HL'
  have HU := HU'
  clear HU'
  have HE := HE'
  clear HE'
  have HO := HO'
  clear HO'
  go_wp2_with fail
  go_ret
  exact ⟨rfl, HZZ.out⟩
set_option maxHeartbeats 4000000 in
set_option maxRecDepth 100000 in
theorem own_2 (w : World) (m t : Nat) (x : Int) (v u : Value) (l : List Lk) (D : Nat → Nat) (hn : l.length < 4611686018427387904) (h : ArgK w v l) (hu : ArgI w u (BellP.vec m D)) (he : ErrType w) (hg : gBad m l = 0) (ht : t < m) (hD : ∀ j, D j ≤ 16) :
    Calls Tryd.prog 4 #[.int .i64 m, v, .int .i64 t, u, .int .i64 x] w fun e w' => e = .returned (.bool true) ∧ Below w.heap.size w w' := by
  have HL := Lib.hid (h)
  have HU := Lib.hid (hu)
  have HE := Lib.hid (he)
  have HTo := Lib.hid (fun w1 (h1 : ErrType w1) => sameTold_any 0 0 w1 h1)
  rw [show errV 0 = Value.nilIface from rfl, beq_self_eq_true] at HTo
  have HD := Lib.hid hD
  have hm := ((gBad_zero m l).1 hg).1
  obtain ⟨d, hdd⟩ : ∃ d, d = BellP.vec m D := ⟨_, rfl⟩
  have hd : d.length = m := by rw [hdd, BellP.vec_len]
  rw [← hdd] at HU
  have HDD := Lib.hid hdd
  obtain ⟨pu, cu, rfl, _⟩ := id hu
  rw [BellP.vec_len] at HU ⊢
  clear h hu he hD hdd
  have HZZ : Hid (Below w.heap.size w w) := Lib.hid (Below.refl _ _)
  go_enter Tryd.func4, Tryd.ntmps4
  have hd8 : d.length < 9 := by omega
  have HLen := Lib.hid hd
  clear hd
  go_wp2_with fail
  refine (intsCopy_any w _ d (by omega) HU.out).mono ?_
  rintro e w1 ⟨own, rfl, hO, hb1⟩
  have HL' := Lib.hid (HL.out.below hb1)
  have HU' := Lib.hid (HU.out.below hb1)
  have HE' := Lib.hid (HE.out.below hb1)
  have HZZ' := Lib.hid (Below.two HZZ.out hb1)
  have HO := Lib.hid (hO.arg)
  clear hb1 HZZ HL HU HE
  have HZZ := HZZ'
  clear HZZ'
  have HL := HL'
  clear HL'
  have HU := HU'
  clear HU'
  have HE := HE'
  clear HE'
  clear hO
  have HLK := HL
  have HUK := HU
  have HEK := HE
  have HOK := HO
  have HZ2 := HZZ
  have HZK := Lib.hid (Below.refl w1.heap.size w1)
  go_wp2_with fail
  refine (round_ok w1 m t v own l D hn HL.out (by rw [← HDD.out]; exact HO.out) hg ht HD.out).mono ?_
  rintro e w2 ⟨q, hq, rfl, hV, hb2⟩
  have HL' := Lib.hid (HL.out.below hb2)
  have HU' := Lib.hid (HU.out.below hb2)
  have HE' := Lib.hid (HE.out.below hb2)
  have HO' := Lib.hid (HO.out.below hb2)
  have HZK' := Lib.hid (Below.two HZK.out hb2)
  have HZZ' := Lib.hid (Below.two HZZ.out hb2)
  have HV := Lib.hid (hV)
  clear hb2 HZZ HL HU HE HO HZK
  have HZZ := HZZ'
  clear HZZ'
  have HL := HL'
  clear HL'
  have HU := HU'
  clear HU'
  have HE := HE'
  clear HE'
  have HO := HO'
  clear HO'
  have HZK := HZK'
  clear HZK'
  have HQ := Lib.hid hq
  clear hV hq
  go_wp2_with fail
  refine (one_any w2).mono ?_
  rintro e w3 ⟨go, rfl, hK, hb3⟩
  have HL' := Lib.hid (HL.out.below hb3)
  have HU' := Lib.hid (HU.out.below hb3)
  have HE' := Lib.hid (HE.out.below hb3)
  have HO' := Lib.hid (HO.out.below hb3)
  have HZK' := Lib.hid (Below.two HZK.out hb3)
  have HV' := Lib.hid (HV.out.keep hb3)
  have HZZ' := Lib.hid (Below.two HZZ.out hb3)
  have HK1 := Lib.hid (hK)
  clear hb3 HZZ HL HU HE HO HZK HV
  have HZZ := HZZ'
  clear HZZ'
  have HL := HL'
  clear HL'
  have HU := HU'
  clear HU'
  have HE := HE'
  clear HE'
  have HO := HO'
  clear HO'
  have HZK := HZK'
  clear HZK'
  have HV := HV'
  clear HV'
  clear hK
  go_wp2_with fail
  refine (run_ok w3 2 0 1 _ [(0, 1, 3)] (by decide) HK1.out rounded_right (by decide) rounded_cnt).mono ?_
  rintro e w4 ⟨qr, _, rfl, hV, hb4⟩
  have HL' := Lib.hid (HL.out.below hb4)
  have HU' := Lib.hid (HU.out.below hb4)
  have HE' := Lib.hid (HE.out.below hb4)
  have HO' := Lib.hid (HO.out.below hb4)
  have HZK' := Lib.hid (Below.two HZK.out hb4)
  have HV' := Lib.hid (HV.out.keep hb4)
  have HK1' := Lib.hid (HK1.out.below hb4)
  have HZZ' := Lib.hid (Below.two HZZ.out hb4)
  clear hb4 HZZ HL HU HE HO HZK HV HK1
  have HZZ := HZZ'
  clear HZZ'
  have HL := HL'
  clear HL'
  have HU := HU'
  clear HU'
  have HE := HE'
  clear HE'
  have HO := HO'
  clear HO'
  have HZK := HZK'
  clear HZK'
  have HV := HV'
  clear HV'
  have HK1 := HK1'
  clear HK1'
  clear hV
  clear HK1
  have HS := sameInts_any w4 _ _ d d (by omega) HO.out HU.out
  rw [decide_eq_true rfl] at HS
  have HS := Lib.hid HS
  go_wp2_with fail
  refine (HS.out).mono ?_
  rintro e w5 ⟨rfl, hb5⟩
  have HL' := Lib.hid (HL.out.below hb5)
  have HU' := Lib.hid (HU.out.below hb5)
  have HE' := Lib.hid (HE.out.below hb5)
  have HO' := Lib.hid (HO.out.below hb5)
  have HZK' := Lib.hid (Below.two HZK.out hb5)
  have HV' := Lib.hid (HV.out.keep hb5)
  have HZZ' := Lib.hid (Below.two HZZ.out hb5)
  clear hb5 HZZ HL HU HE HO HZK HV
  have HZZ := HZZ'
  clear HZZ'
  have HL := HL'
  clear HL'
  have HU := HU'
  clear HU'
  have HE := HE'
  clear HE'
  have HO := HO'
  clear HO'
  have HZK := HZK'
  clear HZK'
  have HV := HV'
  clear HV'
  clear HS
  go_wp2_with fail
  refine (spoil_any w5 q m x (by omega) (fun i hi => ⟨_, HV.out.c i hi⟩) HV.out.f).mono ?_
  rintro e x1 ⟨rfl, hbut⟩
  have HZK' := Lib.hid (HZK.out.trans (hbut.below.mono HQ.out))
  clear hbut HZK HV HL HU HO HE HZZ
  have HL := Lib.hid (HLK.out.below HZK'.out)
  have HU := Lib.hid (HUK.out.below HZK'.out)
  have HO := Lib.hid (HOK.out.below HZK'.out)
  have HE := Lib.hid (HEK.out.below HZK'.out)
  have HZZ := Lib.hid (Below.two HZ2.out HZK'.out)
  clear HLK HUK HEK HOK HZ2 HZK'
  have HS := sameInts_any x1 _ _ d d (by omega) HO.out HU.out
  rw [decide_eq_true rfl] at HS
  have HS := Lib.hid HS
  go_wp2_with fail
  refine (HS.out).mono ?_
  rintro e w41 ⟨rfl, hb41⟩
  have HL' := Lib.hid (HL.out.below hb41)
  have HU' := Lib.hid (HU.out.below hb41)
  have HO' := Lib.hid (HO.out.below hb41)
  have HE' := Lib.hid (HE.out.below hb41)
  have HZZ' := Lib.hid (Below.two HZZ.out hb41)
  clear hb41 HZZ HL HU HO HE
  have HZZ := HZZ'
  clear HZZ'
  have HL := HL'
  clear HL'
  have HU := HU'
  clear HU'
  have HO := HO'
  clear HO'
  have HE := HE'
  clear HE'
  clear HS
  go_wp2_with fail
  refine (round_ok w41 m t v _ l D hn HL.out (by rw [← HDD.out]; exact HU.out) hg ht HD.out).mono ?_
  rintro e w42 ⟨q2, _, rfl, hV, hb42⟩
  have HL' := Lib.hid (HL.out.below hb42)
  have HU' := Lib.hid (HU.out.below hb42)
  have HO' := Lib.hid (HO.out.below hb42)
  have HE' := Lib.hid (HE.out.below hb42)
  have HZZ' := Lib.hid (Below.two HZZ.out hb42)
  clear hb42 HZZ HL HU HO HE
  have HZZ := HZZ'
  clear HZZ'
  have HL := HL'
  clear HL'
  have HU := HU'
  clear HU'
  have HO := HO'
  clear HO'
  have HE := HE'
  clear HE'
  clear hV
  go_wp2_with fail
  refine (HTo.out _ HE.out).mono ?_
  rintro e w43 ⟨rfl, hb43⟩
  have HL' := Lib.hid (HL.out.below hb43)
  have HU' := Lib.hid (HU.out.below hb43)
  have HO' := Lib.hid (HO.out.below hb43)
  have HE' := Lib.hid (HE.out.below hb43)
  have HZZ' := Lib.hid (Below.two HZZ.out hb43)
  clear hb43 HZZ HL HU HO HE
  have HZZ := HZZ'
  clear HZZ'
  have HL := HL'
  clear HL'
  have HU := HU'
  clear HU'
  have HO := HO'
  clear HO'
  have HE := HE'
  clear HE'
  go_wp2_with fail
  go_ret
  exact ⟨rfl, HZZ.out⟩
theorem bellOwn_walk (w : World) (n to x : Int) (v u : Value) (l : List Lk) (d : List Int) (hn : l.length < 4611686018427387904) (hd : d.length * 8 ≤ 140737488355328) (h : ArgK w v l) (hu : ArgI w u d) (he : ErrType w) :
    Calls Tryd.prog 4 #[.int .i64 n, v, .int .i64 to, u, .int .i64 x] w fun e w' => e = .returned (.bool true) ∧ Below w.heap.size w w' := by
  by_cases h2 : roundBad n l to d = 0
  · obtain ⟨h1, h3⟩ := roundBad_zero.1 h2
    obtain ⟨m, t, rfl, rfl, _, _, ht, hg, _⟩ := run_nat h1
    obtain ⟨D, rfl, hD⟩ := est_vec h3
    exact own_2 w m t x v u l D hn h hu he hg ht hD
  · exact own_1 w n to x v u l d hn hd h hu he h2
end Go.Proofs.YtjgpibchnpodjaaDoor
