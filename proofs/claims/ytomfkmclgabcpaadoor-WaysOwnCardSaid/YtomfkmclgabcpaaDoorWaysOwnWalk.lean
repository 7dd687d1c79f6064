/-
  The law WaysOwn at every number of nodes, every links, two nodes, nodes in a row and number: it tells true; what lay in memory stays. Condition: the library's variable errors.errorType is as its text lays it.
-/
import Derived.Test.YtomfkmclgabcpaaDoorWaysGone
import Derived.Test.YtomfkmclgabcpaaDoorSpoilLists
import Derived.Test.YtomfkmclgabcpaaDoorIntsCopy
import Derived.Test.YtomfkmclgabcpaaDoorOwnOne
import Derived.Test.YtomfkmclgabcpaaDoorErrIs
namespace Go.Proofs.YtomfkmclgabcpaaDoor
open Go.RowKit Go.Lib

/-- The error that ways.Length tells of a list. -/
def lenBad (n : Int) (l : List Lk) (ws : List Int) : Int := if gBad n l ≠ 0 then gBad n l else match lengthG n l ws with
  | some _ => 0
  | none => 3
theorem length_some_err (w : World) (n : Int) (v u : Value) (l : List Lk) (ws : List Int) (hn : l.length < 4611686018427387904) (hw : ws.length < 4611686018427387904) (h : ArgK w v l) (hu : ArgI w u ws) (hr : Room u) :
    Calls Tryd.prog 10 #[.int .i64 n, v, u] w fun e w' => ∃ y : Int, e = .returned (.tuple #[.int .i64 y, errV (lenBad n l ws)]) ∧ Below w.heap.size w w' := by
  unfold lenBad
  by_cases hg : gBad n l = 0
  · rw [if_neg (by omega)]
    obtain ⟨h4, _⟩ := (gBad_zero n l).1 hg
    obtain ⟨m, rfl⟩ : ∃ m : Nat, n = m := ⟨n.toNat, by omega⟩
    refine (length_ok w m v u l ws hn hw h hu hr hg).mono ?_
    rintro e w' ⟨rfl, hb⟩
    cases lengthG m l ws with
    | none => exact ⟨0, rfl, hb⟩
    | some z => exact ⟨z, rfl, hb⟩
  · rw [if_pos hg]
    exact (length_bad w n v u l ws hn h hu hg).mono fun _ _ ⟨he, hb⟩ => ⟨0, he, hb⟩

set_option maxHeartbeats 4000000 in
set_option maxRecDepth 100000 in
theorem wo_a (w : World) (n a b : Int) (x : Int) (v u : Value) (l : List Lk) (ws : List Int) (hn : l.length < 4611686018427387904) (hw : ws.length * 8 ≤ 140737488355328) (h : ArgK w v l) (hu : ArgI w u ws) (hrm : Room u) (he : ErrType w) (q : Int) (hq : q ≠ 0) (hC : ∀ w1, ArgK w1 v l → Calls Tryd.prog 13 #[.int .i64 n, v, .int .i64 a, .int .i64 b] w1 fun e w' => e = .returned (.tuple #[.slice none 0 0, errV q]) ∧ Below w1.heap.size w1 w') :
    Calls Tryd.prog 4 #[.int .i64 n, v, .int .i64 a, .int .i64 b, u, .int .i64 x] w fun e w' => e = .returned (.bool true) ∧ Below w.heap.size w w' := by
  have HL := Lib.hid h
  have HU := Lib.hid hu
  have HE := Lib.hid he
  have HA := Lib.hid (fun w1 u1 (h1 : ArgK w1 v l) (h2 : ArgI w1 u1 ws) (h3 : Room u1) => length_some_err w1 n v u1 l ws hn (by omega) h1 h2 h3)
  have HT1 := Lib.hid (told_same (lenBad n l ws))
  generalize errV (lenBad n l ws) = E1 at HA HT1
  have HC := Lib.hid hC
  have HT2 := Lib.hid (told_same q)
  rw [show errV q = .iface 25 (.int .i64 q) from if_neg hq] at HC HT2
  clear hC hq
  obtain ⟨pu, cu, rfl, _⟩ := id hu
  clear h hu he
  have HZZ : Hid (Below w.heap.size w w) := Lib.hid (Below.refl _ _)
  go_enter Tryd.func4, Tryd.ntmps4
  go_wp2_with fail
  refine (intsCopy_any w _ ws (by omega) (HU.out.below HZZ.out)).mono ?_
  rintro e w1 ⟨uo, rfl, hO, hb1⟩
  have HZZ' := Lib.hid (Below.two HZZ.out hb1)
  have HO := Lib.hid (hO)
  clear hb1 HZZ 
  have HZZ := HZZ'
  clear HZZ'
  have HRo := Lib.hid hO.room
  obtain ⟨po, co, rfl, _⟩ := hO.arg
  clear hO
  go_wp2_with fail
  refine (HA.out _ _ (HL.out.below HZZ.out) HO.out.arg HRo.out).mono ?_
  rintro e w2 ⟨y1, rfl, hb2⟩
  have HO' := Lib.hid (HO.out.keep hb2)
  have HZZ' := Lib.hid (Below.two HZZ.out hb2)
  clear hb2 HZZ HO
  have HZZ := HZZ'
  clear HZZ'
  have HO := HO'
  clear HO'
  go_wp2_with fail
  refine (HC.out _ (HL.out.below HZZ.out)).mono ?_
  rintro e w3 ⟨rfl, hb3⟩
  have HO' := Lib.hid (HO.out.keep hb3)
  have HZZ' := Lib.hid (Below.two HZZ.out hb3)
  clear hb3 HZZ HO
  have HZZ := HZZ'
  clear HZZ'
  have HO := HO'
  clear HO'
  go_wp2_with fail
  refine (lone_any w3).mono ?_
  rintro e w4 ⟨g1, rfl, h1, hb4⟩
  have HO' := Lib.hid (HO.out.keep hb4)
  have HZZ' := Lib.hid (Below.two HZZ.out hb4)
  clear hb4 HZZ HO
  have HZZ := HZZ'
  clear HZZ'
  have HO := HO'
  clear HO'
  go_wp2_with fail
  refine (oneWay_any w4 _ h1).mono ?_
  rintro e w5 ⟨f0, rfl, hF, hb5⟩
  have HO' := Lib.hid (HO.out.keep hb5)
  have HZZ' := Lib.hid (Below.two HZZ.out hb5)
  clear hb5 HZZ HO
  have HZZ := HZZ'
  clear HZZ'
  have HO := HO'
  clear HO'
  obtain ⟨pf, cf, rfl, _⟩ := hF.arg
  clear hF h1
  go_wp2_with fail
  refine (ints_same w5 _ _ ws (by omega) HO.out.arg (HU.out.below HZZ.out)).mono ?_
  rintro e w6 ⟨rfl, hb6⟩
  have HO' := Lib.hid (HO.out.keep hb6)
  have HZZ' := Lib.hid (Below.two HZZ.out hb6)
  clear hb6 HZZ HO
  have HZZ := HZZ'
  clear HZZ'
  have HO := HO'
  clear HO'
  clear HO HRo
  go_wp2_with fail
  refine (intsCopy_any w6 _ [] (by simp) ⟨none, 0, rfl, Or.inl rfl⟩).mono ?_
  rintro e w7 ⟨uw, rfl, hO, hb7⟩
  have HZZ' := Lib.hid (Below.two HZZ.out hb7)
  have HW := Lib.hid (hO)
  clear hb7 HZZ 
  have HZZ := HZZ'
  clear HZZ'
  obtain ⟨pw, cw, rfl, _⟩ := hO.arg
  clear hO
  go_wp2_with fail
  refine (spoil_zero w7 none 0 x).mono ?_
  rintro e wz ⟨rfl, rfl⟩
  go_wp2_with fail
  refine (HC.out _ (HL.out.below HZZ.out)).mono ?_
  rintro e w8 ⟨rfl, hb8⟩
  have HW' := Lib.hid (HW.out.keep hb8)
  have HZZ' := Lib.hid (Below.two HZZ.out hb8)
  clear hb8 HZZ HW
  have HZZ := HZZ'
  clear HZZ'
  have HW := HW'
  clear HW'
  go_wp2_with fail
  refine (ints_same w8 _ _ [] (by simp) ⟨none, 0, rfl, Or.inl rfl⟩ HW.out.arg).mono ?_
  rintro e w9 ⟨rfl, hb9⟩
  have HW' := Lib.hid (HW.out.keep hb9)
  have HZZ' := Lib.hid (Below.two HZZ.out hb9)
  clear hb9 HZZ HW
  have HZZ := HZZ'
  clear HZZ'
  have HW := HW'
  clear HW'
  go_wp2_with fail
  refine (HT2.out _ (HE.out.below HZZ.out)).mono ?_
  rintro e w10 ⟨rfl, hb10⟩
  have HW' := Lib.hid (HW.out.keep hb10)
  have HZZ' := Lib.hid (Below.two HZZ.out hb10)
  clear hb10 HZZ HW
  have HZZ := HZZ'
  clear HZZ'
  have HW := HW'
  clear HW'
  go_wp2_with fail
  refine (HA.out _ _ (HL.out.below HZZ.out) (HU.out.below HZZ.out) hrm).mono ?_
  rintro e w11 ⟨y2, rfl, hb11⟩
  have HW' := Lib.hid (HW.out.keep hb11)
  have HZZ' := Lib.hid (Below.two HZZ.out hb11)
  clear hb11 HZZ HW
  have HZZ := HZZ'
  clear HZZ'
  have HW := HW'
  clear HW'
  go_wp2_with fail
  refine (HT1.out _ (HE.out.below HZZ.out)).mono ?_
  rintro e w12 ⟨rfl, hb12⟩
  have HW' := Lib.hid (HW.out.keep hb12)
  have HZZ' := Lib.hid (Below.two HZZ.out hb12)
  clear hb12 HZZ HW
  have HZZ := HZZ'
  clear HZZ'
  have HW := HW'
  clear HW'
  go_wp2_with fail
  go_ret
  exact ⟨rfl, HZZ.out⟩
set_option maxHeartbeats 4000000 in
set_option maxRecDepth 100000 in
theorem wo_b (w : World) (m s t : Nat) (x : Int) (v u : Value) (l : List Lk) (ws : List Int) (hn : l.length < 4611686018427387904) (hw : ws.length * 8 ≤ 140737488355328) (h : ArgK w v l) (hu : ArgI w u ws) (hrm : Room u) (he : ErrType w) (hg : gBad m l = 0) (hs : s < m) (ht : t < m) (h16 : BellP.far m (BellP.ct l) t s < 16) :
    Calls Tryd.prog 4 #[.int .i64 m, v, .int .i64 s, .int .i64 t, u, .int .i64 x] w fun e w' => e = .returned (.bool true) ∧ Below w.heap.size w w' := by
  have HL := Lib.hid h
  have HU := Lib.hid hu
  have HE := Lib.hid he
  have HA := Lib.hid (fun w1 u1 (h1 : ArgK w1 v l) (h2 : ArgI w1 u1 ws) (h3 : Room u1) => length_some_err w1 m v u1 l ws hn (by omega) h1 h2 h3)
  have HT1 := Lib.hid (told_same (lenBad m l ws))
  generalize errV (lenBad m l ws) = E1 at HA HT1
  have HC := Lib.hid (fun w1 (h1 : ArgK w1 v l) => first_ok w1 m s t v l hn h1 hg hs ht h16)
  have hlen : (WaysP.zs (WaysP.fst m (BellP.ct l) t s)).length ≤ 17 := by
    have h1 := (WaysP.fst_wk (BellP.ct_cost ((gBad_zero m l).1 hg).2) hs ht h16).short (BellP.ct_cost ((gBad_zero m l).1 hg).2)
    rw [WaysP.zs_len]; omega
  have HT2 : Hid (∀ w, ErrType w → Calls Tryd.prog 18 #[.nilIface, .nilIface] w fun e w' => e = .returned (.bool true) ∧ Below w.heap.size w w') := Lib.hid (told_same 0)
  generalize WaysP.zs (WaysP.fst m (BellP.ct l) t s) = F at HC hlen
  clear hg hs ht h16
  obtain ⟨pu, cu, rfl, _⟩ := id hu
  clear h hu he
  have HZZ : Hid (Below w.heap.size w w) := Lib.hid (Below.refl _ _)
  go_enter Tryd.func4, Tryd.ntmps4
  go_wp2_with fail
  refine (intsCopy_any w _ ws (by omega) (HU.out.below HZZ.out)).mono ?_
  rintro e w1 ⟨uo, rfl, hO, hb1⟩
  have HZZ' := Lib.hid (Below.two HZZ.out hb1)
  have HO := Lib.hid (hO)
  clear hb1 HZZ 
  have HZZ := HZZ'
  clear HZZ'
  have HRo := Lib.hid hO.room
  obtain ⟨po, co, rfl, _⟩ := hO.arg
  clear hO
  go_wp2_with fail
  refine (HA.out _ _ (HL.out.below HZZ.out) HO.out.arg HRo.out).mono ?_
  rintro e w2 ⟨y1, rfl, hb2⟩
  have HO' := Lib.hid (HO.out.keep hb2)
  have HZZ' := Lib.hid (Below.two HZZ.out hb2)
  clear hb2 HZZ HO
  have HZZ := HZZ'
  clear HZZ'
  have HO := HO'
  clear HO'
  have HSw2 := Lib.hid HZZ.out.size
  go_wp2_with fail
  refine (HC.out _ (HL.out.below HZZ.out)).mono ?_
  rintro e w3 ⟨up, rfl, hP, hb3⟩
  have HO' := Lib.hid (HO.out.keep hb3)
  have HZZ' := Lib.hid (Below.two HZZ.out hb3)
  have HP := Lib.hid (hP)
  clear hb3 HZZ HO
  have HZZ := HZZ'
  clear HZZ'
  have HO := HO'
  clear HO'
  obtain ⟨pp, cp, rfl, _⟩ := hP.arg
  have HPp := Lib.hid (fun g (h : (Value.slice pp F.length cp).ownBlock = some g) => Nat.le_trans HSw2.out (hP.past g h))
  clear hP
  go_wp2_with fail
  refine (lone_any w3).mono ?_
  rintro e w4 ⟨g1, rfl, h1, hb4⟩
  have HO' := Lib.hid (HO.out.keep hb4)
  have HP' := Lib.hid (HP.out.keep hb4)
  have HZZ' := Lib.hid (Below.two HZZ.out hb4)
  clear hb4 HZZ HO HP
  have HZZ := HZZ'
  clear HZZ'
  have HO := HO'
  clear HO'
  have HP := HP'
  clear HP'
  go_wp2_with fail
  refine (oneWay_any w4 _ h1).mono ?_
  rintro e w5 ⟨f0, rfl, hF, hb5⟩
  have HO' := Lib.hid (HO.out.keep hb5)
  have HP' := Lib.hid (HP.out.keep hb5)
  have HZZ' := Lib.hid (Below.two HZZ.out hb5)
  clear hb5 HZZ HO HP
  have HZZ := HZZ'
  clear HZZ'
  have HO := HO'
  clear HO'
  have HP := HP'
  clear HP'
  obtain ⟨pf, cf, rfl, _⟩ := hF.arg
  clear hF h1
  go_wp2_with fail
  refine (ints_same w5 _ _ ws (by omega) HO.out.arg (HU.out.below HZZ.out)).mono ?_
  rintro e w6 ⟨rfl, hb6⟩
  have HO' := Lib.hid (HO.out.keep hb6)
  have HP' := Lib.hid (HP.out.keep hb6)
  have HZZ' := Lib.hid (Below.two HZZ.out hb6)
  clear hb6 HZZ HO HP
  have HZZ := HZZ'
  clear HZZ'
  have HO := HO'
  clear HO'
  have HP := HP'
  clear HP'
  clear HO HRo
  have HPl := Lib.hid (fun g (h : (Value.slice pp F.length cp).ownBlock = some g) => (World.ownsRow.lt HP.out g h).2)
  go_wp2_with fail
  refine (intsCopy_any w6 _ F (by omega) HP.out.arg).mono ?_
  rintro e w7 ⟨uw, rfl, hO, hb7⟩
  have HP' := Lib.hid (HP.out.keep hb7)
  have HZZ' := Lib.hid (Below.two HZZ.out hb7)
  have HW := Lib.hid (hO)
  clear hb7 HZZ HP
  have HZZ := HZZ'
  clear HZZ'
  have HP := HP'
  clear HP'
  obtain ⟨pw, cw, rfl, _⟩ := hO.arg
  have HWp := Lib.hid hO.past
  clear hO
  go_wp2_with fail
  refine (spoil_bare w7 _ _ x (by omega) HP.out.bare).mono ?_
  rintro e y1 ⟨rfl, hs1⟩
  have hZ := HZZ.out.trans (hs1.below _ HZZ.out.size fun g h => HPp.out g h)
  have hA := arg_spared HW.out.arg hs1 (fun g h e => by
    have h1 := HWp.out g h
    have h2 := HPl.out g e
    omega)
  have HZZ' := Lib.hid hZ
  have HWA := Lib.hid hA
  clear hZ hA hs1 HZZ HW HP HPp HPl HWp
  have HZZ := HZZ'
  clear HZZ'
  go_wp2_with fail
  refine (HC.out _ (HL.out.below HZZ.out)).mono ?_
  rintro e w8 ⟨uq, rfl, hQ, hb8⟩
  have HWA' := Lib.hid (HWA.out.below hb8)
  have HZZ' := Lib.hid (Below.two HZZ.out hb8)
  have HQ := Lib.hid (hQ)
  clear hb8 HZZ HWA
  have HZZ := HZZ'
  clear HZZ'
  have HWA := HWA'
  clear HWA'
  obtain ⟨pq, cq, rfl, _⟩ := hQ.arg
  clear hQ
  go_wp2_with fail
  refine (ints_same w8 _ _ F (by omega) HQ.out.arg HWA.out).mono ?_
  rintro e w9 ⟨rfl, hb9⟩
  have HWA' := Lib.hid (HWA.out.below hb9)
  have HQ' := Lib.hid (HQ.out.keep hb9)
  have HZZ' := Lib.hid (Below.two HZZ.out hb9)
  clear hb9 HZZ HWA HQ
  have HZZ := HZZ'
  clear HZZ'
  have HWA := HWA'
  clear HWA'
  have HQ := HQ'
  clear HQ'
  go_wp2_with fail
  refine (HT2.out _ (HE.out.below HZZ.out)).mono ?_
  rintro e w10 ⟨rfl, hb10⟩
  have HWA' := Lib.hid (HWA.out.below hb10)
  have HQ' := Lib.hid (HQ.out.keep hb10)
  have HZZ' := Lib.hid (Below.two HZZ.out hb10)
  clear hb10 HZZ HWA HQ
  have HZZ := HZZ'
  clear HZZ'
  have HWA := HWA'
  clear HWA'
  have HQ := HQ'
  clear HQ'
  go_wp2_with fail
  refine (HA.out _ _ (HL.out.below HZZ.out) (HU.out.below HZZ.out) hrm).mono ?_
  rintro e w11 ⟨y2, rfl, hb11⟩
  have HWA' := Lib.hid (HWA.out.below hb11)
  have HQ' := Lib.hid (HQ.out.keep hb11)
  have HZZ' := Lib.hid (Below.two HZZ.out hb11)
  clear hb11 HZZ HWA HQ
  have HZZ := HZZ'
  clear HZZ'
  have HWA := HWA'
  clear HWA'
  have HQ := HQ'
  clear HQ'
  go_wp2_with fail
  refine (HT1.out _ (HE.out.below HZZ.out)).mono ?_
  rintro e w12 ⟨rfl, hb12⟩
  have HWA' := Lib.hid (HWA.out.below hb12)
  have HQ' := Lib.hid (HQ.out.keep hb12)
  have HZZ' := Lib.hid (Below.two HZZ.out hb12)
  clear hb12 HZZ HWA HQ
  have HZZ := HZZ'
  clear HZZ'
  have HWA := HWA'
  clear HWA'
  have HQ := HQ'
  clear HQ'
  go_wp2_with fail
  go_ret
  exact ⟨rfl, HZZ.out⟩
theorem waysOwn_walk (w : World) (n a b : Int) (x : Int) (v u : Value) (l : List Lk) (ws : List Int) (hn : l.length < 4611686018427387904) (hw : ws.length * 8 ≤ 140737488355328) (h : ArgK w v l) (hu : ArgI w u ws) (hrm : Room u) (he : ErrType w) :
    Calls Tryd.prog 4 #[.int .i64 n, v, .int .i64 a, .int .i64 b, u, .int .i64 x] w fun e w' => e = .returned (.bool true) ∧ Below w.heap.size w w' := by
  by_cases h1 : wayBad n l a b = 0
  · obtain ⟨m, s, t, rfl, rfl, rfl, _, _, hs, ht, hg, hr⟩ := way_nat h1
    by_cases h16 : BellP.far m (BellP.ct l) t s < 16
    · exact wo_b w m s t x v u l ws hn hw h hu hrm he hg hs ht h16
    · have hne : s ≠ t := fun e => h16 (by rw [e, BellP.far_to (BellP.ct_cost hr) ht]; omega)
      exact wo_a w m s t x v u l ws hn hw h hu hrm he 2 (by decide) fun w1 h2 => first_none w1 m s t v l hn h2 hg hs ht hne h16
  · exact wo_a w n a b x v u l ws hn hw h hu hrm he _ h1 fun w1 h2 => first_bad w1 n a b v l hn h2 h1
end Go.Proofs.YtomfkmclgabcpaaDoor
