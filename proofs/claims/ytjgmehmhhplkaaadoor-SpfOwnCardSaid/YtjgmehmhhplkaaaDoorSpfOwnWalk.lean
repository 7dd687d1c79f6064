/-
  The law SpfOwn at every number of nodes, every links, node and number: it tells true; what lay in memory stays. Condition: the library's variable errors.errorType is as its text lays it.
-/
import Derived.Test.YtjgmehmhhplkaaaDoorSpfOne
import Derived.Test.YtjgmehmhhplkaaaDoorSpoilLists
import Derived.Test.YtjgmehmhhplkaaaDoorLinkCopy
import Derived.Test.YtjgmehmhhplkaaaDoorSameLinks
import Derived.Test.YtjgmehmhhplkaaaDoorErrTwo
import Derived.StillTailTactics
import Derived.LoopN
namespace Go.Proofs.YtjgmehmhhplkaaaDoor
open Go.RowKit Go.Lib

set_option maxHeartbeats 400000 in
set_option maxRecDepth 100000 in
theorem lone_any (w : World) : Calls Tryd.prog 14 #[] w fun e w' => ∃ g, e = .returned (.slice (some ⟨g, 0, none⟩) 1 1) ∧ ArgK w' (.slice (some ⟨g, 0, none⟩) 1 1) [(0, 1, 3)] ∧ Below w.heap.size w w' := by
  go_enter Tryd.func14, Tryd.ntmps14
  go_wp2_with fail
  go_ret
  exact ⟨_, rfl, one_arg w, (Below.refl _ w).alloc (Nat.le_refl _) _⟩
theorem told_same (q : Int) (w : World) (h : ErrType w) : Calls Tryd.prog 17 #[errV q, errV q] w fun e w' => e = .returned (.bool true) ∧ Below w.heap.size w w' := by
  have := sameTold_any q q w h
  rwa [beq_self_eq_true] at this
theorem links_same (w : World) (v v' : Value) (l : List Lk) (hn : l.length < 4611686018427387904) (h : ArgK w v l) (h' : ArgK w v' l) : Calls Tryd.prog 16 #[v, v'] w fun e w' => e = .returned (.bool true) ∧ Below w.heap.size w w' := by
  have := sameLinks_any w v v' l l hn h h'
  rwa [decide_eq_true rfl] at this
theorem one_of (w : World) (v : Value) (h : ArgK w v [(0, 1, 3)]) : Calls Tryd.prog 9 #[.int .i64 2, v, .int .i64 0] w fun e w' => ∃ f, e = .returned (.tuple #[.slice (some ⟨f, 0, none⟩) 2 2, .nilIface]) ∧ w'.cell? ⟨f, 1, none⟩ = some (.int .i64 3) ∧ Below w.heap.size w w' := by
  refine (one_any w v h).mono ?_
  rintro e w' ⟨f, _, he, hv, hb⟩
  refine ⟨f, he, ?_, hb⟩
  have := hv.c 1 (by decide)
  rwa [one_far1] at this

set_option maxHeartbeats 4000000 in
set_option maxRecDepth 100000 in
theorem own_a (w : World) (n fr x : Int) (v : Value) (l : List Lk) (hn : l.length * 24 ≤ 140737488355328) (h : ArgK w v l) (he : ErrType w) (hg : spfBad n l fr ≠ 0) :
    Calls Tryd.prog 4 #[.int .i64 n, v, .int .i64 fr, .int .i64 x] w fun e w' => e = .returned (.bool true) ∧ Below w.heap.size w w' := by
  have HL := Lib.hid h
  have HE := Lib.hid he
  have HR := Lib.hid (fun w1 v1 (h1 : ArgK w1 v1 l) => far_bad w1 n fr v1 l (by omega) h1 hg)
  have HU := Lib.hid (fun w1 v1 (h1 : ArgK w1 v1 l) => ups_bad w1 n fr v1 l (by omega) h1 hg)
  have HTo := Lib.hid (told_same (spfBad n l fr))
  rw [spf_err hg] at HR HU HTo
  clear h he
  generalize spfBad n l fr = q at HR HU HTo hg
  have HBA := Lib.hid ((Below.refl w.heap.size w).alloc (Nat.le_refl _) (.cells #[] 46))
  go_enter Tryd.func4, Tryd.ntmps4
  go_wp2_with (at_builtin; refine wpl_copyK rfl _ _ rfl w.heap.size _ _ l rfl rfl (World.ownsRow_made w #[] 0 (Nat.le_refl _) (Nat.zero_le _) (by simp)) (HL.out.below HBA.out) (by omega) (by simp) ?_; intro v1 w1 hO1 hb1)
  have HZZ := Lib.hid (Below.trans HBA.out hb1)
  have HO := Lib.hid hO1.arg
  have HZ1 := Lib.hid (Below.refl w1.heap.size w1)
  clear hO1 hb1
  have hw01 := HZZ.out.size
  go_wp2_with fail
  refine (HR.out _ _ (HO.out.below HZ1.out)).mono ?_
  rintro e w2 ⟨rfl, hb2⟩
  have HZ1' := Lib.hid (Below.two HZ1.out hb2)
  have HZZ' := Lib.hid (Below.two HZZ.out hb2)
  clear hb2 HZZ HZ1
  have HZZ := HZZ'
  clear HZZ'
  have HZ1 := HZ1'
  clear HZ1'
  go_wp2_with fail
  refine (HU.out _ _ (HO.out.below HZ1.out)).mono ?_
  rintro e w3 ⟨rfl, hb3⟩
  have HZ1' := Lib.hid (Below.two HZ1.out hb3)
  have HZZ' := Lib.hid (Below.two HZZ.out hb3)
  clear hb3 HZZ HZ1
  have HZZ := HZZ'
  clear HZZ'
  have HZ1 := HZ1'
  clear HZ1'
  go_wp2_with fail
  refine (lone_any w3).mono ?_
  rintro e w4 ⟨g1, rfl, h1, hb4⟩
  have HZ1' := Lib.hid (Below.two HZ1.out hb4)
  have HZZ' := Lib.hid (Below.two HZZ.out hb4)
  clear hb4 HZZ HZ1
  have HZZ := HZZ'
  clear HZZ'
  have HZ1 := HZ1'
  clear HZ1'
  go_wp2_with fail
  refine (one_of w4 _ h1).mono ?_
  rintro e w5 ⟨f0, rfl, o1, hb5⟩
  have HZ1' := Lib.hid (Below.two HZ1.out hb5)
  have HZZ' := Lib.hid (Below.two HZZ.out hb5)
  clear hb5 HZZ HZ1
  have HZZ := HZZ'
  clear HZZ'
  have HZ1 := HZ1'
  clear HZ1'
  go_wp2_with fail
  refine (spoil_zero w5 none 0 x).mono ?_
  rintro e wz ⟨rfl, rfl⟩
  go_wp2_with fail
  refine (HU.out _ _ (HL.out.below HZZ.out)).mono ?_
  rintro e w6 ⟨rfl, hb6⟩
  have HZ1' := Lib.hid (Below.two HZ1.out hb6)
  have HZZ' := Lib.hid (Below.two HZZ.out hb6)
  clear hb6 HZZ HZ1
  have HZZ := HZZ'
  clear HZZ'
  have HZ1 := HZ1'
  clear HZ1'
  go_wp2_with fail
  refine (links_same w6 _ _ l (by omega) (HO.out.below HZ1.out) (HL.out.below HZZ.out)).mono ?_
  rintro e w7 ⟨rfl, hb7⟩
  have HZ1' := Lib.hid (Below.two HZ1.out hb7)
  have HZZ' := Lib.hid (Below.two HZZ.out hb7)
  clear hb7 HZZ HZ1
  have HZZ := HZZ'
  clear HZZ'
  have HZ1 := HZ1'
  clear HZ1'
  go_wp2_with fail
  refine (HTo.out _ (HE.out.below HZZ.out)).mono ?_
  rintro e w8 ⟨rfl, hb8⟩
  have HZ1' := Lib.hid (Below.two HZ1.out hb8)
  have HZZ' := Lib.hid (Below.two HZZ.out hb8)
  clear hb8 HZZ HZ1
  have HZZ := HZZ'
  clear HZZ'
  have HZ1 := HZ1'
  clear HZ1'
  go_wp2_with fail
  refine (HTo.out _ (HE.out.below HZZ.out)).mono ?_
  rintro e w9 ⟨rfl, hb9⟩
  have HZ1' := Lib.hid (Below.two HZ1.out hb9)
  have HZZ' := Lib.hid (Below.two HZZ.out hb9)
  clear hb9 HZZ HZ1
  have HZZ := HZZ'
  clear HZZ'
  have HZ1 := HZ1'
  clear HZ1'
  go_wp2_with fail
  refine wp_loop_rounds 1 ?_
  rw [rounds_succ]
  go_wp2_with fail
  go_ret
  exact ⟨rfl, HZZ.out⟩
set_option maxHeartbeats 4000000 in
set_option maxRecDepth 100000 in
theorem own_b (w : World) (m t : Nat) (x : Int) (v : Value) (l : List Lk) (hn : l.length * 24 ≤ 140737488355328) (h : ArgK w v l) (he : ErrType w) (hg : gBad m l = 0) (ht : t < m) :
    Calls Tryd.prog 4 #[.int .i64 m, v, .int .i64 t, .int .i64 x] w fun e w' => e = .returned (.bool true) ∧ Below w.heap.size w w' := by
  have HL := Lib.hid h
  have HE := Lib.hid he
  have hm := ((gBad_zero m l).1 hg).1
  have HTo : Hid (∀ w, ErrType w → Calls Tryd.prog 17 #[.nilIface, .nilIface] w fun e w' => e = .returned (.bool true) ∧ Below w.heap.size w w') := Lib.hid (told_same 0)
  have HLe := Lib.hid (fun j => SpfP.upsTo_len m (BellP.ct l) t j m)
  have m0 : (m : Int) > 0 := by omega
  obtain ⟨r, hr⟩ : ∃ r, m = r + 1 := ⟨m - 1, by omega⟩
  have m1 : (m : Int) - 1 = (r : Int) := by omega
  have hrm : r < m := by omega
  clear hr
  clear h he
  have HBA := Lib.hid ((Below.refl w.heap.size w).alloc (Nat.le_refl _) (.cells #[] 46))
  go_enter Tryd.func4, Tryd.ntmps4
  go_wp2_with (at_builtin; refine wpl_copyK rfl _ _ rfl w.heap.size _ _ l rfl rfl (World.ownsRow_made w #[] 0 (Nat.le_refl _) (Nat.zero_le _) (by simp)) (HL.out.below HBA.out) (by omega) (by simp) ?_; intro v1 w1 hO1 hb1)
  have HZZ := Lib.hid (Below.trans HBA.out hb1)
  have HO := Lib.hid hO1.arg
  have HZ1 := Lib.hid (Below.refl w1.heap.size w1)
  clear hO1 hb1
  have hw01 := HZZ.out.size
  go_wp2_with fail
  refine (far_ok w1 m t _ l (by omega) (HO.out.below HZ1.out) hg ht).mono ?_
  rintro e w2 ⟨f, hf0, rfl, hV, hb2⟩
  have HZ1' := Lib.hid (Below.two HZ1.out hb2)
  have HZZ' := Lib.hid (Below.two HZZ.out hb2)
  have HX := Lib.hid (hV)
  clear hb2 HZZ HZ1
  have HZZ := HZZ'
  clear HZZ'
  have HZ1 := HZ1'
  clear HZ1'
  clear hV
  have hf1 : w1.heap.size ≤ f := hf0
  have hfx := HX.out.lt
  go_wp2_with fail
  refine (ups_ok w2 m t _ l (by omega) (HO.out.below HZ1.out) hg ht).mono ?_
  rintro e w3 ⟨u, vs, rfl, hT, hb3⟩
  have HZ1' := Lib.hid (Below.two HZ1.out hb3)
  have HX' := Lib.hid (HX.out.keep hb3)
  have HZZ' := Lib.hid (Below.two HZZ.out hb3)
  have HT := Lib.hid (hT)
  clear hb3 HZZ HZ1 HX
  have HZZ := HZZ'
  clear HZZ'
  have HZ1 := HZ1'
  clear HZ1'
  have HX := HX'
  clear HX'
  clear hT
  go_wp2_with fail
  refine (lone_any w3).mono ?_
  rintro e w4 ⟨g1, rfl, h1, hb4⟩
  have HZ1' := Lib.hid (Below.two HZ1.out hb4)
  have HX' := Lib.hid (HX.out.keep hb4)
  have HT' := Lib.hid (HT.out.keep hb4)
  have HZZ' := Lib.hid (Below.two HZZ.out hb4)
  clear hb4 HZZ HZ1 HX HT
  have HZZ := HZZ'
  clear HZZ'
  have HZ1 := HZ1'
  clear HZ1'
  have HX := HX'
  clear HX'
  have HT := HT'
  clear HT'
  go_wp2_with fail
  refine (one_of w4 _ h1).mono ?_
  rintro e w5 ⟨f0, rfl, o1, hb5⟩
  have HZ1' := Lib.hid (Below.two HZ1.out hb5)
  have HX' := Lib.hid (HX.out.keep hb5)
  have HT' := Lib.hid (HT.out.keep hb5)
  have HZZ' := Lib.hid (Below.two HZZ.out hb5)
  clear hb5 HZZ HZ1 HX HT
  have HZZ := HZZ'
  clear HZZ'
  have HZ1 := HZ1'
  clear HZ1'
  have HX := HX'
  clear HX'
  have HT := HT'
  clear HT'
  clear h1
  have HW := Lib.hid (Nat.le_trans hf1 (Nat.le_of_lt hfx))
  go_wp2_with fail
  refine (spoil_bare w5 _ m x (by omega) HX.out.bare).mono ?_
  rintro e y1 ⟨rfl, hs1⟩
  clear o1
  have hbu := HT.out.hb
  have hul := HT.out.lt
  have hpast : ∀ i, i < m → ∀ g, (vs i).ownBlock = some g → w2.heap.size ≤ g := fun i hi g hg => (HT.out.o i hi).past g hg
  have hne1 : ∀ g, (Value.slice (some ⟨f, 0, none⟩) m m).ownBlock = some g → g = f := fun g h => (Option.some.inj h).symm
  have sp1 : ∀ a : Addr, a.block ≠ f → (Value.slice (some ⟨f, 0, none⟩) m m).ownBlock ≠ some a.block := fun a ha e => ha (hne1 _ e)
  have RU : Hid (∀ i, i < m → y1.cell? ⟨u, i, none⟩ = some (vs i) ∧ ArgI y1 (vs i) (SpfP.ups m (BellP.ct l) t i) ∧ Bare y1 (vs i) (SpfP.ups m (BellP.ct l) t i).length) := Lib.hid fun i hi => by
    have hnv : ∀ g, (vs i).ownBlock = some g → (Value.slice (some ⟨f, 0, none⟩) m m).ownBlock ≠ some g := fun g h e => by
      have := hpast i hi g h
      have := hne1 g e
      omega
    exact ⟨(hs1.cell ⟨u, i, none⟩ (sp1 _ (by show u ≠ f; omega))).trans (HT.out.c i hi), arg_spared (HT.out.o i hi).arg hs1 hnv, (HT.out.o i hi).bare.spared hs1 hnv⟩
  have HP := Lib.hid hpast
  have HNU := Lib.hid (fun i (hi : i < m) => HT.out.nu i hi)
  have HAP := Lib.hid (fun i j (hi : i < m) (hj : j < m) => HT.out.ap i j hi hj)
  have b5 : Below w.heap.size w5 y1 := hs1.below _ HZZ.out.size fun g h => by
    have := hne1 g h; have := HZZ.out.size; have := HW.out; omega
  have b6 : Below w1.heap.size w5 y1 := hs1.below _ HZ1.out.size fun g h => by
    have := hne1 g h; omega
  have HZZ2 := Lib.hid (HZZ.out.trans b5)
  have HZ12 := Lib.hid (HZ1.out.trans b6)
  have hsz1 := hs1.size
  clear hs1 hne1 sp1 hpast b5 b6 HZZ HZ1 HX HT
  have HZZ := HZZ2
  have HZ1 := HZ12
  clear HZZ2 HZ12
  have cr := (RU.out r hrm).1
  obtain ⟨pr, kr, hvr, _⟩ := (RU.out r hrm).2.1
  have HVR := Lib.hid hvr
  rw [hvr] at cr
  go_wp2_with fail
  have HSB := spoil_bare y1 (vs r) _ x (by have := HLe.out r; show (SpfP.upsTo m (BellP.ct l) t r m).length < _; omega) (RU.out r hrm).2.2
  rw [hvr] at HSB
  refine HSB.mono ?_
  rintro e y2 ⟨rfl, hs2⟩
  rw [← hvr] at hs2
  clear HSB cr
  have RV : Hid (∀ i, i + 1 < m → y2.cell? ⟨u, i, none⟩ = some (vs i) ∧ ArgI y2 (vs i) (SpfP.ups m (BellP.ct l) t i)) := Lib.hid fun i hi =>
    ⟨(hs2.cell ⟨u, i, none⟩ (HNU.out r hrm)).trans (RU.out i (by omega)).1, arg_spared (RU.out i (by omega)).2.1 hs2 fun g h => HAP.out i r (by omega) hrm (by omega) g h⟩
  have b5 : Below w.heap.size y1 y2 := hs2.below _ HZZ.out.size fun g h => by
    have := HP.out r hrm g h
    omega
  have b6 : Below w1.heap.size y1 y2 := hs2.below _ HZ1.out.size fun g h => by
    have := HP.out r hrm g h
    omega
  have HZZ2 := Lib.hid (HZZ.out.trans b5)
  have HZ12 := Lib.hid (HZ1.out.trans b6)
  have hu2 : u < y2.heap.size := by rw [hs2.size, hsz1]; exact hul
  clear hs2 hvr b5 b6 HZZ HZ1 RU
  have HZZ := HZZ2
  have HZ1 := HZ12
  clear HZZ2 HZ12
  have HZ2 := Lib.hid (Below.refl y2.heap.size y2)
  go_wp2_with fail
  refine (ups_ok y2 m t v l (by omega) (HL.out.below HZZ.out) hg ht).mono ?_
  rintro e w21 ⟨u2, vs2, rfl, hT, hb21⟩
  have HZ1' := Lib.hid (Below.two HZ1.out hb21)
  have HZ2' := Lib.hid (Below.two HZ2.out hb21)
  have HZZ' := Lib.hid (Below.two HZZ.out hb21)
  have HT2 := Lib.hid (hT)
  clear hb21 HZZ HZ1 HZ2
  have HZZ := HZZ'
  clear HZZ'
  have HZ1 := HZ1'
  clear HZ1'
  have HZ2 := HZ2'
  clear HZ2'
  clear hT
  go_wp2_with fail
  refine (links_same w21 _ _ l (by omega) (HO.out.below HZ1.out) (HL.out.below HZZ.out)).mono ?_
  rintro e w22 ⟨rfl, hb22⟩
  have HZ1' := Lib.hid (Below.two HZ1.out hb22)
  have HZ2' := Lib.hid (Below.two HZ2.out hb22)
  have HT2' := Lib.hid (HT2.out.keep hb22)
  have HZZ' := Lib.hid (Below.two HZZ.out hb22)
  clear hb22 HZZ HZ1 HZ2 HT2
  have HZZ := HZZ'
  clear HZZ'
  have HZ1 := HZ1'
  clear HZ1'
  have HZ2 := HZ2'
  clear HZ2'
  have HT2 := HT2'
  clear HT2'
  go_wp2_with fail
  refine (HTo.out _ (HE.out.below HZZ.out)).mono ?_
  rintro e w23 ⟨rfl, hb23⟩
  have HZ1' := Lib.hid (Below.two HZ1.out hb23)
  have HZ2' := Lib.hid (Below.two HZ2.out hb23)
  have HT2' := Lib.hid (HT2.out.keep hb23)
  have HZZ' := Lib.hid (Below.two HZZ.out hb23)
  clear hb23 HZZ HZ1 HZ2 HT2
  have HZZ := HZZ'
  clear HZZ'
  have HZ1 := HZ1'
  clear HZ1'
  have HZ2 := HZ2'
  clear HZ2'
  have HT2 := HT2'
  clear HT2'
  go_wp2_with fail
  refine (HTo.out _ (HE.out.below HZZ.out)).mono ?_
  rintro e w24 ⟨rfl, hb24⟩
  have HZ1' := Lib.hid (Below.two HZ1.out hb24)
  have HZ2' := Lib.hid (Below.two HZ2.out hb24)
  have HT2' := Lib.hid (HT2.out.keep hb24)
  have HZZ' := Lib.hid (Below.two HZZ.out hb24)
  clear hb24 HZZ HZ1 HZ2 HT2
  have HZZ := HZZ'
  clear HZZ'
  have HZ1 := HZ1'
  clear HZ1'
  have HZ2 := HZ2'
  clear HZ2'
  have HT2 := HT2'
  clear HT2'
  go_wp2_with fail
  clear m0 m1
  go_loopw [21] (fun y wr => ∃ i : Nat, y = .int .i64 i ∧ i + 1 ≤ m ∧ Hid (Below w24.heap.size w24 wr)) (fun y _ => m - (RowKit.intOf y).toNat)
  case atStart => exact ⟨0, rfl, by omega, Lib.hid (Below.refl _ _)⟩
  case round =>
    obtain ⟨i, rfl, him, HB⟩ := hrel
    by_cases hi : i + 1 < m
    · have t1 : (i : Int) + 1 < (m : Int) := by omega
      have hi2 : i < m := by omega
      have H2 := Below.two HZ2.out HB.out
      have c1 := (H2.cell (p := ⟨u, i, none⟩) hu2).trans (RV.out i hi).1
      have a1 := (RV.out i hi).2.below H2
      have HTr := HT2.out.keep HB.out
      have c2 := HTr.c i (by omega)
      have a2 := (HTr.o i (by omega)).arg
      obtain ⟨p1, k1, hv1, _⟩ := id a1
      obtain ⟨p2, k2, hv2, _⟩ := id a2
      rw [hv1] at c1 a1
      rw [hv2] at c2 a2
      have HS := sameInts_any wr.drew _ _ _ _ (by have := HLe.out i; show (SpfP.upsTo m (BellP.ct l) t i m).length < _; omega) (a1.below (Below.refl _ _).drew) (a2.below (Below.refl _ _).drew)
      rw [decide_eq_true rfl] at HS
      have HS := Lib.hid HS
      clear H2 HTr a1 a2 hv1 hv2
      go_wp2_with fail
      go_still_tail 8, (by kernel_rfl)
      change wpList _ _ _ _ _ wr.drew
      have HBd := Lib.hid HB.out.drew
      clear c1 c2
      generalize wr.drew = wd at HS HBd ⊢
      go_wp2_with fail
      refine HS.out.mono ?_
      rintro e we ⟨rfl, hbe⟩
      have HBe := Lib.hid (Below.two HBd.out hbe)
      clear hbe HS HBd
      go_wp2_with fail
      go_roundw
      case rel => exact ⟨i + 1, by go_num, by omega, HBe⟩
      case measure => simp [RowKit.intOf]; omega
    · have t1 : ¬ (i : Int) + 1 < (m : Int) := by omega
      go_wp2_with fail
      go_ret
      exact ⟨rfl, Below.two HZZ.out HB.out⟩
theorem spfOwn_walk (w : World) (n fr x : Int) (v : Value) (l : List Lk) (hn : l.length * 24 ≤ 140737488355328) (h : ArgK w v l) (he : ErrType w) :
    Calls Tryd.prog 4 #[.int .i64 n, v, .int .i64 fr, .int .i64 x] w fun e w' => e = .returned (.bool true) ∧ Below w.heap.size w w' := by
  by_cases h1 : spfBad n l fr = 0
  · obtain ⟨m, t, rfl, rfl, _, _, ht, hg, _⟩ := spf_nat h1
    exact own_b w m t x v l hn h he hg ht
  · exact own_a w n fr x v l hn h he h1
end Go.Proofs.YtjgmehmhhplkaaaDoor
