/-
  The law GraphOwn at every argument: it tells true; what lay in memory stays. Condition: the library's variable errors.errorType is as its text lays it.
-/
import Derived.Test.YtioackidihalfaaDoorGraphLinked
import Derived.Test.YtioackidihalfaaDoorGraphCut
import Derived.Test.YtioackidihalfaaDoorRefCosts
import Derived.Test.YtioackidihalfaaDoorSameLinks
import Derived.Test.YtioackidihalfaaDoorLinkCopy
import Derived.Test.YtioackidihalfaaDoorErrTwo
namespace Go.Proofs.YtioackidihalfaaDoor
open Go.RowKit Go.Lib

theorem toldIs (k : Int) (w : World) (hg : ErrType w) : Calls Tryd.prog 18 #[errV k, errV k] w fun r w' => r = .returned (.bool true) ∧ Below w.heap.size w w' := by
  have := sameTold_any k k w hg
  rwa [beq_self_eq_true] at this
theorem toldIs0 (w : World) (hg : ErrType w) : Calls Tryd.prog 18 #[.nilIface, .nilIface] w fun r w' => r = .returned (.bool true) ∧ Below w.heap.size w w' := toldIs 0 w hg
theorem toldIs2 (w : World) (hg : ErrType w) : Calls Tryd.prog 18 #[.iface 24 (.int .i64 2), .iface 24 (.int .i64 2)] w fun r w' => r = .returned (.bool true) ∧ Below w.heap.size w w' := toldIs 2 w hg

set_option maxHeartbeats 2000000 in
set_option maxRecDepth 100000 in
theorem own_bad (w : World) (n a b x : Int) (v : Value) (l : List Lk) (hn : l.length * 24 ≤ 140737488355328) (h : ArgK w v l) (hE : ErrType w) (hg : gBad n l ≠ 0) :
    Calls Tryd.prog 4 #[.int .i64 n, v, .int .i64 a, .int .i64 b, .int .i64 x] w fun e w' => e = .returned (.bool true) ∧ Below w.heap.size w w' := by
  have HK := Lib.hid h
  have HT := Lib.hid hE
  have hEV : errV (gBad n l) = .iface 24 (.int .i64 (gBad n l)) := if_neg hg
  have H1 := Lib.hid (fun w1 v1 (hb : ArgK w1 v1 l) => costs_bad w1 n v1 l (by omega) hb hg)
  have H3 := Lib.hid (fun w1 v1 (hb : ArgK w1 v1 l) => cut_bad w1 n a b v1 l (by omega) hb hg)
  have HEr := Lib.hid (fun w1 (hb : ErrType w1) => toldIs (gBad n l) w1 hb)
  rw [hEV] at H1 H3 HEr
  clear h hE hEV
  generalize gBad n l = q at H1 H3 HEr hg
  have BA := (Below.refl w.heap.size w).alloc (Nat.le_refl _) (.cells #[] 46)
  have HA := Lib.hid (HK.out.below BA)
  have HBA := Lib.hid BA; clear BA
  go_enter Tryd.func4, Tryd.ntmps4
  go_wp2_with (at_builtin; refine wpl_copyK rfl _ _ rfl w.heap.size _ _ l rfl rfl (World.ownsRow_made w #[] 0 (Nat.le_refl _) (Nat.zero_le _) (by simp)) HA.out hn (by simp) ?_; intro v1 w1 hO1 hb1)
  have HB1 := Lib.hid (HBA.out.trans hb1)
  have HO := Lib.hid hO1.arg
  obtain ⟨p1, c1, rfl⟩ := HO.out.form
  have HX : Hid (Below w1.heap.size w1 w1) := Lib.hid (Below.refl _ _)
  clear hO1 hb1 HA HBA
  go_wp2_with fail
  refine (H1.out w1 _ HO.out).mono ?_
  rintro e w2 ⟨rfl, hb2⟩
  have HO' := Lib.hid (HO.out.below hb2)
  have HX' := Lib.hid (Below.two HX.out hb2)
  clear hb2 HX HO
  have HX := HX'
  clear HX'
  have HO := HO'
  clear HO'
  go_wp2_with fail
  refine (H3.out w2 _ HO.out).mono ?_
  rintro e w3 ⟨rfl, hb3⟩
  have HO' := Lib.hid (HO.out.below hb3)
  have HX' := Lib.hid (Below.two HX.out hb3)
  clear hb3 HX HO
  have HX := HX'
  clear HX'
  have HO := HO'
  clear HO'
  go_wp2_with fail
  refine (costs_none w3 1 none 0 (by omega)).mono ?_
  rintro e w4 ⟨g0, _, rfl, _, hb4⟩
  have HO' := Lib.hid (HO.out.below hb4)
  have HX' := Lib.hid (Below.two HX.out hb4)
  clear hb4 HX HO
  have HX := HX'
  clear HX'
  have HO := HO'
  clear HO'
  go_wp2_with fail
  refine wp_loop_rounds 1 ?_
  rw [rounds_succ]
  go_wp2_with fail
  refine wp_loop_rounds 1 ?_
  rw [rounds_succ]
  have HS := sameLinks_any w4 _ _ l l (by omega) HO.out (HK.out.below (Below.two HB1.out HX.out))
  rw [decide_eq_true rfl] at HS
  have HS := Lib.hid HS
  go_wp2_with fail
  refine (HS.out).mono ?_
  rintro e w5 ⟨rfl, hb5⟩
  have HX' := Lib.hid (Below.two HX.out hb5)
  clear hb5 HX HO HS
  have HX := HX'
  clear HX'
  go_wp2_with fail
  refine (H1.out w5 _ (HK.out.below (Below.two HB1.out HX.out))).mono ?_
  rintro e w6 ⟨rfl, hb6⟩
  have HX' := Lib.hid (Below.two HX.out hb6)
  clear hb6 HX
  have HX := HX'
  clear HX'
  go_wp2_with fail
  refine (H3.out w6 _ (HK.out.below (Below.two HB1.out HX.out))).mono ?_
  rintro e w7 ⟨rfl, hb7⟩
  have HX' := Lib.hid (Below.two HX.out hb7)
  clear hb7 HX
  have HX := HX'
  clear HX'
  go_wp2_with fail
  refine (HEr.out w7 (HT.out.below (Below.two HB1.out HX.out))).mono ?_
  rintro e w8 ⟨rfl, hb8⟩
  have HX' := Lib.hid (Below.two HX.out hb8)
  clear hb8 HX
  have HX := HX'
  clear HX'
  go_wp2_with fail
  refine (HEr.out w8 (HT.out.below (Below.two HB1.out HX.out))).mono ?_
  rintro e w9 ⟨rfl, hb9⟩
  have HX' := Lib.hid (Below.two HX.out hb9)
  clear hb9 HX
  have HX := HX'
  clear HX'
  go_wp2_with fail
  go_ret
  exact ⟨rfl, Below.two HB1.out HX.out⟩
set_option maxHeartbeats 2000000 in
set_option maxRecDepth 100000 in
theorem own_no (w : World) (m : Nat) (a b x : Int) (v : Value) (l : List Lk) (hn : l.length * 24 ≤ 140737488355328) (h : ArgK w v l) (hE : ErrType w) (hg : gBad m l = 0) (hl : (less l a b).length = l.length) :
    Calls Tryd.prog 4 #[.int .i64 m, v, .int .i64 a, .int .i64 b, .int .i64 x] w fun e w' => e = .returned (.bool true) ∧ Below w.heap.size w w' := by
  have HK := Lib.hid h
  have HT := Lib.hid hE
  have HGB := Lib.hid hg
  have hm := ((gBad_zero _ _).1 hg).1
  clear hE hg
  obtain ⟨p, c, rfl⟩ := h.form
  clear h
  have BA := (Below.refl w.heap.size w).alloc (Nat.le_refl _) (.cells #[] 46)
  have HA := Lib.hid (HK.out.below BA)
  have HBA := Lib.hid BA; clear BA
  go_enter Tryd.func4, Tryd.ntmps4
  go_wp2_with (at_builtin; refine wpl_copyK rfl _ _ rfl w.heap.size _ _ l rfl rfl (World.ownsRow_made w #[] 0 (Nat.le_refl _) (Nat.zero_le _) (by simp)) HA.out hn (by simp) ?_; intro v1 w1 hO1 hb1)
  have HB1 := Lib.hid (HBA.out.trans hb1)
  have HO := Lib.hid hO1.arg
  obtain ⟨p1, c1, rfl⟩ := HO.out.form
  have HX : Hid (Below w1.heap.size w1 w1) := Lib.hid (Below.refl _ _)
  clear hO1 hb1 HA HBA
  have HO1 := HO
  go_wp2_with fail
  refine (costs_ok w1 m _ l (by omega) HO.out HGB.out).mono ?_
  rintro e w2 ⟨g1, hg1, rfl, hG, hb2⟩
  have HO' := Lib.hid (HO.out.below hb2)
  have HX' := Lib.hid (Below.two HX.out hb2)
  have HG := Lib.hid hG
  have HGL := Lib.hid hg1
  have HGS0 := Lib.hid hG.lt
  clear hb2 HX HO hG hg1
  have HX := HX'
  clear HX'
  have HO := HO'
  clear HO'
  go_wp2_with fail
  refine (cut_no w2 m a b _ l hn HO.out HGB.out hl).mono ?_
  rintro e w3 ⟨rfl, hb3⟩
  have HO' := Lib.hid (HO.out.below hb3)
  have HG' := Lib.hid (HG.out.keep hb3)
  have HX' := Lib.hid (Below.two HX.out hb3)
  clear hb3 HX HO HG
  have HX := HX'
  clear HX'
  have HO := HO'
  clear HO'
  have HG := HG'
  clear HG'
  go_wp2_with fail
  refine (costs_none w3 1 none 0 (by omega)).mono ?_
  rintro e w4 ⟨g0, _, rfl, _, hb4⟩
  have HO' := Lib.hid (HO.out.below hb4)
  have HG' := Lib.hid (HG.out.keep hb4)
  have HX' := Lib.hid (Below.two HX.out hb4)
  clear hb4 HX HO HG
  have HX := HX'
  clear HX'
  have HO := HO'
  clear HO'
  have HG := HG'
  clear HG'
  clear HO HGS0
  have HGX : Hid (∃ f, Grid w4 g1 m m f) := Lib.hid ⟨_, HG.out⟩
  clear HG
  go_wp2_with fail
  go_loopw [18] (fun y wr => ∃ (k : Nat), y = .int .i64 k ∧ k ≤ m ∧ Hid (Below w1.heap.size w1 wr) ∧ Hid (∃ f, Grid wr g1 m m f)) (fun y _ => m - (RowKit.intOf y).toNat)
  case atStart => exact ⟨0, rfl, Nat.zero_le _, HX, HGX⟩
  case round =>
    clear HX HGX
    obtain ⟨k, rfl, hk, hB, HG⟩ := hrel
    by_cases hkm : k < m
    · go_wp2_with fail
      go_loopw [19] (fun y wq => ∃ (j : Nat), y = .int .i64 j ∧ j ≤ m ∧ Hid (Below w1.heap.size w1 wq) ∧ Hid (∃ f, Grid wq g1 m m f)) (fun y _ => m - (RowKit.intOf y).toNat)
      case atStart => exact ⟨0, rfl, Nat.zero_le _, hB, HG⟩
      case round =>
        clear hB HG
        obtain ⟨j, rfl, hj, hB, HG⟩ := hrel
        obtain ⟨f, G⟩ := HG.out
        have o0 := G.o k hkm
        by_cases hjm : j < m
        · have e0 := G.e k hkm j hjm
          have z0 := G.fe k hkm j
          have HG1 := Lib.hid G
          clear G HG
          generalize f k j = y0 at e0
          go_wp2_with fail
          go_roundw
          case rel => exact ⟨j + 1, by go_num, by omega, Lib.hid (hB.out.setCell (p := ⟨g1 + 1 + k, j, none⟩) (show w1.heap.size ≤ g1 + 1 + k by have := HGL.out; omega) _), Lib.hid ⟨_, HG1.out.set k j hkm x⟩⟩
          case measure => simp [RowKit.intOf]; omega
        · clear G
          go_wp2_with fail
          go_roundw
          case rel => exact ⟨k + 1, by go_num, by omega, hB, HG⟩
          case measure => simp [RowKit.intOf]; omega
    · clear HG
      go_wp2_with fail
      refine wp_loop_rounds 1 ?_
      rw [rounds_succ]
      have HX := hB
      clear hB
      have HS := sameLinks_any wr _ _ l l (by omega) (HO1.out.below HX.out) (HK.out.below (Below.two HB1.out HX.out))
      rw [decide_eq_true rfl] at HS
      have HS := Lib.hid HS
      go_wp2_with fail
      refine (HS.out).mono ?_
      rintro e w6 ⟨rfl, hb6⟩
      have HX' := Lib.hid (Below.two HX.out hb6)
      clear hb6 HX HS
      have HX := HX'
      clear HX'
      go_wp2_with fail
      refine (costs_ok w6 m _ l (by omega) (HK.out.below (Below.two HB1.out HX.out)) HGB.out).mono ?_
      rintro e w7 ⟨g4, _, rfl, hG4, hb7⟩
      have HX' := Lib.hid (Below.two HX.out hb7)
      have HG4 := Lib.hid hG4.arg
      clear hb7 HX hG4
      have HX := HX'
      clear HX'
      go_wp2_with fail
      refine (cut_no w7 m a b _ l hn (HK.out.below (Below.two HB1.out HX.out)) HGB.out hl).mono ?_
      rintro e w8 ⟨rfl, hb8⟩
      have HG4' := Lib.hid (HG4.out.below hb8)
      have HX' := Lib.hid (Below.two HX.out hb8)
      clear hb8 HX HG4
      have HX := HX'
      clear HX'
      have HG4 := HG4'
      clear HG4'
      go_wp2_with fail
      refine (toldIs0 w8 (HT.out.below (Below.two HB1.out HX.out))).mono ?_
      rintro e w9 ⟨rfl, hb9⟩
      have HG4' := Lib.hid (HG4.out.below hb9)
      have HX' := Lib.hid (Below.two HX.out hb9)
      clear hb9 HX HG4
      have HX := HX'
      clear HX'
      have HG4 := HG4'
      clear HG4'
      go_wp2_with fail
      refine (toldIs2 w9 (HT.out.below (Below.two HB1.out HX.out))).mono ?_
      rintro e w10 ⟨rfl, hb10⟩
      have HG4' := Lib.hid (HG4.out.below hb10)
      have HX' := Lib.hid (Below.two HX.out hb10)
      clear hb10 HX HG4
      have HX := HX'
      clear HX'
      have HG4 := HG4'
      clear HG4'
      go_wp2_with fail
      refine (costsOf_any w10 m _ l (by omega) (by omega) (HK.out.below (Below.two HB1.out HX.out))).mono ?_
      rintro e w11 ⟨u11, rfl, hO11, hb11⟩
      have HG4' := Lib.hid (HG4.out.below hb11)
      have HX' := Lib.hid (Below.two HX.out hb11)
      have HU := Lib.hid hO11.arg
      clear hb11 HX HG4 hO11
      have HX := HX'
      clear HX'
      have HG4 := HG4'
      clear HG4'
      have HS := sameRows_any w11 _ _ _ _ (by rw [rowsF_len]; omega) (fun r hr => by rw [rowsF_row _ _ r hr]; omega) HG4.out HU.out
      rw [decide_eq_true rfl] at HS
      have HS := Lib.hid HS
      go_wp2_with fail
      refine (HS.out).mono ?_
      rintro e w12 ⟨rfl, hb12⟩
      have HX' := Lib.hid (Below.two HX.out hb12)
      clear hb12 HX HS HG4 HU
      have HX := HX'
      clear HX'
      go_wp2_with fail
      go_ret
      exact ⟨rfl, Below.two HB1.out HX.out⟩
set_option maxHeartbeats 2000000 in
set_option maxRecDepth 100000 in
theorem own_yes (w : World) (m : Nat) (a b x : Int) (v : Value) (l : List Lk) (hn : l.length * 24 ≤ 140737488355328) (h : ArgK w v l) (hE : ErrType w) (hg : gBad m l = 0) (hl : (less l a b).length ≠ l.length) :
    Calls Tryd.prog 4 #[.int .i64 m, v, .int .i64 a, .int .i64 b, .int .i64 x] w fun e w' => e = .returned (.bool true) ∧ Below w.heap.size w w' := by
  have HK := Lib.hid h
  have HT := Lib.hid hE
  have HGB := Lib.hid hg
  have hm := ((gBad_zero _ _).1 hg).1
  clear hE hg
  have HCut := Lib.hid (fun w1 v1 (hb : ArgK w1 v1 l) => cut_yes w1 m a b v1 l hn hb HGB.out hl)
  have hLL : (less l a b).length < 4611686018427387904 := Nat.lt_of_le_of_lt (List.length_filter_le _ l) (by omega)
  generalize (less l a b).length = L at HCut hLL
  obtain ⟨p, c, rfl⟩ := h.form
  clear h
  have BA := (Below.refl w.heap.size w).alloc (Nat.le_refl _) (.cells #[] 46)
  have HA := Lib.hid (HK.out.below BA)
  have HBA := Lib.hid BA; clear BA
  go_enter Tryd.func4, Tryd.ntmps4
  go_wp2_with (at_builtin; refine wpl_copyK rfl _ _ rfl w.heap.size _ _ l rfl rfl (World.ownsRow_made w #[] 0 (Nat.le_refl _) (Nat.zero_le _) (by simp)) HA.out hn (by simp) ?_; intro v1 w1 hO1 hb1)
  have HB1 := Lib.hid (HBA.out.trans hb1)
  have HO := Lib.hid hO1.arg
  obtain ⟨p1, c1, rfl⟩ := HO.out.form
  have HX : Hid (Below w1.heap.size w1 w1) := Lib.hid (Below.refl _ _)
  clear hO1 hb1 HA HBA
  have HO1 := HO
  go_wp2_with fail
  refine (costs_ok w1 m _ l (by omega) HO.out HGB.out).mono ?_
  rintro e w2 ⟨g1, hg1, rfl, hG, hb2⟩
  have HO' := Lib.hid (HO.out.below hb2)
  have HX' := Lib.hid (Below.two HX.out hb2)
  have HG := Lib.hid hG
  have HGL := Lib.hid hg1
  have HGS0 := Lib.hid hG.lt
  clear hb2 HX HO hG hg1
  have HX := HX'
  clear HX'
  have HO := HO'
  clear HO'
  go_wp2_with fail
  refine (HCut.out w2 _ HO.out).mono ?_
  rintro e w3 ⟨g3, cap, hg3, rfl, hR, hb3⟩
  have HO' := Lib.hid (HO.out.below hb3)
  have HG' := Lib.hid (HG.out.keep hb3)
  have HX' := Lib.hid (Below.two HX.out hb3)
  have HR := Lib.hid (hR.congr (Nat.le_refl _) (fun _ _ => rfl))
  have HGS : Hid (g1 + m < g3) := Lib.hid (Nat.lt_of_lt_of_le HGS0.out hg3)
  have HGL3 : Hid (w1.heap.size ≤ g3) := Lib.hid (by have := HGS.out; have := HGL.out; omega)
  clear hb3 HX HO HG hR hg3
  have HX := HX'
  clear HX'
  have HO := HO'
  clear HO'
  have HG := HG'
  clear HG'
  go_wp2_with fail
  refine (costs_none w3 1 none 0 (by omega)).mono ?_
  rintro e w4 ⟨g0, _, rfl, _, hb4⟩
  have HO' := Lib.hid (HO.out.below hb4)
  have HG' := Lib.hid (HG.out.keep hb4)
  have HR' := Lib.hid (HR.out.keep hb4)
  have HX' := Lib.hid (Below.two HX.out hb4)
  clear hb4 HX HO HG HR
  have HX := HX'
  clear HX'
  have HO := HO'
  clear HO'
  have HG := HG'
  clear HG'
  have HR := HR'
  clear HR'
  clear HO HGS0
  have HGX : Hid (∃ f, Grid w4 g1 m m f) := Lib.hid ⟨_, HG.out⟩
  clear HG
  have HRX : Hid (∃ f, RowF w4 g3 L f) := Lib.hid ⟨_, HR.out⟩
  clear HR
  go_wp2_with fail
  go_loopw [18] (fun y wr => ∃ (k : Nat), y = .int .i64 k ∧ k ≤ m ∧ Hid (Below w1.heap.size w1 wr) ∧ Hid (∃ f, Grid wr g1 m m f) ∧ Hid (∃ f, RowF wr g3 L f)) (fun y _ => m - (RowKit.intOf y).toNat)
  case atStart => exact ⟨0, rfl, Nat.zero_le _, HX, HGX, HRX⟩
  case round =>
    clear HX HGX HRX
    obtain ⟨k, rfl, hk, hB, HG, HR⟩ := hrel
    by_cases hkm : k < m
    · go_wp2_with fail
      go_loopw [19] (fun y wq => ∃ (j : Nat), y = .int .i64 j ∧ j ≤ m ∧ Hid (Below w1.heap.size w1 wq) ∧ Hid (∃ f, Grid wq g1 m m f) ∧ Hid (∃ f, RowF wq g3 L f)) (fun y _ => m - (RowKit.intOf y).toNat)
      case atStart => exact ⟨0, rfl, Nat.zero_le _, hB, HG, HR⟩
      case round =>
        clear hB HG HR
        obtain ⟨j, rfl, hj, hB, HG, HR⟩ := hrel
        obtain ⟨f, G⟩ := HG.out
        obtain ⟨f3, R⟩ := HR.out
        have o0 := G.o k hkm
        by_cases hjm : j < m
        · have e0 := G.e k hkm j hjm
          have z0 := G.fe k hkm j
          have HG1 := Lib.hid G
          clear G HG
          generalize f k j = y0 at e0
          go_wp2_with fail
          go_roundw
          case rel => exact ⟨j + 1, by go_num, by omega, Lib.hid (hB.out.setCell (p := ⟨g1 + 1 + k, j, none⟩) (show w1.heap.size ≤ g1 + 1 + k by have := HGL.out; omega) _), Lib.hid ⟨_, HG1.out.set k j hkm x⟩, Lib.hid ⟨_, R.other (show g3 ≠ g1 + 1 + k by have := HGS.out; omega) j _⟩⟩
          case measure => simp [RowKit.intOf]; omega
        · clear G
          go_wp2_with fail
          go_roundw
          case rel => exact ⟨k + 1, by go_num, by omega, hB, HG, HR⟩
          case measure => simp [RowKit.intOf]; omega
    · clear HG
      obtain ⟨w5, HW5⟩ : ∃ w5, Hid (w5 = wr) := ⟨wr, Lib.hid rfl⟩
      go_wp2_with fail
      go_loopw [20] (fun y wq => ∃ (j : Nat), y = .int .i64 j ∧ j ≤ L ∧ Hid (Below w1.heap.size w1 wq) ∧ Hid (∃ f, RowF wq g3 L f)) (fun y _ => L - (RowKit.intOf y).toNat)
      case atStart => exact ⟨0, rfl, Nat.zero_le _, hB, HR⟩
      case round =>
        clear hB HR HW5
        obtain ⟨j, rfl, hj, hB, HR⟩ := hrel
        obtain ⟨f, R⟩ := HR.out
        by_cases hjl : j < L
        · have e0 := R.c2 j hjl
          have z0 := R.fz (j * 3 + 2)
          have HR1 := Lib.hid R
          clear R HR
          generalize (f j).2.2 = y0 at e0
          have i1 : (j : Int) < (L : Int) := by omega
          go_wp2_with fail
          go_roundw
          case rel => exact ⟨j + 1, by go_num, by omega, Lib.hid (hB.out.setCell (p := ⟨g3, j * 3 + 2, none⟩) (show w1.heap.size ≤ g3 by have := HGL3.out; omega) _), Lib.hid ⟨_, HR1.out.cost j x⟩⟩
          case measure => simp [RowKit.intOf]; omega
        · clear R HR
          have HX := hB
          clear hB
          have HS := sameLinks_any wr _ _ l l (by omega) (HO1.out.below HX.out) (HK.out.below (Below.two HB1.out HX.out))
          rw [decide_eq_true rfl] at HS
          have HS := Lib.hid HS
          go_wp2_with fail
          refine (HS.out).mono ?_
          rintro e w6 ⟨rfl, hb6⟩
          have HX' := Lib.hid (Below.two HX.out hb6)
          clear hb6 HX HS
          have HX := HX'
          clear HX'
          go_wp2_with fail
          refine (costs_ok w6 m _ l (by omega) (HK.out.below (Below.two HB1.out HX.out)) HGB.out).mono ?_
          rintro e w7 ⟨g4, _, rfl, hG4, hb7⟩
          have HX' := Lib.hid (Below.two HX.out hb7)
          have HG4 := Lib.hid hG4.arg
          clear hb7 HX hG4
          have HX := HX'
          clear HX'
          go_wp2_with fail
          refine (HCut.out w7 _ (HK.out.below (Below.two HB1.out HX.out))).mono ?_
          rintro e w8 ⟨g5, cap5, _, rfl, _, hb8⟩
          have HG4' := Lib.hid (HG4.out.below hb8)
          have HX' := Lib.hid (Below.two HX.out hb8)
          clear hb8 HX HG4
          have HX := HX'
          clear HX'
          have HG4 := HG4'
          clear HG4'
          go_wp2_with fail
          refine (toldIs0 w8 (HT.out.below (Below.two HB1.out HX.out))).mono ?_
          rintro e w9 ⟨rfl, hb9⟩
          have HG4' := Lib.hid (HG4.out.below hb9)
          have HX' := Lib.hid (Below.two HX.out hb9)
          clear hb9 HX HG4
          have HX := HX'
          clear HX'
          have HG4 := HG4'
          clear HG4'
          go_wp2_with fail
          refine (toldIs0 w9 (HT.out.below (Below.two HB1.out HX.out))).mono ?_
          rintro e w10 ⟨rfl, hb10⟩
          have HG4' := Lib.hid (HG4.out.below hb10)
          have HX' := Lib.hid (Below.two HX.out hb10)
          clear hb10 HX HG4
          have HX := HX'
          clear HX'
          have HG4 := HG4'
          clear HG4'
          go_wp2_with fail
          refine (costsOf_any w10 m _ l (by omega) (by omega) (HK.out.below (Below.two HB1.out HX.out))).mono ?_
          rintro e w11 ⟨u11, rfl, hO11, hb11⟩
          have HG4' := Lib.hid (HG4.out.below hb11)
          have HX' := Lib.hid (Below.two HX.out hb11)
          have HU := Lib.hid hO11.arg
          clear hb11 HX HG4 hO11
          have HX := HX'
          clear HX'
          have HG4 := HG4'
          clear HG4'
          have HS := sameRows_any w11 _ _ _ _ (by rw [rowsF_len]; omega) (fun r hr => by rw [rowsF_row _ _ r hr]; omega) HG4.out HU.out
          rw [decide_eq_true rfl] at HS
          have HS := Lib.hid HS
          go_wp2_with fail
          refine (HS.out).mono ?_
          rintro e w12 ⟨rfl, hb12⟩
          have HX' := Lib.hid (Below.two HX.out hb12)
          clear hb12 HX HS HG4 HU
          have HX := HX'
          clear HX'
          go_wp2_with fail
          go_ret
          exact ⟨rfl, Below.two HB1.out HX.out⟩
/-- GraphOwn at every argument. -/
theorem graphOwn_walk (w : World) (n : Int) (v : Value) (a b x : Int) (l : List Lk) (hn : l.length * 24 ≤ 140737488355328) (h : ArgK w v l) (hE : ErrType w) :
    Calls Tryd.prog 4 #[.int .i64 n, v, .int .i64 a, .int .i64 b, .int .i64 x] w fun e w' => e = .returned (.bool true) ∧ Below w.heap.size w w' := by
  by_cases hg : gBad n l = 0
  · have h8 := ((gBad_zero _ _).1 hg).1
    have hm : n = ((n.toNat : Nat) : Int) := by omega
    rw [hm] at hg ⊢
    by_cases hl : (less l a b).length = l.length
    · exact own_no w n.toNat a b x v l hn h hE hg hl
    · exact own_yes w n.toNat a b x v l hn h hE hg hl
  · exact own_bad w n a b x v l hn h hE hg
end Go.Proofs.YtioackidihalfaaDoor
