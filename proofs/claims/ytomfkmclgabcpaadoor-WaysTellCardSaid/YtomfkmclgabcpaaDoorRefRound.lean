/-
  The document's Repeat, StartOf, RoundOf and FarOf at right nodes, links and estimates; what lay in memory stays.
-/
import Derived.Test.YtomfkmclgabcpaaDoorBellPlain
import Derived.Test.YtomfkmclgabcpaaDoorRefCost
import Derived.Test.YtomfkmclgabcpaaDoorRefPlus
import Derived.Test.YtomfkmclgabcpaaDoorDrewN
import Derived.Test.YtomfkmclgabcpaaDoorVec
import Derived.Deep.QuietTactic
import Derived.BigQuiet
namespace Go.Proofs.YtomfkmclgabcpaaDoor
open Go.RowKit Go.Lib

theorem Vec.argC {w : World} {g n : Nat} {d : Nat → Int} (h : Vec w g n d) (c : Nat) : ArgI w (.slice (some ⟨g, 0, none⟩) n c) ((List.range n).map d) :=
  ⟨_, c, by simp, Or.inr ⟨g, 0, rfl, h.lt, h.seen⟩⟩
/-- A list that the call owns, of at least one number, lies in a block of its own. -/
theorem OwnI.vec {w : World} {base n : Nat} {v : Value} {d : Nat → Int} (h : OwnI w base v (rowTo n d)) (hn : 1 ≤ n) : ∃ g c, v = .slice (some ⟨g, 0, none⟩) n c ∧ base ≤ g ∧ Vec w g n d := by
  have ha := h.arg
  obtain ⟨_, ⟨hv, h0⟩ | ⟨g, cap, cur, hv, hb, hg, _⟩⟩ := h
  · rw [rowTo_len] at h0; omega
  · rw [rowTo_len] at hv
    obtain ⟨p, c, hv2, h2⟩ := ha
    rw [rowTo_len] at hv2
    rw [hv] at hv2
    rcases h2 with h2 | ⟨b, off, hp, hlt, hs⟩
    · have := congrArg List.length h2; rw [rowTo_len] at this; simp at this; omega
    · subst hp
      simp only [Value.slice.injEq, Option.some.injEq, Addr.mk.injEq, and_true, true_and] at hv2
      obtain ⟨⟨rfl, rfl⟩, rfl⟩ := hv2
      refine ⟨g, cap, hv, hb, hlt, fun i hi => ?_, fun i => frozen_of_row w g i cur _ hg⟩
      have := hs i (by rw [rowTo_len]; exact hi)
      rw [Nat.zero_add] at this
      rw [this, getElem!_pos _ i (by rw [rowTo_len]; exact hi)]
      simp [rowTo]

set_option maxHeartbeats 1000000 in
set_option maxRecDepth 100000 in
/-- waywardenref1.Repeat. -/
theorem refRepeat_any (w : World) (x : Int) (n : Nat) (h8 : n ≤ 8) :
    Calls Tryd.prog 28 #[.int .i64 x, .int .i64 n] w fun e w' => ∃ u, e = .returned u ∧ OwnI w' w.heap.size u (rowTo n (fun _ => x)) ∧ Below w.heap.size w w' := by
  go_enter Tryd.func28, Tryd.ntmps28
  go_wp2_with fail
  go_loopw [5, 6] (fun u v wr => ∃ (k : Nat), v = .int .i64 k ∧ k ≤ n ∧ Hid (Below w.heap.size w wr) ∧ Hid (OwnI wr w.heap.size u (rowTo k (fun _ => x)))) (fun _ v _ => n - (RowKit.intOf v).toNat)
  case atStart => exact ⟨0, rfl, Nat.zero_le _, Lib.hid (Below.refl _ _), Lib.hid (OwnI.nil _ _)⟩
  case round =>
    obtain ⟨k, rfl, hk, HB, HO⟩ := hrel
    by_cases hkn : k < n
    · have HLen := Lib.hid (rowTo_len k (fun _ => x))
      have HM : Hid (rowTo (k + 1) (fun _ => x) = rowTo k (fun _ => x) ++ [x]) := Lib.hid (rowTo_more k _)
      have HK2 := Lib.hid (HO.out.keep ((Below.refl wr.heap.size wr).alloc (Nat.le_refl _) (.cells #[.int .i64 x] 3)))
      go_wp2_with (at_builtin; refine wpl_append_oneI rfl _ _ rfl w.heap.size _ (rowTo k (fun _ => x)) x wr.heap.size 1 rfl rfl HK2.out (by simp) (by rw [HLen.out]; omega) (Nat.le_trans HB.out.size (by simp)) ?_; intro v' w3 hO3 hg3 _)
      go_roundw
      case rel => exact ⟨k + 1, by go_num, by omega, Lib.hid ((HB.out.alloc HB.out.size _).grown hg3 (Nat.le_trans HB.out.size (by simp)) HO.out.past), Lib.hid (by rw [HM.out]; exact hO3)⟩
      case measure => simp [RowKit.intOf]; omega
    · obtain rfl : k = n := by omega
      go_wp2_with fail
      go_ret
      exact ⟨_, rfl, HO.out, HB.out⟩

set_option maxHeartbeats 1000000 in
set_option maxRecDepth 100000 in
/-- waywardenref1.StartOf. -/
theorem startOf_any (w : World) (m t : Nat) (h8 : m ≤ 8) (ht : t < m) :
    Calls Tryd.prog 20 #[.int .i64 m, .int .i64 t] w fun e w' => ∃ g c, w.heap.size ≤ g ∧ e = .returned (.slice (some ⟨g, 0, none⟩) m c) ∧ Vec w' g m (fun i => (BellP.st t i : Int)) ∧ Below w.heap.size w w' := by
  have HR := Lib.hid (refRepeat_any w 16 m h8)
  go_enter Tryd.func20, Tryd.ntmps20
  go_wp2_with fail
  refine HR.out.mono ?_
  rintro e w1 ⟨u, rfl, hO, hb⟩
  obtain ⟨g, c, rfl, hg, hV⟩ := hO.vec (by omega)
  have c0 := hV.c t ht
  have f0 := hV.f t
  have HV := Lib.hid hV; have HB := Lib.hid hb; have HS := Lib.hid hg
  clear hV hb hg hO HR
  go_wp2_with fail
  go_ret
  refine ⟨g, c, HS.out, rfl, (HV.out.set t 0).congr fun i _ => ?_, HB.out.setCell (p := ⟨g, t, none⟩) HS.out _⟩
  unfold BellP.st
  by_cases e : i = t
  · rw [if_pos e, if_pos e]; rfl
  · rw [if_neg e, if_neg e]; rfl

theorem est_far (C : MatP.T) (i : Nat) (d : Nat → Nat) (k : Nat) (h : k ≠ i) (hc : C i k = 16) : BellP.est C i d (k + 1) = BellP.est C i d k := by
  have := BellP.est_bd C i d k
  rw [BellP.est_other C i d k h, hc, MatP.least_eq, MatP.add_eq]; omega

set_option maxHeartbeats 2000000 in
set_option maxRecDepth 100000 in
/-- waywardenref1.RoundOf. -/
theorem roundOf_any (w : World) (m t : Nat) (v : Value) (l : List Lk) (bd od cd : Nat) (d : Nat → Nat) (hm : m ≤ 8) (hm1 : 1 ≤ m) (hn : l.length < 4611686018427387904) (hr : Right m l) (h : ArgK w v l) (hd : ∀ j, d j ≤ 16) (hbd : bd < w.heap.size) (hv : ∀ j, j < m → w.cell? ⟨bd, od + j, none⟩ = some (.int .i64 (d j : Int))) :
    Calls Tryd.prog 21 #[.int .i64 m, v, .int .i64 t, .slice (some ⟨bd, od, none⟩) m cd] w fun e w' => ∃ g c, w.heap.size ≤ g ∧ e = .returned (.slice (some ⟨g, 0, none⟩) m c) ∧ Vec w' g m (fun i => (BellP.rd m (BellP.ct l) t d i : Int)) ∧ Below w.heap.size w w' := by
  have HL := Lib.hid h; have HV := Lib.hid hv; have HD := Lib.hid hd
  have HCt := Lib.hid (BellP.ct_cost hr).bd
  have HI := Lib.hid (fun i j => BellP.ct_int hr i j)
  have HC := Lib.hid (fun (w : World) (x y : Int) (h : ArgK w v l) => costOf_any w v l x y hn h)
  have HP := Lib.hid (fun (w : World) (a b : Nat) (ha : a ≤ 16) (hb : b ≤ 16) => refPlus_any a b ha hb w)
  clear h hv hd hr
  go_enter Tryd.func21, Tryd.ntmps21
  go_wp2_with fail
  go_loopw [9, 10] (fun u x wr => ∃ (i : Nat), x = .int .i64 i ∧ i ≤ m ∧ Hid (Below w.heap.size w wr) ∧ Hid (OwnI wr w.heap.size u (BellP.vec i (BellP.rd m (BellP.ct l) t d)))) (fun _ x _ => m - (RowKit.intOf x).toNat)
  case atStart => exact ⟨0, rfl, Nat.zero_le _, Lib.hid (Below.refl _ _), Lib.hid (OwnI.nil _ _)⟩
  case round =>
    obtain ⟨i, rfl, hi, HB, HO⟩ := hrel
    by_cases him : i < m
    · obtain ⟨w0, HW0⟩ : ∃ w0, Hid (w0 = wr) := ⟨wr, Lib.hid rfl⟩
      have HB0 : Hid (Below w.heap.size w w0) := Lib.hid (by rw [HW0.out]; exact HB.out)
      have HO0 := Lib.hid (show OwnI w0 w.heap.size _ _ by rw [HW0.out]; exact HO.out)
      have HS0 : Hid (Below w0.heap.size w0 wr) := Lib.hid (by rw [HW0.out]; exact Below.refl _ _)
      clear HW0 HB HO
      go_wp2_with fail
      go_loopw [11, 12] (fun z x wq => ∃ (k : Nat), x = .int .i64 k ∧ k ≤ m ∧ z = .int .i64 (BellP.est (BellP.ct l) i d k : Int) ∧ Hid (Below w0.heap.size w0 wq)) (fun _ x _ => m - (RowKit.intOf x).toNat)
      case atStart => exact ⟨0, rfl, Nat.zero_le _, rfl, HS0⟩
      case round =>
        clear HS0
        obtain ⟨k, rfl, hk, rfl, HB2⟩ := hrel
        by_cases hkm : k < m
        · by_cases hki : k = i
          · have HE := Lib.hid (BellP.est_own (BellP.ct l) k d)
            subst hki
            go_wp2_with fail
            go_roundw
            case rel => exact ⟨k + 1, by go_num, by omega, by rw [HE.out], HB2⟩
            case measure => simp [RowKit.intOf]; omega
          · have tki : ((k : Int) != (i : Int)) = true := by
              have : ¬ (k : Int) = i := by omega
              simpa using this
            have hLw : ArgK wr v l := HL.out.below (Below.two HB0.out HB2.out)
            have HC1 := Lib.hid (HC.out wr i k hLw)
            have HC2 : Hid (∀ q, Calls Tryd.prog 19 #[v, .int .i64 i, .int .i64 k] (wr.drewN q) fun e w' => e = .returned (.int .i64 (costG l i k)) ∧ w' = wr.drewN q) := Lib.hid fun q => (HC.out (wr.drewN q) i k (hLw.below (bel_drewN (Below.refl _ _) q))).mono fun e w' ⟨h, h'⟩ => ⟨h, h'.symm⟩
            have a0 := (Below.two HB0.out HB2.out).cell (p := ⟨bd, od + k, none⟩) hbd |>.trans (HV.out k hkm)
            have hci := HCt.out i k
            have hdk := HD.out k
            have HE := Lib.hid (BellP.est_other (BellP.ct l) i d k hki)
            have HF := Lib.hid (est_far (BellP.ct l) i d k hki)
            have e0 := (HI.out i k).symm
            clear hLw
            rw [e0] at HC1 HC2
            generalize BellP.ct l i k = x at HC1 HC2 HE HF hci
            generalize d k = y at a0 HE hdk
            clear e0
            by_cases hx : x = 16
            · have HE2 := Lib.hid (HF.out hx)
              subst hx
              clear HE HF a0
              go_wp2_with fail
              refine HC1.out.mono ?_
              rintro e w3 ⟨rfl, rfl⟩
              go_wp2_with fail
              go_roundw
              case rel => exact ⟨k + 1, by go_num, by omega, by rw [HE2.out], HB2⟩
              case measure => simp [RowKit.intOf]; omega
            · have hx2 : (x : Int) < 16 := by omega
              have HP2 : Hid (∀ q, Calls Tryd.prog 29 #[.int .i64 x, .int .i64 y] (wr.drewN q) fun e w' => e = .returned (.int .i64 (DistP.add x y : Int)) ∧ w' = wr.drewN q) := Lib.hid fun q => (HP.out (wr.drewN q) x y hci hdk).mono fun e w' ⟨h, h'⟩ => ⟨h, h'.symm⟩
              generalize DistP.add x y = s at HE HP2
              have HM := Lib.hid (DistP.least_min (BellP.est (BellP.ct l) i d k) s)
              clear HF
              generalize BellP.est (BellP.ct l) i d k = z at HE HM
              go_wp2_with fail
              refine HC1.out.mono ?_
              rintro e w3 ⟨rfl, rfl⟩
              go_wp2_with fail
              go_quiet (first | (go_at_call 19; exact Calls.quiet_of_same (HC2.out _)) | (go_at_call 29; exact Calls.quiet_of_same (HP2.out _)))
              go_wp2_with fail
              go_roundw
              case rel => exact ⟨k + 1, by go_num, by omega, by rw [HE.out, ← HM.out], Lib.hid (bel_drewN HB2.out _)⟩
              case measure => simp [RowKit.intOf]; omega
        · obtain rfl : k = m := by omega
          obtain ⟨z, hz⟩ : ∃ z : Nat, z = BellP.rd k (BellP.ct l) t d i := ⟨_, rfl⟩
          have HZ := Lib.hid hz
          have HLen := Lib.hid (BellP.vec_len i (BellP.rd k (BellP.ct l) t d))
          have HM := Lib.hid (BellP.vec_more i (BellP.rd k (BellP.ct l) t d))
          have HK2 := Lib.hid ((HO0.out.keep HB2.out).keep ((Below.refl wr.heap.size wr).alloc (Nat.le_refl _) (.cells #[.int .i64 (z : Int)] 3)))
          have HB3 := Lib.hid (Below.two HB0.out HB2.out)
          by_cases hit : i = t
          · have hz0 : z = 0 := by rw [hz]; exact if_pos hit
            clear hz
            subst hz0
            subst hit
            go_wp2_with (at_builtin; refine wpl_append_oneI rfl _ _ rfl w.heap.size _ _ 0 wr.heap.size 1 rfl rfl HK2.out (by simp) (by rw [HLen.out]; omega) (Nat.le_trans HB3.out.size (by simp)) ?_; intro v' w3 hO3 hg3 _)
            go_roundw
            case rel => exact ⟨i + 1, by go_num, by omega, Lib.hid ((HB3.out.alloc HB3.out.size _).grown hg3 (Nat.le_trans HB3.out.size (by simp)) HO0.out.past), Lib.hid (by rw [HM.out, ← HZ.out]; exact hO3)⟩
            case measure => simp [RowKit.intOf]; omega
          · have tit : ((i : Int) == (t : Int)) = false := by
              have : ¬ (i : Int) = t := by omega
              simpa using this
            have hz0 : BellP.est (BellP.ct l) i d k = z := by rw [hz]; exact (if_neg hit).symm
            rw [hz0]
            clear hz0 hz
            go_wp2_with (at_builtin; refine wpl_append_oneI rfl _ _ rfl w.heap.size _ _ z wr.heap.size 1 rfl rfl HK2.out (by simp) (by rw [HLen.out]; omega) (Nat.le_trans HB3.out.size (by simp)) ?_; intro v' w3 hO3 hg3 _)
            go_roundw
            case rel => exact ⟨i + 1, by go_num, by omega, Lib.hid ((HB3.out.alloc HB3.out.size _).grown hg3 (Nat.le_trans HB3.out.size (by simp)) HO0.out.past), Lib.hid (by rw [HM.out, ← HZ.out]; exact hO3)⟩
            case measure => simp [RowKit.intOf]; omega
    · obtain rfl : i = m := by omega
      obtain ⟨g, c, rfl, hg, hV⟩ := HO.out.vec hm1
      have HV2 := Lib.hid hV; have HG := Lib.hid hg
      clear hV hg HO
      go_wp2_with fail
      go_ret
      exact ⟨g, c, HG.out, rfl, HV2.out, HB.out⟩

set_option maxHeartbeats 1000000 in
set_option maxRecDepth 100000 in
/-- waywardenref1.FarOf. -/
theorem farOf_any (w : World) (m t : Nat) (v : Value) (l : List Lk) (hm : m ≤ 8) (ht : t < m) (hn : l.length < 4611686018427387904) (hr : Right m l) (h : ArgK w v l) :
    Calls Tryd.prog 8 #[.int .i64 m, v, .int .i64 t] w fun e w' => ∃ g c, w.heap.size ≤ g ∧ e = .returned (.slice (some ⟨g, 0, none⟩) m c) ∧ Vec w' g m (fun i => (BellP.far m (BellP.ct l) t i : Int)) ∧ Below w.heap.size w w' := by
  have HL := Lib.hid h
  have HS := Lib.hid (startOf_any w m t hm ht)
  have HR := Lib.hid (fun (w : World) b c s (h : ArgK w v l) (hV : Vec w b m (fun i => (BellP.it m (BellP.ct l) t (BellP.st t) s i : Int))) => roundOf_any w m t v l b 0 c _ hm (by omega) hn hr h (BellP.it_bd m _ t (BellP.st_bd t) s) hV.lt (fun j hj => by rw [Nat.zero_add]; exact hV.c j hj))
  clear h hr
  go_enter Tryd.func8, Tryd.ntmps8
  go_wp2_with fail
  refine HS.out.mono ?_
  rintro e w1 ⟨g, c, hg, rfl, hV, hb⟩
  have HG := Lib.hid hg; have HV := Lib.hid (hV.congr (d' := fun i => (BellP.it m (BellP.ct l) t (BellP.st t) 0 i : Int)) fun i _ => rfl); have HB := Lib.hid hb
  clear hg hV hb HS
  go_wp2_with fail
  go_loopw [7, 8] (fun u x wr => ∃ (s b c : Nat), x = .int .i64 s ∧ s ≤ m ∧ u = .slice (some ⟨b, 0, none⟩) m c ∧ Hid (w.heap.size ≤ b) ∧ Hid (Below w.heap.size w wr) ∧ Hid (Vec wr b m (fun i => (BellP.it m (BellP.ct l) t (BellP.st t) s i : Int)))) (fun _ x _ => m - (RowKit.intOf x).toNat)
  case atStart => exact ⟨0, g, c, rfl, Nat.zero_le _, rfl, HG, HB, HV⟩
  case round =>
    clear HG HV HB
    obtain ⟨s, b, c, rfl, hs, rfl, HG, HB, HV⟩ := hrel
    by_cases hsm : s < m
    · have HR2 := Lib.hid (HR.out wr b c s (HL.out.below HB.out) HV.out)
      go_wp2_with fail
      refine HR2.out.mono ?_
      rintro e w3 ⟨b3, c3, hb3, rfl, hV3, hB3⟩
      have HV3 := Lib.hid (hV3.congr (d' := fun i => (BellP.it m (BellP.ct l) t (BellP.st t) (s + 1) i : Int)) fun i _ => rfl)
      have HB3 := Lib.hid (Below.two HB.out hB3)
      have HG3 := Lib.hid (Nat.le_trans HB.out.size hb3)
      clear hV3 hB3 hb3 HR2 HV HB HG
      go_wp2_with fail
      go_roundw
      case rel => exact ⟨s + 1, b3, c3, by go_num, by omega, rfl, HG3, HB3, HV3⟩
      case measure => simp [RowKit.intOf]; omega
    · obtain rfl : s = m := by omega
      go_wp2_with fail
      go_ret
      exact ⟨b, c, HG.out, rfl, HV.out, HB.out⟩
end Go.Proofs.YtomfkmclgabcpaaDoor
