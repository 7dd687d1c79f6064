/-
  The law WaysCounts at every number of nodes, every links and two nodes: it tells true; what lay in memory stays.
-/
import Derived.Test.YtomfkmclgabcpaaWaysGone
import Derived.Test.YtomfkmclgabcpaaSpfCode
import Derived.Test.YtomfkmclgabcpaaRefCost
import Derived.Deep.QuietTactic
import Derived.BigQuiet
namespace Go.Proofs.Ytomfkmclgabcpaa
open Go.RowKit Go.Lib

set_option maxHeartbeats 2000000 in
set_option maxRecDepth 100000 in
theorem wc_1 (w : World) (n a b : Int) (v : Value) (l : List Lk) (hn : l.length < 4611686018427387904) (h : ArgK w v l) (hg : wayBad n l a b ≠ 0) :
    Calls Try.prog 4 #[.int .i64 n, v, .int .i64 a, .int .i64 b] w fun e w' => e = .returned (.bool true) ∧ Below w.heap.size w w' := by
  have HL := Lib.hid (h)
  have HR := Lib.hid (fun w1 (h1 : ArgK w1 v l) => count_bad w1 n a b v l hn h1 hg)
  rw [show errV (wayBad n l a b) = .iface 44 (.int .i64 (wayBad n l a b)) from if_neg hg] at HR
  clear h
  generalize wayBad n l a b = q at HR hg
  have HZZ : Hid (Below w.heap.size w w) := Lib.hid (Below.refl _ _)
  go_enter Try.func4, Try.ntmps4
  go_wp2_with fail
  refine (gone_any w).mono ?_
  rintro e w1 ⟨rfl, hb1⟩
  have HL' := Lib.hid (HL.out.below hb1)
  have HZZ' := Lib.hid (Below.two HZZ.out hb1)
  clear hb1 HZZ HL
  have HZZ := HZZ'
  clear HZZ'
  have HL := HL'
  clear HL'
  go_wp2_with fail
  refine (HR.out _ HL.out).mono ?_
  rintro e w2 ⟨rfl, hb2⟩
  have HL' := Lib.hid (HL.out.below hb2)
  have HZZ' := Lib.hid (Below.two HZZ.out hb2)
  clear hb2 HZZ HL
  have HZZ := HZZ'
  clear HZZ'
  have HL := HL'
  clear HL'
  go_wp2_with fail
  go_ret
  exact ⟨rfl, HZZ.out⟩
set_option maxHeartbeats 2000000 in
set_option maxRecDepth 100000 in
theorem wc_2 (w : World) (m t : Nat) (v : Value) (l : List Lk) (hn : l.length < 4611686018427387904) (h : ArgK w v l) (hg : gBad m l = 0) (ht : t < m)  :
    Calls Try.prog 4 #[.int .i64 m, v, .int .i64 t, .int .i64 t] w fun e w' => e = .returned (.bool true) ∧ Below w.heap.size w w' := by
  have hs := ht
  have HO := Lib.hid (WaysP.num_own (BellP.ct_cost ((gBad_zero m l).1 hg).2) ht)
  have HL := Lib.hid (h)
  have hR := ((gBad_zero m l).1 hg).2
  have hm := ((gBad_zero m l).1 hg).1
  have HK := Lib.hid (BellP.ct_cost hR)
  have HI := Lib.hid (fun i j => BellP.ct_int hR i j)
  have HB8 := Lib.hid (fun i (hi : i < m) => WaysP.num_bd (BellP.ct_cost hR) (by omega) hi ht)
  clear h hR
  have HZZ : Hid (Below w.heap.size w w) := Lib.hid (Below.refl _ _)
  go_enter Try.func4, Try.ntmps4
  go_wp2_with fail
  refine (gone_any w).mono ?_
  rintro e w1 ⟨rfl, hb1⟩
  have HL' := Lib.hid (HL.out.below hb1)
  have HZZ' := Lib.hid (Below.two HZZ.out hb1)
  clear hb1 HZZ HL
  have HZZ := HZZ'
  clear HZZ'
  have HL := HL'
  clear HL'
  go_wp2_with fail
  refine (count_ok w1 m t t v l hn HL.out hg hs ht).mono ?_
  rintro e w2 ⟨rfl, hb2⟩
  have HL' := Lib.hid (HL.out.below hb2)
  have HZZ' := Lib.hid (Below.two HZZ.out hb2)
  clear hb2 HZZ HL
  have HZZ := HZZ'
  clear HZZ'
  have HL := HL'
  clear HL'
  go_wp2_with fail
  refine (count_ok w2 m t t v l hn HL.out hg ht hs).mono ?_
  rintro e w3 ⟨rfl, hb3⟩
  have HL' := Lib.hid (HL.out.below hb3)
  have HZZ' := Lib.hid (Below.two HZZ.out hb3)
  clear hb3 HZZ HL
  have HZZ := HZZ'
  clear HZZ'
  have HL := HL'
  clear HL'
  go_wp2_with fail
  refine (far_ok w3 m t v l hn HL.out hg ht).mono ?_
  rintro e w4 ⟨f1, _, rfl, hV, hb4⟩
  have HL' := Lib.hid (HL.out.below hb4)
  have HZZ' := Lib.hid (Below.two HZZ.out hb4)
  have HX := Lib.hid (hV)
  clear hb4 HZZ HL
  have HZZ := HZZ'
  clear HZZ'
  have HL := HL'
  clear HL'
  clear hV
  rw [HO.out]
  go_wp2_with fail
  go_ret
  exact ⟨rfl, HZZ.out⟩
set_option maxHeartbeats 2000000 in
set_option maxRecDepth 100000 in
theorem wc_3 (w : World) (m s t : Nat) (v : Value) (l : List Lk) (hn : l.length < 4611686018427387904) (h : ArgK w v l) (hg : gBad m l = 0) (hs : s < m) (ht : t < m) (hne : s ≠ t) :
    Calls Try.prog 4 #[.int .i64 m, v, .int .i64 s, .int .i64 t] w fun e w' => e = .returned (.bool true) ∧ Below w.heap.size w w' := by
  have HL := Lib.hid (h)
  have t0 : ((s : Int) == (t : Int)) = false := by
    have : ¬ (s : Int) = t := by omega
    simpa using this
  have HE := Lib.hid (WaysP.num_step (BellP.ct_cost ((gBad_zero m l).1 hg).2) ht hs hne)
  have hR := ((gBad_zero m l).1 hg).2
  have hm := ((gBad_zero m l).1 hg).1
  have HK := Lib.hid (BellP.ct_cost hR)
  have HI := Lib.hid (fun i j => BellP.ct_int hR i j)
  have HSy := Lib.hid (WaysP.num_sym (BellP.ct_cost hR) (SpfP.ct_sym l) ht hs)
  have HB8 := Lib.hid (fun i (hi : i < m) => WaysP.num_bd (BellP.ct_cost hR) (by omega) hi ht)
  clear h hR
  have HZZ : Hid (Below w.heap.size w w) := Lib.hid (Below.refl _ _)
  go_enter Try.func4, Try.ntmps4
  go_wp2_with fail
  refine (gone_any w).mono ?_
  rintro e w1 ⟨rfl, hb1⟩
  have HL' := Lib.hid (HL.out.below hb1)
  have HZZ' := Lib.hid (Below.two HZZ.out hb1)
  clear hb1 HZZ HL
  have HZZ := HZZ'
  clear HZZ'
  have HL := HL'
  clear HL'
  go_wp2_with fail
  refine (count_ok w1 m s t v l hn HL.out hg hs ht).mono ?_
  rintro e w2 ⟨rfl, hb2⟩
  have HL' := Lib.hid (HL.out.below hb2)
  have HZZ' := Lib.hid (Below.two HZZ.out hb2)
  clear hb2 HZZ HL
  have HZZ := HZZ'
  clear HZZ'
  have HL := HL'
  clear HL'
  go_wp2_with fail
  refine (count_ok w2 m t s v l hn HL.out hg ht hs).mono ?_
  rintro e w3 ⟨rfl, hb3⟩
  have HL' := Lib.hid (HL.out.below hb3)
  have HZZ' := Lib.hid (Below.two HZZ.out hb3)
  clear hb3 HZZ HL
  have HZZ := HZZ'
  clear HZZ'
  have HL := HL'
  clear HL'
  rw [HSy.out]
  go_wp2_with fail
  refine (far_ok w3 m t v l hn HL.out hg ht).mono ?_
  rintro e w4 ⟨f1, _, rfl, hV, hb4⟩
  have HL' := Lib.hid (HL.out.below hb4)
  have HZZ' := Lib.hid (Below.two HZZ.out hb4)
  have HX := Lib.hid (hV)
  clear hb4 HZZ HL
  have HZZ := HZZ'
  clear HZZ'
  have HL := HL'
  clear HL'
  clear hV
  have HX2 := Lib.hid (HX.out.c s hs)
  have HFB := Lib.hid (BellP.far_bd m (BellP.ct l) t)
  generalize hN : WaysP.num m (BellP.ct l) t s = N at *
  have HN := Lib.hid hN
  clear hN
  go_wp2_with fail
  clear t0
  go_loopw [16, 17] (fun y x wr => ∃ k : Nat, x = .int .i64 k ∧ k ≤ m ∧ y = .int .i64 (WaysP.sums m (BellP.ct l) t (SpfP.upsTo m (BellP.ct l) t s k)) ∧ Hid (Below w4.heap.size w4 wr)) (fun _ x _ => m - (RowKit.intOf x).toNat)
  case atStart => exact ⟨0, rfl, Nat.zero_le _, rfl, Lib.hid (Below.refl _ _)⟩
  case round =>
    obtain ⟨k, rfl, hk, rfl, HB⟩ := hrel
    by_cases hkm : k < m
    · have HCO := Lib.hid (costOf_any wr v l s k hn (HL.out.below HB.out))
      have HV := HX.out.keep HB.out
      have vk := HV.c k hkm
      have vs := HV.c s hs
      have hup := SpfP.isUp_iff m (BellP.ct l) t s k
      have HU : Hid (SpfP.upsTo m (BellP.ct l) t s (k + 1) = if SpfP.isUp m (BellP.ct l) t s k = true then SpfP.upsTo m (BellP.ct l) t s k ++ [(k : Int)] else SpfP.upsTo m (BellP.ct l) t s k) := Lib.hid rfl
      have HCN := Lib.hid (fun q => count_ok (wr.drewN q) m k t v l hn ((HL.out.below HB.out).below (Below.drewN (Below.refl _ _) q)) hg hkm ht)
      have hnk := HB8.out k hkm
      have hsb : WaysP.sums m (BellP.ct l) t (SpfP.upsTo m (BellP.ct l) t s k) ≤ 18014398509481984 := by
        have h1 := WaysP.sums_le m (BellP.ct l) t 2251799813685248 (SpfP.upsTo m (BellP.ct l) t s k) (fun x hx => by
          obtain ⟨j, hj, rfl, _⟩ := (SpfP.mem_upsTo m (BellP.ct l) t s x k).1 hx
          rw [Int.toNat_natCast]
          exact HB8.out j (by omega))
        have h2 := SpfP.upsTo_len m (BellP.ct l) t s k
        omega
      have hcd := (HK.out).bd s k
      have hoff := (HK.out).off s k
      rw [← HI.out s k] at HCO
      have hfk := HFB.out k
      have hfs := HFB.out s
      clear HV
      generalize BellP.ct l s k = cc at HCO hup hcd hoff
      generalize BellP.far m (BellP.ct l) t k = x at vk hup hfk
      generalize BellP.far m (BellP.ct l) t s = y at vs hup hfs
      have HUP := Lib.hid hup
      clear hup
      have hki : (k : Int) < m := by omega
      by_cases hu : SpfP.isUp m (BellP.ct l) t s k = true
      · obtain ⟨h1, h2, h3⟩ := HUP.out.1 hu
        have HS1 : Hid (WaysP.sums m (BellP.ct l) t (SpfP.upsTo m (BellP.ct l) t s (k + 1)) = WaysP.sums m (BellP.ct l) t (SpfP.upsTo m (BellP.ct l) t s k) + WaysP.num m (BellP.ct l) t k) := Lib.hid (by
          rw [HU.out, if_pos hu, WaysP.sums_app]
          simp [WaysP.sums])
        have t1 : ((k : Int) != (s : Int)) = true := by
          have : ¬ (k : Int) = s := by omega
          simpa using this
        have t2 : (cc : Int) < 16 := by
          have := hoff (Ne.symm h1)
          omega
        have t3 : (y : Int) < 16 := by omega
        have t4 : (x : Int) + (cc : Int) = (y : Int) := by omega
        clear h3 hoff h1 h2 hu HUP HU
        generalize WaysP.sums m (BellP.ct l) t (SpfP.upsTo m (BellP.ct l) t s k) = S0 at HS1 hsb
        generalize WaysP.num m (BellP.ct l) t k = S1 at HS1 HCN hnk
        go_wp2_with fail
        refine HCO.out.mono ?_
        rintro e wz ⟨rfl, rfl⟩
        go_wp2_with fail
        go_quiet (fail)
        go_wp2_with fail
        refine (HCN.out _).mono ?_
        rintro e wy ⟨rfl, hby⟩
        have HB2 := Lib.hid (Below.two (Below.drewN HB.out _) hby)
        clear hby HCN
        go_wp2_with fail
        go_roundw
        case rel => exact ⟨k + 1, by go_num, by omega, by rw [HS1.out]; go_num, HB2⟩
        case measure => simp [RowKit.intOf]; omega
      · have HS1 : Hid (WaysP.sums m (BellP.ct l) t (SpfP.upsTo m (BellP.ct l) t s (k + 1)) = WaysP.sums m (BellP.ct l) t (SpfP.upsTo m (BellP.ct l) t s k)) := Lib.hid (by rw [HU.out, if_neg hu])
        have hno : ¬ (k ≠ s ∧ y < 16 ∧ x + cc = y) := fun e => hu (HUP.out.2 e)
        clear hu HUP HU HCN
        have HNO := Lib.hid hno
        clear hno hoff
        generalize WaysP.sums m (BellP.ct l) t (SpfP.upsTo m (BellP.ct l) t s k) = S0 at HS1 hsb
        go_wp2_with fail
        refine HCO.out.mono ?_
        rintro e wz ⟨rfl, rfl⟩
        by_cases h1 : k = s
        · subst h1
          go_wp2_with fail
          go_quiet (fail)
          go_wp2_with fail
          go_roundw
          case rel => exact ⟨k + 1, by go_num, by omega, by rw [HS1.out], Lib.hid (Below.drewN HB.out _)⟩
          case measure => simp [RowKit.intOf]; omega
        · have t1 : ((k : Int) != (s : Int)) = true := by
            have : ¬ (k : Int) = s := by omega
            simpa using this
          by_cases h2 : cc < 16
          · have t2 : (cc : Int) < 16 := by omega
            by_cases h3 : y < 16
            · have t3 : (y : Int) < 16 := by omega
              have t4 : ((x : Int) + (cc : Int) == (y : Int)) = false := by
                have : ¬ (x : Int) + (cc : Int) = (y : Int) := by have := HNO.out; omega
                simpa using this
              go_wp2_with fail
              go_quiet (fail)
              go_wp2_with fail
              go_roundw
              case rel => exact ⟨k + 1, by go_num, by omega, by rw [HS1.out], Lib.hid (Below.drewN HB.out _)⟩
              case measure => simp [RowKit.intOf]; omega
            · have t3 : ((y : Int) < 16) = False := by simp; omega
              go_wp2_with fail
              go_quiet (fail)
              go_wp2_with fail
              go_roundw
              case rel => exact ⟨k + 1, by go_num, by omega, by rw [HS1.out], Lib.hid (Below.drewN HB.out _)⟩
              case measure => simp [RowKit.intOf]; omega
          · have t2 : ((cc : Int) < 16) = False := by simp; omega
            go_wp2_with fail
            go_quiet (fail)
            go_wp2_with fail
            go_roundw
            case rel => exact ⟨k + 1, by go_num, by omega, by rw [HS1.out], Lib.hid (Below.drewN HB.out _)⟩
            case measure => simp [RowKit.intOf]; omega
    · obtain rfl : k = m := by omega
      have E : Hid (WaysP.sums k (BellP.ct l) t (SpfP.upsTo k (BellP.ct l) t s k) = N) := Lib.hid HE.out.symm
      rw [E.out]
      go_wp2_with fail
      go_ret
      exact ⟨rfl, Below.two HZZ.out HB.out⟩
theorem waysCounts_walk (w : World) (n a b : Int) (v : Value) (l : List Lk) (hn : l.length < 4611686018427387904) (h : ArgK w v l) :
    Calls Try.prog 4 #[.int .i64 n, v, .int .i64 a, .int .i64 b] w fun e w' => e = .returned (.bool true) ∧ Below w.heap.size w w' := by
  by_cases h1 : wayBad n l a b = 0
  · obtain ⟨m, s, t, rfl, rfl, rfl, _, _, hs, ht, hg, _⟩ := way_nat h1
    by_cases e : s = t
    · subst e
      exact wc_2 w m s v l hn h hg ht
    · exact wc_3 w m s t v l hn h hg hs ht e
  · exact wc_1 w n a b v l hn h h1
end Go.Proofs.Ytomfkmclgabcpaa
