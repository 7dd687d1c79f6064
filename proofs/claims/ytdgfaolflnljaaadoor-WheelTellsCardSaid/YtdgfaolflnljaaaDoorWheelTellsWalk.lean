/-
  The law WheelTells at every acts: it tells true; what lay in memory stays. Condition: the library's variable errors.errorType is as its text lays it.
-/
import Derived.Test.YtdgfaolflnljaaaDoorWheelTl
import Derived.Test.YtdgfaolflnljaaaDoorErrTold
import Derived.BigQuiet
import Derived.LoopN
namespace Go.Proofs.YtdgfaolflnljaaaDoor
open Go.RowKit Go.Lib WheelP

set_option maxHeartbeats 16000000 in
set_option maxRecDepth 100000 in
theorem wheelTells_walk (w : World) (v1 v2 v3 : Value) (l1 l2 l3 : List Int) (a1 : ArgI w v1 l1) (a2 : ArgI w v2 l2) (a3 : ArgI w v3 l3) (hlen : l1.length * 8 ≤ 140737488355328) (hE : ErrType w) :
    Calls Tryd.prog 3 #[v1, v2, v3] w fun e w' => e = .returned (.bool true) ∧ Below w.heap.size w w' := by
  obtain ⟨p1, c1, rfl, a1⟩ := a1
  obtain ⟨p2, c2, rfl, a2⟩ := a2
  obtain ⟨p3, c3, rfl, a3⟩ := a3
  have H1 : Hid (∀ i, i < l1.length → ∃ b off, p1 = some ⟨b, off, none⟩ ∧ b < w.heap.size ∧ SeenI w b off l1) := Lib.hid (by
    intro i hi
    rcases a1 with rfl | h
    · simp at hi
    · exact h)
  have H2 : Hid (∀ i, i < l2.length → ∃ b off, p2 = some ⟨b, off, none⟩ ∧ b < w.heap.size ∧ SeenI w b off l2) := Lib.hid (by
    intro i hi
    rcases a2 with rfl | h
    · simp at hi
    · exact h)
  have H3 : Hid (∀ i, i < l3.length → ∃ b off, p3 = some ⟨b, off, none⟩ ∧ b < w.heap.size ∧ SeenI w b off l3) := Lib.hid (by
    intro i hi
    rcases a3 with rfl | h
    · simp at hi
    · exact h)
  clear a1 a2 a3
  have HE := Lib.hid hE
  clear hE
  obtain ⟨n1, hn1⟩ : ∃ n1, l1.length = n1 := ⟨_, rfl⟩
  obtain ⟨n2, hn2⟩ : ∃ n2, l2.length = n2 := ⟨_, rfl⟩
  obtain ⟨n3, hn3⟩ : ∃ n3, l3.length = n3 := ⟨_, rfl⟩
  rw [hn1] at H1 hlen ⊢
  rw [hn2] at H2 ⊢
  rw [hn3] at H3 ⊢
  have HL1 := Lib.hid hn1
  have HL2 := Lib.hid hn2
  have HL3 := Lib.hid hn3
  clear hn1 hn2 hn3
  go_enter Tryd.func3, Tryd.ntmps3
  go_wp2_with fail
  refine (wheeled_any w).mono ?_
  rintro e w1 ⟨rfl, hb1⟩
  have HN := Lib.hid (new_one w w1 hb1)
  clear hb1
  go_wp2_with fail
  refine HN.out.mono ?_
  rintro e w2 ⟨rfl, h2⟩
  have HO := Lib.hid h2
  clear h2 HN
  generalize w1.heap.size = p at HO ⊢
  go_wp2_with fail
  refine (repeat64_any w2).mono ?_
  rintro e w3 ⟨u, rfl, hu, hb3⟩
  obtain ⟨c, cap, rfl, hrow⟩ := row_made HO.out hu hb3
  have HR0 := Lib.hid hrow
  clear hu hb3 hrow HO
  go_wp2_with fail
  go_loopw [10, 11] (fun v10 v11 wr => ∃ a n : Nat, v11 = .int .i64 a ∧ v10 = .int .i64 n ∧ a ≤ n1 ∧ ∃ f, Hid (RowW w wr p n f c f)) (fun _ v11 _ => n1 + 1 - (intOf v11).toNat)
  case atStart => exact ⟨0, 0, rfl, rfl, Nat.zero_le _, _, HR0⟩
  case round =>
    clear HR0
    obtain ⟨a, n, rfl, rfl, ha, f, HR⟩ := hrel
    by_cases k1 : a < n1
    · have K1 : (a : Int) < (n1 : Int) := by omega
      by_cases k2 : a < n2
      · have K2 : (a : Int) < (n2 : Int) := by omega
        by_cases k3 : a < n3
        · have K3 : (a : Int) < (n3 : Int) := by omega
          obtain ⟨b1, o1, rfl, hb1, s1⟩ := H1.out a k1
          obtain ⟨b2, o2, rfl, hb2, s2⟩ := H2.out a k2
          obtain ⟨b3, o3, rfl, hb3, s3⟩ := H3.out a k3
          have s1 := (s1.below HR.out.bel hb1) a (by rw [HL1.out]; exact k1)
          have s2 := (s2.below HR.out.bel hb2) a (by rw [HL2.out]; exact k2)
          have s3 := (s3.below HR.out.bel hb3) a (by rw [HL3.out]; exact k3)
          generalize l1[a]! = z at s1
          generalize l2[a]! = i at s2
          generalize l3[a]! = x at s3
          clear hb1 hb2 hb3
          by_cases z0 : z = 0
          · subst z0
            obtain ⟨m, hw, hst⟩ := HR.out.step
            have hS := set_stp hw i x
            have HST := Lib.hid hst
            clear hw hst
            by_cases hok : okS n i x
            · rw [show setV n i x = .nilIface from if_pos hok] at hS
              obtain ⟨k, rfl⟩ : ∃ k : Nat, i = k := ⟨i.toNat, by have := hok.1; omega⟩
              obtain ⟨y, rfl⟩ : ∃ y : Nat, x = y := ⟨x.toNat, by have := hok.2.2.1; omega⟩
              rw [putW_yes _ _ _ _ hok] at hS
              have HS := Lib.hid hS
              have q1 : ¬ (k : Int) < 0 := by omega
              have q2 : ¬ (k : Int) ≥ 64 := by have := hok.2.1; omega
              have q3 : ¬ (y : Int) ≤ (n : Int) := by have := hok.2.2.1; omega
              have q4 : ¬ (y : Int) > 1099511627776 := by have := hok.2.2.2; omega
              have hk64 : k < 64 := by omega
              have q5 : (k : Int) < 64 := by omega
              clear hS hok HR
              go_wp2_with fail
              refine HS.out.mono ?_
              rintro e w4 ⟨rfl, st⟩
              have h4 := HST.out _ _ _ st
              have cv := h4.vec.c k hk64
              have fv := h4.vec.f k
              have HR := Lib.hid (h4.put k y)
              clear st h4 HS HST
              obtain ⟨g, hg⟩ : ∃ g, g = upd f k y := ⟨_, rfl⟩
              rw [← hg] at HR
              clear hg
              go_wp2_with fail
              refine (same_nil 0 true rfl w4).mono ?_
              rintro e w5 ⟨rfl, rfl⟩
              as_aux_lemma =>
                go_wp2_with fail
                go_loopw [21, 22] (fun v21 v22 wr => ∃ k : Nat, v22 = .int .i64 k ∧ v21 = .int .i64 (cntK g k) ∧ k ≤ 64 ∧ Hid (RowW w wr p n g c g)) (fun _ v22 _ => 65 - (intOf v22).toNat)
                case atStart => exact ⟨0, rfl, rfl, Nat.zero_le _, HR⟩
                case round =>
                  clear HR
                  obtain ⟨k, rfl, rfl, hk, HR⟩ := hrel
                  by_cases hk64 : k < 64
                  · have u4 : (k : Int) < 64 := by omega
                    have cv := HR.out.vec.c k hk64
                    have hcl := cntK_le g k
                    by_cases hd0 : 0 < g k
                    · have HC1 := Lib.hid (cntK_yes g k hd0)
                      generalize g k = d at cv hd0
                      have q1 : (d : Int) > 0 := by omega
                      clear hd0
                      go_wp2_with fail
                      go_roundw
                      case rel => exact ⟨k + 1, by go_num, by rw [HC1.out]; go_num, by omega, HR⟩
                      case measure => simp [intOf]; omega
                    · have HC1 := Lib.hid (cntK_no g k hd0)
                      generalize g k = d at cv hd0
                      have q1 : ¬ (d : Int) > 0 := by omega
                      clear hd0
                      go_wp2_with fail
                      go_roundw
                      case rel => exact ⟨k + 1, by go_num, by rw [HC1.out], by omega, HR⟩
                      case measure => simp [intOf]; omega
                  · obtain rfl : k = 64 := by omega
                    obtain ⟨m0, hw0, _⟩ := HR.out.ex
                    have hL := wLen_any _ p m0 _ _ hw0
                    rw [← cntK_all] at hL
                    generalize cntK g 64 = ca at hL ⊢
                    have HLn := Lib.hid hL
                    have tca : ((ca : Int) != (ca : Int)) = false := by simp
                    clear hw0 hL hk64
                    go_wp2_with fail
                    refine HLn.out.mono ?_
                    rintro e wo ⟨rfl, rfl⟩
                    clear HLn
                    go_wp2_with fail
                    go_roundw
                    case rel => exact ⟨a + 1, n, by go_num, rfl, by omega, _, HR⟩
                    case measure => simp [intOf]; omega
            · rw [show setV n i x = eV 1 from if_neg hok, putW_no _ _ _ _ hok] at hS
              have HS := Lib.hid hS
              clear hS HR
              rcases (show i < 0 ∨ (¬ i < 0 ∧ i ≥ 64) ∨ (¬ i < 0 ∧ ¬ i ≥ 64 ∧ x ≤ (n : Int)) ∨ (¬ i < 0 ∧ ¬ i ≥ 64 ∧ ¬ x ≤ (n : Int) ∧ x > 1099511627776) by unfold okS at hok; omega) with t | ⟨t, t3⟩ | ⟨t, t3, t4⟩ | ⟨t, t3, t4, t5⟩
              · clear hok
                go_wp2_with fail
                refine HS.out.mono ?_
                rintro e w4 ⟨rfl, st⟩
                have h4 := HST.out _ _ _ st
                have HS4 := Lib.hid (same_err 1 1 true rfl w4 (HE.out.below h4.bel))
                have HR4 := Lib.hid h4
                clear st h4 HS HST
                go_wp2_with fail
                refine HS4.out.mono ?_
                rintro e w5 ⟨rfl, hb5⟩
                have HR := Lib.hid (HR4.out.below hb5)
                clear hb5 HS4 HR4
                as_aux_lemma =>
                  go_wp2_with fail
                  go_loopw [21, 22] (fun v21 v22 wr => ∃ k : Nat, v22 = .int .i64 k ∧ v21 = .int .i64 (cntK f k) ∧ k ≤ 64 ∧ Hid (RowW w wr p n f c f)) (fun _ v22 _ => 65 - (intOf v22).toNat)
                  case atStart => exact ⟨0, rfl, rfl, Nat.zero_le _, HR⟩
                  case round =>
                    clear HR
                    obtain ⟨k, rfl, rfl, hk, HR⟩ := hrel
                    by_cases hk64 : k < 64
                    · have u4 : (k : Int) < 64 := by omega
                      have cv := HR.out.vec.c k hk64
                      have hcl := cntK_le f k
                      by_cases hd0 : 0 < f k
                      · have HC1 := Lib.hid (cntK_yes f k hd0)
                        generalize f k = d at cv hd0
                        have q1 : (d : Int) > 0 := by omega
                        clear hd0
                        go_wp2_with fail
                        go_roundw
                        case rel => exact ⟨k + 1, by go_num, by rw [HC1.out]; go_num, by omega, HR⟩
                        case measure => simp [intOf]; omega
                      · have HC1 := Lib.hid (cntK_no f k hd0)
                        generalize f k = d at cv hd0
                        have q1 : ¬ (d : Int) > 0 := by omega
                        clear hd0
                        go_wp2_with fail
                        go_roundw
                        case rel => exact ⟨k + 1, by go_num, by rw [HC1.out], by omega, HR⟩
                        case measure => simp [intOf]; omega
                    · obtain rfl : k = 64 := by omega
                      obtain ⟨m0, hw0, _⟩ := HR.out.ex
                      have hL := wLen_any _ p m0 _ _ hw0
                      rw [← cntK_all] at hL
                      generalize cntK f 64 = ca at hL ⊢
                      have HLn := Lib.hid hL
                      have tca : ((ca : Int) != (ca : Int)) = false := by simp
                      clear hw0 hL hk64
                      go_wp2_with fail
                      refine HLn.out.mono ?_
                      rintro e wo ⟨rfl, rfl⟩
                      clear HLn
                      go_wp2_with fail
                      go_roundw
                      case rel => exact ⟨a + 1, n, by go_num, rfl, by omega, _, HR⟩
                      case measure => simp [intOf]; omega
              · clear hok
                go_wp2_with fail
                refine HS.out.mono ?_
                rintro e w4 ⟨rfl, st⟩
                have h4 := HST.out _ _ _ st
                have HS4 := Lib.hid (same_err 1 1 true rfl w4 (HE.out.below h4.bel))
                have HR4 := Lib.hid h4
                clear st h4 HS HST
                go_wp2_with fail
                refine HS4.out.mono ?_
                rintro e w5 ⟨rfl, hb5⟩
                have HR := Lib.hid (HR4.out.below hb5)
                clear hb5 HS4 HR4
                as_aux_lemma =>
                  go_wp2_with fail
                  go_loopw [21, 22] (fun v21 v22 wr => ∃ k : Nat, v22 = .int .i64 k ∧ v21 = .int .i64 (cntK f k) ∧ k ≤ 64 ∧ Hid (RowW w wr p n f c f)) (fun _ v22 _ => 65 - (intOf v22).toNat)
                  case atStart => exact ⟨0, rfl, rfl, Nat.zero_le _, HR⟩
                  case round =>
                    clear HR
                    obtain ⟨k, rfl, rfl, hk, HR⟩ := hrel
                    by_cases hk64 : k < 64
                    · have u4 : (k : Int) < 64 := by omega
                      have cv := HR.out.vec.c k hk64
                      have hcl := cntK_le f k
                      by_cases hd0 : 0 < f k
                      · have HC1 := Lib.hid (cntK_yes f k hd0)
                        generalize f k = d at cv hd0
                        have q1 : (d : Int) > 0 := by omega
                        clear hd0
                        go_wp2_with fail
                        go_roundw
                        case rel => exact ⟨k + 1, by go_num, by rw [HC1.out]; go_num, by omega, HR⟩
                        case measure => simp [intOf]; omega
                      · have HC1 := Lib.hid (cntK_no f k hd0)
                        generalize f k = d at cv hd0
                        have q1 : ¬ (d : Int) > 0 := by omega
                        clear hd0
                        go_wp2_with fail
                        go_roundw
                        case rel => exact ⟨k + 1, by go_num, by rw [HC1.out], by omega, HR⟩
                        case measure => simp [intOf]; omega
                    · obtain rfl : k = 64 := by omega
                      obtain ⟨m0, hw0, _⟩ := HR.out.ex
                      have hL := wLen_any _ p m0 _ _ hw0
                      rw [← cntK_all] at hL
                      generalize cntK f 64 = ca at hL ⊢
                      have HLn := Lib.hid hL
                      have tca : ((ca : Int) != (ca : Int)) = false := by simp
                      clear hw0 hL hk64
                      go_wp2_with fail
                      refine HLn.out.mono ?_
                      rintro e wo ⟨rfl, rfl⟩
                      clear HLn
                      go_wp2_with fail
                      go_roundw
                      case rel => exact ⟨a + 1, n, by go_num, rfl, by omega, _, HR⟩
                      case measure => simp [intOf]; omega
              · clear hok
                go_wp2_with fail
                refine HS.out.mono ?_
                rintro e w4 ⟨rfl, st⟩
                have h4 := HST.out _ _ _ st
                have HS4 := Lib.hid (same_err 1 1 true rfl w4 (HE.out.below h4.bel))
                have HR4 := Lib.hid h4
                clear st h4 HS HST
                go_wp2_with fail
                refine HS4.out.mono ?_
                rintro e w5 ⟨rfl, hb5⟩
                have HR := Lib.hid (HR4.out.below hb5)
                clear hb5 HS4 HR4
                as_aux_lemma =>
                  go_wp2_with fail
                  go_loopw [21, 22] (fun v21 v22 wr => ∃ k : Nat, v22 = .int .i64 k ∧ v21 = .int .i64 (cntK f k) ∧ k ≤ 64 ∧ Hid (RowW w wr p n f c f)) (fun _ v22 _ => 65 - (intOf v22).toNat)
                  case atStart => exact ⟨0, rfl, rfl, Nat.zero_le _, HR⟩
                  case round =>
                    clear HR
                    obtain ⟨k, rfl, rfl, hk, HR⟩ := hrel
                    by_cases hk64 : k < 64
                    · have u4 : (k : Int) < 64 := by omega
                      have cv := HR.out.vec.c k hk64
                      have hcl := cntK_le f k
                      by_cases hd0 : 0 < f k
                      · have HC1 := Lib.hid (cntK_yes f k hd0)
                        generalize f k = d at cv hd0
                        have q1 : (d : Int) > 0 := by omega
                        clear hd0
                        go_wp2_with fail
                        go_roundw
                        case rel => exact ⟨k + 1, by go_num, by rw [HC1.out]; go_num, by omega, HR⟩
                        case measure => simp [intOf]; omega
                      · have HC1 := Lib.hid (cntK_no f k hd0)
                        generalize f k = d at cv hd0
                        have q1 : ¬ (d : Int) > 0 := by omega
                        clear hd0
                        go_wp2_with fail
                        go_roundw
                        case rel => exact ⟨k + 1, by go_num, by rw [HC1.out], by omega, HR⟩
                        case measure => simp [intOf]; omega
                    · obtain rfl : k = 64 := by omega
                      obtain ⟨m0, hw0, _⟩ := HR.out.ex
                      have hL := wLen_any _ p m0 _ _ hw0
                      rw [← cntK_all] at hL
                      generalize cntK f 64 = ca at hL ⊢
                      have HLn := Lib.hid hL
                      have tca : ((ca : Int) != (ca : Int)) = false := by simp
                      clear hw0 hL hk64
                      go_wp2_with fail
                      refine HLn.out.mono ?_
                      rintro e wo ⟨rfl, rfl⟩
                      clear HLn
                      go_wp2_with fail
                      go_roundw
                      case rel => exact ⟨a + 1, n, by go_num, rfl, by omega, _, HR⟩
                      case measure => simp [intOf]; omega
              · clear hok
                go_wp2_with fail
                refine HS.out.mono ?_
                rintro e w4 ⟨rfl, st⟩
                have h4 := HST.out _ _ _ st
                have HS4 := Lib.hid (same_err 1 1 true rfl w4 (HE.out.below h4.bel))
                have HR4 := Lib.hid h4
                clear st h4 HS HST
                go_wp2_with fail
                refine HS4.out.mono ?_
                rintro e w5 ⟨rfl, hb5⟩
                have HR := Lib.hid (HR4.out.below hb5)
                clear hb5 HS4 HR4
                as_aux_lemma =>
                  go_wp2_with fail
                  go_loopw [21, 22] (fun v21 v22 wr => ∃ k : Nat, v22 = .int .i64 k ∧ v21 = .int .i64 (cntK f k) ∧ k ≤ 64 ∧ Hid (RowW w wr p n f c f)) (fun _ v22 _ => 65 - (intOf v22).toNat)
                  case atStart => exact ⟨0, rfl, rfl, Nat.zero_le _, HR⟩
                  case round =>
                    clear HR
                    obtain ⟨k, rfl, rfl, hk, HR⟩ := hrel
                    by_cases hk64 : k < 64
                    · have u4 : (k : Int) < 64 := by omega
                      have cv := HR.out.vec.c k hk64
                      have hcl := cntK_le f k
                      by_cases hd0 : 0 < f k
                      · have HC1 := Lib.hid (cntK_yes f k hd0)
                        generalize f k = d at cv hd0
                        have q1 : (d : Int) > 0 := by omega
                        clear hd0
                        go_wp2_with fail
                        go_roundw
                        case rel => exact ⟨k + 1, by go_num, by rw [HC1.out]; go_num, by omega, HR⟩
                        case measure => simp [intOf]; omega
                      · have HC1 := Lib.hid (cntK_no f k hd0)
                        generalize f k = d at cv hd0
                        have q1 : ¬ (d : Int) > 0 := by omega
                        clear hd0
                        go_wp2_with fail
                        go_roundw
                        case rel => exact ⟨k + 1, by go_num, by rw [HC1.out], by omega, HR⟩
                        case measure => simp [intOf]; omega
                    · obtain rfl : k = 64 := by omega
                      obtain ⟨m0, hw0, _⟩ := HR.out.ex
                      have hL := wLen_any _ p m0 _ _ hw0
                      rw [← cntK_all] at hL
                      generalize cntK f 64 = ca at hL ⊢
                      have HLn := Lib.hid hL
                      have tca : ((ca : Int) != (ca : Int)) = false := by simp
                      clear hw0 hL hk64
                      go_wp2_with fail
                      refine HLn.out.mono ?_
                      rintro e wo ⟨rfl, rfl⟩
                      clear HLn
                      go_wp2_with fail
                      go_roundw
                      case rel => exact ⟨a + 1, n, by go_num, rfl, by omega, _, HR⟩
                      case measure => simp [intOf]; omega
          · have tz0 : (z == 0) = false := by simpa using z0
            by_cases z1 : z = 1
            · subst z1
              by_cases hi : i < 0 ∨ 64 ≤ i
              · have HC := Lib.hid (wClear_bad wr p i hi)
                rcases (show i < 0 ∨ (¬ i < 0 ∧ i ≥ 64) by omega) with t | ⟨t, t3⟩
                · clear hi
                  go_wp2_with fail
                  refine HC.out.mono ?_
                  rintro e w4 ⟨rfl, rfl⟩
                  have HS4 := Lib.hid (same_err 1 1 true rfl wr (HE.out.below HR.out.bel))
                  go_wp2_with fail
                  refine HS4.out.mono ?_
                  rintro e w5 ⟨rfl, hb5⟩
                  have HR5 := Lib.hid (HR.out.below hb5)
                  clear hb5 HS4 HR HC
                  have HR := Lib.hid HR5.out
                  clear HR5
                  as_aux_lemma =>
                    go_wp2_with fail
                    go_loopw [21, 22] (fun v21 v22 wr => ∃ k : Nat, v22 = .int .i64 k ∧ v21 = .int .i64 (cntK f k) ∧ k ≤ 64 ∧ Hid (RowW w wr p n f c f)) (fun _ v22 _ => 65 - (intOf v22).toNat)
                    case atStart => exact ⟨0, rfl, rfl, Nat.zero_le _, HR⟩
                    case round =>
                      clear HR
                      obtain ⟨k, rfl, rfl, hk, HR⟩ := hrel
                      by_cases hk64 : k < 64
                      · have u4 : (k : Int) < 64 := by omega
                        have cv := HR.out.vec.c k hk64
                        have hcl := cntK_le f k
                        by_cases hd0 : 0 < f k
                        · have HC1 := Lib.hid (cntK_yes f k hd0)
                          generalize f k = d at cv hd0
                          have q1 : (d : Int) > 0 := by omega
                          clear hd0
                          go_wp2_with fail
                          go_roundw
                          case rel => exact ⟨k + 1, by go_num, by rw [HC1.out]; go_num, by omega, HR⟩
                          case measure => simp [intOf]; omega
                        · have HC1 := Lib.hid (cntK_no f k hd0)
                          generalize f k = d at cv hd0
                          have q1 : ¬ (d : Int) > 0 := by omega
                          clear hd0
                          go_wp2_with fail
                          go_roundw
                          case rel => exact ⟨k + 1, by go_num, by rw [HC1.out], by omega, HR⟩
                          case measure => simp [intOf]; omega
                      · obtain rfl : k = 64 := by omega
                        obtain ⟨m0, hw0, _⟩ := HR.out.ex
                        have hL := wLen_any _ p m0 _ _ hw0
                        rw [← cntK_all] at hL
                        generalize cntK f 64 = ca at hL ⊢
                        have HLn := Lib.hid hL
                        have tca : ((ca : Int) != (ca : Int)) = false := by simp
                        clear hw0 hL hk64
                        go_wp2_with fail
                        refine HLn.out.mono ?_
                        rintro e wo ⟨rfl, rfl⟩
                        clear HLn
                        go_wp2_with fail
                        go_roundw
                        case rel => exact ⟨a + 1, n, by go_num, rfl, by omega, _, HR⟩
                        case measure => simp [intOf]; omega
                · clear hi
                  go_wp2_with fail
                  refine HC.out.mono ?_
                  rintro e w4 ⟨rfl, rfl⟩
                  have HS4 := Lib.hid (same_err 1 1 true rfl wr (HE.out.below HR.out.bel))
                  go_wp2_with fail
                  refine HS4.out.mono ?_
                  rintro e w5 ⟨rfl, hb5⟩
                  have HR5 := Lib.hid (HR.out.below hb5)
                  clear hb5 HS4 HR HC
                  have HR := Lib.hid HR5.out
                  clear HR5
                  as_aux_lemma =>
                    go_wp2_with fail
                    go_loopw [21, 22] (fun v21 v22 wr => ∃ k : Nat, v22 = .int .i64 k ∧ v21 = .int .i64 (cntK f k) ∧ k ≤ 64 ∧ Hid (RowW w wr p n f c f)) (fun _ v22 _ => 65 - (intOf v22).toNat)
                    case atStart => exact ⟨0, rfl, rfl, Nat.zero_le _, HR⟩
                    case round =>
                      clear HR
                      obtain ⟨k, rfl, rfl, hk, HR⟩ := hrel
                      by_cases hk64 : k < 64
                      · have u4 : (k : Int) < 64 := by omega
                        have cv := HR.out.vec.c k hk64
                        have hcl := cntK_le f k
                        by_cases hd0 : 0 < f k
                        · have HC1 := Lib.hid (cntK_yes f k hd0)
                          generalize f k = d at cv hd0
                          have q1 : (d : Int) > 0 := by omega
                          clear hd0
                          go_wp2_with fail
                          go_roundw
                          case rel => exact ⟨k + 1, by go_num, by rw [HC1.out]; go_num, by omega, HR⟩
                          case measure => simp [intOf]; omega
                        · have HC1 := Lib.hid (cntK_no f k hd0)
                          generalize f k = d at cv hd0
                          have q1 : ¬ (d : Int) > 0 := by omega
                          clear hd0
                          go_wp2_with fail
                          go_roundw
                          case rel => exact ⟨k + 1, by go_num, by rw [HC1.out], by omega, HR⟩
                          case measure => simp [intOf]; omega
                      · obtain rfl : k = 64 := by omega
                        obtain ⟨m0, hw0, _⟩ := HR.out.ex
                        have hL := wLen_any _ p m0 _ _ hw0
                        rw [← cntK_all] at hL
                        generalize cntK f 64 = ca at hL ⊢
                        have HLn := Lib.hid hL
                        have tca : ((ca : Int) != (ca : Int)) = false := by simp
                        clear hw0 hL hk64
                        go_wp2_with fail
                        refine HLn.out.mono ?_
                        rintro e wo ⟨rfl, rfl⟩
                        clear HLn
                        go_wp2_with fail
                        go_roundw
                        case rel => exact ⟨a + 1, n, by go_num, rfl, by omega, _, HR⟩
                        case measure => simp [intOf]; omega
              · obtain ⟨k, rfl⟩ : ∃ k : Nat, i = k := ⟨i.toNat, by omega⟩
                have hk64 : k < 64 := by omega
                have q1 : ¬ (k : Int) < 0 := by omega
                have q2 : ¬ (k : Int) ≥ 64 := by omega
                have q5 : (k : Int) < 64 := by omega
                obtain ⟨m, hw, hst⟩ := HR.out.step
                have hC := clear_stp hw k hk64
                have HST := Lib.hid hst
                have cv := HR.out.vec.c k hk64
                clear hw hst hi
                by_cases h0 : f k = 0
                · rw [if_neg (by omega), upd_zero _ _ h0] at hC
                  rw [h0] at cv
                  have HC := Lib.hid hC
                  clear hC h0 HR
                  go_wp2_with fail
                  refine HC.out.mono ?_
                  rintro e w4 ⟨rfl, st⟩
                  have h4 := HST.out _ _ _ st
                  have HS4 := Lib.hid (same_err 2 2 true rfl w4 (HE.out.below h4.bel))
                  have HR4 := Lib.hid h4
                  clear st h4 HC HST
                  go_wp2_with fail
                  refine HS4.out.mono ?_
                  rintro e w5 ⟨rfl, hb5⟩
                  have HR := Lib.hid (HR4.out.below hb5)
                  clear hb5 HS4 HR4
                  as_aux_lemma =>
                    go_wp2_with fail
                    go_loopw [21, 22] (fun v21 v22 wr => ∃ k : Nat, v22 = .int .i64 k ∧ v21 = .int .i64 (cntK f k) ∧ k ≤ 64 ∧ Hid (RowW w wr p n f c f)) (fun _ v22 _ => 65 - (intOf v22).toNat)
                    case atStart => exact ⟨0, rfl, rfl, Nat.zero_le _, HR⟩
                    case round =>
                      clear HR
                      obtain ⟨k, rfl, rfl, hk, HR⟩ := hrel
                      by_cases hk64 : k < 64
                      · have u4 : (k : Int) < 64 := by omega
                        have cv := HR.out.vec.c k hk64
                        have hcl := cntK_le f k
                        by_cases hd0 : 0 < f k
                        · have HC1 := Lib.hid (cntK_yes f k hd0)
                          generalize f k = d at cv hd0
                          have q1 : (d : Int) > 0 := by omega
                          clear hd0
                          go_wp2_with fail
                          go_roundw
                          case rel => exact ⟨k + 1, by go_num, by rw [HC1.out]; go_num, by omega, HR⟩
                          case measure => simp [intOf]; omega
                        · have HC1 := Lib.hid (cntK_no f k hd0)
                          generalize f k = d at cv hd0
                          have q1 : ¬ (d : Int) > 0 := by omega
                          clear hd0
                          go_wp2_with fail
                          go_roundw
                          case rel => exact ⟨k + 1, by go_num, by rw [HC1.out], by omega, HR⟩
                          case measure => simp [intOf]; omega
                      · obtain rfl : k = 64 := by omega
                        obtain ⟨m0, hw0, _⟩ := HR.out.ex
                        have hL := wLen_any _ p m0 _ _ hw0
                        rw [← cntK_all] at hL
                        generalize cntK f 64 = ca at hL ⊢
                        have HLn := Lib.hid hL
                        have tca : ((ca : Int) != (ca : Int)) = false := by simp
                        clear hw0 hL hk64
                        go_wp2_with fail
                        refine HLn.out.mono ?_
                        rintro e wo ⟨rfl, rfl⟩
                        clear HLn
                        go_wp2_with fail
                        go_roundw
                        case rel => exact ⟨a + 1, n, by go_num, rfl, by omega, _, HR⟩
                        case measure => simp [intOf]; omega
                · rw [if_pos (by omega)] at hC
                  have HC := Lib.hid hC
                  have q6 : (((f k : Nat) : Int) == 0) = false := by
                    have : ¬ ((f k : Nat) : Int) = 0 := by omega
                    simpa using this
                  generalize f k = fk at cv q6
                  clear hC h0 HR
                  go_wp2_with fail
                  refine HC.out.mono ?_
                  rintro e w4 ⟨rfl, st⟩
                  have h4 := HST.out _ _ _ st
                  have cv := h4.vec.c k hk64
                  have fv := h4.vec.f k
                  have HR := Lib.hid (h4.put k 0)
                  clear st h4 HC HST
                  obtain ⟨g, hg⟩ : ∃ g, g = upd f k 0 := ⟨_, rfl⟩
                  rw [← hg] at HR
                  clear hg
                  go_wp2_with fail
                  refine (same_nil 0 true rfl w4).mono ?_
                  rintro e w5 ⟨rfl, rfl⟩
                  as_aux_lemma =>
                    go_wp2_with fail
                    go_loopw [21, 22] (fun v21 v22 wr => ∃ k : Nat, v22 = .int .i64 k ∧ v21 = .int .i64 (cntK g k) ∧ k ≤ 64 ∧ Hid (RowW w wr p n g c g)) (fun _ v22 _ => 65 - (intOf v22).toNat)
                    case atStart => exact ⟨0, rfl, rfl, Nat.zero_le _, HR⟩
                    case round =>
                      clear HR
                      obtain ⟨k, rfl, rfl, hk, HR⟩ := hrel
                      by_cases hk64 : k < 64
                      · have u4 : (k : Int) < 64 := by omega
                        have cv := HR.out.vec.c k hk64
                        have hcl := cntK_le g k
                        by_cases hd0 : 0 < g k
                        · have HC1 := Lib.hid (cntK_yes g k hd0)
                          generalize g k = d at cv hd0
                          have q1 : (d : Int) > 0 := by omega
                          clear hd0
                          go_wp2_with fail
                          go_roundw
                          case rel => exact ⟨k + 1, by go_num, by rw [HC1.out]; go_num, by omega, HR⟩
                          case measure => simp [intOf]; omega
                        · have HC1 := Lib.hid (cntK_no g k hd0)
                          generalize g k = d at cv hd0
                          have q1 : ¬ (d : Int) > 0 := by omega
                          clear hd0
                          go_wp2_with fail
                          go_roundw
                          case rel => exact ⟨k + 1, by go_num, by rw [HC1.out], by omega, HR⟩
                          case measure => simp [intOf]; omega
                      · obtain rfl : k = 64 := by omega
                        obtain ⟨m0, hw0, _⟩ := HR.out.ex
                        have hL := wLen_any _ p m0 _ _ hw0
                        rw [← cntK_all] at hL
                        generalize cntK g 64 = ca at hL ⊢
                        have HLn := Lib.hid hL
                        have tca : ((ca : Int) != (ca : Int)) = false := by simp
                        clear hw0 hL hk64
                        go_wp2_with fail
                        refine HLn.out.mono ?_
                        rintro e wo ⟨rfl, rfl⟩
                        clear HLn
                        go_wp2_with fail
                        go_roundw
                        case rel => exact ⟨a + 1, n, by go_num, rfl, by omega, _, HR⟩
                        case measure => simp [intOf]; omega
            · have tz1 : (z == 1) = false := by simpa using z1
              by_cases hok : okT n x
              · obtain ⟨y, rfl⟩ : ∃ y : Nat, x = y := ⟨x.toNat, by have := hok.1; omega⟩
                have HOk := Lib.hid hok
                obtain ⟨m, hM⟩ := RowM.of HR.out
                have HNN : Hid (w.heap.size ≤ wr.heap.size) := Lib.hid HR.out.bel.size
                obtain ⟨N, hN⟩ : ∃ N, N = wr.heap.size := ⟨_, rfl⟩
                rw [← hN] at hM HNN
                have HM0 := Lib.hid hM
                have q3 : ¬ (y : Int) < (n : Int) := by have := hok.1; omega
                have q4 : ¬ (y : Int) > 1099511627776 := by have := hok.2; omega
                clear hM hN hok HR
                go_wp2_with fail
                clear s1 s2 s3
                go_loopw [16] (fun v16 wr => ∃ P : List Du, Hid (OwnI wr N v16 (zsD P)) ∧ Hid (Wnt f y P) ∧ Hid (RowM w N wr p m n f c (zap f P))) (fun v16 _ => 65 - lenV v16)
                case atStart => exact ⟨[], Lib.hid (OwnI.nil _ _), Lib.hid (Wnt.start f y), HM0⟩
                case round =>
                  clear HM0
                  obtain ⟨P, HI0, HWn, HM1⟩ := hrel
                  obtain ⟨pw, cw, rfl, _⟩ := id HI0.out.arg
                  go_wp2_with fail
                  go_loopw [17, 18] (fun v17 v18 wr => ∃ (k : Nat) (zz : Int), v18 = .int .i64 k ∧ v17 = .int .i64 zz ∧ k ≤ 64 ∧ Hid (BestD (zap f P) y k zz) ∧ Hid (OwnI wr N (.slice pw (zsD P).length cw) (zsD P)) ∧ Hid (RowM w N wr p m n f c (zap f P))) (fun _ v18 _ => 65 - (intOf v18).toNat)
                  case atStart => exact ⟨0, -1, rfl, rfl, Nat.zero_le _, Lib.hid (BestD.start _ _), HI0, HM1⟩
                  case round =>
                    clear HI0 HM1
                    obtain ⟨k, zz, rfl, rfl, hk, HBs, HI, HM⟩ := hrel
                    by_cases hk64 : k < 64
                    · have u4 : (k : Int) < 64 := by omega
                      have ck := HM.out.vec.c k hk64
                      by_cases hd1 : 0 < zap f P k
                      · by_cases hd2 : zap f P k ≤ y
                        · rcases HBs.out with ⟨rfl, hb⟩ | ⟨s, rfl, hs1, hs2, hs3, hs4⟩
                          · have HB1 := Lib.hid (BestD.one hb hd1 hd2)
                            clear hb
                            generalize zap f P k = dk at ck hd1 hd2
                            have q1 : (dk : Int) > 0 := by omega
                            have q2 : (dk : Int) ≤ (y : Int) := by omega
                            go_wp2_with fail
                            go_quiet (fail)
                            go_wp2_with fail
                            go_roundw
                            case rel => exact ⟨k + 1, _, by go_num, rfl, by omega, HB1, Lib.hid (HI.out.keep (Below.drewN (Below.refl _ _) _)), Lib.hid (HM.out.below (Below.drewN (Below.refl _ _) _))⟩
                            case measure => simp [intOf]; omega
                          · have cs := HM.out.vec.c s (by omega)
                            have e4 : (s : Int) < 64 := by omega
                            have e5 : ((s : Int) < 0) = False := by simp
                            by_cases hl : zap f P k < zap f P s
                            · have HB1 := Lib.hid (BestD.less hs4 hd1 hd2 hl)
                              clear hs1 hs2 hs3 hs4
                              generalize zap f P k = dk at ck hd1 hd2 hl
                              generalize zap f P s = ds at cs hl
                              have q1 : (dk : Int) > 0 := by omega
                              have q2 : (dk : Int) ≤ (y : Int) := by omega
                              have q3 : (dk : Int) < (ds : Int) := by omega
                              go_wp2_with fail
                              go_quiet (fail)
                              go_wp2_with fail
                              go_roundw
                              case rel => exact ⟨k + 1, _, by go_num, rfl, by omega, HB1, Lib.hid (HI.out.keep (Below.drewN (Below.refl _ _) _)), Lib.hid (HM.out.below (Below.drewN (Below.refl _ _) _))⟩
                              case measure => simp [intOf]; omega
                            · have HB1 := Lib.hid (BestD.more hs1 hs2 hs3 hs4 hl)
                              clear hs1 hs2 hs3 hs4
                              generalize zap f P k = dk at ck hd1 hd2 hl
                              generalize zap f P s = ds at cs hl
                              have q1 : (dk : Int) > 0 := by omega
                              have q2 : (dk : Int) ≤ (y : Int) := by omega
                              have q3 : ((dk : Int) < (ds : Int)) = False := by simp; omega
                              have q3n : (dk < ds) = False := eq_false hl
                              clear hl
                              go_wp2_with fail
                              go_quiet (fail)
                              go_wp2_with fail
                              go_roundw
                              case rel => exact ⟨k + 1, _, by go_num, rfl, by omega, HB1, Lib.hid (HI.out.keep (Below.drewN (Below.refl _ _) _)), Lib.hid (HM.out.below (Below.drewN (Below.refl _ _) _))⟩
                              case measure => simp [intOf]; omega
                        · have HB1 := Lib.hid (HBs.out.no fun c => hd2 c.2)
                          generalize zap f P k = dk at ck hd1 hd2
                          have q1 : (dk : Int) > 0 := by omega
                          have q2 : ((dk : Int) ≤ (y : Int)) = False := by simp; omega
                          have q2n : (dk ≤ y) = False := eq_false hd2
                          clear hd2
                          go_wp2_with fail
                          go_quiet (fail)
                          go_wp2_with fail
                          go_roundw
                          case rel => exact ⟨k + 1, _, by go_num, rfl, by omega, HB1, Lib.hid (HI.out.keep (Below.drewN (Below.refl _ _) _)), Lib.hid (HM.out.below (Below.drewN (Below.refl _ _) _))⟩
                          case measure => simp [intOf]; omega
                      · have HB1 := Lib.hid (HBs.out.no fun c => hd1 c.1)
                        generalize zap f P k = dk at ck hd1
                        have q1 : ((dk : Int) > 0) = False := by simp; omega
                        have q1n : (0 < dk) = False := eq_false hd1
                        clear hd1
                        go_wp2_with fail
                        go_quiet (fail)
                        go_wp2_with fail
                        go_roundw
                        case rel => exact ⟨k + 1, _, by go_num, rfl, by omega, HB1, Lib.hid (HI.out.keep (Below.drewN (Below.refl _ _) _)), Lib.hid (HM.out.below (Below.drewN (Below.refl _ _) _))⟩
                        case measure => simp [intOf]; omega
                    · obtain rfl : k = 64 := by omega
                      rcases HBs.out with ⟨rfl, hb⟩ | ⟨s, rfl, hs1, hs2, hs3, hs4⟩
                      · have HD := Lib.hid (HWn.out.due hb)
                        have HT := Lib.hid (HM.out.tick y HOk.out)
                        clear hb HBs hk64
                        go_wp2_with fail
                        refine HT.out.mono ?_
                        rintro e w4 ⟨v, L, rfl, hd, ho, hm, hkeep⟩
                        obtain rfl := HD.out.one hd
                        have HI4 := Lib.hid (hkeep _ _ HI.out)
                        have HO4 := Lib.hid ho
                        have HM4 := Lib.hid hm
                        have HLe := Lib.hid (due_len hd)
                        clear hd ho hm hkeep HT HI HM
                        go_wp2_with fail
                        refine (same_nil 0 true rfl w4).mono ?_
                        rintro e w5 ⟨rfl, rfl⟩
                        have hI := sameInts_any w4 _ _ _ _ (by rw [zsD_len]; have := HLe.out; omega) HO4.out.arg HI4.out.arg
                        rw [decide_eq_true rfl] at hI
                        have HIn := Lib.hid hI
                        clear hI
                        go_wp2_with fail
                        refine HIn.out.mono ?_
                        rintro e w6 ⟨rfl, hb6⟩
                        have HR := Lib.hid ((HM4.out.below hb6).row.congr (f' := rest f y) (d' := rest f y) (fun _ _ => rfl) (fun j hj => zap_rest HD.out j hj))
                        clear hb6 HM4 HO4 HI4 HIn HLe HD HWn
                        obtain ⟨g, hg⟩ : ∃ g, g = rest f y := ⟨_, rfl⟩
                        rw [← hg] at HR
                        clear hg
                        as_aux_lemma =>
                          go_wp2_with fail
                          go_loopw [21, 22] (fun v21 v22 wr => ∃ k : Nat, v22 = .int .i64 k ∧ v21 = .int .i64 (cntK g k) ∧ k ≤ 64 ∧ Hid (RowW w wr p y g c g)) (fun _ v22 _ => 65 - (intOf v22).toNat)
                          case atStart => exact ⟨0, rfl, rfl, Nat.zero_le _, HR⟩
                          case round =>
                            clear HR
                            obtain ⟨k, rfl, rfl, hk, HR⟩ := hrel
                            by_cases hk64 : k < 64
                            · have u4 : (k : Int) < 64 := by omega
                              have cv := HR.out.vec.c k hk64
                              have hcl := cntK_le g k
                              by_cases hd0 : 0 < g k
                              · have HC1 := Lib.hid (cntK_yes g k hd0)
                                generalize g k = d at cv hd0
                                have q1 : (d : Int) > 0 := by omega
                                clear hd0
                                go_wp2_with fail
                                go_roundw
                                case rel => exact ⟨k + 1, by go_num, by rw [HC1.out]; go_num, by omega, HR⟩
                                case measure => simp [intOf]; omega
                              · have HC1 := Lib.hid (cntK_no g k hd0)
                                generalize g k = d at cv hd0
                                have q1 : ¬ (d : Int) > 0 := by omega
                                clear hd0
                                go_wp2_with fail
                                go_roundw
                                case rel => exact ⟨k + 1, by go_num, by rw [HC1.out], by omega, HR⟩
                                case measure => simp [intOf]; omega
                            · obtain rfl : k = 64 := by omega
                              obtain ⟨m0, hw0, _⟩ := HR.out.ex
                              have hL := wLen_any _ p m0 _ _ hw0
                              rw [← cntK_all] at hL
                              generalize cntK g 64 = ca at hL ⊢
                              have HLn := Lib.hid hL
                              have tca : ((ca : Int) != (ca : Int)) = false := by simp
                              clear hw0 hL hk64
                              go_wp2_with fail
                              refine HLn.out.mono ?_
                              rintro e wo ⟨rfl, rfl⟩
                              clear HLn
                              go_wp2_with fail
                              go_roundw
                              case rel => exact ⟨a + 1, y, by go_num, rfl, by omega, _, HR⟩
                              case measure => simp [intOf]; omega
                      · have e4 : (s : Int) < 64 := by omega
                        have e5 : ((s : Int) < 0) = False := by simp
                        have e6 : ¬ (s : Int) < 0 := by omega
                        have HW2 := Lib.hid (HWn.out.step hs1 hs2 hs3 hs4)
                        have HLe := Lib.hid HW2.out.len
                        have HPl := Lib.hid HWn.out.len
                        clear hs2 hs3 hs4 HBs hk64
                        go_wp2_with (at_builtin; refine wpl_append_oneI rfl _ _ rfl N _ (zsD P) (s : Int) _ 1 rfl rfl (HI.out.keep ((Below.refl _ _).alloc (Nat.le_refl _) _)) (by simp) (by rw [zsD_len]; have := HPl.out; omega) (by have := HM.out.up; simp; omega) ?_; intro v' w5 hO5 hg5 _; have hB5 := ((Below.refl N _).alloc (Nat.le_trans HM.out.up (Nat.le_refl _)) _).grown hg5 (by have := HM.out.up; simp; omega) HI.out.past; have HM5 := Lib.hid (HM.out.lower hB5 HNN.out); have cs := HM5.out.vec.c s hs1; have fs := HM5.out.vec.f s; obtain ⟨pw2, cw2, rfl, _⟩ := id hO5.arg; have HO5 := Lib.hid hO5; clear hO5 hg5 hB5)
                        go_roundw
                        case rel =>
                          refine ⟨P ++ [(s, f s)], Lib.hid ?_, HW2, Lib.hid ?_⟩
                          · have h1 := HO5.out.stayK (Keep.setCell (fun b => b = c) _ c s (.int .i64 0) rfl) (fun q hq e => by have := HM5.out.lc.2; omega)
                            rw [zsD_app, zsD_one]
                            simpa using h1
                          · rw [zap_app]
                            exact HM5.out.put s 0
                        case measure =>
                          have := HLe.out
                          simp [lenV, zsD] at this ⊢
                          omega
              · obtain ⟨m, hw, _⟩ := HR.out.step
                have HT := Lib.hid (tick_bad hw x hok)
                clear hw
                rcases (show x < (n : Int) ∨ (¬ x < (n : Int) ∧ x > 1099511627776) by unfold okT at hok; omega) with t | ⟨t, t3⟩
                · clear hok
                  go_wp2_with fail
                  refine wp_loop_rounds 1 ?_
                  rw [rounds_succ]
                  go_wp2_with fail
                  refine HT.out.mono ?_
                  rintro e w4 ⟨rfl, rfl⟩
                  have HS4 := Lib.hid (same_err 1 1 true rfl wr (HE.out.below HR.out.bel))
                  go_wp2_with fail
                  refine HS4.out.mono ?_
                  rintro e w5 ⟨rfl, hb5⟩
                  have HR5 := Lib.hid (HR.out.below hb5)
                  clear hb5 HS4 HR HT
                  go_wp2_with fail
                  refine (sameInts_none w5 none none 0 0).mono ?_
                  rintro e w6 ⟨rfl, hb6⟩
                  have HR := Lib.hid (HR5.out.below hb6)
                  clear hb6 HR5
                  as_aux_lemma =>
                    go_wp2_with fail
                    go_loopw [21, 22] (fun v21 v22 wr => ∃ k : Nat, v22 = .int .i64 k ∧ v21 = .int .i64 (cntK f k) ∧ k ≤ 64 ∧ Hid (RowW w wr p n f c f)) (fun _ v22 _ => 65 - (intOf v22).toNat)
                    case atStart => exact ⟨0, rfl, rfl, Nat.zero_le _, HR⟩
                    case round =>
                      clear HR
                      obtain ⟨k, rfl, rfl, hk, HR⟩ := hrel
                      by_cases hk64 : k < 64
                      · have u4 : (k : Int) < 64 := by omega
                        have cv := HR.out.vec.c k hk64
                        have hcl := cntK_le f k
                        by_cases hd0 : 0 < f k
                        · have HC1 := Lib.hid (cntK_yes f k hd0)
                          generalize f k = d at cv hd0
                          have q1 : (d : Int) > 0 := by omega
                          clear hd0
                          go_wp2_with fail
                          go_roundw
                          case rel => exact ⟨k + 1, by go_num, by rw [HC1.out]; go_num, by omega, HR⟩
                          case measure => simp [intOf]; omega
                        · have HC1 := Lib.hid (cntK_no f k hd0)
                          generalize f k = d at cv hd0
                          have q1 : ¬ (d : Int) > 0 := by omega
                          clear hd0
                          go_wp2_with fail
                          go_roundw
                          case rel => exact ⟨k + 1, by go_num, by rw [HC1.out], by omega, HR⟩
                          case measure => simp [intOf]; omega
                      · obtain rfl : k = 64 := by omega
                        obtain ⟨m0, hw0, _⟩ := HR.out.ex
                        have hL := wLen_any _ p m0 _ _ hw0
                        rw [← cntK_all] at hL
                        generalize cntK f 64 = ca at hL ⊢
                        have HLn := Lib.hid hL
                        have tca : ((ca : Int) != (ca : Int)) = false := by simp
                        clear hw0 hL hk64
                        go_wp2_with fail
                        refine HLn.out.mono ?_
                        rintro e wo ⟨rfl, rfl⟩
                        clear HLn
                        go_wp2_with fail
                        go_roundw
                        case rel => exact ⟨a + 1, n, by go_num, rfl, by omega, _, HR⟩
                        case measure => simp [intOf]; omega
                · clear hok
                  go_wp2_with fail
                  refine wp_loop_rounds 1 ?_
                  rw [rounds_succ]
                  go_wp2_with fail
                  refine HT.out.mono ?_
                  rintro e w4 ⟨rfl, rfl⟩
                  have HS4 := Lib.hid (same_err 1 1 true rfl wr (HE.out.below HR.out.bel))
                  go_wp2_with fail
                  refine HS4.out.mono ?_
                  rintro e w5 ⟨rfl, hb5⟩
                  have HR5 := Lib.hid (HR.out.below hb5)
                  clear hb5 HS4 HR HT
                  go_wp2_with fail
                  refine (sameInts_none w5 none none 0 0).mono ?_
                  rintro e w6 ⟨rfl, hb6⟩
                  have HR := Lib.hid (HR5.out.below hb6)
                  clear hb6 HR5
                  as_aux_lemma =>
                    go_wp2_with fail
                    go_loopw [21, 22] (fun v21 v22 wr => ∃ k : Nat, v22 = .int .i64 k ∧ v21 = .int .i64 (cntK f k) ∧ k ≤ 64 ∧ Hid (RowW w wr p n f c f)) (fun _ v22 _ => 65 - (intOf v22).toNat)
                    case atStart => exact ⟨0, rfl, rfl, Nat.zero_le _, HR⟩
                    case round =>
                      clear HR
                      obtain ⟨k, rfl, rfl, hk, HR⟩ := hrel
                      by_cases hk64 : k < 64
                      · have u4 : (k : Int) < 64 := by omega
                        have cv := HR.out.vec.c k hk64
                        have hcl := cntK_le f k
                        by_cases hd0 : 0 < f k
                        · have HC1 := Lib.hid (cntK_yes f k hd0)
                          generalize f k = d at cv hd0
                          have q1 : (d : Int) > 0 := by omega
                          clear hd0
                          go_wp2_with fail
                          go_roundw
                          case rel => exact ⟨k + 1, by go_num, by rw [HC1.out]; go_num, by omega, HR⟩
                          case measure => simp [intOf]; omega
                        · have HC1 := Lib.hid (cntK_no f k hd0)
                          generalize f k = d at cv hd0
                          have q1 : ¬ (d : Int) > 0 := by omega
                          clear hd0
                          go_wp2_with fail
                          go_roundw
                          case rel => exact ⟨k + 1, by go_num, by rw [HC1.out], by omega, HR⟩
                          case measure => simp [intOf]; omega
                      · obtain rfl : k = 64 := by omega
                        obtain ⟨m0, hw0, _⟩ := HR.out.ex
                        have hL := wLen_any _ p m0 _ _ hw0
                        rw [← cntK_all] at hL
                        generalize cntK f 64 = ca at hL ⊢
                        have HLn := Lib.hid hL
                        have tca : ((ca : Int) != (ca : Int)) = false := by simp
                        clear hw0 hL hk64
                        go_wp2_with fail
                        refine HLn.out.mono ?_
                        rintro e wo ⟨rfl, rfl⟩
                        clear HLn
                        go_wp2_with fail
                        go_roundw
                        case rel => exact ⟨a + 1, n, by go_num, rfl, by omega, _, HR⟩
                        case measure => simp [intOf]; omega
        · have K3 : ¬ (a : Int) < (n3 : Int) := by omega
          have HB := Lib.hid HR.out.bel
          clear HR
          go_wp2_with fail
          go_ret
          exact ⟨rfl, HB.out⟩
      · have K2 : ¬ (a : Int) < (n2 : Int) := by omega
        have HB := Lib.hid HR.out.bel
        clear HR
        go_wp2_with fail
        go_ret
        exact ⟨rfl, HB.out⟩
    · have K1 : ¬ (a : Int) < (n1 : Int) := by omega
      have HB := Lib.hid HR.out.bel
      clear HR
      go_wp2_with fail
      go_ret
      exact ⟨rfl, HB.out⟩
end Go.Proofs.YtdgfaolflnljaaaDoor
