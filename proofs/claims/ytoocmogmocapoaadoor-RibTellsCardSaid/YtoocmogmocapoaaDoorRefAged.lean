/-
  The document's own Aged of a rib; what lay in memory stays.
-/
import Derived.Test.YtoocmogmocapoaaDoorRefRib
namespace Go.Proofs.YtoocmogmocapoaaDoor
open Go.RowKit Go.Lib RibP

theorem Box.put1 {w : World} {b : Nat} {x y : Value} (h : Box w b x y) (y' : Value) : Box (w.setCell ⟨b, 1, none⟩ y') b x y' :=
  ⟨by simpa [World.setCell] using h.lt, (World.cell?_setCell_other _ _ _ _ (by simp)).trans h.c0, World.cell?_setCell_same _ _ _ h.c1, by rw [World.frozen?_setCell]; exact h.f0, by rw [World.frozen?_setCell]; exact h.f1⟩
theorem AppTo.keep {w w' : World} {v v' : Value} (h : AppTo w v w' v') : Keep (fun x => v.ownBlock = some x) w w' := ⟨h.grown.os, h.grown.tape, h.grown.output, h.grown.size, fun k hk hn => h.grown.block k hk fun e => hn e.symm⟩
theorem Keep.alloc' {S : Nat → Prop} {w W : World} (h : Keep S w W) (x : Obj) : Keep S w (W.alloc x) := h.trans (Keep.alloc S W x)

set_option maxHeartbeats 8000000 in
set_option maxRecDepth 100000 in
theorem refAged_any (w : World) (now0 : Int) (v : Value) (M : List Rt) (now : Int) (hlen : M.length ≤ 64) (h : LArg w v M) (hM : ∀ e ∈ M, e.h.m ≤ 16 ∧ 0 ≤ e.t ∧ e.t ≤ now) (hn : now ≤ 1099511627776) :
    Calls Tryd.prog 13 #[.agg #[.int .i64 now0, v], .int .i64 now] w fun r w' => ∃ v', r = .returned (.agg #[.int .i64 now, v']) ∧ LOwn 59 w' w.heap.size v' (age now M) ∧ Below w.heap.size w w' := by
  obtain ⟨pm, cm, rfl, _⟩ := id h
  have HA := Lib.hid h
  have HM := Lib.hid hM
  clear h hM
  have hX := ((Box.new w (.int .i64 now0) (.slice pm M.length cm) 29).alloc (.cells #[.int .i64 0, .slice none 0 0] 29)).alloc (.cells #[.int .i64 now, .slice none 0 0] 29)
  have hY := (Box.new (w.alloc (.cells #[.int .i64 now0, .slice pm M.length cm] 29)) (.int .i64 0) (.slice none 0 0) 29).alloc (.cells #[.int .i64 now, .slice none 0 0] 29)
  have hZ := Box.new ((w.alloc (.cells #[.int .i64 now0, .slice pm M.length cm] 29)).alloc (.cells #[.int .i64 0, .slice none 0 0] 29)) (.int .i64 now) (.slice none 0 0) 29
  have hB := (((Below.refl w.heap.size w).alloc (Nat.le_refl _) (.cells #[.int .i64 now0, .slice pm M.length cm] 29)).alloc (by simp) (.cells #[.int .i64 0, .slice none 0 0] 29)).alloc (by simp; omega) (.cells #[.int .i64 now, .slice none 0 0] 29)
  have hsz : (((w.alloc (.cells #[.int .i64 now0, .slice pm M.length cm] 29)).alloc (.cells #[.int .i64 0, .slice none 0 0] 29)).alloc (.cells #[.int .i64 now, .slice none 0 0] 29)).heap.size = w.heap.size + 3 := by simp
  simp only [World.size_alloc] at hX hY hZ
  go_enter Tryd.func13, Tryd.ntmps13
  go_wp2_with fail
  have HX := Lib.hid hX; have HYb := Lib.hid hY; have HB := Lib.hid hB
  have HSZ := Lib.hid hsz
  have HZ := Lib.hid hZ
  clear hX hY hZ hB hsz
  generalize ((w.alloc (.cells #[.int .i64 now0, .slice pm M.length cm] 29)).alloc (.cells #[.int .i64 0, .slice none 0 0] 29)).alloc (.cells #[.int .i64 now, .slice none 0 0] 29) = wA at HX HYb HB HSZ HZ ⊢
  go_loopw [6] (fun v wr => ∃ (k : Nat) (u : Value), v = .int .i64 k ∧ k ≤ M.length ∧ Hid (Keep (fun x => x = w.heap.size + 1 + 1) wA wr) ∧ Hid (Box wr (w.heap.size + 1 + 1) (.int .i64 now) u) ∧ Hid (LOwn 59 wr wA.heap.size u (age now (M.take k)))) (fun v _ => M.length - (RowKit.intOf v).toNat)
  case atStart => exact ⟨0, _, rfl, Nat.zero_le _, Lib.hid (Keep.refl _ _), HZ, Lib.hid (LOwn.nil _ _ _)⟩
  case round =>
    obtain ⟨k, u, rfl, hk, hB, hZ, hO⟩ := hrel
    have hX := HX.out.ofBlock (hB.out.block w.heap.size (by have := HSZ.out; omega) (by omega)) hB.out.size
    obtain ⟨_, x0, x1, _, _⟩ := hX
    obtain ⟨_, z0, z1, fz0, fz1⟩ := hZ.out
    by_cases hkn : k < M.length
    · have hlA := HA.out
      obtain ⟨_, _, hvv, _, hlB⟩ := hlA
      injection hvv with e1 _ e3
      subst e1; subst e3
      rcases hlB with hnil | ⟨b, off, rfl, hlt, hs⟩
      · rw [hnil] at hkn; simp at hkn
      · have hbw := (HB.out.block b hlt)
        have hbr := (hB.out.block b (by have := HSZ.out; omega) (by omega)).trans hbw
        obtain ⟨b0, b1, b2, b3, b4⟩ := ((hs k hkn).ofBlock hbr).rt
        have a0 : wr.cell? ⟨b, off + k * 5, none⟩ = _ := b0
        have a1 : wr.cell? ⟨b, off + k * 5 + 1, none⟩ = _ := b1
        have a2 : wr.cell? ⟨b, off + k * 5 + 2, none⟩ = _ := b2
        have a3 : wr.cell? ⟨b, off + k * 5 + 3, none⟩ = _ := b3
        have a4 : wr.cell? ⟨b, off + k * 5 + 4, none⟩ = _ := b4
        have he := HM.out M[k]! (by rw [getElem!_pos M k hkn]; exact List.getElem_mem hkn)
        have HP := Lib.hid (age_yes now M k hkn)
        have HN := Lib.hid (age_no now M k hkn)
        have hl1 := Lib.hid (show (age now (M.take k)).length ≤ 64 from Nat.le_trans (age_len _ _) (by rw [List.length_take]; omega))
        clear b0 b1 b2 b3 b4 hs hbw hbr
        generalize M[k]! = x at a0 a1 a2 a3 a4 he HP HN
        obtain ⟨⟨f, ⟨a, l⟩, m⟩, t⟩ := x
        obtain ⟨hm, ht0, ht1⟩ := he
        dsimp only at a0 a1 a2 a3 a4 hm ht0 ht1
        have hw : IntKind.i64.wrap (now - t) = now - t := by rw [IntKind.wrap_i64]; omega
        by_cases c1 : m < 16
        · by_cases c2 : 180 ≤ now - t
          · have hw2 : IntKind.i64.wrap (t + 180) = t + 180 := by rw [IntKind.wrap_i64]; omega
            have hw3 : IntKind.i64.wrap (now - (t + 180)) = now - (t + 180) := by rw [IntKind.wrap_i64]; omega
            have HY := Lib.hid (show ageR now ⟨⟨f, (a, l), m⟩, t⟩ = ⟨⟨f, (a, l), 16⟩, t + 180⟩ by rw [ageR_lt _ _ hm]; exact if_pos ⟨c1, c2⟩)
            by_cases c3 : now - (t + 180) < 120
            · have HK := Lib.hid (show kpt now ⟨⟨f, (a, l), 16⟩, t + 180⟩ = true from decide_eq_true (Or.inr c3))
              have HM2 := Lib.hid (show age now (M.take (k + 1)) = age now (M.take k) ++ [⟨⟨f, (a, l), 16⟩, (t + 180)⟩] from by rw [← HY.out]; exact HP.out (by rw [HY.out]; exact HK.out))
              clear HK
              have O1 := Lib.hid ((hO.out.keep ((Below.refl wr.heap.size wr).alloc (Nat.le_refl _) (.cells #[.int .i64 f, .int .u32 (a : Int), .int .i64 l, .int .i64 16, .int .i64 (t + 180)] 59))).keep ((Below.refl _ _).alloc (Nat.le_refl _) (.cells #[.int .i64 f, .int .u32 (a : Int), .int .i64 l, .int .i64 16, .int .i64 (t + 180)] 59)))
              go_wp2_with (at_builtin; refine wpList_plain rfl fun K' hK' => ?_; refine wp_append_L1 tyT _ _ rfl wA.heap.size _ (age now (M.take k)) ⟨⟨f, (a, l), 16⟩, (t + 180)⟩ (wr.heap.size + 1) 1 rfl rfl O1.out (LAt.ofRt (by simp) (by simp) (by simp) (by simp) (by simp)) (by have := hl1.out; omega) (by have := hl1.out; simp only [maxLen]; omega) (by have := hB.out.size; simp; omega) ?q1a)
              case q1a =>
                intro v' w4 hO4 hA4
                refine hK' _ _ ?_
                have BB := ((Below.refl wr.heap.size wr).alloc (Nat.le_refl _) (.cells #[.int .i64 f, .int .u32 (a : Int), .int .i64 l, .int .i64 16, .int .i64 (t + 180)] 59)).alloc (by simp) (.cells #[.int .i64 f, .int .u32 (a : Int), .int .i64 l, .int .i64 16, .int .i64 (t + 180)] 59)
                have hne : u.ownBlock ≠ some (w.heap.size + 1 + 1) := fun e => by have := (hO.out.lt _ e).1; have := HSZ.out; omega
                have Z4 := (hZ.out.below BB hZ.out.lt).app hA4 hne
                have O4 := Lib.hid hO4
                have K4 := Lib.hid ((hB.out.trans (Keep.of BB)).then hA4.keep fun j hj => Or.inr (hO.out.lt j hj).1)
                have ZZ := Lib.hid Z4
                obtain ⟨_, z0, z1, y0, y1⟩ := Z4
                obtain ⟨q4, n4, hv4, _, _⟩ := hO4.arg
                obtain ⟨m4, hm4⟩ : ∃ m4, m4 = (age now (M.take k) ++ [(⟨⟨f, (a, l), 16⟩, (t + 180)⟩ : Rt)]).length := ⟨_, rfl⟩
                rw [← hm4] at hv4
                clear hm4 hO4 hA4 BB hne
                subst hv4
                go_wp2_with fail
                go_roundw
                case rel => exact ⟨k + 1, _, by go_num, by omega, Lib.hid (K4.out.trans (Keep.setCell (fun x => x = w.heap.size + 1 + 1) _ _ _ _ rfl)), Lib.hid (ZZ.out.put1 _), Lib.hid (by rw [HM2.out]; exact O4.out.stay (Keep.setCell (fun x => x = w.heap.size + 1 + 1) _ _ _ _ rfl) (fun g hg e => by have := (O4.out.lt g hg).1; have := HSZ.out; omega))⟩
                case measure => simp [RowKit.intOf]; omega
            · have HK := Lib.hid (show kpt now ⟨⟨f, (a, l), 16⟩, t + 180⟩ = false from decide_eq_false fun h => h.elim (fun h => h rfl) c3)
              have HM2 := Lib.hid (show age now (M.take (k + 1)) = age now (M.take k) from HN.out (by rw [HY.out]; exact HK.out))
              clear HK
              go_wp2_with fail
              go_roundw
              case rel => exact ⟨k + 1, u, by go_num, by omega, Lib.hid (hB.out.alloc' _), Lib.hid (hZ.out.kept ((Below.refl _ _).alloc (Nat.le_refl _) _)), Lib.hid (by rw [HM2.out]; exact hO.out.keep ((Below.refl _ _).alloc (Nat.le_refl _) _))⟩
              case measure => simp [RowKit.intOf]; omega
          · have HY := Lib.hid (show ageR now ⟨⟨f, (a, l), m⟩, t⟩ = ⟨⟨f, (a, l), m⟩, t⟩ by rw [ageR_lt _ _ hm]; exact if_neg fun h => c2 h.2)
            have HK := Lib.hid (show kpt now ⟨⟨f, (a, l), m⟩, t⟩ = true by rw [kpt_lt _ _ hm]; exact decide_eq_true (Or.inl c1))
            have HM2 := Lib.hid (show age now (M.take (k + 1)) = age now (M.take k) ++ [⟨⟨f, (a, l), m⟩, t⟩] from by rw [← HY.out]; exact HP.out (by rw [HY.out]; exact HK.out))
            clear HK
            have O1 := Lib.hid ((hO.out.keep ((Below.refl wr.heap.size wr).alloc (Nat.le_refl _) (.cells #[.int .i64 f, .int .u32 (a : Int), .int .i64 l, .int .i64 m, .int .i64 t] 59))).keep ((Below.refl _ _).alloc (Nat.le_refl _) (.cells #[.int .i64 f, .int .u32 (a : Int), .int .i64 l, .int .i64 m, .int .i64 t] 59)))
            go_wp2_with (at_builtin; refine wpList_plain rfl fun K' hK' => ?_; refine wp_append_L1 tyT _ _ rfl wA.heap.size _ (age now (M.take k)) ⟨⟨f, (a, l), m⟩, t⟩ (wr.heap.size + 1) 1 rfl rfl O1.out (LAt.ofRt (by simp) (by simp) (by simp) (by simp) (by simp)) (by have := hl1.out; omega) (by have := hl1.out; simp only [maxLen]; omega) (by have := hB.out.size; simp; omega) ?q2)
            case q2 =>
              intro v' w4 hO4 hA4
              refine hK' _ _ ?_
              have BB := ((Below.refl wr.heap.size wr).alloc (Nat.le_refl _) (.cells #[.int .i64 f, .int .u32 (a : Int), .int .i64 l, .int .i64 m, .int .i64 t] 59)).alloc (by simp) (.cells #[.int .i64 f, .int .u32 (a : Int), .int .i64 l, .int .i64 m, .int .i64 t] 59)
              have hne : u.ownBlock ≠ some (w.heap.size + 1 + 1) := fun e => by have := (hO.out.lt _ e).1; have := HSZ.out; omega
              have Z4 := (hZ.out.below BB hZ.out.lt).app hA4 hne
              have O4 := Lib.hid hO4
              have K4 := Lib.hid ((hB.out.trans (Keep.of BB)).then hA4.keep fun j hj => Or.inr (hO.out.lt j hj).1)
              have ZZ := Lib.hid Z4
              obtain ⟨_, z0, z1, y0, y1⟩ := Z4
              obtain ⟨q4, n4, hv4, _, _⟩ := hO4.arg
              obtain ⟨m4, hm4⟩ : ∃ m4, m4 = (age now (M.take k) ++ [(⟨⟨f, (a, l), m⟩, t⟩ : Rt)]).length := ⟨_, rfl⟩
              rw [← hm4] at hv4
              clear hm4 hO4 hA4 BB hne
              subst hv4
              go_wp2_with fail
              go_roundw
              case rel => exact ⟨k + 1, _, by go_num, by omega, Lib.hid (K4.out.trans (Keep.setCell (fun x => x = w.heap.size + 1 + 1) _ _ _ _ rfl)), Lib.hid (ZZ.out.put1 _), Lib.hid (by rw [HM2.out]; exact O4.out.stay (Keep.setCell (fun x => x = w.heap.size + 1 + 1) _ _ _ _ rfl) (fun g hg e => by have := (O4.out.lt g hg).1; have := HSZ.out; omega))⟩
              case measure => simp [RowKit.intOf]; omega
        · have HY := Lib.hid (show ageR now ⟨⟨f, (a, l), m⟩, t⟩ = ⟨⟨f, (a, l), m⟩, t⟩ by rw [ageR_lt _ _ hm]; exact if_neg fun h => c1 h.1)
          by_cases c3 : now - t < 120
          · have HK := Lib.hid (show kpt now ⟨⟨f, (a, l), m⟩, t⟩ = true by rw [kpt_lt _ _ hm]; exact decide_eq_true (Or.inr c3))
            have HM2 := Lib.hid (show age now (M.take (k + 1)) = age now (M.take k) ++ [⟨⟨f, (a, l), m⟩, t⟩] from by rw [← HY.out]; exact HP.out (by rw [HY.out]; exact HK.out))
            clear HK
            have O1 := Lib.hid ((hO.out.keep ((Below.refl wr.heap.size wr).alloc (Nat.le_refl _) (.cells #[.int .i64 f, .int .u32 (a : Int), .int .i64 l, .int .i64 m, .int .i64 t] 59))).keep ((Below.refl _ _).alloc (Nat.le_refl _) (.cells #[.int .i64 f, .int .u32 (a : Int), .int .i64 l, .int .i64 m, .int .i64 t] 59)))
            go_wp2_with (at_builtin; refine wpList_plain rfl fun K' hK' => ?_; refine wp_append_L1 tyT _ _ rfl wA.heap.size _ (age now (M.take k)) ⟨⟨f, (a, l), m⟩, t⟩ (wr.heap.size + 1) 1 rfl rfl O1.out (LAt.ofRt (by simp) (by simp) (by simp) (by simp) (by simp)) (by have := hl1.out; omega) (by have := hl1.out; simp only [maxLen]; omega) (by have := hB.out.size; simp; omega) ?q3a)
            case q3a =>
              intro v' w4 hO4 hA4
              refine hK' _ _ ?_
              have BB := ((Below.refl wr.heap.size wr).alloc (Nat.le_refl _) (.cells #[.int .i64 f, .int .u32 (a : Int), .int .i64 l, .int .i64 m, .int .i64 t] 59)).alloc (by simp) (.cells #[.int .i64 f, .int .u32 (a : Int), .int .i64 l, .int .i64 m, .int .i64 t] 59)
              have hne : u.ownBlock ≠ some (w.heap.size + 1 + 1) := fun e => by have := (hO.out.lt _ e).1; have := HSZ.out; omega
              have Z4 := (hZ.out.below BB hZ.out.lt).app hA4 hne
              have O4 := Lib.hid hO4
              have K4 := Lib.hid ((hB.out.trans (Keep.of BB)).then hA4.keep fun j hj => Or.inr (hO.out.lt j hj).1)
              have ZZ := Lib.hid Z4
              obtain ⟨_, z0, z1, y0, y1⟩ := Z4
              obtain ⟨q4, n4, hv4, _, _⟩ := hO4.arg
              obtain ⟨m4, hm4⟩ : ∃ m4, m4 = (age now (M.take k) ++ [(⟨⟨f, (a, l), m⟩, t⟩ : Rt)]).length := ⟨_, rfl⟩
              rw [← hm4] at hv4
              clear hm4 hO4 hA4 BB hne
              subst hv4
              go_wp2_with fail
              go_roundw
              case rel => exact ⟨k + 1, _, by go_num, by omega, Lib.hid (K4.out.trans (Keep.setCell (fun x => x = w.heap.size + 1 + 1) _ _ _ _ rfl)), Lib.hid (ZZ.out.put1 _), Lib.hid (by rw [HM2.out]; exact O4.out.stay (Keep.setCell (fun x => x = w.heap.size + 1 + 1) _ _ _ _ rfl) (fun g hg e => by have := (O4.out.lt g hg).1; have := HSZ.out; omega))⟩
              case measure => simp [RowKit.intOf]; omega
          · have HK := Lib.hid (show kpt now ⟨⟨f, (a, l), m⟩, t⟩ = false by rw [kpt_lt _ _ hm]; exact decide_eq_false fun h => h.elim c1 c3)
            have HM2 := Lib.hid (show age now (M.take (k + 1)) = age now (M.take k) from HN.out (by rw [HY.out]; exact HK.out))
            clear HK
            go_wp2_with fail
            go_roundw
            case rel => exact ⟨k + 1, u, by go_num, by omega, Lib.hid (hB.out.alloc' _), Lib.hid (hZ.out.kept ((Below.refl _ _).alloc (Nat.le_refl _) _)), Lib.hid (by rw [HM2.out]; exact hO.out.keep ((Below.refl _ _).alloc (Nat.le_refl _) _))⟩
            case measure => simp [RowKit.intOf]; omega
    · have e : M.take k = M := List.take_of_length_le (by omega)
      have hY := HYb.out.ofBlock (hB.out.block (w.heap.size + 1) (by have := HSZ.out; omega) (by omega)) hB.out.size
      have HY := Lib.hid hY
      obtain ⟨_, y0, y1, fy0, fy1⟩ := hY
      have hO' := hO.out
      rw [e] at hO'
      have HO := Lib.hid hO'
      obtain ⟨q4, n4, hv4, _, _⟩ := hO'.arg
      obtain ⟨m4, hm4⟩ : ∃ m4, m4 = (age now M).length := ⟨_, rfl⟩
      rw [← hm4] at hv4
      clear hm4 hO'
      subst hv4
      go_wp2_with fail
      have KK := (Keep.setCell (fun x => x = w.heap.size + 1) wr (w.heap.size + 1) 0 (.int .i64 now) rfl).trans (Keep.setCell (fun x => x = w.heap.size + 1) _ (w.heap.size + 1) 1 (.slice q4 m4 n4) rfl)
      refine bodyPost_rib (s := 4) Tryd.results13 rfl (HY.out.set _ _) rfl ⟨_, rfl, (HO.out.stay KK fun g hg e => by have := (HO.out.lt g hg).1; have := HSZ.out; omega).down (by have := HSZ.out; omega), ?_⟩
      exact (HB.out.trans ((hB.out.below (fun b e => by omega) (by have := HSZ.out; omega)))).trans (KK.below (fun b e => by omega) (by have := hB.out.size; have := HSZ.out; omega))
end Go.Proofs.YtoocmogmocapoaaDoor
