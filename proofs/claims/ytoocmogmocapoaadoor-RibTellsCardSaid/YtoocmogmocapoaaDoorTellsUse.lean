/-
  rib's Lose: whom it refuses, and what it leaves.
  The document's own Lost of a rib; what lay in memory stays.
  Lose, on a rib that the call has made.
  The statements' own comparison of two lists of what was heard; what lay in memory stays.
  Is an error of the document's the one told? What lay in memory stays. Condition: the library's variable errors.errorType is as its text lays it.
  A rib that the call has made and the document's own rib beside it: what each act does to them.
  The fact that the statements begin with; a rib of one route.
-/
import Derived.Test.YtoocmogmocapoaaDoorRibActs
import Derived.LoopN
import Derived.Test.YtoocmogmocapoaaDoorRefAged
import Derived.Test.YtoocmogmocapoaaDoorHeld
import Derived.Test.YtoocmogmocapoaaDoorRibUse
import Derived.Test.YtoocmogmocapoaaDoorRibMem
import Derived.Lib.Hide
import Derived.Lib.Walk
import Derived.Test.YtoocmogmocapoaaDoorErrTold
import Derived.Test.YtoocmogmocapoaaDoorErrV
import Derived.Test.YtoocmogmocapoaaDoorRefLearnt
namespace Go.Proofs.YtoocmogmocapoaaDoor
open Go.RowKit Go.Lib RibP

namespace RibP
theorem lose_at (f now : Int) (L : List Rt) (k : Nat) (hk : k < L.length) : lose f now (L.take k) ++ L.drop k = (lose f now (L.take k) ++ L.drop k) ∧ (lose f now (L.take k) ++ L.drop k)[k]! = L[k]! := by
  refine ⟨rfl, ?_⟩
  have hl : (lose f now (L.take k)).length = k := by unfold lose; rw [List.length_map, List.length_take]; omega
  rw [getElem!_pos _ k (by rw [List.length_append, hl, List.length_drop]; omega), getElem!_pos L k hk, List.getElem_append_right (by omega)]
  simp [hl]
theorem lose_len (f now : Int) (L : List Rt) (k : Nat) : (lose f now (L.take k) ++ L.drop k).length = L.length := by
  unfold lose
  rw [List.length_append, List.length_map, List.length_take, List.length_drop]; omega
theorem lose_step (f now : Int) (L : List Rt) (k : Nat) (hk : k < L.length) : lose f now (L.take (k + 1)) ++ L.drop (k + 1) = (lose f now (L.take k) ++ L.drop k).set k (loseR f now L[k]!) := by
  have hl : (lose f now (L.take k)).length = k := by unfold lose; rw [List.length_map, List.length_take]; omega
  rw [List.set_append_right _ _ (by omega), hl, Nat.sub_self, List.drop_eq_getElem_cons hk, List.set_cons_zero, take_more L k hk]
  unfold lose
  rw [List.map_append, List.map_cons, List.map_nil, List.append_assoc, List.singleton_append]
theorem lose_end (f now : Int) (L : List Rt) (k : Nat) (hk : L.length ≤ k) : lose f now (L.take k) ++ L.drop k = lose f now L := by
  rw [List.take_of_length_le hk, List.drop_eq_nil_of_le hk, List.append_nil]
theorem lose_stay (f now : Int) (L : List Rt) (k : Nat) (hk : k < L.length) (h : loseR f now L[k]! = L[k]!) : lose f now (L.take (k + 1)) ++ L.drop (k + 1) = lose f now (L.take k) ++ L.drop k := by
  rw [lose_step f now L k hk, h]
  have hl := lose_len f now L k
  have ha := (lose_at f now L k hk).2
  rw [← ha, getElem!_pos _ k (by rw [hl]; exact hk), List.set_getElem_self]
theorem lose_nil (f now : Int) : lose f now [] = [] := rfl
end RibP

set_option maxHeartbeats 4000000 in
set_option maxRecDepth 100000 in
theorem rLose_ok {w : World} {p : Nat} {v : Value} {now : Int} {L : List Rt} (h : Rbd w p v now L) (f t : Int) (k1 : okT now t ∧ near f) :
    Calls Tryd.prog 10 #[.pointer (some ⟨p, 0, none⟩), .int .i64 f, .int .i64 t] w fun r w' => r = .returned .nilIface ∧ RStp w w' p v (t, lose f t (age t L)) := by
  have hN := checkFrom_any (L := L) h.box f t
  rw [show errV (nearE (now, L) f t) = .nilIface by unfold nearE; rw [if_pos k1]; rfl] at hN
  have HN := Lib.hid hN
  have H := Lib.hid h
  have K1 := Lib.hid k1
  clear hN h k1
  go_enter Tryd.func10, Tryd.ntmps10
  go_wp2_with fail
  refine HN.out.mono ?_
  rintro r w1 ⟨rfl, hb1⟩
  have B1 := Lib.hid hb1
  clear hb1
  go_wp2_with fail
  refine (aged_any (H.out.below B1.out) t K1.out.1.1 K1.out.1.2).mono ?_
  rintro r w2 ⟨v2, rfl, ho, hb2⟩
  have hlen := Nat.le_trans (age_len t L) H.out.good.len
  have B2 := Lib.hid (Below.two B1.out hb2)
  have B12 := Lib.hid hb2
  have HR := Lib.hid (show Rib (t, lose f t (age t L)) from by
    have h1 := H.out.n0
    have h2 := K1.out.1.1
    exact ⟨(H.out.good.age h2).lose f (by omega), (by show 0 ≤ t; omega), K1.out.1.2⟩)
  obtain ⟨A, hA⟩ : ∃ A, A = age t L := ⟨_, rfl⟩
  rw [← hA] at ho hlen HR
  have HAE := Lib.hid hA
  clear hA
  rcases ho.form with ⟨rfl, rfl⟩ | ⟨g, c, rfl, hg, hgl, hc, hs, hf⟩
  · clear ho hb2
    go_wp2_with fail
    refine wp_loop_rounds 1 ?_
    rw [rounds_succ]
    have b2 := H.out.box.kept B2.out
    obtain ⟨blt, c0, c1, f0, f1⟩ := b2
    go_wp2_with fail
    go_ret
    rw [← HAE.out]
    exact ⟨rfl, RStp.put (s := (t, lose f t [])) H.out B2.out (LArg.nil _) (fun g hg => by cases hg) HR.out⟩
  · have HF := Lib.hid hf
    have HS := Lib.hid hs
    have HC := Lib.hid hc
    have hgw : w.heap.size ≤ g := Nat.le_trans B1.out.size hg
    clear ho hb2 hs hf hc
    go_wp2_with fail
    go_loopw [23] (fun v wr => ∃ (k : Nat), v = .int .i64 k ∧ k ≤ A.length ∧ Hid (Below w.heap.size w wr ∧ Keep (fun x => x = g) w2 wr) ∧ Hid (LSeen wr g 0 (lose f t (A.take k) ++ A.drop k)) ∧ Hid (∀ o, wr.frozen? ⟨g, o, none⟩ = false)) (fun v _ => A.length - (RowKit.intOf v).toNat)
    case atStart => exact ⟨0, rfl, Nat.zero_le _, Lib.hid ⟨B2.out, Keep.refl _ _⟩, Lib.hid HS.out, HF⟩
    case round =>
      obtain ⟨k, rfl, hk, hB, hS, hF⟩ := hrel
      by_cases hkn : k < A.length
      · have ha := lose_at f t A k hkn
        have hx := hS.out k (by rw [lose_len]; exact hkn)
        rw [ha.2] at hx
        obtain ⟨b0, b1, b2, b3, b4⟩ := hx.rt
        have a0 : wr.cell? ⟨g, 0 + k * 5, none⟩ = _ := b0
        have a1 : wr.cell? ⟨g, 0 + k * 5 + 1, none⟩ = _ := b1
        have a2 : wr.cell? ⟨g, 0 + k * 5 + 2, none⟩ = _ := b2
        have a3 : wr.cell? ⟨g, 0 + k * 5 + 3, none⟩ = _ := b3
        have a4 : wr.cell? ⟨g, 0 + k * 5 + 4, none⟩ = _ := b4
        simp only [Nat.zero_add] at a0 a1 a2 a3 a4
        have HST := Lib.hid (lose_step f t A k hkn)
        have HSY := Lib.hid (lose_stay f t A k hkn)
        clear b0 b1 b2 b3 b4 hx ha
        obtain ⟨e, he⟩ : ∃ e, e = A[k]! := ⟨_, rfl⟩
        rw [← he] at a0 a1 a2 a3 a4 HST HSY
        clear he
        have HLE := Lib.hid fun W b hb => lost_any W e.h.f e.h.n.1 e.h.n.2 e.h.m e.t b hb
        have hgr : g < wr.heap.size := Nat.lt_of_lt_of_le hgl hB.out.2.size
        by_cases h1 : e.h.f = f
        · have t1 : (e.h.f == f) = true := by simpa using h1
          by_cases h2 : e.h.m = 16
          · have t2 := Lib.hid (show (e.h.m == 16) = true by simpa using h2)
            have hsy := Lib.hid (HSY.out (by unfold loseR; rw [if_neg (fun h => h.2 h2)]))
            clear h2 HSY HST
            rw [h1] at a0 HLE
            clear t1 h1
            go_wp2_with fail
            refine (HLE.out _ true t2.out).mono ?_
            rintro r w3 ⟨rfl, hb3⟩
            have hB3 := Lib.hid (And.intro (Below.two hB.out.1 hb3) (hB.out.2.trans (Keep.of hb3)))
            have hS3 := Lib.hid (hS.out.below hb3 hgr)
            have hF3 := Lib.hid fun o => (World.frozen?_of_block (w := wr) (a := ⟨g, o, none⟩) (hb3.block g hgr)).trans (hF.out o)
            clear hb3 a0 a1 a2 a3 a4
            go_wp2_with fail
            go_roundw
            case rel => exact ⟨k + 1, by go_num, by omega, hB3, Lib.hid (by rw [hsy.out]; exact hS3.out), hF3⟩
            case measure => simp [RowKit.intOf]; omega
          · have t2 := Lib.hid (show (e.h.m == 16) = false by simpa using h2)
            have hst := Lib.hid (show loseR f t e = ⟨⟨e.h.f, e.h.n, 16⟩, t⟩ by unfold loseR; rw [if_pos ⟨h1, h2⟩])
            clear h2 HSY
            have HE1 := Lib.hid h1
            rw [h1] at a0 HLE
            clear t1 h1
            go_wp2_with fail
            refine (HLE.out _ false t2.out).mono ?_
            rintro r w3 ⟨rfl, hb3⟩
            have hB3 := Lib.hid (And.intro (Below.two hB.out.1 hb3) (hB.out.2.trans (Keep.of hb3)))
            have hS3 := Lib.hid (hS.out.below hb3 hgr)
            have hF3 := Lib.hid fun o => (World.frozen?_of_block (w := wr) (a := ⟨g, o, none⟩) (hb3.block g hgr)).trans (hF.out o)
            have d0 := (hb3.cell (p := ⟨g, k * 5, none⟩) hgr).trans a0
            have d1 := (hb3.cell (p := ⟨g, k * 5 + 1, none⟩) hgr).trans a1
            have d2 := (hb3.cell (p := ⟨g, k * 5 + 2, none⟩) hgr).trans a2
            have d3 := (hb3.cell (p := ⟨g, k * 5 + 3, none⟩) hgr).trans a3
            have d4 := (hb3.cell (p := ⟨g, k * 5 + 4, none⟩) hgr).trans a4
            have f3 := hF3.out (k * 5 + 3)
            have f4 := hF3.out (k * 5 + 4)
            clear hb3 a0 a1 a2 a3 a4
            go_wp2_with fail
            go_roundw
            case rel =>
              have kp : Keep (fun x => x = g) w3 ((w3.setCell ⟨g, k * 5 + 3, none⟩ (.int .i64 16)).setCell ⟨g, k * 5 + 4, none⟩ (.int .i64 t)) := (Keep.setCell (fun x => x = g) w3 g _ _ rfl).trans (Keep.setCell (fun x => x = g) _ g _ _ rfl)
              refine ⟨k + 1, by go_num, by omega, Lib.hid ⟨hB3.out.1.trans (kp.below (fun b e => e ▸ hgw) hB3.out.1.size), hB3.out.2.trans kp⟩, Lib.hid ?_, Lib.hid fun o => by simp only [World.frozen?_setCell]; exact hF3.out o⟩
              rw [HST.out, hst.out]
              refine hS3.out.set k _ ?_ fun o ho => ?_
              · have ee : 0 + k * Cel.k Rt = k * 5 := by rw [Nat.zero_add]; rfl
                rw [ee]
                have key : ∀ {j : Nat} {u : Value}, w3.cell? ⟨g, j, none⟩ = some u → _ := fun {j u} h => set_at (k * 5 + 4) (.int .i64 t) (set_at (k * 5 + 3) (.int .i64 16) h)
                refine LAt.ofRt ?_ ?_ ?_ ?_ ?_
                · rw [key d0, if_neg (by omega), if_neg (by omega), HE1.out]
                · rw [key d1, if_neg (by omega), if_neg (by omega)]
                · rw [key d2, if_neg (by omega), if_neg (by omega)]
                · rw [key d3, if_neg (by omega), if_pos rfl]
                · rw [key d4, if_pos rfl]
              · have ho' : o < 0 + k * 5 ∨ 0 + k * 5 + 5 ≤ o := ho
                have ne : ∀ q : Nat, o ≠ q → (⟨g, q, none⟩ : Addr) ≠ ⟨g, o, none⟩ := fun q hq e => hq (congrArg Addr.off e).symm
                rw [World.cell?_setCell_other _ _ _ _ (ne _ (by omega)), World.cell?_setCell_other _ _ _ _ (ne _ (by omega))]
            case measure => simp [RowKit.intOf]; omega
        · have t1 : (e.h.f == f) = false := by simpa using h1
          have hsy := Lib.hid (HSY.out (by unfold loseR; rw [if_neg (fun h => h1 h.1)]))
          clear h1 HSY HST
          go_wp2_with fail
          go_roundw
          case rel => exact ⟨k + 1, by go_num, by omega, hB, Lib.hid (by rw [hsy.out]; exact hS.out), hF⟩
          case measure => simp [RowKit.intOf]; omega
      · have hend := Lib.hid (lose_end f t A k (by omega))
        have b2 := H.out.box.kept hB.out.1
        obtain ⟨blt, c0, c1, f0, f1⟩ := b2
        go_wp2_with fail
        go_ret
        rw [← HAE.out]
        refine ⟨rfl, RStp.put (s := (t, lose f t A)) H.out hB.out.1 ⟨some ⟨g, 0, none⟩, c, by unfold lose; rw [List.length_map], by unfold lose; rw [List.length_map]; exact HC.out, Or.inr ⟨g, 0, rfl, Nat.lt_of_lt_of_le hgl hB.out.2.size, ?_⟩⟩ (fun j hj => by cases hj; exact ⟨hgw, Nat.lt_of_lt_of_le hgl hB.out.2.size⟩) HR.out⟩
        rw [← hend.out]; exact hS.out

set_option maxHeartbeats 400000 in
set_option maxRecDepth 100000 in
theorem rLose_bad {w : World} {p : Nat} {v : Value} {now : Int} {L : List Rt} (h : Rbd w p v now L) (f t : Int) (k1 : ¬ (okT now t ∧ near f)) :
    Calls Tryd.prog 10 #[.pointer (some ⟨p, 0, none⟩), .int .i64 f, .int .i64 t] w fun r w' => r = .returned (.iface 30 (.int .i64 1)) ∧ RStp w w' p v (now, L) := by
  have hN := checkFrom_any (L := L) h.box f t
  rw [show errV (nearE (now, L) f t) = .iface 30 (.int .i64 1) by unfold nearE; rw [if_neg k1]; rfl] at hN
  have HN := Lib.hid hN
  have H := Lib.hid h
  clear hN h k1
  go_enter Tryd.func10, Tryd.ntmps10
  go_wp2_with fail
  refine HN.out.mono ?_
  rintro r w1 ⟨rfl, hb1⟩
  go_wp2_with fail
  go_ret
  exact ⟨rfl, RStp.same H.out hb1⟩
theorem rLose_any {w : World} {p : Nat} {v : Value} {now : Int} {L : List Rt} (h : Rbd w p v now L) (f t : Int) :
    Calls Tryd.prog 10 #[.pointer (some ⟨p, 0, none⟩), .int .i64 f, .int .i64 t] w fun r w' => r = .returned (errV (nearE (now, L) f t)) ∧ RStp w w' p v (loseS (now, L) f t) := by
  by_cases k1 : okT now t ∧ near f
  · rw [show errV (nearE (now, L) f t) = .nilIface by unfold nearE; rw [if_pos k1]; rfl, show loseS (now, L) f t = (t, lose f t (age t L)) from if_pos k1]
    exact rLose_ok h f t k1
  · rw [show errV (nearE (now, L) f t) = .iface 30 (.int .i64 1) by unfold nearE; rw [if_neg k1]; rfl, show loseS (now, L) f t = (now, L) from if_neg k1]
    exact rLose_bad h f t k1
end Go.Proofs.YtoocmogmocapoaaDoor

namespace Go.Proofs.YtoocmogmocapoaaDoor
open Go.RowKit Go.Lib RibP

set_option maxHeartbeats 8000000 in
set_option maxRecDepth 100000 in
theorem refLost_any (w : World) (now0 : Int) (v : Value) (M : List Rt) (f now : Int) (hlen : M.length ≤ 64) (h : LArg w v M) (hM : ∀ e ∈ M, e.h.m ≤ 16 ∧ 0 ≤ e.t ∧ e.t ≤ now) (hn : now ≤ 1099511627776) :
    Calls Tryd.prog 11 #[.agg #[.int .i64 now0, v], .int .i64 f, .int .i64 now] w fun r w' => ∃ v', r = .returned (.agg #[.int .i64 now, v']) ∧ LHeld w' w.heap.size v' (lose f now (age now M)) ∧ Below w.heap.size w w' := by
  obtain ⟨pm, cm, rfl, _⟩ := id h
  have hX := (Box.new w (.int .i64 now0) (.slice pm M.length cm) 29).alloc (.cells #[.int .i64 0, .slice none 0 0] 29)
  have hY := Box.new (w.alloc (.cells #[.int .i64 now0, .slice pm M.length cm] 29)) (.int .i64 0) (.slice none 0 0) 29
  have hB := ((Below.refl w.heap.size w).alloc (Nat.le_refl _) (.cells #[.int .i64 now0, .slice pm M.length cm] 29)).alloc (by simp) (.cells #[.int .i64 0, .slice none 0 0] 29)
  have hsz : ((w.alloc (.cells #[.int .i64 now0, .slice pm M.length cm] 29)).alloc (.cells #[.int .i64 0, .slice none 0 0] 29)).heap.size = w.heap.size + 2 := by simp
  simp only [World.size_alloc] at hY
  have HG := Lib.hid (refAged_any _ now0 _ M now hlen (h.below hB) hM hn)
  have HYb := Lib.hid hY; have HB := Lib.hid hB; have HSZ := Lib.hid hsz; have HM := Lib.hid hM
  have hl := Nat.le_trans (age_len now M) hlen
  clear hX hY hB hsz h hM
  go_enter Tryd.func11, Tryd.ntmps11
  go_wp2_with fail
  generalize (w.alloc (.cells #[.int .i64 now0, .slice pm M.length cm] 29)).alloc (.cells #[.int .i64 0, .slice none 0 0] 29) = wA at HG HYb HB HSZ ⊢
  refine HG.out.mono ?_
  rintro r w1 ⟨v1, rfl, ho, hb1⟩
  have HO := Lib.hid ho.held
  obtain ⟨A, hA⟩ : ∃ A, A = age now M := ⟨_, rfl⟩
  rw [← hA] at ho HO hl
  have HAE := Lib.hid hA
  clear hA HG
  have B1 := Lib.hid (HB.out.trans (hb1.mono HB.out.size))
  have hs1 := Lib.hid (show wA.heap.size ≤ w1.heap.size from hb1.size)
  have Y1 := Lib.hid (HYb.out.kept hb1)
  rcases ho.form with ⟨rfl, rfl⟩ | ⟨g, c, rfl, hg, hgl, hc, hs, hf⟩
  · clear ho hb1
    go_wp2_with fail
    refine wp_loop_rounds 1 ?_
    rw [rounds_succ]
    have hY := Y1.out.alloc (.cells #[.int .i64 now, .slice none 0 0] 29)
    have B2 := Lib.hid (B1.out.alloc (by have := B1.out.size; omega) (.cells #[.int .i64 now, .slice none 0 0] 29))
    have HY2 := Lib.hid hY
    obtain ⟨_, y0, y1, fy0, fy1⟩ := hY
    have ne1 : ¬ w1.heap.size = w.heap.size + 1 := by have := hs1.out; have := HSZ.out; omega
    go_wp2_with fail
    have KK := (Keep.setCell (fun x => x = w.heap.size + 1) (w1.alloc (.cells #[.int .i64 now, .slice none 0 0] 29)) (w.heap.size + 1) 0 (.int .i64 now) rfl).trans (Keep.setCell (fun x => x = w.heap.size + 1) _ (w.heap.size + 1) 1 (.slice none 0 0) rfl)
    refine bodyPost_rib (s := 6) Tryd.results11 rfl (HY2.out.set _ _) rfl ⟨_, rfl, Or.inl ⟨rfl, by rw [← HAE.out]; rfl⟩, ?_⟩
    exact B2.out.trans (KK.below (fun b e => by omega) B2.out.size)
  · have hg' : w.heap.size + 2 ≤ g := by have := HSZ.out; omega
    have hm16 : ∀ e ∈ A, e.h.m ≤ 16 := by
      intro e he
      rw [HAE.out] at he
      unfold age at he
      obtain ⟨he, _⟩ := List.mem_filter.1 he
      obtain ⟨e', h1, rfl⟩ := List.mem_map.1 he
      have := (HM.out e' h1).1
      unfold ageR
      split
      · exact Int.le_refl _
      · exact this
    have HM16 := Lib.hid hm16
    have hb2 := (Below.refl w1.heap.size w1).alloc (Nat.le_refl _) (.cells #[.int .i64 now, .slice (some ⟨g, 0, none⟩) A.length c] 29)
    have B2 := Lib.hid (B1.out.trans (hb2.mono B1.out.size))
    have HYB := Lib.hid (Y1.out.kept hb2)
    have HSB := Lib.hid (hs.below hb2 hgl)
    have HFB := Lib.hid fun o => (hb2.frozen (p := ⟨g, o, none⟩) hgl).trans (hf o)
    have HZB := Lib.hid (Box.new w1 (.int .i64 now) (.slice (some ⟨g, 0, none⟩) A.length c) 29)
    have hszB : (w1.alloc (.cells #[.int .i64 now, .slice (some ⟨g, 0, none⟩) A.length c] 29)).heap.size = w1.heap.size + 1 := by simp
    have HSZB := Lib.hid hszB
    have HC := Lib.hid hc
    clear ho hb1 hs hf hc hm16 hb2 hszB
    go_wp2_with fail
    generalize w1.alloc (.cells #[.int .i64 now, .slice (some ⟨g, 0, none⟩) A.length c] 29) = wB at B2 HYB HSB HFB HZB HSZB ⊢
    obtain ⟨ba, hba⟩ : ∃ ba, ba = w1.heap.size := ⟨_, rfl⟩
    rw [← hba] at HZB hgl HSZB ⊢
    have HBA := Lib.hid hba
    clear hba
    go_loopw [8] (fun v wr => ∃ (k : Nat), v = .int .i64 k ∧ k ≤ A.length ∧ Hid (Keep (fun x => x = g) wB wr) ∧ Hid (LSeen wr g 0 (lose f now (A.take k) ++ A.drop k)) ∧ Hid (∀ o, wr.frozen? ⟨g, o, none⟩ = false)) (fun v _ => A.length - (RowKit.intOf v).toNat)
    case atStart => exact ⟨0, rfl, Nat.zero_le _, Lib.hid (Keep.refl _ _), Lib.hid HSB.out, HFB⟩
    case round =>
      obtain ⟨k, rfl, hk, hB, hS, hF⟩ := hrel
      have hZ := HZB.out.ofBlock (hB.out.block ba HZB.out.lt (by omega)) hB.out.size
      have HZ := Lib.hid hZ
      obtain ⟨_, z0, z1, _, _⟩ := hZ
      by_cases hkn : k < A.length
      · have ha := lose_at f now A k hkn
        have hx := hS.out k (by rw [lose_len]; exact hkn)
        rw [ha.2] at hx
        obtain ⟨b0, b1, b2, b3, b4⟩ := hx.rt
        have a0 : wr.cell? ⟨g, 0 + k * 5, none⟩ = _ := b0
        have a1 : wr.cell? ⟨g, 0 + k * 5 + 1, none⟩ = _ := b1
        have a2 : wr.cell? ⟨g, 0 + k * 5 + 2, none⟩ = _ := b2
        have a3 : wr.cell? ⟨g, 0 + k * 5 + 3, none⟩ = _ := b3
        have a4 : wr.cell? ⟨g, 0 + k * 5 + 4, none⟩ = _ := b4
        simp only [Nat.zero_add] at a0 a1 a2 a3 a4
        have HST := Lib.hid (lose_step f now A k hkn)
        have HSY := Lib.hid (lose_stay f now A k hkn)
        have hle := HM16.out A[k]! (by rw [getElem!_pos A k hkn]; exact List.getElem_mem hkn)
        clear b0 b1 b2 b3 b4 hx ha
        obtain ⟨e, he⟩ : ∃ e, e = A[k]! := ⟨_, rfl⟩
        rw [← he] at a0 a1 a2 a3 a4 HST HSY hle
        clear he
        have hgr : g < wr.heap.size := Nat.lt_of_lt_of_le (by have := HSZB.out; omega) hB.out.size
        by_cases h1 : e.h.f = f
        · have t1 : (e.h.f == f) = true := by simpa using h1
          by_cases h2 : e.h.m < 16
          · have hst := Lib.hid (show loseR f now e = ⟨⟨e.h.f, e.h.n, 16⟩, now⟩ by unfold loseR; rw [if_pos ⟨h1, by omega⟩])
            have HE1 := Lib.hid h1
            have HD := Lib.hid (And.intro a0 (And.intro a1 (And.intro a2 (And.intro a3 a4))))
            have f3 := hF.out (k * 5 + 3)
            have f4 := hF.out (k * 5 + 4)
            rw [h1] at a0
            clear t1 h1 HSY
            go_wp2_with fail
            go_roundw
            case rel =>
              have kp : Keep (fun x => x = g) wr ((wr.setCell ⟨g, k * 5 + 3, none⟩ (.int .i64 16)).setCell ⟨g, k * 5 + 4, none⟩ (.int .i64 now)) := (Keep.setCell (fun x => x = g) wr g _ _ rfl).trans (Keep.setCell (fun x => x = g) _ g _ _ rfl)
              refine ⟨k + 1, by go_num, by omega, Lib.hid (hB.out.trans kp), Lib.hid ?_, Lib.hid fun o => by simp only [World.frozen?_setCell]; exact hF.out o⟩
              rw [HST.out, hst.out]
              refine hS.out.set k _ ?_ fun o ho => ?_
              · obtain ⟨d0, d1, d2, d3, d4⟩ := HD.out
                have ee : 0 + k * Cel.k Rt = k * 5 := by rw [Nat.zero_add]; rfl
                rw [ee]
                have key : ∀ {j : Nat} {u : Value}, wr.cell? ⟨g, j, none⟩ = some u → _ := fun {j u} h => set_at (k * 5 + 4) (.int .i64 now) (set_at (k * 5 + 3) (.int .i64 16) h)
                refine LAt.ofRt ?_ ?_ ?_ ?_ ?_
                · rw [key d0, if_neg (by omega), if_neg (by omega)]
                · rw [key d1, if_neg (by omega), if_neg (by omega)]
                · rw [key d2, if_neg (by omega), if_neg (by omega)]
                · rw [key d3, if_neg (by omega), if_pos rfl]
                · rw [key d4, if_pos rfl]
              · have ho' : o < 0 + k * 5 ∨ 0 + k * 5 + 5 ≤ o := ho
                have ne : ∀ q : Nat, o ≠ q → (⟨g, q, none⟩ : Addr) ≠ ⟨g, o, none⟩ := fun q hq e => hq (congrArg Addr.off e).symm
                rw [World.cell?_setCell_other _ _ _ _ (ne _ (by omega)), World.cell?_setCell_other _ _ _ _ (ne _ (by omega))]
            case measure => simp [RowKit.intOf]; omega
          · have hsy := Lib.hid (HSY.out (by unfold loseR; rw [if_neg (fun h => h.2 (by omega))]))
            rw [h1] at a0
            clear HSY HST t1 h1
            go_wp2_with fail
            go_roundw
            case rel => exact ⟨k + 1, by go_num, by omega, hB, Lib.hid (by rw [hsy.out]; exact hS.out), hF⟩
            case measure => simp [RowKit.intOf]; omega
        · have t1 : (e.h.f == f) = false := by simpa using h1
          have hsy := Lib.hid (HSY.out (by unfold loseR; rw [if_neg (fun h => h1 h.1)]))
          clear h1 HSY HST
          go_wp2_with fail
          go_roundw
          case rel => exact ⟨k + 1, by go_num, by omega, hB, Lib.hid (by rw [hsy.out]; exact hS.out), hF⟩
          case measure => simp [RowKit.intOf]; omega
      · have hend := Lib.hid (lose_end f now A k (by omega))
        have hY := HYB.out.ofBlock (hB.out.block (w.heap.size + 1) HYB.out.lt (by omega)) hB.out.size
        have HY2 := Lib.hid hY
        obtain ⟨_, y0, y1, fy0, fy1⟩ := hY
        have B3 := Lib.hid (B2.out.trans (hB.out.below (fun b e => by omega) B2.out.size))
        go_wp2_with fail
        have KK := (Keep.setCell (fun x => x = w.heap.size + 1) wr (w.heap.size + 1) 0 (.int .i64 now) rfl).trans (Keep.setCell (fun x => x = w.heap.size + 1) _ (w.heap.size + 1) 1 (.slice (some ⟨g, 0, none⟩) A.length c) rfl)
        have hgr : g < wr.heap.size := Nat.lt_of_lt_of_le (by have := HSZB.out; omega) hB.out.size
        have eb := KK.block g hgr (by omega)
        refine bodyPost_rib (s := 6) Tryd.results11 rfl (HY2.out.set _ _) rfl ⟨_, rfl, Or.inr ⟨g, c, by rw [← HAE.out]; unfold lose; rw [List.length_map], by omega, Nat.lt_of_lt_of_le hgr KK.size, by rw [← HAE.out]; unfold lose; rw [List.length_map]; exact HC.out, ?_, fun o => (World.frozen?_of_block (w := wr) (a := ⟨g, o, none⟩) eb).trans (hF.out o)⟩, B3.out.trans (KK.below (fun b e => by omega) B3.out.size)⟩
        rw [← HAE.out, ← hend.out]
        exact hS.out.ofBlock eb
end Go.Proofs.YtoocmogmocapoaaDoor

namespace Go.Proofs.YtoocmogmocapoaaDoor
open Go.RowKit Go.Lib RibP

/-- All that lay there stays, but for the rib itself. -/
theorem one_lose {w0 w : World} {p : Nat} {s : St} (h : OneB w0 w p s) (f t : Int) : Calls Tryd.prog 10 #[.pointer (some ⟨p, 0, none⟩), .int .i64 f, .int .i64 t] w fun r w' => r = .returned (errV (nearE s f t)) ∧ OneB w0 w' p (loseS s f t) ∧ Keep (fun x => x = p) w w' := by
  obtain ⟨v, h1, h2⟩ := h.step
  refine (rLose_any h1 f t).mono fun r w' ⟨e, hs⟩ => ⟨e, h2 _ _ hs, ?_⟩
  obtain ⟨_, _, _, hk⟩ := hs
  exact hk
end Go.Proofs.YtoocmogmocapoaaDoor

namespace Go.Proofs.YtoocmogmocapoaaDoor
open Go.RowKit Go.Lib

theorem takeH_more {l m : List Hd} {k : Nat} (h1 : k < l.length) (h2 : k < m.length) (ht : l.take k = m.take k) (he : l[k]! = m[k]!) : l.take (k + 1) = m.take (k + 1) := by
  rw [List.take_succ_eq_append_getElem h1, List.take_succ_eq_append_getElem h2, ht, ← getElem!_pos l k h1, ← getElem!_pos m k h2, he]

set_option maxHeartbeats 2000000 in
set_option maxRecDepth 100000 in
theorem sameHeard_some (w : World) (b off c b' off' c' : Nat) (l m : List Hd) (hn : l.length < 4611686018427387904) (he : l.length = m.length) (hb : b < w.heap.size) (hb' : b' < w.heap.size) (hs : LSeen w b off l) (hs' : LSeen w b' off' m) :
    Calls Tryd.prog 14 #[.slice (some ⟨b, off, none⟩) l.length c, .slice (some ⟨b', off', none⟩) m.length c'] w fun e w' => e = .returned (.bool (decide (l = m))) ∧ Below w.heap.size w w' := by
  rw [← he]
  have HS := Lib.hid hs; have HS' := Lib.hid hs'
  have HL := Lib.hid he
  clear hs hs' he
  go_enter Tryd.func14, Tryd.ntmps14
  go_wp2_with fail
  go_loopw [5] (fun v wr => ∃ (k : Nat), v = .int .i64 k ∧ k ≤ l.length ∧ Hid (Below w.heap.size w wr) ∧ Hid (l.take k = m.take k)) (fun v _ => l.length - (RowKit.intOf v).toNat)
  case atStart => exact ⟨0, rfl, Nat.zero_le _, Lib.hid (Below.refl _ _), Lib.hid rfl⟩
  case round =>
    obtain ⟨k, rfl, hk, hB, HE⟩ := hrel
    by_cases hkn : k < l.length
    · have hkm : k < m.length := by rw [← HL.out]; exact hkn
      obtain ⟨p0, p1, p2, p3⟩ := ((HS.out.below hB.out hb) k hkn).hd
      obtain ⟨q0, q1, q2, q3⟩ := ((HS'.out.below hB.out hb') k hkm).hd
      have a0 : wr.cell? ⟨b, off + k * 4, none⟩ = _ := p0
      have a1 : wr.cell? ⟨b, off + k * 4 + 1, none⟩ = _ := p1
      have a2 : wr.cell? ⟨b, off + k * 4 + 2, none⟩ = _ := p2
      have a3 : wr.cell? ⟨b, off + k * 4 + 3, none⟩ = _ := p3
      have d0 : wr.cell? ⟨b', off' + k * 4, none⟩ = _ := q0
      have d1 : wr.cell? ⟨b', off' + k * 4 + 1, none⟩ = _ := q1
      have d2 : wr.cell? ⟨b', off' + k * 4 + 2, none⟩ = _ := q2
      have d3 : wr.cell? ⟨b', off' + k * 4 + 3, none⟩ = _ := q3
      have HT := fun h => Lib.hid (takeH_more hkn hkm HE.out h)
      have HX : Hid (l[k]! ≠ m[k]! → decide (l = m) = false) := Lib.hid fun h => decide_eq_false fun e => h (by rw [e])
      clear p0 p1 p2 p3 q0 q1 q2 q3 hkm
      generalize l[k]! = x at a0 a1 a2 a3 HT HX
      generalize m[k]! = y at d0 d1 d2 d3 HT HX
      by_cases hxy : x = y
      · have HT' := HT hxy
        subst hxy
        clear HT HX
        go_wp2_with fail
        go_region
        go_wp2_with fail
        go_roundw
        case rel => exact ⟨k + 1, by go_num, by omega, Lib.hid hB.out.drew, HT'⟩
        case measure => simp [RowKit.intOf]; omega
      · have e : decide (l = m) = false := HX.out hxy
        have E := Lib.hid e
        clear HT HX
        have hne : ¬ (x.f = y.f ∧ x.n.1 = y.n.1 ∧ x.n.2 = y.n.2 ∧ x.m = y.m) := fun h => hxy ((Hd.same x y).2 h)
        obtain ⟨xf, ⟨xa, xl⟩, xm⟩ := x
        obtain ⟨yf, ⟨ya, yl⟩, ym⟩ := y
        simp only at a0 a1 a2 a3 d0 d1 d2 d3 hne
        clear hxy e
        by_cases h0 : xf = yf
        · subst h0
          by_cases h1 : xa = ya
          · subst h1
            by_cases h2 : xl = yl
            · subst h2
              have t4 : (xm == ym) = false := by
                have : ¬ xm = ym := fun h => hne ⟨rfl, rfl, rfl, h⟩
                simpa using this
              clear hne
              go_wp2_with fail
              go_region
              go_wp2_with fail
              go_ret
              exact ⟨by rw [E.out]; rfl, hB.out.drew⟩
            · have t2 : (xl == yl) = false := by simpa using h2
              clear hne
              go_wp2_with fail
              go_region
              go_wp2_with fail
              go_ret
              exact ⟨by rw [E.out]; rfl, hB.out.drew⟩
          · have t1 : ((xa : Int) == (ya : Int)) = false := by
              have : ¬ (xa : Int) = ya := by omega
              simpa using this
            clear hne
            go_wp2_with fail
            go_region
            go_wp2_with fail
            go_ret
            exact ⟨by rw [E.out]; rfl, hB.out.drew⟩
        · have t0 : (xf == yf) = false := by simpa using h0
          clear hne
          go_wp2_with fail
          go_region
          go_wp2_with fail
          go_ret
          exact ⟨by rw [E.out]; rfl, hB.out.drew⟩
    · have e : decide (l = m) = true := decide_eq_true (by
        have := HE.out
        rwa [List.take_of_length_le (by omega), List.take_of_length_le (by rw [← HL.out]; omega)] at this)
      go_wp2_with fail
      go_ret
      exact ⟨by rw [e]; rfl, hB.out⟩

set_option maxHeartbeats 400000 in
set_option maxRecDepth 100000 in
theorem sameHeard_unlike (w : World) (p p' : Option Addr) (n c n' c' : Nat) (h : n ≠ n') :
    Calls Tryd.prog 14 #[.slice p n c, .slice p' n' c'] w fun e w' => e = .returned (.bool false) ∧ Below w.heap.size w w' := by
  have t : ((n : Int) == (n' : Int)) = false := by
    have : ¬ (n : Int) = n' := by omega
    simpa using this
  go_enter Tryd.func14, Tryd.ntmps14
  go_wp2_with fail
  go_ret
  exact ⟨rfl, Below.refl _ _⟩
set_option maxHeartbeats 400000 in
set_option maxRecDepth 100000 in
theorem sameHeard_none (w : World) (p p' : Option Addr) (c c' : Nat) :
    Calls Tryd.prog 14 #[.slice p 0 c, .slice p' 0 c'] w fun e w' => e = .returned (.bool true) ∧ Below w.heap.size w w' := by
  go_enter Tryd.func14, Tryd.ntmps14
  go_wp2_with fail
  refine wp_loop_rounds 1 ?_
  rw [rounds_succ]
  go_wp2_with fail
  go_ret
  exact ⟨rfl, Below.refl _ _⟩
/-- waywardensame.Heard at every two lists. -/
theorem sameHeard_any (w : World) (v v' : Value) (l m : List Hd) (hn : l.length < 4611686018427387904) (h : LArg w v l) (h' : LArg w v' m) :
    Calls Tryd.prog 14 #[v, v'] w fun e w' => e = .returned (.bool (decide (l = m))) ∧ Below w.heap.size w w' := by
  obtain ⟨p, c, rfl, _, h⟩ := h
  obtain ⟨p', c', rfl, _, h'⟩ := h'
  by_cases hl : l.length = m.length
  · rcases h with rfl | ⟨b, off, rfl, hb, hs⟩
    · have e : m = [] := List.length_eq_zero_iff.1 hl.symm
      subst e
      exact sameHeard_none w p p' c c'
    · rcases h' with rfl | ⟨b', off', rfl, hb', hs'⟩
      · have e : l = [] := List.length_eq_zero_iff.1 hl
        subst e
        exact sameHeard_none w _ p' c c'
      · exact sameHeard_some w b off c b' off' c' l m hn hl hb hb' hs hs'
  · have e : decide (l = m) = false := decide_eq_false fun h => hl (by rw [h])
    rw [e]
    exact sameHeard_unlike w p p' _ c _ c' hl
end Go.Proofs.YtoocmogmocapoaaDoor

namespace Go.Proofs.YtoocmogmocapoaaDoor
open Go.RowKit

theorem sameErr_any (k e : Int) (w : World) (hg : ErrType w) : Calls Tryd.prog 7 #[errV k, .int .i64 e] w fun r w' => r = .returned (.bool (k == e)) ∧ Below w.heap.size w w' := by
  by_cases h : k = 0
  · subst h
    refine (same_nil e _ rfl w).mono ?_
    rintro r w' ⟨rfl, rfl⟩
    exact ⟨rfl, Below.refl _ _⟩
  · rw [show errV k = .iface 30 (.int .i64 k) from if_neg h]
    exact same_err k e _ rfl w hg
end Go.Proofs.YtoocmogmocapoaaDoor

namespace Go.Proofs.YtoocmogmocapoaaDoor
open Go.RowKit Go.Lib RibP

namespace RibP
theorem Fine.perm {now : Int} {L M : List Rt} (h : Fine now L) (hp : M.Perm L) : Fine now M :=
  ⟨(keys_perm hp).2 h.keys, fun e he => h.each e (hp.mem_iff.1 he), by rw [hp.length_eq]; exact h.len⟩
/-- The document's rib is this one, in order. -/
structure Mdl (s z : St) : Prop where
  rib : Rib s
  now : z.1 = s.1
  perm : z.2.Perm s.2
  srt : Srtd z.2
section
variable {s z : St} (h : Mdl s z)
include h
theorem Mdl.fine : Fine z.1 z.2 := by rw [h.now]; exact h.rib.fine.perm h.perm
theorem Mdl.len : z.2.length ≤ 64 := h.fine.len
theorem Mdl.keys : (keys z.2).Nodup := h.fine.keys
theorem Mdl.all : ∀ e ∈ z.2, e.h.m ≤ 16 ∧ 0 ≤ e.t ∧ e.t ≤ z.1 := fun e he => by
  have := h.fine.each e he
  exact ⟨this.m1, this.t0, this.t1⟩
theorem Mdl.near (f t : Int) : nearE z f t = nearE s f t := by unfold nearE; rw [h.now]
theorem Mdl.learnE (f : Int) (n : Nt) (m t : Int) : RibP.learnE z f n m t = RibP.learnE s f n m t := by
  have hf := full_perm (age_perm h.perm t) (⟨⟨f, n, m⟩, t⟩ : Rt)
  unfold RibP.learnE
  rw [h.near f t]
  by_cases h1 : full ⟨⟨f, n, m⟩, t⟩ (RibP.age t s.2)
  · rw [if_pos h1, if_pos (hf.2 h1)]
  · rw [if_neg h1, if_neg (fun k => h1 (hf.1 k))]
theorem Mdl.learn (f : Int) (n : Nt) (m t : Int) (hn : n.1 < 4294967296) (h0 : RibP.learnE s f n m t = 0) {M' : List Rt} (hp : M'.Perm (RibP.learn ⟨⟨f, n, m⟩, t⟩ (RibP.age t z.2))) (hs : Srtd M') : Mdl (learnS s f n m t) (t, M') := by
  have e : learnS s f n m t = (t, RibP.learn ⟨⟨f, n, m⟩, t⟩ (RibP.age t s.2)) := if_pos h0
  refine ⟨h.rib.learn f n m t hn, by rw [e], ?_, hs⟩
  rw [e]
  exact hp.trans (learn_perm (age_perm h.perm t) _)
theorem Mdl.learn_bad (f : Int) (n : Nt) (m t : Int) (h0 : RibP.learnE s f n m t ≠ 0) : Mdl (learnS s f n m t) z := by
  rw [show learnS s f n m t = s from if_neg h0]
  exact h
theorem Mdl.lose (f t : Int) (h0 : nearE s f t = 0) : okT s.1 t ∧ Mdl (loseS s f t) (t, RibP.lose f t (RibP.age t z.2)) := by
  have hk : okT s.1 t ∧ RibP.near f := by
    unfold nearE at h0
    by_cases k : okT s.1 t ∧ RibP.near f
    · exact k
    · rw [if_neg k] at h0; cases h0
  have e : loseS s f t = (t, RibP.lose f t (RibP.age t s.2)) := if_pos hk
  refine ⟨hk.1, h.rib.lose f t, by rw [e], ?_, (h.srt.age t).lose f t⟩
  rw [e]
  exact lose_perm (age_perm h.perm t) f t
theorem Mdl.lose_bad (f t : Int) (h0 : nearE s f t ≠ 0) : Mdl (loseS s f t) z := by
  rw [show loseS s f t = s from if_neg (fun k => h0 (if_pos k))]
  exact h
theorem Mdl.age (t : Int) (h0 : ageE s t = 0) : okT s.1 t ∧ Mdl (ageS s t) (t, RibP.age t z.2) := by
  have hk : okT s.1 t := by
    unfold ageE at h0
    by_cases k : okT s.1 t
    · exact k
    · rw [if_neg k] at h0; cases h0
  have e : ageS s t = (t, RibP.age t s.2) := if_pos hk
  refine ⟨hk, h.rib.age t, by rw [e], ?_, h.srt.age t⟩
  rw [e]
  exact age_perm h.perm t
theorem Mdl.age_bad (t : Int) (h0 : ageE s t ≠ 0) : Mdl (ageS s t) z := by
  rw [show ageS s t = s from if_neg (fun k => h0 (if_pos k))]
  exact h
theorem Mdl.near0 (t : Int) : nearE z 0 t = ageE s t := by
  rw [h.near 0 t]
  unfold nearE ageE
  by_cases k : okT s.1 t
  · rw [if_pos k, if_pos ⟨k, by decide, by decide⟩]
  · rw [if_neg k, if_neg (fun j => k j.1)]
theorem Mdl.told {H : List Hd} (hH : RTold s.2 H) : H = z.2.map Rt.h := hH.one h.rib.fine.keys h.perm.symm h.srt.told
end
theorem Mdl.new : Mdl (0, []) (0, []) := ⟨Rib.new, rfl, List.Perm.refl _, List.Pairwise.nil⟩
end RibP

/-- The rib and the document's, apart. -/
structure TellB (w0 w : World) (p bm : Nat) (s z : St) : Prop where
  ex : ∃ v u, Rbd w p v s.1 s.2 ∧ Box w bm (.int .i64 z.1) u ∧ LArg w u z.2 ∧ (∀ g, v.ownBlock = some g → w0.heap.size ≤ g ∧ g ≠ bm) ∧ (∀ g, u.ownBlock = some g → w0.heap.size ≤ g ∧ g ≠ p ∧ g ≠ bm)
  ne : p ≠ bm
  lp : w0.heap.size ≤ p
  lb : w0.heap.size ≤ bm
  bel : Below w0.heap.size w0 w
section
variable {w0 w w1 : World} {p bm : Nat} {s z : St} (h : TellB w0 w p bm s z)
include h
theorem TellB.below (hb : Below w.heap.size w w1) : TellB w0 w1 p bm s z := by
  obtain ⟨v, u, a1, a2, a3, a4, a5⟩ := h.ex
  exact ⟨⟨v, u, a1.below hb, a2.kept hb, a3.below hb, a4, a5⟩, h.ne, h.lp, h.lb, h.bel.trans (hb.mono h.bel.size)⟩
theorem TellB.lt : p < w.heap.size ∧ bm < w.heap.size := by
  obtain ⟨v, u, a1, a2, _⟩ := h.ex
  exact ⟨a1.box.lt, a2.lt⟩
theorem TellB.step : ∃ v, Rbd w p v s.1 s.2 ∧ ∀ w' s', RStp w w' p v s' → TellB w0 w' p bm s' z ∧ Keep (fun x => x = p) w w' := by
  obtain ⟨v, u, a1, a2, a3, a4, a5⟩ := h.ex
  refine ⟨v, a1, ?_⟩
  rintro w' s' ⟨v', b1, b2, b3⟩
  refine ⟨⟨⟨v', u, b1, a2.ofBlock (b3.block bm a2.lt (fun e => h.ne e.symm)) b3.size, a3.keep b3 (fun g hg => (a5 g hg).2.1), fun g hg => ?_, a5⟩, h.ne, h.lp, h.lb, h.bel.trans (b3.below (fun b e => e ▸ h.lp) h.bel.size)⟩, b3⟩
  rcases b2 with rfl | b2
  · exact a4 g hg
  · have := b2 g hg
    have := a2.lt
    exact ⟨Nat.le_trans h.bel.size (b2 g hg), by omega⟩
/-- The document's rib is written anew. -/
theorem TellB.put {z' : St} {u' : Value} (ha : LArg w u' z'.2) (hu : ∀ g, u'.ownBlock = some g → w0.heap.size ≤ g ∧ g ≠ p ∧ g ≠ bm) : TellB w0 ((w.setCell ⟨bm, 0, none⟩ (.int .i64 z'.1)).setCell ⟨bm, 1, none⟩ u') p bm s z' := by
  obtain ⟨v, u, a1, a2, a3, a4, a5⟩ := h.ex
  have k1 : Keep (fun x => x = bm) w ((w.setCell ⟨bm, 0, none⟩ (.int .i64 z'.1)).setCell ⟨bm, 1, none⟩ u') := (Keep.setCell (fun x => x = bm) w bm 0 _ rfl).trans (Keep.setCell (fun x => x = bm) _ bm 1 _ rfl)
  exact ⟨⟨v, u', a1.keep k1 h.ne (fun g hg => (a4 g hg).2), a2.set _ _, ha.keep k1 (fun g hg => (hu g hg).2.2), a4, hu⟩, h.ne, h.lp, h.lb, h.bel.trans (k1.below (fun b e => e ▸ h.lb) h.bel.size)⟩
theorem TellB.box : ∃ q n c, Box w bm (.int .i64 z.1) (.slice q n c) ∧ LArg w (.slice q n c) z.2 := by
  obtain ⟨v, u, _, a2, a3, _⟩ := h.ex
  obtain ⟨q, c, rfl, _⟩ := id a3
  exact ⟨q, _, c, a2, a3⟩
theorem tell_learn (f : Int) (a : Nat) (l m t : Int) (ha : a < 4294967296) :
    Calls Tryd.prog 8 #[.pointer (some ⟨p, 0, none⟩), .int .i64 f, .agg #[.int .u32 (a : Int), .int .i64 l], .int .i64 m, .int .i64 t] w fun r w' => r = .returned (errV (learnE s f (a, l) m t)) ∧ TellB w0 w' p bm (learnS s f (a, l) m t) z ∧ Keep (fun x => x = p) w w' := by
  obtain ⟨v, h1, h2⟩ := h.step
  exact (rLearn_any h1 f a l m t ha).mono fun r w' ⟨e, hs⟩ => ⟨e, h2 _ _ hs⟩
theorem tell_lose (f t : Int) : Calls Tryd.prog 10 #[.pointer (some ⟨p, 0, none⟩), .int .i64 f, .int .i64 t] w fun r w' => r = .returned (errV (nearE s f t)) ∧ TellB w0 w' p bm (loseS s f t) z ∧ Keep (fun x => x = p) w w' := by
  obtain ⟨v, h1, h2⟩ := h.step
  exact (rLose_any h1 f t).mono fun r w' ⟨e, hs⟩ => ⟨e, h2 _ _ hs⟩
theorem tell_age (t : Int) : Calls Tryd.prog 12 #[.pointer (some ⟨p, 0, none⟩), .int .i64 t] w fun r w' => r = .returned (errV (ageE s t)) ∧ TellB w0 w' p bm (ageS s t) z ∧ Keep (fun x => x = p) w w' := by
  obtain ⟨v, h1, h2⟩ := h.step
  exact (rAge_any h1 t).mono fun r w' ⟨e, hs⟩ => ⟨e, h2 _ _ hs⟩
theorem tell_list : Calls Tryd.prog 15 #[.pointer (some ⟨p, 0, none⟩)] w fun r w' => ∃ v H, r = .returned v ∧ RTold s.2 H ∧ LHeld w' w.heap.size v H ∧ Below w.heap.size w w' := by
  obtain ⟨v, u, h1, _⟩ := h.ex
  exact rList_any h1
theorem tell_now : Calls Tryd.prog 17 #[.pointer (some ⟨p, 0, none⟩)] w fun r w' => r = .returned (.int .i64 s.1) ∧ w = w' := by
  obtain ⟨v, u, h1, _⟩ := h.ex
  exact rNow_any h1
end
/-- The document's rib is laid. -/
theorem new_tellB {w0 w : World} {p : Nat} {s : St} (h : OneB w0 w p s) : TellB w0 (w.alloc (.cells #[.int .i64 0, .slice none 0 0] 29)) p w.heap.size s (0, []) := by
  obtain ⟨v, h1, h2⟩ := h.ex
  have hb := (Below.refl w.heap.size w).alloc (Nat.le_refl _) (.cells #[.int .i64 0, .slice none 0 0] 29)
  have := h1.box.lt
  exact ⟨⟨v, _, h1.below hb, Box.new w (.int .i64 0) (.slice none 0 0) _, LArg.nil _, fun g hg => ⟨h2 g hg, by have := h1.lt g hg; omega⟩, fun g hg => by cases hg⟩, by omega, h.lp, h.bel.size, h.bel.trans (hb.mono h.bel.size)⟩
end Go.Proofs.YtoocmogmocapoaaDoor

namespace Go.Proofs.YtoocmogmocapoaaDoor
open Go.RowKit Go.Lib RibP

theorem RibP.RTold.single {e : Rt} {H : List Hd} (h : RTold [e] H) : H = [e.h] := List.perm_singleton.1 h.perm
theorem RibP.RTold.none {H : List Hd} (h : RTold [] H) : H = [] := List.perm_nil.1 h.perm
theorem LHeld.first {w : World} {base : Nat} {v : Value} {h : Hd} (hh : LHeld w base v [h]) : ∃ g c, v = .slice (some ⟨g, 0, none⟩) 1 c ∧ base ≤ g ∧ g < w.heap.size ∧ w.cell? ⟨g, 0, none⟩ = some (.int .i64 h.f) ∧ w.cell? ⟨g, 1, none⟩ = some (.int .u32 (h.n.1 : Int)) ∧ w.cell? ⟨g, 2, none⟩ = some (.int .i64 h.n.2) ∧ w.cell? ⟨g, 3, none⟩ = some (.int .i64 h.m) := by
  rcases hh with ⟨_, hn⟩ | ⟨g, c, rfl, h1, h2, _, h4, _⟩
  · cases hn
  · obtain ⟨c0, c1, c2, c3⟩ := (h4 0 (by simp)).hd
    simp only [Nat.zero_mul, Nat.zero_add] at c0 c1 c2 c3
    exact ⟨g, c, rfl, h1, h2, c0, c1, c2, c3⟩

set_option maxHeartbeats 400000 in
set_option maxRecDepth 100000 in
theorem ten_any (w : World) : Calls Tryd.prog 18 #[] w fun e w' => e = .returned (.agg #[.int .u32 167772160, .int .i64 8]) ∧ Below w.heap.size w w' := by
  go_enter Tryd.func18, Tryd.ntmps18
  go_wp2_with fail
  refine bodyPost_ret (v := .agg #[.int .u32 167772160, .int .i64 8]) ?_ rfl ⟨rfl, (Below.refl _ _).alloc (Nat.le_refl _) _⟩
  simp [results, Tryd.results18, go_sem]
theorem learn10 : learnE (0, []) 1 (167772160, 8) 5 3 = 0 := by decide +kernel
theorem learn10S : learnS (0, []) 1 (167772160, 8) 5 3 = (3, [⟨⟨1, (167772160, 8), 5⟩, 3⟩]) := by
  unfold learnS
  rw [if_pos learn10]
  rfl
set_option maxHeartbeats 1000000 in
set_option maxRecDepth 100000 in
theorem learnt_any (w : World) : Calls Tryd.prog 4 #[] w fun e w' => e = .returned (.bool true) ∧ Below w.heap.size w w' := by
  have HN := Lib.hid (new_oneB w w (Below.refl _ _))
  have HT := Lib.hid ten_any
  go_enter Tryd.func4, Tryd.ntmps4
  go_wp2_with fail
  refine HN.out.mono ?_
  rintro e w1 ⟨rfl, h1⟩
  have H1 := Lib.hid h1
  clear h1 HN
  go_wp2_with fail
  refine (HT.out _).mono ?_
  rintro e w2 ⟨rfl, hb2⟩
  have hl := one_learn (H1.out.below hb2) 1 167772160 8 5 3 (by omega)
  rw [learn10, learn10S, show errV 0 = .nilIface from rfl] at hl
  have HL := Lib.hid hl
  clear hl hb2
  go_wp2_with fail
  refine HL.out.mono ?_
  rintro e w3 ⟨rfl, h3⟩
  have H3 := Lib.hid h3
  clear h3
  go_wp2_with fail
  refine (one_list H3.out).mono ?_
  rintro e w4 ⟨v, H, rfl, hT, hH, hb⟩
  obtain rfl := hT.single
  have H4 := Lib.hid (H3.out.below hb)
  obtain ⟨g, c, rfl, _, _, _, _, _, c3⟩ := hH.first
  clear hT hH hb
  go_wp2_with fail
  refine (one_now H4.out).mono ?_
  rintro e w5 ⟨rfl, rfl⟩
  go_wp2_with fail
  go_ret
  exact ⟨rfl, H4.out.bel⟩
end Go.Proofs.YtoocmogmocapoaaDoor
