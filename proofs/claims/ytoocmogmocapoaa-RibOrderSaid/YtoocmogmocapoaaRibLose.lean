/-
  rib's Lose: whom it refuses, and what it leaves.
-/
import Derived.Test.YtoocmogmocapoaaRibActs
import Derived.LoopN
namespace Go.Proofs.Ytoocmogmocapoaa
open Go.RowKit Go.Lib RibP

namespace RibP
theorem lose_at (f now : Int) (L : List Rt) (k : Nat) (hk : k < L.length) : lose f now (L.take k) ++ L.drop k = (lose f now (L.take k) ++ L.drop k) ∧ (lose f now (L.take k) ++ L.drop k)[k]! = L[k]! := by
  refine ⟨rfl, ?_⟩
  have hl : (lose f now (L.take k)).length = k := by unfold lose; rw [List.length_map, List.length_take]; omega
  rw [getElem!_pos _ k (by rw [List.length_append, hl, List.length_drop]; omega), getElem!_pos L k hk, List.getElem_append_right (by omega)]
  simp [hl]
theorem lose_len (f now : Int) (L : List Rt) (k : Nat) : (lose f now (L.take k) ++ L.drop k).length = L.length := by
  unfold lose
  rw [List.length_append, List.length_map, List.length_take, List.length_drop]; omega
theorem lose_step (f now : Int) (L : List Rt) (k : Nat) (hk : k < L.length) : lose f now (L.take (k + 1)) ++ L.drop (k + 1) = (lose f now (L.take k) ++ L.drop k).set k (loseR f now L[k]!) := by
  have hl : (lose f now (L.take k)).length = k := by unfold lose; rw [List.length_map, List.length_take]; omega
  rw [List.set_append_right _ _ (by omega), hl, Nat.sub_self, List.drop_eq_getElem_cons hk, List.set_cons_zero, take_more L k hk]
  unfold lose
  rw [List.map_append, List.map_cons, List.map_nil, List.append_assoc, List.singleton_append]
theorem lose_end (f now : Int) (L : List Rt) (k : Nat) (hk : L.length ≤ k) : lose f now (L.take k) ++ L.drop k = lose f now L := by
  rw [List.take_of_length_le hk, List.drop_eq_nil_of_le hk, List.append_nil]
theorem lose_stay (f now : Int) (L : List Rt) (k : Nat) (hk : k < L.length) (h : loseR f now L[k]! = L[k]!) : lose f now (L.take (k + 1)) ++ L.drop (k + 1) = lose f now (L.take k) ++ L.drop k := by
  rw [lose_step f now L k hk, h]
  have hl := lose_len f now L k
  have ha := (lose_at f now L k hk).2
  rw [← ha, getElem!_pos _ k (by rw [hl]; exact hk), List.set_getElem_self]
theorem lose_nil (f now : Int) : lose f now [] = [] := rfl
end RibP

set_option maxHeartbeats 4000000 in
set_option maxRecDepth 100000 in
theorem rLose_ok {w : World} {p : Nat} {v : Value} {now : Int} {L : List Rt} (h : Rbd w p v now L) (f t : Int) (k1 : okT now t ∧ near f) :
    Calls Try.prog 14 #[.pointer (some ⟨p, 0, none⟩), .int .i64 f, .int .i64 t] w fun r w' => r = .returned .nilIface ∧ RStp w w' p v (t, lose f t (age t L)) := by
  have hN := checkFrom_any (L := L) h.box f t
  rw [show errV (nearE (now, L) f t) = .nilIface by unfold nearE; rw [if_pos k1]; rfl] at hN
  have HN := Lib.hid hN
  have H := Lib.hid h
  have K1 := Lib.hid k1
  clear hN h k1
  go_enter Try.func14, Try.ntmps14
  go_wp2_with fail
  refine HN.out.mono ?_
  rintro r w1 ⟨rfl, hb1⟩
  have B1 := Lib.hid hb1
  clear hb1
  go_wp2_with fail
  refine (aged_any (H.out.below B1.out) t K1.out.1.1 K1.out.1.2).mono ?_
  rintro r w2 ⟨v2, rfl, ho, hb2⟩
  have hlen := Nat.le_trans (age_len t L) H.out.good.len
  have B2 := Lib.hid (Below.two B1.out hb2)
  have B12 := Lib.hid hb2
  have HR := Lib.hid (show Rib (t, lose f t (age t L)) from by
    have h1 := H.out.n0
    have h2 := K1.out.1.1
    exact ⟨(H.out.good.age h2).lose f (by omega), (by show 0 ≤ t; omega), K1.out.1.2⟩)
  obtain ⟨A, hA⟩ : ∃ A, A = age t L := ⟨_, rfl⟩
  rw [← hA] at ho hlen HR
  have HAE := Lib.hid hA
  clear hA
  rcases ho.form with ⟨rfl, rfl⟩ | ⟨g, c, rfl, hg, hgl, hc, hs, hf⟩
  · clear ho hb2
    go_wp2_with fail
    refine wp_loop_rounds 1 ?_
    rw [rounds_succ]
    have b2 := H.out.box.kept B2.out
    obtain ⟨blt, c0, c1, f0, f1⟩ := b2
    go_wp2_with fail
    go_ret
    rw [← HAE.out]
    exact ⟨rfl, RStp.put (s := (t, lose f t [])) H.out B2.out (LArg.nil _) (fun g hg => by cases hg) HR.out⟩
  · have HF := Lib.hid hf
    have HS := Lib.hid hs
    have HC := Lib.hid hc
    have hgw : w.heap.size ≤ g := Nat.le_trans B1.out.size hg
    clear ho hb2 hs hf hc
    go_wp2_with fail
    go_loopw [23] (fun v wr => ∃ (k : Nat), v = .int .i64 k ∧ k ≤ A.length ∧ Hid (Below w.heap.size w wr ∧ Keep (fun x => x = g) w2 wr) ∧ Hid (LSeen wr g 0 (lose f t (A.take k) ++ A.drop k)) ∧ Hid (∀ o, wr.frozen? ⟨g, o, none⟩ = false)) (fun v _ => A.length - (RowKit.intOf v).toNat)
    case atStart => exact ⟨0, rfl, Nat.zero_le _, Lib.hid ⟨B2.out, Keep.refl _ _⟩, Lib.hid HS.out, HF⟩
    case round =>
      obtain ⟨k, rfl, hk, hB, hS, hF⟩ := hrel
      by_cases hkn : k < A.length
      · have ha := lose_at f t A k hkn
        have hx := hS.out k (by rw [lose_len]; exact hkn)
        rw [ha.2] at hx
        obtain ⟨b0, b1, b2, b3, b4⟩ := hx.rt
        have a0 : wr.cell? ⟨g, 0 + k * 5, none⟩ = _ := b0
        have a1 : wr.cell? ⟨g, 0 + k * 5 + 1, none⟩ = _ := b1
        have a2 : wr.cell? ⟨g, 0 + k * 5 + 2, none⟩ = _ := b2
        have a3 : wr.cell? ⟨g, 0 + k * 5 + 3, none⟩ = _ := b3
        have a4 : wr.cell? ⟨g, 0 + k * 5 + 4, none⟩ = _ := b4
        simp only [Nat.zero_add] at a0 a1 a2 a3 a4
        have HST := Lib.hid (lose_step f t A k hkn)
        have HSY := Lib.hid (lose_stay f t A k hkn)
        clear b0 b1 b2 b3 b4 hx ha
        obtain ⟨e, he⟩ : ∃ e, e = A[k]! := ⟨_, rfl⟩
        rw [← he] at a0 a1 a2 a3 a4 HST HSY
        clear he
        have HLE := Lib.hid fun W b hb => lost_any W e.h.f e.h.n.1 e.h.n.2 e.h.m e.t b hb
        have hgr : g < wr.heap.size := Nat.lt_of_lt_of_le hgl hB.out.2.size
        by_cases h1 : e.h.f = f
        · have t1 : (e.h.f == f) = true := by simpa using h1
          by_cases h2 : e.h.m = 16
          · have t2 := Lib.hid (show (e.h.m == 16) = true by simpa using h2)
            have hsy := Lib.hid (HSY.out (by unfold loseR; rw [if_neg (fun h => h.2 h2)]))
            clear h2 HSY HST
            rw [h1] at a0 HLE
            clear t1 h1
            go_wp2_with fail
            refine (HLE.out _ true t2.out).mono ?_
            rintro r w3 ⟨rfl, hb3⟩
            have hB3 := Lib.hid (And.intro (Below.two hB.out.1 hb3) (hB.out.2.trans (Keep.of hb3)))
            have hS3 := Lib.hid (hS.out.below hb3 hgr)
            have hF3 := Lib.hid fun o => (World.frozen?_of_block (w := wr) (a := ⟨g, o, none⟩) (hb3.block g hgr)).trans (hF.out o)
            clear hb3 a0 a1 a2 a3 a4
            go_wp2_with fail
            go_roundw
            case rel => exact ⟨k + 1, by go_num, by omega, hB3, Lib.hid (by rw [hsy.out]; exact hS3.out), hF3⟩
            case measure => simp [RowKit.intOf]; omega
          · have t2 := Lib.hid (show (e.h.m == 16) = false by simpa using h2)
            have hst := Lib.hid (show loseR f t e = ⟨⟨e.h.f, e.h.n, 16⟩, t⟩ by unfold loseR; rw [if_pos ⟨h1, h2⟩])
            clear h2 HSY
            have HE1 := Lib.hid h1
            rw [h1] at a0 HLE
            clear t1 h1
            go_wp2_with fail
            refine (HLE.out _ false t2.out).mono ?_
            rintro r w3 ⟨rfl, hb3⟩
            have hB3 := Lib.hid (And.intro (Below.two hB.out.1 hb3) (hB.out.2.trans (Keep.of hb3)))
            have hS3 := Lib.hid (hS.out.below hb3 hgr)
            have hF3 := Lib.hid fun o => (World.frozen?_of_block (w := wr) (a := ⟨g, o, none⟩) (hb3.block g hgr)).trans (hF.out o)
            have d0 := (hb3.cell (p := ⟨g, k * 5, none⟩) hgr).trans a0
            have d1 := (hb3.cell (p := ⟨g, k * 5 + 1, none⟩) hgr).trans a1
            have d2 := (hb3.cell (p := ⟨g, k * 5 + 2, none⟩) hgr).trans a2
            have d3 := (hb3.cell (p := ⟨g, k * 5 + 3, none⟩) hgr).trans a3
            have d4 := (hb3.cell (p := ⟨g, k * 5 + 4, none⟩) hgr).trans a4
            have f3 := hF3.out (k * 5 + 3)
            have f4 := hF3.out (k * 5 + 4)
            clear hb3 a0 a1 a2 a3 a4
            go_wp2_with fail
            go_roundw
            case rel =>
              have kp : Keep (fun x => x = g) w3 ((w3.setCell ⟨g, k * 5 + 3, none⟩ (.int .i64 16)).setCell ⟨g, k * 5 + 4, none⟩ (.int .i64 t)) := (Keep.setCell (fun x => x = g) w3 g _ _ rfl).trans (Keep.setCell (fun x => x = g) _ g _ _ rfl)
              refine ⟨k + 1, by go_num, by omega, Lib.hid ⟨hB3.out.1.trans (kp.below (fun b e => e ▸ hgw) hB3.out.1.size), hB3.out.2.trans kp⟩, Lib.hid ?_, Lib.hid fun o => by simp only [World.frozen?_setCell]; exact hF3.out o⟩
              rw [HST.out, hst.out]
              refine hS3.out.set k _ ?_ fun o ho => ?_
              · have ee : 0 + k * Cel.k Rt = k * 5 := by rw [Nat.zero_add]; rfl
                rw [ee]
                have key : ∀ {j : Nat} {u : Value}, w3.cell? ⟨g, j, none⟩ = some u → _ := fun {j u} h => set_at (k * 5 + 4) (.int .i64 t) (set_at (k * 5 + 3) (.int .i64 16) h)
                refine LAt.ofRt ?_ ?_ ?_ ?_ ?_
                · rw [key d0, if_neg (by omega), if_neg (by omega), HE1.out]
                · rw [key d1, if_neg (by omega), if_neg (by omega)]
                · rw [key d2, if_neg (by omega), if_neg (by omega)]
                · rw [key d3, if_neg (by omega), if_pos rfl]
                · rw [key d4, if_pos rfl]
              · have ho' : o < 0 + k * 5 ∨ 0 + k * 5 + 5 ≤ o := ho
                have ne : ∀ q : Nat, o ≠ q → (⟨g, q, none⟩ : Addr) ≠ ⟨g, o, none⟩ := fun q hq e => hq (congrArg Addr.off e).symm
                rw [World.cell?_setCell_other _ _ _ _ (ne _ (by omega)), World.cell?_setCell_other _ _ _ _ (ne _ (by omega))]
            case measure => simp [RowKit.intOf]; omega
        · have t1 : (e.h.f == f) = false := by simpa using h1
          have hsy := Lib.hid (HSY.out (by unfold loseR; rw [if_neg (fun h => h1 h.1)]))
          clear h1 HSY HST
          go_wp2_with fail
          go_roundw
          case rel => exact ⟨k + 1, by go_num, by omega, hB, Lib.hid (by rw [hsy.out]; exact hS.out), hF⟩
          case measure => simp [RowKit.intOf]; omega
      · have hend := Lib.hid (lose_end f t A k (by omega))
        have b2 := H.out.box.kept hB.out.1
        obtain ⟨blt, c0, c1, f0, f1⟩ := b2
        go_wp2_with fail
        go_ret
        rw [← HAE.out]
        refine ⟨rfl, RStp.put (s := (t, lose f t A)) H.out hB.out.1 ⟨some ⟨g, 0, none⟩, c, by unfold lose; rw [List.length_map], by unfold lose; rw [List.length_map]; exact HC.out, Or.inr ⟨g, 0, rfl, Nat.lt_of_lt_of_le hgl hB.out.2.size, ?_⟩⟩ (fun j hj => by cases hj; exact ⟨hgw, Nat.lt_of_lt_of_le hgl hB.out.2.size⟩) HR.out⟩
        rw [← hend.out]; exact hS.out

set_option maxHeartbeats 400000 in
set_option maxRecDepth 100000 in
theorem rLose_bad {w : World} {p : Nat} {v : Value} {now : Int} {L : List Rt} (h : Rbd w p v now L) (f t : Int) (k1 : ¬ (okT now t ∧ near f)) :
    Calls Try.prog 14 #[.pointer (some ⟨p, 0, none⟩), .int .i64 f, .int .i64 t] w fun r w' => r = .returned (.iface 59 (.int .i64 1)) ∧ RStp w w' p v (now, L) := by
  have hN := checkFrom_any (L := L) h.box f t
  rw [show errV (nearE (now, L) f t) = .iface 59 (.int .i64 1) by unfold nearE; rw [if_neg k1]; rfl] at hN
  have HN := Lib.hid hN
  have H := Lib.hid h
  clear hN h k1
  go_enter Try.func14, Try.ntmps14
  go_wp2_with fail
  refine HN.out.mono ?_
  rintro r w1 ⟨rfl, hb1⟩
  go_wp2_with fail
  go_ret
  exact ⟨rfl, RStp.same H.out hb1⟩
theorem rLose_any {w : World} {p : Nat} {v : Value} {now : Int} {L : List Rt} (h : Rbd w p v now L) (f t : Int) :
    Calls Try.prog 14 #[.pointer (some ⟨p, 0, none⟩), .int .i64 f, .int .i64 t] w fun r w' => r = .returned (errV (nearE (now, L) f t)) ∧ RStp w w' p v (loseS (now, L) f t) := by
  by_cases k1 : okT now t ∧ near f
  · rw [show errV (nearE (now, L) f t) = .nilIface by unfold nearE; rw [if_pos k1]; rfl, show loseS (now, L) f t = (t, lose f t (age t L)) from if_pos k1]
    exact rLose_ok h f t k1
  · rw [show errV (nearE (now, L) f t) = .iface 59 (.int .i64 1) by unfold nearE; rw [if_neg k1]; rfl, show loseS (now, L) f t = (now, L) from if_neg k1]
    exact rLose_bad h f t k1
end Go.Proofs.Ytoocmogmocapoaa
