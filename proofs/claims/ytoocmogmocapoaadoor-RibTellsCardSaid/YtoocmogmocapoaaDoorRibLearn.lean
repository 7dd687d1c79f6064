/-
  rib.learn at every list of the call's own: what it becomes, or ErrFull; nothing but that list and new blocks turns.
-/
import Derived.Test.YtoocmogmocapoaaDoorRibIndex
import Derived.Test.YtoocmogmocapoaaDoorRibAged
import Derived.Test.YtoocmogmocapoaaDoorErrV
import Derived.Test.YtoocmogmocapoaaDoorHeld
namespace Go.Proofs.YtoocmogmocapoaaDoor
open Go.RowKit Go.Lib RibP

/-- Five cells written at once. -/
theorem put5 {w : World} {g o : Nat} {u0 u1 u2 u3 u4 : Value} (v0 v1 v2 v3 v4 : Value) (h0 : w.cell? ⟨g, o, none⟩ = some u0) (h1 : w.cell? ⟨g, o + 1, none⟩ = some u1) (h2 : w.cell? ⟨g, o + 2, none⟩ = some u2) (h3 : w.cell? ⟨g, o + 3, none⟩ = some u3) (h4 : w.cell? ⟨g, o + 4, none⟩ = some u4) {W : World}
    (hW : W = ((((w.setCell ⟨g, o, none⟩ v0).setCell ⟨g, o + 1, none⟩ v1).setCell ⟨g, o + 2, none⟩ v2).setCell ⟨g, o + 3, none⟩ v3).setCell ⟨g, o + 4, none⟩ v4) :
    (W.cell? ⟨g, o, none⟩ = some v0 ∧ W.cell? ⟨g, o + 1, none⟩ = some v1 ∧ W.cell? ⟨g, o + 2, none⟩ = some v2 ∧ W.cell? ⟨g, o + 3, none⟩ = some v3 ∧ W.cell? ⟨g, o + 4, none⟩ = some v4) ∧ ∀ p, p < o ∨ o + 5 ≤ p → W.cell? ⟨g, p, none⟩ = w.cell? ⟨g, p, none⟩ := by
  subst hW
  have key : ∀ {j : Nat} {u : Value}, w.cell? ⟨g, j, none⟩ = some u → _ := fun {j u} h => set_at (o + 4) v4 (set_at (o + 3) v3 (set_at (o + 2) v2 (set_at (o + 1) v1 (set_at o v0 h))))
  refine ⟨⟨?_, ?_, ?_, ?_, ?_⟩, fun p hp => ?_⟩
  · rw [key h0, if_neg (by omega), if_neg (by omega), if_neg (by omega), if_neg (by omega), if_pos rfl]
  · rw [key h1, if_neg (by omega), if_neg (by omega), if_neg (by omega), if_pos rfl]
  · rw [key h2, if_neg (by omega), if_neg (by omega), if_pos rfl]
  · rw [key h3, if_neg (by omega), if_pos rfl]
  · rw [key h4, if_pos rfl]
  · have ne : ∀ k : Nat, p ≠ k → (⟨g, k, none⟩ : Addr) ≠ ⟨g, p, none⟩ := fun k hk e => hk (congrArg Addr.off e).symm
    rw [World.cell?_setCell_other _ _ _ _ (ne _ (by omega)), World.cell?_setCell_other _ _ _ _ (ne _ (by omega)), World.cell?_setCell_other _ _ _ _ (ne _ (by omega)), World.cell?_setCell_other _ _ _ _ (ne _ (by omega)), World.cell?_setCell_other _ _ _ _ (ne _ (by omega))]
theorem LSeen.setRt {w W : World} {g o : Nat} {L : List Rt} (h : LSeen w g 0 L) (i : Nat) (hi : i < L.length) (x : Rt) (ho : i * 5 = o)
    (hW : W = ((((w.setCell ⟨g, o, none⟩ (.int .i64 x.h.f)).setCell ⟨g, o + 1, none⟩ (.int .u32 (x.h.n.1 : Int))).setCell ⟨g, o + 2, none⟩ (.int .i64 x.h.n.2)).setCell ⟨g, o + 3, none⟩ (.int .i64 x.h.m)).setCell ⟨g, o + 4, none⟩ (.int .i64 x.t)) : LSeen W g 0 (L.set i x) := by
  have hs := h i hi
  have e : 0 + i * Cel.k Rt = o := by rw [Nat.zero_add]; exact ho
  rw [e] at hs
  obtain ⟨c0, c1, c2, c3, c4⟩ := hs.rt
  obtain ⟨⟨p0, p1, p2, p3, p4⟩, hp⟩ := put5 (.int .i64 x.h.f) (.int .u32 (x.h.n.1 : Int)) (.int .i64 x.h.n.2) (.int .i64 x.h.m) (.int .i64 x.t) c0 c1 c2 c3 c4 hW
  refine h.set i x (by rw [e]; exact LAt.ofRt p0 p1 p2 p3 p4) fun p hp' => hp p ?_
  rw [e] at hp'
  exact hp'

theorem below_size (w : World) (p0 p1 p2 p3 p4 : Addr) (a b c d e : Value) : (((((w.setCell p0 a).setCell p1 b).setCell p2 c).setCell p3 d).setCell p4 e).heap.size = w.heap.size := by simp [World.setCell]
theorem below5g {w w1 : World} {m n o0 o1 o2 o3 o4 : Nat} (h : Below m w w1) (hn : m ≤ n) (a b c d e : Value) : Below m w (((((w1.setCell ⟨n, o0, none⟩ a).setCell ⟨n, o1, none⟩ b).setCell ⟨n, o2, none⟩ c).setCell ⟨n, o3, none⟩ d).setCell ⟨n, o4, none⟩ e) :=
  ((((h.setCell (p := ⟨n, o0, none⟩) hn a).setCell (p := ⟨n, o1, none⟩) hn b).setCell (p := ⟨n, o2, none⟩) hn c).setCell (p := ⟨n, o3, none⟩) hn d).setCell (p := ⟨n, o4, none⟩) hn e

namespace RibP
theorem news_other (x e : Rt) (h : sm x e = false) : news x e = e := if_neg (by rw [h]; simp)
/-- Where the keys are apart only one is met. -/
theorem news_set (x : Rt) : ∀ (L : List Rt) (i : Nat), (keys L).Nodup → i < L.length → sm x L[i]! = true → L.map (news x) = L.set i (news x L[i]!)
  | e :: r, 0, hk, _, hs => by
    unfold keys at hk
    rw [List.map_cons, List.nodup_cons] at hk
    have hs' : sm x e = true := by simpa using hs
    have h1 : r.map (news x) = r := by
      conv => rhs; rw [← List.map_id r]
      refine List.map_congr_left fun y hy => news_other x y ?_
      cases h2 : sm x y with
      | false => rfl
      | true => exact absurd (List.mem_map.2 ⟨y, hy, ((sm_iff x y).1 h2).trans ((sm_iff x e).1 hs').symm⟩) hk.1
    rw [List.map_cons, h1]
    simp
  | e :: r, i + 1, hk, hi, hs => by
    unfold keys at hk
    rw [List.map_cons, List.nodup_cons] at hk
    have hi' : i < r.length := by simpa using hi
    have hs' : sm x r[i]! = true := by simpa using hs
    have h1 : sm x e = false := by
      cases h2 : sm x e with
      | false => rfl
      | true =>
        refine absurd (List.mem_map.2 ⟨r[i]!, ?_, ((sm_iff x _).1 hs').trans ((sm_iff x e).1 h2).symm⟩) hk.1
        rw [getElem!_pos r i hi']; exact List.getElem_mem hi'
    rw [List.map_cons, news_other x e h1, news_set x r i hk.2 hi' hs']
    simp
theorem any_at (x : Rt) (L : List Rt) (i : Nat) (hi : i < L.length) (hs : sm x L[i]! = true) : L.any (sm x) = true := by
  rw [List.any_eq_true]
  exact ⟨L[i]!, by rw [getElem!_pos L i hi]; exact List.getElem_mem hi, hs⟩
theorem learn_same (x : Rt) (L : List Rt) (i : Nat) (hk : (keys L).Nodup) (hi : i < L.length) (hs : sm x L[i]! = true) (h1 : L[i]!.h.m = 16) (h2 : x.h.m = 16) : learn x L = L := by
  unfold learn
  rw [if_pos (any_at x L i hi hs), news_set x L i hk hi hs]
  unfold news
  rw [if_neg (fun h => h.2 ⟨h1, h2⟩), getElem!_pos L i hi, List.set_getElem_self]
theorem learn_set (x : Rt) (L : List Rt) (i : Nat) (hk : (keys L).Nodup) (hi : i < L.length) (hs : sm x L[i]! = true) (h1 : ¬ (L[i]!.h.m = 16 ∧ x.h.m = 16)) : learn x L = L.set i x := by
  unfold learn
  rw [if_pos (any_at x L i hi hs), news_set x L i hk hi hs]
  unfold news
  rw [if_pos ⟨hs, h1⟩]
theorem learn_none (x : Rt) (L : List Rt) (h : L.any (sm x) = false) (h2 : x.h.m = 16) : learn x L = L := by
  unfold learn
  rw [if_neg (by rw [h]; exact Bool.noConfusion), if_pos h2]
theorem learn_more (x : Rt) (L : List Rt) (h : L.any (sm x) = false) (h2 : x.h.m ≠ 16) : learn x L = L ++ [x] := by
  unfold learn
  rw [if_neg (by rw [h]; exact Bool.noConfusion), if_neg h2]
end RibP

/-- What learn leaves. -/
def Lrn (w0 w' : World) (base : Nat) (v : Value) (L : List Rt) : Prop := LArg w' v L ∧ (∀ g, v.ownBlock = some g → base ≤ g ∧ g < w'.heap.size) ∧ Below base w0 w'
theorem Lrn.set {w W : World} {base g c i : Nat} {x : Rt} {L : List Rt} (hg : base ≤ g) (hW : g < W.heap.size) (hc : L.length ≤ c) (hs : LSeen W g 0 (L.set i x)) (hB : Below base w W) : Lrn w W base (.slice (some ⟨g, 0, none⟩) L.length c) (L.set i x) :=
  ⟨⟨some ⟨g, 0, none⟩, c, by rw [List.length_set], by rw [List.length_set]; exact hc, Or.inr ⟨g, 0, rfl, hW, hs⟩⟩, fun j hj => by cases hj; exact ⟨hg, hW⟩, hB⟩

set_option maxHeartbeats 2000000 in
set_option maxRecDepth 100000 in
theorem learn_at (w : World) (base g c i : Nat) (x : Rt) (L : List Rt) (hL : L.length ≤ 64) (hc : L.length ≤ c) (hg : base ≤ g) (hgl : g < w.heap.size) (hs : LSeen w g 0 L) (hf : ∀ o, w.frozen? ⟨g, o, none⟩ = false) (hi : i < L.length) (hx : idx x L 0 = i) (hk : (keys L).Nodup) (hsm : sm x L[i]! = true) (hbase : base ≤ w.heap.size) :
    Calls Tryd.prog 25 #[.slice (some ⟨g, 0, none⟩) L.length c, x.v] w fun r w' => ∃ v', r = .returned (.tuple #[v', .nilIface]) ∧ Lrn w w' base v' (learn x L) := by
  have HI0 := fun (W : World) (nb : Nat) (h : LArg W (.slice (some ⟨g, 0, none⟩) L.length c) L) (h2 : RBox W nb x) => index_any W _ nb x L hL h h2
  rw [hx] at HI0
  have HI := Lib.hid HI0
  have HB := Lib.hid (RBox.new w x 64)
  have hb0 := (Below.refl w.heap.size w).alloc (Nat.le_refl _) (.cells #[.int .i64 x.h.f, .int .u32 (x.h.n.1 : Int), .int .i64 x.h.n.2, .int .i64 x.h.m, .int .i64 x.t] 64)
  have HA := Lib.hid (show LArg (w.alloc (.cells #[.int .i64 x.h.f, .int .u32 (x.h.n.1 : Int), .int .i64 x.h.n.2, .int .i64 x.h.m, .int .i64 x.t] 64)) (.slice (some ⟨g, 0, none⟩) L.length c) L from ⟨_, c, rfl, hc, Or.inr ⟨g, 0, rfl, by simp; omega, hs.below hb0 hgl⟩⟩)
  have HB0 := Lib.hid hb0
  have HS := Lib.hid hs
  have HF := Lib.hid hf
  have HK := Lib.hid (And.intro hk hsm)
  have hlt := Lib.hid hgl
  clear hs hf hk hsm hb0 HI0 hx
  dsimp only [Rt.v]
  go_enter Tryd.func25, Tryd.ntmps25
  go_wp2_with fail
  refine (HI.out _ _ HA.out HB.out).mono ?_
  rintro r w1 ⟨rfl, hb1⟩
  have B1 := Lib.hid (Below.two HB0.out hb1)
  have X1 := HB.out.kept hb1
  have hbk : w1.heap[g]? = w.heap[g]? := B1.out.block g hlt.out
  have S1 := HS.out.ofBlock hbk
  have F1 := Lib.hid fun o => (World.frozen?_of_block (w := w) (a := ⟨g, o, none⟩) hbk).trans (HF.out o)
  obtain ⟨b0, b1, b2, b3, b4⟩ := (S1 i hi).rt
  have a0 : w1.cell? ⟨g, 0 + i * 5, none⟩ = _ := b0
  have a1 : w1.cell? ⟨g, 0 + i * 5 + 1, none⟩ = _ := b1
  have a2 : w1.cell? ⟨g, 0 + i * 5 + 2, none⟩ = _ := b2
  have a3 : w1.cell? ⟨g, 0 + i * 5 + 3, none⟩ = _ := b3
  have a4 : w1.cell? ⟨g, 0 + i * 5 + 4, none⟩ = _ := b4
  simp only [Nat.zero_add] at a0 a1 a2 a3 a4
  have SS := Lib.hid S1
  have XX := Lib.hid X1
  have HI2 := Lib.hid hi
  clear b0 b1 b2 b3 b4 S1 X1 hbk hb1 HI HB HA HB0
  obtain ⟨e, he⟩ : ∃ e, e = L[i]! := ⟨_, rfl⟩
  rw [← he] at a0 a1 a2 a3 a4
  have HE := Lib.hid he
  clear he
  have HLE := Lib.hid fun W b hb => lost_any W e.h.f e.h.n.1 e.h.n.2 e.h.m e.t b hb
  have HLX := Lib.hid fun W b hb => lost_any W x.h.f x.h.n.1 x.h.n.2 x.h.m x.t b hb
  by_cases h1 : e.h.m = 16
  · have h1' := Lib.hid (show (e.h.m == 16) = true by simpa using h1)
    have HEM := Lib.hid h1
    clear h1
    go_wp2_with fail
    refine (HLE.out _ true h1'.out).mono ?_
    rintro r w2 ⟨rfl, hb2⟩
    have B2 := Lib.hid (Below.two B1.out hb2)
    have X2 := Lib.hid (XX.out.kept hb2)
    obtain ⟨x0, x1, x2, x3, x4⟩ := X2.out.at_.rt
    simp only [Nat.zero_add] at x0 x1 x2 x3 x4
    have hgw : g < w1.heap.size := Nat.lt_of_lt_of_le hlt.out B1.out.size
    have hbk := hb2.block g hgw
    have S2 := Lib.hid (SS.out.ofBlock hbk)
    have F2 := Lib.hid fun o => (World.frozen?_of_block (w := w1) (a := ⟨g, o, none⟩) hbk).trans (F1.out o)
    clear hb2 hbk hgw a0 a1 a2 a3 a4
    by_cases h2 : x.h.m = 16
    · have h2' := Lib.hid (show (x.h.m == 16) = true by simpa using h2)
      have e2 := Lib.hid (learn_same x L i HK.out.1 HI2.out HK.out.2 (by rw [← HE.out]; exact HEM.out) h2)
      clear h2
      go_wp2_with fail
      refine (HLX.out _ true h2'.out).mono ?_
      rintro r w3 ⟨rfl, hb3⟩
      have B3 := Lib.hid (Below.two B2.out hb3)
      have S3 := Lib.hid (S2.out.below hb3 (Nat.lt_of_lt_of_le hlt.out B2.out.size))
      clear hb3 x0 x1 x2 x3 x4
      go_wp2_with fail
      go_ret2
      rw [e2.out]
      exact ⟨_, rfl, ⟨_, c, rfl, hc, Or.inr ⟨g, 0, rfl, Nat.lt_of_lt_of_le hlt.out B3.out.size, S3.out⟩⟩, fun j hj => by cases hj; exact ⟨hg, Nat.lt_of_lt_of_le hlt.out B3.out.size⟩, B3.out.mono hbase⟩
    · have h2' := Lib.hid (show (x.h.m == 16) = false by simpa using h2)
      have e2 := Lib.hid (learn_set x L i HK.out.1 HI2.out HK.out.2 (fun h => h2 h.2))
      clear h2
      go_wp2_with fail
      refine (HLX.out _ false h2'.out).mono ?_
      rintro r w3 ⟨rfl, hb3⟩
      have B3 := Lib.hid (Below.two B2.out hb3)
      have hgw : g < w2.heap.size := Nat.lt_of_lt_of_le hlt.out B2.out.size
      have S3 := Lib.hid (S2.out.below hb3 hgw)
      obtain ⟨y0, y1, y2, y3, y4⟩ := (X2.out.kept hb3).at_.rt
      simp only [Nat.zero_add] at y0 y1 y2 y3 y4
      have F3 := fun o => (World.frozen?_of_block (w := w2) (a := ⟨g, o, none⟩) (hb3.block g hgw)).trans (F2.out o)
      have f0 := F3 (i * 5); have f1 := F3 (i * 5 + 1); have f2 := F3 (i * 5 + 2); have f3 := F3 (i * 5 + 3); have f4 := F3 (i * 5 + 4)
      obtain ⟨b0, b1, b2, b3, b4⟩ := (S3.out i hi).rt
      have a0 : w3.cell? ⟨g, 0 + i * 5, none⟩ = _ := b0
      have a1 : w3.cell? ⟨g, 0 + i * 5 + 1, none⟩ = _ := b1
      have a2 : w3.cell? ⟨g, 0 + i * 5 + 2, none⟩ = _ := b2
      have a3 : w3.cell? ⟨g, 0 + i * 5 + 3, none⟩ = _ := b3
      have a4 : w3.cell? ⟨g, 0 + i * 5 + 4, none⟩ = _ := b4
      simp only [Nat.zero_add] at a0 a1 a2 a3 a4
      rw [← HE.out] at a0 a1 a2 a3 a4
      clear hb3 x0 x1 x2 x3 x4 F3 hgw b0 b1 b2 b3 b4
      go_wp2_with fail
      go_ret2
      rw [e2.out]
      have S4 := S3.out.setRt i hi x rfl rfl
      exact ⟨_, rfl, Lrn.set hg (by rw [below_size]; exact Nat.lt_of_lt_of_le hlt.out B3.out.size) hc S4 (below5g (B3.out.mono hbase) hg _ _ _ _ _)⟩
  · have h1' := Lib.hid (show (e.h.m == 16) = false by simpa using h1)
    have e2 := Lib.hid (learn_set x L i HK.out.1 HI2.out HK.out.2 (fun h => h1 (by rw [HE.out]; exact h.1)))
    clear h1
    go_wp2_with fail
    refine (HLE.out _ false h1'.out).mono ?_
    rintro r w3 ⟨rfl, hb3⟩
    have B3 := Lib.hid (Below.two B1.out hb3)
    have hgw : g < w1.heap.size := Nat.lt_of_lt_of_le hlt.out B1.out.size
    have S3 := Lib.hid (SS.out.below hb3 hgw)
    obtain ⟨y0, y1, y2, y3, y4⟩ := (XX.out.kept hb3).at_.rt
    simp only [Nat.zero_add] at y0 y1 y2 y3 y4
    have F3 := fun o => (World.frozen?_of_block (w := w1) (a := ⟨g, o, none⟩) (hb3.block g hgw)).trans (F1.out o)
    have f0 := F3 (i * 5); have f1 := F3 (i * 5 + 1); have f2 := F3 (i * 5 + 2); have f3 := F3 (i * 5 + 3); have f4 := F3 (i * 5 + 4)
    obtain ⟨b0, b1, b2, b3, b4⟩ := (S3.out i hi).rt
    have a0' : w3.cell? ⟨g, 0 + i * 5, none⟩ = _ := b0
    have a1' : w3.cell? ⟨g, 0 + i * 5 + 1, none⟩ = _ := b1
    have a2' : w3.cell? ⟨g, 0 + i * 5 + 2, none⟩ = _ := b2
    have a3' : w3.cell? ⟨g, 0 + i * 5 + 3, none⟩ = _ := b3
    have a4' : w3.cell? ⟨g, 0 + i * 5 + 4, none⟩ = _ := b4
    simp only [Nat.zero_add] at a0' a1' a2' a3' a4'
    rw [← HE.out] at a0' a1' a2' a3' a4'
    clear hb3 F3 hgw b0 b1 b2 b3 b4 a0 a1 a2 a3 a4
    go_wp2_with fail
    go_ret2
    rw [e2.out]
    have S4 := S3.out.setRt i hi x rfl rfl
    exact ⟨_, rfl, Lrn.set hg (by rw [below_size]; exact Nat.lt_of_lt_of_le hlt.out B3.out.size) hc S4 (below5g (B3.out.mono hbase) hg _ _ _ _ _)⟩

/-- What it answers. -/
def LrnTo (w : World) (base : Nat) (x : Rt) (L : List Rt) (r : Ending) (w' : World) : Prop :=
  (full x L ∧ r = .returned (.tuple #[.slice none 0 0, .iface 30 (.int .i64 4)]) ∧ Below base w w') ∨ (¬ full x L ∧ ∃ v', r = .returned (.tuple #[v', .nilIface]) ∧ Lrn w w' base v' (learn x L))
theorem LrnTo.no {w w' : World} {base : Nat} {x : Rt} {L : List Rt} {r : Ending} (h : full x L) (hr : r = .returned (.tuple #[.slice none 0 0, .iface 30 (.int .i64 4)])) (hb : Below base w w') : LrnTo w base x L r w' := Or.inl ⟨h, hr, hb⟩
theorem LrnTo.yes {w w' : World} {base : Nat} {x : Rt} {L : List Rt} {r : Ending} (v' : Value) (h : ¬ full x L) (hr : r = .returned (.tuple #[v', .nilIface])) (hb : Lrn w w' base v' (learn x L)) : LrnTo w base x L r w' := Or.inr ⟨h, v', hr, hb⟩

set_option maxHeartbeats 2000000 in
set_option maxRecDepth 100000 in
theorem learn_out (w : World) (base : Nat) (p : Option Addr) (n c : Nat) (x : Rt) (L : List Rt) (hn : n = L.length) (hL : L.length ≤ 64) (ho : LOwn 64 w base (.slice p n c) L) (ha : L.any (sm x) = false) (hx : idx x L 0 = -1) (hbase : base ≤ w.heap.size) :
    Calls Tryd.prog 25 #[.slice p n c, x.v] w fun r w' => LrnTo w base x L r w' := by
  have HI0 := fun (W : World) (nb : Nat) (h : LArg W (.slice p n c) L) (h2 : RBox W nb x) => index_any W _ nb x L hL h h2
  rw [hx] at HI0
  have HI := Lib.hid HI0
  have HB := Lib.hid (RBox.new w x 64)
  have hb0 := (Below.refl w.heap.size w).alloc (Nat.le_refl _) (.cells #[.int .i64 x.h.f, .int .u32 (x.h.n.1 : Int), .int .i64 x.h.n.2, .int .i64 x.h.m, .int .i64 x.t] 64)
  have HO := Lib.hid (ho.keep hb0)
  have HB0 := Lib.hid hb0
  have HA := Lib.hid ha
  have HN := Lib.hid hn
  have HLX := Lib.hid fun W b hb => lost_any W x.h.f x.h.n.1 x.h.n.2 x.h.m x.t b hb
  clear ha hb0 HI0 hx ho
  have hn64 : n ≤ 64 := by rw [hn]; exact hL
  clear hn
  dsimp only [Rt.v]
  go_enter Tryd.func25, Tryd.ntmps25
  go_wp2_with fail
  refine (HI.out _ _ HO.out.arg HB.out).mono ?_
  rintro r w1 ⟨rfl, hb1⟩
  have B1 := Lib.hid (Below.two HB0.out hb1)
  have X1 := HB.out.kept hb1
  have O1 := Lib.hid (HO.out.keep hb1)
  obtain ⟨x0, x1, x2, x3, x4⟩ := X1.at_.rt
  simp only [Nat.zero_add] at x0 x1 x2 x3 x4
  have XX := Lib.hid X1
  clear hb1 X1 HI HB HO HB0
  by_cases h2 : x.h.m = 16
  · have h2' := Lib.hid (show (x.h.m == 16) = true by simpa using h2)
    have e2 := Lib.hid (learn_none x L HA.out h2)
    have e3 := Lib.hid (show ¬ full x L from fun h => h.2.1 h2)
    clear h2
    go_wp2_with fail
    refine (HLX.out _ true h2'.out).mono ?_
    rintro r w3 ⟨rfl, hb3⟩
    have B3 := Lib.hid (Below.two B1.out hb3)
    have O3 := Lib.hid (O1.out.keep hb3)
    clear hb3 x0 x1 x2 x3 x4
    go_wp2_with fail
    go_ret2
    exact LrnTo.yes _ e3.out rfl (by rw [e2.out]; exact ⟨O3.out.arg, fun j hj => O3.out.lt j hj, B3.out.mono hbase⟩)
  · have h2' := Lib.hid (show (x.h.m == 16) = false by simpa using h2)
    have e2 := Lib.hid (learn_more x L HA.out h2)
    have HM := Lib.hid h2
    clear h2
    by_cases h3 : 64 ≤ n
    · have e3 := Lib.hid (show full x L from ⟨HA.out, HM.out, by rw [← HN.out]; exact h3⟩)
      obtain rfl : n = 64 := by omega
      go_wp2_with fail
      refine (HLX.out _ false h2'.out).mono ?_
      rintro r w3 ⟨rfl, hb3⟩
      have B3 := Lib.hid (Below.two B1.out hb3)
      clear hb3 x0 x1 x2 x3 x4
      go_wp2_with fail
      go_ret2
      exact LrnTo.no e3.out rfl (B3.out.mono hbase)
    · have e3 := Lib.hid (show ¬ full x L from fun h => h3 (by rw [HN.out]; exact h.2.2))
      go_wp2_with fail
      refine (HLX.out _ false h2'.out).mono ?_
      rintro r w3 ⟨rfl, hb3⟩
      have B3 := Lib.hid (Below.two B1.out hb3)
      have O3 := Lib.hid (O1.out.keep hb3)
      obtain ⟨y0, y1, y2, y3, y4⟩ := (XX.out.kept hb3).at_.rt
      simp only [Nat.zero_add] at y0 y1 y2 y3 y4
      clear hb3 x0 x1 x2 x3 x4
      have h4 : ¬ (64 : Int) ≤ n := by omega
      go_wp2_with (at_builtin; refine wpList_plain rfl fun K' hK' => ?_; refine wp_append_L1 tyR _ _ rfl base _ L x w3.heap.size 1 rfl rfl ?q1 ?q2 ?q3 ?q4 ?q5 ?q6)
      case q1 => exact O3.out.keep ((Below.refl _ _).alloc (Nat.le_refl _) _)
      case q2 => exact (RBox.new w3 x 64).at_
      case q3 => omega
      case q4 => simp only [maxLen]; omega
      case q5 => have := B3.out.size; simp; omega
      case q6 =>
        intro v' w4 hO4 hA4
        refine hK' _ _ ?_
        have O4 := Lib.hid hO4
        have B4 := Lib.hid (((B3.out.mono hbase).alloc (Nat.le_trans hbase B3.out.size) (.cells #[.int .i64 x.h.f, .int .u32 (x.h.n.1 : Int), .int .i64 x.h.n.2, .int .i64 x.h.m, .int .i64 x.t] 64)).trans (hA4.below (n := base) (fun j hj => (O3.out.lt j hj).1) (by have := B3.out.size; simp; omega)))
        clear hO4 hA4
        go_wp2_with fail
        go_ret2
        exact LrnTo.yes _ e3.out rfl (by rw [e2.out]; exact ⟨O4.out.arg, fun j hj => O4.out.lt j hj, B4.out⟩)
/-- rib.learn. -/
theorem learn_any (w : World) (base : Nat) (v : Value) (x : Rt) (L : List Rt) (hL : L.length ≤ 64) (ho : LOwn 64 w base v L) (hk : (keys L).Nodup) (hbase : base ≤ w.heap.size) :
    Calls Tryd.prog 25 #[v, x.v] w fun r w' => LrnTo w base x L r w' := by
  rcases idx_cases x L 0 with ⟨h1, h2⟩ | ⟨i, h1, h2, h3⟩
  · obtain ⟨p, c, rfl, _, _⟩ := ho.arg
    exact learn_out w base p _ c x L rfl hL ho h1 h2 hbase
  · rcases ho.form with ⟨rfl, rfl⟩ | ⟨g, c, rfl, f1, f2, f3, f4, f5⟩
    · simp at h1
    · rw [Nat.zero_add] at h2
      refine (learn_at w base g c i x L hL f3 f1 f2 f4 f5 h1 h2 hk h3 hbase).mono fun r w' h => ?_
      obtain ⟨v', h4, h5⟩ := h
      exact LrnTo.yes v' (fun hf => by have := hf.1; rw [any_at x L i h1 h3] at this; exact Bool.noConfusion this) h4 h5
end Go.Proofs.YtoocmogmocapoaaDoor
