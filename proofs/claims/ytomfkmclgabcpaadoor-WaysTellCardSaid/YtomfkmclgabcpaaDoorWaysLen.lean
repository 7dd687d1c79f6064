/-
  ways.isNode, ways.linked and ways.Length at every number of nodes, links and nodes in a row; what lay in memory stays.
-/
import Derived.Test.YtomfkmclgabcpaaDoorGraphCosts
import Derived.Test.YtomfkmclgabcpaaDoorWayLen
import Derived.Test.YtomfkmclgabcpaaDoorRoom
import Derived.Test.YtomfkmclgabcpaaDoorBellPlain
import Derived.OwnWalk
namespace Go.Proofs.YtomfkmclgabcpaaDoor
open Go.RowKit Go.Lib

set_option maxHeartbeats 400000 in
theorem isN_yes (n i : Int) (h : 0 ≤ i ∧ i < n) (w : World) : Calls Tryd.prog 23 #[.int .i64 n, .int .i64 i] w fun e w' => e = .returned (.bool true) ∧ w = w' := by
  obtain ⟨h1, h2⟩ := h
  go_enter Tryd.func23, Tryd.ntmps23
  go_wp2_with fail
  go_ret
  exact ⟨rfl, rfl⟩
set_option maxHeartbeats 400000 in
theorem isN_no (n i : Int) (h : ¬ (0 ≤ i ∧ i < n)) (w : World) : Calls Tryd.prog 23 #[.int .i64 n, .int .i64 i] w fun e w' => e = .returned (.bool false) ∧ w = w' := by
  by_cases h1 : 0 ≤ i
  · have h2 : ¬ (i < n) := fun e => h ⟨h1, e⟩
    clear h
    go_enter Tryd.func23, Tryd.ntmps23
    go_wp2_with fail
    go_ret
    exact ⟨rfl, rfl⟩
  · clear h
    go_enter Tryd.func23, Tryd.ntmps23
    go_wp2_with fail
    go_ret
    exact ⟨rfl, rfl⟩

set_option maxHeartbeats 1000000 in
set_option maxRecDepth 100000 in
/-- ways.linked at the costs of one node. -/
theorem linked_yes (w : World) (b m j : Nat) (z : Int) (hj : j < m) (hc : w.cell? ⟨b, j, none⟩ = some (.int .i64 z)) (hz : z ≠ 0 ∧ 0 ≤ z ∧ z < 16) :
    Calls Tryd.prog 24 #[.slice (some ⟨b, 0, none⟩) m m, .int .i64 j] w fun e w' => e = .returned (.bool true) ∧ w = w' := by
  have t1 : z > 0 := by omega
  have t2 : z < 16 := by omega
  have hjm : (j : Int) < m := by omega
  clear hz
  go_enter Tryd.func24, Tryd.ntmps24
  go_wp2_with fail
  refine (isN_yes m j (by omega) w).mono ?_
  rintro e w1 ⟨rfl, rfl⟩
  go_wp2_with fail
  go_ret
  exact ⟨rfl, rfl⟩
set_option maxHeartbeats 1000000 in
set_option maxRecDepth 100000 in
theorem linked_no (w : World) (b m j : Nat) (z : Int) (hj : j < m) (hc : w.cell? ⟨b, j, none⟩ = some (.int .i64 z)) (hz : z = 0 ∨ z = 16) :
    Calls Tryd.prog 24 #[.slice (some ⟨b, 0, none⟩) m m, .int .i64 j] w fun e w' => e = .returned (.bool false) ∧ w = w' := by
  have hjm : (j : Int) < m := by omega
  rcases hz with rfl | rfl
  · go_enter Tryd.func24, Tryd.ntmps24
    go_wp2_with fail
    refine (isN_yes m j (by omega) w).mono ?_
    rintro e w1 ⟨rfl, rfl⟩
    go_wp2_with fail
    go_ret
    exact ⟨rfl, rfl⟩
  · go_enter Tryd.func24, Tryd.ntmps24
    go_wp2_with fail
    refine (isN_yes m j (by omega) w).mono ?_
    rintro e w1 ⟨rfl, rfl⟩
    go_wp2_with fail
    go_ret
    exact ⟨rfl, rfl⟩
set_option maxHeartbeats 1000000 in
set_option maxRecDepth 100000 in
theorem linked_off (w : World) (p : Option Addr) (m : Nat) (j : Int) (hj : ¬ (0 ≤ j ∧ j < m)) :
    Calls Tryd.prog 24 #[.slice p m m, .int .i64 j] w fun e w' => e = .returned (.bool false) ∧ w = w' := by
  have H := Lib.hid hj
  clear hj
  go_enter Tryd.func24, Tryd.ntmps24
  go_wp2_with fail
  refine (isN_no m j H.out w).mono ?_
  rintro e w1 ⟨rfl, rfl⟩
  go_wp2_with fail
  go_ret
  exact ⟨rfl, rfl⟩

set_option maxHeartbeats 400000 in
set_option maxRecDepth 100000 in
/-- ways.Length at links that are wrong. -/
theorem length_bad (w : World) (n : Int) (v u : Value) (l : List Lk) (ws : List Int) (hn : l.length < 4611686018427387904) (h : ArgK w v l) (hu : ArgI w u ws) (hg : gBad n l ≠ 0) :
    Calls Tryd.prog 10 #[.int .i64 n, v, u] w fun e w' => e = .returned (.tuple #[.int .i64 0, errV (gBad n l)]) ∧ Below w.heap.size w w' := by
  have HC := Lib.hid (costs_bad w n v l hn h hg)
  rw [show errV (gBad n l) = .iface 25 (.int .i64 (gBad n l)) from if_neg hg] at HC ⊢
  obtain ⟨pu, cu, rfl, _⟩ := hu
  clear h
  generalize gBad n l = q at HC hg
  go_enter Tryd.func10, Tryd.ntmps10
  go_wp2_with fail
  refine HC.out.mono ?_
  rintro e w1 ⟨rfl, hb1⟩
  go_wp2_with fail
  go_ret2
  exact ⟨rfl, hb1⟩
set_option maxHeartbeats 400000 in
set_option maxRecDepth 100000 in
/-- ways.Length at no nodes. -/
theorem length_none (w : World) (m : Nat) (v : Value) (l : List Lk) (p : Option Addr) (c : Nat) (hn : l.length < 4611686018427387904) (h : ArgK w v l) (hg : gBad m l = 0) :
    Calls Tryd.prog 10 #[.int .i64 m, v, .slice p 0 c] w fun e w' => e = .returned (.tuple #[.int .i64 0, .iface 25 (.int .i64 3)]) ∧ Below w.heap.size w w' := by
  have HC := Lib.hid (costs_ok w m v l hn h hg)
  clear h hg
  go_enter Tryd.func10, Tryd.ntmps10
  go_wp2_with fail
  refine HC.out.mono ?_
  rintro e w1 ⟨g, hgs, rfl, hG, hb1⟩
  clear hG
  go_wp2_with fail
  go_ret2
  exact ⟨rfl, hb1⟩
set_option maxHeartbeats 400000 in
set_option maxRecDepth 100000 in
/-- ways.Length where the first one is no node. -/
theorem length_first (w : World) (m : Nat) (v : Value) (l : List Lk) (b off c k : Nat) (x : Int) (hn : l.length < 4611686018427387904) (h : ArgK w v l) (hg : gBad m l = 0) (hk : 1 ≤ k) (hb : b < w.heap.size) (hc : w.cell? ⟨b, off, none⟩ = some (.int .i64 x)) (hx : ¬ (0 ≤ x ∧ x < m)) :
    Calls Tryd.prog 10 #[.int .i64 m, v, .slice (some ⟨b, off, none⟩) k c] w fun e w' => e = .returned (.tuple #[.int .i64 0, .iface 25 (.int .i64 3)]) ∧ Below w.heap.size w w' := by
  have HC := Lib.hid (costs_ok w m v l hn h hg)
  have HX := Lib.hid hx
  have t0 : ((k : Int) == 0) = false := by
    have : ¬ (k : Int) = 0 := by omega
    simpa using this
  clear h hg hx
  go_enter Tryd.func10, Tryd.ntmps10
  go_wp2_with fail
  refine HC.out.mono ?_
  rintro e w1 ⟨g, hgs, rfl, hG, hb1⟩
  have a0 := (hb1.cell (p := ⟨b, off, none⟩) hb).trans hc
  have HB := Lib.hid hb1
  clear hG hb1 hc
  go_wp2_with fail
  refine (isN_no m x HX.out w1).mono ?_
  rintro e w2 ⟨rfl, rfl⟩
  go_wp2_with fail
  go_ret2
  exact ⟨rfl, HB.out⟩
/-- What ways.Length tells. -/
def lenE : Option Int → Value
  | some z => .tuple #[.int .i64 z, .nilIface]
  | none => .tuple #[.int .i64 0, .iface 25 (.int .i64 3)]
set_option maxHeartbeats 400000 in
set_option maxRecDepth 100000 in
/-- ways.Length at one node. -/
theorem length_one (w : World) (m : Nat) (v : Value) (l : List Lk) (b off c : Nat) (x : Int) (hn : l.length < 4611686018427387904) (h : ArgK w v l) (hg : gBad m l = 0) (hb : b < w.heap.size) (hc : w.cell? ⟨b, off, none⟩ = some (.int .i64 x)) (hx : 0 ≤ x ∧ x < m) :
    Calls Tryd.prog 10 #[.int .i64 m, v, .slice (some ⟨b, off, none⟩) 1 c] w fun e w' => e = .returned (.tuple #[.int .i64 0, .nilIface]) ∧ Below w.heap.size w w' := by
  have HC := Lib.hid (costs_ok w m v l hn h hg)
  have HX := Lib.hid hx
  clear h hg hx
  go_enter Tryd.func10, Tryd.ntmps10
  go_wp2_with fail
  refine HC.out.mono ?_
  rintro e w1 ⟨g, hgs, rfl, hG, hb1⟩
  have a0 := (hb1.cell (p := ⟨b, off, none⟩) hb).trans hc
  have HB := Lib.hid hb1
  clear hG hb1 hc
  go_wp2_with fail
  refine (isN_yes m x HX.out w1).mono ?_
  rintro e w2 ⟨rfl, rfl⟩
  by_cases h1 : c = 1
  · go_wp2_with fail
    refine wp_loop_rounds 1 ?_
    rw [rounds_succ]
    go_wp2_with fail
    go_ret2
    exact ⟨rfl, HB.out⟩
  · go_wp2_with fail
    refine wp_loop_rounds 1 ?_
    rw [rounds_succ]
    go_wp2_with fail
    go_ret2
    exact ⟨rfl, HB.out⟩
set_option maxHeartbeats 2000000 in
set_option maxRecDepth 100000 in
theorem length_some (w : World) (m : Nat) (v : Value) (l : List Lk) (b off c : Nat) (y0 : Int) (r : List Int) (hn : l.length < 4611686018427387904) (hw : r.length < 4611686018427387904) (hcap : r.length + 1 ≤ c) (h1 : 1 ≤ r.length) (h : ArgK w v l) (hg : gBad m l = 0) (hb : b < w.heap.size) (hs : SeenI w b off (y0 :: r)) (hx : 0 ≤ y0 ∧ y0 < m) :
    Calls Tryd.prog 10 #[.int .i64 m, v, .slice (some ⟨b, off, none⟩) (r.length + 1 : Nat) c] w fun e w' => e = .returned (lenE (lenTo m l 0 y0 r)) ∧ Below w.heap.size w w' := by
  have HC := Lib.hid (costs_ok w m v l hn h hg)
  have HX := Lib.hid hx
  have HR := Lib.hid ((gBad_zero m l).1 hg).2
  have HS := Lib.hid hs
  have a0 : w.cell? ⟨b, off, none⟩ = some (.int .i64 y0) := hs 0 (by simp)
  have t0 : ((r.length : Int) + 1 == 0) = false := by
    have : ¬ (r.length : Int) + 1 = 0 := by omega
    simpa using this
  clear h hg hx hs
  go_enter Tryd.func10, Tryd.ntmps10
  go_wp2_with fail
  refine HC.out.mono ?_
  rintro e w1 ⟨g, hgs, rfl, hG, hb1⟩
  have a0 := (hb1.cell (p := ⟨b, off, none⟩) hb).trans a0
  have HB := Lib.hid hb1
  have HG := Lib.hid hG
  clear hG hb1
  go_wp2_with fail
  refine (isN_yes m y0 HX.out w1).mono ?_
  rintro e w2 ⟨rfl, rfl⟩
  have hc1 : ¬ c = 1 := by omega
  go_wp2_with fail
  clear a0 hc1 t0
  go_loopw [10, 38] (fun z x wr => ∃ (k : Nat) (s : Int), x = .int .i64 k ∧ k ≤ r.length ∧ z = .int .i64 s ∧ Hid (Below w1.heap.size w1 wr) ∧ Hid (0 ≤ (y0 :: r)[k]! ∧ (y0 :: r)[k]! < m) ∧ Hid (lenTo m l 0 y0 r = lenTo m l s (y0 :: r)[k]! (r.drop k))) (fun _ x _ => r.length - (RowKit.intOf x).toNat)
  case atStart => exact ⟨0, 0, rfl, Nat.zero_le _, rfl, Lib.hid (Below.refl _ _), HX, Lib.hid rfl⟩
  case round =>
    obtain ⟨k, s, rfl, hk, rfl, HBr, HXk, HE⟩ := hrel
    by_cases hkn : k < r.length
    · have a1 : wr.cell? ⟨b, off + 1 + k, none⟩ = some (.int .i64 r[k]!) := by
        have := (HS.out.below (Below.two HB.out HBr.out) hb) (k + 1) (by simp; omega)
        rw [show off + (k + 1) = off + 1 + k by omega] at this
        rw [this]; simp
      have a0 : wr.cell? ⟨b, off + k, none⟩ = some (.int .i64 (y0 :: r)[k]!) := (HS.out.below (Below.two HB.out HBr.out) hb) k (by simp; omega)
      have hd : r.drop k = r[k]! :: r.drop (k + 1) := by rw [getElem!_pos r k hkn]; exact List.drop_eq_getElem_cons hkn
      have hy : (y0 :: r)[k + 1]! = r[k]! := by simp
      have HY := Lib.hid hy
      have hl : lenTo m l 0 y0 r = if r[k]! < 0 ∨ m ≤ r[k]! ∨ costG l (y0 :: r)[k]! r[k]! = 0 ∨ costG l (y0 :: r)[k]! r[k]! = 16 then none else lenTo m l (wrap64 (s + costG l (y0 :: r)[k]! r[k]!)) r[k]! (r.drop (k + 1)) := by
        rw [HE.out, hd]; rfl
      have HL := Lib.hid hl
      clear hl hd hy HE
      obtain ⟨hx0, hxm⟩ := HXk.out
      clear HXk
      generalize (y0 :: r)[k]! = x at a0 hx0 hxm HL
      obtain ⟨p, rfl⟩ : ∃ p : Nat, x = p := ⟨x.toNat, by omega⟩
      have hpm : p < m := by omega
      clear hx0 hxm
      have G := HG.out.keep HBr.out
      have o1 := G.o p hpm
      generalize r[k]! = y at a1 HL HY
      by_cases hy : 0 ≤ y ∧ y < m
      · obtain ⟨q, rfl⟩ : ∃ q : Nat, y = q := ⟨y.toNat, by omega⟩
        have hqm : q < m := by omega
        have o2 := G.e p hpm q hqm
        have HG2 := Lib.hid G
        clear G
        generalize hz : costG l p q = z at o2 HL
        by_cases hz0 : z = 0 ∨ z = 16
        · have E : Hid (lenTo m l 0 y0 r = none) := Lib.hid (by rw [HL.out, if_pos (Or.inr (Or.inr hz0))])
          have HK := Lib.hid (linked_no wr (g + 1 + p) m q z hqm o2 hz0)
          clear HL hz hz0 hy
          go_wp2_with fail
          refine HK.out.mono ?_
          rintro e w3 ⟨rfl, rfl⟩
          go_wp2_with fail
          go_ret2
          exact ⟨by rw [E.out]; rfl, Below.two HB.out HBr.out⟩
        · have E : Hid (lenTo m l 0 y0 r = lenTo m l (wrap64 (s + z)) q (r.drop (k + 1))) := Lib.hid (by rw [HL.out, if_neg (by omega)])
          have hzb : z ≠ 0 ∧ 0 ≤ z ∧ z < 16 := by
            have h1 := BellP.ct_int HR.out p q
            have h2 := (BellP.ct_cost HR.out).bd p q
            omega
          have HK := Lib.hid (linked_yes wr (g + 1 + p) m q z hqm o2 hzb)
          have HQ := Lib.hid hy
          clear HL hz hz0 hzb hy
          go_wp2_with fail
          refine HK.out.mono ?_
          rintro e w3 ⟨rfl, rfl⟩
          go_wp2_with fail
          go_roundw
          case rel => exact ⟨k + 1, wrap64 (s + z), by go_num, by omega, rfl, HBr, Lib.hid (by rw [HY.out]; exact HQ.out), Lib.hid (by rw [HY.out]; exact E.out)⟩
          case measure => simp [RowKit.intOf]; omega
      · have E : Hid (lenTo m l 0 y0 r = none) := Lib.hid (by rw [HL.out, if_pos (by omega)])
        have HK := Lib.hid (linked_off wr (some ⟨g + 1 + p, 0, none⟩) m y hy)
        clear HL hy G
        go_wp2_with fail
        refine HK.out.mono ?_
        rintro e w3 ⟨rfl, rfl⟩
        go_wp2_with fail
        go_ret2
        exact ⟨by rw [E.out]; rfl, Below.two HB.out HBr.out⟩
    · obtain rfl : k = r.length := by omega
      have E : Hid (lenTo m l 0 y0 r = some s) := Lib.hid (by rw [HE.out, List.drop_length]; rfl)
      go_wp2_with fail
      go_ret2
      exact ⟨by rw [E.out]; rfl, Below.two HB.out HBr.out⟩
/-- ways.Length at links that are right. -/
theorem length_ok (w : World) (m : Nat) (v u : Value) (l : List Lk) (ws : List Int) (hn : l.length < 4611686018427387904) (hw : ws.length < 4611686018427387904) (h : ArgK w v l) (hu : ArgI w u ws) (hr : Room u) (hg : gBad m l = 0) :
    Calls Tryd.prog 10 #[.int .i64 m, v, u] w fun e w' => e = .returned (lenE (lengthG m l ws)) ∧ Below w.heap.size w w' := by
  obtain ⟨p, c, rfl, hu⟩ := hu
  obtain ⟨_, _, _, e, hc⟩ := hr
  injection e with _ e1 e2
  subst e1; subst e2
  cases ws with
  | nil => exact length_none w m v l p c hn h hg
  | cons x r =>
    rcases hu with e | ⟨b, off, rfl, hb, hs⟩
    · cases e
    · have a0 : w.cell? ⟨b, off, none⟩ = some (.int .i64 x) := hs 0 (by simp)
      by_cases hx : 0 ≤ x ∧ x < m
      · have e : lengthG m l (x :: r) = lenTo m l 0 x r := by rw [lengthG, if_neg (by omega)]
        rw [e]
        by_cases h1 : 1 ≤ r.length
        · exact length_some w m v l b off c x r hn (by simp at hw; omega) (by simpa using hc) h1 h hg hb hs hx
        · obtain rfl : r = [] := List.length_eq_zero_iff.1 (by omega)
          exact length_one w m v l b off c x hn h hg hb a0 hx
      · have e : lengthG m l (x :: r) = none := by rw [lengthG, if_pos (by omega)]
        rw [e]
        exact length_first w m v l b off c _ x hn h hg (by simp) hb a0 hx
end Go.Proofs.YtomfkmclgabcpaaDoor
