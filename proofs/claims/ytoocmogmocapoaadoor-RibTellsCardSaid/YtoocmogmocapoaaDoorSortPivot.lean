/-
  sort.order2_func, median_func, medianAdjacent_func and choosePivot_func over a row, whatever the comparison lays: they turn nothing but a counter.
-/
import Derived.Test.YtoocmogmocapoaaDoorSortRow
namespace Go.Proofs.YtoocmogmocapoaaDoor
open Go.RowKit
variable {E : Type} [Inhabited E]

/-- A counter in a block of its own. -/
structure Cnt (w : World) (cb s : Nat) : Prop where
  lt : cb < w.heap.size
  c : w.cell? ⟨cb, 0, none⟩ = some (.int .i64 (s : Int))
  f : w.frozen? ⟨cb, 0, none⟩ = false
theorem Cnt.below {w w' : World} {cb s : Nat} (h : Cnt w cb s) (hb : Below w.heap.size w w') : Cnt w' cb s :=
  ⟨Nat.lt_of_lt_of_le h.lt hb.size, (hb.cell (p := ⟨cb, 0, none⟩) h.lt).trans h.c, (hb.frozen (p := ⟨cb, 0, none⟩) h.lt).trans h.f⟩
theorem Cnt.set {w : World} {cb s : Nat} (h : Cnt w cb s) (t : Nat) : Cnt (w.setCell ⟨cb, 0, none⟩ (.int .i64 (t : Int))) cb t :=
  ⟨by simpa using h.lt, World.cell?_setCell_same _ _ _ h.c, by simp [h.f]⟩
theorem Keeps.setSame (w : World) (cb : Nat) (v : Value) : Keeps w cb (w.setCell ⟨cb, 0, none⟩ v) :=
  have h : Below cb w (w.setCell ⟨cb, 0, none⟩ v) := (Below.refl cb w).setCell (p := ⟨cb, 0, none⟩) (Nat.le_refl cb) v
  ⟨h.os, h.tape, h.output, h.size, fun k _ hn => by
    simp only [World.setCell]
    split <;> simp [Array.getElem?_modify, Ne.symm hn]⟩

/-- The row and the counter. -/
structure Piv [Elt E] (blk : Nat) (w0 W : World) (d : Array E) (cb s : Nat) : Prop where
  base : Keeps w0 blk W
  row : Row W blk d
  cnt : Cnt W cb s
  new : w0.heap.size ≤ cb
theorem Piv.next [Elt E] {blk : Nat} {w0 W W' : World} {d : Array E} {cb s t : Nat} (h : Piv blk w0 W d cb s) (hblk : blk < w0.heap.size) (hk : Keeps W cb W') (hc : Cnt W' cb t) : Piv blk w0 W' d cb t := by
  have hn := h.new
  have hs := h.base.size
  refine ⟨⟨hk.os.trans h.base.os, hk.tape.trans h.base.tape, hk.output.trans h.base.output, Nat.le_trans hs hk.size, fun k hk0 hne => (hk.block k (by omega) (by omega)).trans (h.base.block k hk0 hne)⟩, ?_, hc, hn⟩
  have c := fun o => hk.cell blk o (by omega) (by omega)
  have f := fun o => hk.frozen blk o (by omega) (by omega)
  exact h.row.frame c f

section
variable [Elt E] {g sf : Nat} {lb sb : Array Value} {blk size : Nat} {w0 : World}

set_option maxHeartbeats 400000 in
set_option maxRecDepth 100000 in
theorem order2_any (S : Srt E g sf lb sb blk size w0) (W : World) (d : Array E) (hd : d.size = size) (a b cb s : Nat) (P : Piv blk w0 W d cb s) (ha : a < size) (hb : b < size) (hs : s ≤ 100) :
    Calls Tryd.prog 75 #[.agg #[.func (.func g) #[] lb, .func (.func sf) #[] sb], .int .i64 a, .int .i64 b, .pointer (some ⟨cb, 0, none⟩)] W fun e w' =>
      e = .returned (.tuple #[.int .i64 (Go.Sort.order2 Elt.lt d a b s).1, .int .i64 (Go.Sort.order2 Elt.lt d a b s).2.1]) ∧ Keeps W cb w' ∧ Piv blk w0 w' d cb (Go.Sort.order2 Elt.lt d a b s).2.2 := by
  have eg := S.enter
  have bx := Box.new W (.func (.func g) #[] lb) (.func (.func sf) #[] sb) 91
  have hB : Below W.heap.size W (W.alloc (.cells #[.func (.func g) #[] lb, .func (.func sf) #[] sb] 91)) := (Below.refl _ _).alloc (Nat.le_refl _) _
  have hl := S.less _ d (P.base.trans (Keeps.of hB)) (P.row.below hB (Nat.lt_of_lt_of_le S.lt P.base.size)) hd b a hb ha
  have hcn := P.cnt.below hB
  have HP := Lib.hid P
  have HS := Lib.hid S
  clear P S
  unfold Go.Sort.order2
  cases hlv : Elt.lt d[b]! d[a]! with
  | true =>
    rw [hlv] at hl
    rw [if_pos rfl]
    go_enter Tryd.func75, Tryd.ntmps75
    have c0 := bx.c0
    go_wp2_with fail
    refine hl.mono ?_
    rintro e w1 ⟨rfl, hb1⟩
    obtain ⟨k0, k1, k2⟩ := hcn.below hb1
    go_wp2_with fail
    refine bodyPost_ret (v := .tuple #[.int .i64 b, .int .i64 a]) (by simp [results, Tryd.results75, go_sem]) rfl ⟨rfl, ?_⟩
    have K : Keeps W cb w1 := Keeps.of (hB.trans (hb1.mono (by simp)))
    have C := (Cnt.mk k0 k1 k2).set (s + 1)
    have K' := K.trans (Keeps.setSame w1 cb (.int .i64 ((s + 1 : Nat) : Int)))
    exact ⟨by simpa using K', HP.out.next HS.out.lt (by simpa using K') (by simpa using C)⟩
  | false =>
    rw [hlv] at hl
    rw [if_neg (by simp)]
    go_enter Tryd.func75, Tryd.ntmps75
    have c0 := bx.c0
    go_wp2_with fail
    refine hl.mono ?_
    rintro e w1 ⟨rfl, hb1⟩
    go_wp2_with fail
    refine bodyPost_ret (v := .tuple #[.int .i64 a, .int .i64 b]) (by simp [results, Tryd.results75, go_sem]) rfl ⟨rfl, ?_⟩
    have K : Keeps W cb w1 := Keeps.of (hB.trans (hb1.mono (by simp)))
    exact ⟨K, HP.out.next HS.out.lt K (hcn.below hb1)⟩

theorem o2_in {n : Nat} (d : Array E) (a b s : Nat) (ha : a < n) (hb : b < n) : (Go.Sort.order2 Elt.lt d a b s).1 < n ∧ (Go.Sort.order2 Elt.lt d a b s).2.1 < n ∧ (Go.Sort.order2 Elt.lt d a b s).2.2 ≤ s + 1 := by
  unfold Go.Sort.order2
  split
  · exact ⟨hb, ha, Nat.le_refl _⟩
  · exact ⟨ha, hb, Nat.le_succ _⟩
theorem md_in {n : Nat} (d : Array E) (a b c s : Nat) (ha : a < n) (hb : b < n) (hc : c < n) : (Go.Sort.median Elt.lt d a b c s).1 < n ∧ (Go.Sort.median Elt.lt d a b c s).2 ≤ s + 3 := by
  have h1 := o2_in (n := n) d a b s ha hb
  have h2 := o2_in (n := n) d (Go.Sort.order2 Elt.lt d a b s).2.1 c (Go.Sort.order2 Elt.lt d a b s).2.2 h1.2.1 hc
  have h3 := o2_in (n := n) d (Go.Sort.order2 Elt.lt d a b s).1 (Go.Sort.order2 Elt.lt d (Go.Sort.order2 Elt.lt d a b s).2.1 c (Go.Sort.order2 Elt.lt d a b s).2.2).1 (Go.Sort.order2 Elt.lt d (Go.Sort.order2 Elt.lt d a b s).2.1 c (Go.Sort.order2 Elt.lt d a b s).2.2).2.2 h1.1 h2.1
  unfold Go.Sort.median
  exact ⟨h3.2.1, Nat.le_trans h3.2.2 (Nat.succ_le_succ (Nat.le_trans h2.2.2 (Nat.succ_le_succ h1.2.2)))⟩

set_option maxHeartbeats 400000 in
set_option maxRecDepth 100000 in
theorem median_any (S : Srt E g sf lb sb blk size w0) (W : World) (d : Array E) (hd : d.size = size) (a b c cb s : Nat) {x y z : Int} (hx : x = a) (hy : y = b) (hz : z = c) (P : Piv blk w0 W d cb s) (ha : a < size) (hb : b < size) (hc : c < size) (hs : s ≤ 90) :
    Calls Tryd.prog 74 #[.agg #[.func (.func g) #[] lb, .func (.func sf) #[] sb], .int .i64 x, .int .i64 y, .int .i64 z, .pointer (some ⟨cb, 0, none⟩)] W fun e w' =>
      e = .returned (.int .i64 (Go.Sort.median Elt.lt d a b c s).1) ∧ Keeps W cb w' ∧ Piv blk w0 w' d cb (Go.Sort.median Elt.lt d a b c s).2 := by
  subst hx hy hz
  have bx := Box.new W (.func (.func g) #[] lb) (.func (.func sf) #[] sb) 91
  have hB : Below W.heap.size W (W.alloc (.cells #[.func (.func g) #[] lb, .func (.func sf) #[] sb] 91)) := (Below.refl _ _).alloc (Nat.le_refl _) _
  have P0 := P.next S.lt (Keeps.of hB) (P.cnt.below hB)
  have hcb := P.cnt.lt
  have HS := Lib.hid S
  clear P S
  have h1 := o2_in (n := size) d a b s ha hb
  unfold Go.Sort.median
  have k1 := order2_any HS.out _ d hd a b cb s P0 ha hb (by omega)
  generalize Go.Sort.order2 Elt.lt d a b s = r1 at h1 k1 ⊢
  obtain ⟨i1, j1, s1⟩ := r1
  simp only at h1 k1 ⊢
  have h2 := o2_in (n := size) d j1 c s1 h1.2.1 hc
  have k2 := fun w2 (P : Piv blk w0 w2 d cb s1) => order2_any HS.out w2 d hd j1 c cb s1 P h1.2.1 hc (by have := h1.2.2; omega)
  generalize Go.Sort.order2 Elt.lt d j1 c s1 = r2 at h2 k2 ⊢
  obtain ⟨i2, j2, s2⟩ := r2
  simp only at h2 k2 ⊢
  have k3 := fun w3 (P : Piv blk w0 w3 d cb s2) => order2_any HS.out w3 d hd i1 i2 cb s2 P h1.1 h2.1 (by have := h1.2.2; have := h2.2.2; omega)
  generalize Go.Sort.order2 Elt.lt d i1 i2 s2 = r3 at k3 ⊢
  obtain ⟨i3, j3, s3⟩ := r3
  simp only at k3 ⊢
  have B0 := Lib.hid bx
  have HB := Lib.hid hB
  have H1 := Lib.hid k1; have H2 := Lib.hid k2; have H3 := Lib.hid k3
  clear h1 h2 bx hB P0 k1 k2 k3
  go_enter Tryd.func74, Tryd.ntmps74
  have c0 := B0.out.c0
  have c1 := B0.out.c1
  go_wp2_with fail
  refine H1.out.mono ?_
  rintro e w1 ⟨rfl, K1, P1⟩
  have K1' := (Keeps.of HB.out (blk := cb)).trans K1
  have b0 := (K1.cell W.heap.size 0 (by simp) (by omega)).trans B0.out.c0
  have b1 := (K1.cell W.heap.size 1 (by simp) (by omega)).trans B0.out.c1
  have l1 : W.heap.size < w1.heap.size := Nat.lt_of_lt_of_le (by simp) K1.size
  clear c0 c1
  go_wp2_with fail
  refine (H2.out w1 P1).mono ?_
  rintro e w2 ⟨rfl, K2, P2⟩
  have d0 := (K2.cell W.heap.size 0 l1 (by omega)).trans b0
  have d1 := (K2.cell W.heap.size 1 l1 (by omega)).trans b1
  clear b0 b1
  go_wp2_with fail
  refine (H3.out w2 P2).mono ?_
  rintro e w3 ⟨rfl, K3, P3⟩
  clear d0 d1
  go_wp2_with fail
  go_ret
  exact ⟨rfl, (K1'.trans K2).trans K3, P3⟩

set_option maxHeartbeats 400000 in
set_option maxRecDepth 100000 in
theorem medianAdj_any (S : Srt E g sf lb sb blk size w0) (W : World) (d : Array E) (hd : d.size = size) (a cb s : Nat) {x : Int} (hx : x = a) (P : Piv blk w0 W d cb s) (ha : 1 ≤ a) (hb : a + 1 < size) (hs : s ≤ 90) :
    Calls Tryd.prog 73 #[.agg #[.func (.func g) #[] lb, .func (.func sf) #[] sb], .int .i64 x, .pointer (some ⟨cb, 0, none⟩)] W fun e w' =>
      e = .returned (.int .i64 (Go.Sort.medianAdjacent Elt.lt d a s).1) ∧ Keeps W cb w' ∧ Piv blk w0 w' d cb (Go.Sort.medianAdjacent Elt.lt d a s).2 := by
  subst hx
  have few := S.few
  have bx := Box.new W (.func (.func g) #[] lb) (.func (.func sf) #[] sb) 91
  have hB : Below W.heap.size W (W.alloc (.cells #[.func (.func g) #[] lb, .func (.func sf) #[] sb] 91)) := (Below.refl _ _).alloc (Nat.le_refl _) _
  have P0 := P.next S.lt (Keeps.of hB) (P.cnt.below hB)
  have k := median_any S _ d hd (a - 1) a (a + 1) cb s (x := (a : Int) - 1) (y := a) (z := (a : Int) + 1) (by omega) rfl (by omega) P0 (by omega) (by omega) hb hs
  have HK := Lib.hid (Keeps.of hB (blk := cb))
  unfold Go.Sort.medianAdjacent
  clear P P0 S hB
  go_enter Tryd.func73, Tryd.ntmps73
  have c0 := bx.c0
  have c1 := bx.c1
  go_wp2_with fail
  refine k.mono ?_
  rintro e w1 ⟨rfl, K1, P1⟩
  clear c0 c1
  go_wp2_with fail
  go_ret
  exact ⟨rfl, HK.out.trans K1, P1⟩

/-- What the counter says. -/
theorem hint_of (s : Nat) : Go.Sort.hintCode (if s = 0 then .increasing else if s = 12 then .decreasing else .unknown) = if s = 0 then 1 else if s = 12 then 2 else 0 := by
  split
  · rfl
  · split <;> rfl

set_option maxHeartbeats 1000000 in
set_option maxRecDepth 100000 in
theorem pivot_any (S : Srt E g sf lb sb blk size w0) (W : World) (d : Array E) (hd : d.size = size) (a b : Nat) (hk : Keeps w0 blk W) (hr : Row W blk d) (hab : a + 12 < b) (hb : b ≤ size) :
    Calls Tryd.prog 61 #[.agg #[.func (.func g) #[] lb, .func (.func sf) #[] sb], .int .i64 a, .int .i64 b] W fun e w' =>
      e = .returned (.tuple #[.int .i64 (Go.Sort.choosePivot Elt.lt d a b).1, .int .i64 (Go.Sort.hintCode (Go.Sort.choosePivot Elt.lt d a b).2)]) ∧ Below W.heap.size W w' := by
  have few := S.few
  have HS := Lib.hid S
  have hl : 8 ≤ b - a := by omega
  have hB : Below W.heap.size W ((W.alloc (.cells #[.func (.func g) #[] lb, .func (.func sf) #[] sb] 91)).alloc (.cells #[.int .i64 0] 3)) := ((Below.refl _ _).alloc (Nat.le_refl _) _).alloc (by simp) _
  have P0 : Piv blk w0 ((W.alloc (.cells #[.func (.func g) #[] lb, .func (.func sf) #[] sb] 91)).alloc (.cells #[.int .i64 0] 3)) d (W.heap.size + 1) 0 :=
    ⟨hk.trans (Keeps.of hB), hr.below hB (Nat.lt_of_lt_of_le S.lt hk.size), ⟨by simp, by simp, by simp⟩, by have := hk.size; omega⟩
  have bx := (Box.new W (.func (.func g) #[] lb) (.func (.func sf) #[] sb) 91).alloc (.cells #[.int .i64 0] 3)
  have HP := Lib.hid P0
  have HB := Lib.hid hB
  clear S hk hr P0 hB
  unfold Go.Sort.choosePivot
  rw [hint_of]
  simp only [if_pos hl]
  by_cases h50 : 50 ≤ b - a
  · simp only [if_pos h50]
    have h1 : (Go.Sort.medianAdjacent Elt.lt d (a + (b - a) / 4 * 1) 0).1 < size ∧ (Go.Sort.medianAdjacent Elt.lt d (a + (b - a) / 4 * 1) 0).2 ≤ 0 + 3 := md_in d ((a + (b - a) / 4 * 1) - 1) (a + (b - a) / 4 * 1) ((a + (b - a) / 4 * 1) + 1) 0 (by omega) (by omega) (by omega)
    have k1 := fun w1 (P : Piv blk w0 w1 d (W.heap.size + 1) 0) (x : Int) (hx : x = ((a + (b - a) / 4 * 1 : Nat) : Int)) => medianAdj_any HS.out w1 d hd (a + (b - a) / 4 * 1) (W.heap.size + 1) 0 hx P (by omega) (by omega) (by omega)
    generalize Go.Sort.medianAdjacent Elt.lt d (a + (b - a) / 4 * 1) 0 = r1 at h1 k1 ⊢
    obtain ⟨i1, s1⟩ := r1
    simp only at h1 k1 ⊢
    have h2 : (Go.Sort.medianAdjacent Elt.lt d (a + (b - a) / 4 * 2) s1).1 < size ∧ (Go.Sort.medianAdjacent Elt.lt d (a + (b - a) / 4 * 2) s1).2 ≤ s1 + 3 := md_in d ((a + (b - a) / 4 * 2) - 1) (a + (b - a) / 4 * 2) ((a + (b - a) / 4 * 2) + 1) s1 (by omega) (by omega) (by omega)
    have k2 := fun w1 (P : Piv blk w0 w1 d (W.heap.size + 1) s1) (x : Int) (hx : x = ((a + (b - a) / 4 * 2 : Nat) : Int)) => medianAdj_any HS.out w1 d hd (a + (b - a) / 4 * 2) (W.heap.size + 1) s1 hx P (by omega) (by omega) (by omega)
    generalize Go.Sort.medianAdjacent Elt.lt d (a + (b - a) / 4 * 2) s1 = r2 at h2 k2 ⊢
    obtain ⟨i2, s2⟩ := r2
    simp only at h2 k2 ⊢
    have h3 : (Go.Sort.medianAdjacent Elt.lt d (a + (b - a) / 4 * 3) s2).1 < size ∧ (Go.Sort.medianAdjacent Elt.lt d (a + (b - a) / 4 * 3) s2).2 ≤ s2 + 3 := md_in d ((a + (b - a) / 4 * 3) - 1) (a + (b - a) / 4 * 3) ((a + (b - a) / 4 * 3) + 1) s2 (by omega) (by omega) (by omega)
    have k3 := fun w1 (P : Piv blk w0 w1 d (W.heap.size + 1) s2) (x : Int) (hx : x = ((a + (b - a) / 4 * 3 : Nat) : Int)) => medianAdj_any HS.out w1 d hd (a + (b - a) / 4 * 3) (W.heap.size + 1) s2 hx P (by omega) (by omega) (by omega)
    generalize Go.Sort.medianAdjacent Elt.lt d (a + (b - a) / 4 * 3) s2 = r3 at h3 k3 ⊢
    obtain ⟨i3, s3⟩ := r3
    simp only at h3 k3 ⊢
    have k4 := fun w1 (P : Piv blk w0 w1 d (W.heap.size + 1) s3) => median_any HS.out w1 d hd i1 i2 i3 (W.heap.size + 1) s3 rfl rfl rfl P h1.1 h2.1 h3.1 (by omega)
    generalize Go.Sort.median Elt.lt d i1 i2 i3 s3 = r4 at k4 ⊢
    obtain ⟨j, s⟩ := r4
    simp only at k4 ⊢
    have H1 := Lib.hid k1; have H2 := Lib.hid k2; have H3 := Lib.hid k3; have H4 := Lib.hid k4
    clear k1 k2 k3 k4
    go_enter Tryd.func61, Tryd.ntmps61
    have c0 := bx.c0
    have c1 := bx.c1
    go_wp2_with fail
    refine (H1.out _ HP.out _ (by omega)).mono ?_
    rintro e w1 ⟨rfl, K1, P1⟩
    have l1 : W.heap.size < w1.heap.size := Nat.lt_of_lt_of_le (by simp; omega) K1.size
    have b0 := (K1.cell W.heap.size 0 (by simp; omega) (by omega)).trans bx.c0
    have b1 := (K1.cell W.heap.size 1 (by simp; omega) (by omega)).trans bx.c1
    have BB := HB.out.trans (K1.below (n := W.heap.size) (by omega) (by simp; omega))
    clear c0 c1 bx
    go_wp2_with fail
    refine (H2.out _ P1 _ (by omega)).mono ?_
    rintro e w2 ⟨rfl, K2, P2⟩
    have l2 : W.heap.size < w2.heap.size := Nat.lt_of_lt_of_le l1 K2.size
    have c0 := (K2.cell W.heap.size 0 l1 (by omega)).trans b0
    have c1 := (K2.cell W.heap.size 1 l1 (by omega)).trans b1
    replace BB := BB.trans (K2.below (n := W.heap.size) (by omega) (by omega))
    clear b0 b1
    go_wp2_with fail
    refine (H3.out _ P2 _ (by omega)).mono ?_
    rintro e w3 ⟨rfl, K3, P3⟩
    have b0 := (K3.cell W.heap.size 0 l2 (by omega)).trans c0
    have b1 := (K3.cell W.heap.size 1 l2 (by omega)).trans c1
    have l3 : W.heap.size < w3.heap.size := Nat.lt_of_lt_of_le l2 K3.size
    replace BB := BB.trans (K3.below (n := W.heap.size) (by omega) (by omega))
    clear c0 c1
    go_wp2_with fail
    refine (H4.out _ P3).mono ?_
    rintro e w4 ⟨rfl, K4, PP⟩
    replace BB := BB.trans (K4.below (n := W.heap.size) (by omega) (by omega))
    clear b0 b1 P1 P2 P3 K1 K2 K3 K4
    obtain ⟨q0, q1, q2⟩ := PP.cnt
    by_cases s0 : s = 0
    · subst s0
      go_wp2_with fail
      refine bodyPost_ret (v := .tuple #[.int .i64 j, .int .i64 1]) (by simp [results, Tryd.results61, go_sem]) rfl ⟨by simp, BB⟩
    · have t0 : ((s : Int) == 0) = false := by
        have : ¬ (s : Int) = 0 := by omega
        simpa using this
      by_cases s12 : s = 12
      · subst s12
        go_wp2_with fail
        refine bodyPost_ret (v := .tuple #[.int .i64 j, .int .i64 2]) (by simp [results, Tryd.results61, go_sem]) rfl ⟨by simp, BB⟩
      · have t12 : ((s : Int) == 12) = false := by
          have : ¬ (s : Int) = 12 := by omega
          simpa using this
        go_wp2_with fail
        refine bodyPost_ret (v := .tuple #[.int .i64 j, .int .i64 0]) (by simp [results, Tryd.results61, go_sem]) rfl ⟨rfl, BB⟩
  · simp only [if_neg h50]
    have k := fun (x y z : Int) (hx : x = ((a + (b - a) / 4 * 1 : Nat) : Int)) (hy : y = ((a + (b - a) / 4 * 2 : Nat) : Int)) (hz : z = ((a + (b - a) / 4 * 3 : Nat) : Int)) => median_any HS.out _ d hd (a + (b - a) / 4 * 1) (a + (b - a) / 4 * 2) (a + (b - a) / 4 * 3) (W.heap.size + 1) 0 hx hy hz HP.out (by omega) (by omega) (by omega) (by omega)
    generalize Go.Sort.median Elt.lt d (a + (b - a) / 4 * 1) (a + (b - a) / 4 * 2) (a + (b - a) / 4 * 3) 0 = r4 at k ⊢
    obtain ⟨j, s⟩ := r4
    simp only at k ⊢
    have H := Lib.hid k
    clear k
    go_enter Tryd.func61, Tryd.ntmps61
    have c0 := bx.c0
    have c1 := bx.c1
    go_wp2_with fail
    refine (H.out _ _ _ (by omega) (by omega) (by omega)).mono ?_
    rintro e w4 ⟨rfl, K4, PP⟩
    have BB := HB.out.trans (K4.below (n := W.heap.size) (by omega) (by simp; omega))
    clear c0 c1 bx K4
    obtain ⟨q0, q1, q2⟩ := PP.cnt
    by_cases s0 : s = 0
    · subst s0
      go_wp2_with fail
      refine bodyPost_ret (v := .tuple #[.int .i64 j, .int .i64 1]) (by simp [results, Tryd.results61, go_sem]) rfl ⟨by simp, BB⟩
    · have t0 : ((s : Int) == 0) = false := by
        have : ¬ (s : Int) = 0 := by omega
        simpa using this
      by_cases s12 : s = 12
      · subst s12
        go_wp2_with fail
        refine bodyPost_ret (v := .tuple #[.int .i64 j, .int .i64 2]) (by simp [results, Tryd.results61, go_sem]) rfl ⟨by simp, BB⟩
      · have t12 : ((s : Int) == 12) = false := by
          have : ¬ (s : Int) = 12 := by omega
          simpa using this
        go_wp2_with fail
        refine bodyPost_ret (v := .tuple #[.int .i64 j, .int .i64 0]) (by simp [results, Tryd.results61, go_sem]) rfl ⟨rfl, BB⟩
end
end Go.Proofs.YtoocmogmocapoaaDoor
