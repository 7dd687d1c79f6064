/-
  sort.reverseRange_func and sort.breakPatterns_func over a row.
-/
import Derived.Test.YtoocmogmocapoaaDoorSortRow
import Derived.Test.YtoocmogmocapoaaDoorShelf
import Derived.Sort.LotD5
namespace Go.Proofs.YtoocmogmocapoaaDoor
open Go.RowKit
variable {E : Type} [Inhabited E]

theorem rev_on (i j : Nat) (d : Array E) (h : i < j) : Go.Sort.reverseLoop i j d = Go.Sort.reverseLoop (i + 1) (j - 1) (Go.Sort.swp d i j) := by
  rw [Go.Sort.reverseLoop, if_pos h]
theorem rev_out (i j : Nat) (d : Array E) (h : ¬ i < j) : Go.Sort.reverseLoop i j d = d := by
  rw [Go.Sort.reverseLoop, if_neg h]

set_option maxHeartbeats 1000000 in
set_option maxRecDepth 100000 in
theorem reverse_any [Elt E] {g sf : Nat} {lb sb : Array Value} {blk size : Nat} {w0 : World} (S : Srt E g sf lb sb blk size w0) (W : World) (d : Array E) (a b : Nat) (hk : Keeps w0 blk W) (hr : Row W blk d) (hd : d.size = size) (hab : a < b) (hb : b ≤ size) :
    Calls Tryd.prog 62 #[.agg #[.func (.func g) #[] lb, .func (.func sf) #[] sb], .int .i64 a, .int .i64 b] W fun e w' => e = .returned (.tuple #[]) ∧ Keeps W blk w' ∧ Row w' blk (Go.Sort.reverseRange d a b) := by
  have few := S.few
  have O := Lib.hid (On.start S hk hr hd 91)
  have HS := Lib.hid S
  clear S hk hr
  go_enter Tryd.func62, Tryd.ntmps62
  go_wp2_with fail
  go_loopw [6, 7] (fun vi vj wr => ∃ (i j : Nat) (dk : Array E), vi = .int .i64 i ∧ vj = .int .i64 j ∧ i ≤ b ∧ j < b ∧ Hid (On g sf lb sb blk size w0 W dk wr) ∧ Hid (Go.Sort.reverseLoop i j dk = Go.Sort.reverseLoop a (b - 1) d)) (fun _ vj _ => (intOf vj).toNat)
  case atStart => exact ⟨a, b - 1, d, rfl, by congr 1; omega, by omega, by omega, O, Lib.hid rfl⟩
  case round =>
    clear O
    obtain ⟨i, j, dk, rfl, rfl, hib, hjb, O, HO⟩ := hrel
    by_cases h : i < j
    · have c1 := O.out.c1
      go_wp2_with fail
      obtain ⟨w3, hs, O3⟩ := O.out.exch HS.out (i : Int) (j : Int) i j rfl rfl (by omega) (by omega)
      rw [hs, Oper.upon_value]
      clear c1 hs
      go_wp2_with fail
      go_roundw
      case rel => exact ⟨i + 1, j - 1, Go.Sort.swp dk i j, by go_num, by congr 1; omega, by omega, by omega, Lib.hid O3, Lib.hid (by rw [← HO.out, rev_on i j dk h])⟩
      case measure => simp [intOf]; omega
    · go_wp2_with fail
      go_end0
      have e : Go.Sort.reverseRange d a b = dk := by unfold Go.Sort.reverseRange; rw [← HO.out, rev_out i j dk h]
      exact ⟨rfl, O.out.own, by rw [e]; exact O.out.row⟩

/-! ### Breaking patterns -/
section
variable [Elt E] {g sf : Nat} {lb sb : Array Value} {blk size : Nat} {w0 W0 X Y : World} {d : Array E}
/-- A block laid within this call is written: all else stays. -/
theorem On.fresh (h : On g sf lb sb blk size w0 W0 d X) (S : Srt E g sf lb sb blk size w0) (hw : w0.heap.size ≤ W0.heap.size) (c : Nat) (hc : W0.heap.size < c) (hk : Keeps X c Y) : On g sf lb sb blk size w0 W0 d Y := by
  have hb := S.lt
  have hx := h.lt
  have b := h.base
  have o := h.own
  refine ⟨⟨hk.os.trans b.os, hk.tape.trans b.tape, hk.output.trans b.output, Nat.le_trans b.size hk.size, fun k h1 h2 => (hk.block k (by omega) (by omega)).trans (b.block k h1 h2)⟩,
    ⟨hk.os.trans o.os, hk.tape.trans o.tape, hk.output.trans o.output, Nat.le_trans o.size hk.size, fun k h1 h2 => (hk.block k (by omega) (by omega)).trans (o.block k h1 h2)⟩, ?_, h.dsz, h.ne, Nat.lt_of_lt_of_le h.lt hk.size,
    (hk.cell _ 0 h.lt (by omega)).trans h.c0, (hk.cell _ 1 h.lt (by omega)).trans h.c1⟩
  have cc := fun o => hk.cell blk o (by omega) (by omega)
  have ff := fun o => hk.frozen blk o (by omega) (by omega)
  exact h.row.frame cc ff
theorem On.exchK (h : On g sf lb sb blk size w0 W0 d X) (S : Srt E g sf lb sb blk size w0) (x y : Int) (i j : Nat) (hx : x = i) (hy : y = j) (hi : i < size) (hj : j < size) :
    ∃ Y, (callFunc sf (#[.int .i64 x, .int .i64 y] ++ sb)).run Tryd.prog X = .ok (.value (.tuple #[])) Y ∧ On g sf lb sb blk size w0 W0 (Go.Sort.swp d i j) Y ∧ Keeps X blk Y := by
  subst hx hy
  obtain ⟨Y, hs, hr, hk⟩ := S.swap X d h.row h.dsz i j hi hj
  exact ⟨Y, hs, h.call hr hk (by rw [Go.Sort.swp_size]; exact h.dsz), hk⟩
theorem Keeps.set (w : World) (cb : Nat) (v : Value) (q : Nat) : Keeps w cb ((w.setCell ⟨cb, 0, none⟩ v).drewN q) :=
  have h : Below cb w (w.setCell ⟨cb, 0, none⟩ v) := (Below.refl cb w).setCell (p := ⟨cb, 0, none⟩) (Nat.le_refl cb) v
  ⟨h.os, h.tape, h.output, h.size, fun k _ hn => by
    show (w.setCell ⟨cb, 0, none⟩ v).heap[k]? = _
    simp only [World.setCell]
    split <;> simp [Array.getElem?_modify, Ne.symm hn]⟩
end

/-- The state after so many steps. -/
def bpSt (a L M i : Nat) (d : Array E) : Nat → UInt64 × Array E
  | 0 => (UInt64.ofNat L, d)
  | k + 1 => Go.Sort.breakStep a L M (bpSt a L M i d k) (i + k)
theorem bp_eq (a L : Nat) (d : Array E) (h : 8 ≤ L) : Go.Sort.breakPatterns d a (a + L) = (bpSt a L (1 <<< Go.Sort.bitsLen L) (a + L / 4 * 2 - 1) d 3).2 := by
  unfold Go.Sort.breakPatterns
  simp only [Nat.add_sub_cancel_left, if_pos h]
  rfl
theorem bp_mod (L : Nat) (h : L < 65) (h1 : 1 ≤ L) : 1 ≤ 1 <<< Go.Sort.bitsLen L ∧ 1 <<< Go.Sort.bitsLen L ≤ 2 * L := by
  have H : ∀ n : Fin 65, 1 ≤ n.val → 1 ≤ 1 <<< Go.Sort.bitsLen n.val ∧ 1 <<< Go.Sort.bitsLen n.val ≤ 2 * n.val := by decide +kernel
  exact H ⟨L, h⟩ h1

set_option maxHeartbeats 4000000 in
set_option maxRecDepth 100000 in
theorem break_any [Elt E] {g sf : Nat} {lb sb : Array Value} {blk size : Nat} {w0 : World} (S : Srt E g sf lb sb blk size w0) (W : World) (d : Array E) (a b : Nat) (hk : Keeps w0 blk W) (hr : Row W blk d) (hd : d.size = size) (hab : a + 12 < b) (hb : b ≤ size) :
    Calls Tryd.prog 60 #[.agg #[.func (.func g) #[] lb, .func (.func sf) #[] sb], .int .i64 a, .int .i64 b] W fun e w' => e = .returned (.tuple #[]) ∧ Keeps W blk w' ∧ Row w' blk (Go.Sort.breakPatterns d a b) := by
  have few := S.few
  obtain ⟨L, rfl⟩ : ∃ L, b = a + L := ⟨b - a, by omega⟩
  rw [bp_eq a L d (by omega)]
  obtain ⟨m1, m2⟩ := bp_mod L (by omega) (by omega)
  have hN := fun w => Tryd.nextPowerOfTwo L (by omega) w
  generalize 1 <<< Go.Sort.bitsLen L = M at m1 m2 hN ⊢
  have HN := Lib.hid hN; clear hN
  rw [show ((a + L : Nat) : Int) = (a : Int) + L by omega]
  have hLz : ((a : Int) + (L : Int) - (a : Int)) = (L : Int) := by omega
  have O := Lib.hid ((On.start S hk hr hd 91).below S ((Below.refl _ _).alloc (Nat.le_refl _) (.cells #[.int .u64 (L : Int)] 126)))
  have hw := hk.size
  have hbl := S.lt
  have HS := Lib.hid S
  clear S hk hr
  generalize hR : (bpSt a L M (a + L / 4 * 2 - 1) d 3).2 = R
  have HR := Lib.hid hR; clear hR
  go_enter Tryd.func60, Tryd.ntmps60
  go_wp2_with fail
  refine (HN.out _).mono ?_
  rintro e w1 ⟨rfl, rfl⟩
  go_wp2_with fail
  go_loopw [9] (fun v wr => ∃ (k : Nat) (r : UInt64) (dk : Array E), v = .int .i64 ((a : Int) + (L : Int) / 4 * 2 - 1 + (k : Int)) ∧ k ≤ 3 ∧ Hid (bpSt a L M (a + L / 4 * 2 - 1) d k = (r, dk)) ∧ Hid (On g sf lb sb blk size w0 W dk wr) ∧ W.heap.size + 1 < wr.heap.size ∧ wr.cell? ⟨W.heap.size + 1, 0, none⟩ = some (.int .u64 (r.toNat : Int)) ∧ wr.frozen? ⟨W.heap.size + 1, 0, none⟩ = false) (fun v _ => (a + L - (intOf v).toNat))
  case atStart =>
    refine ⟨0, UInt64.ofNat L, d, by simp, by omega, Lib.hid rfl, O, by simp, ?_, by simp⟩
    rw [show (UInt64.ofNat L).toNat = L by simp; omega]
    simp
  case round =>
    clear O
    obtain ⟨k, r, dk, rfl, hk3, HB, O, l1, cR, fR⟩ := hrel
    by_cases h3 : k < 3
    · have hle : (a : Int) + (L : Int) / 4 * 2 - 1 + (k : Int) ≤ (a : Int) + (L : Int) / 4 * 2 + 1 := by omega
      have lR := Go.Sort.xorNextN_lt r.toNat r.toNat_lt
      have hX := Tryd.xorshift_Next (W.heap.size + 1) 0 r.toNat r.toNat_lt wr cR fR
      have eN := Go.Sort.xorNext_toNat r
      have hst' : bpSt a L M (a + L / 4 * 2 - 1) d (k + 1) = Go.Sort.breakStep a L M (r, dk) (a + L / 4 * 2 - 1 + k) := by rw [bpSt, HB.out]
      unfold Go.Sort.breakStep at hst'
      simp only at hst'
      rw [eN] at hst'
      have hNx : Hid ((Go.Sort.xorNext r).toNat = Go.Sort.xorNextN r.toNat) := eN
      clear eN
      generalize Go.Sort.xorNextN r.toNat = R' at lR hX hst' hNx
      have eA : bits .and .u64 (R' : Int) ((M : Int) - 1) = ((R' &&& (M - 1) : Nat) : Int) := by
        rw [show ((M : Int) - 1) = ((M - 1 : Nat) : Int) by omega, u64_and_nat _ _ lR (by omega)]
      have lO : R' &&& (M - 1) ≤ M - 1 := Nat.and_le_right
      generalize R' &&& (M - 1) = o at eA lO hst'
      have HT := Lib.hid hst'; clear hst' HB
      have KX := Keeps.set wr (W.heap.size + 1) (.int .u64 (R' : Int)) 3
      have O2 := O.out.fresh HS.out hw (W.heap.size + 1) (by omega) KX
      have cR' : ((wr.setCell ⟨W.heap.size + 1, 0, none⟩ (.int .u64 (R' : Int))).drewN 3).cell? ⟨W.heap.size + 1, 0, none⟩ = some (.int .u64 (R' : Int)) := by
        rw [World.cell?_drewN]; exact World.cell?_setCell_same _ _ _ cR
      have fR' : ((wr.setCell ⟨W.heap.size + 1, 0, none⟩ (.int .u64 (R' : Int))).drewN 3).frozen? ⟨W.heap.size + 1, 0, none⟩ = false := by
        rw [World.frozen?_drewN]; simpa using fR
      have l2 : W.heap.size + 1 < ((wr.setCell ⟨W.heap.size + 1, 0, none⟩ (.int .u64 (R' : Int))).drewN 3).heap.size := Nat.lt_of_lt_of_le l1 KX.size
      have HX := Lib.hid hX; clear hX
      clear cR fR O KX
      go_wp2_with fail
      refine HX.out.mono ?_
      rintro e w2 ⟨rfl, hw2⟩
      rw [← hw2] at O2 cR' fR' l2
      clear hw2 HX
      by_cases hLO : L ≤ o
      · have t : (L : Int) ≤ (o : Int) := by omega
        rw [if_pos hLO] at HT
        obtain ⟨w3, hs, O3, K3⟩ := O2.exchK HS.out ((a : Int) + (L : Int) / 4 * 2 - 1 + (k : Int)) ((a : Int) + ((o : Int) - (L : Int))) (a + L / 4 * 2 - 1 + k) (a + (o - L)) (by omega) (by omega) (by omega) (by omega)
        have cc := (K3.cell (W.heap.size + 1) 0 l2 (by omega)).trans cR'
        have ff := (K3.frozen (W.heap.size + 1) 0 l2 (by omega)).trans fR'
        have ll : W.heap.size + 1 < w3.heap.size := Nat.lt_of_lt_of_le l2 K3.size
        have c1 := O2.c1
        go_wp2_with fail
        refine ⟨⟨k + 1, _, _, by rw [show (a : Int) + (L : Int) / 4 * 2 - 1 + (k : Int) + 1 = (a : Int) + (L : Int) / 4 * 2 - 1 + ((k + 1 : Nat) : Int) by omega], by omega, HT, Lib.hid O3, ll, ?_, ff⟩, by simp only [intOf]; omega⟩
        rw [hNx.out]; exact cc
      · have t : ¬ (L : Int) ≤ (o : Int) := by omega
        rw [if_neg hLO] at HT
        obtain ⟨w3, hs, O3, K3⟩ := O2.exchK HS.out ((a : Int) + (L : Int) / 4 * 2 - 1 + (k : Int)) ((a : Int) + (o : Int)) (a + L / 4 * 2 - 1 + k) (a + o) (by omega) (by omega) (by omega) (by omega)
        have cc := (K3.cell (W.heap.size + 1) 0 l2 (by omega)).trans cR'
        have ff := (K3.frozen (W.heap.size + 1) 0 l2 (by omega)).trans fR'
        have ll : W.heap.size + 1 < w3.heap.size := Nat.lt_of_lt_of_le l2 K3.size
        have c1 := O2.c1
        go_wp2_with fail
        refine ⟨⟨k + 1, _, _, by rw [show (a : Int) + (L : Int) / 4 * 2 - 1 + (k : Int) + 1 = (a : Int) + (L : Int) / 4 * 2 - 1 + ((k + 1 : Nat) : Int) by omega], by omega, HT, Lib.hid O3, ll, ?_, ff⟩, by simp only [intOf]; omega⟩
        rw [hNx.out]; exact cc
    · obtain rfl : k = 3 := by omega
      have hle : ¬ ((a : Int) + (L : Int) / 4 * 2 - 1 + ((3 : Nat) : Int) ≤ (a : Int) + (L : Int) / 4 * 2 + 1) := by omega
      go_wp2_with fail
      go_end0
      exact ⟨rfl, O.out.own, by rw [← HR.out, HB.out]; exact O.out.row⟩
end Go.Proofs.YtoocmogmocapoaaDoor
