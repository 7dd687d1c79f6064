/-
  graph.Costs at every number of nodes and every list of links; what lay in memory stays.
-/
import Derived.Test.YtomfkmclgabcpaaDoorGraphGrid
import Derived.Test.YtomfkmclgabcpaaDoorGraphCheck
import Derived.Deep.RegionHeld3
namespace Go.Proofs.YtomfkmclgabcpaaDoor
open Go.RowKit Go.Lib

set_option maxHeartbeats 400000 in
set_option maxRecDepth 100000 in
theorem costs_bad (w : World) (n : Int) (v : Value) (l : List Lk) (hn : l.length < 4611686018427387904) (h : ArgK w v l) (hg : gBad n l ≠ 0) :
    Calls Tryd.prog 22 #[.int .i64 n, v] w fun e w' => e = .returned (.tuple #[.slice none 0 0, errV (gBad n l)]) ∧ Below w.heap.size w w' := by
  have hE : errV (gBad n l) = .iface 25 (.int .i64 (gBad n l)) := if_neg hg
  have HC := Lib.hid (gCheck_any w n v l hn h)
  rw [hE] at HC ⊢
  clear hE h
  generalize gBad n l = q at HC hg
  go_enter Tryd.func22, Tryd.ntmps22
  go_wp2_with fail
  refine HC.out.mono ?_
  rintro e w1 ⟨rfl, hb1⟩
  go_wp2_with fail
  go_ret2
  exact ⟨rfl, hb1⟩
theorem right_take {n : Int} {l : List Lk} (h : Right n l) (k : Nat) : Right n (l.take k) := ⟨fun x hx => h.1 x (List.mem_of_mem_take hx), h.2.sublist (List.take_sublist k l)⟩
theorem cost_apart (i j : Nat) : apart i j = costG [] i j := by
  rw [costG_nil]
  unfold apart
  by_cases h : i = j
  · rw [if_pos h, if_pos (by omega)]
  · rw [if_neg h, if_neg (by omega)]
theorem cost_step (n : Int) (l : List Lk) (p q : Nat) (c : Int) (h : Right n (l ++ [((p : Int), (q : Int), c)])) (i j : Nat) :
    (if i = q ∧ j = p then c else if i = p ∧ j = q then c else costG l i j) = costG (l ++ [((p : Int), (q : Int), c)]) i j := by
  rw [costG_more n l _ h]
  by_cases h1 : i = q ∧ j = p
  · rw [if_pos h1, if_pos (by rw [tie_iff]; show ((p : Int) = i ∧ (q : Int) = j) ∨ ((p : Int) = j ∧ (q : Int) = i); omega)]
  · rw [if_neg h1]
    by_cases h2 : i = p ∧ j = q
    · rw [if_pos h2, if_pos (by rw [tie_iff]; show ((p : Int) = i ∧ (q : Int) = j) ∨ ((p : Int) = j ∧ (q : Int) = i); omega)]
    · rw [if_neg h2, if_neg (by rw [tie_iff]; show ¬ (((p : Int) = i ∧ (q : Int) = j) ∨ ((p : Int) = j ∧ (q : Int) = i)); omega)]

set_option maxHeartbeats 1000000 in
set_option maxRecDepth 100000 in
theorem costs_some (w : World) (m : Nat) (b off c : Nat) (l : List Lk) (hn : l.length < 4611686018427387904) (hb : b < w.heap.size) (hs : SeenK w b off l) (hg : gBad m l = 0) :
    Calls Tryd.prog 22 #[.int .i64 m, .slice (some ⟨b, off, none⟩) l.length c] w fun e w' => ∃ g, w.heap.size ≤ g ∧ e = .returned (.tuple #[.slice (some ⟨g, 0, none⟩) m m, .nilIface]) ∧ Grid w' g m m (fun i j => costG l i j) ∧ Below w.heap.size w w' := by
  have HC := gCheck_any w m (.slice (some ⟨b, off, none⟩) l.length c) l hn ⟨_, _, rfl, Or.inr ⟨b, off, rfl, hb, hs⟩⟩
  rw [hg, show errV 0 = Value.nilIface from rfl] at HC
  have HC := Lib.hid HC
  have HS := Lib.hid hs; clear hs
  obtain ⟨hm, hr⟩ := (gBad_zero _ _).1 hg
  have HR := Lib.hid hr
  clear hr hg
  go_enter Tryd.func22, Tryd.ntmps22
  go_wp2_with fail
  refine HC.out.mono ?_
  rintro e w1 ⟨rfl, hb1⟩
  have HB1 := Lib.hid hb1; clear hb1
  go_wp2_with fail
  refine (unlinked_any w1 m (by omega)).mono ?_
  rintro e w2 ⟨rfl, hG2, hb2⟩
  have HB2 := Lib.hid (Below.two HB1.out hb2); clear hb2
  have HG2 := Lib.hid hG2; clear hG2
  have HG0 := Lib.hid HB1.out.size
  generalize w1.heap.size = g at HG2 HG0
  go_wp2_with fail
  go_loopw [20] (fun v wr => ∃ (k : Nat), v = .int .i64 k ∧ k ≤ l.length ∧ Hid (Below w.heap.size w wr) ∧ Hid (Grid wr g m m (fun i j => costG (l.take k) i j))) (fun v _ => l.length - (RowKit.intOf v).toNat)
  case atStart => exact ⟨0, rfl, Nat.zero_le _, HB2, Lib.hid (HG2.out.congr fun i _ j _ => cost_apart i j)⟩
  case round =>
    obtain ⟨k, rfl, hk, hB, HG⟩ := hrel
    by_cases hkn : k < l.length
    · have S := HS.out.below hB.out hb
      have s0 : wr.cell? ⟨b, off + k * 3, none⟩ = some (.int .i64 l[k]!.1) := S.c0 k hkn
      have s1 : wr.cell? ⟨b, off + k * 3 + 1, none⟩ = some (.int .i64 l[k]!.2.1) := S.c1 k hkn
      have s2 : wr.cell? ⟨b, off + k * 3 + 2, none⟩ = some (.int .i64 l[k]!.2.2) := S.c2 k hkn
      have ht := take_atK l k hkn
      have hr : linkBad m l[k]! = 0 := HR.out.1 _ (by rw [getElem!_pos l k hkn]; exact List.getElem_mem hkn)
      have hR := right_take HR.out (k + 1)
      rw [ht] at hR
      clear S
      generalize l[k]! = x at s0 s1 s2 ht hr hR
      obtain ⟨x0, x1, c⟩ := x
      have hr := (linkBad_zero _ _).1 hr
      simp only at s0 s1 s2 hr
      obtain ⟨p, rfl⟩ : ∃ p : Nat, x0 = p := ⟨x0.toNat, by omega⟩
      obtain ⟨q, rfl⟩ : ∃ q : Nat, x1 = q := ⟨x1.toNat, by omega⟩
      have hpm : p < m := by omega
      have hqm : q < m := by omega
      have ht := Lib.hid ht
      have hR := Lib.hid hR
      clear hr
      have hA := (Below.refl wr.heap.size wr).alloc (Nat.le_refl _) (.cells #[.int .i64 p, .int .i64 q, .int .i64 c] 48)
      have GA := HG.out.below hA HG.out.lt
      have a0 := GA.o p hpm
      have a1 := GA.e p hpm q hqm
      have a2 := GA.fe p hpm q
      have GA := Lib.hid GA
      clear hA
      generalize costG (l.take k) p q = z at a1
      have X0 := Box3.new wr (.int .i64 p) (.int .i64 q) (.int .i64 c) 48
      have BA : Below w.heap.size w (wr.alloc (.cells #[.int .i64 p, .int .i64 q, .int .i64 c] 48)) := hB.out.alloc hB.out.size _
      have hlt := HG.out.lt
      go_wp2_with fail
      go_region
      have X3 : Box3 ((wr.alloc (.cells #[.int .i64 p, .int .i64 q, .int .i64 c] 48)).setCell ⟨g + 1 + p, q, none⟩ (.int .i64 c)).drew wr.heap.size (.int .i64 p) (.int .i64 q) (.int .i64 c) := (X0.past (by omega) q _).drew
      have B3 := (BA.setCell (p := ⟨g + 1 + p, q, none⟩) (show w.heap.size ≤ g + 1 + p by have := HG0.out; omega) (.int .i64 c)).drew
      have G3 := (GA.out.set p q hpm c).drew
      clear a0 a1 a2 s0 s1 s2 X0 BA GA
      generalize ((wr.alloc (.cells #[.int .i64 p, .int .i64 q, .int .i64 c] 48)).setCell ⟨g + 1 + p, q, none⟩ (.int .i64 c)).drew = w3 at X3 B3 G3 ⊢
      generalize wr.heap.size = h at X3 hlt ⊢
      obtain ⟨l3, x0, x1, x2⟩ := X3
      have a0 := G3.o q hqm
      have a1 := G3.e q hqm p hpm
      have a2 := G3.fe q hqm p
      have HG3 := Lib.hid G3
      have HB3 := Lib.hid B3
      clear G3 B3
      generalize (if q = p ∧ p = q then c else costG (l.take k) q p) = z at a1
      go_wp2_with fail
      go_region
      go_wp2_with fail
      go_roundw
      case rel =>
        refine ⟨k + 1, by go_num, by omega, Lib.hid ((HB3.out.setCell (p := ⟨g + 1 + q, p, none⟩) (show w.heap.size ≤ g + 1 + q by have := HG0.out; omega) (.int .i64 c)).drew), Lib.hid (((HG3.out.set q p hqm c).drew).congr fun i _ j _ => ?_)⟩
        rw [ht.out]
        exact cost_step m (l.take k) p q c hR.out i j
      case measure => simp [RowKit.intOf]; omega
    · have e : l.take k = l := List.take_of_length_le (by omega)
      rw [e] at HG
      go_wp2_with fail
      go_ret2
      exact ⟨g, HG0.out, rfl, HG.out, hB.out⟩

set_option maxHeartbeats 400000 in
set_option maxRecDepth 100000 in
theorem costs_none (w : World) (m : Nat) (p : Option Addr) (c : Nat) (hm : 1 ≤ m ∧ m ≤ 8) :
    Calls Tryd.prog 22 #[.int .i64 m, .slice p 0 c] w fun e w' => ∃ g, w.heap.size ≤ g ∧ e = .returned (.tuple #[.slice (some ⟨g, 0, none⟩) m m, .nilIface]) ∧ Grid w' g m m (fun i j => costG [] i j) ∧ Below w.heap.size w w' := by
  go_enter Tryd.func22, Tryd.ntmps22
  go_wp2_with fail
  refine (check_none w m p c (by omega) (by omega)).mono ?_
  rintro e w1 ⟨rfl, hb1⟩
  have HB1 := Lib.hid hb1; clear hb1
  go_wp2_with fail
  refine (unlinked_any w1 m (by omega)).mono ?_
  rintro e w2 ⟨rfl, hG2, hb2⟩
  have HB2 := Lib.hid (Below.two HB1.out hb2); clear hb2
  have HG2 := Lib.hid hG2; clear hG2
  have HG0 := Lib.hid HB1.out.size
  generalize w1.heap.size = g at HG2 HG0
  go_wp2_with fail
  refine wp_loop_rounds 1 ?_
  rw [rounds_succ]
  go_wp2_with fail
  go_ret2
  exact ⟨g, HG0.out, rfl, HG2.out.congr fun i _ j _ => cost_apart i j, HB2.out⟩
/-- graph.Costs at right nodes and links. -/
theorem costs_ok (w : World) (m : Nat) (v : Value) (l : List Lk) (hn : l.length < 4611686018427387904) (h : ArgK w v l) (hg : gBad m l = 0) :
    Calls Tryd.prog 22 #[.int .i64 m, v] w fun e w' => ∃ g, w.heap.size ≤ g ∧ e = .returned (.tuple #[.slice (some ⟨g, 0, none⟩) m m, .nilIface]) ∧ Grid w' g m m (fun i j => costG l i j) ∧ Below w.heap.size w w' := by
  obtain ⟨p, c, rfl, h⟩ := h
  rcases h with rfl | ⟨b, off, rfl, hb, hs⟩
  · have := ((gBad_zero _ _).1 hg).1
    exact costs_none w m p c (by omega)
  · exact costs_some w m b off c l hn hb hs hg
end Go.Proofs.YtomfkmclgabcpaaDoor
