/-
  bell.Round and bell.Run at every number of nodes, every list of links, every node and every list of estimates; what lay in memory stays.
-/
import Derived.Test.YtjgpibchnpodjaaBellRound
import Derived.Test.YtjgpibchnpodjaaBellStart
import Derived.Test.YtjgpibchnpodjaaGraphCosts
import Derived.Test.YtjgpibchnpodjaaSliceEq
namespace Go.Proofs.Ytjgpibchnpodjaa
open Go.RowKit Go.Lib

/-- What is wrong with nodes, links, a node and what nodes think. -/
def runBad (n : Int) (l : List Lk) (to : Int) : Int := if gBad n l ≠ 0 then gBad n l else nodeBad n to
def roundBad (n : Int) (l : List Lk) (to : Int) (d : List Int) : Int := if runBad n l to ≠ 0 then runBad n l to else estBad n d
theorem runBad_zero {n : Int} {l : List Lk} {to : Int} : runBad n l to = 0 ↔ gBad n l = 0 ∧ 0 ≤ to ∧ to < n := by
  unfold runBad
  by_cases h : gBad n l = 0
  · rw [if_neg (by omega), nodeBad_zero]
    constructor
    · intro g; exact ⟨h, g⟩
    · intro g; exact g.2
  · rw [if_pos h]
    constructor
    · intro g; exact absurd g h
    · intro g; exact absurd g.1 h
theorem roundBad_zero {n : Int} {l : List Lk} {to : Int} {d : List Int} : roundBad n l to d = 0 ↔ runBad n l to = 0 ∧ estBad n d = 0 := by
  unfold roundBad
  by_cases h : runBad n l to = 0
  · rw [if_neg (by omega)]
    constructor
    · intro g; exact ⟨h, g⟩
    · intro g; exact g.2
  · rw [if_pos h]
    constructor
    · intro g; exact absurd g h
    · intro g; exact absurd g.1 h
/-- Right nodes, links and a node, as numbers. -/
theorem run_nat {n : Int} {l : List Lk} {to : Int} (h : runBad n l to = 0) : ∃ m t : Nat, n = m ∧ to = t ∧ 1 ≤ m ∧ m ≤ 8 ∧ t < m ∧ gBad m l = 0 ∧ Right m l := by
  obtain ⟨h1, h2, h3⟩ := runBad_zero.1 h
  obtain ⟨h4, h5⟩ := (gBad_zero n l).1 h1
  refine ⟨n.toNat, to.toNat, by omega, by omega, by omega, by omega, by omega, ?_, ?_⟩
  · rw [show ((n.toNat : Nat) : Int) = n by omega]; exact h1
  · rw [show ((n.toNat : Nat) : Int) = n by omega]; exact h5
theorem errV_ne {k : Int} (h : k ≠ 0) : errV k = .iface 45 (.int .i64 k) := if_neg h
/-- A list that is a vector, to be read. -/
theorem vec_arg {w : World} {v : Value} {n : Nat} {d : Nat → Nat} (h : ArgI w v (BellP.vec n d)) (hn : 1 ≤ n) : ∃ b off c, v = .slice (some ⟨b, off, none⟩) n c ∧ b < w.heap.size ∧ ∀ j, j < n → w.cell? ⟨b, off + j, none⟩ = some (.int .i64 (d j : Int)) := by
  obtain ⟨p, c, rfl, h | ⟨b, off, rfl, hb, hs⟩⟩ := h
  · have := congrArg List.length h; rw [BellP.vec_len] at this; simp at this; omega
  · refine ⟨b, off, c, by rw [BellP.vec_len], hb, fun j hj => ?_⟩
    rw [← BellP.vec_at n d j hj]
    exact hs j (by rw [BellP.vec_len]; exact hj)
theorem Vec.argV {w : World} {g n : Nat} {d : Nat → Nat} (h : Vec w g n (fun i => (d i : Int))) : ArgI w (.slice (some ⟨g, 0, none⟩) n n) (BellP.vec n d) := h.arg
theorem Vec.cells {w : World} {g n : Nat} {d : Nat → Int} (h : Vec w g n d) : ∀ j, j < n → w.cell? ⟨g, 0 + j, none⟩ = some (.int .i64 (d j)) := fun j hj => by rw [Nat.zero_add]; exact h.c j hj

set_option maxHeartbeats 400000 in
set_option maxRecDepth 100000 in
theorem round_bad1 (w : World) (n to : Int) (v u : Value) (l : List Lk) (hn : l.length < 4611686018427387904) (h : ArgK w v l) (hg : gBad n l ≠ 0) :
    Calls Try.prog 8 #[.int .i64 n, v, .int .i64 to, u] w fun e w' => e = .returned (.tuple #[.slice none 0 0, errV (gBad n l)]) ∧ Below w.heap.size w w' := by
  have HC := Lib.hid (costs_bad w n v l hn h hg)
  rw [errV_ne hg] at HC ⊢
  clear h
  generalize gBad n l = q at HC hg
  go_enter Try.func8, Try.ntmps8
  go_wp2_with fail
  refine HC.out.mono ?_
  rintro e w1 ⟨rfl, hb1⟩
  go_wp2_with fail
  go_ret2
  exact ⟨rfl, hb1⟩
set_option maxHeartbeats 400000 in
set_option maxRecDepth 100000 in
theorem round_bad2 (w : World) (m : Nat) (to : Int) (v u : Value) (l : List Lk) (hn : l.length < 4611686018427387904) (h : ArgK w v l) (hg : gBad m l = 0) (ht : nodeBad m to ≠ 0) :
    Calls Try.prog 8 #[.int .i64 m, v, .int .i64 to, u] w fun e w' => e = .returned (.tuple #[.slice none 0 0, errV (nodeBad m to)]) ∧ Below w.heap.size w w' := by
  have HC := Lib.hid (costs_ok w m v l hn h hg)
  have HN := Lib.hid (fun w => checkNode_any w m to)
  rw [errV_ne ht] at HN ⊢
  clear h hg
  generalize nodeBad m to = q at HN ht
  go_enter Try.func8, Try.ntmps8
  go_wp2_with fail
  refine HC.out.mono ?_
  rintro e w1 ⟨g, hgs, rfl, hG, hb1⟩
  have HB := Lib.hid hb1
  clear hG hb1
  go_wp2_with fail
  refine (HN.out _).mono ?_
  rintro e w2 ⟨rfl, rfl⟩
  go_wp2_with fail
  go_ret2
  exact ⟨rfl, HB.out⟩
set_option maxHeartbeats 400000 in
set_option maxRecDepth 100000 in
theorem round_bad3 (w : World) (m : Nat) (to : Int) (v u : Value) (l : List Lk) (d : List Int) (hn : l.length < 4611686018427387904) (hd : d.length < 4611686018427387904) (h : ArgK w v l) (hu : ArgI w u d) (hg : gBad m l = 0) (ht : nodeBad m to = 0) (hf : estBad m d ≠ 0) :
    Calls Try.prog 8 #[.int .i64 m, v, .int .i64 to, u] w fun e w' => e = .returned (.tuple #[.slice none 0 0, errV (estBad m d)]) ∧ Below w.heap.size w w' := by
  have HC := Lib.hid (costs_ok w m v l hn h hg)
  have HN := Lib.hid (fun w => checkNode_any w m to)
  have HE := Lib.hid (fun w (h : ArgI w u d) => checkEst_any w m u d hd h)
  have HU := Lib.hid hu
  rw [errV_ne hf] at HE ⊢
  rw [ht, show errV 0 = Value.nilIface from rfl] at HN
  obtain ⟨pu, cu, rfl, _⟩ := hu
  clear h hg ht
  generalize estBad m d = q at HE hf
  go_enter Try.func8, Try.ntmps8
  go_wp2_with fail
  refine HC.out.mono ?_
  rintro e w1 ⟨g, hgs, rfl, hG, hb1⟩
  have HB := Lib.hid hb1
  have HU1 := Lib.hid (HU.out.below hb1)
  clear hG hb1
  go_wp2_with fail
  refine (HN.out _).mono ?_
  rintro e w2 ⟨rfl, rfl⟩
  go_wp2_with fail
  refine (HE.out _ HU1.out).mono ?_
  rintro e w3 ⟨rfl, rfl⟩
  go_wp2_with fail
  go_ret2
  exact ⟨rfl, HB.out⟩
/-- bell.Round at what is wrong. -/
theorem round_bad (w : World) (n to : Int) (v u : Value) (l : List Lk) (d : List Int) (hn : l.length < 4611686018427387904) (hd : d.length < 4611686018427387904) (h : ArgK w v l) (hu : ArgI w u d) (hg : roundBad n l to d ≠ 0) :
    Calls Try.prog 8 #[.int .i64 n, v, .int .i64 to, u] w fun e w' => e = .returned (.tuple #[.slice none 0 0, errV (roundBad n l to d)]) ∧ Below w.heap.size w w' := by
  by_cases h1 : gBad n l = 0
  · obtain ⟨h4, _⟩ := (gBad_zero n l).1 h1
    obtain ⟨m, rfl⟩ : ∃ m : Nat, n = m := ⟨n.toNat, by omega⟩
    have e1 : runBad m l to = nodeBad m to := if_neg (by omega)
    by_cases h2 : nodeBad m to = 0
    · have e2 : roundBad m l to d = estBad m d := if_neg (by omega)
      rw [e2] at hg ⊢
      exact round_bad3 w m to v u l d hn hd h hu h1 h2 hg
    · have e2 : roundBad m l to d = nodeBad m to := by unfold roundBad; rw [e1, if_pos h2]
      rw [e2]
      exact round_bad2 w m to v u l hn h h1 h2
  · have e1 : runBad n l to = gBad n l := if_pos h1
    have e2 : roundBad n l to d = gBad n l := by unfold roundBad; rw [e1, if_pos h1]
    rw [e2]
    exact round_bad1 w n to v u l hn h h1

set_option maxHeartbeats 1000000 in
set_option maxRecDepth 100000 in
/-- bell.Round at what is right. -/
theorem round_ok (w : World) (m t : Nat) (v u : Value) (l : List Lk) (d : Nat → Nat) (hn : l.length < 4611686018427387904) (h : ArgK w v l) (hu : ArgI w u (BellP.vec m d)) (hg : gBad m l = 0) (ht : t < m) (hd : ∀ j, d j ≤ 16) :
    Calls Try.prog 8 #[.int .i64 m, v, .int .i64 t, u] w fun e w' => ∃ q, w.heap.size ≤ q ∧ e = .returned (.tuple #[.slice (some ⟨q, 0, none⟩) m m, .nilIface]) ∧ Vec w' q m (fun i => (BellP.rd m (BellP.ct l) t d i : Int)) ∧ Below w.heap.size w w' := by
  obtain ⟨hm, hr⟩ := (gBad_zero m l).1 hg
  have HC := Lib.hid (costs_ok w m v l hn h hg)
  have HN := Lib.hid (fun w => checkNode_any w m t)
  rw [(nodeBad_zero m t).2 (by omega), show errV 0 = Value.nilIface from rfl] at HN
  have HE := Lib.hid (fun w (h : ArgI w u (BellP.vec m d)) => checkEst_any w m u _ (by rw [BellP.vec_len]; omega) h)
  rw [vec_est m d (fun i _ => hd i), show errV 0 = Value.nilIface from rfl] at HE
  have HU := Lib.hid hu
  obtain ⟨bu, ou, cu, rfl, hbu, hcu⟩ := vec_arg hu (by omega)
  have HV := Lib.hid hcu
  have HR := Lib.hid (fun (w : World) g (hG : Grid w g m m (fun i j => (BellP.ct l i j : Int))) (hb : bu < w.heap.size) (hv : ∀ j, j < m → w.cell? ⟨bu, ou + j, none⟩ = some (.int .i64 (d j : Int))) => round_any w g m t bu ou cu (BellP.ct l) d (by omega) (BellP.ct_cost hr).bd hd hG hb hv)
  have HI := Lib.hid (fun i j => (BellP.ct_int hr i j).symm)
  clear h hg hu hcu hr hd
  go_enter Try.func8, Try.ntmps8
  go_wp2_with fail
  refine HC.out.mono ?_
  rintro e w1 ⟨g, hgs, rfl, hG, hb1⟩
  have HG := Lib.hid (hG.congr fun i _ j _ => HI.out i j)
  have HB := Lib.hid hb1
  have HU1 := Lib.hid (HU.out.below hb1)
  clear hG hb1
  go_wp2_with fail
  refine (HN.out _).mono ?_
  rintro e w2 ⟨rfl, rfl⟩
  go_wp2_with fail
  refine (HE.out _ HU1.out).mono ?_
  rintro e w3 ⟨rfl, rfl⟩
  go_wp2_with fail
  refine (HR.out _ g HG.out (Nat.lt_of_lt_of_le hbu HB.out.size) (fun j hj => (HB.out.cell (p := ⟨bu, ou + j, none⟩) hbu).trans (HV.out j hj))).mono ?_
  rintro e w4 ⟨q, hq, rfl, hV, hb4⟩
  have HV4 := Lib.hid hV
  have HB4 := Lib.hid (Below.two HB.out hb4)
  have HQ := Lib.hid (Nat.le_trans HB.out.size hq)
  clear hV hb4 hq
  go_wp2_with fail
  go_ret2
  exact ⟨q, HQ.out, rfl, HV4.out, HB4.out⟩
end Go.Proofs.Ytjgpibchnpodjaa
