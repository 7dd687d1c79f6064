/-
  mat.shorter at three distances; mat.Mul at every two tables; what lay in memory stays.
-/
import Derived.Test.YtobfidlfgdlilaaDoorMatMake
import Derived.Test.YtobfidlfgdlilaaDoorMatCheck
namespace Go.Proofs.YtobfidlfgdlilaaDoor
open Go.RowKit Go.Lib

set_option maxHeartbeats 400000 in
set_option maxRecDepth 100000 in
/-- mat.shorter. -/
theorem shorter_any (d a b : Nat) (hd : d ≤ 16) (ha : a ≤ 16) (hb : b ≤ 16) (w : World) :
    Calls Tryd.prog 21 #[.int .i64 d, .int .i64 a, .int .i64 b] w fun e w' => e = .returned (.int .i64 ((DistP.least d (DistP.add a b) : Nat) : Int)) ∧ Below w.heap.size w w' := by
  have HA := Lib.hid (add_yes a b ha hb)
  have HL := Lib.hid (less_yes d (DistP.add a b) hd (DistP.add_le a b))
  generalize DistP.add a b = s at HA HL
  generalize DistP.least d s = t at HL ⊢
  go_enter Tryd.func21, Tryd.ntmps21
  go_wp2_with fail
  refine (HA.out _).mono ?_
  rintro e w1 ⟨rfl, hb1⟩
  have HB1 := Lib.hid hb1; clear hb1
  go_wp2_with fail
  refine (HL.out _).mono ?_
  rintro e w2 ⟨rfl, hb2⟩
  have HB2 := Lib.hid (Below.two HB1.out hb2); clear hb2
  go_wp2_with fail
  go_ret
  exact ⟨rfl, HB2.out⟩

/-- A table to be read: row by row. -/
theorem tab_row {w : World} {b off n : Nat} {A : MatP.T} (h : SeenR w b off (rowsN n A)) (i : Nat) (hi : i < n) :
    ∃ b' o' c', w.cell? ⟨b, off + i, none⟩ = some (.slice (some ⟨b', o', none⟩) n c') ∧ b' < w.heap.size ∧ ∀ j, j < n → w.cell? ⟨b', o' + j, none⟩ = some (.int .i64 (A i j : Int)) := by
  obtain ⟨v, h1, p, c, rfl, h2⟩ := h i (by rw [rowsN_len]; exact hi)
  rw [rowsN_at n A i hi] at h2 h1
  rcases h2 with e | ⟨b', o', rfl, hb, hs⟩
  · have := congrArg List.length e; simp at this; omega
  · refine ⟨b', o', c, by simpa using h1, hb, fun j hj => ?_⟩
    have := hs j (by simpa using hj)
    rw [this, getElem!_pos _ j (by simpa using hj)]
    simp
/-- An argument that is a table of at least one row. -/
theorem tab_arg {w : World} {v : Value} {n : Nat} {A : MatP.T} (h : ArgR w v (rowsN n A)) (hn : 1 ≤ n) : ∃ b off c, v = .slice (some ⟨b, off, none⟩) n c ∧ b < w.heap.size ∧ SeenR w b off (rowsN n A) := by
  obtain ⟨p, c, rfl, h | ⟨b, off, rfl, hb, hs⟩⟩ := h
  · have := congrArg List.length h; rw [rowsN_len] at this; simp at this; omega
  · exact ⟨b, off, c, by rw [rowsN_len], hb, hs⟩

/-- What stands in the product's rows behind i rows, k columns of the next one and j sums of the next place. -/
def mulG (A B : MatP.T) (n i k j p q : Nat) : Nat := if p < i ∨ (p = i ∧ q < k) then MatP.mul n A B p q else if p = i ∧ q = k then MatP.mulTo A B i k j else 16
theorem mulG_bd (A B : MatP.T) (n i k j p q : Nat) : mulG A B n i k j p q ≤ 16 := by
  unfold mulG
  split
  · exact MatP.mul_bd _ _ _ _ _
  · split
    · exact MatP.mulTo_bd _ _ _ _ _
    · omega
theorem mulG_at (A B : MatP.T) (n i k j : Nat) : mulG A B n i k j i k = MatP.mulTo A B i k j := by
  unfold mulG
  rw [if_neg (by omega), if_pos ⟨rfl, rfl⟩]
theorem mulG_start (A B : MatP.T) (n p q : Nat) : (16 : Int) = (mulG A B n 0 0 0 p q : Int) := by
  unfold mulG
  rw [if_neg (by omega)]
  split <;> rfl
theorem mulG_set (A B : MatP.T) (n i k j p q : Nat) : (if p = i ∧ q = k then ((DistP.least (MatP.mulTo A B i k j) (DistP.add (A i j) (B j k)) : Nat) : Int) else (mulG A B n i k j p q : Int)) = (mulG A B n i k (j + 1) p q : Int) := by
  unfold mulG
  by_cases h : p = i ∧ q = k
  · rw [if_pos h, if_neg (by omega), if_pos h]; rfl
  · rw [if_neg h, if_neg h, if_neg h]
theorem mulG_col (A B : MatP.T) (n i k p q : Nat) : (mulG A B n i k n p q : Int) = (mulG A B n i (k + 1) 0 p q : Int) := by
  unfold mulG
  by_cases h : p < i ∨ (p = i ∧ q < k)
  · rw [if_pos h, if_pos (by omega)]
  · rw [if_neg h]
    by_cases h2 : p = i ∧ q = k
    · obtain ⟨rfl, rfl⟩ := h2
      rw [if_pos ⟨rfl, rfl⟩, if_pos (by omega)]; rfl
    · rw [if_neg h2, if_neg (by omega)]
      split <;> rfl
theorem mulG_row (A B : MatP.T) (n i p q : Nat) (hq : q < n) : (mulG A B n i n 0 p q : Int) = (mulG A B n (i + 1) 0 0 p q : Int) := by
  unfold mulG
  by_cases h : p < i ∨ (p = i ∧ q < n)
  · rw [if_pos h, if_pos (by omega)]
  · rw [if_neg h, if_neg (by omega), if_neg (by omega)]
    split <;> rfl
theorem mulG_end (A B : MatP.T) (n p q : Nat) (hp : p < n) : (mulG A B n n 0 0 p q : Int) = (MatP.mul n A B p q : Int) := by
  unfold mulG
  rw [if_pos (Or.inl hp)]

set_option maxHeartbeats 400000 in
set_option maxRecDepth 100000 in
theorem mul_bad1 (w : World) (v v' : Value) (M : List (List Int)) (h : ArgR w v M) (hg : matBad M ≠ 0) :
    Calls Tryd.prog 12 #[v, v'] w fun e w' => e = .returned (.tuple #[.slice none 0 0, errV (matBad M)]) ∧ w = w' := by
  have hE : errV (matBad M) = .iface 24 (.int .i64 (matBad M)) := if_neg hg
  have HC := Lib.hid (matCheck_any w v M h)
  rw [hE] at HC ⊢
  clear hE h hg
  generalize matBad M = q at HC
  go_enter Tryd.func12, Tryd.ntmps12
  go_wp2_with fail
  refine HC.out.mono ?_
  rintro e w1 ⟨rfl, rfl⟩
  go_wp2_with fail
  go_ret2
  exact ⟨rfl, rfl⟩
set_option maxHeartbeats 400000 in
set_option maxRecDepth 100000 in
theorem mul_bad2 (w : World) (v v' : Value) (M M' : List (List Int)) (h : ArgR w v M) (h' : ArgR w v' M') (hg : matBad M = 0) (hg' : matBad M' ≠ 0) :
    Calls Tryd.prog 12 #[v, v'] w fun e w' => e = .returned (.tuple #[.slice none 0 0, errV (matBad M')]) ∧ w = w' := by
  have hE : errV (matBad M') = .iface 24 (.int .i64 (matBad M')) := if_neg hg'
  have HC := Lib.hid (matCheck_any w v M h)
  have HC' := Lib.hid (matCheck_any w v' M' h')
  rw [hg, show errV 0 = Value.nilIface from rfl] at HC
  rw [hE] at HC' ⊢
  clear hE h hg h' hg'
  generalize matBad M' = q at HC'
  go_enter Tryd.func12, Tryd.ntmps12
  go_wp2_with fail
  refine HC.out.mono ?_
  rintro e w1 ⟨rfl, rfl⟩
  go_wp2_with fail
  refine HC'.out.mono ?_
  rintro e w1 ⟨rfl, rfl⟩
  go_wp2_with fail
  go_ret2
  exact ⟨rfl, rfl⟩
set_option maxHeartbeats 400000 in
set_option maxRecDepth 100000 in
theorem mul_bad3 (w : World) (v v' : Value) (M M' : List (List Int)) (h : ArgR w v M) (h' : ArgR w v' M') (hg : matBad M = 0) (hg' : matBad M' = 0) (hl : M.length ≠ M'.length) :
    Calls Tryd.prog 12 #[v, v'] w fun e w' => e = .returned (.tuple #[.slice none 0 0, errV 3]) ∧ w = w' := by
  have HC := Lib.hid (matCheck_any w v M h)
  have HC' := Lib.hid (matCheck_any w v' M' h')
  rw [hg, show errV 0 = Value.nilIface from rfl] at HC
  rw [hg', show errV 0 = Value.nilIface from rfl] at HC'
  obtain ⟨p, c, rfl, _⟩ := h
  obtain ⟨p', c', rfl, _⟩ := h'
  have t : ((M.length : Int) != (M'.length : Int)) = true := by
    have : ¬ (M.length : Int) = M'.length := by omega
    simpa using this
  clear hg hg' hl
  go_enter Tryd.func12, Tryd.ntmps12
  go_wp2_with fail
  refine HC.out.mono ?_
  rintro e w1 ⟨rfl, rfl⟩
  go_wp2_with fail
  refine HC'.out.mono ?_
  rintro e w1 ⟨rfl, rfl⟩
  go_wp2_with fail
  go_ret2
  exact ⟨rfl, rfl⟩
/-- mat.Mul at tables that cannot be taken one after the other. -/
theorem mul_bad (w : World) (v v' : Value) (M M' : List (List Int)) (h : ArgR w v M) (h' : ArgR w v' M') (hg : mulBad M M' ≠ 0) :
    Calls Tryd.prog 12 #[v, v'] w fun e w' => e = .returned (.tuple #[.slice none 0 0, errV (mulBad M M')]) ∧ w = w' := by
  by_cases h1 : matBad M = 0
  · by_cases h2 : matBad M' = 0
    · by_cases h3 : M.length = M'.length
      · exact absurd (by unfold mulBad; rw [if_neg (by omega), if_neg (by omega), if_neg (by omega)]) hg
      · rw [show mulBad M M' = 3 by unfold mulBad; rw [if_neg (by omega), if_neg (by omega), if_pos h3]]
        exact mul_bad3 w v v' M M' h h' h1 h2 h3
    · rw [show mulBad M M' = matBad M' by unfold mulBad; rw [if_neg (by omega), if_pos h2]]
      exact mul_bad2 w v v' M M' h h' h1 h2
  · rw [show mulBad M M' = matBad M by unfold mulBad; rw [if_pos h1]]
    exact mul_bad1 w v v' M h h1

set_option maxHeartbeats 4000000 in
set_option maxRecDepth 100000 in
theorem mul_some (w : World) (ba oa ca bb ob cb n : Nat) (A B : MatP.T) (h1 : 1 ≤ n) (h8 : n ≤ 8) (hA : MatP.Bd A) (hBd : MatP.Bd B) (hba : ba < w.heap.size) (hbb : bb < w.heap.size) (hs : SeenR w ba oa (rowsN n A)) (hs' : SeenR w bb ob (rowsN n B)) :
    Calls Tryd.prog 12 #[.slice (some ⟨ba, oa, none⟩) n ca, .slice (some ⟨bb, ob, none⟩) n cb] w fun e w' => ∃ g, w.heap.size ≤ g ∧ e = .returned (.tuple #[.slice (some ⟨g, 0, none⟩) n n, .nilIface]) ∧ Grid w' g n n (fun i k => (MatP.mul n A B i k : Int)) ∧ Below w.heap.size w w' := by
  have HC := Lib.hid (matCheck_any w (.slice (some ⟨ba, oa, none⟩) n ca) (rowsN n A) ⟨_, _, by rw [rowsN_len], Or.inr ⟨ba, oa, rfl, hba, hs⟩⟩)
  have HC' := Lib.hid (matCheck_any w (.slice (some ⟨bb, ob, none⟩) n cb) (rowsN n B) ⟨_, _, by rw [rowsN_len], Or.inr ⟨bb, ob, rfl, hbb, hs'⟩⟩)
  rw [mat_rows h1 h8 hA, show errV 0 = Value.nilIface from rfl] at HC
  rw [mat_rows h1 h8 hBd, show errV 0 = Value.nilIface from rfl] at HC'
  have HS := Lib.hid hs; have HS' := Lib.hid hs'
  have HA := Lib.hid hA; have HBd := Lib.hid hBd
  clear hs hs' hA hBd
  go_enter Tryd.func12, Tryd.ntmps12
  go_wp2_with fail
  refine HC.out.mono ?_
  rintro e w1 ⟨rfl, rfl⟩
  go_wp2_with fail
  refine HC'.out.mono ?_
  rintro e w1 ⟨rfl, rfl⟩
  clear HC HC'
  go_wp2_with fail
  refine (unreached_any w n h8).mono ?_
  rintro e w1 ⟨rfl, hG, hb⟩
  have HG1 := Lib.hid hG; have HB1 := Lib.hid hb
  clear hG hb
  obtain ⟨g, HGS⟩ : ∃ g, Hid (w.heap.size = g) := ⟨_, Lib.hid rfl⟩
  rw [HGS.out] at HG1
  rw [show (Value.slice (some ⟨w.heap.size, 0, none⟩) n n) = .slice (some ⟨g, 0, none⟩) n n by rw [HGS.out]]
  go_wp2_with fail
  go_loopw [34] (fun v wr => ∃ (i : Nat), v = .int .i64 i ∧ i ≤ n ∧ Hid (Below w.heap.size w wr) ∧ Hid (Grid wr g n n (fun p q => (mulG A B n i 0 0 p q : Int)))) (fun v _ => n - (RowKit.intOf v).toNat)
  case atStart => exact ⟨0, rfl, Nat.zero_le _, HB1, Lib.hid (HG1.out.congr fun p _ q _ => mulG_start A B n p q)⟩
  case round =>
    clear HB1 HG1
    obtain ⟨i, rfl, hi, hB, HG⟩ := hrel
    by_cases hin : i < n
    · have r0 := HG.out.o i hin
      go_wp2_with fail
      clear r0
      go_loopw [41] (fun v wr => ∃ (k : Nat), v = .int .i64 k ∧ k ≤ n ∧ Hid (Below w.heap.size w wr) ∧ Hid (Grid wr g n n (fun p q => (mulG A B n i k 0 p q : Int)))) (fun v _ => n - (RowKit.intOf v).toNat)
      case atStart => exact ⟨0, rfl, Nat.zero_le _, hB, HG⟩
      case round =>
        clear hB HG
        obtain ⟨k, rfl, hk, hB, HG⟩ := hrel
        by_cases hkn : k < n
        · go_wp2_with fail
          go_loopw [46] (fun v wr => ∃ (j : Nat), v = .int .i64 j ∧ j ≤ n ∧ Hid (Below w.heap.size w wr) ∧ Hid (Grid wr g n n (fun p q => (mulG A B n i k j p q : Int)))) (fun v _ => n - (RowKit.intOf v).toNat)
          case atStart => exact ⟨0, rfl, Nat.zero_le _, hB, HG⟩
          case round =>
            clear hB HG
            obtain ⟨j, rfl, hj, hB, HG⟩ := hrel
            by_cases hjn : j < n
            · obtain ⟨b1, o1, c1, a1, l1, x1⟩ := tab_row HS.out i hin
              obtain ⟨b2, o2, c2, a2, l2, x2⟩ := tab_row HS'.out j hjn
              have x1 := x1 j hjn
              have x2 := x2 k hkn
              have HSet := Lib.hid (fun p q => mulG_set A B n i k j p q)
              have z0 := HG.out.e i hin k hkn
              have HZ := Lib.hid (mulG_at A B n i k j)
              rw [HZ.out] at z0
              have hzb := MatP.mulTo_bd A B i k j
              have hxb := HA.out i j
              have hyb := HBd.out j k
              generalize MatP.mulTo A B i k j = z at z0 hzb HSet HZ
              generalize A i j = x at x1 hxb HSet
              generalize B j k = y at x2 hyb HSet
              have HSS : Hid (∀ w', Below w.heap.size w w' → w'.cell? ⟨ba, oa + i, none⟩ = some (.slice (some ⟨b1, o1, none⟩) n c1) ∧ w'.cell? ⟨b1, o1 + j, none⟩ = some (.int .i64 (x : Int)) ∧ w'.cell? ⟨bb, ob + j, none⟩ = some (.slice (some ⟨b2, o2, none⟩) n c2) ∧ w'.cell? ⟨b2, o2 + k, none⟩ = some (.int .i64 (y : Int))) :=
                Lib.hid fun w' hb => ⟨(hb.cell (p := ⟨ba, oa + i, none⟩) hba).trans a1, (hb.cell (p := ⟨b1, o1 + j, none⟩) l1).trans x1, (hb.cell (p := ⟨bb, ob + j, none⟩) hbb).trans a2, (hb.cell (p := ⟨b2, o2 + k, none⟩) l2).trans x2⟩
              clear a1 l1 x1 a2 l2 x2
              go_wp2_with fail
            --REG
              refine wp_region_held_drew (S := (fun w' => w'.cell? ⟨ba, oa + i, none⟩ = some (.slice (some ⟨b1, o1, none⟩) n c1) ∧ w'.cell? ⟨b1, o1 + j, none⟩ = some (.int .i64 (x : Int)) ∧ w'.cell? ⟨bb, ob + j, none⟩ = some (.slice (some ⟨b2, o2, none⟩) n c2) ∧ w'.cell? ⟨b2, o2 + k, none⟩ = some (.int .i64 (y : Int)))) (by kernel_rfl) (HSS.out _ hB.out.drew) (fun hHeld => ?_)
              refine wpAnyH_take (i := 0) (oi := { dst := some 49, op := Op.move (Operand.tmp 10), type := 39, pos := "mat.go:95", after := #[], guard := none }) (v := ?_) rfl (by kernel_rfl) (by kernel_rfl) (by kernel_rfl) (fun _ _ _ h => h) (Or.inl ⟨by rfl, ?_⟩) hHeld ?_
              rotate_left
              · (intro w hSw; (try dsimp only at hSw); go_simp; first | done | with_reducible rfl)
              simp only [Act.put, List.setIfInBounds_toArray, List.set_cons_zero, List.set_cons_succ]
              refine wpAnyH_take (i := 1) (oi := { dst := some 50, op := Op.move (Operand.tmp 11), type := 3, pos := "mat.go:95", after := #[], guard := none }) (v := ?_) rfl (by kernel_rfl) (by kernel_rfl) (by kernel_rfl) (fun _ _ _ h => h) (Or.inl ⟨by rfl, ?_⟩) hHeld ?_
              rotate_left
              · (intro w hSw; (try dsimp only at hSw); go_simp; first | done | with_reducible rfl)
              simp only [Act.put, List.setIfInBounds_toArray, List.set_cons_zero, List.set_cons_succ]
              refine wpAnyH_take (i := 2) (oi := { dst := some 51, op := Op.move (Operand.tmp 10), type := 39, pos := "mat.go:95", after := #[], guard := none }) (v := ?_) rfl (by kernel_rfl) (by kernel_rfl) (by kernel_rfl) (fun _ _ _ h => h) (Or.inl ⟨by rfl, ?_⟩) hHeld ?_
              rotate_left
              · (intro w hSw; (try dsimp only at hSw); go_simp; first | done | with_reducible rfl)
              simp only [Act.put, List.setIfInBounds_toArray, List.set_cons_zero, List.set_cons_succ]
              refine wpAnyH_take (i := 3) (oi := { dst := some 52, op := Op.move (Operand.tmp 11), type := 3, pos := "mat.go:95", after := #[], guard := none }) (v := ?_) rfl (by kernel_rfl) (by kernel_rfl) (by kernel_rfl) (fun _ _ _ h => h) (Or.inl ⟨by rfl, ?_⟩) hHeld ?_
              rotate_left
              · (intro w hSw; (try dsimp only at hSw); go_simp; first | done | with_reducible rfl)
              simp only [Act.put, List.setIfInBounds_toArray, List.set_cons_zero, List.set_cons_succ]
              refine wpAnyH_take (i := 4) (oi := { dst := some 53, op := Op.indexAddr 39 (Operand.tmp 51) (Operand.tmp 52), type := 0, pos := "mat.go:95", after := #[{ on := 2, ground := Ground.data }, { on := 3, ground := Ground.data }], guard := none }) (v := ?_) rfl (by kernel_rfl) (by kernel_rfl) (by kernel_rfl) (fun _ _ _ h => h) (Or.inl ⟨by rfl, ?_⟩) hHeld ?_
              rotate_left
              · (intro w hSw; (try dsimp only at hSw); go_simp; first | done | with_reducible rfl)
              simp only [Act.put, List.setIfInBounds_toArray, List.set_cons_zero, List.set_cons_succ]
              refine wpAnyH_take (i := 6) (oi := { dst := some 55, op := Op.move (Operand.tmp 0), type := 22, pos := "mat.go:95", after := #[], guard := none }) (v := ?_) rfl (by kernel_rfl) (by kernel_rfl) (by kernel_rfl) (fun _ _ _ h => h) (Or.inl ⟨by rfl, ?_⟩) hHeld ?_
              rotate_left
              · (intro w hSw; (try dsimp only at hSw); go_simp; first | done | with_reducible rfl)
              simp only [Act.put, List.setIfInBounds_toArray, List.set_cons_zero, List.set_cons_succ]
              refine wpAnyH_take (i := 7) (oi := { dst := some 56, op := Op.move (Operand.tmp 9), type := 3, pos := "mat.go:95", after := #[], guard := none }) (v := ?_) rfl (by kernel_rfl) (by kernel_rfl) (by kernel_rfl) (fun _ _ _ h => h) (Or.inl ⟨by rfl, ?_⟩) hHeld ?_
              rotate_left
              · (intro w hSw; (try dsimp only at hSw); go_simp; first | done | with_reducible rfl)
              simp only [Act.put, List.setIfInBounds_toArray, List.set_cons_zero, List.set_cons_succ]
              refine wpAnyH_take (i := 8) (oi := { dst := some 57, op := Op.indexAddr 22 (Operand.tmp 55) (Operand.tmp 56), type := 0, pos := "mat.go:95", after := #[{ on := 6, ground := Ground.data }, { on := 7, ground := Ground.data }], guard := none }) (v := ?_) rfl (by kernel_rfl) (by kernel_rfl) (by kernel_rfl) (fun _ _ _ h => h) (Or.inl ⟨by rfl, ?_⟩) hHeld ?_
              rotate_left
              · (intro w hSw; (try dsimp only at hSw); go_simp; first | done | with_reducible rfl)
              simp only [Act.put, List.setIfInBounds_toArray, List.set_cons_zero, List.set_cons_succ]
              refine wpAnyH_take (i := 9) (oi := { dst := some 58, op := Op.load 39 (Operand.tmp 57), type := 39, pos := "mat.go:95", after := #[{ on := 8, ground := Ground.data }], guard := none }) (v := ?_) rfl (by kernel_rfl) (by kernel_rfl) (by kernel_rfl) (fun _ _ _ h => h) (Or.inl ⟨by rfl, ?_⟩) hHeld ?_
              rotate_left
              · (intro w hSw; (try dsimp only at hSw); go_simp; first | done | with_reducible rfl)
              simp only [Act.put, List.setIfInBounds_toArray, List.set_cons_zero, List.set_cons_succ]
              refine wpAnyH_take (i := 10) (oi := { dst := some 59, op := Op.move (Operand.tmp 12), type := 3, pos := "mat.go:95", after := #[], guard := none }) (v := ?_) rfl (by kernel_rfl) (by kernel_rfl) (by kernel_rfl) (fun _ _ _ h => h) (Or.inl ⟨by rfl, ?_⟩) hHeld ?_
              rotate_left
              · (intro w hSw; (try dsimp only at hSw); go_simp; first | done | with_reducible rfl)
              simp only [Act.put, List.setIfInBounds_toArray, List.set_cons_zero, List.set_cons_succ]
              refine wpAnyH_take (i := 11) (oi := { dst := some 60, op := Op.indexAddr 39 (Operand.tmp 58) (Operand.tmp 59), type := 0, pos := "mat.go:95", after := #[{ on := 9, ground := Ground.data }, { on := 10, ground := Ground.data }], guard := none }) (v := ?_) rfl (by kernel_rfl) (by kernel_rfl) (by kernel_rfl) (fun _ _ _ h => h) (Or.inl ⟨by rfl, ?_⟩) hHeld ?_
              rotate_left
              · (intro w hSw; (try dsimp only at hSw); go_simp; first | done | with_reducible rfl)
              simp only [Act.put, List.setIfInBounds_toArray, List.set_cons_zero, List.set_cons_succ]
              refine wpAnyH_take (i := 12) (oi := { dst := some 61, op := Op.load 3 (Operand.tmp 60), type := 3, pos := "mat.go:95", after := #[{ on := 11, ground := Ground.data }], guard := none }) (v := ?_) rfl (by kernel_rfl) (by kernel_rfl) (by kernel_rfl) (fun _ _ _ h => h) (Or.inl ⟨by rfl, ?_⟩) hHeld ?_
              rotate_left
              · (intro w hSw; (try dsimp only at hSw); go_simp; first | done | with_reducible rfl)
              simp only [Act.put, List.setIfInBounds_toArray, List.set_cons_zero, List.set_cons_succ]
              refine wpAnyH_take (i := 13) (oi := { dst := some 62, op := Op.move (Operand.tmp 1), type := 22, pos := "mat.go:95", after := #[], guard := none }) (v := ?_) rfl (by kernel_rfl) (by kernel_rfl) (by kernel_rfl) (fun _ _ _ h => h) (Or.inl ⟨by rfl, ?_⟩) hHeld ?_
              rotate_left
              · (intro w hSw; (try dsimp only at hSw); go_simp; first | done | with_reducible rfl)
              simp only [Act.put, List.setIfInBounds_toArray, List.set_cons_zero, List.set_cons_succ]
              refine wpAnyH_take (i := 14) (oi := { dst := some 63, op := Op.move (Operand.tmp 12), type := 3, pos := "mat.go:95", after := #[], guard := none }) (v := ?_) rfl (by kernel_rfl) (by kernel_rfl) (by kernel_rfl) (fun _ _ _ h => h) (Or.inl ⟨by rfl, ?_⟩) hHeld ?_
              rotate_left
              · (intro w hSw; (try dsimp only at hSw); go_simp; first | done | with_reducible rfl)
              simp only [Act.put, List.setIfInBounds_toArray, List.set_cons_zero, List.set_cons_succ]
              refine wpAnyH_take (i := 15) (oi := { dst := some 64, op := Op.indexAddr 22 (Operand.tmp 62) (Operand.tmp 63), type := 0, pos := "mat.go:95", after := #[{ on := 13, ground := Ground.data }, { on := 14, ground := Ground.data }], guard := none }) (v := ?_) rfl (by kernel_rfl) (by kernel_rfl) (by kernel_rfl) (fun _ _ _ h => h) (Or.inl ⟨by rfl, ?_⟩) hHeld ?_
              rotate_left
              · (intro w hSw; (try dsimp only at hSw); go_simp; first | done | with_reducible rfl)
              simp only [Act.put, List.setIfInBounds_toArray, List.set_cons_zero, List.set_cons_succ]
              refine wpAnyH_take (i := 16) (oi := { dst := some 65, op := Op.load 39 (Operand.tmp 64), type := 39, pos := "mat.go:95", after := #[{ on := 15, ground := Ground.data }], guard := none }) (v := ?_) rfl (by kernel_rfl) (by kernel_rfl) (by kernel_rfl) (fun _ _ _ h => h) (Or.inl ⟨by rfl, ?_⟩) hHeld ?_
              rotate_left
              · (intro w hSw; (try dsimp only at hSw); go_simp; first | done | with_reducible rfl)
              simp only [Act.put, List.setIfInBounds_toArray, List.set_cons_zero, List.set_cons_succ]
              refine wpAnyH_take (i := 17) (oi := { dst := some 66, op := Op.move (Operand.tmp 11), type := 3, pos := "mat.go:95", after := #[], guard := none }) (v := ?_) rfl (by kernel_rfl) (by kernel_rfl) (by kernel_rfl) (fun _ _ _ h => h) (Or.inl ⟨by rfl, ?_⟩) hHeld ?_
              rotate_left
              · (intro w hSw; (try dsimp only at hSw); go_simp; first | done | with_reducible rfl)
              simp only [Act.put, List.setIfInBounds_toArray, List.set_cons_zero, List.set_cons_succ]
              refine wpAnyH_take (i := 18) (oi := { dst := some 67, op := Op.indexAddr 39 (Operand.tmp 65) (Operand.tmp 66), type := 0, pos := "mat.go:95", after := #[{ on := 16, ground := Ground.data }, { on := 17, ground := Ground.data }], guard := none }) (v := ?_) rfl (by kernel_rfl) (by kernel_rfl) (by kernel_rfl) (fun _ _ _ h => h) (Or.inl ⟨by rfl, ?_⟩) hHeld ?_
              rotate_left
              · (intro w hSw; (try dsimp only at hSw); go_simp; first | done | with_reducible rfl)
              simp only [Act.put, List.setIfInBounds_toArray, List.set_cons_zero, List.set_cons_succ]
              refine wpAnyH_take (i := 19) (oi := { dst := some 68, op := Op.load 3 (Operand.tmp 67), type := 3, pos := "mat.go:95", after := #[{ on := 18, ground := Ground.data }], guard := none }) (v := ?_) rfl (by kernel_rfl) (by kernel_rfl) (by kernel_rfl) (fun _ _ _ h => h) (Or.inl ⟨by rfl, ?_⟩) hHeld ?_
              rotate_left
              · (intro w hSw; (try dsimp only at hSw); go_simp; first | done | with_reducible rfl)
              simp only [Act.put, List.setIfInBounds_toArray, List.set_cons_zero, List.set_cons_succ]
              refine wpAnyH_ready (rs := [5]) (by kernel_rfl) (by simp) ?_
              refine (AllReadyH.cons (o := { dst := some 54, op := Op.load 3 (Operand.tmp 53), type := 3, pos := "mat.go:95", after := #[{ on := 4, ground := Ground.data }], guard := none }) rfl (fun K hK => ?_) AllReadyH.nil)
              go_simp
              have KK5 := hHeld
              clear hHeld
              refine hK.out _ _ KK5 (fun hHeld => ?_)
              clear hK K
              refine wpAnyH_ready (rs := [20]) (by kernel_rfl) (by simp) ?_
              refine (AllReadyH.cons (o := { dst := some 69, op := Op.call { callee := Callee.value (Operand.func 21), args := #[Operand.tmp 54, Operand.tmp 61, Operand.tmp 68], argTypes := #[3, 3, 3] }, type := 3, pos := "mat.go:95", after := #[{ on := 5, ground := Ground.data }, { on := 12, ground := Ground.data }, { on := 19, ground := Ground.data }], guard := none }) rfl (fun K hK => ?_) AllReadyH.nil)
              go_simp
              go_at_call 21
              refine (shorter_any z x y hzb hxb hyb _).mono ?_
              rintro e w3 ⟨rfl, hb3⟩
              have G3 := HG.out.drew.keep hb3
              have B3 := hB.out.drew.trans (hb3.mono hB.out.drew.size)
              have KK20 := HSS.out w3 B3
              have f3 := G3.fe i hin k
              have e3 := G3.e i hin k hkn
              rw [HZ.out] at e3
              have HG3 := Lib.hid G3; have HB3 := Lib.hid B3
              clear hHeld hb3 G3 B3 z0
              go_wp2_with fail
              refine hK.out _ _ KK20 (fun hHeld => ?_)
              clear hK K
              refine wpAnyH_take (i := 21) (oi := { dst := some 70, op := Op.indexAddr 39 (Operand.tmp 49) (Operand.tmp 50), type := 0, pos := "mat.go:95", after := #[{ on := 0, ground := Ground.data }, { on := 1, ground := Ground.data }, { on := 0, ground := Ground.phase }, { on := 1, ground := Ground.phase }, { on := 2, ground := Ground.phase }, { on := 3, ground := Ground.phase }, { on := 4, ground := Ground.phase }, { on := 5, ground := Ground.phase }, { on := 6, ground := Ground.phase }, { on := 7, ground := Ground.phase }, { on := 8, ground := Ground.phase }, { on := 9, ground := Ground.phase }, { on := 10, ground := Ground.phase }, { on := 11, ground := Ground.phase }, { on := 12, ground := Ground.phase }, { on := 13, ground := Ground.phase }, { on := 14, ground := Ground.phase }, { on := 15, ground := Ground.phase }, { on := 16, ground := Ground.phase }, { on := 17, ground := Ground.phase }, { on := 18, ground := Ground.phase }, { on := 19, ground := Ground.phase }, { on := 20, ground := Ground.phase }], guard := none }) (v := ?_) rfl (by kernel_rfl) (by kernel_rfl) (by kernel_rfl) (fun _ _ _ h => h) (Or.inl ⟨by rfl, ?_⟩) hHeld ?_
              rotate_left
              · (intro w hSw; (try dsimp only at hSw); go_simp; first | done | with_reducible rfl)
              simp only [Act.put, List.setIfInBounds_toArray, List.set_cons_zero, List.set_cons_succ]
              refine wpAnyH_ready (rs := [22]) (by kernel_rfl) (by simp) ?_
              refine (AllReadyH.cons (o := { dst := none, op := Op.store 3 (Operand.tmp 70) (Operand.tmp 69), type := 0, pos := "mat.go:95", after := #[{ on := 21, ground := Ground.data }, { on := 20, ground := Ground.data }, { on := 20, ground := Ground.chain }, { on := 0, ground := Ground.phase }, { on := 1, ground := Ground.phase }, { on := 2, ground := Ground.phase }, { on := 3, ground := Ground.phase }, { on := 4, ground := Ground.phase }, { on := 5, ground := Ground.phase }, { on := 6, ground := Ground.phase }, { on := 7, ground := Ground.phase }, { on := 8, ground := Ground.phase }, { on := 9, ground := Ground.phase }, { on := 10, ground := Ground.phase }, { on := 11, ground := Ground.phase }, { on := 12, ground := Ground.phase }, { on := 13, ground := Ground.phase }, { on := 14, ground := Ground.phase }, { on := 15, ground := Ground.phase }, { on := 16, ground := Ground.phase }, { on := 17, ground := Ground.phase }, { on := 18, ground := Ground.phase }, { on := 19, ground := Ground.phase }, { on := 20, ground := Ground.phase }], guard := none }) rfl (fun K hK => ?_) AllReadyH.nil)
              go_simp
              have B4 := HB3.out.setCell (p := ⟨g + 1 + i, k, none⟩) (show w.heap.size ≤ g + 1 + i by have := HGS.out; omega) (.int .i64 ((DistP.least z (DistP.add x y) : Nat) : Int))
              have KK22 := HSS.out _ B4
              have HB4 := Lib.hid B4
              have HG4 := Lib.hid (HG3.out.set i k hin ((DistP.least z (DistP.add x y) : Nat) : Int))
              clear hHeld B4 f3 e3
              refine hK.out _ _ KK22 (fun hHeld => ?_)
              clear hK K
              refine wpAnyH_done (by kernel_rfl) ?_ _
              clear hHeld
            --END
              go_wp2_with fail
              go_roundw
              case rel => exact ⟨j + 1, by go_num, by omega, HB4, Lib.hid (HG4.out.congr fun p _ q _ => HSet.out p q)⟩
              case measure => simp [RowKit.intOf]; omega
            · have e : j = n := by omega
              subst e
              go_wp2_with fail
              go_roundw
              case rel => exact ⟨k + 1, by go_num, by omega, hB, Lib.hid (HG.out.congr fun p _ q _ => mulG_col A B j i k p q)⟩
              case measure => simp [RowKit.intOf]; omega
        · have e : k = n := by omega
          subst e
          go_wp2_with fail
          go_roundw
          case rel => exact ⟨i + 1, by go_num, by omega, hB, Lib.hid (HG.out.congr fun p _ q hq => mulG_row A B k i p q hq)⟩
          case measure => simp [RowKit.intOf]; omega
    · have e : i = n := by omega
      subst e
      go_wp2_with fail
      go_ret2
      exact ⟨g, by have := HGS.out; omega, rfl, HG.out.congr fun p hp q _ => mulG_end A B i p q hp, hB.out⟩
/-- mat.Mul at two tables of as many rows. -/
theorem mul_ok (w : World) (v v' : Value) (n : Nat) (A B : MatP.T) (h1 : 1 ≤ n) (h8 : n ≤ 8) (hA : MatP.Bd A) (hB : MatP.Bd B) (h : ArgR w v (rowsN n A)) (h' : ArgR w v' (rowsN n B)) :
    Calls Tryd.prog 12 #[v, v'] w fun e w' => ∃ g, w.heap.size ≤ g ∧ e = .returned (.tuple #[.slice (some ⟨g, 0, none⟩) n n, .nilIface]) ∧ Grid w' g n n (fun i k => (MatP.mul n A B i k : Int)) ∧ Below w.heap.size w w' := by
  obtain ⟨ba, oa, ca, rfl, hba, hs⟩ := tab_arg h h1
  obtain ⟨bb, ob, cb, rfl, hbb, hs'⟩ := tab_arg h' h1
  exact mul_some w ba oa ca bb ob cb n A B h1 h8 hA hB hba hbb hs hs'
end Go.Proofs.YtobfidlfgdlilaaDoor
