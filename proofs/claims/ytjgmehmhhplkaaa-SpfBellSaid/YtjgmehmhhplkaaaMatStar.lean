/-
  mat.oneOr and mat.Star at every table; what lay in memory stays.
-/
import Derived.Test.YtjgmehmhhplkaaaMatShort
namespace Go.Proofs.Ytjgmehmhhplkaaa
open Go.RowKit Go.Lib

/-- What stands in oneOr's rows behind i rows and k columns of the next one. -/
def oneG (A : MatP.T) (i k p q : Nat) : Nat := if p < i ∨ (p = i ∧ q < k) then MatP.min2 MatP.one A p q else MatP.one p q
theorem oneG_at (A : MatP.T) (i k : Nat) : oneG A i k i k = MatP.one i k := if_neg (by omega)
theorem oneG_start (A : MatP.T) (p q : Nat) : (MatP.one p q : Int) = (oneG A 0 0 p q : Int) := by
  unfold oneG
  rw [if_neg (by omega)]
theorem oneG_set (A : MatP.T) (h : MatP.Bd A) (i k p q : Nat) : (if p = i ∧ q = k then ((DistP.least (MatP.one i k) (DistP.add (A i k) 0) : Nat) : Int) else (oneG A i k p q : Int)) = (oneG A i (k + 1) p q : Int) := by
  unfold oneG
  by_cases e : p = i ∧ q = k
  · obtain ⟨rfl, rfl⟩ := e
    rw [if_pos ⟨rfl, rfl⟩, if_pos (by omega), MatP.add_eq, show min (A p q + 0) 16 = A p q by have := h p q; omega]
    rfl
  · rw [if_neg e]
    by_cases e2 : p < i ∨ (p = i ∧ q < k)
    · rw [if_pos e2, if_pos (by omega)]
    · rw [if_neg e2, if_neg (by omega)]
theorem oneG_row (A : MatP.T) (n i p q : Nat) (hq : q < n) : (oneG A i n p q : Int) = (oneG A (i + 1) 0 p q : Int) := by
  unfold oneG
  by_cases e2 : p < i ∨ (p = i ∧ q < n)
  · rw [if_pos e2, if_pos (by omega)]
  · rw [if_neg e2, if_neg (by omega)]
theorem oneG_end (A : MatP.T) (n p q : Nat) (hp : p < n) : (oneG A n 0 p q : Int) = (MatP.min2 MatP.one A p q : Int) := by
  unfold oneG
  rw [if_pos (Or.inl hp)]

set_option maxHeartbeats 2000000 in
set_option maxRecDepth 100000 in
/-- mat.oneOr. -/
theorem oneOr_any (w : World) (ba oa ca n : Nat) (A : MatP.T) (h8 : n ≤ 8) (hA : MatP.Bd A) (hba : ba < w.heap.size) (hs : SeenR w ba oa (rowsN n A)) :
    Calls Try.prog 25 #[.slice (some ⟨ba, oa, none⟩) n ca] w fun e w' => ∃ g, w.heap.size ≤ g ∧ e = .returned (.slice (some ⟨g, 0, none⟩) n n) ∧ Grid w' g n n (fun i k => (MatP.min2 MatP.one A i k : Int)) ∧ Below w.heap.size w w' := by
  have HS := Lib.hid hs
  have HA := Lib.hid hA
  clear hs hA
  go_enter Try.func25, Try.ntmps25
  go_wp2_with fail
  refine (diagonal_any w n h8).mono ?_
  rintro e w1 ⟨g, hg, rfl, hG, hb⟩
  have HG1 := Lib.hid hG; have HB1 := Lib.hid hb; have HGS := Lib.hid hg
  clear hG hb hg
  go_wp2_with fail
  go_loopw [12] (fun v wr => ∃ (i : Nat), v = .int .i64 i ∧ i ≤ n ∧ Hid (Below w.heap.size w wr) ∧ Hid (Grid wr g n n (fun p q => (oneG A i 0 p q : Int)))) (fun v _ => n - (RowKit.intOf v).toNat)
  case atStart => exact ⟨0, rfl, Nat.zero_le _, HB1, Lib.hid (HG1.out.congr fun p _ q _ => oneG_start A p q)⟩
  case round =>
    clear HB1 HG1
    obtain ⟨i, rfl, hi, hB, HG⟩ := hrel
    by_cases hin : i < n
    · have r0 := HG.out.o i hin
      go_wp2_with fail
      clear r0
      go_loopw [19] (fun v wr => ∃ (k : Nat), v = .int .i64 k ∧ k ≤ n ∧ Hid (Below w.heap.size w wr) ∧ Hid (Grid wr g n n (fun p q => (oneG A i k p q : Int)))) (fun v _ => n - (RowKit.intOf v).toNat)
      case atStart => exact ⟨0, rfl, Nat.zero_le _, hB, HG⟩
      case round =>
        clear hB HG
        obtain ⟨k, rfl, hk, hB, HG⟩ := hrel
        by_cases hkn : k < n
        · obtain ⟨b1, o1, c1, a1, l1, x1⟩ := tab_row HS.out i hin
          have x1 := x1 k hkn
          have HSet := Lib.hid (fun p q => oneG_set A HA.out i k p q)
          have z0 := HG.out.e i hin k hkn
          have HZ := Lib.hid (oneG_at A i k)
          rw [HZ.out] at z0
          have hzb := MatP.one_bd i k
          have hxb := HA.out i k
          generalize MatP.one i k = z at z0 hzb HSet HZ
          generalize A i k = x at x1 hxb HSet
          have HSS : Hid (∀ w', Below w.heap.size w w' → w'.cell? ⟨ba, oa + i, none⟩ = some (.slice (some ⟨b1, o1, none⟩) n c1) ∧ w'.cell? ⟨b1, o1 + k, none⟩ = some (.int .i64 (x : Int))) :=
            Lib.hid fun w' hb => ⟨(hb.cell (p := ⟨ba, oa + i, none⟩) hba).trans a1, (hb.cell (p := ⟨b1, o1 + k, none⟩) l1).trans x1⟩
          clear a1 l1 x1
          go_wp2_with fail
          --ONE
          refine wp_region_held_drew (S := (fun w' => w'.cell? ⟨ba, oa + i, none⟩ = some (.slice (some ⟨b1, o1, none⟩) n c1) ∧ w'.cell? ⟨b1, o1 + k, none⟩ = some (.int .i64 (x : Int)))) (by kernel_rfl) (HSS.out _ hB.out.drew) (fun hHeld => ?_)
          refine wpAnyH_take (i := 0) (oi := { dst := some 22, op := Op.move (Operand.tmp 5), type := 24, pos := "mat.go:107", after := #[], guard := none }) (v := ?_) rfl (by kernel_rfl) (by kernel_rfl) (by kernel_rfl) (fun _ _ _ h => h) (Or.inl ⟨by rfl, ?_⟩) hHeld ?_
          rotate_left
          · (intro w hSw; (try dsimp only at hSw); go_simp; first | done | with_reducible rfl)
          simp only [Act.put, List.setIfInBounds_toArray, List.set_cons_zero, List.set_cons_succ]
          refine wpAnyH_take (i := 1) (oi := { dst := some 23, op := Op.move (Operand.tmp 6), type := 3, pos := "mat.go:107", after := #[], guard := none }) (v := ?_) rfl (by kernel_rfl) (by kernel_rfl) (by kernel_rfl) (fun _ _ _ h => h) (Or.inl ⟨by rfl, ?_⟩) hHeld ?_
          rotate_left
          · (intro w hSw; (try dsimp only at hSw); go_simp; first | done | with_reducible rfl)
          simp only [Act.put, List.setIfInBounds_toArray, List.set_cons_zero, List.set_cons_succ]
          refine wpAnyH_take (i := 2) (oi := { dst := some 24, op := Op.move (Operand.tmp 5), type := 24, pos := "mat.go:107", after := #[], guard := none }) (v := ?_) rfl (by kernel_rfl) (by kernel_rfl) (by kernel_rfl) (fun _ _ _ h => h) (Or.inl ⟨by rfl, ?_⟩) hHeld ?_
          rotate_left
          · (intro w hSw; (try dsimp only at hSw); go_simp; first | done | with_reducible rfl)
          simp only [Act.put, List.setIfInBounds_toArray, List.set_cons_zero, List.set_cons_succ]
          refine wpAnyH_take (i := 3) (oi := { dst := some 25, op := Op.move (Operand.tmp 6), type := 3, pos := "mat.go:107", after := #[], guard := none }) (v := ?_) rfl (by kernel_rfl) (by kernel_rfl) (by kernel_rfl) (fun _ _ _ h => h) (Or.inl ⟨by rfl, ?_⟩) hHeld ?_
          rotate_left
          · (intro w hSw; (try dsimp only at hSw); go_simp; first | done | with_reducible rfl)
          simp only [Act.put, List.setIfInBounds_toArray, List.set_cons_zero, List.set_cons_succ]
          refine wpAnyH_take (i := 4) (oi := { dst := some 26, op := Op.indexAddr 24 (Operand.tmp 24) (Operand.tmp 25), type := 0, pos := "mat.go:107", after := #[{ on := 2, ground := Ground.data }, { on := 3, ground := Ground.data }], guard := none }) (v := ?_) rfl (by kernel_rfl) (by kernel_rfl) (by kernel_rfl) (fun _ _ _ h => h) (Or.inl ⟨by rfl, ?_⟩) hHeld ?_
          rotate_left
          · (intro w hSw; (try dsimp only at hSw); go_simp; first | done | with_reducible rfl)
          simp only [Act.put, List.setIfInBounds_toArray, List.set_cons_zero, List.set_cons_succ]
          refine wpAnyH_take (i := 6) (oi := { dst := some 28, op := Op.move (Operand.tmp 0), type := 31, pos := "mat.go:107", after := #[], guard := none }) (v := ?_) rfl (by kernel_rfl) (by kernel_rfl) (by kernel_rfl) (fun _ _ _ h => h) (Or.inl ⟨by rfl, ?_⟩) hHeld ?_
          rotate_left
          · (intro w hSw; (try dsimp only at hSw); go_simp; first | done | with_reducible rfl)
          simp only [Act.put, List.setIfInBounds_toArray, List.set_cons_zero, List.set_cons_succ]
          refine wpAnyH_take (i := 7) (oi := { dst := some 29, op := Op.move (Operand.tmp 4), type := 3, pos := "mat.go:107", after := #[], guard := none }) (v := ?_) rfl (by kernel_rfl) (by kernel_rfl) (by kernel_rfl) (fun _ _ _ h => h) (Or.inl ⟨by rfl, ?_⟩) hHeld ?_
          rotate_left
          · (intro w hSw; (try dsimp only at hSw); go_simp; first | done | with_reducible rfl)
          simp only [Act.put, List.setIfInBounds_toArray, List.set_cons_zero, List.set_cons_succ]
          refine wpAnyH_take (i := 8) (oi := { dst := some 30, op := Op.indexAddr 31 (Operand.tmp 28) (Operand.tmp 29), type := 0, pos := "mat.go:107", after := #[{ on := 6, ground := Ground.data }, { on := 7, ground := Ground.data }], guard := none }) (v := ?_) rfl (by kernel_rfl) (by kernel_rfl) (by kernel_rfl) (fun _ _ _ h => h) (Or.inl ⟨by rfl, ?_⟩) hHeld ?_
          rotate_left
          · (intro w hSw; (try dsimp only at hSw); go_simp; first | done | with_reducible rfl)
          simp only [Act.put, List.setIfInBounds_toArray, List.set_cons_zero, List.set_cons_succ]
          refine wpAnyH_take (i := 9) (oi := { dst := some 31, op := Op.load 24 (Operand.tmp 30), type := 24, pos := "mat.go:107", after := #[{ on := 8, ground := Ground.data }], guard := none }) (v := ?_) rfl (by kernel_rfl) (by kernel_rfl) (by kernel_rfl) (fun _ _ _ h => h) (Or.inl ⟨by rfl, ?_⟩) hHeld ?_
          rotate_left
          · (intro w hSw; (try dsimp only at hSw); go_simp; first | done | with_reducible rfl)
          simp only [Act.put, List.setIfInBounds_toArray, List.set_cons_zero, List.set_cons_succ]
          refine wpAnyH_take (i := 10) (oi := { dst := some 32, op := Op.move (Operand.tmp 6), type := 3, pos := "mat.go:107", after := #[], guard := none }) (v := ?_) rfl (by kernel_rfl) (by kernel_rfl) (by kernel_rfl) (fun _ _ _ h => h) (Or.inl ⟨by rfl, ?_⟩) hHeld ?_
          rotate_left
          · (intro w hSw; (try dsimp only at hSw); go_simp; first | done | with_reducible rfl)
          simp only [Act.put, List.setIfInBounds_toArray, List.set_cons_zero, List.set_cons_succ]
          refine wpAnyH_take (i := 11) (oi := { dst := some 33, op := Op.indexAddr 24 (Operand.tmp 31) (Operand.tmp 32), type := 0, pos := "mat.go:107", after := #[{ on := 9, ground := Ground.data }, { on := 10, ground := Ground.data }], guard := none }) (v := ?_) rfl (by kernel_rfl) (by kernel_rfl) (by kernel_rfl) (fun _ _ _ h => h) (Or.inl ⟨by rfl, ?_⟩) hHeld ?_
          rotate_left
          · (intro w hSw; (try dsimp only at hSw); go_simp; first | done | with_reducible rfl)
          simp only [Act.put, List.setIfInBounds_toArray, List.set_cons_zero, List.set_cons_succ]
          refine wpAnyH_take (i := 12) (oi := { dst := some 34, op := Op.load 3 (Operand.tmp 33), type := 3, pos := "mat.go:107", after := #[{ on := 11, ground := Ground.data }], guard := none }) (v := ?_) rfl (by kernel_rfl) (by kernel_rfl) (by kernel_rfl) (fun _ _ _ h => h) (Or.inl ⟨by rfl, ?_⟩) hHeld ?_
          rotate_left
          · (intro w hSw; (try dsimp only at hSw); go_simp; first | done | with_reducible rfl)
          simp only [Act.put, List.setIfInBounds_toArray, List.set_cons_zero, List.set_cons_succ]
          refine wpAnyH_ready (rs := [5]) (by kernel_rfl) (by simp) ?_
          refine (AllReadyH.cons (o := { dst := some 27, op := Op.load 3 (Operand.tmp 26), type := 3, pos := "mat.go:107", after := #[{ on := 4, ground := Ground.data }], guard := none }) rfl (fun K hK => ?_) AllReadyH.nil)
          go_simp
          have KK5 := hHeld
          clear hHeld
          refine hK.out _ _ KK5 (fun hHeld => ?_)
          clear hK K
          refine wpAnyH_ready (rs := [13]) (by kernel_rfl) (by simp) ?_
          refine (AllReadyH.cons (o := { dst := some 35, op := Op.call { callee := Callee.value (Operand.func 26), args := #[Operand.tmp 27, Operand.tmp 34, Operand.const (Value.int IntKind.i64 0)], argTypes := #[3, 3, 3] }, type := 3, pos := "mat.go:107", after := #[{ on := 5, ground := Ground.data }, { on := 12, ground := Ground.data }], guard := none }) rfl (fun K hK => ?_) AllReadyH.nil)
          go_simp
          go_at_call 26
          refine (shorter_any z x 0 hzb hxb (by omega) _).mono ?_
          rintro e w3 ⟨rfl, hb3⟩
          have G3 := HG.out.drew.keep hb3
          have B3 := hB.out.drew.trans (hb3.mono hB.out.drew.size)
          have KK13 := HSS.out w3 B3
          have f3 := G3.fe i hin k
          have e3 := G3.e i hin k hkn
          rw [HZ.out] at e3
          have HG3 := Lib.hid G3; have HB3 := Lib.hid B3
          clear hHeld hb3 G3 B3 z0
          go_wp2_with fail
          refine hK.out _ _ KK13 (fun hHeld => ?_)
          clear hK K
          refine wpAnyH_take (i := 14) (oi := { dst := some 36, op := Op.indexAddr 24 (Operand.tmp 22) (Operand.tmp 23), type := 0, pos := "mat.go:107", after := #[{ on := 0, ground := Ground.data }, { on := 1, ground := Ground.data }, { on := 0, ground := Ground.phase }, { on := 1, ground := Ground.phase }, { on := 2, ground := Ground.phase }, { on := 3, ground := Ground.phase }, { on := 4, ground := Ground.phase }, { on := 5, ground := Ground.phase }, { on := 6, ground := Ground.phase }, { on := 7, ground := Ground.phase }, { on := 8, ground := Ground.phase }, { on := 9, ground := Ground.phase }, { on := 10, ground := Ground.phase }, { on := 11, ground := Ground.phase }, { on := 12, ground := Ground.phase }, { on := 13, ground := Ground.phase }], guard := none }) (v := ?_) rfl (by kernel_rfl) (by kernel_rfl) (by kernel_rfl) (fun _ _ _ h => h) (Or.inl ⟨by rfl, ?_⟩) hHeld ?_
          rotate_left
          · (intro w hSw; (try dsimp only at hSw); go_simp; first | done | with_reducible rfl)
          simp only [Act.put, List.setIfInBounds_toArray, List.set_cons_zero, List.set_cons_succ]
          refine wpAnyH_ready (rs := [15]) (by kernel_rfl) (by simp) ?_
          refine (AllReadyH.cons (o := { dst := none, op := Op.store 3 (Operand.tmp 36) (Operand.tmp 35), type := 0, pos := "mat.go:107", after := #[{ on := 14, ground := Ground.data }, { on := 13, ground := Ground.data }, { on := 13, ground := Ground.chain }, { on := 0, ground := Ground.phase }, { on := 1, ground := Ground.phase }, { on := 2, ground := Ground.phase }, { on := 3, ground := Ground.phase }, { on := 4, ground := Ground.phase }, { on := 5, ground := Ground.phase }, { on := 6, ground := Ground.phase }, { on := 7, ground := Ground.phase }, { on := 8, ground := Ground.phase }, { on := 9, ground := Ground.phase }, { on := 10, ground := Ground.phase }, { on := 11, ground := Ground.phase }, { on := 12, ground := Ground.phase }, { on := 13, ground := Ground.phase }], guard := none }) rfl (fun K hK => ?_) AllReadyH.nil)
          go_simp
          have B4 := HB3.out.setCell (p := ⟨g + 1 + i, k, none⟩) (show w.heap.size ≤ g + 1 + i by have := HGS.out; omega) (.int .i64 ((DistP.least z (DistP.add x 0) : Nat) : Int))
          have KK15 := HSS.out _ B4
          have HB4 := Lib.hid B4
          have HG4 := Lib.hid (HG3.out.set i k hin ((DistP.least z (DistP.add x 0) : Nat) : Int))
          clear hHeld B4 f3 e3
          refine hK.out _ _ KK15 (fun hHeld => ?_)
          clear hK K
          refine wpAnyH_done (by kernel_rfl) ?_ _
          clear hHeld
          --ENDONE
          go_wp2_with fail
          go_roundw
          case rel => exact ⟨k + 1, by go_num, by omega, HB4, Lib.hid (HG4.out.congr fun p _ q _ => HSet.out p q)⟩
          case measure => simp [RowKit.intOf]; omega
        · have e : k = n := by omega
          subst e
          go_wp2_with fail
          go_roundw
          case rel => exact ⟨i + 1, by go_num, by omega, hB, Lib.hid (HG.out.congr fun p _ q hq => oneG_row A k i p q hq)⟩
          case measure => simp [RowKit.intOf]; omega
    · have e : i = n := by omega
      subst e
      go_wp2_with fail
      go_ret
      exact ⟨g, HGS.out, rfl, HG.out.congr fun p hp q _ => oneG_end A i p q hp, hB.out⟩

theorem relax_set (R : MatP.T) (j i k p q : Nat) : (if p = i ∧ q = k then ((DistP.least (R i k) (DistP.add (R i j) (R j k)) : Nat) : Int) else (R p q : Int)) = (MatP.relax R j i k p q : Int) := by
  unfold MatP.relax MatP.upd
  split <;> rfl

set_option maxHeartbeats 400000 in
set_option maxRecDepth 100000 in
/-- mat.Star at what is no table. -/
theorem star_bad (w : World) (v : Value) (M : List (List Int)) (h : ArgR w v M) (hg : matBad M ≠ 0) :
    Calls Try.prog 12 #[v] w fun e w' => e = .returned (.tuple #[.slice none 0 0, errV (matBad M)]) ∧ w = w' := by
  have hE : errV (matBad M) = .iface 60 (.int .i64 (matBad M)) := if_neg hg
  have HC := Lib.hid (matCheck_any w v M h)
  rw [hE] at HC ⊢
  clear hE h hg
  generalize matBad M = q at HC
  go_enter Try.func12, Try.ntmps12
  go_wp2_with fail
  refine HC.out.mono ?_
  rintro e w1 ⟨rfl, rfl⟩
  go_wp2_with fail
  go_ret2
  exact ⟨rfl, rfl⟩
set_option maxHeartbeats 4000000 in
set_option maxRecDepth 100000 in
theorem star_some (w : World) (ba oa ca n : Nat) (A : MatP.T) (h1 : 1 ≤ n) (h8 : n ≤ 8) (hA : MatP.Bd A) (hba : ba < w.heap.size) (hs : SeenR w ba oa (rowsN n A)) :
    Calls Try.prog 12 #[.slice (some ⟨ba, oa, none⟩) n ca] w fun e w' => ∃ g, w.heap.size ≤ g ∧ e = .returned (.tuple #[.slice (some ⟨g, 0, none⟩) n n, .nilIface]) ∧ Grid w' g n n (fun i k => (MatP.fw n A i k : Int)) ∧ Below w.heap.size w w' := by
  have HC := Lib.hid (matCheck_any w (.slice (some ⟨ba, oa, none⟩) n ca) (rowsN n A) ⟨_, _, by rw [rowsN_len], Or.inr ⟨ba, oa, rfl, hba, hs⟩⟩)
  rw [mat_rows h1 h8 hA, show errV 0 = Value.nilIface from rfl] at HC
  have HO := Lib.hid (oneOr_any w ba oa ca n A h8 hA hba hs)
  have hRb : MatP.Bd (MatP.min2 MatP.one A) := MatP.min2_bd MatP.one_bd
  unfold MatP.fw
  generalize MatP.min2 MatP.one A = R at HO hRb ⊢
  have HRb := Lib.hid hRb
  clear hs hA hRb
  go_enter Try.func12, Try.ntmps12
  go_wp2_with fail
  refine HC.out.mono ?_
  rintro e w1 ⟨rfl, rfl⟩
  clear HC
  go_wp2_with fail
  refine HO.out.mono ?_
  rintro e w1 ⟨g, hg, rfl, hG, hb⟩
  have HG1 := Lib.hid hG; have HB1 := Lib.hid hb; have HGS := Lib.hid hg
  clear hG hb hg HO
  go_wp2_with fail
  go_loopw [18] (fun v wr => ∃ (j : Nat), v = .int .i64 j ∧ j ≤ n ∧ Hid (Below w.heap.size w wr) ∧ Hid (Grid wr g n n (fun p q => (MatP.fwJ n R j p q : Int)))) (fun v _ => n - (RowKit.intOf v).toNat)
  case atStart => exact ⟨0, rfl, Nat.zero_le _, HB1, HG1⟩
  case round =>
    clear HB1 HG1
    obtain ⟨j, rfl, hj, hB, HG⟩ := hrel
    by_cases hjn : j < n
    · go_wp2_with fail
      go_loopw [23] (fun v wr => ∃ (i : Nat), v = .int .i64 i ∧ i ≤ n ∧ Hid (Below w.heap.size w wr) ∧ Hid (Grid wr g n n (fun p q => (MatP.fwI n (MatP.fwJ n R j) j i p q : Int)))) (fun v _ => n - (RowKit.intOf v).toNat)
      case atStart => exact ⟨0, rfl, Nat.zero_le _, hB, HG⟩
      case round =>
        clear hB HG
        obtain ⟨i, rfl, hi, hB, HG⟩ := hrel
        by_cases hin : i < n
        · go_wp2_with fail
          go_loopw [28] (fun v wr => ∃ (k : Nat), v = .int .i64 k ∧ k ≤ n ∧ Hid (Below w.heap.size w wr) ∧ Hid (Grid wr g n n (fun p q => (MatP.fwK (MatP.fwI n (MatP.fwJ n R j) j i) j i k p q : Int)))) (fun v _ => n - (RowKit.intOf v).toNat)
          case atStart => exact ⟨0, rfl, Nat.zero_le _, hB, HG⟩
          case round =>
            clear hB HG
            obtain ⟨k, rfl, hk, hB, HG⟩ := hrel
            by_cases hkn : k < n
            · have HSet := Lib.hid (fun p q => relax_set (MatP.fwK (MatP.fwI n (MatP.fwJ n R j) j i) j i k) j i k p q)
              have HBd := MatP.fwK_bd (MatP.fwI_bd (MatP.fwJ_bd HRb.out (n := n) j) (n := n) j i) j i k
              have z0 := HG.out.e i hin k hkn
              have z1 := HG.out.e i hin j hjn
              have z2 := HG.out.e j hjn k hkn
              have z3 := HG.out.drew.o i hin
              have z4 := HG.out.drew.o j hjn
              have hxb := HBd i k
              have hyb := HBd i j
              have hzb := HBd j k
              obtain ⟨x, HX⟩ : ∃ x, Hid (MatP.fwK (MatP.fwI n (MatP.fwJ n R j) j i) j i k i k = x) := ⟨_, Lib.hid rfl⟩
              obtain ⟨y, HY⟩ : ∃ y, Hid (MatP.fwK (MatP.fwI n (MatP.fwJ n R j) j i) j i k i j = y) := ⟨_, Lib.hid rfl⟩
              obtain ⟨z, HZ⟩ : ∃ z, Hid (MatP.fwK (MatP.fwI n (MatP.fwJ n R j) j i) j i k j k = z) := ⟨_, Lib.hid rfl⟩
              rw [HX.out] at z0 hxb
              rw [HY.out] at z1 hyb
              rw [HZ.out] at z2 hzb
              rw [HX.out, HY.out, HZ.out] at HSet
              clear HBd HY HZ
              go_wp2_with fail
            --STAR
              refine wp_region_held_drew (S := (fun w' => w'.cell? ⟨g, i, none⟩ = some (.slice (some ⟨g + 1 + i, 0, none⟩) n n) ∧ w'.cell? ⟨g, j, none⟩ = some (.slice (some ⟨g + 1 + j, 0, none⟩) n n))) (by kernel_rfl) ⟨z3, z4⟩ (fun hHeld => ?_)
              refine wpAnyH_take (i := 0) (oi := { dst := some 31, op := Op.move (Operand.tmp 5), type := 31, pos := "mat.go:124", after := #[], guard := none }) (v := ?_) rfl (by kernel_rfl) (by kernel_rfl) (by kernel_rfl) (fun _ _ _ h => h) (Or.inl ⟨by rfl, ?_⟩) hHeld ?_
              rotate_left
              · (intro w hSw; (try dsimp only at hSw); go_simp; first | done | with_reducible rfl)
              simp only [Act.put, List.setIfInBounds_toArray, List.set_cons_zero, List.set_cons_succ]
              refine wpAnyH_take (i := 1) (oi := { dst := some 32, op := Op.move (Operand.tmp 7), type := 3, pos := "mat.go:124", after := #[], guard := none }) (v := ?_) rfl (by kernel_rfl) (by kernel_rfl) (by kernel_rfl) (fun _ _ _ h => h) (Or.inl ⟨by rfl, ?_⟩) hHeld ?_
              rotate_left
              · (intro w hSw; (try dsimp only at hSw); go_simp; first | done | with_reducible rfl)
              simp only [Act.put, List.setIfInBounds_toArray, List.set_cons_zero, List.set_cons_succ]
              refine wpAnyH_take (i := 2) (oi := { dst := some 33, op := Op.indexAddr 31 (Operand.tmp 31) (Operand.tmp 32), type := 0, pos := "mat.go:124", after := #[{ on := 0, ground := Ground.data }, { on := 1, ground := Ground.data }], guard := none }) (v := ?_) rfl (by kernel_rfl) (by kernel_rfl) (by kernel_rfl) (fun _ _ _ h => h) (Or.inl ⟨by rfl, ?_⟩) hHeld ?_
              rotate_left
              · (intro w hSw; (try dsimp only at hSw); go_simp; first | done | with_reducible rfl)
              simp only [Act.put, List.setIfInBounds_toArray, List.set_cons_zero, List.set_cons_succ]
              refine wpAnyH_take (i := 3) (oi := { dst := some 34, op := Op.load 24 (Operand.tmp 33), type := 24, pos := "mat.go:124", after := #[{ on := 2, ground := Ground.data }], guard := none }) (v := ?_) rfl (by kernel_rfl) (by kernel_rfl) (by kernel_rfl) (fun _ _ _ h => h) (Or.inl ⟨by rfl, ?_⟩) hHeld ?_
              rotate_left
              · (intro w hSw; (try dsimp only at hSw); go_simp; first | done | with_reducible rfl)
              simp only [Act.put, List.setIfInBounds_toArray, List.set_cons_zero, List.set_cons_succ]
              refine wpAnyH_take (i := 4) (oi := { dst := some 35, op := Op.move (Operand.tmp 8), type := 3, pos := "mat.go:124", after := #[], guard := none }) (v := ?_) rfl (by kernel_rfl) (by kernel_rfl) (by kernel_rfl) (fun _ _ _ h => h) (Or.inl ⟨by rfl, ?_⟩) hHeld ?_
              rotate_left
              · (intro w hSw; (try dsimp only at hSw); go_simp; first | done | with_reducible rfl)
              simp only [Act.put, List.setIfInBounds_toArray, List.set_cons_zero, List.set_cons_succ]
              refine wpAnyH_take (i := 5) (oi := { dst := some 36, op := Op.move (Operand.tmp 5), type := 31, pos := "mat.go:124", after := #[], guard := none }) (v := ?_) rfl (by kernel_rfl) (by kernel_rfl) (by kernel_rfl) (fun _ _ _ h => h) (Or.inl ⟨by rfl, ?_⟩) hHeld ?_
              rotate_left
              · (intro w hSw; (try dsimp only at hSw); go_simp; first | done | with_reducible rfl)
              simp only [Act.put, List.setIfInBounds_toArray, List.set_cons_zero, List.set_cons_succ]
              refine wpAnyH_take (i := 6) (oi := { dst := some 37, op := Op.move (Operand.tmp 7), type := 3, pos := "mat.go:124", after := #[], guard := none }) (v := ?_) rfl (by kernel_rfl) (by kernel_rfl) (by kernel_rfl) (fun _ _ _ h => h) (Or.inl ⟨by rfl, ?_⟩) hHeld ?_
              rotate_left
              · (intro w hSw; (try dsimp only at hSw); go_simp; first | done | with_reducible rfl)
              simp only [Act.put, List.setIfInBounds_toArray, List.set_cons_zero, List.set_cons_succ]
              refine wpAnyH_take (i := 7) (oi := { dst := some 38, op := Op.indexAddr 31 (Operand.tmp 36) (Operand.tmp 37), type := 0, pos := "mat.go:124", after := #[{ on := 5, ground := Ground.data }, { on := 6, ground := Ground.data }], guard := none }) (v := ?_) rfl (by kernel_rfl) (by kernel_rfl) (by kernel_rfl) (fun _ _ _ h => h) (Or.inl ⟨by rfl, ?_⟩) hHeld ?_
              rotate_left
              · (intro w hSw; (try dsimp only at hSw); go_simp; first | done | with_reducible rfl)
              simp only [Act.put, List.setIfInBounds_toArray, List.set_cons_zero, List.set_cons_succ]
              refine wpAnyH_take (i := 8) (oi := { dst := some 39, op := Op.load 24 (Operand.tmp 38), type := 24, pos := "mat.go:124", after := #[{ on := 7, ground := Ground.data }], guard := none }) (v := ?_) rfl (by kernel_rfl) (by kernel_rfl) (by kernel_rfl) (fun _ _ _ h => h) (Or.inl ⟨by rfl, ?_⟩) hHeld ?_
              rotate_left
              · (intro w hSw; (try dsimp only at hSw); go_simp; first | done | with_reducible rfl)
              simp only [Act.put, List.setIfInBounds_toArray, List.set_cons_zero, List.set_cons_succ]
              refine wpAnyH_take (i := 9) (oi := { dst := some 40, op := Op.move (Operand.tmp 8), type := 3, pos := "mat.go:124", after := #[], guard := none }) (v := ?_) rfl (by kernel_rfl) (by kernel_rfl) (by kernel_rfl) (fun _ _ _ h => h) (Or.inl ⟨by rfl, ?_⟩) hHeld ?_
              rotate_left
              · (intro w hSw; (try dsimp only at hSw); go_simp; first | done | with_reducible rfl)
              simp only [Act.put, List.setIfInBounds_toArray, List.set_cons_zero, List.set_cons_succ]
              refine wpAnyH_take (i := 10) (oi := { dst := some 41, op := Op.indexAddr 24 (Operand.tmp 39) (Operand.tmp 40), type := 0, pos := "mat.go:124", after := #[{ on := 8, ground := Ground.data }, { on := 9, ground := Ground.data }], guard := none }) (v := ?_) rfl (by kernel_rfl) (by kernel_rfl) (by kernel_rfl) (fun _ _ _ h => h) (Or.inl ⟨by rfl, ?_⟩) hHeld ?_
              rotate_left
              · (intro w hSw; (try dsimp only at hSw); go_simp; first | done | with_reducible rfl)
              simp only [Act.put, List.setIfInBounds_toArray, List.set_cons_zero, List.set_cons_succ]
              refine wpAnyH_take (i := 12) (oi := { dst := some 43, op := Op.move (Operand.tmp 5), type := 31, pos := "mat.go:124", after := #[], guard := none }) (v := ?_) rfl (by kernel_rfl) (by kernel_rfl) (by kernel_rfl) (fun _ _ _ h => h) (Or.inl ⟨by rfl, ?_⟩) hHeld ?_
              rotate_left
              · (intro w hSw; (try dsimp only at hSw); go_simp; first | done | with_reducible rfl)
              simp only [Act.put, List.setIfInBounds_toArray, List.set_cons_zero, List.set_cons_succ]
              refine wpAnyH_take (i := 13) (oi := { dst := some 44, op := Op.move (Operand.tmp 7), type := 3, pos := "mat.go:124", after := #[], guard := none }) (v := ?_) rfl (by kernel_rfl) (by kernel_rfl) (by kernel_rfl) (fun _ _ _ h => h) (Or.inl ⟨by rfl, ?_⟩) hHeld ?_
              rotate_left
              · (intro w hSw; (try dsimp only at hSw); go_simp; first | done | with_reducible rfl)
              simp only [Act.put, List.setIfInBounds_toArray, List.set_cons_zero, List.set_cons_succ]
              refine wpAnyH_take (i := 14) (oi := { dst := some 45, op := Op.indexAddr 31 (Operand.tmp 43) (Operand.tmp 44), type := 0, pos := "mat.go:124", after := #[{ on := 12, ground := Ground.data }, { on := 13, ground := Ground.data }], guard := none }) (v := ?_) rfl (by kernel_rfl) (by kernel_rfl) (by kernel_rfl) (fun _ _ _ h => h) (Or.inl ⟨by rfl, ?_⟩) hHeld ?_
              rotate_left
              · (intro w hSw; (try dsimp only at hSw); go_simp; first | done | with_reducible rfl)
              simp only [Act.put, List.setIfInBounds_toArray, List.set_cons_zero, List.set_cons_succ]
              refine wpAnyH_take (i := 15) (oi := { dst := some 46, op := Op.load 24 (Operand.tmp 45), type := 24, pos := "mat.go:124", after := #[{ on := 14, ground := Ground.data }], guard := none }) (v := ?_) rfl (by kernel_rfl) (by kernel_rfl) (by kernel_rfl) (fun _ _ _ h => h) (Or.inl ⟨by rfl, ?_⟩) hHeld ?_
              rotate_left
              · (intro w hSw; (try dsimp only at hSw); go_simp; first | done | with_reducible rfl)
              simp only [Act.put, List.setIfInBounds_toArray, List.set_cons_zero, List.set_cons_succ]
              refine wpAnyH_take (i := 16) (oi := { dst := some 47, op := Op.move (Operand.tmp 6), type := 3, pos := "mat.go:124", after := #[], guard := none }) (v := ?_) rfl (by kernel_rfl) (by kernel_rfl) (by kernel_rfl) (fun _ _ _ h => h) (Or.inl ⟨by rfl, ?_⟩) hHeld ?_
              rotate_left
              · (intro w hSw; (try dsimp only at hSw); go_simp; first | done | with_reducible rfl)
              simp only [Act.put, List.setIfInBounds_toArray, List.set_cons_zero, List.set_cons_succ]
              refine wpAnyH_take (i := 17) (oi := { dst := some 48, op := Op.indexAddr 24 (Operand.tmp 46) (Operand.tmp 47), type := 0, pos := "mat.go:124", after := #[{ on := 15, ground := Ground.data }, { on := 16, ground := Ground.data }], guard := none }) (v := ?_) rfl (by kernel_rfl) (by kernel_rfl) (by kernel_rfl) (fun _ _ _ h => h) (Or.inl ⟨by rfl, ?_⟩) hHeld ?_
              rotate_left
              · (intro w hSw; (try dsimp only at hSw); go_simp; first | done | with_reducible rfl)
              simp only [Act.put, List.setIfInBounds_toArray, List.set_cons_zero, List.set_cons_succ]
              refine wpAnyH_take (i := 19) (oi := { dst := some 50, op := Op.move (Operand.tmp 5), type := 31, pos := "mat.go:124", after := #[], guard := none }) (v := ?_) rfl (by kernel_rfl) (by kernel_rfl) (by kernel_rfl) (fun _ _ _ h => h) (Or.inl ⟨by rfl, ?_⟩) hHeld ?_
              rotate_left
              · (intro w hSw; (try dsimp only at hSw); go_simp; first | done | with_reducible rfl)
              simp only [Act.put, List.setIfInBounds_toArray, List.set_cons_zero, List.set_cons_succ]
              refine wpAnyH_take (i := 20) (oi := { dst := some 51, op := Op.move (Operand.tmp 6), type := 3, pos := "mat.go:124", after := #[], guard := none }) (v := ?_) rfl (by kernel_rfl) (by kernel_rfl) (by kernel_rfl) (fun _ _ _ h => h) (Or.inl ⟨by rfl, ?_⟩) hHeld ?_
              rotate_left
              · (intro w hSw; (try dsimp only at hSw); go_simp; first | done | with_reducible rfl)
              simp only [Act.put, List.setIfInBounds_toArray, List.set_cons_zero, List.set_cons_succ]
              refine wpAnyH_take (i := 21) (oi := { dst := some 52, op := Op.indexAddr 31 (Operand.tmp 50) (Operand.tmp 51), type := 0, pos := "mat.go:124", after := #[{ on := 19, ground := Ground.data }, { on := 20, ground := Ground.data }], guard := none }) (v := ?_) rfl (by kernel_rfl) (by kernel_rfl) (by kernel_rfl) (fun _ _ _ h => h) (Or.inl ⟨by rfl, ?_⟩) hHeld ?_
              rotate_left
              · (intro w hSw; (try dsimp only at hSw); go_simp; first | done | with_reducible rfl)
              simp only [Act.put, List.setIfInBounds_toArray, List.set_cons_zero, List.set_cons_succ]
              refine wpAnyH_take (i := 22) (oi := { dst := some 53, op := Op.load 24 (Operand.tmp 52), type := 24, pos := "mat.go:124", after := #[{ on := 21, ground := Ground.data }], guard := none }) (v := ?_) rfl (by kernel_rfl) (by kernel_rfl) (by kernel_rfl) (fun _ _ _ h => h) (Or.inl ⟨by rfl, ?_⟩) hHeld ?_
              rotate_left
              · (intro w hSw; (try dsimp only at hSw); go_simp; first | done | with_reducible rfl)
              simp only [Act.put, List.setIfInBounds_toArray, List.set_cons_zero, List.set_cons_succ]
              refine wpAnyH_take (i := 23) (oi := { dst := some 54, op := Op.move (Operand.tmp 8), type := 3, pos := "mat.go:124", after := #[], guard := none }) (v := ?_) rfl (by kernel_rfl) (by kernel_rfl) (by kernel_rfl) (fun _ _ _ h => h) (Or.inl ⟨by rfl, ?_⟩) hHeld ?_
              rotate_left
              · (intro w hSw; (try dsimp only at hSw); go_simp; first | done | with_reducible rfl)
              simp only [Act.put, List.setIfInBounds_toArray, List.set_cons_zero, List.set_cons_succ]
              refine wpAnyH_take (i := 24) (oi := { dst := some 55, op := Op.indexAddr 24 (Operand.tmp 53) (Operand.tmp 54), type := 0, pos := "mat.go:124", after := #[{ on := 22, ground := Ground.data }, { on := 23, ground := Ground.data }], guard := none }) (v := ?_) rfl (by kernel_rfl) (by kernel_rfl) (by kernel_rfl) (fun _ _ _ h => h) (Or.inl ⟨by rfl, ?_⟩) hHeld ?_
              rotate_left
              · (intro w hSw; (try dsimp only at hSw); go_simp; first | done | with_reducible rfl)
              simp only [Act.put, List.setIfInBounds_toArray, List.set_cons_zero, List.set_cons_succ]
              refine wpAnyH_ready (rs := [11, 18, 25]) (by kernel_rfl) (by simp) ?_
              refine (AllReadyH.cons (o := { dst := some 42, op := Op.load 3 (Operand.tmp 41), type := 3, pos := "mat.go:124", after := #[{ on := 10, ground := Ground.data }], guard := none }) rfl (fun K hK => ?_) (AllReadyH.cons (o := { dst := some 49, op := Op.load 3 (Operand.tmp 48), type := 3, pos := "mat.go:124", after := #[{ on := 17, ground := Ground.data }], guard := none }) rfl (fun K hK => ?_) (AllReadyH.cons (o := { dst := some 56, op := Op.load 3 (Operand.tmp 55), type := 3, pos := "mat.go:124", after := #[{ on := 24, ground := Ground.data }], guard := none }) rfl (fun K hK => ?_) AllReadyH.nil)))
              · go_simp
                have KK11 := hHeld
                clear hHeld
                refine hK.out _ _ KK11 (fun hHeld => ?_)
                clear hK K
                refine wpAnyH_ready (rs := [18, 25]) (by kernel_rfl) (by simp) ?_
                refine (AllReadyH.cons (o := { dst := some 49, op := Op.load 3 (Operand.tmp 48), type := 3, pos := "mat.go:124", after := #[{ on := 17, ground := Ground.data }], guard := none }) rfl (fun K hK => ?_) (AllReadyH.cons (o := { dst := some 56, op := Op.load 3 (Operand.tmp 55), type := 3, pos := "mat.go:124", after := #[{ on := 24, ground := Ground.data }], guard := none }) rfl (fun K hK => ?_) AllReadyH.nil))
                · go_simp
                  have KK18 := hHeld
                  clear hHeld
                  refine hK.out _ _ KK18 (fun hHeld => ?_)
                  clear hK K
                  refine wpAnyH_ready (rs := [25]) (by kernel_rfl) (by simp) ?_
                  refine (AllReadyH.cons (o := { dst := some 56, op := Op.load 3 (Operand.tmp 55), type := 3, pos := "mat.go:124", after := #[{ on := 24, ground := Ground.data }], guard := none }) rfl (fun K hK => ?_) AllReadyH.nil)
                  go_simp
                  have KK25 := hHeld
                  clear hHeld
                  refine hK.out _ _ KK25 (fun hHeld => ?_)
                  clear hK K
                  refine wpAnyH_ready (rs := [26]) (by kernel_rfl) (by simp) ?_
                  refine (AllReadyH.cons (o := { dst := some 57, op := Op.call { callee := Callee.value (Operand.func 26), args := #[Operand.tmp 42, Operand.tmp 49, Operand.tmp 56], argTypes := #[3, 3, 3] }, type := 3, pos := "mat.go:124", after := #[{ on := 11, ground := Ground.data }, { on := 18, ground := Ground.data }, { on := 25, ground := Ground.data }], guard := none }) rfl (fun K hK => ?_) AllReadyH.nil)
                  go_simp
                  go_at_call 26
                  refine (shorter_any x y z hxb hyb hzb _).mono ?_
                  rintro e w3 ⟨rfl, hb3⟩
                  have G3 := HG.out.drew.keep hb3
                  have B3 := hB.out.drew.trans (hb3.mono hB.out.drew.size)
                  have KK26 := And.intro (G3.o i hin) (G3.o j hjn)
                  have f3 := G3.fe i hin k
                  have e3 := G3.e i hin k hkn
                  rw [HX.out] at e3
                  have HG3 := Lib.hid G3; have HB3 := Lib.hid B3
                  clear hHeld hb3 G3 B3 z0 z1 z2
                  go_wp2_with fail
                  refine hK.out _ _ KK26 (fun hHeld => ?_)
                  clear hK K
                  refine wpAnyH_take (i := 27) (oi := { dst := some 58, op := Op.indexAddr 24 (Operand.tmp 34) (Operand.tmp 35), type := 0, pos := "mat.go:124", after := #[{ on := 3, ground := Ground.data }, { on := 4, ground := Ground.data }, { on := 0, ground := Ground.phase }, { on := 1, ground := Ground.phase }, { on := 2, ground := Ground.phase }, { on := 3, ground := Ground.phase }, { on := 4, ground := Ground.phase }, { on := 5, ground := Ground.phase }, { on := 6, ground := Ground.phase }, { on := 7, ground := Ground.phase }, { on := 8, ground := Ground.phase }, { on := 9, ground := Ground.phase }, { on := 10, ground := Ground.phase }, { on := 11, ground := Ground.phase }, { on := 12, ground := Ground.phase }, { on := 13, ground := Ground.phase }, { on := 14, ground := Ground.phase }, { on := 15, ground := Ground.phase }, { on := 16, ground := Ground.phase }, { on := 17, ground := Ground.phase }, { on := 18, ground := Ground.phase }, { on := 19, ground := Ground.phase }, { on := 20, ground := Ground.phase }, { on := 21, ground := Ground.phase }, { on := 22, ground := Ground.phase }, { on := 23, ground := Ground.phase }, { on := 24, ground := Ground.phase }, { on := 25, ground := Ground.phase }, { on := 26, ground := Ground.phase }], guard := none }) (v := ?_) rfl (by kernel_rfl) (by kernel_rfl) (by kernel_rfl) (fun _ _ _ h => h) (Or.inl ⟨by rfl, ?_⟩) hHeld ?_
                  rotate_left
                  · (intro w hSw; (try dsimp only at hSw); go_simp; first | done | with_reducible rfl)
                  simp only [Act.put, List.setIfInBounds_toArray, List.set_cons_zero, List.set_cons_succ]
                  refine wpAnyH_ready (rs := [28]) (by kernel_rfl) (by simp) ?_
                  refine (AllReadyH.cons (o := { dst := none, op := Op.store 3 (Operand.tmp 58) (Operand.tmp 57), type := 0, pos := "mat.go:124", after := #[{ on := 27, ground := Ground.data }, { on := 26, ground := Ground.data }, { on := 26, ground := Ground.chain }, { on := 0, ground := Ground.phase }, { on := 1, ground := Ground.phase }, { on := 2, ground := Ground.phase }, { on := 3, ground := Ground.phase }, { on := 4, ground := Ground.phase }, { on := 5, ground := Ground.phase }, { on := 6, ground := Ground.phase }, { on := 7, ground := Ground.phase }, { on := 8, ground := Ground.phase }, { on := 9, ground := Ground.phase }, { on := 10, ground := Ground.phase }, { on := 11, ground := Ground.phase }, { on := 12, ground := Ground.phase }, { on := 13, ground := Ground.phase }, { on := 14, ground := Ground.phase }, { on := 15, ground := Ground.phase }, { on := 16, ground := Ground.phase }, { on := 17, ground := Ground.phase }, { on := 18, ground := Ground.phase }, { on := 19, ground := Ground.phase }, { on := 20, ground := Ground.phase }, { on := 21, ground := Ground.phase }, { on := 22, ground := Ground.phase }, { on := 23, ground := Ground.phase }, { on := 24, ground := Ground.phase }, { on := 25, ground := Ground.phase }, { on := 26, ground := Ground.phase }], guard := none }) rfl (fun K hK => ?_) AllReadyH.nil)
                  go_simp
                  have B4 := HB3.out.setCell (p := ⟨g + 1 + i, k, none⟩) (show w.heap.size ≤ g + 1 + i by have := HGS.out; omega) (.int .i64 ((DistP.least x (DistP.add y z) : Nat) : Int))
                  have HB4 := Lib.hid B4
                  have G4 := HG3.out.set i k hin ((DistP.least x (DistP.add y z) : Nat) : Int)
                  have KK28 := And.intro (G4.o i hin) (G4.o j hjn)
                  have HG4 := Lib.hid G4
                  clear hHeld B4 f3 e3 G4
                  refine hK.out _ _ KK28 (fun hHeld => ?_)
                  clear hK K
                  refine wpAnyH_done (by kernel_rfl) ?_ _
                  clear hHeld
                  go_wp2_with fail
                  go_roundw
                  case rel => exact ⟨k + 1, by go_num, by omega, HB4, Lib.hid (HG4.out.congr fun p _ q _ => HSet.out p q)⟩
                  case measure => simp [RowKit.intOf]; omega
                · go_simp
                  have KK25 := hHeld
                  clear hHeld
                  refine hK.out _ _ KK25 (fun hHeld => ?_)
                  clear hK K
                  refine wpAnyH_ready (rs := [18]) (by kernel_rfl) (by simp) ?_
                  refine (AllReadyH.cons (o := { dst := some 49, op := Op.load 3 (Operand.tmp 48), type := 3, pos := "mat.go:124", after := #[{ on := 17, ground := Ground.data }], guard := none }) rfl (fun K hK => ?_) AllReadyH.nil)
                  go_simp
                  have KK18 := hHeld
                  clear hHeld
                  refine hK.out _ _ KK18 (fun hHeld => ?_)
                  clear hK K
                  refine wpAnyH_ready (rs := [26]) (by kernel_rfl) (by simp) ?_
                  refine (AllReadyH.cons (o := { dst := some 57, op := Op.call { callee := Callee.value (Operand.func 26), args := #[Operand.tmp 42, Operand.tmp 49, Operand.tmp 56], argTypes := #[3, 3, 3] }, type := 3, pos := "mat.go:124", after := #[{ on := 11, ground := Ground.data }, { on := 18, ground := Ground.data }, { on := 25, ground := Ground.data }], guard := none }) rfl (fun K hK => ?_) AllReadyH.nil)
                  go_simp
                  go_at_call 26
                  refine (shorter_any x y z hxb hyb hzb _).mono ?_
                  rintro e w3 ⟨rfl, hb3⟩
                  have G3 := HG.out.drew.keep hb3
                  have B3 := hB.out.drew.trans (hb3.mono hB.out.drew.size)
                  have KK26 := And.intro (G3.o i hin) (G3.o j hjn)
                  have f3 := G3.fe i hin k
                  have e3 := G3.e i hin k hkn
                  rw [HX.out] at e3
                  have HG3 := Lib.hid G3; have HB3 := Lib.hid B3
                  clear hHeld hb3 G3 B3 z0 z1 z2
                  go_wp2_with fail
                  refine hK.out _ _ KK26 (fun hHeld => ?_)
                  clear hK K
                  refine wpAnyH_take (i := 27) (oi := { dst := some 58, op := Op.indexAddr 24 (Operand.tmp 34) (Operand.tmp 35), type := 0, pos := "mat.go:124", after := #[{ on := 3, ground := Ground.data }, { on := 4, ground := Ground.data }, { on := 0, ground := Ground.phase }, { on := 1, ground := Ground.phase }, { on := 2, ground := Ground.phase }, { on := 3, ground := Ground.phase }, { on := 4, ground := Ground.phase }, { on := 5, ground := Ground.phase }, { on := 6, ground := Ground.phase }, { on := 7, ground := Ground.phase }, { on := 8, ground := Ground.phase }, { on := 9, ground := Ground.phase }, { on := 10, ground := Ground.phase }, { on := 11, ground := Ground.phase }, { on := 12, ground := Ground.phase }, { on := 13, ground := Ground.phase }, { on := 14, ground := Ground.phase }, { on := 15, ground := Ground.phase }, { on := 16, ground := Ground.phase }, { on := 17, ground := Ground.phase }, { on := 18, ground := Ground.phase }, { on := 19, ground := Ground.phase }, { on := 20, ground := Ground.phase }, { on := 21, ground := Ground.phase }, { on := 22, ground := Ground.phase }, { on := 23, ground := Ground.phase }, { on := 24, ground := Ground.phase }, { on := 25, ground := Ground.phase }, { on := 26, ground := Ground.phase }], guard := none }) (v := ?_) rfl (by kernel_rfl) (by kernel_rfl) (by kernel_rfl) (fun _ _ _ h => h) (Or.inl ⟨by rfl, ?_⟩) hHeld ?_
                  rotate_left
                  · (intro w hSw; (try dsimp only at hSw); go_simp; first | done | with_reducible rfl)
                  simp only [Act.put, List.setIfInBounds_toArray, List.set_cons_zero, List.set_cons_succ]
                  refine wpAnyH_ready (rs := [28]) (by kernel_rfl) (by simp) ?_
                  refine (AllReadyH.cons (o := { dst := none, op := Op.store 3 (Operand.tmp 58) (Operand.tmp 57), type := 0, pos := "mat.go:124", after := #[{ on := 27, ground := Ground.data }, { on := 26, ground := Ground.data }, { on := 26, ground := Ground.chain }, { on := 0, ground := Ground.phase }, { on := 1, ground := Ground.phase }, { on := 2, ground := Ground.phase }, { on := 3, ground := Ground.phase }, { on := 4, ground := Ground.phase }, { on := 5, ground := Ground.phase }, { on := 6, ground := Ground.phase }, { on := 7, ground := Ground.phase }, { on := 8, ground := Ground.phase }, { on := 9, ground := Ground.phase }, { on := 10, ground := Ground.phase }, { on := 11, ground := Ground.phase }, { on := 12, ground := Ground.phase }, { on := 13, ground := Ground.phase }, { on := 14, ground := Ground.phase }, { on := 15, ground := Ground.phase }, { on := 16, ground := Ground.phase }, { on := 17, ground := Ground.phase }, { on := 18, ground := Ground.phase }, { on := 19, ground := Ground.phase }, { on := 20, ground := Ground.phase }, { on := 21, ground := Ground.phase }, { on := 22, ground := Ground.phase }, { on := 23, ground := Ground.phase }, { on := 24, ground := Ground.phase }, { on := 25, ground := Ground.phase }, { on := 26, ground := Ground.phase }], guard := none }) rfl (fun K hK => ?_) AllReadyH.nil)
                  go_simp
                  have B4 := HB3.out.setCell (p := ⟨g + 1 + i, k, none⟩) (show w.heap.size ≤ g + 1 + i by have := HGS.out; omega) (.int .i64 ((DistP.least x (DistP.add y z) : Nat) : Int))
                  have HB4 := Lib.hid B4
                  have G4 := HG3.out.set i k hin ((DistP.least x (DistP.add y z) : Nat) : Int)
                  have KK28 := And.intro (G4.o i hin) (G4.o j hjn)
                  have HG4 := Lib.hid G4
                  clear hHeld B4 f3 e3 G4
                  refine hK.out _ _ KK28 (fun hHeld => ?_)
                  clear hK K
                  refine wpAnyH_done (by kernel_rfl) ?_ _
                  clear hHeld
                  go_wp2_with fail
                  go_roundw
                  case rel => exact ⟨k + 1, by go_num, by omega, HB4, Lib.hid (HG4.out.congr fun p _ q _ => HSet.out p q)⟩
                  case measure => simp [RowKit.intOf]; omega
              · go_simp
                have KK18 := hHeld
                clear hHeld
                refine hK.out _ _ KK18 (fun hHeld => ?_)
                clear hK K
                refine wpAnyH_ready (rs := [11, 25]) (by kernel_rfl) (by simp) ?_
                refine (AllReadyH.cons (o := { dst := some 42, op := Op.load 3 (Operand.tmp 41), type := 3, pos := "mat.go:124", after := #[{ on := 10, ground := Ground.data }], guard := none }) rfl (fun K hK => ?_) (AllReadyH.cons (o := { dst := some 56, op := Op.load 3 (Operand.tmp 55), type := 3, pos := "mat.go:124", after := #[{ on := 24, ground := Ground.data }], guard := none }) rfl (fun K hK => ?_) AllReadyH.nil))
                · go_simp
                  have KK11 := hHeld
                  clear hHeld
                  refine hK.out _ _ KK11 (fun hHeld => ?_)
                  clear hK K
                  refine wpAnyH_ready (rs := [25]) (by kernel_rfl) (by simp) ?_
                  refine (AllReadyH.cons (o := { dst := some 56, op := Op.load 3 (Operand.tmp 55), type := 3, pos := "mat.go:124", after := #[{ on := 24, ground := Ground.data }], guard := none }) rfl (fun K hK => ?_) AllReadyH.nil)
                  go_simp
                  have KK25 := hHeld
                  clear hHeld
                  refine hK.out _ _ KK25 (fun hHeld => ?_)
                  clear hK K
                  refine wpAnyH_ready (rs := [26]) (by kernel_rfl) (by simp) ?_
                  refine (AllReadyH.cons (o := { dst := some 57, op := Op.call { callee := Callee.value (Operand.func 26), args := #[Operand.tmp 42, Operand.tmp 49, Operand.tmp 56], argTypes := #[3, 3, 3] }, type := 3, pos := "mat.go:124", after := #[{ on := 11, ground := Ground.data }, { on := 18, ground := Ground.data }, { on := 25, ground := Ground.data }], guard := none }) rfl (fun K hK => ?_) AllReadyH.nil)
                  go_simp
                  go_at_call 26
                  refine (shorter_any x y z hxb hyb hzb _).mono ?_
                  rintro e w3 ⟨rfl, hb3⟩
                  have G3 := HG.out.drew.keep hb3
                  have B3 := hB.out.drew.trans (hb3.mono hB.out.drew.size)
                  have KK26 := And.intro (G3.o i hin) (G3.o j hjn)
                  have f3 := G3.fe i hin k
                  have e3 := G3.e i hin k hkn
                  rw [HX.out] at e3
                  have HG3 := Lib.hid G3; have HB3 := Lib.hid B3
                  clear hHeld hb3 G3 B3 z0 z1 z2
                  go_wp2_with fail
                  refine hK.out _ _ KK26 (fun hHeld => ?_)
                  clear hK K
                  refine wpAnyH_take (i := 27) (oi := { dst := some 58, op := Op.indexAddr 24 (Operand.tmp 34) (Operand.tmp 35), type := 0, pos := "mat.go:124", after := #[{ on := 3, ground := Ground.data }, { on := 4, ground := Ground.data }, { on := 0, ground := Ground.phase }, { on := 1, ground := Ground.phase }, { on := 2, ground := Ground.phase }, { on := 3, ground := Ground.phase }, { on := 4, ground := Ground.phase }, { on := 5, ground := Ground.phase }, { on := 6, ground := Ground.phase }, { on := 7, ground := Ground.phase }, { on := 8, ground := Ground.phase }, { on := 9, ground := Ground.phase }, { on := 10, ground := Ground.phase }, { on := 11, ground := Ground.phase }, { on := 12, ground := Ground.phase }, { on := 13, ground := Ground.phase }, { on := 14, ground := Ground.phase }, { on := 15, ground := Ground.phase }, { on := 16, ground := Ground.phase }, { on := 17, ground := Ground.phase }, { on := 18, ground := Ground.phase }, { on := 19, ground := Ground.phase }, { on := 20, ground := Ground.phase }, { on := 21, ground := Ground.phase }, { on := 22, ground := Ground.phase }, { on := 23, ground := Ground.phase }, { on := 24, ground := Ground.phase }, { on := 25, ground := Ground.phase }, { on := 26, ground := Ground.phase }], guard := none }) (v := ?_) rfl (by kernel_rfl) (by kernel_rfl) (by kernel_rfl) (fun _ _ _ h => h) (Or.inl ⟨by rfl, ?_⟩) hHeld ?_
                  rotate_left
                  · (intro w hSw; (try dsimp only at hSw); go_simp; first | done | with_reducible rfl)
                  simp only [Act.put, List.setIfInBounds_toArray, List.set_cons_zero, List.set_cons_succ]
                  refine wpAnyH_ready (rs := [28]) (by kernel_rfl) (by simp) ?_
                  refine (AllReadyH.cons (o := { dst := none, op := Op.store 3 (Operand.tmp 58) (Operand.tmp 57), type := 0, pos := "mat.go:124", after := #[{ on := 27, ground := Ground.data }, { on := 26, ground := Ground.data }, { on := 26, ground := Ground.chain }, { on := 0, ground := Ground.phase }, { on := 1, ground := Ground.phase }, { on := 2, ground := Ground.phase }, { on := 3, ground := Ground.phase }, { on := 4, ground := Ground.phase }, { on := 5, ground := Ground.phase }, { on := 6, ground := Ground.phase }, { on := 7, ground := Ground.phase }, { on := 8, ground := Ground.phase }, { on := 9, ground := Ground.phase }, { on := 10, ground := Ground.phase }, { on := 11, ground := Ground.phase }, { on := 12, ground := Ground.phase }, { on := 13, ground := Ground.phase }, { on := 14, ground := Ground.phase }, { on := 15, ground := Ground.phase }, { on := 16, ground := Ground.phase }, { on := 17, ground := Ground.phase }, { on := 18, ground := Ground.phase }, { on := 19, ground := Ground.phase }, { on := 20, ground := Ground.phase }, { on := 21, ground := Ground.phase }, { on := 22, ground := Ground.phase }, { on := 23, ground := Ground.phase }, { on := 24, ground := Ground.phase }, { on := 25, ground := Ground.phase }, { on := 26, ground := Ground.phase }], guard := none }) rfl (fun K hK => ?_) AllReadyH.nil)
                  go_simp
                  have B4 := HB3.out.setCell (p := ⟨g + 1 + i, k, none⟩) (show w.heap.size ≤ g + 1 + i by have := HGS.out; omega) (.int .i64 ((DistP.least x (DistP.add y z) : Nat) : Int))
                  have HB4 := Lib.hid B4
                  have G4 := HG3.out.set i k hin ((DistP.least x (DistP.add y z) : Nat) : Int)
                  have KK28 := And.intro (G4.o i hin) (G4.o j hjn)
                  have HG4 := Lib.hid G4
                  clear hHeld B4 f3 e3 G4
                  refine hK.out _ _ KK28 (fun hHeld => ?_)
                  clear hK K
                  refine wpAnyH_done (by kernel_rfl) ?_ _
                  clear hHeld
                  go_wp2_with fail
                  go_roundw
                  case rel => exact ⟨k + 1, by go_num, by omega, HB4, Lib.hid (HG4.out.congr fun p _ q _ => HSet.out p q)⟩
                  case measure => simp [RowKit.intOf]; omega
                · go_simp
                  have KK25 := hHeld
                  clear hHeld
                  refine hK.out _ _ KK25 (fun hHeld => ?_)
                  clear hK K
                  refine wpAnyH_ready (rs := [11]) (by kernel_rfl) (by simp) ?_
                  refine (AllReadyH.cons (o := { dst := some 42, op := Op.load 3 (Operand.tmp 41), type := 3, pos := "mat.go:124", after := #[{ on := 10, ground := Ground.data }], guard := none }) rfl (fun K hK => ?_) AllReadyH.nil)
                  go_simp
                  have KK11 := hHeld
                  clear hHeld
                  refine hK.out _ _ KK11 (fun hHeld => ?_)
                  clear hK K
                  refine wpAnyH_ready (rs := [26]) (by kernel_rfl) (by simp) ?_
                  refine (AllReadyH.cons (o := { dst := some 57, op := Op.call { callee := Callee.value (Operand.func 26), args := #[Operand.tmp 42, Operand.tmp 49, Operand.tmp 56], argTypes := #[3, 3, 3] }, type := 3, pos := "mat.go:124", after := #[{ on := 11, ground := Ground.data }, { on := 18, ground := Ground.data }, { on := 25, ground := Ground.data }], guard := none }) rfl (fun K hK => ?_) AllReadyH.nil)
                  go_simp
                  go_at_call 26
                  refine (shorter_any x y z hxb hyb hzb _).mono ?_
                  rintro e w3 ⟨rfl, hb3⟩
                  have G3 := HG.out.drew.keep hb3
                  have B3 := hB.out.drew.trans (hb3.mono hB.out.drew.size)
                  have KK26 := And.intro (G3.o i hin) (G3.o j hjn)
                  have f3 := G3.fe i hin k
                  have e3 := G3.e i hin k hkn
                  rw [HX.out] at e3
                  have HG3 := Lib.hid G3; have HB3 := Lib.hid B3
                  clear hHeld hb3 G3 B3 z0 z1 z2
                  go_wp2_with fail
                  refine hK.out _ _ KK26 (fun hHeld => ?_)
                  clear hK K
                  refine wpAnyH_take (i := 27) (oi := { dst := some 58, op := Op.indexAddr 24 (Operand.tmp 34) (Operand.tmp 35), type := 0, pos := "mat.go:124", after := #[{ on := 3, ground := Ground.data }, { on := 4, ground := Ground.data }, { on := 0, ground := Ground.phase }, { on := 1, ground := Ground.phase }, { on := 2, ground := Ground.phase }, { on := 3, ground := Ground.phase }, { on := 4, ground := Ground.phase }, { on := 5, ground := Ground.phase }, { on := 6, ground := Ground.phase }, { on := 7, ground := Ground.phase }, { on := 8, ground := Ground.phase }, { on := 9, ground := Ground.phase }, { on := 10, ground := Ground.phase }, { on := 11, ground := Ground.phase }, { on := 12, ground := Ground.phase }, { on := 13, ground := Ground.phase }, { on := 14, ground := Ground.phase }, { on := 15, ground := Ground.phase }, { on := 16, ground := Ground.phase }, { on := 17, ground := Ground.phase }, { on := 18, ground := Ground.phase }, { on := 19, ground := Ground.phase }, { on := 20, ground := Ground.phase }, { on := 21, ground := Ground.phase }, { on := 22, ground := Ground.phase }, { on := 23, ground := Ground.phase }, { on := 24, ground := Ground.phase }, { on := 25, ground := Ground.phase }, { on := 26, ground := Ground.phase }], guard := none }) (v := ?_) rfl (by kernel_rfl) (by kernel_rfl) (by kernel_rfl) (fun _ _ _ h => h) (Or.inl ⟨by rfl, ?_⟩) hHeld ?_
                  rotate_left
                  · (intro w hSw; (try dsimp only at hSw); go_simp; first | done | with_reducible rfl)
                  simp only [Act.put, List.setIfInBounds_toArray, List.set_cons_zero, List.set_cons_succ]
                  refine wpAnyH_ready (rs := [28]) (by kernel_rfl) (by simp) ?_
                  refine (AllReadyH.cons (o := { dst := none, op := Op.store 3 (Operand.tmp 58) (Operand.tmp 57), type := 0, pos := "mat.go:124", after := #[{ on := 27, ground := Ground.data }, { on := 26, ground := Ground.data }, { on := 26, ground := Ground.chain }, { on := 0, ground := Ground.phase }, { on := 1, ground := Ground.phase }, { on := 2, ground := Ground.phase }, { on := 3, ground := Ground.phase }, { on := 4, ground := Ground.phase }, { on := 5, ground := Ground.phase }, { on := 6, ground := Ground.phase }, { on := 7, ground := Ground.phase }, { on := 8, ground := Ground.phase }, { on := 9, ground := Ground.phase }, { on := 10, ground := Ground.phase }, { on := 11, ground := Ground.phase }, { on := 12, ground := Ground.phase }, { on := 13, ground := Ground.phase }, { on := 14, ground := Ground.phase }, { on := 15, ground := Ground.phase }, { on := 16, ground := Ground.phase }, { on := 17, ground := Ground.phase }, { on := 18, ground := Ground.phase }, { on := 19, ground := Ground.phase }, { on := 20, ground := Ground.phase }, { on := 21, ground := Ground.phase }, { on := 22, ground := Ground.phase }, { on := 23, ground := Ground.phase }, { on := 24, ground := Ground.phase }, { on := 25, ground := Ground.phase }, { on := 26, ground := Ground.phase }], guard := none }) rfl (fun K hK => ?_) AllReadyH.nil)
                  go_simp
                  have B4 := HB3.out.setCell (p := ⟨g + 1 + i, k, none⟩) (show w.heap.size ≤ g + 1 + i by have := HGS.out; omega) (.int .i64 ((DistP.least x (DistP.add y z) : Nat) : Int))
                  have HB4 := Lib.hid B4
                  have G4 := HG3.out.set i k hin ((DistP.least x (DistP.add y z) : Nat) : Int)
                  have KK28 := And.intro (G4.o i hin) (G4.o j hjn)
                  have HG4 := Lib.hid G4
                  clear hHeld B4 f3 e3 G4
                  refine hK.out _ _ KK28 (fun hHeld => ?_)
                  clear hK K
                  refine wpAnyH_done (by kernel_rfl) ?_ _
                  clear hHeld
                  go_wp2_with fail
                  go_roundw
                  case rel => exact ⟨k + 1, by go_num, by omega, HB4, Lib.hid (HG4.out.congr fun p _ q _ => HSet.out p q)⟩
                  case measure => simp [RowKit.intOf]; omega
              · go_simp
                have KK25 := hHeld
                clear hHeld
                refine hK.out _ _ KK25 (fun hHeld => ?_)
                clear hK K
                refine wpAnyH_ready (rs := [11, 18]) (by kernel_rfl) (by simp) ?_
                refine (AllReadyH.cons (o := { dst := some 42, op := Op.load 3 (Operand.tmp 41), type := 3, pos := "mat.go:124", after := #[{ on := 10, ground := Ground.data }], guard := none }) rfl (fun K hK => ?_) (AllReadyH.cons (o := { dst := some 49, op := Op.load 3 (Operand.tmp 48), type := 3, pos := "mat.go:124", after := #[{ on := 17, ground := Ground.data }], guard := none }) rfl (fun K hK => ?_) AllReadyH.nil))
                · go_simp
                  have KK11 := hHeld
                  clear hHeld
                  refine hK.out _ _ KK11 (fun hHeld => ?_)
                  clear hK K
                  refine wpAnyH_ready (rs := [18]) (by kernel_rfl) (by simp) ?_
                  refine (AllReadyH.cons (o := { dst := some 49, op := Op.load 3 (Operand.tmp 48), type := 3, pos := "mat.go:124", after := #[{ on := 17, ground := Ground.data }], guard := none }) rfl (fun K hK => ?_) AllReadyH.nil)
                  go_simp
                  have KK18 := hHeld
                  clear hHeld
                  refine hK.out _ _ KK18 (fun hHeld => ?_)
                  clear hK K
                  refine wpAnyH_ready (rs := [26]) (by kernel_rfl) (by simp) ?_
                  refine (AllReadyH.cons (o := { dst := some 57, op := Op.call { callee := Callee.value (Operand.func 26), args := #[Operand.tmp 42, Operand.tmp 49, Operand.tmp 56], argTypes := #[3, 3, 3] }, type := 3, pos := "mat.go:124", after := #[{ on := 11, ground := Ground.data }, { on := 18, ground := Ground.data }, { on := 25, ground := Ground.data }], guard := none }) rfl (fun K hK => ?_) AllReadyH.nil)
                  go_simp
                  go_at_call 26
                  refine (shorter_any x y z hxb hyb hzb _).mono ?_
                  rintro e w3 ⟨rfl, hb3⟩
                  have G3 := HG.out.drew.keep hb3
                  have B3 := hB.out.drew.trans (hb3.mono hB.out.drew.size)
                  have KK26 := And.intro (G3.o i hin) (G3.o j hjn)
                  have f3 := G3.fe i hin k
                  have e3 := G3.e i hin k hkn
                  rw [HX.out] at e3
                  have HG3 := Lib.hid G3; have HB3 := Lib.hid B3
                  clear hHeld hb3 G3 B3 z0 z1 z2
                  go_wp2_with fail
                  refine hK.out _ _ KK26 (fun hHeld => ?_)
                  clear hK K
                  refine wpAnyH_take (i := 27) (oi := { dst := some 58, op := Op.indexAddr 24 (Operand.tmp 34) (Operand.tmp 35), type := 0, pos := "mat.go:124", after := #[{ on := 3, ground := Ground.data }, { on := 4, ground := Ground.data }, { on := 0, ground := Ground.phase }, { on := 1, ground := Ground.phase }, { on := 2, ground := Ground.phase }, { on := 3, ground := Ground.phase }, { on := 4, ground := Ground.phase }, { on := 5, ground := Ground.phase }, { on := 6, ground := Ground.phase }, { on := 7, ground := Ground.phase }, { on := 8, ground := Ground.phase }, { on := 9, ground := Ground.phase }, { on := 10, ground := Ground.phase }, { on := 11, ground := Ground.phase }, { on := 12, ground := Ground.phase }, { on := 13, ground := Ground.phase }, { on := 14, ground := Ground.phase }, { on := 15, ground := Ground.phase }, { on := 16, ground := Ground.phase }, { on := 17, ground := Ground.phase }, { on := 18, ground := Ground.phase }, { on := 19, ground := Ground.phase }, { on := 20, ground := Ground.phase }, { on := 21, ground := Ground.phase }, { on := 22, ground := Ground.phase }, { on := 23, ground := Ground.phase }, { on := 24, ground := Ground.phase }, { on := 25, ground := Ground.phase }, { on := 26, ground := Ground.phase }], guard := none }) (v := ?_) rfl (by kernel_rfl) (by kernel_rfl) (by kernel_rfl) (fun _ _ _ h => h) (Or.inl ⟨by rfl, ?_⟩) hHeld ?_
                  rotate_left
                  · (intro w hSw; (try dsimp only at hSw); go_simp; first | done | with_reducible rfl)
                  simp only [Act.put, List.setIfInBounds_toArray, List.set_cons_zero, List.set_cons_succ]
                  refine wpAnyH_ready (rs := [28]) (by kernel_rfl) (by simp) ?_
                  refine (AllReadyH.cons (o := { dst := none, op := Op.store 3 (Operand.tmp 58) (Operand.tmp 57), type := 0, pos := "mat.go:124", after := #[{ on := 27, ground := Ground.data }, { on := 26, ground := Ground.data }, { on := 26, ground := Ground.chain }, { on := 0, ground := Ground.phase }, { on := 1, ground := Ground.phase }, { on := 2, ground := Ground.phase }, { on := 3, ground := Ground.phase }, { on := 4, ground := Ground.phase }, { on := 5, ground := Ground.phase }, { on := 6, ground := Ground.phase }, { on := 7, ground := Ground.phase }, { on := 8, ground := Ground.phase }, { on := 9, ground := Ground.phase }, { on := 10, ground := Ground.phase }, { on := 11, ground := Ground.phase }, { on := 12, ground := Ground.phase }, { on := 13, ground := Ground.phase }, { on := 14, ground := Ground.phase }, { on := 15, ground := Ground.phase }, { on := 16, ground := Ground.phase }, { on := 17, ground := Ground.phase }, { on := 18, ground := Ground.phase }, { on := 19, ground := Ground.phase }, { on := 20, ground := Ground.phase }, { on := 21, ground := Ground.phase }, { on := 22, ground := Ground.phase }, { on := 23, ground := Ground.phase }, { on := 24, ground := Ground.phase }, { on := 25, ground := Ground.phase }, { on := 26, ground := Ground.phase }], guard := none }) rfl (fun K hK => ?_) AllReadyH.nil)
                  go_simp
                  have B4 := HB3.out.setCell (p := ⟨g + 1 + i, k, none⟩) (show w.heap.size ≤ g + 1 + i by have := HGS.out; omega) (.int .i64 ((DistP.least x (DistP.add y z) : Nat) : Int))
                  have HB4 := Lib.hid B4
                  have G4 := HG3.out.set i k hin ((DistP.least x (DistP.add y z) : Nat) : Int)
                  have KK28 := And.intro (G4.o i hin) (G4.o j hjn)
                  have HG4 := Lib.hid G4
                  clear hHeld B4 f3 e3 G4
                  refine hK.out _ _ KK28 (fun hHeld => ?_)
                  clear hK K
                  refine wpAnyH_done (by kernel_rfl) ?_ _
                  clear hHeld
                  go_wp2_with fail
                  go_roundw
                  case rel => exact ⟨k + 1, by go_num, by omega, HB4, Lib.hid (HG4.out.congr fun p _ q _ => HSet.out p q)⟩
                  case measure => simp [RowKit.intOf]; omega
                · go_simp
                  have KK18 := hHeld
                  clear hHeld
                  refine hK.out _ _ KK18 (fun hHeld => ?_)
                  clear hK K
                  refine wpAnyH_ready (rs := [11]) (by kernel_rfl) (by simp) ?_
                  refine (AllReadyH.cons (o := { dst := some 42, op := Op.load 3 (Operand.tmp 41), type := 3, pos := "mat.go:124", after := #[{ on := 10, ground := Ground.data }], guard := none }) rfl (fun K hK => ?_) AllReadyH.nil)
                  go_simp
                  have KK11 := hHeld
                  clear hHeld
                  refine hK.out _ _ KK11 (fun hHeld => ?_)
                  clear hK K
                  refine wpAnyH_ready (rs := [26]) (by kernel_rfl) (by simp) ?_
                  refine (AllReadyH.cons (o := { dst := some 57, op := Op.call { callee := Callee.value (Operand.func 26), args := #[Operand.tmp 42, Operand.tmp 49, Operand.tmp 56], argTypes := #[3, 3, 3] }, type := 3, pos := "mat.go:124", after := #[{ on := 11, ground := Ground.data }, { on := 18, ground := Ground.data }, { on := 25, ground := Ground.data }], guard := none }) rfl (fun K hK => ?_) AllReadyH.nil)
                  go_simp
                  go_at_call 26
                  refine (shorter_any x y z hxb hyb hzb _).mono ?_
                  rintro e w3 ⟨rfl, hb3⟩
                  have G3 := HG.out.drew.keep hb3
                  have B3 := hB.out.drew.trans (hb3.mono hB.out.drew.size)
                  have KK26 := And.intro (G3.o i hin) (G3.o j hjn)
                  have f3 := G3.fe i hin k
                  have e3 := G3.e i hin k hkn
                  rw [HX.out] at e3
                  have HG3 := Lib.hid G3; have HB3 := Lib.hid B3
                  clear hHeld hb3 G3 B3 z0 z1 z2
                  go_wp2_with fail
                  refine hK.out _ _ KK26 (fun hHeld => ?_)
                  clear hK K
                  refine wpAnyH_take (i := 27) (oi := { dst := some 58, op := Op.indexAddr 24 (Operand.tmp 34) (Operand.tmp 35), type := 0, pos := "mat.go:124", after := #[{ on := 3, ground := Ground.data }, { on := 4, ground := Ground.data }, { on := 0, ground := Ground.phase }, { on := 1, ground := Ground.phase }, { on := 2, ground := Ground.phase }, { on := 3, ground := Ground.phase }, { on := 4, ground := Ground.phase }, { on := 5, ground := Ground.phase }, { on := 6, ground := Ground.phase }, { on := 7, ground := Ground.phase }, { on := 8, ground := Ground.phase }, { on := 9, ground := Ground.phase }, { on := 10, ground := Ground.phase }, { on := 11, ground := Ground.phase }, { on := 12, ground := Ground.phase }, { on := 13, ground := Ground.phase }, { on := 14, ground := Ground.phase }, { on := 15, ground := Ground.phase }, { on := 16, ground := Ground.phase }, { on := 17, ground := Ground.phase }, { on := 18, ground := Ground.phase }, { on := 19, ground := Ground.phase }, { on := 20, ground := Ground.phase }, { on := 21, ground := Ground.phase }, { on := 22, ground := Ground.phase }, { on := 23, ground := Ground.phase }, { on := 24, ground := Ground.phase }, { on := 25, ground := Ground.phase }, { on := 26, ground := Ground.phase }], guard := none }) (v := ?_) rfl (by kernel_rfl) (by kernel_rfl) (by kernel_rfl) (fun _ _ _ h => h) (Or.inl ⟨by rfl, ?_⟩) hHeld ?_
                  rotate_left
                  · (intro w hSw; (try dsimp only at hSw); go_simp; first | done | with_reducible rfl)
                  simp only [Act.put, List.setIfInBounds_toArray, List.set_cons_zero, List.set_cons_succ]
                  refine wpAnyH_ready (rs := [28]) (by kernel_rfl) (by simp) ?_
                  refine (AllReadyH.cons (o := { dst := none, op := Op.store 3 (Operand.tmp 58) (Operand.tmp 57), type := 0, pos := "mat.go:124", after := #[{ on := 27, ground := Ground.data }, { on := 26, ground := Ground.data }, { on := 26, ground := Ground.chain }, { on := 0, ground := Ground.phase }, { on := 1, ground := Ground.phase }, { on := 2, ground := Ground.phase }, { on := 3, ground := Ground.phase }, { on := 4, ground := Ground.phase }, { on := 5, ground := Ground.phase }, { on := 6, ground := Ground.phase }, { on := 7, ground := Ground.phase }, { on := 8, ground := Ground.phase }, { on := 9, ground := Ground.phase }, { on := 10, ground := Ground.phase }, { on := 11, ground := Ground.phase }, { on := 12, ground := Ground.phase }, { on := 13, ground := Ground.phase }, { on := 14, ground := Ground.phase }, { on := 15, ground := Ground.phase }, { on := 16, ground := Ground.phase }, { on := 17, ground := Ground.phase }, { on := 18, ground := Ground.phase }, { on := 19, ground := Ground.phase }, { on := 20, ground := Ground.phase }, { on := 21, ground := Ground.phase }, { on := 22, ground := Ground.phase }, { on := 23, ground := Ground.phase }, { on := 24, ground := Ground.phase }, { on := 25, ground := Ground.phase }, { on := 26, ground := Ground.phase }], guard := none }) rfl (fun K hK => ?_) AllReadyH.nil)
                  go_simp
                  have B4 := HB3.out.setCell (p := ⟨g + 1 + i, k, none⟩) (show w.heap.size ≤ g + 1 + i by have := HGS.out; omega) (.int .i64 ((DistP.least x (DistP.add y z) : Nat) : Int))
                  have HB4 := Lib.hid B4
                  have G4 := HG3.out.set i k hin ((DistP.least x (DistP.add y z) : Nat) : Int)
                  have KK28 := And.intro (G4.o i hin) (G4.o j hjn)
                  have HG4 := Lib.hid G4
                  clear hHeld B4 f3 e3 G4
                  refine hK.out _ _ KK28 (fun hHeld => ?_)
                  clear hK K
                  refine wpAnyH_done (by kernel_rfl) ?_ _
                  clear hHeld
                  go_wp2_with fail
                  go_roundw
                  case rel => exact ⟨k + 1, by go_num, by omega, HB4, Lib.hid (HG4.out.congr fun p _ q _ => HSet.out p q)⟩
                  case measure => simp [RowKit.intOf]; omega
            --ENDSTAR
            · have e : k = n := by omega
              subst e
              go_wp2_with fail
              go_roundw
              case rel => exact ⟨i + 1, by go_num, by omega, hB, HG⟩
              case measure => simp [RowKit.intOf]; omega
        · have e : i = n := by omega
          subst e
          go_wp2_with fail
          go_roundw
          case rel => exact ⟨j + 1, by go_num, by omega, hB, HG⟩
          case measure => simp [RowKit.intOf]; omega
    · have e : j = n := by omega
      subst e
      go_wp2_with fail
      go_ret2
      exact ⟨g, HGS.out, rfl, HG.out, hB.out⟩
/-- mat.Star at a table. -/
theorem star_ok (w : World) (v : Value) (n : Nat) (A : MatP.T) (h1 : 1 ≤ n) (h8 : n ≤ 8) (hA : MatP.Bd A) (h : ArgR w v (rowsN n A)) :
    Calls Try.prog 12 #[v] w fun e w' => ∃ g, w.heap.size ≤ g ∧ e = .returned (.tuple #[.slice (some ⟨g, 0, none⟩) n n, .nilIface]) ∧ Grid w' g n n (fun i k => (MatP.fw n A i k : Int)) ∧ Below w.heap.size w w' := by
  obtain ⟨ba, oa, ca, rfl, hba, hs⟩ := tab_arg h h1
  exact star_some w ba oa ca n A h1 h8 hA hba hs
end Go.Proofs.Ytjgmehmhhplkaaa
