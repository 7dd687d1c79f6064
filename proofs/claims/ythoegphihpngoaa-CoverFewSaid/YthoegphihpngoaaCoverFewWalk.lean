/-
  The statement CoverFew's function answers true at every two lists; what lay in memory stays.
-/
import Derived.Test.YthoegphihpngoaaCoverFact
import Derived.Deep.RegionHeld3
import Derived.Deep.CutBlock
namespace Go.Proofs.Ythoegphihpngoaa
open Go.RowKit Go.Lib

/-- Two networks of a cover, one ahead of the other. -/
theorem Good.two {c : List Nt} (h : Good c) (k i : Nat) (hk : k < i) (hi : i < c.length) : c[k]!.V ∧ c[i]!.V ∧ c[k]!.hi ≤ c[i]!.1 ∧ wh c[k]! c[i]! = none := by
  rw [getElem!_pos c k (by omega), getElem!_pos c i hi]
  have := List.pairwise_iff_getElem.1 h.2 k i (by omega) hi hk
  exact ⟨h.1 _ (List.getElem_mem _), h.1 _ (List.getElem_mem _), this.1, this.2⟩

set_option maxHeartbeats 8000000 in
set_option maxRecDepth 100000 in
theorem coverFew_bad (w : World) (v v' : Value) (l : List Nt) (h : Arg w v l) (hn : l.length < 4611686018427387904) (hok : ∀ x ∈ l, x.1 < 4294967296) (hb : badL l ≠ 0) :
    Calls Try.prog 4 #[v, v'] w fun e w' => e = .returned (.bool true) ∧ Below w.heap.size w w' := by
  have HA := Lib.hid h; have HOK := Lib.hid hok
  clear h hok
  have HB := Lib.hid hb; clear hb
  go_enter Try.func4, Try.ntmps4
  go_wp2_with fail
  refine (covered_any w).mono ?_
  rintro e w1 ⟨rfl, b1⟩
  go_wp2_with fail
  refine (cover_bad w1 v l (HA.out.below b1) hn HOK.out HB.out).mono ?_
  rintro e w2 ⟨rfl, b2⟩
  have hE : errV (badL l) = .iface 47 (.int .i64 (badL l)) := if_neg HB.out
  rw [hE]
  clear hE
  generalize badL l = q
  go_wp2_with fail
  go_ret
  exact ⟨rfl, Below.two b1 b2⟩

set_option maxHeartbeats 8000000 in
set_option maxRecDepth 100000 in
theorem coverFew_ok (w : World) (v v' : Value) (l m : List Nt) (h : Arg w v l) (h' : Arg w v' m) (hm : m.length < 4611686018427387904) (hok : ∀ x ∈ l, x.1 < 4294967296) (hok' : ∀ x ∈ m, x.1 < 4294967296) (hb : badL l = 0) :
    Calls Try.prog 4 #[v, v'] w fun e w' => e = .returned (.bool true) ∧ Below w.heap.size w w' := by
  have h0 := (badL_zero l).1 hb
  have lV : ∀ x ∈ l, x.V := fun x hx => ⟨hok x hx, h0.1 x hx⟩
  have HG := Lib.hid (cov_good l lV)
  have hcl : (cov l).length ≤ 64 := Nat.le_trans (cov_len l) h0.2
  have HA := Lib.hid h; have HA' := Lib.hid h'; have HOK' := Lib.hid hok'
  have HC := Lib.hid (fun w h => cover_ok w v l h h0.2 lV)
  clear h h' hok hok' lV h0 hb
  generalize hc : cov l = c at HG hcl HC
  clear hc
  go_enter Try.func4, Try.ntmps4
  go_wp2_with fail
  refine (covered_any w).mono ?_
  rintro e w1 ⟨rfl, b1⟩
  go_wp2_with fail
  refine (HC.out w1 (HA.out.below b1)).mono ?_
  rintro e w2 ⟨v2, rfl, o2, b2⟩
  have A2 := Lib.hid o2.arg; clear o2 HC
  have b02 := Below.two b1 b2
  obtain ⟨p, cc, rfl, hcase⟩ := A2.out
  have HCA := Lib.hid hcase; clear hcase
  clear b1 b2 HA
  go_wp2_with fail
  go_loopw [8] (fun vi wr => ∃ (i : Nat), vi = .int .i64 i ∧ i ≤ c.length ∧ Hid (Below w2.heap.size w2 wr)) (fun vi _ => c.length - (intOf vi).toNat)
  case atStart => exact ⟨0, rfl, Nat.zero_le _, Lib.hid (Below.refl _ _)⟩
  case round =>
    obtain ⟨i, rfl, hi, HB⟩ := hrel
    by_cases hic : i < c.length
    · have hicz : (i : Int) < (c.length : Int) := by omega
      go_wp2_with fail
      (try rw [decide_eq_true hicz])
      (try rw [decide_eq_true hic])
      go_loopw [9] (fun vk wr => ∃ (k : Nat), vk = .int .i64 k ∧ k ≤ i ∧ Hid (Below w2.heap.size w2 wr)) (fun vk _ => i - (intOf vk).toNat)
      case atStart => exact ⟨0, rfl, Nat.zero_le _, HB⟩
      case round =>
        clear HB
        obtain ⟨k, rfl, hk, HB⟩ := hrel
        by_cases hki : k < i
        · obtain ⟨g, off, rfl, hg, hseen⟩ : ∃ b off, p = some ⟨b, off, none⟩ ∧ b < w2.heap.size ∧ Seen w2 b off c := by
            rcases HCA.out with e | e
            · rw [e] at hic; simp at hic
            · exact e
          have hkc : k < c.length := by omega
          have SS := hseen.below HB.out hg
          have hgl : g < wr.heap.size := Nat.lt_of_lt_of_le hg HB.out.size
          have y0 : wr.cell? ⟨g, off + i * 2, none⟩ = some (.int .u32 (c[i]!.1 : Int)) := SS.c0 i hic
          have y1 : wr.cell? ⟨g, off + i * 2 + 1, none⟩ = some (.int .i64 c[i]!.2) := SS.c1 i hic
          have x0 : wr.cell? ⟨g, off + k * 2, none⟩ = some (.int .u32 (c[k]!.1 : Int)) := SS.c0 k hkc
          have x1 : wr.cell? ⟨g, off + k * 2 + 1, none⟩ = some (.int .i64 c[k]!.2) := SS.c1 k hkc
          obtain ⟨xV, yV, hxy, hww⟩ := HG.out.two k i hki hic
          clear SS hseen
          generalize c[i]! = y at y0 y1 yV hxy hww
          generalize c[k]! = x at x0 x1 xV hxy hww
          have HJ : Hid (∀ w', Below wr.heap.size wr w' → (w'.cell? ⟨g, off + i * 2, none⟩ = some (.int .u32 (y.1 : Int)) ∧ w'.cell? ⟨g, off + i * 2 + 1, none⟩ = some (.int .i64 y.2) ∧ w'.cell? ⟨g, off + k * 2, none⟩ = some (.int .u32 (x.1 : Int)) ∧ w'.cell? ⟨g, off + k * 2 + 1, none⟩ = some (.int .i64 x.2) ∧ Below wr.heap.size wr w')) :=
            Lib.hid fun w' hb => ⟨(hb.cell (p := ⟨g, off + i * 2, none⟩) hgl).trans y0, (hb.cell (p := ⟨g, off + i * 2 + 1, none⟩) hgl).trans y1, (hb.cell (p := ⟨g, off + k * 2, none⟩) hgl).trans x0, (hb.cell (p := ⟨g, off + k * 2 + 1, none⟩) hgl).trans x1, hb⟩
          clear y0 y1 x0 x1
          have hin1 : PrefP.in y.1 y.2 x.1 x.2 = false := by
            have h1 : ¬ (PrefP.in y.1 y.2 x.1 x.2 = true) := by rw [yV.in xV]; have := y.hi_gt; omega
            simpa using h1
          have hin2 : PrefP.in x.1 x.2 y.1 y.2 = false := by
            have h1 : ¬ (PrefP.in x.1 x.2 y.1 y.2 = true) := by rw [xV.in yV]; have := x.hi_gt; omega
            simpa using h1
          have hls : PrefP.less x.1 x.2 y.1 y.2 = true := (xV.lt yV).2 (by have := x.hi_gt; omega)
          obtain ⟨n, m', ex, ey, hn, hm', xc, yc⟩ := apart_len xV yV hxy
          have hup := Lib.hid (up_apart xV yV hxy hww n m' ex ey)
          have XV := Lib.hid xV; have YV := Lib.hid yV
          have xb := xV.1; have yb := yV.1
          clear xV yV hxy hww
          rw [ex] at HJ hin1 hin2 hls
          rw [ey] at HJ hin1 hin2 hls
          generalize x.1 = xa at *
          generalize y.1 = ya at *
          clear ex ey
          go_upto_region 11 with fail
          refine wp_region_held_drew (S := (fun w' => w'.cell? ⟨g, off + i * 2, none⟩ = some (.int .u32 (ya : Int)) ∧ w'.cell? ⟨g, off + i * 2 + 1, none⟩ = some (.int .i64 ((m' : Int) + 1)) ∧ w'.cell? ⟨g, off + k * 2, none⟩ = some (.int .u32 (xa : Int)) ∧ w'.cell? ⟨g, off + k * 2 + 1, none⟩ = some (.int .i64 ((n : Int) + 1)) ∧ Below wr.heap.size wr w')) (by kernel_rfl) (HJ.out _ ((Below.refl _ _).drew)) (fun hHeld => ?_)
          refine wpAnyH_take (i := 0) (oi := { dst := some 46, op := Op.move (Operand.tmp 6), type := 22, pos := "nets.go:277", after := #[], guard := none }) (v := ?_) rfl (by kernel_rfl) (by kernel_rfl) (by kernel_rfl) (fun _ _ _ h => h) (Or.inl ⟨by rfl, ?_⟩) hHeld ?_
          rotate_left
          · (intro w hSw; (try dsimp only at hSw); go_simp; first | done | with_reducible rfl)
          simp only [Act.put, List.setIfInBounds_toArray, List.set_cons_zero, List.set_cons_succ]
          refine wpAnyH_take (i := 1) (oi := { dst := some 47, op := Op.move (Operand.tmp 8), type := 3, pos := "nets.go:277", after := #[], guard := none }) (v := ?_) rfl (by kernel_rfl) (by kernel_rfl) (by kernel_rfl) (fun _ _ _ h => h) (Or.inl ⟨by rfl, ?_⟩) hHeld ?_
          rotate_left
          · (intro w hSw; (try dsimp only at hSw); go_simp; first | done | with_reducible rfl)
          simp only [Act.put, List.setIfInBounds_toArray, List.set_cons_zero, List.set_cons_succ]
          refine wpAnyH_take (i := 2) (oi := { dst := some 48, op := Op.indexAddr 22 (Operand.tmp 46) (Operand.tmp 47), type := 0, pos := "nets.go:277", after := #[{ on := 0, ground := Ground.data }, { on := 1, ground := Ground.data }], guard := none }) (v := ?_) rfl (by kernel_rfl) (by kernel_rfl) (by kernel_rfl) (fun _ _ _ h => h) (Or.inl ⟨by rfl, ?_⟩) hHeld ?_
          rotate_left
          · (intro w hSw; (try dsimp only at hSw); go_simp; first | done | with_reducible rfl)
          simp only [Act.put, List.setIfInBounds_toArray, List.set_cons_zero, List.set_cons_succ]
          refine wpAnyH_take (i := 3) (oi := { dst := some 49, op := Op.load 30 (Operand.tmp 48), type := 30, pos := "nets.go:277", after := #[{ on := 2, ground := Ground.data }], guard := none }) (v := ?_) rfl (by kernel_rfl) (by kernel_rfl) (by kernel_rfl) (fun _ _ _ h => h) (Or.inl ⟨by rfl, ?_⟩) hHeld ?_
          rotate_left
          · (intro w hSw; (try dsimp only at hSw); go_simp; first | done | with_reducible rfl)
          simp only [Act.put, List.setIfInBounds_toArray, List.set_cons_zero, List.set_cons_succ]
          refine wpAnyH_take (i := 4) (oi := { dst := some 50, op := Op.move (Operand.tmp 6), type := 22, pos := "nets.go:277", after := #[], guard := none }) (v := ?_) rfl (by kernel_rfl) (by kernel_rfl) (by kernel_rfl) (fun _ _ _ h => h) (Or.inl ⟨by rfl, ?_⟩) hHeld ?_
          rotate_left
          · (intro w hSw; (try dsimp only at hSw); go_simp; first | done | with_reducible rfl)
          simp only [Act.put, List.setIfInBounds_toArray, List.set_cons_zero, List.set_cons_succ]
          refine wpAnyH_take (i := 5) (oi := { dst := some 51, op := Op.move (Operand.tmp 9), type := 3, pos := "nets.go:277", after := #[], guard := none }) (v := ?_) rfl (by kernel_rfl) (by kernel_rfl) (by kernel_rfl) (fun _ _ _ h => h) (Or.inl ⟨by rfl, ?_⟩) hHeld ?_
          rotate_left
          · (intro w hSw; (try dsimp only at hSw); go_simp; first | done | with_reducible rfl)
          simp only [Act.put, List.setIfInBounds_toArray, List.set_cons_zero, List.set_cons_succ]
          refine wpAnyH_take (i := 6) (oi := { dst := some 52, op := Op.indexAddr 22 (Operand.tmp 50) (Operand.tmp 51), type := 0, pos := "nets.go:277", after := #[{ on := 4, ground := Ground.data }, { on := 5, ground := Ground.data }], guard := none }) (v := ?_) rfl (by kernel_rfl) (by kernel_rfl) (by kernel_rfl) (fun _ _ _ h => h) (Or.inl ⟨by rfl, ?_⟩) hHeld ?_
          rotate_left
          · (intro w hSw; (try dsimp only at hSw); go_simp; first | done | with_reducible rfl)
          simp only [Act.put, List.setIfInBounds_toArray, List.set_cons_zero, List.set_cons_succ]
          refine wpAnyH_take (i := 7) (oi := { dst := some 53, op := Op.load 30 (Operand.tmp 52), type := 30, pos := "nets.go:277", after := #[{ on := 6, ground := Ground.data }], guard := none }) (v := ?_) rfl (by kernel_rfl) (by kernel_rfl) (by kernel_rfl) (fun _ _ _ h => h) (Or.inl ⟨by rfl, ?_⟩) hHeld ?_
          rotate_left
          · (intro w hSw; (try dsimp only at hSw); go_simp; first | done | with_reducible rfl)
          simp only [Act.put, List.setIfInBounds_toArray, List.set_cons_zero, List.set_cons_succ]
          refine wpAnyH_ready (rs := [8]) (by kernel_rfl) (by simp) ?_
          refine (AllReadyH.cons (o := { dst := some 54, op := Op.call { callee := Callee.value (Operand.func 11), args := #[Operand.tmp 49, Operand.tmp 53], argTypes := #[30, 30] }, type := 4, pos := "nets.go:277", after := #[{ on := 3, ground := Ground.data }, { on := 7, ground := Ground.data }], guard := none }) rfl (fun K hK => ?_) AllReadyH.nil)
          go_simp
          go_at_call 11
          refine (in_any _ _ _ _ yb _).mono ?_
          rintro e0 z0 ⟨rfl, hq⟩
          have KK8 := HJ.out _ (Below.two hHeld.2.2.2.2 hq)
          clear hHeld hq
          rw [hin1]
          go_wp2_with fail
          refine hK.out _ _ KK8 (fun hHeld => ?_)
          clear hK K
          refine wpAnyH_take (i := 9) (oi := { dst := some 55, op := Op.move (Operand.tmp 54), type := 4, pos := "nets.go:277", after := #[{ on := 8, ground := Ground.data }, { on := 8, ground := Ground.chain }], guard := none }) (v := ?_) rfl (by kernel_rfl) (by kernel_rfl) (by kernel_rfl) (fun _ _ _ h => h) (Or.inl ⟨by rfl, ?_⟩) hHeld ?_
          rotate_left
          · (intro w hSw; (try dsimp only at hSw); go_simp; first | done | with_reducible rfl)
          simp only [Act.put, List.setIfInBounds_toArray, List.set_cons_zero, List.set_cons_succ]
          refine wpAnyH_take (i := 10) (oi := { dst := some 56, op := Op.move (Operand.tmp 6), type := 22, pos := "nets.go:277", after := #[{ on := 9, ground := Ground.guard }], guard := some (9, false) }) (v := ?_) rfl (by kernel_rfl) (by kernel_rfl) (by kernel_rfl) (fun _ _ _ h => h) (Or.inl ⟨by rfl, ?_⟩) hHeld ?_
          rotate_left
          · (intro w hSw; (try dsimp only at hSw); go_simp; first | done | with_reducible rfl)
          simp only [Act.put, List.setIfInBounds_toArray, List.set_cons_zero, List.set_cons_succ]
          refine wpAnyH_take (i := 11) (oi := { dst := some 57, op := Op.move (Operand.tmp 9), type := 3, pos := "nets.go:277", after := #[{ on := 9, ground := Ground.guard }], guard := some (9, false) }) (v := ?_) rfl (by kernel_rfl) (by kernel_rfl) (by kernel_rfl) (fun _ _ _ h => h) (Or.inl ⟨by rfl, ?_⟩) hHeld ?_
          rotate_left
          · (intro w hSw; (try dsimp only at hSw); go_simp; first | done | with_reducible rfl)
          simp only [Act.put, List.setIfInBounds_toArray, List.set_cons_zero, List.set_cons_succ]
          refine wpAnyH_take (i := 12) (oi := { dst := some 58, op := Op.indexAddr 22 (Operand.tmp 56) (Operand.tmp 57), type := 0, pos := "nets.go:277", after := #[{ on := 10, ground := Ground.data }, { on := 11, ground := Ground.data }, { on := 9, ground := Ground.guard }], guard := some (9, false) }) (v := ?_) rfl (by kernel_rfl) (by kernel_rfl) (by kernel_rfl) (fun _ _ _ h => h) (Or.inl ⟨by rfl, ?_⟩) hHeld ?_
          rotate_left
          · (intro w hSw; (try dsimp only at hSw); go_simp; first | done | with_reducible rfl)
          simp only [Act.put, List.setIfInBounds_toArray, List.set_cons_zero, List.set_cons_succ]
          refine wpAnyH_take (i := 13) (oi := { dst := some 59, op := Op.load 30 (Operand.tmp 58), type := 30, pos := "nets.go:277", after := #[{ on := 12, ground := Ground.data }, { on := 9, ground := Ground.guard }], guard := some (9, false) }) (v := ?_) rfl (by kernel_rfl) (by kernel_rfl) (by kernel_rfl) (fun _ _ _ h => h) (Or.inl ⟨by rfl, ?_⟩) hHeld ?_
          rotate_left
          · (intro w hSw; (try dsimp only at hSw); go_simp; first | done | with_reducible rfl)
          simp only [Act.put, List.setIfInBounds_toArray, List.set_cons_zero, List.set_cons_succ]
          refine wpAnyH_take (i := 14) (oi := { dst := some 60, op := Op.move (Operand.tmp 6), type := 22, pos := "nets.go:277", after := #[{ on := 9, ground := Ground.guard }], guard := some (9, false) }) (v := ?_) rfl (by kernel_rfl) (by kernel_rfl) (by kernel_rfl) (fun _ _ _ h => h) (Or.inl ⟨by rfl, ?_⟩) hHeld ?_
          rotate_left
          · (intro w hSw; (try dsimp only at hSw); go_simp; first | done | with_reducible rfl)
          simp only [Act.put, List.setIfInBounds_toArray, List.set_cons_zero, List.set_cons_succ]
          refine wpAnyH_take (i := 15) (oi := { dst := some 61, op := Op.move (Operand.tmp 8), type := 3, pos := "nets.go:277", after := #[{ on := 9, ground := Ground.guard }], guard := some (9, false) }) (v := ?_) rfl (by kernel_rfl) (by kernel_rfl) (by kernel_rfl) (fun _ _ _ h => h) (Or.inl ⟨by rfl, ?_⟩) hHeld ?_
          rotate_left
          · (intro w hSw; (try dsimp only at hSw); go_simp; first | done | with_reducible rfl)
          simp only [Act.put, List.setIfInBounds_toArray, List.set_cons_zero, List.set_cons_succ]
          refine wpAnyH_take (i := 16) (oi := { dst := some 62, op := Op.indexAddr 22 (Operand.tmp 60) (Operand.tmp 61), type := 0, pos := "nets.go:277", after := #[{ on := 14, ground := Ground.data }, { on := 15, ground := Ground.data }, { on := 9, ground := Ground.guard }], guard := some (9, false) }) (v := ?_) rfl (by kernel_rfl) (by kernel_rfl) (by kernel_rfl) (fun _ _ _ h => h) (Or.inl ⟨by rfl, ?_⟩) hHeld ?_
          rotate_left
          · (intro w hSw; (try dsimp only at hSw); go_simp; first | done | with_reducible rfl)
          simp only [Act.put, List.setIfInBounds_toArray, List.set_cons_zero, List.set_cons_succ]
          refine wpAnyH_take (i := 17) (oi := { dst := some 63, op := Op.load 30 (Operand.tmp 62), type := 30, pos := "nets.go:277", after := #[{ on := 16, ground := Ground.data }, { on := 9, ground := Ground.guard }], guard := some (9, false) }) (v := ?_) rfl (by kernel_rfl) (by kernel_rfl) (by kernel_rfl) (fun _ _ _ h => h) (Or.inl ⟨by rfl, ?_⟩) hHeld ?_
          rotate_left
          · (intro w hSw; (try dsimp only at hSw); go_simp; first | done | with_reducible rfl)
          simp only [Act.put, List.setIfInBounds_toArray, List.set_cons_zero, List.set_cons_succ]
          refine wpAnyH_ready (rs := [18]) (by kernel_rfl) (by simp) ?_
          refine (AllReadyH.cons (o := { dst := some 64, op := Op.call { callee := Callee.value (Operand.func 11), args := #[Operand.tmp 59, Operand.tmp 63], argTypes := #[30, 30] }, type := 4, pos := "nets.go:277", after := #[{ on := 13, ground := Ground.data }, { on := 17, ground := Ground.data }, { on := 9, ground := Ground.chain }, { on := 9, ground := Ground.guard }], guard := some (9, false) }) rfl (fun K hK => ?_) AllReadyH.nil)
          go_simp
          go_at_call 11
          refine (in_any _ _ _ _ xb _).mono ?_
          rintro e1 z1 ⟨rfl, hq⟩
          have KK18 := HJ.out _ (Below.two hHeld.2.2.2.2 hq)
          clear hHeld hq
          rw [hin2]
          go_wp2_with fail
          refine hK.out _ _ KK18 (fun hHeld => ?_)
          clear hK K
          refine wpAnyH_take (i := 19) (oi := { dst := some 65, op := Op.pick (Operand.tmp 55) (Operand.const (Value.bool true)) (Operand.tmp 64), type := 4, pos := "nets.go:277", after := #[{ on := 9, ground := Ground.data }, { on := 18, ground := Ground.data }], guard := none }) (v := ?_) rfl (by kernel_rfl) (by kernel_rfl) (by kernel_rfl) (fun _ _ _ h => h) (Or.inl ⟨by rfl, ?_⟩) hHeld ?_
          rotate_left
          · (intro w hSw; (try dsimp only at hSw); go_simp; first | done | with_reducible rfl)
          simp only [Act.put, List.setIfInBounds_toArray, List.set_cons_zero, List.set_cons_succ]
          refine wpAnyH_take (i := 20) (oi := { dst := some 66, op := Op.move (Operand.tmp 65), type := 4, pos := "nets.go:277", after := #[{ on := 19, ground := Ground.data }, { on := 18, ground := Ground.chain }], guard := none }) (v := ?_) rfl (by kernel_rfl) (by kernel_rfl) (by kernel_rfl) (fun _ _ _ h => h) (Or.inl ⟨by rfl, ?_⟩) hHeld ?_
          rotate_left
          · (intro w hSw; (try dsimp only at hSw); go_simp; first | done | with_reducible rfl)
          simp only [Act.put, List.setIfInBounds_toArray, List.set_cons_zero, List.set_cons_succ]
          refine wpAnyH_take (i := 21) (oi := { dst := some 67, op := Op.move (Operand.tmp 6), type := 22, pos := "nets.go:277", after := #[{ on := 20, ground := Ground.guard }], guard := some (20, false) }) (v := ?_) rfl (by kernel_rfl) (by kernel_rfl) (by kernel_rfl) (fun _ _ _ h => h) (Or.inl ⟨by rfl, ?_⟩) hHeld ?_
          rotate_left
          · (intro w hSw; (try dsimp only at hSw); go_simp; first | done | with_reducible rfl)
          simp only [Act.put, List.setIfInBounds_toArray, List.set_cons_zero, List.set_cons_succ]
          refine wpAnyH_take (i := 22) (oi := { dst := some 68, op := Op.move (Operand.tmp 9), type := 3, pos := "nets.go:277", after := #[{ on := 20, ground := Ground.guard }], guard := some (20, false) }) (v := ?_) rfl (by kernel_rfl) (by kernel_rfl) (by kernel_rfl) (fun _ _ _ h => h) (Or.inl ⟨by rfl, ?_⟩) hHeld ?_
          rotate_left
          · (intro w hSw; (try dsimp only at hSw); go_simp; first | done | with_reducible rfl)
          simp only [Act.put, List.setIfInBounds_toArray, List.set_cons_zero, List.set_cons_succ]
          refine wpAnyH_take (i := 23) (oi := { dst := some 69, op := Op.indexAddr 22 (Operand.tmp 67) (Operand.tmp 68), type := 0, pos := "nets.go:277", after := #[{ on := 21, ground := Ground.data }, { on := 22, ground := Ground.data }, { on := 20, ground := Ground.guard }], guard := some (20, false) }) (v := ?_) rfl (by kernel_rfl) (by kernel_rfl) (by kernel_rfl) (fun _ _ _ h => h) (Or.inl ⟨by rfl, ?_⟩) hHeld ?_
          rotate_left
          · (intro w hSw; (try dsimp only at hSw); go_simp; first | done | with_reducible rfl)
          simp only [Act.put, List.setIfInBounds_toArray, List.set_cons_zero, List.set_cons_succ]
          refine wpAnyH_take (i := 24) (oi := { dst := some 70, op := Op.load 30 (Operand.tmp 69), type := 30, pos := "nets.go:277", after := #[{ on := 23, ground := Ground.data }, { on := 20, ground := Ground.guard }], guard := some (20, false) }) (v := ?_) rfl (by kernel_rfl) (by kernel_rfl) (by kernel_rfl) (fun _ _ _ h => h) (Or.inl ⟨by rfl, ?_⟩) hHeld ?_
          rotate_left
          · (intro w hSw; (try dsimp only at hSw); go_simp; first | done | with_reducible rfl)
          simp only [Act.put, List.setIfInBounds_toArray, List.set_cons_zero, List.set_cons_succ]
          refine wpAnyH_take (i := 25) (oi := { dst := some 71, op := Op.move (Operand.tmp 6), type := 22, pos := "nets.go:277", after := #[{ on := 20, ground := Ground.guard }], guard := some (20, false) }) (v := ?_) rfl (by kernel_rfl) (by kernel_rfl) (by kernel_rfl) (fun _ _ _ h => h) (Or.inl ⟨by rfl, ?_⟩) hHeld ?_
          rotate_left
          · (intro w hSw; (try dsimp only at hSw); go_simp; first | done | with_reducible rfl)
          simp only [Act.put, List.setIfInBounds_toArray, List.set_cons_zero, List.set_cons_succ]
          refine wpAnyH_take (i := 26) (oi := { dst := some 72, op := Op.move (Operand.tmp 8), type := 3, pos := "nets.go:277", after := #[{ on := 20, ground := Ground.guard }], guard := some (20, false) }) (v := ?_) rfl (by kernel_rfl) (by kernel_rfl) (by kernel_rfl) (fun _ _ _ h => h) (Or.inl ⟨by rfl, ?_⟩) hHeld ?_
          rotate_left
          · (intro w hSw; (try dsimp only at hSw); go_simp; first | done | with_reducible rfl)
          simp only [Act.put, List.setIfInBounds_toArray, List.set_cons_zero, List.set_cons_succ]
          refine wpAnyH_take (i := 27) (oi := { dst := some 73, op := Op.indexAddr 22 (Operand.tmp 71) (Operand.tmp 72), type := 0, pos := "nets.go:277", after := #[{ on := 25, ground := Ground.data }, { on := 26, ground := Ground.data }, { on := 20, ground := Ground.guard }], guard := some (20, false) }) (v := ?_) rfl (by kernel_rfl) (by kernel_rfl) (by kernel_rfl) (fun _ _ _ h => h) (Or.inl ⟨by rfl, ?_⟩) hHeld ?_
          rotate_left
          · (intro w hSw; (try dsimp only at hSw); go_simp; first | done | with_reducible rfl)
          simp only [Act.put, List.setIfInBounds_toArray, List.set_cons_zero, List.set_cons_succ]
          refine wpAnyH_take (i := 28) (oi := { dst := some 74, op := Op.load 30 (Operand.tmp 73), type := 30, pos := "nets.go:277", after := #[{ on := 27, ground := Ground.data }, { on := 20, ground := Ground.guard }], guard := some (20, false) }) (v := ?_) rfl (by kernel_rfl) (by kernel_rfl) (by kernel_rfl) (fun _ _ _ h => h) (Or.inl ⟨by rfl, ?_⟩) hHeld ?_
          rotate_left
          · (intro w hSw; (try dsimp only at hSw); go_simp; first | done | with_reducible rfl)
          simp only [Act.put, List.setIfInBounds_toArray, List.set_cons_zero, List.set_cons_succ]
          refine wpAnyH_ready (rs := [29]) (by kernel_rfl) (by simp) ?_
          refine (AllReadyH.cons (o := { dst := some 75, op := Op.call { callee := Callee.value (Operand.func 12), args := #[Operand.tmp 70, Operand.tmp 74], argTypes := #[30, 30] }, type := 4, pos := "nets.go:277", after := #[{ on := 24, ground := Ground.data }, { on := 28, ground := Ground.data }, { on := 20, ground := Ground.chain }, { on := 20, ground := Ground.guard }], guard := some (20, false) }) rfl (fun K hK => ?_) AllReadyH.nil)
          go_simp
          go_at_call 12
          refine (less_any _ _ _ _ _).mono ?_
          rintro e2 z2 ⟨rfl, hq⟩
          have KK29 := HJ.out _ (Below.two hHeld.2.2.2.2 hq)
          clear hHeld hq
          rw [hls]
          go_wp2_with fail
          refine hK.out _ _ KK29 (fun hHeld => ?_)
          clear hK K
          refine wpAnyH_take (i := 30) (oi := { dst := some 76, op := Op.unOp UnOp.not 4 (Operand.tmp 75), type := 4, pos := "nets.go:277", after := #[{ on := 29, ground := Ground.data }, { on := 20, ground := Ground.guard }], guard := some (20, false) }) (v := ?_) rfl (by kernel_rfl) (by kernel_rfl) (by kernel_rfl) (fun _ _ _ h => h) (Or.inl ⟨by rfl, ?_⟩) hHeld ?_
          rotate_left
          · (intro w hSw; (try dsimp only at hSw); go_simp; first | done | with_reducible rfl)
          simp only [Act.put, List.setIfInBounds_toArray, List.set_cons_zero, List.set_cons_succ]
          refine wpAnyH_take (i := 31) (oi := { dst := some 77, op := Op.pick (Operand.tmp 66) (Operand.const (Value.bool true)) (Operand.tmp 76), type := 4, pos := "nets.go:277", after := #[{ on := 20, ground := Ground.data }, { on := 30, ground := Ground.data }], guard := none }) (v := ?_) rfl (by kernel_rfl) (by kernel_rfl) (by kernel_rfl) (fun _ _ _ h => h) (Or.inl ⟨by rfl, ?_⟩) hHeld ?_
          rotate_left
          · (intro w hSw; (try dsimp only at hSw); go_simp; first | done | with_reducible rfl)
          simp only [Act.put, List.setIfInBounds_toArray, List.set_cons_zero, List.set_cons_succ]
          refine wpAnyH_done (by kernel_rfl) ?_ _
          have bz := hHeld.2.2.2.2
          obtain ⟨s0, s1, s2, s3, _⟩ := id hHeld
          clear hHeld
          go_wp2_with fail
          refine (up_yes xa n xb hn xc _).mono ?_
          rintro e5 u1 ⟨rfl, hu1⟩
          have g1 := Below.two bz hu1
          clear s0 s1 s2 s3
          obtain ⟨s0, s1, s2, s3, _⟩ := HJ.out _ g1
          have gl1 : g < u1.heap.size := Nat.lt_of_lt_of_le hgl g1.size
          by_cases hz : PrefP.cut xa n = PrefP.cut ya m'
          · have hz2 : ((n : Int) == (m' : Int)) = false := by
              have h1 := hup.out
              have : ¬ (n : Int) = m' := fun h => h1 ⟨hz, by omega⟩
              simpa using this
            rw [hz]
            go_wp2_with fail
            refine (up_yes ya m' yb hm' yc _).mono ?_
            rintro e6 u2 ⟨rfl, hu2⟩
            obtain ⟨B1, hu2'⟩ := box1 hu2; clear hu2
            obtain ⟨l1, c0, c1, f0, f1⟩ := id B1
            have g2 := Below.two g1 hu2'
            go_wp2_with fail
            go_roundw
            case rel => exact ⟨k + 1, by go_num, by omega, Lib.hid ((Below.two HB.out g2).alloc (Nat.le_trans HB.out.size g2.size) _)⟩
            case measure => simp [intOf]; omega
          · have hz2 : ((PrefP.cut xa n : Int) == (PrefP.cut ya m' : Int)) = false := by
              have : ¬ (PrefP.cut xa n : Int) = (PrefP.cut ya m' : Int) := by omega
              simpa using this
            go_wp2_with fail
            refine (up_yes ya m' yb hm' yc _).mono ?_
            rintro e6 u2 ⟨rfl, hu2⟩
            obtain ⟨B1, hu2'⟩ := box1 hu2; clear hu2
            obtain ⟨l1, c0, c1, f0, f1⟩ := id B1
            have g2 := Below.two g1 hu2'
            go_wp2_with fail
            go_roundw
            case rel => exact ⟨k + 1, by go_num, by omega, Lib.hid ((Below.two HB.out g2).alloc (Nat.le_trans HB.out.size g2.size) _)⟩
            case measure => simp [intOf]; omega
        · go_wp2_with fail
          go_roundw
          case rel => exact ⟨i + 1, by go_num, by omega, HB⟩
          case measure => simp [intOf]; omega
    · go_wp2_with fail
      refine (cover_any wr v' m (HA'.out.below (Below.two b02 HB.out)) hm HOK'.out).mono ?_
      rintro e w3 ⟨v3, rfl, o3, b3⟩
      have A3 := Lib.hid o3.arg; clear o3
      have b03 := Below.two HB.out b3
      have hcov : Hid (badL m = 0 → covE m = cov m) := Lib.hid fun h => if_pos h
      have hlm := Lib.hid (cov_len m)
      go_wp2_with fail
      refine (sameNets_any w3 _ v3 c (covE m) (by omega) (A2.out.below b03) A3.out).mono ?_
      rintro e w4 ⟨rfl, b4⟩
      have b04 := Below.two b02 (Below.two b03 b4)
      obtain ⟨pm, cm, rfl, _⟩ := HA'.out
      by_cases hq : badL m = 0
      · rw [hq, show errV 0 = Value.nilIface from rfl]
        cases hd : decide (c = covE m)
        · go_wp2_with fail
          go_ret
          exact ⟨rfl, b04⟩
        · have ec : c.length ≤ m.length := by rw [of_decide_eq_true hd, hcov.out hq]; exact hlm.out
          go_wp2_with fail
          go_ret
          exact ⟨rfl, b04⟩
      · have hE : errV (badL m) = .iface 47 (.int .i64 (badL m)) := if_neg hq
        rw [hE]
        clear hE
        generalize badL m = q
        go_wp2_with fail
        go_ret
        exact ⟨rfl, b04⟩

/-- The statement's function at every two lists. -/
theorem coverFew_walk (w : World) (v v' : Value) (l m : List Nt) (h : Arg w v l) (h' : Arg w v' m) (hn : l.length < 4611686018427387904) (hm : m.length < 4611686018427387904) (hok : ∀ x ∈ l, x.1 < 4294967296) (hok' : ∀ x ∈ m, x.1 < 4294967296) :
    Calls Try.prog 4 #[v, v'] w fun e w' => e = .returned (.bool true) ∧ Below w.heap.size w w' := by
  by_cases hb : badL l = 0
  · exact coverFew_ok w v v' l m h h' hm hok hok' hb
  · exact coverFew_bad w v v' l h hn hok hb
end Go.Proofs.Ythoegphihpngoaa
