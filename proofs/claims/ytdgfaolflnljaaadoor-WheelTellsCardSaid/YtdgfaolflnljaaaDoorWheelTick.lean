/-
  wheel's Tick: what is due is told in its order, and is due no more; the current time is anew.
-/
import Derived.Test.YtdgfaolflnljaaaDoorWheelSweep
import Derived.Test.YtdgfaolflnljaaaDoorIntList
import Derived.Test.YtdgfaolflnljaaaDoorGrid
import Derived.Deep.RegionHeld3
import Derived.OwnWalk
import Derived.Maps.RangeWalk
namespace Go.Proofs.YtdgfaolflnljaaaDoor
open Go.RowKit Go.Lib WheelP Go.Maps

section
variable {w wr w1 : World} {p now : Nat} {m : Nat → Option Nat} {f : Nat → Nat}
theorem wrap_id (a : Int) (h0 : 0 ≤ a) (h1 : a ≤ 2199023255552) : IntKind.i64.wrap a = a := by
  simp [IntKind.wrap, IntKind.bits, IntKind.signed]
  omega
theorem slot_lt (n s : Nat) : (n + 1 + s) % 64 < 64 := Nat.mod_lt _ (by omega)
/-- Behind a slot with a map. -/
theorem tick_some {x s j b : Nat} (h : Whl wr p m now (pt f now x s)) (hj : j < 64) (hm : m j = some b) (hk : Keep (fun y => y = b) wr.drew w1) (hM : MapAt w1 b (rest (sl (pt f now x s) ((now + 1 + s) % 64)) x)) (hjs : j = (now + 1 + s) % 64) (hs : s < 64 ∧ ∀ k, k < 64 → f k = 0 ∨ now < f k) :
    Whl w1 p m now (pt f now x (s + 1)) := by
  subst hjs
  exact (h.drew.sweep hj hm hk hM).congr fun k hk => pt_step hs.1 k (hs.2 k hk)
/-- Behind one without. -/
theorem tick_none {x s j : Nat} (h : Whl wr p m now (pt f now x s)) (hj : j < 64) (hm : m j = none) (hb : Below wr.drew.heap.size wr.drew w1) (hjs : j = (now + 1 + s) % 64) (hs : s < 64 ∧ ∀ k, k < 64 → f k = 0 ∨ now < f k) : Whl w1 p m now (pt f now x (s + 1)) := by
  subst hjs
  exact ((h.drew.below hb).pass hj hm).congr fun k hk => pt_step hs.1 k (hs.2 k hk)
theorem tk_none {x s j : Nat} (h : Whl wr p m now (pt f now x s)) (hj : j < 64) (hm : m j = none) (hjs : j = (now + 1 + s) % 64) : Tk (sl (pt f now x s) ((now + 1 + s) % 64)) x (fun _ => false) [] := by
  subst hjs
  exact Tk.none (h.no _ hj hm)
theorem own_apart {v : Value} {L : List Du} {j b : Nat} {g : Nat → Nat} (h : OwnD wr w.heap.size v L) (_ : Whl wr p m now g) (hj : j < 64) (hm : m j = some b) (hp : ∀ c, InW p m c → c < w.heap.size) : ∀ q, v.ownBlock = some q → ¬ q = b := by
  intro q hq e
  have h1 := h.past q hq
  have h2 := hp b (Or.inr ⟨j, hj, hm⟩)
  omega
theorem sl_le {g : Nat → Nat} {j : Nat} (h : Whl wr p m now g) (k : Nat) (hk : k < 64) : sl g j k ≤ 1099511627776 := by
  have := h.late k hk
  unfold sl
  split <;> omega
theorem tick_app {w2 : World} {n : Nat} {g : Nat → Nat} (h : Whl w1 p m now g) (hb : Below n w1 w2) (hp : ∀ c, InW p m c → c < n) : Whl w2 p m now g :=
  h.keep (Keep.lower hb) fun c hc e => by have := hp c hc; omega
end

/-- The ids of a list. -/
theorem zsD_take (M : List Du) (t : Nat) (h : t < M.length) : zsD (M.take (t + 1)) = zsD (M.take t) ++ [(M[t]!.1 : Int)] := by
  unfold zsD
  rw [List.take_add_one, List.map_append, List.getElem?_eq_getElem h, getElem!_pos M t h]
  rfl
set_option maxHeartbeats 1000000 in
set_option maxRecDepth 100000 in
theorem wTick_bad (w : World) (p : Nat) (m : Nat → Option Nat) (now : Nat) (f : Nat → Nat) (h : Whl w p m now f) (x : Int) (hx : x < now ∨ 1099511627776 < x) :
    Calls Tryd.prog 11 #[.pointer (some ⟨p, 0, none⟩), .int .i64 x] w fun e w' => e = .returned (.tuple #[.slice none 0 0, .iface 27 (.int .i64 1)]) ∧ w = w' := by
  have c0 := h.c0
  clear h
  by_cases t : x < now
  · clear hx
    go_enter Tryd.func11, Tryd.ntmps11
    go_wp2_with fail
    go_ret2
    exact ⟨rfl, rfl⟩
  · have t2 : x > 1099511627776 := by omega
    clear hx
    go_enter Tryd.func11, Tryd.ntmps11
    go_wp2_with fail
    go_ret2
    exact ⟨rfl, rfl⟩

set_option maxHeartbeats 4000000 in
set_option maxRecDepth 100000 in
theorem wTick_ok (w : World) (p : Nat) (m : Nat → Option Nat) (now : Nat) (f : Nat → Nat) (h : Whl w p m now f) (x : Nat) (hx : now ≤ x) (hx2 : x ≤ 1099511627776) :
    Calls Tryd.prog 11 #[.pointer (some ⟨p, 0, none⟩), .int .i64 x] w fun e w' => ∃ v L, e = .returned (.tuple #[v, .nilIface]) ∧ Due f x L ∧ OwnI w' w.heap.size v (zsD L) ∧ Whl w' p m x (rest f x) ∧ Keep (InW p m) w w' := by
  have c0 := h.c0
  have t : ¬ (x : Int) < (now : Int) := by omega
  have t2 : ¬ (x : Int) > 1099511627776 := by omega
  obtain ⟨B, hB⟩ : ∃ B, B = min (x - now) 64 := ⟨_, rfl⟩
  have hmin : min ((x : Int) - (now : Int)) 64 = (B : Int) := by omega
  have hb64 : B ≤ 64 := by omega
  have hnow : now ≤ 1099511627776 := h.nle
  have HP := Lib.hid (fun c (hc : InW p m c) => h.in hc)
  have HLate := Lib.hid (fun k (hk : k < 64) => show f k = 0 ∨ now < f k from by have := h.late k hk; omega)
  have HBE := Lib.hid hB
  have HX := Lib.hid (And.intro hx hx2)
  have H0 := Lib.hid (h.congr fun k _ => pt_zero f now x k)
  clear h hB hx
  go_enter Tryd.func11, Tryd.ntmps11
  go_wp2_with fail
  clear hmin c0
  go_loopw [6, 29] (fun v6 v29 wr => ∃ s : Nat, v29 = .int .i64 s ∧ s ≤ B ∧ ∃ L : List Du, Hid (Whl wr p m now (pt f now x s)) ∧ Hid (Got f now x s L) ∧ Hid (OwnD wr w.heap.size v6 L) ∧ Hid (Keep (InW p m) w wr)) (fun _ v29 _ => B + 1 - (intOf v29).toNat)
  case atStart => exact ⟨0, rfl, Nat.zero_le _, [], H0, Lib.hid (Got.start _ _ _), Lib.hid (OwnD.nil _ _), Lib.hid (Keep.refl _ _)⟩
  case round =>
    clear H0
    obtain ⟨s, rfl, hs, L, HW, HGot, HOwn, HKp⟩ := hrel
    by_cases hlt : s < B
    · have ts : (s : Int) < (B : Int) := by omega
      have HS := Lib.hid (And.intro (show s < 64 by omega) HLate.out)
      have c0 := HW.out.c0
      have hjm := slot_lt now s
      have HT0 := Lib.hid (fun b (hb : m ((now + 1 + s) % 64) = some b) => take_any wr.drew b (sl (pt f now x s) ((now + 1 + s) % 64)) x (HW.out.drew.mp _ b hjm hb).2 (fun k hk => sl_le HW.out k hk))
      have HSz := Lib.hid (show w.heap.size ≤ wr.drew.heap.size from HKp.out.size)
      obtain ⟨j, hj⟩ : ∃ j, j = (now + 1 + s) % 64 := ⟨_, rfl⟩
      have HB := Lib.hid hj
      have tm : Int.tmod (IntKind.i64.wrap (IntKind.i64.wrap ((now : Int) + 1) + (s : Int))) 64 = (j : Int) := by
        rw [wrap_id ((now : Int) + 1) (by omega) (by omega), wrap_id ((now : Int) + 1 + (s : Int)) (by omega) (by omega), Int.tmod_eq_emod_of_nonneg (by omega)]; omega
      have hj2 : (0 : Int) ≤ (j : Int) ∧ (j : Int) < 64 := by omega
      have hj64 : (j : Int) < 64 := by omega
      have hjn : j < 64 := by omega
      have HJ := Lib.hid hjn
      have cj := HW.out.cm j hjn
      rw [← hj] at HT0
      clear hj hjm
      cases hm : m j with
      | none =>
        rw [hm] at cj
        have HM := Lib.hid hm
        have HT := Lib.hid (take_none wr.drew x)
        clear HT0 hm
        go_wp2_with fail
        refine wp_region_held_drew (S := (fun V => V.cell? ⟨p, 0, none⟩ = some (.int .i64 (now : Int)) ∧ V.cell? ⟨p, 1 + j, none⟩ = some (.map none))) (by kernel_rfl) ⟨c0, cj⟩ (fun hHeld => ?_)
        refine wpAnyH_take (i := 0) (oi := { dst := some 32, op := Op.move (Operand.tmp 6), type := 48, pos := "wheel.go:107", after := #[], guard := none }) (v := ?_) rfl (by kernel_rfl) (by kernel_rfl) (by kernel_rfl) (fun _ _ _ h => h) (Or.inl ⟨by rfl, ?_⟩) hHeld ?_
        rotate_left
        · (intro w hSw; (try dsimp only at hSw); go_simp; first | done | with_reducible rfl)
        simp only [Act.put, List.setIfInBounds_toArray, List.set_cons_zero, List.set_cons_succ]
        refine wpAnyH_take (i := 1) (oi := { dst := some 33, op := Op.move (Operand.tmp 0), type := 24, pos := "wheel.go:107", after := #[], guard := none }) (v := ?_) rfl (by kernel_rfl) (by kernel_rfl) (by kernel_rfl) (fun _ _ _ h => h) (Or.inl ⟨by rfl, ?_⟩) hHeld ?_
        rotate_left
        · (intro w hSw; (try dsimp only at hSw); go_simp; first | done | with_reducible rfl)
        simp only [Act.put, List.setIfInBounds_toArray, List.set_cons_zero, List.set_cons_succ]
        refine wpAnyH_take (i := 2) (oi := { dst := some 34, op := Op.move (Operand.tmp 0), type := 24, pos := "wheel.go:107", after := #[], guard := none }) (v := ?_) rfl (by kernel_rfl) (by kernel_rfl) (by kernel_rfl) (fun _ _ _ h => h) (Or.inl ⟨by rfl, ?_⟩) hHeld ?_
        rotate_left
        · (intro w hSw; (try dsimp only at hSw); go_simp; first | done | with_reducible rfl)
        simp only [Act.put, List.setIfInBounds_toArray, List.set_cons_zero, List.set_cons_succ]
        refine wpAnyH_take (i := 3) (oi := { dst := some 35, op := Op.nilCheck (Operand.tmp 34), type := 0, pos := "wheel.go:107", after := #[{ on := 2, ground := Ground.data }], guard := none }) (v := ?_) rfl (by kernel_rfl) (by kernel_rfl) (by kernel_rfl) (fun _ _ _ h => h) (Or.inl ⟨by rfl, ?_⟩) hHeld ?_
        rotate_left
        · (intro w hSw; (try dsimp only at hSw); go_simp; first | done | with_reducible rfl)
        simp only [Act.put, List.setIfInBounds_toArray, List.set_cons_zero, List.set_cons_succ]
        refine wpAnyH_take (i := 4) (oi := { dst := some 36, op := Op.fieldAddr 44 (Operand.tmp 35) 0, type := 0, pos := "wheel.go:107", after := #[{ on := 3, ground := Ground.data }], guard := none }) (v := ?_) rfl (by kernel_rfl) (by kernel_rfl) (by kernel_rfl) (fun _ _ _ h => h) (Or.inl ⟨by rfl, ?_⟩) hHeld ?_
        rotate_left
        · (intro w hSw; (try dsimp only at hSw); go_simp; first | done | with_reducible rfl)
        simp only [Act.put, List.setIfInBounds_toArray, List.set_cons_zero, List.set_cons_succ]
        refine wpAnyH_take (i := 5) (oi := { dst := some 37, op := Op.load 3 (Operand.tmp 36), type := 3, pos := "wheel.go:107", after := #[{ on := 4, ground := Ground.data }], guard := none }) (v := ?_) rfl (by kernel_rfl) (by kernel_rfl) (by kernel_rfl) (fun _ _ _ h => h) (Or.inl ⟨by rfl, ?_⟩) hHeld ?_
        rotate_left
        · (intro w hSw; (try dsimp only at hSw); go_simp; first | done | with_reducible rfl)
        simp only [Act.put, List.setIfInBounds_toArray, List.set_cons_zero, List.set_cons_succ]
        refine wpAnyH_take (i := 6) (oi := { dst := some 38, op := Op.binOp BinOp.add 3 (Operand.tmp 37) (Operand.const (Value.int IntKind.i64 1)) 3, type := 3, pos := "wheel.go:107", after := #[{ on := 5, ground := Ground.data }], guard := none }) (v := ?_) rfl (by kernel_rfl) (by kernel_rfl) (by kernel_rfl) (fun _ _ _ h => h) (Or.inl ⟨by rfl, ?_⟩) hHeld ?_
        rotate_left
        · (intro w hSw; (try dsimp only at hSw); go_simp; first | done | with_reducible rfl)
        simp only [Act.put, List.setIfInBounds_toArray, List.set_cons_zero, List.set_cons_succ]
        refine wpAnyH_take (i := 7) (oi := { dst := some 39, op := Op.move (Operand.tmp 7), type := 3, pos := "wheel.go:107", after := #[], guard := none }) (v := ?_) rfl (by kernel_rfl) (by kernel_rfl) (by kernel_rfl) (fun _ _ _ h => h) (Or.inl ⟨by rfl, ?_⟩) hHeld ?_
        rotate_left
        · (intro w hSw; (try dsimp only at hSw); go_simp; first | done | with_reducible rfl)
        simp only [Act.put, List.setIfInBounds_toArray, List.set_cons_zero, List.set_cons_succ]
        refine wpAnyH_take (i := 8) (oi := { dst := some 40, op := Op.binOp BinOp.add 3 (Operand.tmp 38) (Operand.tmp 39) 3, type := 3, pos := "wheel.go:107", after := #[{ on := 6, ground := Ground.data }, { on := 7, ground := Ground.data }], guard := none }) (v := ?_) rfl (by kernel_rfl) (by kernel_rfl) (by kernel_rfl) (fun _ _ _ h => h) (Or.inl ⟨by rfl, ?_⟩) hHeld ?_
        rotate_left
        · (intro w hSw; (try dsimp only at hSw); go_simp; first | done | with_reducible rfl)
        simp only [Act.put, List.setIfInBounds_toArray, List.set_cons_zero, List.set_cons_succ]
        refine wpAnyH_take (i := 9) (oi := { dst := some 41, op := Op.binOp BinOp.rem 3 (Operand.tmp 40) (Operand.const (Value.int IntKind.i64 64)) 3, type := 3, pos := "wheel.go:107", after := #[{ on := 8, ground := Ground.data }], guard := none }) (v := ?_) rfl (by kernel_rfl) (by kernel_rfl) (by kernel_rfl) (fun _ _ _ h => h) (Or.inl ⟨by rfl, ?_⟩) hHeld ?_
        rotate_left
        · (intro w hSw; (try dsimp only at hSw); go_simp; (try rw [tm]); first | done | with_reducible rfl)
        simp only [Act.put, List.setIfInBounds_toArray, List.set_cons_zero, List.set_cons_succ]
        refine wpAnyH_take (i := 10) (oi := { dst := some 42, op := Op.nilCheck (Operand.tmp 33), type := 0, pos := "wheel.go:107", after := #[{ on := 1, ground := Ground.data }], guard := none }) (v := ?_) rfl (by kernel_rfl) (by kernel_rfl) (by kernel_rfl) (fun _ _ _ h => h) (Or.inl ⟨by rfl, ?_⟩) hHeld ?_
        rotate_left
        · (intro w hSw; (try dsimp only at hSw); go_simp; first | done | with_reducible rfl)
        simp only [Act.put, List.setIfInBounds_toArray, List.set_cons_zero, List.set_cons_succ]
        refine wpAnyH_take (i := 11) (oi := { dst := some 43, op := Op.fieldAddr 44 (Operand.tmp 42) 1, type := 0, pos := "wheel.go:107", after := #[{ on := 10, ground := Ground.data }], guard := none }) (v := ?_) rfl (by kernel_rfl) (by kernel_rfl) (by kernel_rfl) (fun _ _ _ h => h) (Or.inl ⟨by rfl, ?_⟩) hHeld ?_
        rotate_left
        · (intro w hSw; (try dsimp only at hSw); go_simp; first | done | with_reducible rfl)
        simp only [Act.put, List.setIfInBounds_toArray, List.set_cons_zero, List.set_cons_succ]
        refine wpAnyH_take (i := 12) (oi := { dst := some 44, op := Op.indexAddr 42 (Operand.tmp 43) (Operand.tmp 41), type := 0, pos := "wheel.go:107", after := #[{ on := 11, ground := Ground.data }, { on := 9, ground := Ground.data }], guard := none }) (v := ?_) rfl (by kernel_rfl) (by kernel_rfl) (by kernel_rfl) (fun _ _ _ h => h) (Or.inl ⟨by rfl, ?_⟩) hHeld ?_
        rotate_left
        · (intro w hSw; (try dsimp only at hSw); go_simp; (try rw [if_pos hj2]); (try rw [Int.toNat_natCast]); first | done | with_reducible rfl)
        simp only [Act.put, List.setIfInBounds_toArray, List.set_cons_zero, List.set_cons_succ]
        refine wpAnyH_take (i := 13) (oi := { dst := some 45, op := Op.load 41 (Operand.tmp 44), type := 41, pos := "wheel.go:107", after := #[{ on := 12, ground := Ground.data }], guard := none }) (v := ?_) rfl (by kernel_rfl) (by kernel_rfl) (by kernel_rfl) (fun _ _ _ h => h) (Or.inl ⟨by rfl, ?_⟩) hHeld ?_
        rotate_left
        · (intro w hSw; (try dsimp only at hSw); go_simp; first | done | with_reducible rfl)
        simp only [Act.put, List.setIfInBounds_toArray, List.set_cons_zero, List.set_cons_succ]
        refine wpAnyH_take (i := 14) (oi := { dst := some 46, op := Op.move (Operand.tmp 1), type := 3, pos := "wheel.go:107", after := #[], guard := none }) (v := ?_) rfl (by kernel_rfl) (by kernel_rfl) (by kernel_rfl) (fun _ _ _ h => h) (Or.inl ⟨by rfl, ?_⟩) hHeld ?_
        rotate_left
        · (intro w hSw; (try dsimp only at hSw); go_simp; first | done | with_reducible rfl)
        simp only [Act.put, List.setIfInBounds_toArray, List.set_cons_zero, List.set_cons_succ]
        refine wpAnyH_ready (rs := [15]) (by kernel_rfl) (by simp) ?_
        refine (AllReadyH.cons (o := { dst := some 47, op := Op.call { callee := Callee.value (Operand.func 19), args := #[Operand.tmp 45, Operand.tmp 46], argTypes := #[41, 3] }, type := 48, pos := "wheel.go:107", after := #[{ on := 13, ground := Ground.data }, { on := 14, ground := Ground.data }], guard := none }) rfl (fun K hK => ?_) AllReadyH.nil)
        go_simp
        go_at_call 19
        refine HT.out.mono ?_
        rintro e w1 ⟨rfl, hb1⟩
        have H1 := Lib.hid (tick_none HW.out HJ.out HM.out hb1 HB.out HS.out)
        have HG := Lib.hid (HGot.out.more (L1 := []) HS.out.1 HLate.out (tk_none HW.out HJ.out HM.out HB.out))
        have HO := Lib.hid (And.intro (HOwn.out.keep (((Below.refl _ wr).drew).trans hb1)) (OwnD.nil w1 w.heap.size))
        have HK1 := Lib.hid (Keep.trans HKp.out (Keep.of (((Below.refl _ wr).drew).trans hb1)))
        have KK15 := And.intro H1.out.c0 (by have := H1.out.cm j HJ.out; rwa [HM.out] at this)
        clear hHeld hb1 HT
        go_wp2_with fail
        refine hK.out _ _ KK15 (fun hHeld => ?_)
        clear hK K
        refine wpAnyH_ready (rs := [16]) (by kernel_rfl) (by simp) ?_
        refine (AllReadyH.cons (o := { dst := some 48, op := Op.call { callee := Callee.builtin Builtin.append, args := #[Operand.tmp 32, Operand.tmp 47], argTypes := #[48, 48] }, type := 48, pos := "wheel.go:107", after := #[{ on := 0, ground := Ground.data }, { on := 15, ground := Ground.data }, { on := 15, ground := Ground.chain }], guard := none }) rfl (fun K hK => ?_) AllReadyH.nil)
        rw [if_pos (by rfl)]
        refine wp_append_twoD _ _ rfl w.heap.size _ _ _ _ rfl rfl HO.out.1 HO.out.2 (by have := HG.out.len; rw [List.length_append] at this; omega) HK1.out.size ?_
        intro v' w2 hO2 hb2
        have H2 := Lib.hid (tick_app H1.out hb2 HP.out)
        have HK2 := Lib.hid (HK1.out.then (Keep.lower hb2) fun y hy => Or.inr hy)
        have HO2 := Lib.hid hO2
        have KK16 := And.intro H2.out.c0 (by have := H2.out.cm j HJ.out; rwa [HM.out] at this)
        clear hHeld hO2 hb2 HO HK1 H1
        simp only [Act.put, List.setIfInBounds_toArray, List.set_cons_zero, List.set_cons_succ]
        refine hK.out _ _ KK16 (fun hHeld => ?_)
        clear hK K
        refine wpAnyH_take (i := 17) (oi := { dst := some 6, op := Op.assign (Operand.tmp 48), type := 48, pos := "wheel.go:107", after := #[{ on := 16, ground := Ground.data }, { on := 16, ground := Ground.chain }, { on := 0, ground := Ground.phase }, { on := 1, ground := Ground.phase }, { on := 2, ground := Ground.phase }, { on := 3, ground := Ground.phase }, { on := 4, ground := Ground.phase }, { on := 5, ground := Ground.phase }, { on := 6, ground := Ground.phase }, { on := 7, ground := Ground.phase }, { on := 8, ground := Ground.phase }, { on := 9, ground := Ground.phase }, { on := 10, ground := Ground.phase }, { on := 11, ground := Ground.phase }, { on := 12, ground := Ground.phase }, { on := 13, ground := Ground.phase }, { on := 14, ground := Ground.phase }, { on := 15, ground := Ground.phase }, { on := 16, ground := Ground.phase }], guard := none }) (v := ?_) rfl (by kernel_rfl) (by kernel_rfl) (by kernel_rfl) (fun _ _ _ h => h) (Or.inl ⟨by rfl, ?_⟩) hHeld ?_
        rotate_left
        · (intro w hSw; (try dsimp only at hSw); go_simp; first | done | with_reducible rfl)
        simp only [Act.put, List.setIfInBounds_toArray, List.set_cons_zero, List.set_cons_succ]
        refine wpAnyH_done (by kernel_rfl) ?_ _
        clear hHeld
        go_wp2_with fail
        go_roundw
        case rel => exact ⟨s + 1, by go_num, by omega, _, H2, HG, HO2, HK2⟩
        case measure => simp [intOf]; omega
      | some b =>
        rw [hm] at cj
        have HM := Lib.hid hm
        have HT := Lib.hid (HT0.out b hm)
        clear HT0 hm
        go_wp2_with fail
        refine wp_region_held_drew (S := (fun V => V.cell? ⟨p, 0, none⟩ = some (.int .i64 (now : Int)) ∧ V.cell? ⟨p, 1 + j, none⟩ = some (.map (some b)))) (by kernel_rfl) ⟨c0, cj⟩ (fun hHeld => ?_)
        refine wpAnyH_take (i := 0) (oi := { dst := some 32, op := Op.move (Operand.tmp 6), type := 48, pos := "wheel.go:107", after := #[], guard := none }) (v := ?_) rfl (by kernel_rfl) (by kernel_rfl) (by kernel_rfl) (fun _ _ _ h => h) (Or.inl ⟨by rfl, ?_⟩) hHeld ?_
        rotate_left
        · (intro w hSw; (try dsimp only at hSw); go_simp; first | done | with_reducible rfl)
        simp only [Act.put, List.setIfInBounds_toArray, List.set_cons_zero, List.set_cons_succ]
        refine wpAnyH_take (i := 1) (oi := { dst := some 33, op := Op.move (Operand.tmp 0), type := 24, pos := "wheel.go:107", after := #[], guard := none }) (v := ?_) rfl (by kernel_rfl) (by kernel_rfl) (by kernel_rfl) (fun _ _ _ h => h) (Or.inl ⟨by rfl, ?_⟩) hHeld ?_
        rotate_left
        · (intro w hSw; (try dsimp only at hSw); go_simp; first | done | with_reducible rfl)
        simp only [Act.put, List.setIfInBounds_toArray, List.set_cons_zero, List.set_cons_succ]
        refine wpAnyH_take (i := 2) (oi := { dst := some 34, op := Op.move (Operand.tmp 0), type := 24, pos := "wheel.go:107", after := #[], guard := none }) (v := ?_) rfl (by kernel_rfl) (by kernel_rfl) (by kernel_rfl) (fun _ _ _ h => h) (Or.inl ⟨by rfl, ?_⟩) hHeld ?_
        rotate_left
        · (intro w hSw; (try dsimp only at hSw); go_simp; first | done | with_reducible rfl)
        simp only [Act.put, List.setIfInBounds_toArray, List.set_cons_zero, List.set_cons_succ]
        refine wpAnyH_take (i := 3) (oi := { dst := some 35, op := Op.nilCheck (Operand.tmp 34), type := 0, pos := "wheel.go:107", after := #[{ on := 2, ground := Ground.data }], guard := none }) (v := ?_) rfl (by kernel_rfl) (by kernel_rfl) (by kernel_rfl) (fun _ _ _ h => h) (Or.inl ⟨by rfl, ?_⟩) hHeld ?_
        rotate_left
        · (intro w hSw; (try dsimp only at hSw); go_simp; first | done | with_reducible rfl)
        simp only [Act.put, List.setIfInBounds_toArray, List.set_cons_zero, List.set_cons_succ]
        refine wpAnyH_take (i := 4) (oi := { dst := some 36, op := Op.fieldAddr 44 (Operand.tmp 35) 0, type := 0, pos := "wheel.go:107", after := #[{ on := 3, ground := Ground.data }], guard := none }) (v := ?_) rfl (by kernel_rfl) (by kernel_rfl) (by kernel_rfl) (fun _ _ _ h => h) (Or.inl ⟨by rfl, ?_⟩) hHeld ?_
        rotate_left
        · (intro w hSw; (try dsimp only at hSw); go_simp; first | done | with_reducible rfl)
        simp only [Act.put, List.setIfInBounds_toArray, List.set_cons_zero, List.set_cons_succ]
        refine wpAnyH_take (i := 5) (oi := { dst := some 37, op := Op.load 3 (Operand.tmp 36), type := 3, pos := "wheel.go:107", after := #[{ on := 4, ground := Ground.data }], guard := none }) (v := ?_) rfl (by kernel_rfl) (by kernel_rfl) (by kernel_rfl) (fun _ _ _ h => h) (Or.inl ⟨by rfl, ?_⟩) hHeld ?_
        rotate_left
        · (intro w hSw; (try dsimp only at hSw); go_simp; first | done | with_reducible rfl)
        simp only [Act.put, List.setIfInBounds_toArray, List.set_cons_zero, List.set_cons_succ]
        refine wpAnyH_take (i := 6) (oi := { dst := some 38, op := Op.binOp BinOp.add 3 (Operand.tmp 37) (Operand.const (Value.int IntKind.i64 1)) 3, type := 3, pos := "wheel.go:107", after := #[{ on := 5, ground := Ground.data }], guard := none }) (v := ?_) rfl (by kernel_rfl) (by kernel_rfl) (by kernel_rfl) (fun _ _ _ h => h) (Or.inl ⟨by rfl, ?_⟩) hHeld ?_
        rotate_left
        · (intro w hSw; (try dsimp only at hSw); go_simp; first | done | with_reducible rfl)
        simp only [Act.put, List.setIfInBounds_toArray, List.set_cons_zero, List.set_cons_succ]
        refine wpAnyH_take (i := 7) (oi := { dst := some 39, op := Op.move (Operand.tmp 7), type := 3, pos := "wheel.go:107", after := #[], guard := none }) (v := ?_) rfl (by kernel_rfl) (by kernel_rfl) (by kernel_rfl) (fun _ _ _ h => h) (Or.inl ⟨by rfl, ?_⟩) hHeld ?_
        rotate_left
        · (intro w hSw; (try dsimp only at hSw); go_simp; first | done | with_reducible rfl)
        simp only [Act.put, List.setIfInBounds_toArray, List.set_cons_zero, List.set_cons_succ]
        refine wpAnyH_take (i := 8) (oi := { dst := some 40, op := Op.binOp BinOp.add 3 (Operand.tmp 38) (Operand.tmp 39) 3, type := 3, pos := "wheel.go:107", after := #[{ on := 6, ground := Ground.data }, { on := 7, ground := Ground.data }], guard := none }) (v := ?_) rfl (by kernel_rfl) (by kernel_rfl) (by kernel_rfl) (fun _ _ _ h => h) (Or.inl ⟨by rfl, ?_⟩) hHeld ?_
        rotate_left
        · (intro w hSw; (try dsimp only at hSw); go_simp; first | done | with_reducible rfl)
        simp only [Act.put, List.setIfInBounds_toArray, List.set_cons_zero, List.set_cons_succ]
        refine wpAnyH_take (i := 9) (oi := { dst := some 41, op := Op.binOp BinOp.rem 3 (Operand.tmp 40) (Operand.const (Value.int IntKind.i64 64)) 3, type := 3, pos := "wheel.go:107", after := #[{ on := 8, ground := Ground.data }], guard := none }) (v := ?_) rfl (by kernel_rfl) (by kernel_rfl) (by kernel_rfl) (fun _ _ _ h => h) (Or.inl ⟨by rfl, ?_⟩) hHeld ?_
        rotate_left
        · (intro w hSw; (try dsimp only at hSw); go_simp; (try rw [tm]); first | done | with_reducible rfl)
        simp only [Act.put, List.setIfInBounds_toArray, List.set_cons_zero, List.set_cons_succ]
        refine wpAnyH_take (i := 10) (oi := { dst := some 42, op := Op.nilCheck (Operand.tmp 33), type := 0, pos := "wheel.go:107", after := #[{ on := 1, ground := Ground.data }], guard := none }) (v := ?_) rfl (by kernel_rfl) (by kernel_rfl) (by kernel_rfl) (fun _ _ _ h => h) (Or.inl ⟨by rfl, ?_⟩) hHeld ?_
        rotate_left
        · (intro w hSw; (try dsimp only at hSw); go_simp; first | done | with_reducible rfl)
        simp only [Act.put, List.setIfInBounds_toArray, List.set_cons_zero, List.set_cons_succ]
        refine wpAnyH_take (i := 11) (oi := { dst := some 43, op := Op.fieldAddr 44 (Operand.tmp 42) 1, type := 0, pos := "wheel.go:107", after := #[{ on := 10, ground := Ground.data }], guard := none }) (v := ?_) rfl (by kernel_rfl) (by kernel_rfl) (by kernel_rfl) (fun _ _ _ h => h) (Or.inl ⟨by rfl, ?_⟩) hHeld ?_
        rotate_left
        · (intro w hSw; (try dsimp only at hSw); go_simp; first | done | with_reducible rfl)
        simp only [Act.put, List.setIfInBounds_toArray, List.set_cons_zero, List.set_cons_succ]
        refine wpAnyH_take (i := 12) (oi := { dst := some 44, op := Op.indexAddr 42 (Operand.tmp 43) (Operand.tmp 41), type := 0, pos := "wheel.go:107", after := #[{ on := 11, ground := Ground.data }, { on := 9, ground := Ground.data }], guard := none }) (v := ?_) rfl (by kernel_rfl) (by kernel_rfl) (by kernel_rfl) (fun _ _ _ h => h) (Or.inl ⟨by rfl, ?_⟩) hHeld ?_
        rotate_left
        · (intro w hSw; (try dsimp only at hSw); go_simp; (try rw [if_pos hj2]); (try rw [Int.toNat_natCast]); first | done | with_reducible rfl)
        simp only [Act.put, List.setIfInBounds_toArray, List.set_cons_zero, List.set_cons_succ]
        refine wpAnyH_take (i := 13) (oi := { dst := some 45, op := Op.load 41 (Operand.tmp 44), type := 41, pos := "wheel.go:107", after := #[{ on := 12, ground := Ground.data }], guard := none }) (v := ?_) rfl (by kernel_rfl) (by kernel_rfl) (by kernel_rfl) (fun _ _ _ h => h) (Or.inl ⟨by rfl, ?_⟩) hHeld ?_
        rotate_left
        · (intro w hSw; (try dsimp only at hSw); go_simp; first | done | with_reducible rfl)
        simp only [Act.put, List.setIfInBounds_toArray, List.set_cons_zero, List.set_cons_succ]
        refine wpAnyH_take (i := 14) (oi := { dst := some 46, op := Op.move (Operand.tmp 1), type := 3, pos := "wheel.go:107", after := #[], guard := none }) (v := ?_) rfl (by kernel_rfl) (by kernel_rfl) (by kernel_rfl) (fun _ _ _ h => h) (Or.inl ⟨by rfl, ?_⟩) hHeld ?_
        rotate_left
        · (intro w hSw; (try dsimp only at hSw); go_simp; first | done | with_reducible rfl)
        simp only [Act.put, List.setIfInBounds_toArray, List.set_cons_zero, List.set_cons_succ]
        refine wpAnyH_ready (rs := [15]) (by kernel_rfl) (by simp) ?_
        refine (AllReadyH.cons (o := { dst := some 47, op := Op.call { callee := Callee.value (Operand.func 19), args := #[Operand.tmp 45, Operand.tmp 46], argTypes := #[41, 3] }, type := 48, pos := "wheel.go:107", after := #[{ on := 13, ground := Ground.data }, { on := 14, ground := Ground.data }], guard := none }) rfl (fun K hK => ?_) AllReadyH.nil)
        go_simp
        go_at_call 19
        refine HT.out.mono ?_
        rintro e w1 ⟨v1, L1, rfl, hO1, hT1, hM1, hk1⟩
        rw [HB.out] at hM1 hT1
        have H1 := Lib.hid (tick_some HW.out HJ.out HM.out hk1 hM1 HB.out HS.out)
        have HG := Lib.hid (HGot.out.more HS.out.1 HLate.out hT1)
        have HO := Lib.hid (And.intro (HOwn.out.stay (Keep.trans (Keep.of ((Below.refl _ wr).drew)) hk1) (own_apart HOwn.out HW.out HJ.out HM.out HP.out)) (hO1.down HSz.out))
        have HK1 := Lib.hid (Keep.trans HKp.out (Keep.trans (Keep.of ((Below.refl _ wr).drew)) (hk1.mono fun y hy => Or.inr ⟨j, HJ.out, by rw [HM.out, hy]⟩)))
        have KK15 := And.intro H1.out.c0 (by have := H1.out.cm j HJ.out; rwa [HM.out] at this)
        clear hHeld hO1 hT1 hM1 hk1 HT
        go_wp2_with fail
        refine hK.out _ _ KK15 (fun hHeld => ?_)
        clear hK K
        refine wpAnyH_ready (rs := [16]) (by kernel_rfl) (by simp) ?_
        refine (AllReadyH.cons (o := { dst := some 48, op := Op.call { callee := Callee.builtin Builtin.append, args := #[Operand.tmp 32, Operand.tmp 47], argTypes := #[48, 48] }, type := 48, pos := "wheel.go:107", after := #[{ on := 0, ground := Ground.data }, { on := 15, ground := Ground.data }, { on := 15, ground := Ground.chain }], guard := none }) rfl (fun K hK => ?_) AllReadyH.nil)
        rw [if_pos (by rfl)]
        refine wp_append_twoD _ _ rfl w.heap.size _ _ _ _ rfl rfl HO.out.1 HO.out.2 (by have := HG.out.len; rw [List.length_append] at this; omega) HK1.out.size ?_
        intro v' w2 hO2 hb2
        have H2 := Lib.hid (tick_app H1.out hb2 HP.out)
        have HK2 := Lib.hid (HK1.out.then (Keep.lower hb2) fun y hy => Or.inr hy)
        have HO2 := Lib.hid hO2
        have KK16 := And.intro H2.out.c0 (by have := H2.out.cm j HJ.out; rwa [HM.out] at this)
        clear hHeld hO2 hb2 HO HK1 H1
        simp only [Act.put, List.setIfInBounds_toArray, List.set_cons_zero, List.set_cons_succ]
        refine hK.out _ _ KK16 (fun hHeld => ?_)
        clear hK K
        refine wpAnyH_take (i := 17) (oi := { dst := some 6, op := Op.assign (Operand.tmp 48), type := 48, pos := "wheel.go:107", after := #[{ on := 16, ground := Ground.data }, { on := 16, ground := Ground.chain }, { on := 0, ground := Ground.phase }, { on := 1, ground := Ground.phase }, { on := 2, ground := Ground.phase }, { on := 3, ground := Ground.phase }, { on := 4, ground := Ground.phase }, { on := 5, ground := Ground.phase }, { on := 6, ground := Ground.phase }, { on := 7, ground := Ground.phase }, { on := 8, ground := Ground.phase }, { on := 9, ground := Ground.phase }, { on := 10, ground := Ground.phase }, { on := 11, ground := Ground.phase }, { on := 12, ground := Ground.phase }, { on := 13, ground := Ground.phase }, { on := 14, ground := Ground.phase }, { on := 15, ground := Ground.phase }, { on := 16, ground := Ground.phase }], guard := none }) (v := ?_) rfl (by kernel_rfl) (by kernel_rfl) (by kernel_rfl) (fun _ _ _ h => h) (Or.inl ⟨by rfl, ?_⟩) hHeld ?_
        rotate_left
        · (intro w hSw; (try dsimp only at hSw); go_simp; first | done | with_reducible rfl)
        simp only [Act.put, List.setIfInBounds_toArray, List.set_cons_zero, List.set_cons_succ]
        refine wpAnyH_done (by kernel_rfl) ?_ _
        clear hHeld
        go_wp2_with fail
        go_roundw
        case rel => exact ⟨s + 1, by go_num, by omega, _, H2, HG, HO2, HK2⟩
        case measure => simp [intOf]; omega
    · have ts : ¬ (s : Int) < (B : Int) := by omega
      obtain rfl : s = B := by omega
      have HSB := Lib.hid (show s = min (x - now) 64 from HBE.out)
      have HL := Lib.hid (show L.Nodup ∧ L.length ≤ 64 from ⟨HGot.out.nodup, HGot.out.len⟩)
      have HDue := Lib.hid (fun (M : List Du) (hp : M.Perm L) (ho : M.Pairwise ltD) => by
        have h1 := HGot.out
        rw [HSB.out] at h1
        exact Got.due HLate.out h1 hp ho)
      have hW1 : Whl wr p m now (rest f x) := by
        have h1 := HW.out
        rw [HSB.out] at h1
        exact h1.congr fun k hk => pt_end k (HLate.out k hk)
      have hW2 := hW1.tick HX.out.2 (fun k hk => by have := HLate.out k hk; unfold rest; split <;> omega)
      have c0 := hW1.c0
      have f0 := hW1.fz 0
      have hK2 := HKp.out.trans (Keep.setCell (InW p m) wr p 0 (.int .i64 (x : Int)) (Or.inl rfl))
      have hO2 := HOwn.out.stay (Keep.setCell (fun y => y = p) wr p 0 (.int .i64 (x : Int)) rfl) (fun q hq e => by
        have h1 := HOwn.out.past q hq
        have h2 := HP.out p (Or.inl rfl)
        omega)
      have HSort := Lib.hid (sort_any _ _ _ L hO2 HL.out.1 HL.out.2)
      have HW2 := Lib.hid hW2
      have HK2 := Lib.hid hK2
      obtain ⟨pv, cv, rfl, _⟩ := HOwn.out.arg
      clear hW1 hW2 hK2 hO2 HW HGot HOwn HKp hs hlt
      go_wp2_with fail
      refine HSort.out.mono ?_
      rintro e w4 ⟨rfl, M, hp, ho, hO4, hk4⟩
      have hlen := hp.length_eq
      have HD := Lib.hid (HDue.out M hp ho)
      have HW4 := Lib.hid (HW2.out.keep hk4 fun c hc e => by
        have h1 := World.ownsRow.lt hO4 c e
        have h2 := HP.out c hc
        omega)
      have HK4 := Lib.hid (HK2.out.then hk4 fun c hc => Or.inr (World.ownsRow.lt hO4 c hc).1)
      have hlM : M.length ≤ 64 := by rw [hlen]; exact HL.out.2
      rw [← hlen]
      have HO4 := Lib.hid hO4
      have HB4 := Lib.hid (Below.refl w4.heap.size w4)
      clear hp ho hO4 hk4 HSort HDue HSB HL hlen c0 f0 HW2 HK2 ts
      go_wp2_with fail
      go_loopw [8, 58] (fun v8 v58 wr => ∃ t : Nat, v58 = .int .i64 t ∧ t ≤ M.length ∧ Hid (OwnI wr w4.heap.size v8 (zsD (M.take t))) ∧ Hid (Below w4.heap.size w4 wr)) (fun _ v58 _ => M.length + 1 - (intOf v58).toNat)
      case atStart => exact ⟨0, rfl, Nat.zero_le _, Lib.hid (OwnI.nil _ _), HB4⟩
      case round =>
        clear HB4
        obtain ⟨t, rfl, ht, HI, HB⟩ := hrel
        by_cases hlt : t < M.length
        · have tt : (t : Int) < (M.length : Int) := by omega
          obtain ⟨pv', cv', hv, hseen⟩ := HO4.out.arg
          injection hv with hv1 _ hv3
          subst hv1 hv3
          rcases hseen with e | ⟨b, off, rfl, hbl, hS⟩
          · rw [e] at hlt; simp at hlt
          have s0 := (hS.below HB.out hbl).c0 t hlt
          have s1 := (hS.below HB.out hbl).c1 t hlt
          have HT := Lib.hid (zsD_take M t hlt)
          have HOI := Lib.hid (fun w' (hb : Below wr.heap.size wr w') => HI.out.keep hb)
          unfold Du.v0 at s0
          unfold Du.v1 at s1
          generalize M[t]! = y at s0 s1 HT
          clear hS HI
          go_wp2_with (at_builtin; refine wpl_append_oneI rfl _ _ rfl w4.heap.size _ _ (y.1 : Int) _ 1 rfl rfl (HOI.out _ (((Below.refl _ _).alloc (Nat.le_refl _) _).alloc (by simp) _)) (by simp) (by unfold zsD; simp; omega) (by have := HB.out.size; simp; omega) ?_; intro v' w5 hO5 hg5 _)
          go_roundw
          case rel => exact ⟨t + 1, by go_num, by omega, Lib.hid (by rw [HT.out]; exact hO5), Lib.hid ((((HB.out.alloc HB.out.size _).alloc (by have := HB.out.size; simp; omega) _)).grown hg5 (by have := HB.out.size; simp; omega) (HOI.out _ (Below.refl _ _)).past)⟩
          case measure => simp [intOf]; omega
        · have tt : ¬ (t : Int) < (M.length : Int) := by omega
          have e : M.take t = M := List.take_of_length_le (by omega)
          have HI2 := Lib.hid (show OwnI wr w4.heap.size _ (zsD M) by have := HI.out; rwa [e] at this)
          clear e HI
          go_wp2_with fail
          go_ret2
          exact ⟨_, rfl, M, HD.out, HI2.out.down HK4.out.size, HW4.out.below HB.out, HK4.out.trans (Keep.of HB.out)⟩
end Go.Proofs.YtdgfaolflnljaaaDoor
