/-
  trie.prune, which calls itself: nodes on the way to a network that lead to no network are cut off, from the last one upwards; no network that is there goes.
-/
import Derived.Test.YtbdmfcnlfmnmdaaDoorTrieTab
import Derived.ChangeKeysEq
import Derived.Deep.RegionHeld3
namespace Go.Proofs.YtbdmfcnlfmnmdaaDoor
open Go.RowKit

/-- Nodes were cut off, none whose network is there. -/
def Pruned (M M' : Tm) : Prop := ∀ a d, M' a d = M a d ∨ (M' a d = none ∧ ∃ y, M a d = some y ∧ y.u = false)
theorem Pruned.refl (M : Tm) : Pruned M M := fun _ _ => Or.inl rfl
theorem Pruned.upd {M M' : Tm} (h : Pruned M M') {a d : Nat} {y : Nd} (hy : M' a d = some y) (hu : y.u = false) : Pruned M (M'.upd a d none) := by
  intro a' d'
  by_cases e : a' = a ∧ d' = d
  · obtain ⟨rfl, rfl⟩ := e
    refine Or.inr ⟨Tm.upd_same _ _ _ _, y, ?_, hu⟩
    rcases h a' d' with h1 | ⟨h1, _⟩
    · rw [← h1]; exact hy
    · rw [hy] at h1; exact absurd h1 (by simp)
  · rw [Tm.upd_other _ _ _ _ _ _ e]
    exact h a' d'
theorem Pruned.val {M M' : Tm} (h : Pruned M M') (n : Nt) : M'.val n = M.val n := by
  unfold Tm.val
  split
  · rcases h n.1 n.2.toNat with h1 | ⟨h1, y, h2, h3⟩
    · rw [h1]
    · rw [h1, h2]; simp [h3]
  · rfl
theorem Pruned.bl {M M' : Tm} (h : Pruned M M') (b : Nat) (hb : M'.Bl b) : M.Bl b := by
  obtain ⟨a, d, x, h1, h2⟩ := hb
  rcases h a d with h3 | ⟨h3, _⟩
  · rw [h3] at h1; exact ⟨a, d, x, h1, h2⟩
  · rw [h3] at h1; exact absurd h1 (by simp)
/-- What is told of a call. -/
def PruneR (tb : Nat) (c : Int) (M : Tm) (a d : Nat) (w : World) (x : Nd) (e : Ending) (w' : World) : Prop :=
  ∃ (r : Bool) (M' : Tm), e = .returned (.bool r) ∧ Tri w' M' tb c ∧ Pruned M M' ∧ (∀ a' d', d' ≤ d → M' a' d' = M a' d') ∧ (r = true → x.u = false ∧ M' (PrefP.cut a d) (d + 1) = none ∧ M' (TrieP.kid (PrefP.cut a d) d 1) (d + 1) = none) ∧ Keep M.Bl w w'
theorem wrapD (d : Nat) (h : d ≤ 32) : IntKind.i64.wrap ((d : Int) + 1) = (d : Int) + 1 := MaskP.upto32 (P := fun d => IntKind.i64.wrap ((d : Int) + 1) = (d : Int) + 1) (by decide +kernel) d h
theorem pt_nil {o : Option Nd} (h : pt o = .pointer none) : o = none := by
  cases o with
  | none => rfl
  | some x => simp [pt] at h
theorem prune_true {M : Tm} {a d e : Nat} {x : Nd} {q0 q1 : Option Addr} (h0 : pt (M a d) = .pointer q0) (h1 : pt (M e d) = .pointer q1) (hq : ¬ (q0 = none → q1.isSome = true)) (hu : ¬ x.u = true) : x.u = false ∧ M a d = none ∧ M e d = none := by
  have e0 : q0 = none := Classical.byContradiction fun h => hq fun h2 => absurd h2 h
  have e1 : q1 = none := by
    cases q1 with
    | none => rfl
    | some z => exact absurd (fun _ => rfl) hq
  subst e0 e1
  exact ⟨by simpa using hu, pt_nil h0, pt_nil h1⟩
theorem Box.keptD {w w' : World} {n : Nat} {S : Nat → Prop} {b : Nat} {x y : Value} (h : Box w b x y) (hk : Keep S (w.drewN n) w') (hs : ¬ S b) : Box w' b x y := by
  have e : w'.heap[b]? = w.heap[b]? := hk.block b h.lt hs
  exact ⟨Nat.lt_of_lt_of_le h.lt hk.size, (World.cell?_of_block (w := w) e).trans h.c0, (World.cell?_of_block (w := w) e).trans h.c1, (World.frozen?_of_block (w := w) e).trans h.f0, (World.frozen?_of_block (w := w) e).trans h.f1⟩
theorem eqBranches (q0 q1 : Option Addr) (w : World) : (Op.equalIn 9999 57 (.agg #[.pointer q0, .pointer q1]) (.agg #[.pointer none, .pointer none])).run Tryd.prog w = .ok (q0.isNone && q1.isNone) w := by
  have hu : Tryd.prog.underlying 57 = some (.array 2 56) := by kernel_rfl
  have hpp : Tryd.prog.underlying 56 = some (.pointer (Tryd.prog.pointee 56)) := by kernel_rfl
  obtain ⟨i, hi⟩ := info_of_underlying hpp
  have hp : ∀ (xs : Array Value) (off : Nat) (q : Option Addr), xs[off]? = some (.pointer q) → (part 56 xs off).run Tryd.prog w = .ok (.pointer q) w := by
    intro xs off q hx
    simp [part, isAgg, run_underlying hpp, hx]
  have hc : Tryd.prog.cellsOf 56 = 1 := by kernel_rfl
  rw [run_equalIn_array w 9998 #[.pointer q0, .pointer q1] #[.pointer none, .pointer none] hu hi, hc]
  rw [show List.range 2 = [0, 1] from rfl]
  simp only [Op.eqItems, Sem.run_bind]
  rw [hp _ _ q0 rfl, Result.andThen_ok, hp _ _ none rfl, Result.andThen_ok, run_equalIn_pointer_nil w 9997 _ q0 hpp, Result.andThen_ok]
  cases q0 with
  | some a => rfl
  | none =>
    simp only [Option.isNone_none, Bool.not_true, Bool.false_eq_true, if_false, Bool.true_and, Sem.run_bind]
    rw [hp _ _ q1 rfl, Result.andThen_ok, hp _ _ none rfl, Result.andThen_ok, run_equalIn_pointer_nil w 9997 _ q1 hpp, Result.andThen_ok]
    cases q1 <;> rfl

set_option maxHeartbeats 1000000 in
set_option maxRecDepth 100000 in
theorem prune_any (tb : Nat) (c : Int) (M : Tm) (a n : Nat) (hn : n ≤ 32) : ∀ (j d : Nat) (w : World) (x : Nd), d + j = n → d ≤ 32 → Tri w M tb c → (∃ z, M a n = some z) → M (PrefP.cut a d) d = some x →
    Calls Tryd.prog 29 #[.pointer (some ⟨x.b, 0, none⟩), .agg #[.int .u32 a, .int .i64 n], .int .i64 d] w (PruneR tb c M a d w x) := by
  intro j
  induction j with
  | zero =>
    intro d w x hj hd h hz hx
    obtain rfl : d = n := by omega
    have B0 : Below w.heap.size w (w.alloc (.cells #[.int .u32 a, .int .i64 d] 32)) := (Below.refl _ _).alloc (Nat.le_refl _) _
    have HT0 := Lib.hid (h.below B0); have HX0 := Lib.hid hx
    have HK0 := Lib.hid (Keep.of (S := M.Bl) B0)
    clear h hx B0 hz
    go_enter Tryd.func29, Tryd.ntmps29
    have d0 := HT0.out.cell _ _ _ HX0.out 0 (by decide)
    have d1 := HT0.out.cell _ _ _ HX0.out 1 (by decide)
    have d2 : (w.alloc (.cells #[.int .u32 a, .int .i64 d] 32)).cell? ⟨x.b, 2, none⟩ = some (.bool x.u) := HT0.out.cell _ _ _ HX0.out 2 (by decide)
    have d3 : (w.alloc (.cells #[.int .u32 a, .int .i64 d] 32)).cell? ⟨x.b, 3, none⟩ = some (.int .i64 x.v) := HT0.out.cell _ _ _ HX0.out 3 (by decide)
    obtain ⟨q0, hq0⟩ := pt_pointer ((M) (PrefP.cut a d) (d + 1))
    obtain ⟨q1, hq1⟩ := pt_pointer ((M) (TrieP.kid (PrefP.cut a d) d 1) (d + 1))
    rw [show nc (M) (PrefP.cut a d) d x 0 = .pointer q0 from hq0] at d0
    rw [show nc (M) (PrefP.cut a d) d x 1 = .pointer q1 from hq1] at d1
    have HQ0 := Lib.hid hq0; have HQ1 := Lib.hid hq1
    have heq := eqBranches q0 q1
    clear hq0 hq1
    go_wp2_with fail
    · go_ret
      exact ⟨false, _, rfl, HT0.out, Pruned.refl M, (fun _ _ _ => rfl), (fun h => by cases h), HK0.out⟩
    · go_ret
      exact ⟨false, _, rfl, HT0.out, Pruned.refl M, (fun _ _ _ => rfl), (fun h => by cases h), HK0.out⟩
    · rename_i e2 e1 e0
      go_ret
      exact ⟨true, _, rfl, HT0.out, Pruned.refl M, (fun _ _ _ => rfl), fun _ => prune_true HQ0.out HQ1.out e2 e1, HK0.out⟩
    · go_ret
      exact ⟨false, _, rfl, HT0.out, Pruned.refl M, (fun _ _ _ => rfl), (fun h => by cases h), HK0.out⟩
  | succ j ih =>
    have IH := Lib.hid ih
    clear ih
    intro d w x hj hd h hz hx
    have hdn : d < n := by omega
    have N0 := Box.new w (.int .u32 a) (.int .i64 n) 32
    have B0 : Below w.heap.size w (w.alloc (.cells #[.int .u32 a, .int .i64 n] 32)) := (Below.refl _ _).alloc (Nat.le_refl _) _
    obtain ⟨y, hy⟩ : ∃ y, M (PrefP.cut a (d + 1)) (d + 1) = some y := by
      obtain ⟨z, hz⟩ := hz
      obtain ⟨i, rfl⟩ : ∃ i, n = d + 1 + i := ⟨n - (d + 1), by omega⟩
      exact h.ok.anc i a (d + 1) z hz
    have HL := Lib.hid h.blt
    have HT1 := Lib.hid (h.below B0); have HX := Lib.hid hx; have HY := Lib.hid hy; have HZ := Lib.hid hz; have HBX := Lib.hid N0; have HB0 := Lib.hid B0
    have hlt := TrieP.bt_lt a d
    have hlt' : (TrieP.bt a d : Int) < 2 := by omega
    have dk : (w.alloc (.cells #[.int .u32 a, .int .i64 n] 32)).cell? ⟨x.b, TrieP.bt a d, none⟩ = some (.pointer (some ⟨y.b, 0, none⟩)) := by
      rw [HT1.out.cell _ _ _ hx _ (by omega), nc_kid _ _ _ _ _ hlt, ← TrieP.step a d (by omega), hy, pt_some]
    obtain ⟨l1, c0, c1, f0, f1⟩ := N0
    clear h hx hy hz B0
    go_enter Tryd.func29, Tryd.ntmps29
    go_wp2_with fail
    generalize w.alloc (.cells #[.int .u32 a, .int .i64 n] 32) = W1 at *
    go_quiet (first | (go_at_call 31; exact Calls.quiet_of_same (bit_any a d (by omega) _)))
    go_wp2_with fail
    refine wp_region_held_drew (S := (fun w' => w'.cell? ⟨w.heap.size, 0, none⟩ = some (.int .u32 (a : Int)) ∧ w'.cell? ⟨w.heap.size, 1, none⟩ = some (.int .i64 n) ∧ w'.cell? ⟨x.b, TrieP.bt a d, none⟩ = some (.pointer (some ⟨y.b, 0, none⟩)))) (by kernel_rfl) ⟨c0, c1, dk⟩ (fun hHeld => ?_)
    refine wpAnyH_take (i := 0) (oi := { dst := some 20, op := Op.move (Operand.tmp 7), type := 82, pos := "trie.go:67", after := #[], guard := none }) (v := ?_) rfl (by kernel_rfl) (by kernel_rfl) (by kernel_rfl) (fun _ _ _ h => h) (Or.inl ⟨by rfl, ?_⟩) hHeld ?_
    rotate_left
    · (intro w hSw; (try dsimp only at hSw); go_simp; first | done | with_reducible rfl)
    simp only [Act.put, List.setIfInBounds_toArray, List.set_cons_zero, List.set_cons_succ]
    refine wpAnyH_take (i := 1) (oi := { dst := some 21, op := Op.nilCheck (Operand.tmp 20), type := 0, pos := "trie.go:67", after := #[{ on := 0, ground := Ground.data }], guard := none }) (v := ?_) rfl (by kernel_rfl) (by kernel_rfl) (by kernel_rfl) (fun _ _ _ h => h) (Or.inl ⟨by rfl, ?_⟩) hHeld ?_
    rotate_left
    · (intro w hSw; (try dsimp only at hSw); go_simp; first | done | with_reducible rfl)
    simp only [Act.put, List.setIfInBounds_toArray, List.set_cons_zero, List.set_cons_succ]
    refine wpAnyH_take (i := 2) (oi := { dst := some 22, op := Op.load 56 (Operand.tmp 21), type := 56, pos := "trie.go:67", after := #[{ on := 1, ground := Ground.data }], guard := none }) (v := ?_) rfl (by kernel_rfl) (by kernel_rfl) (by kernel_rfl) (fun _ _ _ h => h) (Or.inl ⟨by rfl, ?_⟩) hHeld ?_
    rotate_left
    · (intro w hSw; (try dsimp only at hSw); go_simp; first | done | with_reducible rfl)
    simp only [Act.put, List.setIfInBounds_toArray, List.set_cons_zero, List.set_cons_succ]
    refine wpAnyH_take (i := 3) (oi := { dst := some 23, op := Op.load 32 (Operand.tmp 4), type := 32, pos := "trie.go:67", after := #[], guard := none }) (v := ?_) rfl (by kernel_rfl) (by kernel_rfl) (by kernel_rfl) (fun _ _ _ h => h) (Or.inl ⟨by rfl, ?_⟩) hHeld ?_
    rotate_left
    · (intro w hSw; (try dsimp only at hSw); go_simp; first | done | with_reducible rfl)
    simp only [Act.put, List.setIfInBounds_toArray, List.set_cons_zero, List.set_cons_succ]
    refine wpAnyH_take (i := 4) (oi := { dst := some 24, op := Op.move (Operand.tmp 2), type := 3, pos := "trie.go:67", after := #[], guard := none }) (v := ?_) rfl (by kernel_rfl) (by kernel_rfl) (by kernel_rfl) (fun _ _ _ h => h) (Or.inl ⟨by rfl, ?_⟩) hHeld ?_
    rotate_left
    · (intro w hSw; (try dsimp only at hSw); go_simp; first | done | with_reducible rfl)
    simp only [Act.put, List.setIfInBounds_toArray, List.set_cons_zero, List.set_cons_succ]
    refine wpAnyH_take (i := 5) (oi := { dst := some 25, op := Op.binOp BinOp.add 3 (Operand.tmp 24) (Operand.const (Value.int IntKind.i64 1)) 3, type := 3, pos := "trie.go:67", after := #[{ on := 4, ground := Ground.data }], guard := none }) (v := ?_) rfl (by kernel_rfl) (by kernel_rfl) (by kernel_rfl) (fun _ _ _ h => h) (Or.inl ⟨by rfl, ?_⟩) hHeld ?_
    rotate_left
    · (intro w hSw; (try dsimp only at hSw); go_simp; first | done | with_reducible rfl)
    simp only [Act.put, List.setIfInBounds_toArray, List.set_cons_zero, List.set_cons_succ]
    refine wpAnyH_ready (rs := [6]) (by kernel_rfl) (by simp) ?_
    refine AllReadyH.cons (o := { dst := some 26, op := Op.call { callee := Callee.value (Operand.func 29), args := #[Operand.tmp 22, Operand.tmp 23, Operand.tmp 25], argTypes := #[56, 32, 3] }, type := 4, pos := "trie.go:67", after := #[{ on := 2, ground := Ground.data }, { on := 3, ground := Ground.data }, { on := 5, ground := Ground.data }], guard := none }) rfl (fun K hK => ?_) AllReadyH.nil
    go_simp
    rw [wrapD d hd]
    go_at_call 29
    have IHc := IH.out (d + 1) (W1.drewN (nq + 1)) y (by omega) (by omega) (HT1.out.drewN _) HZ.out HY.out
    rw [show ((d + 1 : Nat) : Int) = (d : Int) + 1 by omega] at IHc
    refine IHc.mono ?_
    rintro e W3 ⟨r, M1, rfl, hT3, hP, hS, hr, hK⟩
    clear IHc
    have bx3 : Box W3 w.heap.size (.int .u32 a) (.int .i64 n) := HBX.out.keptD hK (fun e => by have := HL.out _ e; omega)
    have HT3 := Lib.hid hT3; have HP3 := Lib.hid hP; have HS3 := Lib.hid hS; have HR3 := Lib.hid hr; have HK3 := Lib.hid hK
    have HX3 := Lib.hid (show M1 (PrefP.cut a d) d = some x by rw [hS _ _ (by omega)]; exact HX.out)
    have HY3 := Lib.hid (show M1 (PrefP.cut a (d + 1)) (d + 1) = some y by rw [hS _ _ (by omega)]; exact HY.out)
    have KK0 : W3.cell? ⟨w.heap.size, 0, none⟩ = some (.int .u32 (a : Int)) ∧ W3.cell? ⟨w.heap.size, 1, none⟩ = some (.int .i64 n) ∧ W3.cell? ⟨x.b, TrieP.bt a d, none⟩ = some (.pointer (some ⟨y.b, 0, none⟩)) := by
      refine ⟨bx3.c0, bx3.c1, ?_⟩
      rw [hT3.cell _ _ _ HX3.out _ (by have := TrieP.bt_lt a d; omega), nc_kid _ _ _ _ _ (TrieP.bt_lt a d), ← TrieP.step a d (by omega), HY3.out, pt_some]
    clear hHeld hT3 hP hS hr hK bx3
    go_wp2_with fail
    refine hK.out _ _ KK0 (fun hHeld => ?_)
    clear hK K
    refine wpAnyH_done (by kernel_rfl) ?_ _
    have hbx := hHeld.1
    clear hHeld c0 c1 dk f0 f1 l1
    have HK1 : Hid (Keep M.Bl w W3) := Lib.hid ((Keep.of HB0.out).trans (((Keep.refl M.Bl W1).drewN (nq + 1)).trans HK3.out))
    cases r with
    | false =>
      have d0 := HT3.out.cell _ _ _ HX3.out 0 (by decide)
      have d1 := HT3.out.cell _ _ _ HX3.out 1 (by decide)
      have d2 : (W3).cell? ⟨x.b, 2, none⟩ = some (.bool x.u) := HT3.out.cell _ _ _ HX3.out 2 (by decide)
      have d3 : (W3).cell? ⟨x.b, 3, none⟩ = some (.int .i64 x.v) := HT3.out.cell _ _ _ HX3.out 3 (by decide)
      obtain ⟨q0, hq0⟩ := pt_pointer ((M1) (PrefP.cut a d) (d + 1))
      obtain ⟨q1, hq1⟩ := pt_pointer ((M1) (TrieP.kid (PrefP.cut a d) d 1) (d + 1))
      rw [show nc (M1) (PrefP.cut a d) d x 0 = .pointer q0 from hq0] at d0
      rw [show nc (M1) (PrefP.cut a d) d x 1 = .pointer q1 from hq1] at d1
      have HQ0 := Lib.hid hq0; have HQ1 := Lib.hid hq1
      have heq := eqBranches q0 q1
      clear hq0 hq1
      go_wp2_with fail
      · go_ret
        exact ⟨false, _, rfl, HT3.out, HP3.out, (fun a' d' h => HS3.out a' d' (by omega)), (fun h => by cases h), HK1.out⟩
      · go_ret
        exact ⟨false, _, rfl, HT3.out, HP3.out, (fun a' d' h => HS3.out a' d' (by omega)), (fun h => by cases h), HK1.out⟩
      · rename_i e2 e1 e0
        go_ret
        exact ⟨true, _, rfl, HT3.out, HP3.out, (fun a' d' h => HS3.out a' d' (by omega)), fun _ => prune_true HQ0.out HQ1.out e2 e1, HK1.out⟩
      · go_ret
        exact ⟨false, _, rfl, HT3.out, HP3.out, (fun a' d' h => HS3.out a' d' (by omega)), (fun h => by cases h), HK1.out⟩
    | true =>
      obtain ⟨u1, u2, u3⟩ := HR3.out rfl
      have dk : W3.cell? ⟨x.b, TrieP.bt a d, none⟩ = some (.pointer (some ⟨y.b, 0, none⟩)) := by
        rw [HT3.out.cell _ _ _ HX3.out _ (by omega), nc_kid _ _ _ _ _ hlt, ← TrieP.step a d (by omega), HY3.out, pt_some]
      have ek := HT3.out.free _ _ _ HX3.out (TrieP.bt a d)
      have hcut := HT3.out.cut HX3.out (by omega) hlt (by rw [← TrieP.step a d (by omega)]; exact HY3.out) (by rw [← TrieP.step a d (by omega)]; exact u2) (by rw [← TrieP.step a d (by omega)]; exact u3)
      rw [← TrieP.step a d (by omega)] at hcut
      have HT4 := Lib.hid hcut
      have HX4 := Lib.hid (show (M1.upd (PrefP.cut a (d + 1)) (d + 1) none) (PrefP.cut a d) d = some x by rw [Tm.upd_deep _ _ _ _ _ _ (by omega)]; exact HX3.out)
      have HP4 := Lib.hid (HP3.out.upd HY3.out u1)
      have HK4 := Lib.hid (HK1.out.trans (Keep.setCell M.Bl W3 x.b (TrieP.bt a d) (.pointer none) ⟨_, _, x, HX.out, rfl⟩))
      clear hcut u1 u2 u3
      have d0 := HT4.out.cell _ _ _ HX4.out 0 (by decide)
      have d1 := HT4.out.cell _ _ _ HX4.out 1 (by decide)
      have d2 : (W3.setCell ⟨x.b, TrieP.bt a d, none⟩ (.pointer none)).cell? ⟨x.b, 2, none⟩ = some (.bool x.u) := HT4.out.cell _ _ _ HX4.out 2 (by decide)
      have d3 : (W3.setCell ⟨x.b, TrieP.bt a d, none⟩ (.pointer none)).cell? ⟨x.b, 3, none⟩ = some (.int .i64 x.v) := HT4.out.cell _ _ _ HX4.out 3 (by decide)
      obtain ⟨q0, hq0⟩ := pt_pointer ((M1.upd (PrefP.cut a (d + 1)) (d + 1) none) (PrefP.cut a d) (d + 1))
      obtain ⟨q1, hq1⟩ := pt_pointer ((M1.upd (PrefP.cut a (d + 1)) (d + 1) none) (TrieP.kid (PrefP.cut a d) d 1) (d + 1))
      rw [show nc (M1.upd (PrefP.cut a (d + 1)) (d + 1) none) (PrefP.cut a d) d x 0 = .pointer q0 from hq0] at d0
      rw [show nc (M1.upd (PrefP.cut a (d + 1)) (d + 1) none) (PrefP.cut a d) d x 1 = .pointer q1 from hq1] at d1
      have HQ0 := Lib.hid hq0; have HQ1 := Lib.hid hq1
      have heq := eqBranches q0 q1
      clear hq0 hq1
      go_wp2_with fail
      · go_ret
        exact ⟨false, _, rfl, HT4.out, HP4.out, (fun a' d' h => by rw [Tm.upd_deep _ _ _ _ _ _ (by omega)]; exact HS3.out a' d' (by omega)), (fun h => by cases h), HK4.out⟩
      · go_ret
        exact ⟨false, _, rfl, HT4.out, HP4.out, (fun a' d' h => by rw [Tm.upd_deep _ _ _ _ _ _ (by omega)]; exact HS3.out a' d' (by omega)), (fun h => by cases h), HK4.out⟩
      · rename_i e2 e1 e0
        go_ret
        exact ⟨true, _, rfl, HT4.out, HP4.out, (fun a' d' h => by rw [Tm.upd_deep _ _ _ _ _ _ (by omega)]; exact HS3.out a' d' (by omega)), fun _ => prune_true HQ0.out HQ1.out e2 e1, HK4.out⟩
      · go_ret
        exact ⟨false, _, rfl, HT4.out, HP4.out, (fun a' d' h => by rw [Tm.upd_deep _ _ _ _ _ _ (by omega)]; exact HS3.out a' d' (by omega)), (fun h => by cases h), HK4.out⟩
end Go.Proofs.YtbdmfcnlfmnmdaaDoor
