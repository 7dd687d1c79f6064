/-
  WHEELS IN USE: what a call on a wheel leaves; one wheel that the call has made; two beside each other; one beside a row of numbers.
-/
import Derived.Test.YtdgfaolflnljaaaDoorWheelSet
import Derived.Test.YtdgfaolflnljaaaDoorWheelLen
import Derived.Test.YtdgfaolflnljaaaDoorWheelTick
import Derived.Test.YtdgfaolflnljaaaDoorVec
import Derived.Test.YtdgfaolflnljaaaDoorSameInts
namespace Go.Proofs.YtdgfaolflnljaaaDoor
open Go.RowKit Go.Lib WheelP

/-- What a call on a wheel leaves: another wheel, in the same blocks or new ones; all else as it was. -/
def Stp (w w' : World) (p : Nat) (m : Nat → Option Nat) (now : Nat) (f : Nat → Nat) : Prop :=
  ∃ m', Whl w' p m' now f ∧ Keep (InW p m) w w' ∧ ∀ b, InW p m' b → InW p m b ∨ w.heap.size ≤ b
/-- May this be set? -/
def okS (now : Nat) (i x : Int) : Prop := 0 ≤ i ∧ i < 64 ∧ (now : Int) < x ∧ x ≤ 1099511627776
instance (now : Nat) (i x : Int) : Decidable (okS now i x) := by unfold okS; infer_instance
/-- What is due behind it. -/
def putW (f : Nat → Nat) (now : Nat) (i x : Int) : Nat → Nat := if okS now i x then upd f i.toNat x.toNat else f
theorem putW_yes (f : Nat → Nat) (now k x : Nat) (h : okS now k x) : putW f now k x = upd f k x := by
  unfold putW
  rw [if_pos h, Int.toNat_natCast, Int.toNat_natCast]
theorem putW_no (f : Nat → Nat) (now : Nat) (i x : Int) (h : ¬ okS now i x) : putW f now i x = f := if_neg h
/-- An error of the document's as a value. -/
abbrev eV (z : Int) : Value := .iface 27 (.int .i64 z)
def setV (now : Nat) (i x : Int) : Value := if okS now i x then .nilIface else eV 1
/-- May one tick so far? -/
def okT (now : Nat) (x : Int) : Prop := (now : Int) ≤ x ∧ x ≤ 1099511627776

section
variable {w w' : World} {p now : Nat} {m : Nat → Option Nat} {f : Nat → Nat} (h : Whl w p m now f)
include h
theorem Stp.none : Stp w w p m now f := ⟨m, h, Keep.refl _ _, fun _ hb => Or.inl hb⟩
theorem set_stp (i x : Int) : Calls Tryd.prog 9 #[.pointer (some ⟨p, 0, none⟩), .int .i64 i, .int .i64 x] w fun e w' => e = .returned (setV now i x) ∧ Stp w w' p m now (putW f now i x) := by
  by_cases hk : okS now i x
  · obtain ⟨h1, h2, h3, h4⟩ := id hk
    obtain ⟨k, rfl⟩ : ∃ k : Nat, i = k := ⟨i.toNat, by omega⟩
    obtain ⟨y, rfl⟩ : ∃ y : Nat, x = y := ⟨x.toNat, by omega⟩
    refine (wSet_ok w p m now f h k y (by omega) (by omega) (by omega)).mono ?_
    rintro e w' ⟨rfl, m', a1, a2, a3⟩
    exact ⟨by unfold setV; rw [if_pos hk], m', by rw [putW_yes _ _ _ _ hk]; exact a1, a2, a3⟩
  · refine (wSet_bad w p m now f h i x ?_).mono ?_
    · unfold okS at hk; omega
    · rintro e w' ⟨rfl, rfl⟩
      exact ⟨by unfold setV; rw [if_neg hk], by rw [putW_no _ _ _ _ hk]; exact Stp.none h⟩
theorem tick_stp (x : Nat) (hx : okT now x) : Calls Tryd.prog 11 #[.pointer (some ⟨p, 0, none⟩), .int .i64 x] w fun e w' => ∃ v L, e = .returned (.tuple #[v, .nilIface]) ∧ Due f x L ∧ OwnI w' w.heap.size v (zsD L) ∧ Stp w w' p m x (rest f x) := by
  obtain ⟨h1, h2⟩ := hx
  refine (wTick_ok w p m now f h x (by omega) (by omega)).mono ?_
  rintro e w' ⟨v, L, rfl, a1, a2, a3, a4⟩
  exact ⟨v, L, rfl, a1, a2, m, a3, a4, fun _ hb => Or.inl hb⟩
theorem tick_bad (x : Int) (hx : ¬ okT now x) : Calls Tryd.prog 11 #[.pointer (some ⟨p, 0, none⟩), .int .i64 x] w fun e w' => e = .returned (.tuple #[.slice none 0 0, eV 1]) ∧ w = w' :=
  wTick_bad w p m now f h x (by unfold okT at hx; omega)
end

/-- A wheel that the call has made: all that was there before is as it was. -/
structure OneW (w0 w : World) (p now : Nat) (f : Nat → Nat) : Prop where
  ex : ∃ m, Whl w p m now f ∧ ∀ b, InW p m b → w0.heap.size ≤ b
  bel : Below w0.heap.size w0 w
theorem OneW.step {w0 w : World} {p now : Nat} {f : Nat → Nat} (h : OneW w0 w p now f) : ∃ m, Whl w p m now f ∧ ∀ w' n g, Stp w w' p m n g → OneW w0 w' p n g := by
  obtain ⟨m, h1, h2⟩ := h.ex
  refine ⟨m, h1, ?_⟩
  rintro w' n g ⟨m', a1, a2, a3⟩
  refine ⟨⟨m', a1, fun b hb => ?_⟩, h.bel.trans (a2.below h2 h.bel.size)⟩
  rcases a3 b hb with c | c
  · exact h2 b c
  · exact Nat.le_trans h.bel.size c
theorem OneW.below {w0 w w1 : World} {p now : Nat} {f : Nat → Nat} (h : OneW w0 w p now f) (hb : Below w.heap.size w w1) : OneW w0 w1 p now f := by
  obtain ⟨m, h1, h2⟩ := h.ex
  exact ⟨⟨m, h1.below hb, h2⟩, h.bel.trans (hb.mono h.bel.size)⟩
theorem new_one (w0 w : World) (hb : Below w0.heap.size w0 w) : Calls Tryd.prog 6 #[] w fun e w' => e = .returned (.pointer (some ⟨w.heap.size, 0, none⟩)) ∧ OneW w0 w' w.heap.size 0 (fun _ => 0) := by
  refine (wNew_any w).mono ?_
  rintro e w' ⟨rfl, h1, h2⟩
  refine ⟨rfl, ⟨_, h1, fun b hb' => ?_⟩, hb.trans (h2.mono hb.size)⟩
  rcases hb' with rfl | ⟨i, _, hm⟩
  · exact hb.size
  · cases hm

/-- Two wheels that the call has made, apart. -/
structure TwoW (w0 w : World) (p q n1 : Nat) (f1 : Nat → Nat) (n2 : Nat) (f2 : Nat → Nat) : Prop where
  ex : ∃ m1 m2, Whl w p m1 n1 f1 ∧ Whl w q m2 n2 f2 ∧ (∀ b, InW p m1 b → ¬ InW q m2 b) ∧ (∀ b, InW p m1 b → w0.heap.size ≤ b) ∧ (∀ b, InW q m2 b → w0.heap.size ≤ b)
  bel : Below w0.heap.size w0 w
section
variable {w0 w w1 : World} {p q n1 n2 : Nat} {f1 f2 : Nat → Nat} (h : TwoW w0 w p q n1 f1 n2 f2)
include h
theorem TwoW.swap : TwoW w0 w q p n2 f2 n1 f1 := by
  obtain ⟨m1, m2, h1, h2, h3, h4, h5⟩ := h.ex
  exact ⟨⟨m2, m1, h2, h1, fun b hb c => h3 b c hb, h5, h4⟩, h.bel⟩
theorem TwoW.below (hb : Below w.heap.size w w1) : TwoW w0 w1 p q n1 f1 n2 f2 := by
  obtain ⟨m1, m2, h1, h2, h3⟩ := h.ex
  exact ⟨⟨m1, m2, h1.below hb, h2.below hb, h3⟩, h.bel.trans (hb.mono h.bel.size)⟩
theorem TwoW.congr {g1 g2 : Nat → Nat} (e1 : ∀ k, k < 64 → f1 k = g1 k) (e2 : ∀ k, k < 64 → f2 k = g2 k) : TwoW w0 w p q n1 g1 n2 g2 := by
  obtain ⟨m1, m2, h1, h2, h3⟩ := h.ex
  exact ⟨⟨m1, m2, h1.congr e1, h2.congr e2, h3⟩, h.bel⟩
theorem TwoW.step : ∃ m, Whl w p m n1 f1 ∧ ∀ w' n g, Stp w w' p m n g → TwoW w0 w' p q n g n2 f2 := by
  obtain ⟨m1, m2, h1, h2, h3, h4, h5⟩ := h.ex
  refine ⟨m1, h1, ?_⟩
  rintro w' n g ⟨m', a1, a2, a3⟩
  refine ⟨⟨m', m2, a1, h2.keep a2 fun b hb c => h3 b c hb, fun b hb c => ?_, fun b hb => ?_, h5⟩, h.bel.trans (a2.below h4 h.bel.size)⟩
  · rcases a3 b hb with d | d
    · exact h3 b d c
    · have := h2.in c; omega
  · rcases a3 b hb with d | d
    · exact h4 b d
    · exact Nat.le_trans h.bel.size d
end
/-- A second wheel made beside one. -/
theorem new_two (w0 w : World) (p n1 : Nat) (f1 : Nat → Nat) (h : OneW w0 w p n1 f1) : Calls Tryd.prog 6 #[] w fun e w' => e = .returned (.pointer (some ⟨w.heap.size, 0, none⟩)) ∧ TwoW w0 w' p w.heap.size n1 f1 0 (fun _ => 0) := by
  obtain ⟨m, h1, h2⟩ := h.ex
  refine (wNew_any w).mono ?_
  rintro e w' ⟨rfl, a1, a2⟩
  have hq : ∀ b, InW w.heap.size (fun _ => none) b → b = w.heap.size := by
    rintro b (rfl | ⟨i, _, hm⟩)
    · rfl
    · cases hm
  refine ⟨rfl, ⟨m, _, h1.below a2, a1, fun b hb c => ?_, h2, fun b hb => by rw [hq b hb]; exact h.bel.size⟩, h.bel.trans (a2.mono h.bel.size)⟩
  have := h1.in hb
  rw [hq b c] at this
  omega

/-- A wheel beside a row of 64 numbers, in the block c. -/
structure RowW (w0 w : World) (p now : Nat) (f : Nat → Nat) (c : Nat) (d : Nat → Nat) : Prop where
  ex : ∃ m, Whl w p m now f ∧ (∀ b, InW p m b → w0.heap.size ≤ b) ∧ ¬ InW p m c
  vec : Vec w c 64 (fun i => (d i : Int))
  lc : w0.heap.size ≤ c
  bel : Below w0.heap.size w0 w
section
variable {w0 w w1 : World} {p now c : Nat} {f d : Nat → Nat} (h : RowW w0 w p now f c d)
include h
theorem RowW.step : ∃ m, Whl w p m now f ∧ ∀ w' n g, Stp w w' p m n g → RowW w0 w' p n g c d := by
  obtain ⟨m, h1, h2, h3⟩ := h.ex
  refine ⟨m, h1, ?_⟩
  rintro w' n g ⟨m', a1, a2, a3⟩
  have hv := a2.block c h.vec.lt h3
  refine ⟨⟨m', a1, fun b hb => ?_, fun hb => ?_⟩, ⟨Nat.lt_of_lt_of_le h.vec.lt a2.size, fun i hi => (World.cell?_of_block (w := w) (a := ⟨c, i, none⟩) hv).trans (h.vec.c i hi), fun i => (World.frozen?_of_block (w := w) (a := ⟨c, i, none⟩) hv).trans (h.vec.f i)⟩, h.lc, h.bel.trans (a2.below h2 h.bel.size)⟩
  · rcases a3 b hb with e | e
    · exact h2 b e
    · exact Nat.le_trans h.bel.size e
  · rcases a3 c hb with e | e
    · exact h3 e
    · have := h.vec.lt; omega
theorem RowW.below (hb : Below w.heap.size w w1) : RowW w0 w1 p now f c d := by
  obtain ⟨m, h1, h2⟩ := h.ex
  exact ⟨⟨m, h1.below hb, h2⟩, h.vec.keep hb, h.lc, h.bel.trans (hb.mono h.bel.size)⟩
theorem RowW.congr {f' d' : Nat → Nat} (e1 : ∀ k, k < 64 → f k = f' k) (e2 : ∀ k, k < 64 → d k = d' k) : RowW w0 w p now f' c d' := by
  obtain ⟨m, h1, h2⟩ := h.ex
  exact ⟨⟨m, h1.congr e1, h2⟩, h.vec.congr fun i hi => by rw [e2 i hi], h.lc, h.bel⟩
/-- One number of the row written anew. -/
theorem RowW.put (k x : Nat) : RowW w0 (w.setCell ⟨c, k, none⟩ (.int .i64 (x : Int))) p now f c (upd d k x) := by
  obtain ⟨m, h1, h2, h3⟩ := h.ex
  have hk : Keep (fun b => b = c) w (w.setCell ⟨c, k, none⟩ (.int .i64 (x : Int))) := Keep.setCell _ w c k _ rfl
  refine ⟨⟨m, h1.keep hk fun b hb e => h3 (e ▸ hb), h2, h3⟩, (h.vec.set k x).congr fun i hi => ?_, h.lc, h.bel.trans (hk.below (fun b e => e ▸ h.lc) h.bel.size)⟩
  unfold upd
  by_cases e : i = k
  · rw [if_pos e, if_pos e]
  · rw [if_neg e, if_neg e]
theorem RowW.late : ∀ k, k < 64 → f k = 0 ∨ (now < f k ∧ f k ≤ 1099511627776) := by
  obtain ⟨m, h1, _⟩ := h.ex
  exact h1.late
end

/-- The only one due. -/
theorem due_35 : Due (upd (fun _ => 0) 3 5) 5 [(3, 5)] := by
  refine ⟨List.pairwise_singleton _ _, fun p => ?_⟩
  rw [List.mem_singleton]
  constructor
  · rintro rfl; exact ⟨by omega, by rw [upd_at]; omega, by rw [upd_at]; omega, by rw [upd_at]⟩
  · rintro ⟨h1, h2, h3, h4⟩
    by_cases e : p.1 = 3
    · rw [e, upd_at] at h4
      exact Prod.ext e h4
    · rw [upd_ne _ _ _ _ e] at h2; omega
end Go.Proofs.YtdgfaolflnljaaaDoor
