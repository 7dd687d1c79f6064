/-
  A WHEEL AND WHAT IS THOUGHT OF IT: a row of numbers beside a wheel that tells what is due when; the least of them found by looking at all, again and again, tells what a tick tells.
-/
import Derived.Test.YtdgfaolflnljaaaDoorWheelTwo
import Derived.Test.YtdgfaolflnljaaaDoorWheelFact
import Derived.Test.YtdgfaolflnljaaaDoorWheelClear
namespace Go.Proofs.YtdgfaolflnljaaaDoor
open Go.RowKit Go.Lib WheelP

namespace WheelP
/-- How many of the first j are due at all. -/
def cntK (f : Nat → Nat) (j : Nat) : Nat := ((List.range j).filter fun k => decide (0 < f k)).length
theorem cntK_yes (f : Nat → Nat) (j : Nat) (h : 0 < f j) : cntK f (j + 1) = cntK f j + 1 := by
  unfold cntK
  rw [List.range_succ, List.filter_append, List.length_append]
  simp [h]
theorem cntK_no (f : Nat → Nat) (j : Nat) (h : ¬ 0 < f j) : cntK f (j + 1) = cntK f j := by
  unfold cntK
  rw [List.range_succ, List.filter_append, List.length_append]
  simp [h]
theorem cntK_le (f : Nat → Nat) (j : Nat) : cntK f j ≤ j := by
  unfold cntK
  have := List.length_filter_le (fun k => decide (0 < f k)) (List.range j)
  simpa using this
theorem cntK_all (f : Nat → Nat) : cntK f 64 = cnt f := rfl

/-- Some struck, one by one. -/
def zap (f : Nat → Nat) (L : List Du) : Nat → Nat := L.foldl (fun g p => upd g p.1 0) f
theorem zap_app (f : Nat → Nat) (L : List Du) (p : Du) : zap f (L ++ [p]) = upd (zap f L) p.1 0 := by
  unfold zap
  rw [List.foldl_append]
  rfl
theorem zap_out {L : List Du} : ∀ {f : Nat → Nat} {k : Nat}, (∀ p ∈ L, p.1 ≠ k) → zap f L k = f k := by
  induction L with
  | nil => intro f k _; rfl
  | cons a r ih =>
    intro f k h
    have h2 := ih (f := upd f a.1 0) (k := k) fun p hp => h p (by simp [hp])
    have h3 : zap f (a :: r) = zap (upd f a.1 0) r := rfl
    rw [h3, h2, upd_ne _ _ _ _ (fun e => h a (by simp) e.symm)]
theorem zap_in {L : List Du} : ∀ {f : Nat → Nat} {k : Nat}, (f k = 0 ∨ ∃ p ∈ L, p.1 = k) → zap f L k = 0 := by
  induction L with
  | nil =>
    intro f k h
    rcases h with h | ⟨p, hp, _⟩
    · exact h
    · simp at hp
  | cons a r ih =>
    intro f k h
    have h3 : zap f (a :: r) = zap (upd f a.1 0) r := rfl
    rw [h3]
    refine ih ?_
    by_cases e : k = a.1
    · exact Or.inl (by rw [e, upd_at])
    · rcases h with h | ⟨p, hp, h⟩
      · exact Or.inl (by rw [upd_ne _ _ _ _ e]; exact h)
      · rcases List.mem_cons.1 hp with c | c
        · exact absurd (by rw [← h, c]) e
        · exact Or.inr ⟨p, c, h⟩
theorem zap_pos {f : Nat → Nat} {L : List Du} {k : Nat} (h : 0 < zap f L k) : zap f L k = f k ∧ ∀ p ∈ L, p.1 ≠ k := by
  have h1 : ∀ p ∈ L, p.1 ≠ k := fun p hp e => by
    have := zap_in (f := f) (k := k) (Or.inr ⟨p, hp, e⟩)
    omega
  exact ⟨zap_out h1, h1⟩
/-- The first ones due, in their order. -/
structure Wnt (f : Nat → Nat) (x : Nat) (P : List Du) : Prop where
  ord : P.Pairwise ltD
  mem : ∀ p ∈ P, p.1 < 64 ∧ 0 < f p.1 ∧ f p.1 ≤ x ∧ p.2 = f p.1
  more : ∀ k, k < 64 → 0 < zap f P k → f k ≤ x → ∀ p ∈ P, ltD p (k, f k)
theorem Wnt.start (f : Nat → Nat) (x : Nat) : Wnt f x [] := ⟨List.Pairwise.nil, fun p hp => by simp at hp, fun k _ _ _ p hp => by simp at hp⟩
theorem Wnt.len {f : Nat → Nat} {x : Nat} {P : List Du} (h : Wnt f x P) : P.length ≤ 64 := by
  have hn : (P.map (·.1)).Nodup := by
    unfold List.Nodup
    rw [List.pairwise_map]
    refine List.Pairwise.imp_of_mem ?_ h.ord
    intro a b ha hb hne e
    obtain ⟨_, _, _, a4⟩ := h.mem a ha
    obtain ⟨_, _, _, b4⟩ := h.mem b hb
    unfold ltD at hne
    rw [a4, b4, e] at hne
    omega
  have hs := bd_len (n := 64) hn fun x hx => by
    obtain ⟨p, hp, rfl⟩ := List.mem_map.1 hx
    exact (h.mem p hp).1
  simpa using hs
/-- The least one due of the first j, or none. -/
def BestD (d : Nat → Nat) (x j : Nat) (z : Int) : Prop :=
  (z = -1 ∧ ∀ b, b < j → ¬ (0 < d b ∧ d b ≤ x)) ∨ ∃ a : Nat, z = (a : Int) ∧ a < j ∧ 0 < d a ∧ d a ≤ x ∧ ∀ b, b < j → 0 < d b → d b ≤ x → ¬ ltD (b, d b) (a, d a)
section
variable {d : Nat → Nat} {x j : Nat} {z : Int}
theorem BestD.start (d : Nat → Nat) (x : Nat) : BestD d x 0 (-1) := Or.inl ⟨rfl, fun b hb => by omega⟩
theorem BestD.no (h : BestD d x j z) (hj : ¬ (0 < d j ∧ d j ≤ x)) : BestD d x (j + 1) z := by
  rcases h with ⟨h1, h2⟩ | ⟨a, h1, h2, h3, h4, h5⟩
  · refine Or.inl ⟨h1, fun b hb => ?_⟩
    by_cases e : b = j
    · rw [e]; exact hj
    · exact h2 b (by omega)
  · refine Or.inr ⟨a, h1, by omega, h3, h4, fun b hb hp hx => ?_⟩
    by_cases e : b = j
    · subst e; exact absurd ⟨hp, hx⟩ hj
    · exact h5 b (by omega) hp hx
theorem BestD.one (h : ∀ b, b < j → ¬ (0 < d b ∧ d b ≤ x)) (h1 : 0 < d j) (h2 : d j ≤ x) : BestD d x (j + 1) (j : Int) := by
  refine Or.inr ⟨j, rfl, by omega, h1, h2, fun b hb hp hx => ?_⟩
  by_cases e : b = j
  · rw [e]; exact ltD_irrefl _
  · exact absurd ⟨hp, hx⟩ (h b (by omega))
theorem BestD.less {a : Nat} (h : ∀ b, b < j → 0 < d b → d b ≤ x → ¬ ltD (b, d b) (a, d a)) (h1 : 0 < d j) (h2 : d j ≤ x) (hl : d j < d a) : BestD d x (j + 1) (j : Int) := by
  refine Or.inr ⟨j, rfl, by omega, h1, h2, fun b hb hp hx => ?_⟩
  by_cases e : b = j
  · rw [e]; exact ltD_irrefl _
  · have := h b (by omega) hp hx
    unfold ltD at *
    simp only at *
    omega
theorem BestD.more {a : Nat} (ha : a < j) (h1 : 0 < d a) (h2 : d a ≤ x) (h : ∀ b, b < j → 0 < d b → d b ≤ x → ¬ ltD (b, d b) (a, d a)) (hl : ¬ d j < d a) : BestD d x (j + 1) (a : Int) := by
  refine Or.inr ⟨a, rfl, by omega, h1, h2, fun b hb hp hx => ?_⟩
  by_cases e : b = j
  · subst e
    unfold ltD
    simp only
    omega
  · exact h b (by omega) hp hx
end
theorem Wnt.step {f : Nat → Nat} {x a : Nat} {P : List Du} (h : Wnt f x P) (ha : a < 64) (h0 : 0 < zap f P a) (hx : zap f P a ≤ x) (hb : ∀ b, b < 64 → 0 < zap f P b → zap f P b ≤ x → ¬ ltD (b, zap f P b) (a, zap f P a)) : Wnt f x (P ++ [(a, f a)]) := by
  obtain ⟨e, hn⟩ := zap_pos h0
  rw [e] at h0 hx hb
  refine ⟨List.pairwise_append.2 ⟨h.ord, List.pairwise_singleton _ _, fun p hp q hq => ?_⟩, fun p hp => ?_, fun k hk hz hkx p hp => ?_⟩
  · obtain rfl : q = (a, f a) := by simpa using hq
    exact h.more a ha (by rw [e]; exact h0) hx p hp
  · rcases List.mem_append.1 hp with hp | hp
    · exact h.mem p hp
    · obtain rfl : p = (a, f a) := by simpa using hp
      exact ⟨ha, h0, hx, rfl⟩
  · rw [zap_app] at hz
    have hka : k ≠ a := fun e2 => by rw [e2, upd_at] at hz; omega
    rw [upd_ne _ _ _ _ hka] at hz
    rcases List.mem_append.1 hp with hp | hp
    · exact h.more k hk hz hkx p hp
    · obtain rfl : p = (a, f a) := by simpa using hp
      have ek := (zap_pos hz).1
      have hnl := hb k hk hz (by rw [ek]; exact hkx)
      rw [ek] at hnl
      by_cases c : ltD (a, f a) (k, f k)
      · exact c
      · have := ltD_tot c hnl
        exact absurd (congrArg Prod.fst this).symm hka
theorem Wnt.due {f : Nat → Nat} {x : Nat} {P : List Du} (h : Wnt f x P) (hn : ∀ b, b < 64 → ¬ (0 < zap f P b ∧ zap f P b ≤ x)) : Due f x P := by
  refine ⟨h.ord, fun p => ⟨h.mem p, ?_⟩⟩
  rintro ⟨h1, h2, h3, h4⟩
  by_cases c : ∃ q ∈ P, q.1 = p.1
  · obtain ⟨q, hq, e⟩ := c
    have := (h.mem q hq).2.2.2
    have : q = p := Prod.ext e (by rw [this, h4, e])
    rw [← this]; exact hq
  · have e : zap f P p.1 = f p.1 := zap_out fun q hq e => c ⟨q, hq, e⟩
    exact absurd (by rw [e]; exact ⟨h2, h3⟩) (hn p.1 h1)
theorem zap_rest {f : Nat → Nat} {x : Nat} {L : List Du} (h : Due f x L) (k : Nat) (hk : k < 64) : zap f L k = rest f x k := by
  unfold rest
  by_cases c : f k ≤ x
  · rw [if_pos c]
    refine zap_in ?_
    by_cases c0 : f k = 0
    · exact Or.inl c0
    · exact Or.inr ⟨(k, f k), (h.mem _).2 ⟨hk, by show 0 < f k; omega, c, rfl⟩, rfl⟩
  · rw [if_neg c]
    refine zap_out fun p hp e => ?_
    obtain ⟨_, _, a3, _⟩ := (h.mem p).1 hp
    rw [e] at a3
    exact c a3
end WheelP

/-- A wheel beside a row, in known blocks below N. -/
structure RowM (w0 : World) (N : Nat) (w : World) (p : Nat) (m : Nat → Option Nat) (n : Nat) (f : Nat → Nat) (c : Nat) (d : Nat → Nat) : Prop where
  whl : Whl w p m n f
  lo : ∀ b, InW p m b → w0.heap.size ≤ b ∧ b < N
  out : ¬ InW p m c
  vec : Vec w c 64 (fun i => (d i : Int))
  lc : w0.heap.size ≤ c ∧ c < N
  up : N ≤ w.heap.size
  bel : Below w0.heap.size w0 w
theorem RowM.of {w0 w : World} {p n c : Nat} {f d : Nat → Nat} (h : RowW w0 w p n f c d) : ∃ m, RowM w0 w.heap.size w p m n f c d := by
  obtain ⟨m, h1, h2, h3⟩ := h.ex
  exact ⟨m, h1, fun b hb => ⟨h2 b hb, h1.in hb⟩, h3, h.vec, ⟨h.lc, h.vec.lt⟩, Nat.le_refl _, h.bel⟩
section
variable {w0 w w1 : World} {N p n c : Nat} {m : Nat → Option Nat} {f d : Nat → Nat} (h : RowM w0 N w p m n f c d)
include h
theorem RowM.row : RowW w0 w p n f c d := ⟨⟨m, h.whl, fun b hb => (h.lo b hb).1, h.out⟩, h.vec, h.lc.1, h.bel⟩
theorem RowM.below (hb : Below w.heap.size w w1) : RowM w0 N w1 p m n f c d :=
  ⟨h.whl.below hb, h.lo, h.out, h.vec.keep hb, h.lc, Nat.le_trans h.up hb.size, h.bel.trans (hb.mono h.bel.size)⟩
theorem RowM.lower (hb : Below N w w1) (hN : w0.heap.size ≤ N) : RowM w0 N w1 p m n f c d :=
  ⟨h.whl.keep (Keep.lower hb) fun b hc e => by have := (h.lo b hc).2; omega, h.lo, h.out, h.vec.below hb h.lc.2, h.lc, Nat.le_trans h.up hb.size, h.bel.trans (hb.mono hN)⟩
theorem RowM.put (k x : Nat) : RowM w0 N (w.setCell ⟨c, k, none⟩ (.int .i64 (x : Int))) p m n f c (upd d k x) := by
  have hk : Keep (fun b => b = c) w (w.setCell ⟨c, k, none⟩ (.int .i64 (x : Int))) := Keep.setCell _ w c k _ rfl
  refine ⟨h.whl.keep hk fun b hb e => h.out (e ▸ hb), h.lo, h.out, (h.vec.set k x).congr fun i hi => ?_, h.lc, Nat.le_trans h.up hk.size, h.bel.trans (hk.below (fun b e => e ▸ h.lc.1) h.bel.size)⟩
  unfold upd
  by_cases e : i = k
  · rw [if_pos e, if_pos e]
  · rw [if_neg e, if_neg e]
theorem RowM.tick (x : Nat) (hx : okT n x) : Calls Tryd.prog 11 #[.pointer (some ⟨p, 0, none⟩), .int .i64 x] w fun e w' => ∃ v L, e = .returned (.tuple #[v, .nilIface]) ∧ Due f x L ∧ OwnI w' N v (zsD L) ∧ RowM w0 N w' p m x (rest f x) c d ∧ ∀ u l, OwnI w N u l → OwnI w' N u l := by
  refine (wTick_ok w p m n f h.whl x (by have := hx.1; omega) (by have := hx.2; omega)).mono ?_
  rintro e w' ⟨v, L, rfl, a1, a2, a3, a4⟩
  have hv := a4.block c h.vec.lt h.out
  refine ⟨v, L, rfl, a1, a2.down h.up, ⟨a3, h.lo, h.out, ⟨Nat.lt_of_lt_of_le h.vec.lt a4.size, fun i hi => (World.cell?_of_block (w := w) (a := ⟨c, i, none⟩) hv).trans (h.vec.c i hi), fun i => (World.frozen?_of_block (w := w) (a := ⟨c, i, none⟩) hv).trans (h.vec.f i)⟩, h.lc, Nat.le_trans h.up a4.size, h.bel.trans (a4.below (fun b hb => (h.lo b hb).1) h.bel.size)⟩, fun u l hu => hu.stayK a4 fun q hq e => ?_⟩
  have := (h.lo q e).2
  omega
end
theorem clear_stp {w : World} {p now : Nat} {m : Nat → Option Nat} {f : Nat → Nat} (h : Whl w p m now f) (k : Nat) (hk : k < 64) :
    Calls Tryd.prog 10 #[.pointer (some ⟨p, 0, none⟩), .int .i64 k] w fun e w' => e = .returned (if 0 < f k then .nilIface else eV 2) ∧ Stp w w' p m now (upd f k 0) := by
  refine (wClear_ok w p m now f h k hk).mono ?_
  rintro e w' ⟨rfl, a1, a2⟩
  exact ⟨rfl, m, a1, a2, fun _ hb => Or.inl hb⟩
theorem zsD_one (s x : Nat) : zsD [(s, x)] = [(s : Int)] := rfl
/-- The length of a slice. -/
def lenV : Value → Nat
  | .slice _ n _ => n
  | _ => 0
end Go.Proofs.YtdgfaolflnljaaaDoor
