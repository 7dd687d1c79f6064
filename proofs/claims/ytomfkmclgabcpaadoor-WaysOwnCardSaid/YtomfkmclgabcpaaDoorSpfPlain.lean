/-
  PLAIN FACTS on the nearest first: a queue of nodes with sums, in whatever order they are taken; what holds while it is worked off; what is left is how far each is. How far there is how far back; a detour is no shorter; with more links none is farther.
-/
import Derived.Test.YtomfkmclgabcpaaDoorBellPlain
import Derived.Test.YtomfkmclgabcpaaDoorGraphMore
namespace Go.Proofs.YtomfkmclgabcpaaDoor
open Go.RowKit

namespace SpfP
open MatP (T Bd pw)
open BellP (Cost far ct est st it rd vec)
/-- As far there as back. -/
def Sym (C : T) : Prop := ∀ i j, C i j = C j i
theorem ct_sym (l : List Lk) : Sym (ct l) := fun i j => by unfold ct; rw [costG_swap]
/-- One node's sum put anew. -/
def upd (d : Nat → Nat) (m x : Nat) : Nat → Nat := fun i => if i = m then x else d i
theorem upd_own (d : Nat → Nat) (m x : Nat) : upd d m x m = x := if_pos rfl
theorem upd_other (d : Nat → Nat) (x : Nat) {m i : Nat} (h : i ≠ m) : upd d m x i = d i := if_neg h
/-- All sums together. -/
def tot (d : Nat → Nat) : Nat → Nat
  | 0 => 0
  | n + 1 => tot d n + d n
theorem tot_congr {d d' : Nat → Nat} : ∀ n, (∀ i, i < n → d i = d' i) → tot d n = tot d' n
  | 0, _ => rfl
  | n + 1, h => by rw [tot, tot, tot_congr n (fun i hi => h i (by omega)), h n (by omega)]
theorem tot_upd (d : Nat → Nat) (m x : Nat) : ∀ n, m < n → tot (upd d m x) n + d m = tot d n + x
  | n + 1, h => by
    rw [tot, tot]
    by_cases e : m = n
    · subst e
      rw [upd_own, tot_congr (d := upd d m x) (d' := d) m (fun i hi => upd_other d x (by omega))]
      omega
    · rw [upd_other d x (Ne.symm e)]
      have := tot_upd d m x n (by omega)
      omega
theorem tot_le {d : Nat → Nat} : ∀ n, (∀ i, i < n → d i ≤ 16) → tot d n ≤ 16 * n
  | 0, _ => Nat.le_refl _
  | n + 1, h => by
    have h1 := tot_le n (fun i hi => h i (by omega))
    have h2 := h n (by omega)
    rw [tot]; omega

/-- WHAT HOLDS WHILE THE QUEUE IS WORKED OFF, between two nodes. -/
structure Fall (n : Nat) (C : T) (fr : Nat) (d : Nat → Nat) (L : List (Nat × Nat)) : Prop where
  dg : d fr = 0
  bd : ∀ i, i < n → d i ≤ 16
  q : ∀ e ∈ L, e.1 < n ∧ d e.1 ≤ e.2 ∧ e.2 ≤ 15
  sound : ∀ i, i < n → far n C fr i ≤ d i
  more : ∀ v, v < n → d v < 16 → (v, d v) ∈ L ∨ ∀ w, w < n → d w ≤ d v + C v w
/-- The same while the node v is being left, whose sum is s. -/
structure Mid (n : Nat) (C : T) (fr v s m : Nat) (d : Nat → Nat) (L : List (Nat × Nat)) : Prop where
  dg : d fr = 0
  bd : ∀ i, i < n → d i ≤ 16
  q : ∀ e ∈ L, e.1 < n ∧ d e.1 ≤ e.2 ∧ e.2 ≤ 15
  sound : ∀ i, i < n → far n C fr i ≤ d i
  vlt : v < n
  at_ : d v = s
  slt : s ≤ 15
  more : ∀ u, u < n → u ≠ v → d u < 16 → (u, d u) ∈ L ∨ ∀ w, w < n → d w ≤ d u + C u w
  done : ∀ w, w < m → d w ≤ s + C v w
theorem Fall.start {n : Nat} {C : T} (hC : Cost C) {fr : Nat} (hf : fr < n) : Fall n C fr (st fr) [(fr, 0)] := by
  have h0 : st fr fr = 0 := if_pos rfl
  refine ⟨h0, fun i _ => BellP.st_bd fr i, fun e he => ?_, fun i hi => ?_, fun v _ hv => ?_⟩
  · have : e = (fr, 0) := by simpa using he
    subst this
    exact ⟨hf, by show st fr fr ≤ 0; omega, by show 0 ≤ 15; omega⟩
  · by_cases e : i = fr
    · subst e; rw [BellP.far_to hC hf]; omega
    · have h1 : st fr i = 16 := if_neg e
      have := BellP.far_bd n C fr i
      omega
  · by_cases e : v = fr
    · subst e; left; rw [h0]; simp
    · have h1 : st fr v = 16 := if_neg e
      omega
theorem Fall.perm {n : Nat} {C : T} {fr : Nat} {d : Nat → Nat} {L L' : List (Nat × Nat)} (h : Fall n C fr d L) (hp : ∀ e, e ∈ L ↔ e ∈ L') : Fall n C fr d L' :=
  ⟨h.dg, h.bd, fun e he => h.q e ((hp e).2 he), h.sound, fun v hv hd => (h.more v hv hd).imp (fun h => (hp _).1 h) id⟩
/-- One is taken that has been left behind. -/
theorem Fall.skip {n : Nat} {C : T} {fr v s : Nat} {d : Nat → Nat} {L : List (Nat × Nat)} (h : Fall n C fr d ((v, s) :: L)) (hs : d v < s) : Fall n C fr d L := by
  refine ⟨h.dg, h.bd, fun e he => h.q e (List.mem_cons_of_mem _ he), h.sound, fun u hu hd => ?_⟩
  rcases h.more u hu hd with h1 | h1
  · rcases List.mem_cons.1 h1 with e | h2
    · injection e with e1 e2
      subst e1; omega
    · exact Or.inl h2
  · exact Or.inr h1
/-- One is taken to be left. -/
theorem Fall.take {n : Nat} {C : T} {fr v s : Nat} {d : Nat → Nat} {L : List (Nat × Nat)} (h : Fall n C fr d ((v, s) :: L)) (hs : ¬ d v < s) : Mid n C fr v s 0 d L := by
  obtain ⟨h1, h2, h3⟩ := h.q (v, s) (by simp)
  have h2 : d v ≤ s := h2
  refine ⟨h.dg, h.bd, fun e he => h.q e (List.mem_cons_of_mem _ he), h.sound, h1, by omega, h3, fun u hu huv hd => ?_, fun w hw => by omega⟩
  rcases h.more u hu hd with h4 | h4
  · rcases List.mem_cons.1 h4 with e | h5
    · injection e with e1 _
      exact absurd e1 huv
    · exact Or.inl h5
  · exact Or.inr h4
/-- The next one is no nearer by it. -/
theorem Mid.stay {n : Nat} {C : T} {fr v s m : Nat} {d : Nat → Nat} {L : List (Nat × Nat)} (h : Mid n C fr v s m d L) (hm : m < n) (hs : ¬ DistP.add s (C v m) < d m) : Mid n C fr v s (m + 1) d L := by
  refine ⟨h.dg, h.bd, h.q, h.sound, h.vlt, h.at_, h.slt, h.more, fun w hw => ?_⟩
  by_cases e : w = m
  · subst e
    rw [MatP.add_eq] at hs
    omega
  · exact h.done w (by omega)
/-- The next one is nearer by it. -/
theorem Mid.near {n : Nat} {C : T} (hC : Cost C) (hS : Sym C) {fr v s m : Nat} (hf : fr < n) {d : Nat → Nat} {L L' : List (Nat × Nat)} (h : Mid n C fr v s m d L) (hm : m < n) (hs : DistP.add s (C v m) < d m) (hp : ∀ e, e ∈ L' ↔ e = (m, DistP.add s (C v m)) ∨ e ∈ L) : Mid n C fr v s (m + 1) (upd d m (DistP.add s (C v m))) L' := by
  have hbm := h.bd m hm
  have hmf : m ≠ fr := fun e => by subst e; have := h.dg; omega
  have hat := h.at_
  have hsl := h.slt
  have hmv : m ≠ v := fun e => by
    subst e
    have := hC.dg m
    rw [MatP.add_eq] at hs
    omega
  have hle : ∀ i, upd d m (DistP.add s (C v m)) i ≤ d i := fun i => by
    by_cases e : i = m
    · subst e; rw [upd_own]; omega
    · rw [upd_other _ _ e]; exact Nat.le_refl _
  refine ⟨by rw [upd_other _ _ hmf.symm]; exact h.dg, fun i hi => Nat.le_trans (hle i) (h.bd i hi), fun e he => ?_, fun i hi => ?_, h.vlt, by rw [upd_other _ _ hmv.symm]; exact hat, hsl, fun u hu huv hd => ?_, fun w hw => ?_⟩
  · rcases (hp e).1 he with e1 | e1
    · subst e1
      refine ⟨hm, ?_, ?_⟩
      · show upd d m _ m ≤ _
        rw [upd_own]; exact Nat.le_refl _
      · show DistP.add s (C v m) ≤ 15
        omega
    · obtain ⟨h1, h2, h3⟩ := h.q e e1
      exact ⟨h1, Nat.le_trans (hle _) h2, h3⟩
  · by_cases e : i = m
    · subst e
      rw [upd_own, MatP.add_eq]
      have h1 := BellP.far_step hC hf i v hi h.vlt
      have h2 := h.sound v h.vlt
      have h3 := BellP.far_bd n C fr i
      have h4 := hS i v
      omega
    · rw [upd_other _ _ e]; exact h.sound i hi
  · by_cases e : u = m
    · subst e
      left; rw [upd_own]; exact (hp _).2 (Or.inl rfl)
    · rw [upd_other _ _ e] at hd ⊢
      rcases h.more u hu huv hd with h1 | h1
      · exact Or.inl ((hp _).2 (Or.inr h1))
      · exact Or.inr fun w hw => Nat.le_trans (hle w) (h1 w hw)
  · by_cases e : w = m
    · subst e
      rw [upd_own, MatP.add_eq]; omega
    · exact Nat.le_trans (hle w) (h.done w (by omega))
/-- All next ones have been looked at. -/
theorem Mid.back {n : Nat} {C : T} {fr v s : Nat} {d : Nat → Nat} {L : List (Nat × Nat)} (h : Mid n C fr v s n d L) : Fall n C fr d L := by
  refine ⟨h.dg, h.bd, h.q, h.sound, fun u hu hd => ?_⟩
  by_cases e : u = v
  · subst e
    right; intro w hw
    have := h.done w hw
    have := h.at_
    omega
  · exact h.more u hu e hd
/-- None is left in the queue. -/
theorem Fall.far {n : Nat} {C : T} (hS : Sym C) {fr : Nat} {d : Nat → Nat} (h : Fall n C fr d []) (i : Nat) (hi : i < n) : d i = BellP.far n C fr i := by
  have hr : ∀ v w, v < n → w < n → d w ≤ d v + C v w := fun v w hv hw => by
    by_cases e : d v < 16
    · rcases h.more v hv e with h1 | h1
      · exact absurd h1 (by simp)
      · exact h1 w hw
    · have := h.bd w hw
      omega
  have : ∀ r i, i < n → d i ≤ it n C fr (st fr) r i := by
    intro r
    induction r with
    | zero =>
      intro i hi
      show d i ≤ st fr i
      unfold st
      split
      · rename_i e; rw [e, h.dg]; omega
      · exact h.bd i hi
    | succ r ih =>
      intro i hi
      show d i ≤ rd n C fr (it n C fr (st fr) r) i
      unfold rd
      split
      · rename_i e; rw [e, h.dg]; omega
      · rcases BellP.est_at C i (it n C fr (st fr) r) n with h1 | ⟨j, hj, _, h1⟩
        · rw [h1]; exact h.bd i hi
        · have h2 := hr j i hj hi
          have h3 := ih j hj
          have h4 := hS i j
          omega
  exact Nat.le_antisymm (this n i hi) (h.sound i hi)

/-! ### What holds of how far each is -/
theorem far_pw {n : Nat} {C : T} (hC : Cost C) {to : Nat} (ht : to < n) (i : Nat) (hi : i < n) : far n C to i = pw n C n i to := BellP.it_pw hC ht n i hi
theorem min2_one {C : T} (hC : Cost C) : MatP.min2 C MatP.one = C := by
  funext i j
  unfold MatP.min2
  rw [MatP.least_eq]
  by_cases e : i = j
  · subst e; have := hC.dg i; omega
  · have := hC.bd i j
    rw [MatP.one_off e]; omega
theorem far_lw {n : Nat} {C : T} (hC : Cost C) {to : Nat} (ht : to < n) (i : Nat) (hi : i < n) : far n C to i = MatP.lw n C n i to := by
  rw [far_pw hC ht i hi, ← MatP.pw_star hC.bd i to hi ht, min2_one hC]
theorem far_star {n : Nat} {C S : T} (hC : Cost C) (hS : MatP.Star n C S) {to : Nat} (ht : to < n) (i : Nat) (hi : i < n) : far n C to i = S i to := by
  rw [far_lw hC ht i hi]
  exact (MatP.lw_star hC.bd).same hS i to hi ht
/-- As far there as back. -/
theorem far_sym {n : Nat} {C : T} (hC : Cost C) (hS : Sym C) {a b : Nat} (ha : a < n) (hb : b < n) : far n C a b = far n C b a := by
  have S := MatP.lw_star (n := n) hC.bd
  have S' : MatP.Star n C (fun i j => MatP.lw n C n j i) := by
    refine ⟨fun i j hi hj => S.bd j i hj hi, fun i j hi hj => by rw [hS i j]; exact S.le j i hj hi, fun i hi => S.dg i hi, fun i j k hi hj hk => ?_, fun U h1 h2 h3 i j hi hj => ?_⟩
    · have := S.tri k j i hk hj hi
      show MatP.lw n C n k i ≤ MatP.lw n C n j i + MatP.lw n C n k j
      omega
    · refine S.top (fun i j => U j i) (fun i j hi hj => ⟨(h1 j i hj hi).1, by rw [hS i j]; exact (h1 j i hj hi).2⟩) (fun i hi => h2 i hi) (fun i j k hi hj hk => ?_) j i hj hi
      have := h3 k j i hk hj hi
      show U k i ≤ U j i + U k j
      omega
  rw [far_lw hC ha b hb, far_lw hC hb a ha]
  exact S.same S' b a hb ha
/-- No detour is shorter. -/
theorem far_tri {n : Nat} {C : T} (hC : Cost C) {a b c : Nat} (ha : a < n) (hb : b < n) (hc : c < n) : far n C a c ≤ far n C a b + far n C b c := by
  have S := MatP.lw_star (n := n) hC.bd
  have h1 := S.tri c b a hc hb ha
  rw [far_lw hC ha c hc, far_lw hC ha b hb, far_lw hC hb c hc]
  omega
/-- What another node is reached by. -/
theorem far_by {n : Nat} {C : T} (hC : Cost C) {fr : Nat} (hf : fr < n) (i : Nat) (hi : i < n) (he : i ≠ fr) : far n C fr i = 16 ∨ ∃ j, j < n ∧ j ≠ i ∧ far n C fr i = C i j + far n C fr j := by
  have h := BellP.far_fixed hC hf i hi
  have h2 : rd n C fr (far n C fr) i = est C i (far n C fr) n := if_neg he
  rcases BellP.est_at C i (far n C fr) n with h3 | ⟨j, h3, h4, h5⟩
  · left; omega
  · right; exact ⟨j, h3, h4, by omega⟩
/-- Another node is not near. -/
theorem far_pos {n : Nat} {C : T} (hC : Cost C) {fr : Nat} (hf : fr < n) (i : Nat) (hi : i < n) (he : i ≠ fr) : 0 < far n C fr i := by
  rcases far_by hC hf i hi he with h | ⟨j, h1, h2, h3⟩
  · omega
  · have := hC.off i j (Ne.symm h2)
    omega
/-- With costs that are no more none is farther. -/
theorem far_mono {n : Nat} {C C' : T} (hC : Cost C) (hC' : Cost C') (h : ∀ i j, i < n → j < n → C' i j ≤ C i j) {fr : Nat} (hf : fr < n) (i : Nat) (hi : i < n) : far n C' fr i ≤ far n C fr i := by
  have S := MatP.lw_star (n := n) hC'.bd
  rw [far_lw hC hf i hi, far_lw hC' hf i hi]
  exact (MatP.lw_star (n := n) hC.bd).top _ (fun i j hi hj => ⟨S.bd i j hi hj, Nat.le_trans (S.le i j hi hj) (h i j hi hj)⟩) S.dg S.tri i fr hi hf

/-! ### By whom a node is reached -/
/-- Whether the node j is one by whom i is reached. -/
def isUp (n : Nat) (C : T) (fr i j : Nat) : Bool := decide (j ≠ i ∧ far n C fr i < 16 ∧ DistP.add (far n C fr j) (C i j) = far n C fr i)
def upsTo (n : Nat) (C : T) (fr i : Nat) : Nat → List Int
  | 0 => []
  | m + 1 => if isUp n C fr i m = true then upsTo n C fr i m ++ [(m : Int)] else upsTo n C fr i m
def ups (n : Nat) (C : T) (fr i : Nat) : List Int := upsTo n C fr i n
theorem upsTo_len (n : Nat) (C : T) (fr i : Nat) : ∀ m, (upsTo n C fr i m).length ≤ m
  | 0 => Nat.le_refl _
  | m + 1 => by
    have := upsTo_len n C fr i m
    rw [upsTo]; split
    · rw [List.length_append]; simp; omega
    · omega
theorem mem_upsTo (n : Nat) (C : T) (fr i : Nat) (x : Int) : ∀ m, x ∈ upsTo n C fr i m ↔ ∃ j : Nat, j < m ∧ x = j ∧ isUp n C fr i j = true
  | 0 => by simp [upsTo]
  | m + 1 => by
    rw [upsTo]
    split
    · rename_i h
      rw [List.mem_append, mem_upsTo n C fr i x m, List.mem_singleton]
      constructor
      · rintro (⟨j, h1, h2, h3⟩ | h1)
        · exact ⟨j, by omega, h2, h3⟩
        · exact ⟨m, by omega, h1, h⟩
      · rintro ⟨j, h1, h2, h3⟩
        by_cases e : j = m
        · right; rw [h2, e]
        · left; exact ⟨j, by omega, h2, h3⟩
    · rename_i h
      rw [mem_upsTo n C fr i x m]
      constructor
      · rintro ⟨j, h1, h2, h3⟩
        exact ⟨j, by omega, h2, h3⟩
      · rintro ⟨j, h1, h2, h3⟩
        by_cases e : j = m
        · subst e; exact absurd h3 h
        · exact ⟨j, by omega, h2, h3⟩
theorem isUp_iff (n : Nat) (C : T) (fr i j : Nat) : isUp n C fr i j = true ↔ j ≠ i ∧ far n C fr i < 16 ∧ far n C fr j + C i j = far n C fr i := by
  unfold isUp
  rw [decide_eq_true_iff, MatP.add_eq]
  constructor
  · rintro ⟨h1, h2, h3⟩
    exact ⟨h1, h2, by omega⟩
  · rintro ⟨h1, h2, h3⟩
    exact ⟨h1, h2, by omega⟩
/-- None is told where there is no way. -/
theorem ups_none {n : Nat} {C : T} {fr i : Nat} (h : ¬ far n C fr i < 16) : ∀ m, upsTo n C fr i m = []
  | 0 => rfl
  | m + 1 => by
    have : ¬ isUp n C fr i m = true := fun e => h ((isUp_iff n C fr i m).1 e).2.1
    rw [upsTo, if_neg this, ups_none h m]
/-- The one itself is reached by none. -/
theorem not_up {n : Nat} {C : T} (hC : Cost C) {fr : Nat} (hf : fr < n) (j : Nat) : ¬ isUp n C fr fr j = true := fun e => by
  obtain ⟨h1, _, h2⟩ := (isUp_iff n C fr fr j).1 e
  have := BellP.far_to hC hf
  have := hC.off fr j (Ne.symm h1)
  omega
theorem ups_from {n : Nat} {C : T} (hC : Cost C) {fr : Nat} (hf : fr < n) : ∀ m, upsTo n C fr fr m = []
  | 0 => rfl
  | m + 1 => by rw [upsTo, if_neg (not_up hC hf m), ups_from hC hf m]
/-- Whoever can be reached is reached by one. -/
theorem ups_some {n : Nat} {C : T} (hC : Cost C) {fr : Nat} (hf : fr < n) (i : Nat) (hi : i < n) : ups n C fr i ≠ [] ↔ i ≠ fr ∧ far n C fr i < 16 := by
  constructor
  · intro h
    by_cases e : i = fr
    · subst e; exact absurd (ups_from hC hf n) h
    · by_cases e2 : far n C fr i < 16
      · exact ⟨e, e2⟩
      · exact absurd (ups_none e2 n) h
  · rintro ⟨h1, h2⟩ h3
    rcases far_by hC hf i hi h1 with h | ⟨j, h4, h5, h6⟩
    · omega
    · have : (j : Int) ∈ ups n C fr i := (mem_upsTo n C fr i j n).2 ⟨j, h4, rfl, (isUp_iff n C fr i j).2 ⟨h5, h2, by omega⟩⟩
      rw [h3] at this
      simp at this
end SpfP
end Go.Proofs.YtomfkmclgabcpaaDoor
