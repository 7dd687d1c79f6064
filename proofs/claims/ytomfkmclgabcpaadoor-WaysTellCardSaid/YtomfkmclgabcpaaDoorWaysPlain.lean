/-
  PLAIN FACTS on ways: which ones lead from one node to another one, how long they are, there and back; the shortest ones in their order, how many, and the first.
-/
import Derived.Test.YtomfkmclgabcpaaDoorSpfPlain
namespace Go.Proofs.YtomfkmclgabcpaaDoor
open Go.RowKit

namespace WaysP
open MatP (T)
open BellP (Cost far)
open SpfP (Sym isUp isUp_iff upsTo ups)
/-- The way p leads from a to b, so long. -/
inductive Wk (n : Nat) (C : T) : Nat → List Nat → Nat → Nat → Prop
  | one (a : Nat) : a < n → Wk n C a [a] a 0
  | more (a k : Nat) (p : List Nat) (b d : Nat) : a < n → k ≠ a → C a k < 16 → Wk n C k p b d → Wk n C a (a :: p) b (C a k + d)
theorem Wk.lt {n : Nat} {C : T} {a b d : Nat} {p : List Nat} (h : Wk n C a p b d) : a < n := by cases h <;> assumption
theorem Wk.lt' {n : Nat} {C : T} {a b d : Nat} {p : List Nat} (h : Wk n C a p b d) : b < n := by
  induction h with
  | one a h => exact h
  | more _ _ _ _ _ _ _ _ _ ih => exact ih
theorem Wk.head {n : Nat} {C : T} {a b d : Nat} {p : List Nat} (h : Wk n C a p b d) : ∃ r, p = a :: r := by
  cases h with
  | one => exact ⟨_, rfl⟩
  | more _ k p => exact ⟨_, rfl⟩
theorem Wk.last {n : Nat} {C : T} {a b d : Nat} {p : List Nat} (h : Wk n C a p b d) : p[p.length - 1]! = b := by
  induction h with
  | one a h => rfl
  | more a k p b d _ _ _ h ih =>
    obtain ⟨r, rfl⟩ := h.head
    simpa using ih
theorem Wk.far {n : Nat} {C : T} (hC : Cost C) {a b d : Nat} {p : List Nat} (h : Wk n C a p b d) : far n C b a ≤ d := by
  induction h with
  | one a h => rw [BellP.far_to hC h]; exact Nat.le_refl _
  | more a k p b d ha _ _ h ih =>
    have := BellP.far_step hC h.lt' a k ha h.lt
    omega
theorem Wk.long {n : Nat} {C : T} (hC : Cost C) {a b d : Nat} {p : List Nat} (h : Wk n C a p b d) : d + 16 ≤ 16 * p.length := by
  induction h with
  | one a h => simp
  | more a k p b d ha _ _ h ih =>
    have := hC.bd a k
    simp only [List.length_cons]
    omega
theorem Wk.short {n : Nat} {C : T} (hC : Cost C) {a b d : Nat} {p : List Nat} (h : Wk n C a p b d) : p.length ≤ d + 1 := by
  induction h with
  | one a h => simp
  | more a k p b d ha hk _ h ih =>
    have := hC.off a k (Ne.symm hk)
    simp only [List.length_cons]
    omega
/-- One way after the other is a way, as long as both. -/
theorem Wk.app {n : Nat} {C : T} {a k b d e : Nat} {p q : List Nat} (h : Wk n C a p k d) (h' : Wk n C k q b e) : Wk n C a (p ++ q.drop 1) b (d + e) := by
  induction h with
  | one a ha =>
    obtain ⟨r, rfl⟩ := h'.head
    simpa using h'
  | more a j p k d ha hj hc h ih =>
    rw [List.cons_append, Nat.add_assoc]
    exact Wk.more a j _ b _ ha hj hc (ih h')
/-- From the last node back it is as long. -/
theorem Wk.back {n : Nat} {C : T} (hS : Sym C) {a b d : Nat} {p : List Nat} (h : Wk n C a p b d) : Wk n C b p.reverse a d := by
  induction h with
  | one a ha => exact Wk.one a ha
  | more a k p b d ha hk hc h ih =>
    have h1 := ih.app (Wk.more k a [a] a 0 h.lt (Ne.symm hk) (by rw [hS k a]; exact hc) (Wk.one a ha))
    rw [List.reverse_cons, show C a k + d = d + (C k a + 0) by rw [hS k a]; omega]
    exact h1

/-! ### The shortest ones, in their order -/
/-- What the first m next nodes give. -/
def shTo (R : Nat → Nat → List (List Nat)) (C : T) (a d : Nat) : Nat → List (List Nat)
  | 0 => []
  | m + 1 => shTo R C a d m ++ (if m = a ∨ C a m = 16 ∨ d < C a m then [] else (R (d - C a m) m).map fun p => a :: p)
/-- Ways to b, just so long. -/
def sh (n : Nat) (C : T) (b : Nat) : Nat → Nat → Nat → List (List Nat)
  | 0, _, _ => []
  | f + 1, d, a => if a = b ∧ d = 0 then [[b]] else shTo (sh n C b f) C a d n
theorem mem_shTo (R : Nat → Nat → List (List Nat)) (C : T) (a d : Nat) (p : List Nat) : ∀ m, p ∈ shTo R C a d m ↔ ∃ k q, k < m ∧ k ≠ a ∧ C a k ≠ 16 ∧ C a k ≤ d ∧ q ∈ R (d - C a k) k ∧ p = a :: q
  | 0 => by simp [shTo]
  | m + 1 => by
    rw [shTo, List.mem_append, mem_shTo R C a d p m]
    constructor
    · rintro (⟨k, q, h1, h2⟩ | h)
      · exact ⟨k, q, by omega, h2⟩
      · by_cases g : m = a ∨ C a m = 16 ∨ d < C a m
        · rw [if_pos g] at h; simp at h
        · rw [if_neg g] at h
          obtain ⟨q, h1, h2⟩ := List.mem_map.1 h
          exact ⟨m, q, by omega, by omega, by omega, by omega, h1, h2.symm⟩
    · rintro ⟨k, q, h1, h2, h3, h4, h5, h6⟩
      by_cases e : k = m
      · subst e
        right
        rw [if_neg (by omega)]
        exact List.mem_map.2 ⟨q, h5, h6.symm⟩
      · exact Or.inl ⟨k, q, by omega, h2, h3, h4, h5, h6⟩
theorem mem_sh {n : Nat} {C : T} (hC : Cost C) {b : Nat} (hb : b < n) : ∀ f d a p, a < n → d < f → (p ∈ sh n C b f d a ↔ Wk n C a p b d)
  | 0, d, _, _, _, h => by omega
  | f + 1, d, a, p, ha, hd => by
    rw [sh]
    by_cases h0 : a = b ∧ d = 0
    · obtain ⟨rfl, rfl⟩ := h0
      rw [if_pos ⟨rfl, rfl⟩, List.mem_singleton]
      constructor
      · rintro rfl; exact Wk.one a ha
      · intro h
        have hs := h.short hC
        obtain ⟨r, rfl⟩ := h.head
        have : r.length = 0 := by simpa using hs
        rw [List.length_eq_zero_iff.1 this]
    · rw [if_neg h0, mem_shTo]
      constructor
      · rintro ⟨k, q, h1, h2, h3, h4, h5, rfl⟩
        have hc := hC.off a k (Ne.symm h2)
        have hbd := hC.bd a k
        have := (mem_sh hC hb f (d - C a k) k q h1 (by omega)).1 h5
        have h7 := Wk.more a k q b _ ha h2 (by omega) this
        rwa [show C a k + (d - C a k) = d by omega] at h7
      · intro h
        cases h with
        | one => exact absurd ⟨rfl, rfl⟩ h0
        | more _ k q _ e _ h2 h3 h4 =>
          have hc := hC.off a k (Ne.symm h2)
          exact ⟨k, q, h4.lt, h2, by omega, by omega, (mem_sh hC hb f _ k q h4.lt (by omega)).2 (by rwa [show C a k + e - C a k = e by omega]), rfl⟩
theorem shTo_congr {R R' : Nat → Nat → List (List Nat)} {C : T} {a d : Nat} : ∀ m, (∀ k, k < m → k ≠ a → C a k ≤ d → R (d - C a k) k = R' (d - C a k) k) → shTo R C a d m = shTo R' C a d m
  | 0, _ => rfl
  | m + 1, h => by
    rw [shTo, shTo, shTo_congr m fun k hk => h k (by omega)]
    by_cases g : m = a ∨ C a m = 16 ∨ d < C a m
    · rw [if_pos g, if_pos g]
    · rw [if_neg g, if_neg g, h m (by omega) (by omega) (by omega)]
theorem sh_fuel {n : Nat} {C : T} (hC : Cost C) (b : Nat) : ∀ f f' d a, d < f → d < f' → sh n C b f d a = sh n C b f' d a
  | 0, _, d, _, h, _ => by omega
  | _, 0, d, _, _, h => by omega
  | f + 1, f' + 1, d, a, h, h' => by
    rw [sh, sh]
    by_cases h0 : a = b ∧ d = 0
    · rw [if_pos h0, if_pos h0]
    · rw [if_neg h0, if_neg h0]
      refine shTo_congr n fun k hk hka hc => ?_
      have := hC.off a k (Ne.symm hka)
      exact sh_fuel hC b f f' _ k (by omega) (by omega)
theorem nodup_shTo {R : Nat → Nat → List (List Nat)} {C : T} {a d : Nat} : ∀ m, (∀ k, k < m → k ≠ a → C a k ≤ d → (R (d - C a k) k).Nodup ∧ ∀ q ∈ R (d - C a k) k, ∃ r, q = k :: r) → (shTo R C a d m).Nodup
  | 0, _ => List.nodup_nil
  | m + 1, h => by
    rw [shTo, List.nodup_append]
    refine ⟨nodup_shTo m fun k hk => h k (by omega), ?_, ?_⟩
    · by_cases g : m = a ∨ C a m = 16 ∨ d < C a m
      · rw [if_pos g]; exact List.nodup_nil
      · rw [if_neg g]
        have h1 := (h m (by omega) (by omega) (by omega)).1
        refine List.Pairwise.map _ (fun p q hpq e => hpq ?_) h1
        exact (List.cons.inj e).2
    · intro p hp q hq e
      subst e
      obtain ⟨k, q, h1, h2, h3, h4, h5, rfl⟩ := (mem_shTo R C a d p m).1 hp
      by_cases g : m = a ∨ C a m = 16 ∨ d < C a m
      · rw [if_pos g] at hq; simp at hq
      · rw [if_neg g] at hq
        obtain ⟨q', h6, h7⟩ := List.mem_map.1 hq
        obtain ⟨_, rfl⟩ := List.cons.inj h7
        obtain ⟨r, hr⟩ := (h m (by omega) (by omega) (by omega)).2 _ h6
        obtain ⟨r', hr'⟩ := (h k (by omega) h2 h4).2 _ h5
        rw [hr] at hr'
        have := (List.cons.inj hr').1
        omega
theorem nodup_sh {n : Nat} {C : T} (hC : Cost C) {b : Nat} (hb : b < n) : ∀ f d a, d < f → (sh n C b f d a).Nodup
  | 0, d, _, h => by omega
  | f + 1, d, a, h => by
    rw [sh]
    by_cases h0 : a = b ∧ d = 0
    · rw [if_pos h0]; simp
    · rw [if_neg h0]
      refine nodup_shTo n fun k hk hka hc => ?_
      have := hC.off a k (Ne.symm hka)
      exact ⟨nodup_sh hC hb f _ k (by omega), fun q hq => ((mem_sh hC hb f _ k q hk (by omega)).1 hq).head⟩
theorem few : ∀ {l m : List (List Nat)}, l.Nodup → (∀ n ∈ l, n ∈ m) → l.length ≤ m.length := by
  intro l
  induction l with
  | nil => intro m _ _; simp
  | cons x r ih =>
    intro m hn hs
    have hx : x ∈ m := hs x (by simp)
    obtain ⟨h1, h2⟩ := List.nodup_cons.1 hn
    have h3 := ih (m := m.erase x) h2 (fun n hn' => (List.mem_erase_of_ne (fun e => h1 (by rw [← e]; exact hn'))).2 (hs n (by simp [hn'])))
    rw [List.length_erase_of_mem hx] at h3
    have := List.length_pos_of_mem hx
    simp only [List.length_cons]
    omega

/-- All shortest ways from a to b, in their order. -/
def al (n : Nat) (C : T) (b a : Nat) : List (List Nat) := if far n C b a < 16 then sh n C b 16 (far n C b a) a else []
/-- How many. -/
def num (n : Nat) (C : T) (b a : Nat) : Nat := (al n C b a).length
/-- The first one. -/
def fst (n : Nat) (C : T) (b a : Nat) : List Nat := (al n C b a).headD []
theorem mem_al {n : Nat} {C : T} (hC : Cost C) {b : Nat} (hb : b < n) (a : Nat) (ha : a < n) (p : List Nat) : p ∈ al n C b a ↔ far n C b a < 16 ∧ Wk n C a p b (far n C b a) := by
  unfold al
  by_cases h : far n C b a < 16
  · rw [if_pos h, mem_sh hC hb 16 _ a p ha h]
    exact ⟨fun e => ⟨h, e⟩, fun e => e.2⟩
  · rw [if_neg h]
    simp [h]
theorem al_le {n : Nat} {C : T} (hC : Cost C) (hS : Sym C) {a b : Nat} (ha : a < n) (hb : b < n) : num n C b a ≤ num n C a b := by
  have h0 : (al n C b a).Nodup := by
    unfold al
    by_cases h : far n C b a < 16
    · rw [if_pos h]; exact nodup_sh hC hb 16 _ a h
    · rw [if_neg h]; exact List.nodup_nil
  have hn : ((al n C b a).map List.reverse).Nodup := List.Pairwise.map _ (fun p q hpq e => hpq (by have := congrArg List.reverse e; simpa using this)) h0
  have := few (m := al n C a b) hn (fun p hp => by
    obtain ⟨q, h1, rfl⟩ := List.mem_map.1 hp
    obtain ⟨h2, h3⟩ := (mem_al hC hb a ha q).1 h1
    have hs := SpfP.far_sym hC hS ha hb
    refine (mem_al hC ha b hb _).2 ⟨by omega, ?_⟩
    rw [hs]
    exact h3.back hS)
  simpa [num] using this
/-- As many there as back. -/
theorem num_sym {n : Nat} {C : T} (hC : Cost C) (hS : Sym C) {a b : Nat} (ha : a < n) (hb : b < n) : num n C b a = num n C a b := Nat.le_antisymm (al_le hC hS ha hb) (al_le hC hS hb ha)
theorem al_own {n : Nat} {C : T} (hC : Cost C) {b : Nat} (hb : b < n) : al n C b b = [[b]] := by
  unfold al
  rw [BellP.far_to hC hb, if_pos (by omega), sh, if_pos ⟨rfl, rfl⟩]
theorem shTo_ups {n : Nat} {C : T} (hC : Cost C) {b a : Nat} (hb : b < n) (ha : a < n) (h16 : far n C b a < 16) : ∀ m, m ≤ n → shTo (sh n C b 15) C a (far n C b a) m = (upsTo n C b a m).flatMap fun x => (al n C b x.toNat).map fun p => a :: p
  | 0, _ => rfl
  | m + 1, hm => by
    rw [shTo, shTo_ups hC hb ha h16 m (by omega), upsTo]
    by_cases hu : isUp n C b a m = true
    · obtain ⟨h1, _, h3⟩ := (isUp_iff n C b a m).1 hu
      have hc := hC.off a m (Ne.symm h1)
      rw [if_pos hu, if_neg (by omega), List.flatMap_append]
      have e1 : far n C b a - C a m = far n C b m := by omega
      have e2 : al n C b m = sh n C b 15 (far n C b m) m := by
        unfold al
        rw [if_pos (by omega)]
        exact sh_fuel hC b _ _ _ m (by omega) (by omega)
      rw [e1]
      simp [e2]
    · rw [if_neg hu]
      by_cases g : m = a ∨ C a m = 16 ∨ far n C b a < C a m
      · rw [if_pos g, List.append_nil]
      · have hc := hC.off a m (by omega)
        have hst := BellP.far_step hC hb a m ha (by omega)
        have hne : ¬ far n C b m + C a m = far n C b a := fun e => hu ((isUp_iff n C b a m).2 ⟨by omega, h16, e⟩)
        have e1 : sh n C b 15 (far n C b a - C a m) m = [] := by
          refine List.eq_nil_iff_forall_not_mem.2 fun p hp => ?_
          have := ((mem_sh hC hb 15 _ m p (by omega) (by omega)).1 hp).far hC
          omega
        rw [if_neg g, e1]
        simp
/-- By each next one. -/
theorem al_step {n : Nat} {C : T} (hC : Cost C) {b a : Nat} (hb : b < n) (ha : a < n) (hne : a ≠ b) : al n C b a = (ups n C b a).flatMap fun x => (al n C b x.toNat).map fun p => a :: p := by
  by_cases h : far n C b a < 16
  · rw [show ups n C b a = upsTo n C b a n from rfl, ← shTo_ups hC hb ha h n (Nat.le_refl _)]
    unfold al
    rw [if_pos h, sh, if_neg (fun e => hne e.1)]
  · rw [show ups n C b a = [] from SpfP.ups_none h n]
    unfold al
    rw [if_neg h]; rfl
/-- The numbers of some next ones together. -/
def sums (n : Nat) (C : T) (b : Nat) (l : List Int) : Nat := (l.map fun x => num n C b x.toNat).sum
theorem num_own {n : Nat} {C : T} (hC : Cost C) {b : Nat} (hb : b < n) : num n C b b = 1 := by unfold num; rw [al_own hC hb]; rfl
theorem num_step {n : Nat} {C : T} (hC : Cost C) {b a : Nat} (hb : b < n) (ha : a < n) (hne : a ≠ b) : num n C b a = sums n C b (ups n C b a) := by
  unfold num
  rw [al_step hC hb ha hne, List.length_flatMap]
  unfold sums num
  simp
theorem sums_more (n : Nat) (C : T) (b : Nat) (l : List Int) (k : Nat) (hk : k < l.length) : sums n C b (l.take (k + 1)) = sums n C b (l.take k) + num n C b l[k]!.toNat := by
  have e : l.take (k + 1) = l.take k ++ [l[k]] := by rw [List.take_add_one, List.getElem?_eq_getElem hk]; rfl
  unfold sums
  rw [getElem!_pos l k hk, e, List.map_append, List.sum_append]
  simp only [List.map_cons, List.map_nil, List.sum_cons, List.sum_nil, Nat.add_zero]
theorem sums_app (n : Nat) (C : T) (b : Nat) (l m : List Int) : sums n C b (l ++ m) = sums n C b l + sums n C b m := by simp [sums]
theorem sums_le (n : Nat) (C : T) (b : Nat) (B : Nat) : ∀ l : List Int, (∀ x ∈ l, num n C b x.toNat ≤ B) → sums n C b l ≤ B * l.length
  | [], _ => by simp [sums]
  | x :: r, h => by
    have h1 := sums_le n C b B r fun y hy => h y (by simp [hy])
    have h2 := h x (by simp)
    have h3 : sums n C b (x :: r) = num n C b x.toNat + sums n C b r := by simp [sums]
    rw [h3, List.length_cons, Nat.mul_add]
    omega
theorem mem_ups {n : Nat} {C : T} {b a : Nat} {x : Int} (h : x ∈ ups n C b a) : ∃ j : Nat, x = j ∧ j < n ∧ j ≠ a ∧ far n C b a < 16 ∧ far n C b j + C a j = far n C b a := by
  obtain ⟨j, h1, h2, h3⟩ := (SpfP.mem_upsTo n C b a x n).1 h
  obtain ⟨h4, h5, h6⟩ := (isUp_iff n C b a j).1 h3
  exact ⟨j, h2, h1, h4, h5, h6⟩
theorem num_le {n : Nat} {C : T} (hC : Cost C) (h8 : n ≤ 8) {b : Nat} (hb : b < n) : ∀ f a, a < n → far n C b a < f → num n C b a ≤ 8 ^ f
  | 0, _, _, h => by omega
  | f + 1, a, ha, h => by
    by_cases e : a = b
    · subst e
      rw [num_own hC hb]; exact Nat.pow_pos (by omega)
    · rw [num_step hC hb ha e]
      have h1 := sums_le n C b (8 ^ f) (ups n C b a) (fun x hx => by
        obtain ⟨j, rfl, h1, h2, h3, h4⟩ := mem_ups hx
        have := hC.off a j (Ne.symm h2)
        rw [Int.toNat_natCast]
        exact num_le hC h8 hb f j h1 (by omega))
      have h2 : (ups n C b a).length ≤ 8 := Nat.le_trans (SpfP.upsTo_len n C b a n) h8
      exact Nat.le_trans h1 (by rw [Nat.pow_succ]; exact Nat.mul_le_mul_left _ h2)
theorem num_bd {n : Nat} {C : T} (hC : Cost C) (h8 : n ≤ 8) {a b : Nat} (ha : a < n) (hb : b < n) : num n C b a ≤ 2251799813685248 := by
  have := num_le hC h8 hb 17 a ha (by have := BellP.far_bd n C b a; omega)
  simpa using this
theorem sums_bd {n : Nat} {C : T} (hC : Cost C) (h8 : n ≤ 8) {a b : Nat} (hb : b < n) (k : Nat) : sums n C b ((ups n C b a).take k) ≤ 18014398509481984 := by
  have h1 := sums_le n C b 2251799813685248 ((ups n C b a).take k) (fun x hx => by
    obtain ⟨j, rfl, h1, _⟩ := mem_ups (List.mem_of_mem_take hx)
    rw [Int.toNat_natCast]
    exact num_bd hC h8 h1 hb)
  have h2 : (ups n C b a).length ≤ 8 := Nat.le_trans (SpfP.upsTo_len n C b a n) h8
  have h3 : ((ups n C b a).take k).length ≤ 8 := by rw [List.length_take]; omega
  omega
theorem al_some {n : Nat} {C : T} (hC : Cost C) {b : Nat} (hb : b < n) : ∀ f a, a < n → far n C b a < f → far n C b a < 16 → al n C b a ≠ []
  | 0, _, _, h, _ => by omega
  | f + 1, a, ha, h, h16 => by
    by_cases e : a = b
    · subst e
      rw [al_own hC hb]; simp
    · obtain ⟨x, hx⟩ := List.exists_mem_of_ne_nil _ ((SpfP.ups_some hC hb a ha).2 ⟨e, h16⟩)
      obtain ⟨j, rfl, h1, h2, h3, h4⟩ := mem_ups hx
      have := hC.off a j (Ne.symm h2)
      obtain ⟨p, hp⟩ := List.exists_mem_of_ne_nil _ (al_some hC hb f j h1 (by omega) (by omega))
      intro e2
      rw [al_step hC hb ha e] at e2
      have : (a :: p) ∈ (ups n C b a).flatMap fun x => (al n C b x.toNat).map fun p => a :: p := List.mem_flatMap.2 ⟨_, hx, List.mem_map.2 ⟨p, by simpa using hp, rfl⟩⟩
      rw [e2] at this
      simp at this
theorem al_ne {n : Nat} {C : T} (hC : Cost C) {a b : Nat} (ha : a < n) (hb : b < n) : al n C b a ≠ [] ↔ far n C b a < 16 := by
  constructor
  · intro h
    obtain ⟨p, hp⟩ := List.exists_mem_of_ne_nil _ h
    exact ((mem_al hC hb a ha p).1 hp).1
  · intro h
    exact al_some hC hb 16 a ha h h
theorem fst_own {n : Nat} {C : T} (hC : Cost C) {b : Nat} (hb : b < n) : fst n C b b = [b] := by unfold fst; rw [al_own hC hb]; rfl
/-- The next one of the first way is the least that there is. -/
theorem fst_step {n : Nat} {C : T} (hC : Cost C) {b a : Nat} (hb : b < n) (ha : a < n) (hne : a ≠ b) (h16 : far n C b a < 16) : ∃ (u : Nat) (r : List Int), ups n C b a = (u : Int) :: r ∧ u < n ∧ u ≠ a ∧ far n C b u + C a u = far n C b a ∧ fst n C b a = a :: fst n C b u := by
  cases hu : ups n C b a with
  | nil => exact absurd hu ((SpfP.ups_some hC hb a ha).2 ⟨hne, h16⟩)
  | cons x r =>
    obtain ⟨u, rfl, h1, h2, h3, h4⟩ := mem_ups (n := n) (C := C) (b := b) (a := a) (x := x) (by rw [hu]; simp)
    have hc := hC.off a u (Ne.symm h2)
    refine ⟨u, r, rfl, h1, h2, h4, ?_⟩
    cases hau : al n C b u with
    | nil => exact absurd hau ((al_ne hC h1 hb).2 (by omega))
    | cons q s =>
      unfold fst
      rw [al_step hC hb ha hne, hu, List.flatMap_cons]
      simp [hau]
theorem fst_wk {n : Nat} {C : T} (hC : Cost C) {a b : Nat} (ha : a < n) (hb : b < n) (h : far n C b a < 16) : Wk n C a (fst n C b a) b (far n C b a) := by
  have h1 := (al_ne hC ha hb).2 h
  cases e : al n C b a with
  | nil => exact absurd e h1
  | cons p r =>
    have h2 := ((mem_al hC hb a ha p).1 (by rw [e]; simp)).2
    unfold fst
    rw [e]
    exact h2

/-! ### Which one stands ahead -/
/-- Two lists compared, node by node. -/
def cmp : List Int → List Int → Int
  | x :: r, y :: s => if x < y then -1 else if y < x then 1 else cmp r s
  | r, s => r.length - s.length
/-- The numbers of nodes as a list's. -/
def zs (p : List Nat) : List Int := p.map fun x : Nat => (x : Int)
theorem zs_len (p : List Nat) : (zs p).length = p.length := List.length_map _
theorem zs_app (p q : List Nat) : zs (p ++ q) = zs p ++ zs q := by simp [zs]
theorem zs_inj {p q : List Nat} (h : zs p = zs q) : p = q := by
  induction p generalizing q with
  | nil =>
    cases q with
    | nil => rfl
    | cons y s => cases h
  | cons x r ih =>
    cases q with
    | nil => cases h
    | cons y s =>
      obtain ⟨h1, h2⟩ := List.cons.inj h
      have h1 : (x : Int) = y := h1
      rw [ih h2, show x = y by omega]
theorem zs_at (p : List Nat) (i : Nat) (h : i < p.length) : (zs p)[i]! = (p[i]! : Int) := by
  rw [getElem!_pos _ i (by rw [zs_len]; exact h), getElem!_pos p i h]; simp [zs]
theorem ups_rise (n : Nat) (C : T) (b a : Nat) : ∀ m, (upsTo n C b a m).Pairwise (· < ·)
  | 0 => List.Pairwise.nil
  | m + 1 => by
    rw [upsTo]
    split
    · rw [List.pairwise_append]
      refine ⟨ups_rise n C b a m, by simp, fun x hx y hy => ?_⟩
      obtain ⟨j, h1, rfl, _⟩ := (SpfP.mem_upsTo n C b a x m).1 hx
      rw [List.mem_singleton.1 hy]
      omega
    · exact ups_rise n C b a m
/-- None of as short ones stands ahead. -/
theorem fst_le {n : Nat} {C : T} (hC : Cost C) {b : Nat} (hb : b < n) : ∀ f a w, far n C b a < f → far n C b a < 16 → Wk n C a w b (far n C b a) → cmp (zs (fst n C b a)) (zs w) ≤ 0
  | 0, _, _, h, _, _ => by omega
  | f + 1, a, w, h, h16, hw => by
    have ha := hw.lt
    by_cases e : a = b
    · subst e
      have h0 := BellP.far_to hC hb
      rw [h0] at hw
      have hs := hw.short hC
      obtain ⟨r, rfl⟩ := hw.head
      have : r.length = 0 := by simpa using hs
      rw [List.length_eq_zero_iff.1 this, fst_own hC hb]
      simp [zs, cmp]
    · obtain ⟨u, r, h1, h2, h3, h4, h5⟩ := fst_step hC hb ha e h16
      generalize hd : far n C b a = d at hw
      cases hw with
      | one => exact absurd rfl e
      | more _ k p _ d' _ hk hc hp =>
        have h6 := hp.far hC
        have h7 := BellP.far_step hC hb a k ha hp.lt
        have h8 : far n C b k = d' := by omega
        have hcu := hC.off a u (Ne.symm h3)
        have hck := hC.off a k (Ne.symm hk)
        have hkm : (k : Int) ∈ ups n C b a := (SpfP.mem_upsTo n C b a k n).2 ⟨k, hp.lt, rfl, (isUp_iff n C b a k).2 ⟨hk, h16, by omega⟩⟩
        have hr : (ups n C b a).Pairwise (· < ·) := ups_rise n C b a n
        rw [h1] at hkm hr
        rw [h5]
        have e1 : ∀ q s : List Nat, cmp (zs (a :: q)) (zs (a :: s)) = cmp (zs q) (zs s) := fun q s => by simp [zs, cmp]
        rw [e1]
        rcases List.mem_cons.1 hkm with h9 | h9
        · obtain rfl : k = u := by omega
          exact fst_le hC hb f k p (by omega) (by omega) (by rw [h8]; exact hp)
        · have h10 : (u : Int) < k := (List.pairwise_cons.1 hr).1 k h9
          obtain ⟨s, rfl⟩ := hp.head
          obtain ⟨q, hq⟩ := (fst_wk hC h2 hb (by omega)).head
          rw [hq]
          have : cmp (zs (u :: q)) (zs (k :: s)) = -1 := by
            show (if (u : Int) < k then (-1 : Int) else _) = -1
            rw [if_pos h10]
          rw [this]; decide
end WaysP
end Go.Proofs.YtomfkmclgabcpaaDoor
