/-
  PLAIN FACTS (of no program): a cover is the only one of its addresses; the document's own cover, from the whole down by halves, is it.
-/
import Derived.Test.YthoegphihpngoaaDoorCoverGood
namespace Go.Proofs.YthoegphihpngoaaDoor

/-- Both halves of a network. -/
def h0 (u : Nt) : Nt := (u.1, u.2 + 1)
def h1 (u : Nt) : Nt := (u.1 ||| PrefP.bit u.2.toNat, u.2 + 1)
theorem half_V {u : Nt} (hu : u.V) (k : Nat) (hk : u.2 = 32 - ((k + 1 : Nat) : Int)) :
    (h0 u).V ∧ (h1 u).V ∧ (h0 u).1 = u.1 ∧ (h0 u).hi = (h1 u).1 ∧ (h1 u).hi = u.hi ∧ wh (h0 u) (h1 u) = some u ∧ (h0 u).2 = 32 - (k : Int) ∧ (h1 u).2 = 32 - (k : Int) := by
  obtain ⟨n, e1, hn, e2, hd⟩ := hu.len
  have hnk : n = 31 - k := by omega
  have hk31 : k ≤ 31 := by omega
  have hn31 : n < 32 := by omega
  have hcut : PrefP.cut u.1 n = u.1 := by
    obtain ⟨m, a1, _, a3⟩ := PrefP.chk_zero u.1 u.2 hu.2
    have : m = n := by omega
    rw [← this]; exact a3
  have ex0 : h0 u = (u.1, (n : Int) + 1) := by unfold h0; rw [e1]
  have ex1 : h1 u = (u.1 ||| PrefP.bit n, (n : Int) + 1) := by unfold h1; rw [e1]; rfl
  have eu : u = (u.1, (n : Int)) := Prod.ext rfl e1
  have hw : wh (h0 u) (h1 u) = some u := by rw [ex0, ex1, wh_yes u.1 n hcut]; exact congrArg some eu.symm
  have v0 : (h0 u).V := by
    rw [ex0]
    refine Nt.V.of (n + 1) hu.1 (by simp only; omega) (by omega) ?_
    rw [e2] at hd
    exact Nat.dvd_trans (Nat.pow_dvd_pow 2 (by omega)) hd
  obtain ⟨_, v1, f1, f2, f3, f4⟩ := v0.wh hw
  refine ⟨v0, v1, by rw [ex0], f2.symm, ?_, hw, by unfold h0; simp only; omega, by unfold h1; simp only; omega⟩
  have g1 : (h1 u).hi = (h1 u).1 + (h1 u).sz := rfl
  have g2 : (h0 u).hi = (h0 u).1 + (h0 u).sz := rfl
  have g3 : u.hi = u.1 + u.sz := rfl
  omega

/-- Two networks of a cover are one, or apart. -/
theorem Good.apart {c : List Nt} (h : Good c) {x y : Nt} (hx : x ∈ c) (hy : y ∈ c) : x = y ∨ (x.hi ≤ y.1 ∧ wh x y = none) ∨ (y.hi ≤ x.1 ∧ wh y x = none) := by
  obtain ⟨i, hi, rfl⟩ := List.getElem_of_mem hx
  obtain ⟨j, hj, rfl⟩ := List.getElem_of_mem hy
  have P := List.pairwise_iff_getElem.1 h.2
  rcases Nat.lt_trichotomy i j with l | l | l
  · exact Or.inr (Or.inl (P i j hi hj l))
  · subst l; exact Or.inl rfl
  · exact Or.inr (Or.inr (P j i hj hi l))
theorem anyHas_iff (c : List Nt) (h : ∀ x ∈ c, x.V) (a : Nat) (ha : a < 4294967296) : anyHas c a = true ↔ ∃ x ∈ c, x.1 ≤ a ∧ a < x.hi := by
  unfold anyHas
  rw [List.any_eq_true]
  constructor
  · rintro ⟨x, hx, h2⟩; exact ⟨x, hx, ((h x hx).has a ha).1 h2⟩
  · rintro ⟨x, hx, h2⟩; exact ⟨x, hx, ((h x hx).has a ha).2 h2⟩

/-- What a cover has all of lies within one of its networks. -/
theorem Good.within {c : List Nt} (hc : Good c) : ∀ (k : Nat) (y : Nt), y.V → y.2 = 32 - (k : Int) → (∀ a, y.1 ≤ a → a < y.hi → anyHas c a = true) → ∃ x ∈ c, x.1 ≤ y.1 ∧ y.hi ≤ x.hi
  | 0, y, hy, hk, hall => by
    obtain ⟨x, hx, h1, h2⟩ := (anyHas_iff c hc.1 y.1 hy.1).1 (hall y.1 (Nat.le_refl _) y.hi_gt)
    refine ⟨x, hx, h1, ?_⟩
    have : y.hi = y.1 + 1 := by unfold Nt.hi Nt.sz; rw [hk]; rfl
    omega
  | k + 1, y, hy, hk, hall => by
    obtain ⟨v0, v1, e0, e1, e2, hw, k0, k1⟩ := half_V hy k hk
    have g0 := (h0 y).hi_gt
    have g1 := (h1 y).hi_gt
    obtain ⟨x0, m0, a1, a2⟩ := Good.within hc k (h0 y) v0 k0 (fun a b1 b2 => hall a (by omega) (by omega))
    obtain ⟨x1, m1, c1, c2⟩ := Good.within hc k (h1 y) v1 k1 (fun a b1 b2 => hall a (by omega) (by omega))
    have X0 := hc.1 x0 m0
    have X1 := hc.1 x1 m1
    -- the first: it has all of y, or is the first half
    rcases X0.nest hy with n0 | n0 | n0 | n0
    · rcases X0.nest v1 with q | q | q | q
      · omega
      · exact ⟨x0, m0, by omega, by omega⟩
      · -- x0 is the first half
        have s0 : x0 = h0 y := X0.ext v0 (by omega) (by
          have z1 : x0.hi = x0.1 + x0.sz := rfl
          have z2 : (h0 y).hi = (h0 y).1 + (h0 y).sz := rfl
          omega)
        rcases X1.nest hy with p | p | p | p
        · rcases X1.nest v0 with r | r | r | r
          · omega
          · exact ⟨x1, m1, by omega, by omega⟩
          · omega
          · have s1 : x1 = h1 y := X1.ext v1 (by omega) (by
              have z1 : x1.hi = x1.1 + x1.sz := rfl
              have z2 : (h1 y).hi = (h1 y).1 + (h1 y).sz := rfl
              omega)
            rcases hc.apart m0 m1 with t | t | t
            · rw [s0, s1] at t
              have := congrArg Prod.fst t
              omega
            · rw [s0, s1, hw] at t; exact absurd t.2 (by simp)
            · rw [s0, s1] at t; omega
        · exact ⟨x1, m1, by omega, by omega⟩
        · omega
        · omega
      · omega
    · exact ⟨x0, m0, n0.1, n0.2⟩
    · omega
    · omega
theorem Good.sub {c d : List Nt} (hc : Good c) (hd : Good d) (h : ∀ a, a < 4294967296 → anyHas c a = anyHas d a) : ∀ x ∈ c, x ∈ d := by
  intro x hx
  have xV := hc.1 x hx
  have lenOf : ∀ {u : Nt}, u.V → ∃ k : Nat, u.2 = 32 - (k : Int) := fun {u} hu => by
    obtain ⟨n, e, hn, _⟩ := hu.len
    exact ⟨32 - n, by omega⟩
  obtain ⟨k, hk⟩ := lenOf xV
  obtain ⟨z, hz, z1, z2⟩ := hd.within k x xV hk (fun a b1 b2 => by
    have hle := xV.hi_le
    rw [← h a (by omega)]
    exact (anyHas_iff c hc.1 a (by omega)).2 ⟨x, hx, b1, b2⟩)
  have zV := hd.1 z hz
  obtain ⟨j, hj⟩ := lenOf zV
  obtain ⟨x', hx', y1, y2⟩ := hc.within j z zV hj (fun a b1 b2 => by
    have hle := zV.hi_le
    rw [h a (by omega)]
    exact (anyHas_iff d hd.1 a (by omega)).2 ⟨z, hz, b1, b2⟩)
  have g := x.hi_gt
  rcases hc.apart hx hx' with e | e | e
  · subst e
    have : x = z := xV.ext zV (by omega) (by
      have w1 : x.hi = x.1 + x.sz := rfl
      have w2 : z.hi = z.1 + z.sz := rfl
      omega)
    rw [this]; exact hz
  · omega
  · omega
theorem rise_eq : ∀ (c d : List Nt), c.Pairwise (fun x y => x.hi ≤ y.1) → d.Pairwise (fun x y => x.hi ≤ y.1) → (∀ x, x ∈ c ↔ x ∈ d) → c = d
  | [], [], _, _, _ => rfl
  | [], z :: d, _, _, h => absurd ((h z).2 (by simp)) (by simp)
  | x :: c, [], _, _, h => absurd ((h x).1 (by simp)) (by simp)
  | x :: c, z :: d, hc, hd, h => by
    rw [List.pairwise_cons] at hc hd
    have gx := x.hi_gt
    have gz := z.hi_gt
    have e : x = z := by
      have h1 := (h x).1 (by simp)
      have h2 := (h z).2 (by simp)
      rw [List.mem_cons] at h1 h2
      rcases h1 with e | h1
      · exact e
      · rcases h2 with e | h2
        · exact e.symm
        · have := hd.1 x h1; have := hc.1 z h2; omega
    subst e
    refine congrArg (x :: ·) (rise_eq c d hc.2 hd.2 fun y => ?_)
    have hy := h y
    rw [List.mem_cons, List.mem_cons] at hy
    constructor
    · intro h1
      rcases hy.1 (Or.inr h1) with e | h2
      · subst e; have := hc.1 y h1; omega
      · exact h2
    · intro h1
      rcases hy.2 (Or.inr h1) with e | h2
      · subst e; have := hd.1 y h1; omega
      · exact h2
/-- A COVER IS THE ONLY ONE of its addresses. -/
theorem Good.only {c d : List Nt} (hc : Good c) (hd : Good d) (h : ∀ a, a < 4294967296 → anyHas c a = anyHas d a) : c = d :=
  rise_eq c d (hc.2.imp fun h => h.1) (hd.2.imp fun h => h.1) fun x => ⟨hc.sub hd h x, hd.sub hc (fun a ha => (h a ha).symm) x⟩

/-! ### The document's own cover -/
section
variable (l : List Nt)
/-- Some network of the list has all of u, or lies within u. -/
def someOver (u : Nt) : Bool := l.any fun x => PrefP.in u.1 u.2 x.1 x.2
def someIn (u : Nt) : Bool := l.any fun x => PrefP.in x.1 x.2 u.1 u.2
/-- Have the networks all addresses of u? (k: how many bits it lacks of 32.) -/
def fullF : Nat → Nt → Bool
  | 0, u => someOver l u
  | k + 1, u => someOver l u || (someIn l u && (fullF k (h0 u) && fullF k (h1 u)))
/-- The greatest networks within u of which they have all. -/
def coverF : Nat → Nt → List Nt
  | 0, u => if someOver l u = true then [u] else []
  | k + 1, u => if (someIn l u || someOver l u) = false then [] else if fullF l (k + 1) u = true then [u] else coverF k (h0 u) ++ coverF k (h1 u)

variable (hl : ∀ x ∈ l, x.V)
include hl
theorem someOver_iff {u : Nt} (hu : u.V) : someOver l u = true ↔ ∃ x ∈ l, x.1 ≤ u.1 ∧ u.hi ≤ x.hi := by
  unfold someOver
  rw [List.any_eq_true]
  constructor
  · rintro ⟨x, hx, h⟩; exact ⟨x, hx, (hu.in (hl x hx)).1 h⟩
  · rintro ⟨x, hx, h⟩; exact ⟨x, hx, (hu.in (hl x hx)).2 h⟩
theorem someIn_iff {u : Nt} (hu : u.V) : someIn l u = true ↔ ∃ x ∈ l, u.1 ≤ x.1 ∧ x.hi ≤ u.hi := by
  unfold someIn
  rw [List.any_eq_true]
  constructor
  · rintro ⟨x, hx, h⟩; exact ⟨x, hx, ((hl x hx).in hu).1 h⟩
  · rintro ⟨x, hx, h⟩; exact ⟨x, hx, ((hl x hx).in hu).2 h⟩
theorem fullF_iff : ∀ (k : Nat) (u : Nt), u.V → u.2 = 32 - (k : Int) → (fullF l k u = true ↔ ∀ a, u.1 ≤ a → a < u.hi → anyHas l a = true)
  | 0, u, hu, hk => by
    rw [fullF, someOver_iff l hl hu]
    have hh : u.hi = u.1 + 1 := by unfold Nt.hi Nt.sz; rw [hk]; rfl
    have hle := hu.hi_le
    constructor
    · rintro ⟨x, hx, h1, h2⟩ a b1 b2
      exact (anyHas_iff l hl a (by omega)).2 ⟨x, hx, by omega, by omega⟩
    · intro h
      obtain ⟨x, hx, h1, h2⟩ := (anyHas_iff l hl u.1 hu.1).1 (h u.1 (Nat.le_refl _) (by omega))
      exact ⟨x, hx, h1, by omega⟩
  | k + 1, u, hu, hk => by
    obtain ⟨v0, v1, e0, e1, e2, hw, k0, k1⟩ := half_V hu k hk
    have hle := hu.hi_le
    have g0 := (h0 u).hi_gt
    have g1 := (h1 u).hi_gt
    rw [fullF, Bool.or_eq_true, Bool.and_eq_true, Bool.and_eq_true, someOver_iff l hl hu, someIn_iff l hl hu, fullF_iff k (h0 u) v0 k0, fullF_iff k (h1 u) v1 k1]
    constructor
    · rintro (⟨x, hx, h1, h2⟩ | ⟨_, h1, h2⟩) a b1 b2
      · exact (anyHas_iff l hl a (by omega)).2 ⟨x, hx, by omega, by omega⟩
      · rcases Nat.lt_or_ge a (h0 u).hi with q | q
        · exact h1 a (by omega) q
        · exact h2 a (by omega) (by omega)
    · intro h
      obtain ⟨x, hx, h1, h2⟩ := (anyHas_iff l hl u.1 hu.1).1 (h u.1 (Nat.le_refl _) u.hi_gt)
      have xV := hl x hx
      rcases hu.nest xV with q | q | q | q
      · exact Or.inl ⟨x, hx, q.1, q.2⟩
      · exact Or.inr ⟨⟨x, hx, q.1, q.2⟩, fun a b1 b2 => h a (by omega) (by omega), fun a b1 b2 => h a (by omega) (by omega)⟩
      · omega
      · omega
/-- The document's cover is one, and has the addresses of the list within u. -/
theorem coverF_good : ∀ (k : Nat) (u : Nt), u.V → u.2 = 32 - (k : Int) →
    Good (coverF l k u) ∧ (∀ x ∈ coverF l k u, u.1 ≤ x.1 ∧ x.hi ≤ u.hi) ∧ ∀ a, a < 4294967296 → (anyHas (coverF l k u) a = true ↔ anyHas l a = true ∧ u.1 ≤ a ∧ a < u.hi)
  | 0, u, hu, hk => by
    have hh : u.hi = u.1 + 1 := by unfold Nt.hi Nt.sz; rw [hk]; rfl
    have hF := fullF_iff l hl 0 u hu hk
    rw [fullF] at hF
    rw [coverF]
    by_cases h : someOver l u = true
    · rw [if_pos h]
      refine ⟨⟨by simpa using hu, by simp⟩, by simp, fun a ha => ?_⟩
      rw [anyHas_iff [u] (by simpa using hu) a ha]
      constructor
      · rintro ⟨x, hx, h1, h2⟩
        rw [List.mem_singleton] at hx
        subst hx
        exact ⟨hF.1 h a h1 h2, h1, h2⟩
      · rintro ⟨_, h1, h2⟩
        exact ⟨u, by simp, h1, h2⟩
    · rw [if_neg h]
      refine ⟨⟨by simp, List.Pairwise.nil⟩, by simp, fun a ha => ?_⟩
      constructor
      · intro h1; simp [anyHas] at h1
      · rintro ⟨h1, h2, h3⟩
        refine absurd (hF.2 fun b b1 b2 => ?_) h
        have : b = a := by omega
        subst this; exact h1
  | k + 1, u, hu, hk => by
    obtain ⟨v0, v1, e0, e1, e2, hw, k0, k1⟩ := half_V hu k hk
    have hle := hu.hi_le
    have g0 := (h0 u).hi_gt
    have g1 := (h1 u).hi_gt
    have hF := fullF_iff l hl (k + 1) u hu hk
    obtain ⟨i1, i2, i3⟩ := coverF_good k (h0 u) v0 k0
    obtain ⟨j1, j2, j3⟩ := coverF_good k (h1 u) v1 k1
    rw [coverF]
    by_cases hs : (someIn l u || someOver l u) = false
    · rw [if_pos hs]
      rw [Bool.or_eq_false_iff] at hs
      refine ⟨⟨by simp, List.Pairwise.nil⟩, by simp, fun a ha => ?_⟩
      constructor
      · intro h1; simp [anyHas] at h1
      · rintro ⟨h1, h2, h3⟩
        obtain ⟨x, hx, q1, q2⟩ := (anyHas_iff l hl a ha).1 h1
        have n1 : ¬ (someIn l u = true) := by rw [hs.1]; simp
        have n2 : ¬ (someOver l u = true) := by rw [hs.2]; simp
        rw [someIn_iff l hl hu] at n1
        rw [someOver_iff l hl hu] at n2
        rcases hu.nest (hl x hx) with q | q | q | q
        · exact absurd ⟨x, hx, q.1, q.2⟩ n2
        · exact absurd ⟨x, hx, q.1, q.2⟩ n1
        · omega
        · omega
    · rw [if_neg hs]
      by_cases hf : fullF l (k + 1) u = true
      · rw [if_pos hf]
        refine ⟨⟨by simpa using hu, by simp⟩, by simp, fun a ha => ?_⟩
        rw [anyHas_iff [u] (by simpa using hu) a ha]
        constructor
        · rintro ⟨x, hx, q1, q2⟩
          rw [List.mem_singleton] at hx
          subst hx
          exact ⟨hF.1 hf a q1 q2, q1, q2⟩
        · rintro ⟨_, q1, q2⟩
          exact ⟨u, by simp, q1, q2⟩
      · rw [if_neg hf]
        refine ⟨⟨?_, ?_⟩, ?_, fun a ha => ?_⟩
        · intro x hx
          rw [List.mem_append] at hx
          rcases hx with hx | hx
          · exact i1.1 x hx
          · exact j1.1 x hx
        · rw [List.pairwise_append]
          refine ⟨i1.2, j1.2, fun x hx y hy => ?_⟩
          have p1 := i2 x hx
          have p2 := j2 y hy
          refine ⟨by omega, ?_⟩
          cases hq : wh x y with
          | none => rfl
          | some v =>
            exfalso
            have xV := i1.1 x hx
            have yV := j1.1 y hy
            obtain ⟨vV, _, f1, f2, f3, f4⟩ := xV.wh hq
            have z1 : v.hi = v.1 + v.sz := rfl
            have z2 : x.hi = x.1 + x.sz := rfl
            have z3 : y.hi = y.1 + y.sz := rfl
            have z4 : (h0 u).hi = (h0 u).1 + (h0 u).sz := rfl
            have z5 : (h1 u).hi = (h1 u).1 + (h1 u).sz := rfl
            have sp := x.sz_pos
            have hx0 : x = h0 u := by
              rcases vV.nest v0 with q | q | q | q
              · omega
              · exact xV.ext v0 (by omega) (by omega)
              · omega
              · omega
            have hy1 : y = h1 u := by
              rcases vV.nest v1 with q | q | q | q
              · omega
              · exact yV.ext v1 (by omega) (by omega)
              · omega
              · omega
            refine hf (hF.2 fun a b1 b2 => ?_)
            rcases Nat.lt_or_ge a (h0 u).hi with q | q
            · exact ((i3 a (by omega)).1 ((anyHas_iff _ i1.1 a (by omega)).2 ⟨x, hx, by rw [hx0]; omega, by rw [hx0]; exact q⟩)).1
            · exact ((j3 a (by omega)).1 ((anyHas_iff _ j1.1 a (by omega)).2 ⟨y, hy, by rw [hy1]; omega, by rw [hy1]; omega⟩)).1
        · intro x hx
          rw [List.mem_append] at hx
          rcases hx with hx | hx
          · have := i2 x hx; omega
          · have := j2 x hx; omega
        · have ea : anyHas (coverF l k (h0 u) ++ coverF l k (h1 u)) a = (anyHas (coverF l k (h0 u)) a || anyHas (coverF l k (h1 u)) a) := by unfold anyHas; rw [List.any_append]
          rw [ea, Bool.or_eq_true, i3 a ha, j3 a ha]
          constructor
          · rintro (⟨q1, q2, q3⟩ | ⟨q1, q2, q3⟩)
            · exact ⟨q1, by omega, by omega⟩
            · exact ⟨q1, by omega, by omega⟩
          · rintro ⟨q1, q2, q3⟩
            rcases Nat.lt_or_ge a (h0 u).hi with q | q
            · exact Or.inl ⟨q1, by omega, q⟩
            · exact Or.inr ⟨q1, by omega, by omega⟩
/-- THE DOCUMENT'S COVER IS THE COVER. -/
theorem coverF_cov : coverF l 32 (0, 0) = cov l := by
  have rV : Nt.V (0, 0) := ⟨by decide, by decide +kernel⟩
  obtain ⟨i1, _, i3⟩ := coverF_good l hl 32 (0, 0) rV rfl
  refine i1.only (cov_good l hl) fun a ha => ?_
  rw [cov_any l hl a ha, Bool.eq_iff_iff, i3 a ha]
  have : Nt.hi (0, 0) = 4294967296 := by decide +kernel
  constructor
  · exact fun h => h.1
  · exact fun h => ⟨h, Nat.zero_le _, by omega⟩
end
end Go.Proofs.YthoegphihpngoaaDoor
