/-
  PLAIN FACTS (of no program): a binary tree whose nodes are networks: the bit of an address behind its first ones; both halves of a network; all networks of the tree, in their order.
-/
import Derived.Test.YtbdmfcnlfmnmdaaDoorNetPlain
namespace Go.Proofs.YtbdmfcnlfmnmdaaDoor

/-- The bit of an address behind its first d ones. -/
def TrieP.bt (a d : Nat) : Nat := a * 2 ^ d % 4294967296 / 2147483648
theorem TrieP.bt_lt (a d : Nat) : TrieP.bt a d < 2 := by unfold TrieP.bt; omega
theorem TrieP.bt_eq (a d : Nat) (hd : d < 32) : TrieP.bt a d = a / 2 ^ (31 - d) % 2 := by
  unfold TrieP.bt
  have e1 : (4294967296 : Nat) = 2 ^ (32 - d) * 2 ^ d := by rw [← Nat.pow_add, show 32 - d + d = 32 by omega]
  have e2 : (2147483648 : Nat) = 2 ^ (31 - d) * 2 ^ d := by rw [← Nat.pow_add, show 31 - d + d = 31 by omega]
  rw [e1, Nat.mul_mod_mul_right, e2, Nat.mul_div_mul_right _ _ (Nat.two_pow_pos d), show 32 - d = (31 - d) + 1 by omega, Nat.pow_succ, Nat.mod_mul_right_div_self]
/-- The half of a network on one side. -/
def TrieP.kid (a d c : Nat) : Nat := if c = 0 then a else a ||| PrefP.bit d
theorem TrieP.kid0 (a d : Nat) : TrieP.kid a d 0 = a := rfl
theorem TrieP.kid1 (a d : Nat) : TrieP.kid a d 1 = a ||| PrefP.bit d := rfl
theorem TrieP.and_bit (x d : Nat) (hd : d < 32) : x &&& PrefP.bit d = if TrieP.bt x d = 0 then 0 else PrefP.bit d := by
  rw [TrieP.bt_eq x d hd]
  have ht := Nat.testBit_eq_decide_div_mod_eq (x := x) (i := 31 - d)
  have h2 : x / 2 ^ (31 - d) % 2 < 2 := Nat.mod_lt _ (by decide)
  rcases PrefP.and_bit x d with h | h
  · rw [h]
    have h3 : (x &&& PrefP.bit d).testBit (31 - d) = false := by rw [h]; exact Nat.zero_testBit _
    rw [PrefP.bit, Nat.testBit_and, Nat.testBit_two_pow_self, Bool.and_true, ht, decide_eq_false_iff_not] at h3
    rw [if_pos (by omega)]
  · rw [h]
    have h3 : (x &&& PrefP.bit d).testBit (31 - d) = true := by rw [h, PrefP.bit]; exact Nat.testBit_two_pow_self
    rw [PrefP.bit, Nat.testBit_and, Nat.testBit_two_pow_self, Bool.and_true, ht, decide_eq_true_eq] at h3
    rw [if_neg (by omega)]
/-- One bit more. -/
theorem TrieP.step (x d : Nat) (hd : d < 32) : PrefP.cut x (d + 1) = TrieP.kid (PrefP.cut x d) d (TrieP.bt x d) := by
  rw [PrefP.cut_more x d hd, TrieP.and_bit x d hd, TrieP.kid]
  split <;> simp
theorem TrieP.kid_ok (a d c : Nat) (hd : d < 32) (hc : PrefP.cut a d = a) : PrefP.cut (TrieP.kid a d c) (d + 1) = TrieP.kid a d c := by
  unfold TrieP.kid
  split
  · exact PrefP.half0 a d hd hc
  · exact PrefP.half1 a d hd hc
theorem TrieP.kid_up (a d c : Nat) (hd : d < 32) (hc : PrefP.cut a d = a) : PrefP.cut (TrieP.kid a d c) d = a := by
  unfold TrieP.kid
  split
  · exact hc
  · exact PrefP.half1_up a d hd hc
theorem TrieP.kid_lt (a d c : Nat) (ha : a < 4294967296) : TrieP.kid a d c < 4294967296 := by
  unfold TrieP.kid
  split
  · exact ha
  · exact PrefP.half1_lt a d ha
theorem TrieP.kid_ne (a d : Nat) (hd : d < 32) (hc : PrefP.cut a d = a) : a < TrieP.kid a d 1 := PrefP.half_less a d hd hc
theorem TrieP.kid_inj (a d c a' c' : Nat) (hd : d < 32) (h1 : PrefP.cut a d = a) (h2 : PrefP.cut a' d = a') (hc : c < 2) (hc' : c' < 2) (h : TrieP.kid a d c = TrieP.kid a' d c') : a = a' ∧ c = c' := by
  have e : a = a' := by rw [← TrieP.kid_up a d c hd h1, h, TrieP.kid_up a' d c' hd h2]
  subst e
  refine ⟨rfl, ?_⟩
  have hk := TrieP.kid_ne a d hd h1
  rcases (show c = 0 ∨ c = 1 by omega) with rfl | rfl <;> rcases (show c' = 0 ∨ c' = 1 by omega) with rfl | rfl
  · rfl
  · rw [TrieP.kid0] at h; omega
  · rw [TrieP.kid0] at h; omega
  · rfl
/-- A network below another one is on one of its sides. -/
theorem TrieP.side (x a d : Nat) (hd : d < 32) (h : PrefP.cut x d = a) : PrefP.cut x (d + 1) = TrieP.kid a d 0 ∨ PrefP.cut x (d + 1) = TrieP.kid a d 1 := by
  rw [TrieP.step x d hd, h]
  have := TrieP.bt_lt x d
  rcases (show TrieP.bt x d = 0 ∨ TrieP.bt x d = 1 by omega) with e | e
  · exact Or.inl (by rw [e])
  · exact Or.inr (by rw [e])
theorem TrieP.cut_mono (x y n : Nat) (hx : x < 4294967296) (hy : y < 4294967296) (hn : n ≤ 32) (h : PrefP.cut x n < PrefP.cut y n) : x < y := by
  rw [cut_div x n hx hn, cut_div y n hy hn] at h
  have h1 : x / 2 ^ (32 - n) < y / 2 ^ (32 - n) := Nat.lt_of_mul_lt_mul_right h
  exact Nat.lt_of_not_le fun h2 => Nat.not_le_of_lt h1 (Nat.div_le_div_right h2)

/-- A node: where it lies, whether its network is there, and its number. -/
structure Nd where
  b : Nat
  u : Bool
  v : Int
/-- The nodes of a tree, by their networks. -/
abbrev Tm := Nat → Nat → Option Nd
def Tm.upd (M : Tm) (a d : Nat) (o : Option Nd) : Tm := fun a' d' => if a' = a ∧ d' = d then o else M a' d'
theorem Tm.upd_same (M : Tm) (a d : Nat) (o : Option Nd) : M.upd a d o a d = o := if_pos ⟨rfl, rfl⟩
theorem Tm.upd_other (M : Tm) (a d : Nat) (o : Option Nd) (a' d' : Nat) (h : ¬ (a' = a ∧ d' = d)) : M.upd a d o a' d' = M a' d' := if_neg h
theorem Tm.upd_deep (M : Tm) (a d : Nat) (o : Option Nd) (a' d' : Nat) (h : d' ≠ d) : M.upd a d o a' d' = M a' d' := if_neg fun e => h e.2

/-- What is asked of the nodes: right networks, none without the one above. -/
structure Tm.Ok (M : Tm) : Prop where
  ok : ∀ a d x, M a d = some x → d ≤ 32 ∧ a < 4294967296 ∧ PrefP.cut a d = a
  par : ∀ a d x, M a (d + 1) = some x → ∃ y, M (PrefP.cut a d) d = some y
theorem Tm.Ok.none {M : Tm} (h : M.Ok) (a d : Nat) (hd : 32 < d) : M a d = none := by
  cases e : M a d with
  | none => rfl
  | some x => have := (h.ok a d x e).1; omega
/-- All above a node are there. -/
theorem Tm.Ok.anc {M : Tm} (h : M.Ok) : ∀ (k a d : Nat) (x : Nd), M a (d + k) = some x → ∃ y, M (PrefP.cut a d) d = some y
  | 0, a, d, x, e => ⟨x, by rw [(h.ok a d x e).2.2]; exact e⟩
  | k + 1, a, d, x, e => by
    obtain ⟨y, hy⟩ := h.par a (d + k) x e
    have hd := (h.ok _ _ _ e).1
    obtain ⟨z, hz⟩ := Tm.Ok.anc h k _ d y hy
    rw [PrefP.cut_cut a (d + k) d (by omega) (by omega) (by omega)] at hz
    exact ⟨z, hz⟩

/-- The networks of a tree, from one on. -/
def Tm.below (M : Tm) : Nat → Nat → Nat → List Nt
  | 0, _, _ => []
  | k + 1, a, d => match M a d with
    | none => []
    | some x => (if x.u then [((a, (d : Int)) : Nt)] else []) ++ (Tm.below M k a (d + 1) ++ Tm.below M k (TrieP.kid a d 1) (d + 1))
/-- All of them. -/
def Tm.list (M : Tm) : List Nt := M.below 33 0 0
/-- The number of a network. -/
def Tm.val (M : Tm) (n : Nt) : Option Int := if 0 ≤ n.2 then (M n.1 n.2.toNat).bind fun x => if x.u then some x.v else none else none
theorem Tm.val_nat (M : Tm) (a d : Nat) : M.val (a, (d : Int)) = (M a d).bind fun x => if x.u then some x.v else none := by
  unfold Tm.val
  rw [if_pos (by simp)]; rfl
theorem Tm.val_some {M : Tm} (n : Nt) (z : Int) : M.val n = some z ↔ ∃ (d : Nat) (x : Nd), n.2 = (d : Int) ∧ M n.1 d = some x ∧ x.u = true ∧ x.v = z := by
  obtain ⟨a, l⟩ := n
  constructor
  · intro h
    unfold Tm.val at h
    by_cases h0 : 0 ≤ l
    · rw [if_pos h0] at h
      obtain ⟨d, rfl⟩ := Int.eq_ofNat_of_zero_le h0
      cases e : M a d with
      | none => simp [e] at h
      | some x =>
        simp only [Int.toNat_natCast, e, Option.bind_some] at h
        by_cases hu : x.u = true
        · rw [if_pos hu] at h
          exact ⟨d, x, rfl, e, hu, Option.some.inj h⟩
        · rw [if_neg hu] at h; exact absurd h (by simp)
    · rw [if_neg h0] at h; exact absurd h (by simp)
  · rintro ⟨d, x, h1, h2, h3, h4⟩
    simp only at h1 h2
    subst h1
    rw [Tm.val_nat, h2, Option.bind_some, if_pos h3, h4]

theorem Tm.below_mem {M : Tm} (h : M.Ok) : ∀ (k a d : Nat), k + d = 33 → PrefP.cut a d = a → ∀ n : Nt, n ∈ M.below k a d ↔ ∃ (d' : Nat) (x : Nd), n.2 = (d' : Int) ∧ M n.1 d' = some x ∧ x.u = true ∧ d ≤ d' ∧ PrefP.cut n.1 d = a
  | 0, a, d, hk, hc, n => by
    constructor
    · intro hn; simp [Tm.below] at hn
    · rintro ⟨d', x, _, h2, _, h4, _⟩
      have := (h.ok _ _ _ h2).1
      omega
  | k + 1, a, d, hk, hc, n => by
    rw [Tm.below]
    cases e : M a d with
    | none =>
      constructor
      · intro hn; simp at hn
      · rintro ⟨d', x, _, h2, _, h4, h5⟩
        obtain ⟨j, rfl⟩ : ∃ j, d' = d + j := ⟨d' - d, by omega⟩
        obtain ⟨y, hy⟩ := h.anc j n.1 d x h2
        rw [h5, e] at hy
        exact absurd hy (by simp)
    | some y =>
      have hd := (h.ok _ _ _ e).1
      by_cases h32 : d = 32
      · -- no half is left
        subst h32
        have hk0 : k = 0 := by omega
        subst hk0
        simp only [Tm.below, List.append_nil]
        constructor
        · intro hn
          by_cases hu : y.u = true
          · rw [if_pos hu, List.mem_singleton] at hn
            subst hn
            exact ⟨32, y, rfl, e, hu, Nat.le_refl _, hc⟩
          · rw [if_neg hu] at hn; simp at hn
        · rintro ⟨d', x, h1, h2, h3, h4, h5⟩
          have hd' := (h.ok _ _ _ h2)
          obtain rfl : d' = 32 := by omega
          rw [hd'.2.2] at h5
          rw [h5, e] at h2
          obtain rfl := Option.some.inj h2
          rw [if_pos h3, List.mem_singleton]
          exact Prod.ext h5 h1
      · have hd32 : d < 32 := by omega
        have i0 := Tm.below_mem h k a (d + 1) (by omega) (TrieP.kid_ok a d 0 hd32 hc) n
        have i1 := Tm.below_mem h k (TrieP.kid a d 1) (d + 1) (by omega) (TrieP.kid_ok a d 1 hd32 hc) n
        simp only [List.mem_append]
        rw [i0, i1]
        constructor
        · rintro (hn | ⟨d', x, h1, h2, h3, h4, h5⟩ | ⟨d', x, h1, h2, h3, h4, h5⟩)
          · by_cases hu : y.u = true
            · rw [if_pos hu, List.mem_singleton] at hn
              subst hn
              exact ⟨d, y, rfl, e, hu, Nat.le_refl _, hc⟩
            · rw [if_neg hu] at hn; simp at hn
          · refine ⟨d', x, h1, h2, h3, by omega, ?_⟩
            rw [← PrefP.cut_cut n.1 (d + 1) d (by omega) (by omega) (by omega), h5, hc]
          · refine ⟨d', x, h1, h2, h3, by omega, ?_⟩
            rw [← PrefP.cut_cut n.1 (d + 1) d (by omega) (by omega) (by omega), h5, TrieP.kid_up a d 1 hd32 hc]
        · rintro ⟨d', x, h1, h2, h3, h4, h5⟩
          by_cases hdd : d' = d
          · refine Or.inl ?_
            subst hdd
            rw [(h.ok _ _ _ h2).2.2] at h5
            rw [h5, e] at h2
            obtain rfl := Option.some.inj h2
            rw [if_pos h3, List.mem_singleton]
            exact Prod.ext h5 h1
          · rcases TrieP.side n.1 a d hd32 h5 with h6 | h6
            · exact Or.inr (Or.inl ⟨d', x, h1, h2, h3, by omega, h6⟩)
            · exact Or.inr (Or.inr ⟨d', x, h1, h2, h3, by omega, h6⟩)
/-- A network is listed just if it is there. -/
theorem Tm.list_mem {M : Tm} (h : M.Ok) (n : Nt) : n ∈ M.list ↔ ∃ z, M.val n = some z := by
  rw [Tm.list, Tm.below_mem h 33 0 0 rfl (PrefP.cut_zero 0)]
  constructor
  · rintro ⟨d, x, h1, h2, h3, _, _⟩
    exact ⟨x.v, (Tm.val_some n x.v).2 ⟨d, x, h1, h2, h3, rfl⟩⟩
  · rintro ⟨z, hz⟩
    obtain ⟨d, x, h1, h2, h3, _⟩ := (Tm.val_some n z).1 hz
    exact ⟨d, x, h1, h2, h3, Nat.zero_le _, PrefP.cut_zero _⟩
/-- They rise. -/
theorem Tm.below_rises {M : Tm} (h : M.Ok) : ∀ (k a d : Nat), k + d = 33 → PrefP.cut a d = a → (M.below k a d).Pairwise fun x y => Nt.lt x y = true
  | 0, a, d, _, _ => List.Pairwise.nil
  | k + 1, a, d, hk, hc => by
    rw [Tm.below]
    cases e : M a d with
    | none => exact List.Pairwise.nil
    | some y =>
      have hd := (h.ok _ _ _ e).1
      by_cases h32 : d = 32
      · have hk0 : k = 0 := by omega
        subst hk0
        simp only [Tm.below, List.append_nil]
        split <;> simp
      · have hd32 : d < 32 := by omega
        have c0 := TrieP.kid_ok a d 0 hd32 hc
        have c1 := TrieP.kid_ok a d 1 hd32 hc
        have m0 := Tm.below_mem h k a (d + 1) (by omega) c0
        have m1 := Tm.below_mem h k (TrieP.kid a d 1) (d + 1) (by omega) c1
        have r0 := Tm.below_rises h k a (d + 1) (by omega) c0
        have r1 := Tm.below_rises h k (TrieP.kid a d 1) (d + 1) (by omega) c1
        have hk1 := TrieP.kid_ne a d hd32 hc
        simp only [List.pairwise_append]
        refine ⟨by split <;> simp, ⟨r0, r1, fun x hx y hy => ?_⟩, fun x hx y hy => ?_⟩
        · obtain ⟨dx, nx, _, x2, _, _, x5⟩ := (m0 x).1 hx
          obtain ⟨dy, ny, _, y2, _, _, y5⟩ := (m1 y).1 hy
          rw [Nt.lt_iff]
          exact Or.inl (TrieP.cut_mono x.1 y.1 (d + 1) (h.ok _ _ _ x2).2.1 (h.ok _ _ _ y2).2.1 (by omega) (by rw [x5, y5]; exact hk1))
        · have hx' : x = ((a, (d : Int)) : Nt) := by
            split at hx
            · exact List.mem_singleton.1 hx
            · simp at hx
          subst hx'
          rw [Nt.lt_iff]
          simp only
          rcases List.mem_append.1 hy with hy | hy
          · obtain ⟨dy, ny, y1, y2, _, y4, y5⟩ := (m0 y).1 hy
            have hle := PrefP.cut_le y.1 (d + 1)
            rw [y5] at hle
            omega
          · obtain ⟨dy, ny, y1, y2, _, y4, y5⟩ := (m1 y).1 hy
            have hle := PrefP.cut_le y.1 (d + 1)
            rw [y5] at hle
            omega
theorem Tm.list_rises {M : Tm} (h : M.Ok) : M.list.Pairwise fun x y => Nt.lt x y = true := Tm.below_rises h 33 0 0 rfl (PrefP.cut_zero 0)
/-- Two lists that rise and hold the same are one. -/
theorem rises_ext {l m : List Nt} (hl : l.Pairwise fun x y => Nt.lt x y = true) (hm : m.Pairwise fun x y => Nt.lt x y = true) (h : ∀ n, n ∈ l ↔ n ∈ m) : l = m := by
  have nd : ∀ {l : List Nt}, (l.Pairwise fun x y => Nt.lt x y = true) → l.Nodup := fun hl => hl.imp (by
    intro a b hab e
    subst e
    rw [Nt.lt_iff] at hab; omega)
  refine List.Perm.eq_of_pairwise (le := fun x y => Nt.lt x y = true) (fun a b _ _ h1 h2 => ?_) hl hm ((List.perm_ext_iff_of_nodup (nd hl) (nd hm)).2 h)
  rw [Nt.lt_iff] at h1 h2
  omega
theorem rises_nodup {l : List Nt} (hl : l.Pairwise fun x y => Nt.lt x y = true) : l.Nodup := hl.imp (by
    intro a b hab e
    subst e
    rw [Nt.lt_iff] at hab; omega)
end Go.Proofs.YtbdmfcnlfmnmdaaDoor
