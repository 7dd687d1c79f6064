/-
  PLAIN FACTS (of no program) on covers: a cover's networks stand apart, rise, no two are halves of one; it has the addresses of its list; covered again it stays.
-/
import Derived.Test.YthoegphihpngoaaDoorCoverMore
import Derived.Test.YthoegphihpngoaaDoorCoverPlain
namespace Go.Proofs.YthoegphihpngoaaDoor

/-- A list as a cover is, from its end. -/
def Ch : List Nt → Prop
  | [] => True
  | [x] => x.V
  | x :: y :: r => x.V ∧ y.hi ≤ x.1 ∧ wh y x = none ∧ Ch (y :: r)
/-- Some network of a list has the address. -/
def anyHas (l : List Nt) (a : Nat) : Bool := l.any fun x => PrefP.has x.1 x.2 a

theorem Ch.head {x : Nt} {r : List Nt} (h : Ch (x :: r)) : x.V := by
  cases r with
  | nil => exact h
  | cons y r => exact h.1
theorem Ch.tail {x : Nt} {r : List Nt} (h : Ch (x :: r)) : Ch r := by
  cases r with
  | nil => exact True.intro
  | cons y r => exact h.2.2.2
theorem Nt.hi_gt (x : Nt) : x.1 < x.hi := by unfold Nt.hi; have := x.sz_pos; omega

theorem joinR_ch : ∀ (st : List Nt) (n : Nt), n.V → Ch st → (∀ t r, st = t :: r → t.hi ≤ n.1) →
    Ch (joinR (n :: st)) ∧ ∃ t r, joinR (n :: st) = t :: r ∧ t.1 ≤ n.1 ∧ t.hi = n.hi ∧ (t.1 = n.1 → t = n)
  | [], n, hn, _, _ => by
    rw [joinR_few [n] (by simp)]
    exact ⟨hn, n, [], rfl, Nat.le_refl _, rfl, fun _ => rfl⟩
  | t :: r, n, hn, hc, ht => by
    have h1 := ht t r rfl
    cases hw : wh t n with
    | none =>
      rw [joinR_stop n t r hw]
      exact ⟨⟨hn, h1, hw, hc⟩, n, t :: r, rfl, Nat.le_refl _, rfl, fun _ => rfl⟩
    | some u =>
      rw [joinR_go n t u r hw]
      obtain ⟨uV, _, e1, e2, e3, e4⟩ := hc.head.wh hw
      have hu : u.hi = n.hi := by unfold Nt.hi at *; omega
      obtain ⟨i1, T, R, i2, i3, i4, i5⟩ := joinR_ch r u uV hc.tail (fun t' r' e => by
        subst e
        rw [e1]; exact hc.2.1)
      have := t.hi_gt
      exact ⟨i1, T, R, i2, by omega, by rw [i4, hu], fun e => absurd e (by omega)⟩

theorem wh_any {t n u : Nt} (ht : t.V) (h : wh t n = some u) (a : Nat) (ha : a < 4294967296) : PrefP.has u.1 u.2 a = (PrefP.has n.1 n.2 a || PrefP.has t.1 t.2 a) := by
  obtain ⟨uV, nV, e1, e2, e3, e4⟩ := ht.wh h
  have h1 := uV.has a ha
  have h2 := nV.has a ha
  have h3 := ht.has a ha
  have x1 : u.hi = u.1 + u.sz := rfl
  have x2 : n.hi = n.1 + n.sz := rfl
  have x3 : t.hi = t.1 + t.sz := rfl
  rw [Bool.eq_iff_iff, Bool.or_eq_true, h1, h2, h3]
  have := t.sz_pos
  omega
theorem joinR_any : ∀ (k : Nat) (l : List Nt), l.length ≤ k → (∀ x ∈ l, x.V) → ∀ a, a < 4294967296 → anyHas (joinR l) a = anyHas l a
  | _, [], _, _, a, _ => by rw [joinR_few [] (by simp)]
  | _, [x], _, _, a, _ => by rw [joinR_few [x] (by simp)]
  | 0, x :: y :: r, h, _, _, _ => by simp at h
  | k + 1, x :: y :: r, h, hv, a, ha => by
    cases hw : wh y x with
    | none => rw [joinR_stop x y r hw]
    | some u =>
      have yV := hv y (by simp)
      rw [joinR_go x y u r hw, joinR_any k (u :: r) (by simp at h ⊢; omega) (by
        intro q hq
        rw [List.mem_cons] at hq
        rcases hq with rfl | hq
        · exact (yV.wh hw).1
        · exact hv q (by simp [hq])) a ha]
      unfold anyHas
      rw [List.any_cons, List.any_cons, List.any_cons, wh_any yV hw a ha, Bool.or_assoc]

theorem covR_ch : ∀ (l st : List Nt), Ch st → (∀ x ∈ st, x.V) → (∀ x ∈ l, x.V) → l.Pairwise (fun x y => Nt.lt y x = false) → (∀ t r, st = t :: r → ∀ n ∈ l, Nt.lt n t = false) →
    Ch (covR l st) ∧ ∀ a, a < 4294967296 → anyHas (covR l st) a = (anyHas l a || anyHas st a)
  | [], st, hc, _, _, _, _ => by
    rw [covR]
    exact ⟨hc, fun a _ => by simp [anyHas]⟩
  | n :: l, st, hc, hsV, hlV, hs, hb => by
    rw [covR]
    have nV := hlV n (by simp)
    rw [List.pairwise_cons] at hs
    have lV : ∀ x ∈ l, x.V := fun x hx => hlV x (by simp [hx])
    cases st with
    | nil =>
      rw [stepR, joinR_few [n] (by simp)]
      obtain ⟨i1, i2⟩ := covR_ch l [n] nV (by simpa using nV) lV hs.2 (fun t r e m hm => by
        have : t = n := by simpa using (List.cons.inj e).1.symm
        subst this
        exact hs.1 m hm)
      exact ⟨i1, fun a ha => by rw [i2 a ha]; simp [anyHas, Bool.or_comm]⟩
    | cons t r =>
      have tV := hsV t (by simp)
      have hnt := hb t r rfl n (by simp)
      rw [stepR]
      by_cases hin : PrefP.in n.1 n.2 t.1 t.2 = true
      · rw [if_pos hin]
        obtain ⟨i1, i2⟩ := covR_ch l (t :: r) hc hsV lV hs.2 (fun t' r' e m hm => hb t' r' e m (by simp [hm]))
        refine ⟨i1, fun a ha => ?_⟩
        rw [i2 a ha]
        have hsub : PrefP.has n.1 n.2 a = true → PrefP.has t.1 t.2 a = true := by
          rw [nV.has a ha, tV.has a ha]
          have := (nV.in tV).1 hin
          omega
        unfold anyHas
        rw [List.any_cons, List.any_cons]
        cases h1 : PrefP.has n.1 n.2 a
        · rfl
        · rw [hsub h1]; simp
      · rw [if_neg hin]
        have hlt : ¬ (n.1 < t.1 ∨ (n.1 = t.1 ∧ t.sz < n.sz)) := by
          rw [← nV.lt tV, hnt]; simp
        have hni : ¬ (t.1 ≤ n.1 ∧ n.hi ≤ t.hi) := fun h => hin ((nV.in tV).2 h)
        have x1 : n.hi = n.1 + n.sz := rfl
        have x2 : t.hi = t.1 + t.sz := rfl
        have hge : t.hi ≤ n.1 := by
          have := n.sz_pos
          rcases nV.nest tV with h | h | h | h <;> omega
        obtain ⟨j1, T, R, j2, j3, j4, j5⟩ := joinR_ch (t :: r) n nV hc (fun t' r' e => by
          have : t' = t := (List.cons.inj e).1.symm
          subst this; exact hge)
        have jV : ∀ x ∈ joinR (n :: t :: r), x.V := joinR_ok (n :: t :: r) (by
          intro q hq
          rw [List.mem_cons] at hq
          rcases hq with rfl | hq
          · exact nV
          · exact hsV q hq)
        have TV := jV T (by rw [j2]; simp)
        obtain ⟨i1, i2⟩ := covR_ch l (joinR (n :: t :: r)) j1 jV lV hs.2 (fun t' r' e m hm => by
          rw [j2] at e
          have et : t' = T := (List.cons.inj e).1.symm
          subst et
          have hmn := hs.1 m hm
          have mV := lV m hm
          have k1 : ¬ (m.1 < n.1 ∨ (m.1 = n.1 ∧ n.sz < m.sz)) := by rw [← mV.lt nV, hmn]; simp
          have k2 : ¬ (m.1 < t'.1 ∨ (m.1 = t'.1 ∧ t'.sz < m.sz)) := by
            by_cases he : t'.1 = n.1
            · have := j5 he
              subst this; exact k1
            · omega
          rw [← mV.lt TV] at k2
          simpa using k2)
        refine ⟨i1, fun a ha => ?_⟩
        rw [i2 a ha, joinR_any _ (n :: t :: r) (Nat.le_refl _) (by
          intro q hq
          rw [List.mem_cons] at hq
          rcases hq with rfl | hq
          · exact nV
          · exact hsV q hq) a ha]
        unfold anyHas
        simp only [List.any_cons]
        cases PrefP.has n.1 n.2 a <;> cases PrefP.has t.1 t.2 a <;> simp

/-- WHAT A COVER IS: its networks are right, apart, they rise, no two are halves of one. -/
def Good (c : List Nt) : Prop := (∀ x ∈ c, x.V) ∧ c.Pairwise fun x y => x.hi ≤ y.1 ∧ wh x y = none
theorem Ch.good : ∀ st : List Nt, Ch st → (∀ x ∈ st, x.V) ∧ st.Pairwise fun x y => y.hi ≤ x.1 ∧ wh y x = none
  | [], _ => ⟨by simp, List.Pairwise.nil⟩
  | [x], h => ⟨fun q hq => by rw [List.mem_singleton] at hq; subst hq; exact h, by simp⟩
  | x :: y :: r, h => by
    obtain ⟨i1, i2⟩ := Ch.good (y :: r) h.2.2.2
    refine ⟨by
      intro q hq
      rw [List.mem_cons] at hq
      rcases hq with rfl | hq
      · exact h.1
      · exact i1 q hq, ?_⟩
    rw [List.pairwise_cons]
    refine ⟨?_, i2⟩
    intro q hq
    rw [List.mem_cons] at hq
    rcases hq with rfl | hq
    · exact ⟨h.2.1, h.2.2.1⟩
    · rw [List.pairwise_cons] at i2
      have h1 := (i2.1 q hq).1
      have h2 := y.hi_gt
      have h3 := h.2.1
      refine ⟨by omega, ?_⟩
      cases hw : wh q x with
      | none => rfl
      | some u =>
        have := (i1 q (by simp [hq])).wh hw
        omega
theorem cov_good (l : List Nt) (h : ∀ x ∈ l, x.V) : Good (cov l) := by
  have hV : ∀ x ∈ srt l, x.V := fun x hx => h x ((srt_mem l x).1 hx)
  obtain ⟨i1, _⟩ := covR_ch (srt l) [] True.intro (by simp) hV (srt_sorted l) (fun _ _ e => by simp at e)
  obtain ⟨g1, g2⟩ := Ch.good _ i1
  unfold cov
  refine ⟨fun x hx => g1 x (by simpa using hx), ?_⟩
  rw [List.pairwise_reverse]
  exact g2
theorem anyHas_perm {l m : List Nt} (h : ∀ x, x ∈ l ↔ x ∈ m) (a : Nat) : anyHas l a = anyHas m a := by
  unfold anyHas
  rw [Bool.eq_iff_iff, List.any_eq_true, List.any_eq_true]
  constructor
  · rintro ⟨x, h1, h2⟩; exact ⟨x, (h x).1 h1, h2⟩
  · rintro ⟨x, h1, h2⟩; exact ⟨x, (h x).2 h1, h2⟩
/-- A cover has the addresses of its list. -/
theorem cov_any (l : List Nt) (h : ∀ x ∈ l, x.V) (a : Nat) (ha : a < 4294967296) : anyHas (cov l) a = anyHas l a := by
  have hV : ∀ x ∈ srt l, x.V := fun x hx => h x ((srt_mem l x).1 hx)
  obtain ⟨_, i2⟩ := covR_ch (srt l) [] True.intro (by simp) hV (srt_sorted l) (fun _ _ e => by simp at e)
  unfold cov
  rw [anyHas_perm (m := covR (srt l) []) (fun x => by simp) a, i2 a ha, anyHas_perm (srt_mem l) a]
  simp [anyHas]
theorem covR_good : ∀ (l st : List Nt), Good (st.reverse ++ l) → covR l st = l.reverse ++ st
  | [], st, _ => by rw [covR]; rfl
  | n :: l, st, h => by
    have e1 : stepR st n = n :: st := by
      cases st with
      | nil => rw [stepR, joinR_few [n] (by simp)]
      | cons t r =>
        have hp := h.2
        rw [List.reverse_cons, List.append_assoc, List.pairwise_append] at hp
        have h2 := hp.2.1
        rw [List.singleton_append, List.pairwise_cons] at h2
        obtain ⟨h3, h4⟩ := h2.1 n (by simp)
        have tV := h.1 t (by simp)
        have nV := h.1 n (by simp)
        rw [stepR, if_neg (by
          rw [nV.in tV]
          have := n.hi_gt
          omega), joinR_stop n t r h4]
    rw [covR, e1, covR_good l (n :: st) (by rw [List.reverse_cons, List.append_assoc]; exact h), List.reverse_cons, List.append_assoc]
    rfl
/-- Covered again it stays. -/
theorem cov_same (c : List Nt) (h : Good c) : cov c = c := by
  have hs : c.Pairwise fun x y => Nt.lt y x = false := h.2.imp_of_mem (by
    intro x y hx hy hxy
    have h1 : ¬ (y.1 < x.1 ∨ (y.1 = x.1 ∧ x.sz < y.sz)) := by have := x.hi_gt; omega
    rw [← (h.1 y hy).lt (h.1 x hx)] at h1
    simpa using h1)
  have e : srt c = c := List.Perm.eq_of_pairwise (le := fun x y => Nt.lt y x = false) (fun a b _ _ h1 h2 => Nt.tot a b h2 h1) (srt_sorted c) hs (srt_perm c)
  unfold cov
  rw [e, covR_good c [] (by simpa using h)]
  simp

/-! ### Two networks of a cover have not the same one above -/
theorem or_bit (a m : Nat) (hm : m < 32) (dv : 2 ^ (32 - m) ∣ a) : a ||| PrefP.bit m = a + 2 ^ (32 - (m + 1)) := by
  have pw : 2 ^ (32 - m) = 2 * 2 ^ (32 - (m + 1)) := by rw [show 32 - m = (32 - (m + 1)) + 1 by omega, Nat.pow_succ]; omega
  have hb : PrefP.bit m = 2 ^ (32 - (m + 1)) := by unfold PrefP.bit; rw [show 31 - m = 32 - (m + 1) by omega]
  rw [hb]
  obtain ⟨q, hq⟩ := dv
  rw [hq, pw, show 2 * 2 ^ (32 - (m + 1)) * q = 2 ^ (32 - (m + 1)) * (2 * q) by rw [Nat.mul_comm 2, Nat.mul_assoc]]
  have h2 : 2 * q ||| 1 = 2 * q + 1 := by
    rw [Nat.or_comm]
    have := Nat.two_pow_add_eq_or_of_lt (i := 1) (b := 1) (by decide) q
    rw [Nat.pow_one] at this
    rw [this, Nat.or_comm]
  have h3 : 2 ^ (32 - (m + 1)) * (2 * q) ||| 2 ^ (32 - (m + 1)) * 1 = 2 ^ (32 - (m + 1)) * (2 * q ||| 1) := by
    rw [Nat.mul_comm _ (2 * q), Nat.mul_comm _ 1, Nat.mul_comm _ (2 * q ||| 1), ← Nat.shiftLeft_eq, ← Nat.shiftLeft_eq, ← Nat.shiftLeft_eq, Nat.shiftLeft_or_distrib]
  rw [Nat.mul_one] at h3
  rw [h3, h2, Nat.mul_add, Nat.mul_one]
theorem up_apart {x y : Nt} (hx : x.V) (hy : y.V) (h : x.hi ≤ y.1) (hw : wh x y = none) (n m : Nat) (ex : x.2 = (n : Int) + 1) (ey : y.2 = (m : Int) + 1) : ¬ (PrefP.cut x.1 n = PrefP.cut y.1 m ∧ n = m) := by
  rintro ⟨h1, rfl⟩
  obtain ⟨k, a1, hk, e, hd⟩ := hx.len
  obtain ⟨k', a2, hk', f, hf⟩ := hy.len
  obtain rfl : k = n + 1 := by omega
  obtain rfl : k' = n + 1 := by omega
  rw [cut_div x.1 n hx.1 (by omega), cut_div y.1 n hy.1 (by omega)] at h1
  have pw : 2 ^ (32 - n) = 2 * 2 ^ (32 - (n + 1)) := by rw [show 32 - n = (32 - (n + 1)) + 1 by omega, Nat.pow_succ]; omega
  have hxh : x.hi = x.1 + 2 ^ (32 - (n + 1)) := by unfold Nt.hi; rw [e]
  have hp : 0 < 2 ^ (32 - n) := Nat.two_pow_pos _
  have m1 := Nat.div_add_mod x.1 (2 ^ (32 - n))
  have m2 := Nat.div_add_mod y.1 (2 ^ (32 - n))
  have l1 := Nat.mod_lt x.1 hp
  have l2 := Nat.mod_lt y.1 hp
  rw [Nat.mul_comm] at m1 m2
  have dp : 2 ^ (32 - n) ∣ x.1 / 2 ^ (32 - n) * 2 ^ (32 - n) := Nat.dvd_mul_left _ _
  generalize hP : x.1 / 2 ^ (32 - n) * 2 ^ (32 - n) = P at *
  rw [← h1] at m2
  have ds : 2 ^ (32 - (n + 1)) ∣ P := Nat.dvd_trans ⟨2, by rw [pw, Nat.mul_comm]⟩ dp
  rw [e] at hd
  rw [f] at hf
  have sp : 0 < 2 ^ (32 - (n + 1)) := Nat.two_pow_pos _
  -- the first is at P, the second at its half
  have x1 : x.1 = P := by
    rcases Nat.lt_or_ge P x.1 with h2 | h2
    · have := step_le ds hd h2; omega
    · omega
  have y1 : y.1 = P + 2 ^ (32 - (n + 1)) := by
    rcases Nat.lt_or_ge (P + 2 ^ (32 - (n + 1))) y.1 with h2 | h2
    · have := step_le (Nat.dvd_add ds (Nat.dvd_refl _)) hf h2; omega
    · omega
  have dx : 2 ^ (32 - n) ∣ x.1 := by rw [x1]; exact dp
  have ho := or_bit x.1 n (by omega) dx
  have hc : PrefP.cut x.1 n = x.1 := by rw [cut_div x.1 n hx.1 (by omega), hP, x1]
  have hy2 : y = (x.1 ||| PrefP.bit n, (n : Int) + 1) := Prod.ext (by rw [y1, ho, x1]) ey
  have hx2 : x = (x.1, (n : Int) + 1) := Prod.ext rfl ex
  rw [hy2, hx2] at hw
  rw [wh_yes x.1 n hc] at hw
  exact absurd hw (by simp)
theorem apart_len {x y : Nt} (hx : x.V) (hy : y.V) (h : x.hi ≤ y.1) : ∃ n m : Nat, x.2 = (n : Int) + 1 ∧ y.2 = (m : Int) + 1 ∧ n < 32 ∧ m < 32 ∧ PrefP.cut x.1 (n + 1) = x.1 ∧ PrefP.cut y.1 (m + 1) = y.1 := by
  obtain ⟨n, h1, h2, h3⟩ := PrefP.chk_zero x.1 x.2 hx.2
  obtain ⟨m, k1, k2, k3⟩ := PrefP.chk_zero y.1 y.2 hy.2
  have hn : n ≠ 0 := by
    rintro rfl
    have : x.hi = x.1 + 2 ^ 32 := by unfold Nt.hi Nt.sz; rw [h1]; rfl
    have := hy.1
    omega
  have hm : m ≠ 0 := by
    rintro rfl
    have h4 : y.1 = 0 := by rw [← k3]; simp [PrefP.cut, MaskP.mk]
    have := x.hi_gt
    omega
  obtain ⟨n', rfl⟩ : ∃ n', n = n' + 1 := ⟨n - 1, by omega⟩
  obtain ⟨m', rfl⟩ : ∃ m', m = m' + 1 := ⟨m - 1, by omega⟩
  exact ⟨n', m', by rw [h1]; omega, by rw [k1]; omega, by omega, by omega, h3, k3⟩
end Go.Proofs.YthoegphihpngoaaDoor
