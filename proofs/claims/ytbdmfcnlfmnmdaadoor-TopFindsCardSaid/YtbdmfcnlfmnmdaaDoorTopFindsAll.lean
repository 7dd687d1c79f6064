/-
  cover.Cover at every list, right or not; waywardensame.Nets at every two lists; what lay in memory stays.
  PLAIN FACTS (of no program): a right network is a stretch of addresses, from its own one on, of a power of two, at a multiple of it; two such are one within the other or apart; two halves.
  PLAIN FACTS (of no program) on covers: a cover's networks stand apart, rise, no two are halves of one; it has the addresses of its list; covered again it stays.
  cover.Has at every list and every address: whether a network of the list has it; what lay in memory stays.
  What the statements ask of errors, at every error of the document's: its number; whether two are of one number; what lay in memory stays. Condition: the library's variable errors.errorType is as its text lays it.
  (*trie.Table).Get at every table and every network; what lay in memory stays.
  (*trie.Table).Put at every table, every network and every number.
  (*trie.Table).Find at every table and every address; what lay in memory stays.
  trie.prune, which calls itself: nodes on the way to a network that lead to no network are cut off, from the last one upwards; no network that is there goes.
  (*trie.Table).Drop at every table and every network.
  PLAIN FACTS on tables: how many networks a list of different ones has at most; one network put into an empty table, and dropped again.
  The statement TopFinds' function answers true at every list and every address; what lay in memory stays. Condition: the library's variable errors.errorType is as its text lays it.
-/
import Derived.Test.YtbdmfcnlfmnmdaaDoorCoverCov
import Derived.Test.YtbdmfcnlfmnmdaaDoorSameNets
import Derived.Test.YtbdmfcnlfmnmdaaDoorCoverWhole
import Derived.Test.YtbdmfcnlfmnmdaaDoorNetPlain
import Derived.Test.YtbdmfcnlfmnmdaaDoorErrTold
import Derived.Test.YtbdmfcnlfmnmdaaDoorPrefErr
import Derived.Test.YtbdmfcnlfmnmdaaDoorTrieTab
import Derived.ChangeKeysEq
import Derived.Deep.RegionHeld3
namespace Go.Proofs.YtbdmfcnlfmnmdaaDoor
open Go.RowKit Go.Lib

/-- What Cover answers: the cover, or nothing. -/
def covE (l : List Nt) : List Nt := if badL l = 0 then cov l else []

theorem stepR_len (st : List Nt) (n : Nt) : (stepR st n).length ≤ st.length + 1 := by
  cases st with
  | nil => rw [stepR]; exact joinR_len [n]
  | cons t r =>
    rw [stepR]
    split
    · exact Nat.le_succ _
    · exact joinR_len (n :: t :: r)
theorem covR_len : ∀ (l st : List Nt), (covR l st).length ≤ st.length + l.length
  | [], st => by rw [covR]; exact Nat.le_refl _
  | n :: r, st => by
    rw [covR, List.length_cons]
    have h1 := covR_len r (stepR st n)
    have h2 := stepR_len st n
    omega
/-- A cover has no more networks than the list. -/
theorem cov_len (l : List Nt) : (cov l).length ≤ l.length := by
  unfold cov
  have := covR_len (srt l) []
  rw [srt_len] at this
  simpa using this
theorem covE_len {N : Nat} (l : List Nt) (h : l.length < N) : (covE l).length < N := by
  unfold covE
  split
  · exact Nat.lt_of_le_of_lt (cov_len l) h
  · simp only [List.length_nil]; omega

set_option maxHeartbeats 400000 in
set_option maxRecDepth 100000 in
theorem cover_bad (w : World) (v : Value) (l : List Nt) (harg : Arg w v l) (hn : l.length < 4611686018427387904) (hok : ∀ x ∈ l, x.1 < 4294967296) (hb : badL l ≠ 0) :
    Calls Tryd.prog 23 #[v] w fun e w' => e = .returned (.tuple #[.slice none 0 0, errV (badL l)]) ∧ Below w.heap.size w w' := by
  have hE : errV (badL l) = .iface 29 (.int .i64 (badL l)) := if_neg hb
  have hC := checkL_any w v l hn harg hok
  rw [hE] at hC ⊢
  have HC := Lib.hid hC; clear hC hE harg hok hb
  generalize badL l = q at HC ⊢
  go_enter Tryd.func23, Tryd.ntmps23
  go_wp2_with fail
  refine HC.out.mono ?_
  rintro e w1 ⟨rfl, hb⟩
  go_wp2_with fail
  exact bodyPost_ret (v := .tuple #[.slice none 0 0, .iface 29 (.int .i64 q)]) (by simp [results, Tryd.results23, go_sem]) rfl ⟨rfl, hb⟩

theorem cover_any (w : World) (v : Value) (l : List Nt) (harg : Arg w v l) (hn : l.length < 4611686018427387904) (hok : ∀ x ∈ l, x.1 < 4294967296) :
    Calls Tryd.prog 23 #[v] w fun e w' => ∃ v', e = .returned (.tuple #[v', errV (badL l)]) ∧ Own w' w.heap.size v' (covE l) ∧ Below w.heap.size w w' := by
  by_cases hb : badL l = 0
  · have h0 := (badL_zero l).1 hb
    refine (cover_ok w v l harg h0.2 (fun x hx => ⟨hok x hx, h0.1 x hx⟩)).mono ?_
    rintro e w' ⟨v', rfl, ho, hbl⟩
    unfold covE
    rw [hb, if_pos rfl]
    exact ⟨v', rfl, ho, hbl⟩
  · refine (cover_bad w v l harg hn hok hb).mono ?_
    rintro e w' ⟨rfl, hbl⟩
    unfold covE
    rw [if_neg hb]
    exact ⟨_, rfl, World.ownsRow_nil w' w.heap.size 32 2, hbl⟩
end Go.Proofs.YtbdmfcnlfmnmdaaDoor

namespace Go.Proofs.YtbdmfcnlfmnmdaaDoor

/-- Two halves of one. -/
theorem Nt.V.wh {x y u : Nt} (hx : x.V) (h : wh x y = some u) : u.V ∧ y.V ∧ u.1 = x.1 ∧ y.1 = x.hi ∧ y.sz = x.sz ∧ u.sz = 2 * x.sz := by
  obtain ⟨n, a1, hn, e, hd⟩ := hx.len
  unfold Go.Proofs.YtbdmfcnlfmnmdaaDoor.wh at h
  by_cases h0 : x.2 = 0
  · rw [if_pos h0] at h; exact absurd h (by simp)
  · rw [if_neg h0] at h
    by_cases h1 : PrefP.cut x.1 (x.2.toNat - 1) = x.1 ∧ y = (x.1 ||| PrefP.bit (x.2.toNat - 1), x.2)
    · rw [if_pos h1] at h
      have hu := (Option.some.inj h).symm
      obtain ⟨c1, c2⟩ := h1
      obtain ⟨m, rfl⟩ : ∃ m, n = m + 1 := ⟨n - 1, by omega⟩
      rw [a1, show (((m + 1 : Nat) : Int)).toNat - 1 = m by omega] at c1 c2
      rw [a1, show (((m + 1 : Nat) : Int) - 1) = (m : Int) by omega] at hu
      have c3 := c1
      rw [cut_div x.1 m hx.1 (by omega)] at c3
      have dv : 2 ^ (32 - m) ∣ x.1 := ⟨x.1 / 2 ^ (32 - m), by rw [Nat.mul_comm]; exact c3.symm⟩
      have pw : 2 ^ (32 - m) = 2 * 2 ^ (32 - (m + 1)) := by rw [show 32 - m = (32 - (m + 1)) + 1 by omega, Nat.pow_succ]; omega
      have hb : PrefP.bit m = 2 ^ (32 - (m + 1)) := by unfold PrefP.bit; rw [show 31 - m = 32 - (m + 1) by omega]
      have ho : x.1 ||| PrefP.bit m = x.1 + 2 ^ (32 - (m + 1)) := by
        rw [hb]
        obtain ⟨q, hq⟩ := dv
        rw [hq, pw, show 2 * 2 ^ (32 - (m + 1)) * q = 2 ^ (32 - (m + 1)) * (2 * q) by rw [Nat.mul_comm 2, Nat.mul_assoc]]
        have h2 : 2 * q ||| 1 = 2 * q + 1 := by
          rw [Nat.or_comm]
          have := Nat.two_pow_add_eq_or_of_lt (i := 1) (b := 1) (by decide) q
          rw [Nat.pow_one] at this
          rw [this, Nat.or_comm]
        have h3 : 2 ^ (32 - (m + 1)) * (2 * q) ||| 2 ^ (32 - (m + 1)) * 1 = 2 ^ (32 - (m + 1)) * (2 * q ||| 1) := by
          rw [Nat.mul_comm _ (2 * q), Nat.mul_comm _ 1, Nat.mul_comm _ (2 * q ||| 1), ← Nat.shiftLeft_eq, ← Nat.shiftLeft_eq, ← Nat.shiftLeft_eq, Nat.shiftLeft_or_distrib]
        rw [Nat.mul_one] at h3
        rw [h3, h2, Nat.mul_add, Nat.mul_one]
      have uV : u.V := by rw [hu]; exact Nt.V.of m hx.1 rfl (by omega) dv
      have us : u.sz = 2 ^ (32 - m) := by rw [hu]; unfold Nt.sz; rfl
      have hin : x.1 + 2 ^ (32 - m) ≤ 4294967296 := by
        have := uV.hi_le
        unfold Nt.hi at this
        rw [us, hu] at this
        exact this
      have yV : y.V := by
        rw [c2]
        refine Nt.V.of (m + 1) (by simp only; rw [ho]; have := Nat.two_pow_pos (32 - (m + 1)); omega) rfl (by omega) ?_
        simp only
        rw [ho]
        exact Nat.dvd_add (e ▸ hd) (Nat.dvd_refl _)
      have ys : y.sz = 2 ^ (32 - (m + 1)) := by rw [c2]; unfold Nt.sz; rfl
      refine ⟨uV, yV, by rw [hu], ?_, by rw [ys, e], by rw [us, e, pw]⟩
      unfold Nt.hi
      rw [c2, e]
      exact ho
    · rw [if_neg h1] at h; exact absurd h (by simp)
end Go.Proofs.YtbdmfcnlfmnmdaaDoor

namespace Go.Proofs.YtbdmfcnlfmnmdaaDoor

/-- A list as a cover is, from its end. -/
def Ch : List Nt → Prop
  | [] => True
  | [x] => x.V
  | x :: y :: r => x.V ∧ y.hi ≤ x.1 ∧ wh y x = none ∧ Ch (y :: r)
/-- Some network of a list has the address. -/
def anyHas (l : List Nt) (a : Nat) : Bool := l.any fun x => PrefP.has x.1 x.2 a

theorem Ch.head {x : Nt} {r : List Nt} (h : Ch (x :: r)) : x.V := by
  cases r with
  | nil => exact h
  | cons y r => exact h.1
theorem Ch.tail {x : Nt} {r : List Nt} (h : Ch (x :: r)) : Ch r := by
  cases r with
  | nil => exact True.intro
  | cons y r => exact h.2.2.2
theorem Nt.hi_gt (x : Nt) : x.1 < x.hi := by unfold Nt.hi; have := x.sz_pos; omega

theorem joinR_ch : ∀ (st : List Nt) (n : Nt), n.V → Ch st → (∀ t r, st = t :: r → t.hi ≤ n.1) →
    Ch (joinR (n :: st)) ∧ ∃ t r, joinR (n :: st) = t :: r ∧ t.1 ≤ n.1 ∧ t.hi = n.hi ∧ (t.1 = n.1 → t = n)
  | [], n, hn, _, _ => by
    rw [joinR_few [n] (by simp)]
    exact ⟨hn, n, [], rfl, Nat.le_refl _, rfl, fun _ => rfl⟩
  | t :: r, n, hn, hc, ht => by
    have h1 := ht t r rfl
    cases hw : wh t n with
    | none =>
      rw [joinR_stop n t r hw]
      exact ⟨⟨hn, h1, hw, hc⟩, n, t :: r, rfl, Nat.le_refl _, rfl, fun _ => rfl⟩
    | some u =>
      rw [joinR_go n t u r hw]
      obtain ⟨uV, _, e1, e2, e3, e4⟩ := hc.head.wh hw
      have hu : u.hi = n.hi := by unfold Nt.hi at *; omega
      obtain ⟨i1, T, R, i2, i3, i4, i5⟩ := joinR_ch r u uV hc.tail (fun t' r' e => by
        subst e
        rw [e1]; exact hc.2.1)
      have := t.hi_gt
      exact ⟨i1, T, R, i2, by omega, by rw [i4, hu], fun e => absurd e (by omega)⟩

theorem wh_any {t n u : Nt} (ht : t.V) (h : wh t n = some u) (a : Nat) (ha : a < 4294967296) : PrefP.has u.1 u.2 a = (PrefP.has n.1 n.2 a || PrefP.has t.1 t.2 a) := by
  obtain ⟨uV, nV, e1, e2, e3, e4⟩ := ht.wh h
  have h1 := uV.has a ha
  have h2 := nV.has a ha
  have h3 := ht.has a ha
  have x1 : u.hi = u.1 + u.sz := rfl
  have x2 : n.hi = n.1 + n.sz := rfl
  have x3 : t.hi = t.1 + t.sz := rfl
  rw [Bool.eq_iff_iff, Bool.or_eq_true, h1, h2, h3]
  have := t.sz_pos
  omega
theorem joinR_any : ∀ (k : Nat) (l : List Nt), l.length ≤ k → (∀ x ∈ l, x.V) → ∀ a, a < 4294967296 → anyHas (joinR l) a = anyHas l a
  | _, [], _, _, a, _ => by rw [joinR_few [] (by simp)]
  | _, [x], _, _, a, _ => by rw [joinR_few [x] (by simp)]
  | 0, x :: y :: r, h, _, _, _ => by simp at h
  | k + 1, x :: y :: r, h, hv, a, ha => by
    cases hw : wh y x with
    | none => rw [joinR_stop x y r hw]
    | some u =>
      have yV := hv y (by simp)
      rw [joinR_go x y u r hw, joinR_any k (u :: r) (by simp at h ⊢; omega) (by
        intro q hq
        rw [List.mem_cons] at hq
        rcases hq with rfl | hq
        · exact (yV.wh hw).1
        · exact hv q (by simp [hq])) a ha]
      unfold anyHas
      rw [List.any_cons, List.any_cons, List.any_cons, wh_any yV hw a ha, Bool.or_assoc]

theorem covR_ch : ∀ (l st : List Nt), Ch st → (∀ x ∈ st, x.V) → (∀ x ∈ l, x.V) → l.Pairwise (fun x y => Nt.lt y x = false) → (∀ t r, st = t :: r → ∀ n ∈ l, Nt.lt n t = false) →
    Ch (covR l st) ∧ ∀ a, a < 4294967296 → anyHas (covR l st) a = (anyHas l a || anyHas st a)
  | [], st, hc, _, _, _, _ => by
    rw [covR]
    exact ⟨hc, fun a _ => by simp [anyHas]⟩
  | n :: l, st, hc, hsV, hlV, hs, hb => by
    rw [covR]
    have nV := hlV n (by simp)
    rw [List.pairwise_cons] at hs
    have lV : ∀ x ∈ l, x.V := fun x hx => hlV x (by simp [hx])
    cases st with
    | nil =>
      rw [stepR, joinR_few [n] (by simp)]
      obtain ⟨i1, i2⟩ := covR_ch l [n] nV (by simpa using nV) lV hs.2 (fun t r e m hm => by
        have : t = n := by simpa using (List.cons.inj e).1.symm
        subst this
        exact hs.1 m hm)
      exact ⟨i1, fun a ha => by rw [i2 a ha]; simp [anyHas, Bool.or_comm]⟩
    | cons t r =>
      have tV := hsV t (by simp)
      have hnt := hb t r rfl n (by simp)
      rw [stepR]
      by_cases hin : PrefP.in n.1 n.2 t.1 t.2 = true
      · rw [if_pos hin]
        obtain ⟨i1, i2⟩ := covR_ch l (t :: r) hc hsV lV hs.2 (fun t' r' e m hm => hb t' r' e m (by simp [hm]))
        refine ⟨i1, fun a ha => ?_⟩
        rw [i2 a ha]
        have hsub : PrefP.has n.1 n.2 a = true → PrefP.has t.1 t.2 a = true := by
          rw [nV.has a ha, tV.has a ha]
          have := (nV.in tV).1 hin
          omega
        unfold anyHas
        rw [List.any_cons, List.any_cons]
        cases h1 : PrefP.has n.1 n.2 a
        · rfl
        · rw [hsub h1]; simp
      · rw [if_neg hin]
        have hlt : ¬ (n.1 < t.1 ∨ (n.1 = t.1 ∧ t.sz < n.sz)) := by
          rw [← nV.lt tV, hnt]; simp
        have hni : ¬ (t.1 ≤ n.1 ∧ n.hi ≤ t.hi) := fun h => hin ((nV.in tV).2 h)
        have x1 : n.hi = n.1 + n.sz := rfl
        have x2 : t.hi = t.1 + t.sz := rfl
        have hge : t.hi ≤ n.1 := by
          have := n.sz_pos
          rcases nV.nest tV with h | h | h | h <;> omega
        obtain ⟨j1, T, R, j2, j3, j4, j5⟩ := joinR_ch (t :: r) n nV hc (fun t' r' e => by
          have : t' = t := (List.cons.inj e).1.symm
          subst this; exact hge)
        have jV : ∀ x ∈ joinR (n :: t :: r), x.V := joinR_ok (n :: t :: r) (by
          intro q hq
          rw [List.mem_cons] at hq
          rcases hq with rfl | hq
          · exact nV
          · exact hsV q hq)
        have TV := jV T (by rw [j2]; simp)
        obtain ⟨i1, i2⟩ := covR_ch l (joinR (n :: t :: r)) j1 jV lV hs.2 (fun t' r' e m hm => by
          rw [j2] at e
          have et : t' = T := (List.cons.inj e).1.symm
          subst et
          have hmn := hs.1 m hm
          have mV := lV m hm
          have k1 : ¬ (m.1 < n.1 ∨ (m.1 = n.1 ∧ n.sz < m.sz)) := by rw [← mV.lt nV, hmn]; simp
          have k2 : ¬ (m.1 < t'.1 ∨ (m.1 = t'.1 ∧ t'.sz < m.sz)) := by
            by_cases he : t'.1 = n.1
            · have := j5 he
              subst this; exact k1
            · omega
          rw [← mV.lt TV] at k2
          simpa using k2)
        refine ⟨i1, fun a ha => ?_⟩
        rw [i2 a ha, joinR_any _ (n :: t :: r) (Nat.le_refl _) (by
          intro q hq
          rw [List.mem_cons] at hq
          rcases hq with rfl | hq
          · exact nV
          · exact hsV q hq) a ha]
        unfold anyHas
        simp only [List.any_cons]
        cases PrefP.has n.1 n.2 a <;> cases PrefP.has t.1 t.2 a <;> simp

/-- WHAT A COVER IS: its networks are right, apart, they rise, no two are halves of one. -/
def Good (c : List Nt) : Prop := (∀ x ∈ c, x.V) ∧ c.Pairwise fun x y => x.hi ≤ y.1 ∧ wh x y = none
theorem Ch.good : ∀ st : List Nt, Ch st → (∀ x ∈ st, x.V) ∧ st.Pairwise fun x y => y.hi ≤ x.1 ∧ wh y x = none
  | [], _ => ⟨by simp, List.Pairwise.nil⟩
  | [x], h => ⟨fun q hq => by rw [List.mem_singleton] at hq; subst hq; exact h, by simp⟩
  | x :: y :: r, h => by
    obtain ⟨i1, i2⟩ := Ch.good (y :: r) h.2.2.2
    refine ⟨by
      intro q hq
      rw [List.mem_cons] at hq
      rcases hq with rfl | hq
      · exact h.1
      · exact i1 q hq, ?_⟩
    rw [List.pairwise_cons]
    refine ⟨?_, i2⟩
    intro q hq
    rw [List.mem_cons] at hq
    rcases hq with rfl | hq
    · exact ⟨h.2.1, h.2.2.1⟩
    · rw [List.pairwise_cons] at i2
      have h1 := (i2.1 q hq).1
      have h2 := y.hi_gt
      have h3 := h.2.1
      refine ⟨by omega, ?_⟩
      cases hw : wh q x with
      | none => rfl
      | some u =>
        have := (i1 q (by simp [hq])).wh hw
        omega
theorem cov_good (l : List Nt) (h : ∀ x ∈ l, x.V) : Good (cov l) := by
  have hV : ∀ x ∈ srt l, x.V := fun x hx => h x ((srt_mem l x).1 hx)
  obtain ⟨i1, _⟩ := covR_ch (srt l) [] True.intro (by simp) hV (srt_sorted l) (fun _ _ e => by simp at e)
  obtain ⟨g1, g2⟩ := Ch.good _ i1
  unfold cov
  refine ⟨fun x hx => g1 x (by simpa using hx), ?_⟩
  rw [List.pairwise_reverse]
  exact g2
theorem anyHas_perm {l m : List Nt} (h : ∀ x, x ∈ l ↔ x ∈ m) (a : Nat) : anyHas l a = anyHas m a := by
  unfold anyHas
  rw [Bool.eq_iff_iff, List.any_eq_true, List.any_eq_true]
  constructor
  · rintro ⟨x, h1, h2⟩; exact ⟨x, (h x).1 h1, h2⟩
  · rintro ⟨x, h1, h2⟩; exact ⟨x, (h x).2 h1, h2⟩
/-- A cover has the addresses of its list. -/
theorem cov_any (l : List Nt) (h : ∀ x ∈ l, x.V) (a : Nat) (ha : a < 4294967296) : anyHas (cov l) a = anyHas l a := by
  have hV : ∀ x ∈ srt l, x.V := fun x hx => h x ((srt_mem l x).1 hx)
  obtain ⟨_, i2⟩ := covR_ch (srt l) [] True.intro (by simp) hV (srt_sorted l) (fun _ _ e => by simp at e)
  unfold cov
  rw [anyHas_perm (m := covR (srt l) []) (fun x => by simp) a, i2 a ha, anyHas_perm (srt_mem l) a]
  simp [anyHas]
theorem covR_good : ∀ (l st : List Nt), Good (st.reverse ++ l) → covR l st = l.reverse ++ st
  | [], st, _ => by rw [covR]; rfl
  | n :: l, st, h => by
    have e1 : stepR st n = n :: st := by
      cases st with
      | nil => rw [stepR, joinR_few [n] (by simp)]
      | cons t r =>
        have hp := h.2
        rw [List.reverse_cons, List.append_assoc, List.pairwise_append] at hp
        have h2 := hp.2.1
        rw [List.singleton_append, List.pairwise_cons] at h2
        obtain ⟨h3, h4⟩ := h2.1 n (by simp)
        have tV := h.1 t (by simp)
        have nV := h.1 n (by simp)
        rw [stepR, if_neg (by
          rw [nV.in tV]
          have := n.hi_gt
          omega), joinR_stop n t r h4]
    rw [covR, e1, covR_good l (n :: st) (by rw [List.reverse_cons, List.append_assoc]; exact h), List.reverse_cons, List.append_assoc]
    rfl
/-- Covered again it stays. -/
theorem cov_same (c : List Nt) (h : Good c) : cov c = c := by
  have hs : c.Pairwise fun x y => Nt.lt y x = false := h.2.imp_of_mem (by
    intro x y hx hy hxy
    have h1 : ¬ (y.1 < x.1 ∨ (y.1 = x.1 ∧ x.sz < y.sz)) := by have := x.hi_gt; omega
    rw [← (h.1 y hy).lt (h.1 x hx)] at h1
    simpa using h1)
  have e : srt c = c := List.Perm.eq_of_pairwise (le := fun x y => Nt.lt y x = false) (fun a b _ _ h1 h2 => Nt.tot a b h2 h1) (srt_sorted c) hs (srt_perm c)
  unfold cov
  rw [e, covR_good c [] (by simpa using h)]
  simp

/-! ### Two networks of a cover have not the same one above -/
theorem or_bit (a m : Nat) (hm : m < 32) (dv : 2 ^ (32 - m) ∣ a) : a ||| PrefP.bit m = a + 2 ^ (32 - (m + 1)) := by
  have pw : 2 ^ (32 - m) = 2 * 2 ^ (32 - (m + 1)) := by rw [show 32 - m = (32 - (m + 1)) + 1 by omega, Nat.pow_succ]; omega
  have hb : PrefP.bit m = 2 ^ (32 - (m + 1)) := by unfold PrefP.bit; rw [show 31 - m = 32 - (m + 1) by omega]
  rw [hb]
  obtain ⟨q, hq⟩ := dv
  rw [hq, pw, show 2 * 2 ^ (32 - (m + 1)) * q = 2 ^ (32 - (m + 1)) * (2 * q) by rw [Nat.mul_comm 2, Nat.mul_assoc]]
  have h2 : 2 * q ||| 1 = 2 * q + 1 := by
    rw [Nat.or_comm]
    have := Nat.two_pow_add_eq_or_of_lt (i := 1) (b := 1) (by decide) q
    rw [Nat.pow_one] at this
    rw [this, Nat.or_comm]
  have h3 : 2 ^ (32 - (m + 1)) * (2 * q) ||| 2 ^ (32 - (m + 1)) * 1 = 2 ^ (32 - (m + 1)) * (2 * q ||| 1) := by
    rw [Nat.mul_comm _ (2 * q), Nat.mul_comm _ 1, Nat.mul_comm _ (2 * q ||| 1), ← Nat.shiftLeft_eq, ← Nat.shiftLeft_eq, ← Nat.shiftLeft_eq, Nat.shiftLeft_or_distrib]
  rw [Nat.mul_one] at h3
  rw [h3, h2, Nat.mul_add, Nat.mul_one]
theorem up_apart {x y : Nt} (hx : x.V) (hy : y.V) (h : x.hi ≤ y.1) (hw : wh x y = none) (n m : Nat) (ex : x.2 = (n : Int) + 1) (ey : y.2 = (m : Int) + 1) : ¬ (PrefP.cut x.1 n = PrefP.cut y.1 m ∧ n = m) := by
  rintro ⟨h1, rfl⟩
  obtain ⟨k, a1, hk, e, hd⟩ := hx.len
  obtain ⟨k', a2, hk', f, hf⟩ := hy.len
  obtain rfl : k = n + 1 := by omega
  obtain rfl : k' = n + 1 := by omega
  rw [cut_div x.1 n hx.1 (by omega), cut_div y.1 n hy.1 (by omega)] at h1
  have pw : 2 ^ (32 - n) = 2 * 2 ^ (32 - (n + 1)) := by rw [show 32 - n = (32 - (n + 1)) + 1 by omega, Nat.pow_succ]; omega
  have hxh : x.hi = x.1 + 2 ^ (32 - (n + 1)) := by unfold Nt.hi; rw [e]
  have hp : 0 < 2 ^ (32 - n) := Nat.two_pow_pos _
  have m1 := Nat.div_add_mod x.1 (2 ^ (32 - n))
  have m2 := Nat.div_add_mod y.1 (2 ^ (32 - n))
  have l1 := Nat.mod_lt x.1 hp
  have l2 := Nat.mod_lt y.1 hp
  rw [Nat.mul_comm] at m1 m2
  have dp : 2 ^ (32 - n) ∣ x.1 / 2 ^ (32 - n) * 2 ^ (32 - n) := Nat.dvd_mul_left _ _
  generalize hP : x.1 / 2 ^ (32 - n) * 2 ^ (32 - n) = P at *
  rw [← h1] at m2
  have ds : 2 ^ (32 - (n + 1)) ∣ P := Nat.dvd_trans ⟨2, by rw [pw, Nat.mul_comm]⟩ dp
  rw [e] at hd
  rw [f] at hf
  have sp : 0 < 2 ^ (32 - (n + 1)) := Nat.two_pow_pos _
  -- the first is at P, the second at its half
  have x1 : x.1 = P := by
    rcases Nat.lt_or_ge P x.1 with h2 | h2
    · have := step_le ds hd h2; omega
    · omega
  have y1 : y.1 = P + 2 ^ (32 - (n + 1)) := by
    rcases Nat.lt_or_ge (P + 2 ^ (32 - (n + 1))) y.1 with h2 | h2
    · have := step_le (Nat.dvd_add ds (Nat.dvd_refl _)) hf h2; omega
    · omega
  have dx : 2 ^ (32 - n) ∣ x.1 := by rw [x1]; exact dp
  have ho := or_bit x.1 n (by omega) dx
  have hc : PrefP.cut x.1 n = x.1 := by rw [cut_div x.1 n hx.1 (by omega), hP, x1]
  have hy2 : y = (x.1 ||| PrefP.bit n, (n : Int) + 1) := Prod.ext (by rw [y1, ho, x1]) ey
  have hx2 : x = (x.1, (n : Int) + 1) := Prod.ext rfl ex
  rw [hy2, hx2] at hw
  rw [wh_yes x.1 n hc] at hw
  exact absurd hw (by simp)
theorem apart_len {x y : Nt} (hx : x.V) (hy : y.V) (h : x.hi ≤ y.1) : ∃ n m : Nat, x.2 = (n : Int) + 1 ∧ y.2 = (m : Int) + 1 ∧ n < 32 ∧ m < 32 ∧ PrefP.cut x.1 (n + 1) = x.1 ∧ PrefP.cut y.1 (m + 1) = y.1 := by
  obtain ⟨n, h1, h2, h3⟩ := PrefP.chk_zero x.1 x.2 hx.2
  obtain ⟨m, k1, k2, k3⟩ := PrefP.chk_zero y.1 y.2 hy.2
  have hn : n ≠ 0 := by
    rintro rfl
    have : x.hi = x.1 + 2 ^ 32 := by unfold Nt.hi Nt.sz; rw [h1]; rfl
    have := hy.1
    omega
  have hm : m ≠ 0 := by
    rintro rfl
    have h4 : y.1 = 0 := by rw [← k3]; simp [PrefP.cut, MaskP.mk]
    have := x.hi_gt
    omega
  obtain ⟨n', rfl⟩ : ∃ n', n = n' + 1 := ⟨n - 1, by omega⟩
  obtain ⟨m', rfl⟩ : ∃ m', m = m' + 1 := ⟨m - 1, by omega⟩
  exact ⟨n', m', by rw [h1]; omega, by rw [k1]; omega, by omega, by omega, h3, k3⟩
end Go.Proofs.YtbdmfcnlfmnmdaaDoor

namespace Go.Proofs.YtbdmfcnlfmnmdaaDoor
open Go.RowKit Go.Lib

set_option maxHeartbeats 400000 in
set_option maxRecDepth 100000 in
theorem hasC_any (x : Nt) (a B : Nat) (ha : a < 4294967296) (W : World) (hB : W.cell? ⟨B, 0, none⟩ = some (.int .u32 (a : Int))) :
    Calls Tryd.prog 42 #[.agg #[.int .u32 (x.1 : Int), .int .i64 x.2], .pointer (some ⟨B, 0, none⟩)] W fun e w' => e = .returned (.bool (PrefP.has x.1 x.2 a)) ∧ Below W.heap.size W w' := by
  have hl : B < W.heap.size := World.block_lt_of_cell? _ _ hB
  go_enter Tryd.func42, Tryd.ntmps42
  go_wp2_with fail
  refine (has_any x.1 x.2 a ha _).mono ?_
  rintro e w1 ⟨rfl, hb⟩
  have hb' := (box1 hb).2
  go_wp2_with fail
  go_ret
  exact ⟨rfl, hb'⟩

set_option maxHeartbeats 1000000 in
set_option maxRecDepth 100000 in
theorem index_some (W : World) (b off c a B : Nat) (l : List Nt) (ha : a < 4294967296) (hn : l.length < 4611686018427387904) (hb : b < W.heap.size) (hs : Seen W b off l) (hB : W.cell? ⟨B, 0, none⟩ = some (.int .u32 (a : Int))) :
    Calls Tryd.prog 51 #[.slice (some ⟨b, off, none⟩) l.length c, .func (.func 42) #[] #[.pointer (some ⟨B, 0, none⟩)]] W fun e w' => ∃ z, e = .returned (.int .i64 z) ∧ decide (0 ≤ z) = anyHas l a ∧ Below W.heap.size W w' := by
  have eg : ∀ args w, (callFunc 42 args).run Tryd.prog w = .ok (.enter 42 args) w := enters_of Tryd.func42 (by kernel_rfl) rfl
  have HS := Lib.hid hs; clear hs
  have hBl : B < W.heap.size := World.block_lt_of_cell? _ _ hB
  have HBC := Lib.hid hB; clear hB
  go_enter Tryd.func51, Tryd.ntmps51
  go_wp2_with fail
  go_loopw [8] (fun v wr => ∃ (k : Nat), v = .int .i64 k ∧ k ≤ l.length ∧ Hid (Below W.heap.size W wr) ∧ Hid (anyHas (l.drop k) a = anyHas l a)) (fun v _ => l.length - (intOf v).toNat)
  case atStart => exact ⟨0, rfl, Nat.zero_le _, Lib.hid (Below.refl _ _), Lib.hid rfl⟩
  case round =>
    obtain ⟨k, rfl, hk, hBl2, HE⟩ := hrel
    by_cases hkn : k < l.length
    · have S := HS.out.below hBl2.out hb
      have s0 : wr.cell? ⟨b, off + k * 2, none⟩ = some (.int .u32 (l[k]!.1 : Int)) := S.c0 k hkn
      have s1 : wr.cell? ⟨b, off + k * 2 + 1, none⟩ = some (.int .i64 l[k]!.2) := S.c1 k hkn
      have hB' : wr.cell? ⟨B, 0, none⟩ = some (.int .u32 (a : Int)) := (hBl2.out.cell (p := ⟨B, 0, none⟩) hBl).trans HBC.out
      have hd := drop_at l k hkn
      clear S
      generalize l[k]! = x at s0 s1 hd
      have hC := Lib.hid (hasC_any x a B ha wr hB'); clear hB'
      cases hx : PrefP.has x.1 x.2 a with
      | true =>
        rw [hx] at hC
        go_wp2_with fail
        refine hC.out.mono ?_
        rintro e w1 ⟨rfl, hb1⟩
        go_wp2_with fail
        go_ret
        refine ⟨(k : Int), rfl, ?_, Below.two hBl2.out hb1⟩
        rw [← HE.out, hd]
        unfold anyHas
        rw [List.any_cons, hx, Bool.true_or, decide_eq_true (by omega)]
      | false =>
        rw [hx] at hC
        go_wp2_with fail
        refine hC.out.mono ?_
        rintro e w1 ⟨rfl, hb1⟩
        go_wp2_with fail
        go_roundw
        case rel =>
          refine ⟨k + 1, by go_num, by omega, Lib.hid (Below.two hBl2.out hb1), Lib.hid ?_⟩
          rw [← HE.out, hd]
          unfold anyHas
          rw [List.any_cons, hx, Bool.false_or]
        case measure => simp [intOf]; omega
    · go_wp2_with fail
      go_ret
      refine ⟨-1, rfl, ?_, hBl2.out⟩
      rw [← HE.out, List.drop_eq_nil_of_le (by omega)]
      rfl
set_option maxHeartbeats 400000 in
set_option maxRecDepth 100000 in
theorem index_none (W : World) (p : Option Addr) (c : Nat) (u : Value) :
    Calls Tryd.prog 51 #[.slice p 0 c, u] W fun e w' => e = .returned (.int .i64 (-1)) ∧ w' = W := by
  go_enter Tryd.func51, Tryd.ntmps51
  go_wp2_with fail
  refine wp_loop_rounds 1 ?_
  rw [rounds_succ]
  go_wp2_with fail
  go_ret
  exact ⟨rfl, rfl⟩
theorem index_any (W : World) (v : Value) (a B : Nat) (l : List Nt) (ha : a < 4294967296) (hn : l.length < 4611686018427387904) (h : Arg W v l) (hB : W.cell? ⟨B, 0, none⟩ = some (.int .u32 (a : Int))) :
    Calls Tryd.prog 51 #[v, .func (.func 42) #[] #[.pointer (some ⟨B, 0, none⟩)]] W fun e w' => ∃ z, e = .returned (.int .i64 z) ∧ decide (0 ≤ z) = anyHas l a ∧ Below W.heap.size W w' := by
  obtain ⟨p, c, rfl, h⟩ := h
  rcases h with rfl | ⟨b, off, rfl, hb, hs⟩
  · refine (index_none W p c _).mono ?_
    rintro e w' ⟨rfl, rfl⟩
    exact ⟨-1, rfl, rfl, Below.refl _ _⟩
  · exact index_some W b off c a B l ha hn hb hs hB
set_option maxHeartbeats 400000 in
set_option maxRecDepth 100000 in
theorem hasL_any (w : World) (v : Value) (a : Nat) (l : List Nt) (ha : a < 4294967296) (hn : l.length < 4611686018427387904) (h : Arg w v l) :
    Calls Tryd.prog 24 #[v, .int .u32 (a : Int)] w fun e w' => e = .returned (.bool (anyHas l a)) ∧ Below w.heap.size w w' := by
  have HI : Hid (∀ W, Arg W v l → ∀ B, W.cell? ⟨B, 0, none⟩ = some (.int .u32 (a : Int)) → Calls Tryd.prog 41 #[v, .func (.func 42) #[] #[.pointer (some ⟨B, 0, none⟩)]] W fun e w' => e = .returned (.bool (anyHas l a)) ∧ Below W.heap.size W w') := Lib.hid (by
    intro W hW B hB
    have H := Lib.hid (index_any W v a B l ha hn hW hB)
    clear hW hB
    go_enter Tryd.func41, Tryd.ntmps41
    go_wp2_with fail
    refine H.out.mono ?_
    rintro e w1 ⟨z, rfl, hz, hb⟩
    have HZ := Lib.hid hz; clear hz
    go_wp2_with fail
    go_ret
    exact ⟨by rw [← HZ.out]; rfl, hb⟩)
  have hA := h.below ((Below.refl _ w).alloc (Nat.le_refl _) (.cells #[.int .u32 (a : Int)] 24))
  have HA := Lib.hid hA; clear hA h
  go_enter Tryd.func24, Tryd.ntmps24
  go_wp2_with fail
  refine (HI.out _ HA.out w.heap.size (by simp)).mono ?_
  rintro e w1 ⟨rfl, hb⟩
  have hb' : Below w.heap.size w w1 := ((Below.refl _ w).alloc (Nat.le_refl _) _).trans (hb.mono (by simp))
  go_wp2_with fail
  go_ret
  exact ⟨rfl, hb'⟩
end Go.Proofs.YtbdmfcnlfmnmdaaDoor

namespace Go.Proofs.YtbdmfcnlfmnmdaaDoor
open Go.RowKit

theorem toldV (k : Int) (w : World) (hg : ErrType w) : Calls Tryd.prog 27 #[errV k] w fun e w' => e = .returned (.int .i64 k) ∧ Below w.heap.size w w' := by
  by_cases h : k = 0
  · subst h
    refine (told_nil w).mono ?_
    rintro e w' ⟨rfl, rfl⟩
    exact ⟨rfl, Below.refl _ _⟩
  · rw [show errV k = .iface 29 (.int .i64 k) from if_neg h]
    exact told_err k w hg

set_option maxHeartbeats 400000 in
set_option maxRecDepth 100000 in
theorem sameTold_any (a b : Int) (w : World) (hg : ErrType w) : Calls Tryd.prog 22 #[errV a, errV b] w fun e w' => e = .returned (.bool (a == b)) ∧ Below w.heap.size w w' := by
  have HG := Lib.hid hg; clear hg
  have h1 := Lib.hid (toldV a); have h2 := Lib.hid (toldV b)
  generalize errV a = ea at h1 ⊢
  generalize errV b = eb at h2 ⊢
  go_enter Tryd.func22, Tryd.ntmps22
  go_wp2_with fail
  refine (h1.out w HG.out).mono ?_
  rintro e w1 ⟨rfl, b1⟩
  go_wp2_with fail
  refine (h2.out w1 (HG.out.below b1)).mono ?_
  rintro e w2 ⟨rfl, b2⟩
  go_wp2_with fail
  go_ret
  exact ⟨rfl, Below.two b1 b2⟩
end Go.Proofs.YtbdmfcnlfmnmdaaDoor

namespace Go.Proofs.YtbdmfcnlfmnmdaaDoor
open Go.RowKit

theorem errV_pos {k : Int} (h : k ≠ 0) : errV k = .iface 29 (.int .i64 k) := if_neg h
theorem errV_zero : errV 0 = .nilIface := rfl

set_option maxHeartbeats 1000000 in
set_option maxRecDepth 100000 in
theorem get_bad (w : World) (tb : Nat) (a : Nat) (z : Int) (ha : a < 4294967296) (h : PrefP.chk a z ≠ 0) :
    Calls Tryd.prog 10 #[.pointer (some ⟨tb, 0, none⟩), .agg #[.int .u32 a, .int .i64 z]] w fun e w' => e = .returned (.tuple #[.int .i64 0, .iface 29 (.int .i64 (PrefP.chk a z))]) ∧ Below w.heap.size w w' := by
  have HC := Lib.hid (check1_any a z ha)
  have HE := Lib.hid (errV_pos h)
  clear h
  generalize PrefP.chk a z = k at HC HE ⊢
  go_enter Tryd.func10, Tryd.ntmps10
  go_wp2_with fail
  refine (HC.out _).mono ?_
  rintro e w1 ⟨rfl, hb⟩
  rw [HE.out]
  have hB := (box1 hb).2
  clear hb
  go_wp2_with fail
  go_ret2
  exact ⟨rfl, hB⟩

set_option maxHeartbeats 1000000 in
set_option maxRecDepth 100000 in
theorem get_ok (w : World) (M : Tm) (tb : Nat) (c : Int) (a n : Nat) (ha : a < 4294967296) (hn : n ≤ 32) (hc : PrefP.cut a n = a) (h : Tri w M tb c) :
    Calls Tryd.prog 10 #[.pointer (some ⟨tb, 0, none⟩), .agg #[.int .u32 a, .int .i64 n]] w fun e w' => e = .returned (match M.look a n with | none => .tuple #[.int .i64 0, .iface 29 (.int .i64 2)] | some x => .tuple #[.int .i64 x.v, .nilIface]) ∧ Below w.heap.size w w' := by
  have HC := Lib.hid (check_ok a n ha hn hc); have HT := Lib.hid h; have HCC := Lib.hid hc
  clear h hc
  cases hl : M.look a n with
  | none =>
    simp only
    have HL := Lib.hid hl; clear hl
    go_enter Tryd.func10, Tryd.ntmps10
    go_wp2_with fail
    refine (HC.out _).mono ?_
    rintro e w1 ⟨rfl, hb⟩
    obtain ⟨⟨l1, c0, c1, f0, f1⟩, hB⟩ := box1 hb; clear hb
    go_wp2_with fail
    refine (lookup_any w1 M tb c a n hn HCC.out (HT.out.below hB)).mono ?_
    rintro e w2 ⟨rfl, hb2⟩
    rw [HL.out, pt_none]
    go_wp2_with fail
    go_ret2
    exact ⟨rfl, Below.two hB hb2⟩
  | some x =>
    simp only
    have HL := Lib.hid hl; clear hl
    go_enter Tryd.func10, Tryd.ntmps10
    go_wp2_with fail
    refine (HC.out _).mono ?_
    rintro e w1 ⟨rfl, hb⟩
    obtain ⟨⟨l1, c0, c1, f0, f1⟩, hB⟩ := box1 hb; clear hb
    go_wp2_with fail
    refine (lookup_any w1 M tb c a n hn HCC.out (HT.out.below hB)).mono ?_
    rintro e w2 ⟨rfl, hb2⟩
    rw [HL.out, pt_some]
    have d3 : w2.cell? ⟨x.b, 3, none⟩ = some (.int .i64 x.v) := ((HT.out.below hB).below hb2).cell _ _ _ (look_is HL.out).1 3 (by decide)
    go_wp2_with fail
    go_ret2
    exact ⟨rfl, Below.two hB hb2⟩

/-- Get: the number, or 0 and the error. -/
theorem get_any (w : World) (S : Nat → Prop) (tb : Nat) (f : Nt → Option Int) (L : List Nt) (x : Nt) (hx : x.1 < 4294967296) (h : Tab w S tb f L) :
    Calls Tryd.prog 10 #[.pointer (some ⟨tb, 0, none⟩), .agg #[.int .u32 x.1, .int .i64 x.2]] w fun e w' => e = .returned (.tuple #[.int .i64 (if getE f x = 0 then (f x).getD 0 else 0), errV (getE f x)]) ∧ Below w.heap.size w w' := by
  obtain ⟨a, z⟩ := x
  obtain ⟨_, M, h1, _, _, _, h5⟩ := h
  by_cases hk : PrefP.chk a z = 0
  · obtain ⟨n, rfl, hn, hc⟩ := PrefP.chk_zero a z hk
    refine (get_ok w M tb L.length a n hx hn hc h1).mono ?_
    rintro e w' ⟨rfl, hb⟩
    refine ⟨?_, hb⟩
    have hv := look_val M a n
    unfold getE
    simp only [hk, if_true]
    rw [h5 (a, (n : Int)), hv]
    cases M.look a n with
    | none => simp [errV]
    | some x => simp [errV]
  · refine (get_bad w tb a z hx hk).mono ?_
    rintro e w' ⟨rfl, hb⟩
    refine ⟨?_, hb⟩
    unfold getE
    simp only [hk, if_false]
    rw [errV_pos hk]
end Go.Proofs.YtbdmfcnlfmnmdaaDoor

namespace Go.Proofs.YtbdmfcnlfmnmdaaDoor
open Go.RowKit

set_option maxHeartbeats 1000000 in
set_option maxRecDepth 100000 in
theorem put_bad (w : World) (tb : Nat) (a : Nat) (z v : Int) (ha : a < 4294967296) (h : PrefP.chk a z ≠ 0) :
    Calls Tryd.prog 13 #[.pointer (some ⟨tb, 0, none⟩), .agg #[.int .u32 a, .int .i64 z], .int .i64 v] w fun e w' => e = .returned (.iface 29 (.int .i64 (PrefP.chk a z))) ∧ Below w.heap.size w w' := by
  have HC := Lib.hid (check1_any a z ha)
  have HE := Lib.hid (errV_pos h)
  clear h
  generalize PrefP.chk a z = k at HC HE ⊢
  go_enter Tryd.func13, Tryd.ntmps13
  go_wp2_with fail
  refine (HC.out _).mono ?_
  rintro e w1 ⟨rfl, hb⟩
  rw [HE.out]
  have hB := (box1 hb).2
  clear hb
  go_wp2_with fail
  go_ret
  exact ⟨rfl, hB⟩

set_option maxHeartbeats 1000000 in
set_option maxRecDepth 100000 in
theorem put_old (w : World) (M : Tm) (tb : Nat) (c : Int) (a n : Nat) (v : Int) (x : Nd) (ha : a < 4294967296) (hn : n ≤ 32) (hc : PrefP.cut a n = a) (h : Tri w M tb c) (hl : M.look a n = some x) :
    Calls Tryd.prog 13 #[.pointer (some ⟨tb, 0, none⟩), .agg #[.int .u32 a, .int .i64 n], .int .i64 v] w fun e w' => e = .returned .nilIface ∧ Tri w' (M.upd a n (some ⟨x.b, x.u, v⟩)) tb c ∧ Keep M.Bl w w' := by
  have HC := Lib.hid (check_ok a n ha hn hc); have HT := Lib.hid h; have HCC := Lib.hid hc
  have HL := Lib.hid hl
  clear h hc hl
  go_enter Tryd.func13, Tryd.ntmps13
  go_wp2_with fail
  refine (HC.out _).mono ?_
  rintro e w1 ⟨rfl, hb⟩
  obtain ⟨⟨l1, c0, c1, f0, f1⟩, hB⟩ := box1 hb; clear hb
  go_wp2_with fail
  refine (lookup_any w1 M tb c a n hn HCC.out (HT.out.below hB)).mono ?_
  rintro e w2 ⟨rfl, hb2⟩
  rw [HL.out, pt_some]
  have T2 := Lib.hid ((HT.out.below hB).below hb2)
  have d3 : w2.cell? ⟨x.b, 3, none⟩ = some (.int .i64 x.v) := T2.out.cell _ _ _ (look_is HL.out).1 3 (by decide)
  have e3 := T2.out.free _ _ _ (look_is HL.out).1 3
  go_wp2_with fail
  go_ret
  exact ⟨rfl, T2.out.setV (look_is HL.out).1 v, (Keep.of (Below.two hB hb2)).trans (Keep.setCell _ _ _ _ _ ⟨a, n, x, (look_is HL.out).1, rfl⟩)⟩

set_option maxHeartbeats 1000000 in
set_option maxRecDepth 100000 in
theorem put_full (w : World) (M : Tm) (tb : Nat) (c : Int) (a n : Nat) (v : Int) (ha : a < 4294967296) (hn : n ≤ 32) (hc : PrefP.cut a n = a) (h : Tri w M tb c) (hl : M.look a n = none) (h64 : 64 ≤ c) :
    Calls Tryd.prog 13 #[.pointer (some ⟨tb, 0, none⟩), .agg #[.int .u32 a, .int .i64 n], .int .i64 v] w fun e w' => e = .returned (.iface 29 (.int .i64 4)) ∧ Below w.heap.size w w' := by
  have HC := Lib.hid (check_ok a n ha hn hc); have HT := Lib.hid h; have HCC := Lib.hid hc
  have HL := Lib.hid hl
  clear h hc hl
  go_enter Tryd.func13, Tryd.ntmps13
  go_wp2_with fail
  refine (HC.out _).mono ?_
  rintro e w1 ⟨rfl, hb⟩
  obtain ⟨⟨l1, c0, c1, f0, f1⟩, hB⟩ := box1 hb; clear hb
  go_wp2_with fail
  refine (lookup_any w1 M tb c a n hn HCC.out (HT.out.below hB)).mono ?_
  rintro e w2 ⟨rfl, hb2⟩
  rw [HL.out, pt_none]
  have d4 := ((HT.out.below hB).below hb2).cnt
  go_wp2_with fail
  go_ret
  exact ⟨rfl, Below.two hB hb2⟩

set_option maxHeartbeats 2000000 in
set_option maxRecDepth 100000 in
theorem put_new (w : World) (M : Tm) (tb : Nat) (c : Int) (a n : Nat) (v : Int) (ha : a < 4294967296) (hn : n ≤ 32) (hc : PrefP.cut a n = a) (h : Tri w M tb c) (hl : M.look a n = none) (h0 : 0 ≤ c) (h64 : c < 64) :
    Calls Tryd.prog 13 #[.pointer (some ⟨tb, 0, none⟩), .agg #[.int .u32 a, .int .i64 n], .int .i64 v] w fun e w' => e = .returned .nilIface ∧ (∃ M' x, Grew w.heap.size M M' ∧ M' a n = some x ∧ Tri w' (M'.upd a n (some ⟨x.b, true, v⟩)) tb (c + 1)) ∧ Keep M.Bl w w' := by
  have HC := Lib.hid (check_ok a n ha hn hc); have HT := Lib.hid h; have HCC := Lib.hid hc
  have HL := Lib.hid hl
  clear h hc hl
  go_enter Tryd.func13, Tryd.ntmps13
  go_wp2_with fail
  refine (HC.out _).mono ?_
  rintro e w1 ⟨rfl, hb⟩
  obtain ⟨⟨l1, c0, c1, f0, f1⟩, hB⟩ := box1 hb; clear hb
  go_wp2_with fail
  refine (lookup_any w1 M tb c a n hn HCC.out (HT.out.below hB)).mono ?_
  rintro e w2 ⟨rfl, hb2⟩
  rw [HL.out, pt_none]
  have d4 := ((HT.out.below hB).below hb2).cnt
  have c02 : w2.cell? ⟨w.heap.size, 0, none⟩ = some (.int .u32 a) := (hb2.cell (p := ⟨w.heap.size, 0, none⟩) l1).trans c0
  have c12 : w2.cell? ⟨w.heap.size, 1, none⟩ = some (.int .i64 n) := (hb2.cell (p := ⟨w.heap.size, 1, none⟩) l1).trans c1
  clear c0 c1
  go_wp2_with fail
  refine (grow_any w2 M tb c a n hn HCC.out ((HT.out.below hB).below hb2)).mono ?_
  rintro e w3 ⟨M', x, rfl, hx, hT3, hG, hK⟩
  have T3 := Lib.hid hT3; have HX := Lib.hid hx; have HG := Lib.hid hG; have HK := Lib.hid hK
  have q2 : w3.cell? ⟨x.b, 2, none⟩ = some (.bool x.u) := hT3.cell _ _ _ hx 2 (by decide)
  have q3 : w3.cell? ⟨x.b, 3, none⟩ = some (.int .i64 x.v) := hT3.cell _ _ _ hx 3 (by decide)
  have e2 := hT3.free _ _ _ hx 2
  have e3 := hT3.free _ _ _ hx 3
  obtain ⟨r, hr, hrb⟩ := hT3.root
  have e4 := hT3.free _ _ _ hr 4
  rw [hrb] at e4
  have q4 := hT3.cnt
  have rb : M'.Bl tb := hT3.rootB
  have RB := Lib.hid rb
  clear hT3 hx hG hK hr hrb rb d4
  go_wp2_with fail
  go_ret
  have hle := (Below.two hB hb2).size
  refine ⟨rfl, ⟨M', x, ?_, HX.out, (T3.out.setUV HX.out true v).count (c + 1)⟩, ?_⟩
  · intro a' d'
    rcases HG.out a' d' with h1 | ⟨h1, y, h2, h3, h4⟩
    · exact Or.inl h1
    · exact Or.inr ⟨h1, y, h2, h3, by omega⟩
  · have K3 : Keep M.Bl w w3 := (Keep.of (Below.two hB hb2)).trans HK.out
    have nb : ∀ b, M'.Bl b → M.Bl b ∨ w.heap.size ≤ b := by
      intro b hb
      rcases HG.out.bl b hb with h1 | h1
      · exact Or.inl h1
      · exact Or.inr (by omega)
    have bx : M'.Bl x.b := ⟨a, n, x, HX.out, rfl⟩
    exact ((K3.then (Keep.setCell M'.Bl _ _ _ _ bx) nb).then (Keep.setCell M'.Bl _ _ _ _ bx) nb).then (Keep.setCell M'.Bl _ _ _ _ RB.out) nb

/-- Put: the error, and the table behind it. -/
theorem put_any (w : World) (S : Nat → Prop) (tb : Nat) (f : Nt → Option Int) (L : List Nt) (x : Nt) (v : Int) (hx : x.1 < 4294967296) (h : Tab w S tb f L) :
    Calls Tryd.prog 13 #[.pointer (some ⟨tb, 0, none⟩), .agg #[.int .u32 x.1, .int .i64 x.2], .int .i64 v] w fun e w' => e = .returned (errV (putE f L x)) ∧ (∃ L', Tab w' (plus S w w') tb (putF f L x v) L') ∧ Keep S w w' := by
  obtain ⟨a, z⟩ := x
  have hT := h
  obtain ⟨h64L, M, h1, h2, h3, h4, h5⟩ := h
  -- a table that stays
  have stay : ∀ w', Below w.heap.size w w' → Tab w' (plus S w w') tb f L := fun w' hb => by
    exact ⟨h64L, M, h1.below hb, fun b hb => Or.inl (h2 b hb), fun b hb' => plus_lt h3 hb.size b hb', h4, h5⟩
  by_cases hk : PrefP.chk a z = 0
  · obtain ⟨n, rfl, hn, hc⟩ := PrefP.chk_zero a z hk
    have hv := look_val M a n
    have hf : f (a, (n : Int)) = (M.look a n).map fun x => x.v := by rw [h5, hv]
    cases hl : M.look a n with
    | some x =>
      rw [hl] at hf
      have hE : putE f L (a, (n : Int)) = 0 := by unfold putE; simp [hk, hf]
      refine (put_old w M tb L.length a n v x hx hn hc h1 hl).mono ?_
      rintro e w' ⟨rfl, T', K'⟩
      have hv' : ∀ m, putF f L (a, (n : Int)) v m = (M.upd a n (some ⟨x.b, x.u, v⟩)).val m := fun m => by
        rw [val_upd]
        unfold putF
        rw [if_pos hE]
        simp only [(look_is hl).2, if_true]
        unfold setF
        rw [h5 m]
      have hlen : (M.upd a n (some ⟨x.b, x.u, v⟩)).list.length = L.length := by
          refine same_len (rises_nodup hT.rises) (rises_nodup (Tm.list_rises T'.ok)) fun m => ?_
          rw [Tm.list_mem T'.ok, hT.mem, ← hv' m]
          unfold putF
          rw [if_pos hE]
          unfold setF
          by_cases em : m = (a, (n : Int))
          · rw [if_pos em, em, hf]; simp
          · rw [if_neg em]
      refine ⟨by rw [hE]; rfl, ⟨(M.upd a n (some ⟨x.b, x.u, v⟩)).list, by rw [hlen]; exact h64L, _, ?_, ?_, ?_, rfl, hv'⟩, K'.mono h2⟩
      · rw [hlen]; exact T'
      · rintro b ⟨a', d', y, hy, rfl⟩
        refine Or.inl (h2 _ ?_)
        unfold Tm.upd at hy
        split at hy
        · obtain rfl := Option.some.inj hy
          exact ⟨a, n, x, (look_is hl).1, rfl⟩
        · exact ⟨a', d', y, hy, rfl⟩
      · exact plus_lt h3 K'.size
    | none =>
      rw [hl] at hf
      have hf : f (a, (n : Int)) = none := hf
      by_cases h64 : 64 ≤ L.length
      · have hE : putE f L (a, (n : Int)) = 4 := by unfold putE; simp [hk, hf, h64]
        have hF : putF f L (a, (n : Int)) v = f := by unfold putF; rw [hE, if_neg (by decide)]
        refine (put_full w M tb L.length a n v hx hn hc h1 hl (by omega)).mono ?_
        rintro e w' ⟨rfl, hb⟩
        rw [hE, hF]
        exact ⟨rfl, ⟨L, stay w' hb⟩, Keep.of hb⟩
      · have hE : putE f L (a, (n : Int)) = 0 := by unfold putE; simp [hk, h64]
        refine (put_new w M tb L.length a n v hx hn hc h1 hl (by omega) (by omega)).mono ?_
        rintro e w' ⟨rfl, ⟨M', x, hG, hx', T'⟩, K'⟩
        have hv' : ∀ m, putF f L (a, (n : Int)) v m = (M'.upd a n (some ⟨x.b, true, v⟩)).val m := fun m => by
          rw [val_upd]
          unfold putF
          rw [if_pos hE]
          simp only [if_true]
          unfold setF
          rw [h5 m, hG.val m]
        have hlen : (M'.upd a n (some ⟨x.b, true, v⟩)).list.length = L.length + 1 := by
            refine more_len (x := (a, (n : Int))) (rises_nodup hT.rises) (rises_nodup (Tm.list_rises T'.ok)) ?_ fun m => ?_
            · rw [hT.mem, hf]; simp
            · rw [Tm.list_mem T'.ok, hT.mem, ← hv' m]
              unfold putF
              rw [if_pos hE]
              unfold setF
              by_cases em : m = (a, (n : Int))
              · rw [if_pos em]; simp [em]
              · rw [if_neg em]; simp [em]
        refine ⟨by rw [hE]; rfl, ⟨(M'.upd a n (some ⟨x.b, true, v⟩)).list, by rw [hlen]; omega, _, ?_, ?_, ?_, rfl, hv'⟩, K'.mono h2⟩
        · rw [hlen]; exact T'
        · rintro b ⟨a', d', y, hy, rfl⟩
          have hbl : M'.Bl y.b := by
            unfold Tm.upd at hy
            split at hy
            · obtain rfl := Option.some.inj hy
              exact ⟨a, n, x, hx', rfl⟩
            · exact ⟨a', d', y, hy, rfl⟩
          rcases hG.bl _ hbl with h6 | h6
          · exact Or.inl (h2 _ h6)
          · exact Or.inr ⟨h6, T'.lt _ _ _ hy⟩
        · exact plus_lt h3 K'.size
  · have hE : putE f L (a, z) = PrefP.chk a z := by unfold putE; simp [hk]
    have hF : putF f L (a, z) v = f := by unfold putF; rw [hE, if_neg hk]
    refine (put_bad w tb a z v hx hk).mono ?_
    rintro e w' ⟨rfl, hb⟩
    rw [hE, hF, errV_pos hk]
    exact ⟨rfl, ⟨L, stay w' hb⟩, Keep.of hb⟩
end Go.Proofs.YtbdmfcnlfmnmdaaDoor

namespace Go.Proofs.YtbdmfcnlfmnmdaaDoor
open Go.RowKit

/-- The deepest of the first k nodes on the way of an address whose network is there. -/
def Tm.deep (M : Tm) (a : Nat) : Nat → Option (Nat × Nd)
  | 0 => none
  | k + 1 => match M.look (PrefP.cut a k) k with
    | some x => some (k, x)
    | none => Tm.deep M a k
theorem Tm.deep_hit {M : Tm} {a k : Nat} {x : Nd} (h : M (PrefP.cut a k) k = some x) (hu : x.u = true) : M.deep a (k + 1) = some (k, x) := by
  rw [Tm.deep, Tm.look_some h hu]
theorem Tm.deep_miss {M : Tm} {a k : Nat} {x : Nd} (h : M (PrefP.cut a k) k = some x) (hu : x.u = false) : M.deep a (k + 1) = M.deep a k := by
  rw [Tm.deep, Tm.look_off h hu]
theorem Tm.deep_none {M : Tm} (hok : M.Ok) {a k : Nat} (hk : k ≤ 32) (h : M (PrefP.cut a k) k = none) : ∀ j, k + j ≤ 33 → M.deep a (k + j) = M.deep a k
  | 0, _ => rfl
  | j + 1, hj => by
    have e : M (PrefP.cut a (k + j)) (k + j) = none := by
      cases e : M (PrefP.cut a (k + j)) (k + j) with
      | none => rfl
      | some y =>
        obtain ⟨z, hz⟩ := hok.anc j _ k y e
        rw [PrefP.cut_cut a (k + j) k (by omega) (by omega) (by omega), h] at hz
        exact absurd hz (by simp)
    rw [← Nat.add_assoc, Tm.deep, Tm.look_none e]
    exact Tm.deep_none hok hk h j (by omega)
theorem Tm.deep_some {M : Tm} {a : Nat} : ∀ {k j : Nat} {x : Nd}, M.deep a k = some (j, x) → j < k ∧ M (PrefP.cut a j) j = some x ∧ x.u = true ∧ ∀ i, j < i → i < k → M.look (PrefP.cut a i) i = none
  | 0, j, x, h => by simp [Tm.deep] at h
  | k + 1, j, x, h => by
    rw [Tm.deep] at h
    cases e : M.look (PrefP.cut a k) k with
    | some y =>
      rw [e] at h
      simp only [Option.some.injEq, Prod.mk.injEq] at h
      obtain ⟨rfl, rfl⟩ := h
      have := look_is e
      exact ⟨by omega, this.1, this.2, fun i h1 h2 => by omega⟩
    | none =>
      rw [e] at h
      obtain ⟨h1, h2, h3, h4⟩ := Tm.deep_some (k := k) h
      refine ⟨by omega, h2, h3, fun i i1 i2 => ?_⟩
      by_cases ei : i = k
      · subst ei; exact e
      · exact h4 i i1 (by omega)
theorem Tm.deep_all {M : Tm} {a : Nat} : ∀ {k : Nat}, M.deep a k = none → ∀ i, i < k → M.look (PrefP.cut a i) i = none
  | 0, _, i, hi => by omega
  | k + 1, h, i, hi => by
    rw [Tm.deep] at h
    cases e : M.look (PrefP.cut a k) k with
    | some y => rw [e] at h; exact absurd h (by simp)
    | none =>
      rw [e] at h
      by_cases ei : i = k
      · subst ei; exact e
      · exact Tm.deep_all (k := k) h i (by omega)
/-- Where the way goes on. -/
def Tm.way (M : Tm) (a k : Nat) : Option Nd := if k ≤ 32 then M (PrefP.cut a k) k else none
theorem Tm.way_next {M : Tm} (hok : M.Ok) (a k : Nat) (hk : k ≤ 32) (x : Nd) : nc M (PrefP.cut a k) k x (TrieP.bt a k) = pt (M.way a (k + 1)) := by
  rw [nc_kid _ _ _ _ _ (TrieP.bt_lt a k)]
  unfold Tm.way
  by_cases h : k < 32
  · rw [if_pos (by omega), TrieP.step a k h]
  · rw [if_neg (by omega), hok.none _ _ (by omega)]
def Tm.told (o : Option (Nat × Nd)) (a : Nat) : Value := match o with
  | none => .tuple #[.agg #[.int .u32 0, .int .i64 0], .int .i64 0, .iface 29 (.int .i64 2)]
  | some (j, x) => .tuple #[.agg #[.int .u32 (PrefP.cut a j : Int), .int .i64 j], .int .i64 x.v, .nilIface]

set_option maxHeartbeats 4000000 in
set_option maxRecDepth 100000 in
theorem find_tri (w : World) (M : Tm) (tb : Nat) (c : Int) (a : Nat) (ha : a < 4294967296) (h : Tri w M tb c) :
    Calls Tryd.prog 17 #[.pointer (some ⟨tb, 0, none⟩), .int .u32 a] w fun e w' => e = .returned (Tm.told (M.deep a 33) a) ∧ Below w.heap.size w w' := by
  have N0 := Box.new w (.int .u32 0) (.int .i64 0) 32
  have B0 : Below w.heap.size w (w.alloc (.cells #[.int .u32 0, .int .i64 0] 32)) := (Below.refl _ _).alloc (Nat.le_refl _) _
  have HT := Lib.hid h; have HN := Lib.hid N0; have HB := Lib.hid B0
  obtain ⟨x0, r1, r2⟩ := h.root
  have HR := Lib.hid (show pt (M.way a 0) = .pointer (some ⟨tb, 0, none⟩) by unfold Tm.way; rw [if_pos (by omega), PrefP.cut_zero, r1, pt_some, r2])
  clear h N0 B0 r1 r2
  generalize hR : Tm.told (M.deep a 33) a = R
  have HE := Lib.hid hR; clear hR
  go_enter Tryd.func17, Tryd.ntmps17
  go_wp2_with fail
  go_loopw [7, 8, 9, 10] (fun s7 s8 s9 s10 wr => ∃ (k : Nat), s10 = .int .i64 k ∧ k ≤ 33 ∧ Hid (s9 = pt (M.way a k)) ∧ Hid (s7 = pt ((M.deep a k).map fun p => p.2)) ∧ Hid (s8 = .int .i64 (((M.deep a k).map fun p => p.1).getD 0 : Nat)) ∧ Hid (Box wr w.heap.size (.int .u32 0) (.int .i64 0)) ∧ Hid (Below w.heap.size w wr)) (fun _ _ _ s10 _ => 33 - (intOf s10).toNat)
  case atStart => exact ⟨0, rfl, by omega, Lib.hid HR.out.symm, Lib.hid rfl, Lib.hid rfl, HN, HB⟩
  case round =>
    obtain ⟨k, rfl, hk, HP, H7, H8, HBx, HBl⟩ := hrel
    have hp := HP.out
    cases hM : M.way a k with
    | none =>
      rw [hM, pt_none] at hp
      subst hp
      have hE := HE.out
      have hd : M.deep a 33 = M.deep a k := by
        by_cases h32 : k ≤ 32
        · unfold Tm.way at hM
          rw [if_pos h32] at hM
          have := Tm.deep_none HT.out.ok h32 hM (33 - k) (by omega)
          rw [show k + (33 - k) = 33 by omega] at this
          exact this
        · obtain rfl : k = 33 := by omega
          rfl
      rw [hd] at hE
      have h7 := H7.out
      have h8 := H8.out
      obtain ⟨l1, c0, c1, f0, f1⟩ := HBx.out
      cases hD : M.deep a k with
      | none =>
        rw [hD] at hE h7 h8
        subst h7
        have HE' := Lib.hid hE
        clear hE HE hD hd hM HP H7 H8 h8
        simp only [Option.map_none, pt_none]
        go_wp2_with fail
        rw [← HE'.out]
        exact bodyPost_ret (v := Tm.told none a) (by simp [Tm.told, results, Tryd.results17, go_sem, c0, c1]) rfl ⟨rfl, (HBl.out.setCell (by simp) _).setCell (by simp) _⟩
      | some p =>
        obtain ⟨j, x⟩ := p
        rw [hD] at hE h7 h8
        obtain ⟨hj, hx, hu, hlast⟩ := Tm.deep_some hD
        simp only [Option.map_some, Option.getD_some, pt_some] at h7 h8
        subst h7 h8
        have d3 : wr.cell? ⟨x.b, 3, none⟩ = some (.int .i64 x.v) := (HT.out.below HBl.out).cell _ _ _ hx 3 (by decide)
        have hne : x.b ≠ w.heap.size := by
          have := HT.out.lt _ _ _ hx
          omega
        have HNE := Lib.hid hne
        have HE' := Lib.hid hE
        have hand := PrefP.cut_int a j ha
        clear hE HE hD hd hM HP H7 H8 hx hu hlast
        go_wp2_with fail
        refine (mask_yes j (by omega) _).mono ?_
        rintro e w1 ⟨rfl, rfl⟩
        go_wp2_with fail
        have d3' : ∀ (u v : Value), ((wr.setCell ⟨w.heap.size, 0, none⟩ u).setCell ⟨w.heap.size, 1, none⟩ v).cell? ⟨x.b, 3, none⟩ = some (.int .i64 x.v) := fun u v =>
          (World.cell?_setCell_other _ _ _ _ (by intro e; simp only [Addr.mk.injEq] at e; exact hne e.1.symm)).trans ((World.cell?_setCell_other _ _ _ _ (by intro e; simp only [Addr.mk.injEq] at e; exact hne e.1.symm)).trans d3)
        go_region
        go_wp2_with fail
        rw [← HE'.out]
        exact bodyPost_ret (v := Tm.told (some (j, x)) a) (by simp [Tm.told, results, Tryd.results17, go_sem, c0, c1]) rfl ⟨rfl, ((HBl.out.setCell (by simp) _).setCell (by simp) _).drew⟩
    | some x =>
      rw [hM, pt_some] at hp
      subst hp
      have h32 : k ≤ 32 := by
        unfold Tm.way at hM
        split at hM
        · assumption
        · exact absurd hM (by simp)
      unfold Tm.way at hM
      rw [if_pos h32] at hM
      have hT := HT.out.below HBl.out
      have d0 := hT.cell _ _ _ hM (TrieP.bt a k) (by have := TrieP.bt_lt a k; omega)
      rw [Tm.way_next hT.ok a k h32] at d0
      have d2 : wr.cell? ⟨x.b, 2, none⟩ = some (.bool x.u) := hT.cell _ _ _ hM 2 (by decide)
      obtain ⟨q, hq⟩ := pt_pointer (M.way a (k + 1))
      rw [hq] at d0
      have HQ := Lib.hid hq
      have hlt' : (TrieP.bt a k : Int) < 2 := by have := TrieP.bt_lt a k; omega
      cases hu : x.u with
      | true =>
        have HD := Lib.hid (Tm.deep_hit hM hu)
        rw [hu] at d2
        clear HP hM hT hq hu H7 H8
        go_wp2_with fail
        go_quiet (first | (go_at_call 31; exact Calls.quiet_of_same (bit_any a k (by omega) _)))
        go_wp2_with fail
        go_roundw
        case rel => exact ⟨k + 1, by go_num, by omega, Lib.hid HQ.out.symm, Lib.hid (by rw [HD.out]; rfl), Lib.hid (by rw [HD.out]; rfl), Lib.hid (HBx.out.drewN _), Lib.hid (Below.drewN HBl.out _)⟩
        case measure => simp [intOf]; omega
      | false =>
        have HD := Lib.hid (Tm.deep_miss hM hu)
        rw [hu] at d2
        clear HP hM hT hq hu
        go_wp2_with fail
        go_quiet (first | (go_at_call 31; exact Calls.quiet_of_same (bit_any a k (by omega) _)))
        go_wp2_with fail
        go_roundw
        case rel => exact ⟨k + 1, by go_num, by omega, Lib.hid HQ.out.symm, Lib.hid (by rw [HD.out]; exact H7.out), Lib.hid (by rw [HD.out]; exact H8.out), Lib.hid (HBx.out.drewN _), Lib.hid (Below.drewN HBl.out _)⟩
        case measure => simp [intOf]; omega

/-- What is found: none, or the longest network that has the address, and its number. -/
def Fnd (f : Nt → Option Int) (a : Nat) : Option (Nat × Int) → Prop
  | none => ∀ n : Nt, PrefP.has n.1 n.2 a = true → f n = none
  | some (k, z) => k ≤ 32 ∧ f (PrefP.cut a k, (k : Int)) = some z ∧ ∀ n : Nt, PrefP.has n.1 n.2 a = true → f n ≠ none → n.2 ≤ (k : Int)
def foundV (o : Option (Nat × Int)) (a : Nat) : Value := match o with
  | none => .tuple #[.agg #[.int .u32 0, .int .i64 0], .int .i64 0, .iface 29 (.int .i64 2)]
  | some (k, z) => .tuple #[.agg #[.int .u32 (PrefP.cut a k : Int), .int .i64 k], .int .i64 z, .nilIface]
/-- What is told of it: the network, the number, the error. -/
def fN (o : Option (Nat × Int)) (a : Nat) : Nt := match o with
  | none => (0, 0)
  | some (k, _) => (PrefP.cut a k, (k : Int))
def fZ (o : Option (Nat × Int)) : Int := match o with
  | none => 0
  | some (_, z) => z
def fE (o : Option (Nat × Int)) : Int := match o with
  | none => 2
  | some _ => 0
theorem foundV_eq (o : Option (Nat × Int)) (a : Nat) : foundV o a = .tuple #[.agg #[.int .u32 ((fN o a).1 : Int), .int .i64 (fN o a).2], .int .i64 (fZ o), errV (fE o)] := by
  cases o with
  | none => rfl
  | some p => rfl
/-- There is but one such. -/
theorem Fnd.only {f g : Nt → Option Int} {a : Nat} {o p : Option (Nat × Int)} (hfg : ∀ n, f n = g n) (h1 : Fnd f a o) (h2 : Fnd g a p) : o = p := by
  have has : ∀ k : Nat, k ≤ 32 → PrefP.has (PrefP.cut a k) (k : Int) a = true := fun k hk => (PrefP.has_iff _ _ _).2 ⟨k, rfl, hk, rfl⟩
  match o, p with
  | none, none => rfl
  | none, some (k, z) =>
    have := h1 (PrefP.cut a k, (k : Int)) (has k h2.1)
    rw [hfg, h2.2.1] at this
    exact absurd this (by simp)
  | some (k, z), none =>
    have := h2 (PrefP.cut a k, (k : Int)) (has k h1.1)
    rw [← hfg, h1.2.1] at this
    exact absurd this (by simp)
  | some (k, z), some (k', z') =>
    have e1 := h1.2.2 (PrefP.cut a k', (k' : Int)) (has k' h2.1) (by rw [hfg, h2.2.1]; simp)
    have e2 := h2.2.2 (PrefP.cut a k, (k : Int)) (has k h1.1) (by rw [← hfg, h1.2.1]; simp)
    simp only at e1 e2
    obtain rfl : k = k' := by omega
    have := h1.2.1
    rw [hfg, h2.2.1] at this
    rw [Option.some.inj this]
theorem find_any (w : World) (S : Nat → Prop) (tb : Nat) (f : Nt → Option Int) (L : List Nt) (a : Nat) (ha : a < 4294967296) (h : Tab w S tb f L) :
    Calls Tryd.prog 17 #[.pointer (some ⟨tb, 0, none⟩), .int .u32 a] w fun e w' => ∃ o, e = .returned (foundV o a) ∧ Fnd f a o ∧ Below w.heap.size w w' := by
  obtain ⟨_, M, h1, _, _, _, h5⟩ := h
  refine (find_tri w M tb L.length a ha h1).mono ?_
  rintro e w' ⟨rfl, hb⟩
  have hl : ∀ n : Nt, PrefP.has n.1 n.2 a = true → ∃ k : Nat, k ≤ 32 ∧ n.2 = (k : Int) ∧ f n = (M.look (PrefP.cut a k) k).map fun x => x.v := by
    intro n hn
    obtain ⟨k, h6, h7, h8⟩ := (PrefP.has_iff _ _ _).1 hn
    refine ⟨k, h7, h6, ?_⟩
    rw [h5 n, ← look_val]
    congr 1
    exact Prod.ext h8.symm h6
  cases hd : M.deep a 33 with
  | none =>
    refine ⟨none, rfl, fun n hn => ?_, hb⟩
    obtain ⟨k, hk, _, e⟩ := hl n hn
    rw [e, Tm.deep_all hd k (by omega)]; rfl
  | some p =>
    obtain ⟨j, x⟩ := p
    obtain ⟨q1, q2, q3, q4⟩ := Tm.deep_some hd
    refine ⟨some (j, x.v), rfl, ⟨by omega, ?_, fun n hn hne => ?_⟩, hb⟩
    · rw [h5, look_val, Tm.look_some q2 q3]; rfl
    · obtain ⟨k, hk, e1, e⟩ := hl n hn
      rw [e1]
      refine Int.ofNat_le.2 (Nat.le_of_not_lt fun hjk => hne ?_)
      rw [e, q4 k hjk (by omega)]; rfl
end Go.Proofs.YtbdmfcnlfmnmdaaDoor

namespace Go.Proofs.YtbdmfcnlfmnmdaaDoor
open Go.RowKit

/-- Nodes were cut off, none whose network is there. -/
def Pruned (M M' : Tm) : Prop := ∀ a d, M' a d = M a d ∨ (M' a d = none ∧ ∃ y, M a d = some y ∧ y.u = false)
theorem Pruned.refl (M : Tm) : Pruned M M := fun _ _ => Or.inl rfl
theorem Pruned.upd {M M' : Tm} (h : Pruned M M') {a d : Nat} {y : Nd} (hy : M' a d = some y) (hu : y.u = false) : Pruned M (M'.upd a d none) := by
  intro a' d'
  by_cases e : a' = a ∧ d' = d
  · obtain ⟨rfl, rfl⟩ := e
    refine Or.inr ⟨Tm.upd_same _ _ _ _, y, ?_, hu⟩
    rcases h a' d' with h1 | ⟨h1, _⟩
    · rw [← h1]; exact hy
    · rw [hy] at h1; exact absurd h1 (by simp)
  · rw [Tm.upd_other _ _ _ _ _ _ e]
    exact h a' d'
theorem Pruned.val {M M' : Tm} (h : Pruned M M') (n : Nt) : M'.val n = M.val n := by
  unfold Tm.val
  split
  · rcases h n.1 n.2.toNat with h1 | ⟨h1, y, h2, h3⟩
    · rw [h1]
    · rw [h1, h2]; simp [h3]
  · rfl
theorem Pruned.bl {M M' : Tm} (h : Pruned M M') (b : Nat) (hb : M'.Bl b) : M.Bl b := by
  obtain ⟨a, d, x, h1, h2⟩ := hb
  rcases h a d with h3 | ⟨h3, _⟩
  · rw [h3] at h1; exact ⟨a, d, x, h1, h2⟩
  · rw [h3] at h1; exact absurd h1 (by simp)
/-- What is told of a call. -/
def PruneR (tb : Nat) (c : Int) (M : Tm) (a d : Nat) (w : World) (x : Nd) (e : Ending) (w' : World) : Prop :=
  ∃ (r : Bool) (M' : Tm), e = .returned (.bool r) ∧ Tri w' M' tb c ∧ Pruned M M' ∧ (∀ a' d', d' ≤ d → M' a' d' = M a' d') ∧ (r = true → x.u = false ∧ M' (PrefP.cut a d) (d + 1) = none ∧ M' (TrieP.kid (PrefP.cut a d) d 1) (d + 1) = none) ∧ Keep M.Bl w w'
theorem wrapD (d : Nat) (h : d ≤ 32) : IntKind.i64.wrap ((d : Int) + 1) = (d : Int) + 1 := MaskP.upto32 (P := fun d => IntKind.i64.wrap ((d : Int) + 1) = (d : Int) + 1) (by decide +kernel) d h
theorem pt_nil {o : Option Nd} (h : pt o = .pointer none) : o = none := by
  cases o with
  | none => rfl
  | some x => simp [pt] at h
theorem prune_true {M : Tm} {a d e : Nat} {x : Nd} {q0 q1 : Option Addr} (h0 : pt (M a d) = .pointer q0) (h1 : pt (M e d) = .pointer q1) (hq : ¬ (q0 = none → q1.isSome = true)) (hu : ¬ x.u = true) : x.u = false ∧ M a d = none ∧ M e d = none := by
  have e0 : q0 = none := Classical.byContradiction fun h => hq fun h2 => absurd h2 h
  have e1 : q1 = none := by
    cases q1 with
    | none => rfl
    | some z => exact absurd (fun _ => rfl) hq
  subst e0 e1
  exact ⟨by simpa using hu, pt_nil h0, pt_nil h1⟩
theorem Box.keptD {w w' : World} {n : Nat} {S : Nat → Prop} {b : Nat} {x y : Value} (h : Box w b x y) (hk : Keep S (w.drewN n) w') (hs : ¬ S b) : Box w' b x y := by
  have e : w'.heap[b]? = w.heap[b]? := hk.block b h.lt hs
  exact ⟨Nat.lt_of_lt_of_le h.lt hk.size, (World.cell?_of_block (w := w) e).trans h.c0, (World.cell?_of_block (w := w) e).trans h.c1, (World.frozen?_of_block (w := w) e).trans h.f0, (World.frozen?_of_block (w := w) e).trans h.f1⟩
theorem eqBranches (q0 q1 : Option Addr) (w : World) : (Op.equalIn 9999 57 (.agg #[.pointer q0, .pointer q1]) (.agg #[.pointer none, .pointer none])).run Tryd.prog w = .ok (q0.isNone && q1.isNone) w := by
  have hu : Tryd.prog.underlying 57 = some (.array 2 56) := by kernel_rfl
  have hpp : Tryd.prog.underlying 56 = some (.pointer (Tryd.prog.pointee 56)) := by kernel_rfl
  obtain ⟨i, hi⟩ := info_of_underlying hpp
  have hp : ∀ (xs : Array Value) (off : Nat) (q : Option Addr), xs[off]? = some (.pointer q) → (part 56 xs off).run Tryd.prog w = .ok (.pointer q) w := by
    intro xs off q hx
    simp [part, isAgg, run_underlying hpp, hx]
  have hc : Tryd.prog.cellsOf 56 = 1 := by kernel_rfl
  rw [run_equalIn_array w 9998 #[.pointer q0, .pointer q1] #[.pointer none, .pointer none] hu hi, hc]
  rw [show List.range 2 = [0, 1] from rfl]
  simp only [Op.eqItems, Sem.run_bind]
  rw [hp _ _ q0 rfl, Result.andThen_ok, hp _ _ none rfl, Result.andThen_ok, run_equalIn_pointer_nil w 9997 _ q0 hpp, Result.andThen_ok]
  cases q0 with
  | some a => rfl
  | none =>
    simp only [Option.isNone_none, Bool.not_true, Bool.false_eq_true, if_false, Bool.true_and, Sem.run_bind]
    rw [hp _ _ q1 rfl, Result.andThen_ok, hp _ _ none rfl, Result.andThen_ok, run_equalIn_pointer_nil w 9997 _ q1 hpp, Result.andThen_ok]
    cases q1 <;> rfl

set_option maxHeartbeats 1000000 in
set_option maxRecDepth 100000 in
theorem prune_any (tb : Nat) (c : Int) (M : Tm) (a n : Nat) (hn : n ≤ 32) : ∀ (j d : Nat) (w : World) (x : Nd), d + j = n → d ≤ 32 → Tri w M tb c → (∃ z, M a n = some z) → M (PrefP.cut a d) d = some x →
    Calls Tryd.prog 29 #[.pointer (some ⟨x.b, 0, none⟩), .agg #[.int .u32 a, .int .i64 n], .int .i64 d] w (PruneR tb c M a d w x) := by
  intro j
  induction j with
  | zero =>
    intro d w x hj hd h hz hx
    obtain rfl : d = n := by omega
    have B0 : Below w.heap.size w (w.alloc (.cells #[.int .u32 a, .int .i64 d] 32)) := (Below.refl _ _).alloc (Nat.le_refl _) _
    have HT0 := Lib.hid (h.below B0); have HX0 := Lib.hid hx
    have HK0 := Lib.hid (Keep.of (S := M.Bl) B0)
    clear h hx B0 hz
    go_enter Tryd.func29, Tryd.ntmps29
    have d0 := HT0.out.cell _ _ _ HX0.out 0 (by decide)
    have d1 := HT0.out.cell _ _ _ HX0.out 1 (by decide)
    have d2 : (w.alloc (.cells #[.int .u32 a, .int .i64 d] 32)).cell? ⟨x.b, 2, none⟩ = some (.bool x.u) := HT0.out.cell _ _ _ HX0.out 2 (by decide)
    have d3 : (w.alloc (.cells #[.int .u32 a, .int .i64 d] 32)).cell? ⟨x.b, 3, none⟩ = some (.int .i64 x.v) := HT0.out.cell _ _ _ HX0.out 3 (by decide)
    obtain ⟨q0, hq0⟩ := pt_pointer ((M) (PrefP.cut a d) (d + 1))
    obtain ⟨q1, hq1⟩ := pt_pointer ((M) (TrieP.kid (PrefP.cut a d) d 1) (d + 1))
    rw [show nc (M) (PrefP.cut a d) d x 0 = .pointer q0 from hq0] at d0
    rw [show nc (M) (PrefP.cut a d) d x 1 = .pointer q1 from hq1] at d1
    have HQ0 := Lib.hid hq0; have HQ1 := Lib.hid hq1
    have heq := eqBranches q0 q1
    clear hq0 hq1
    go_wp2_with fail
    · go_ret
      exact ⟨false, _, rfl, HT0.out, Pruned.refl M, (fun _ _ _ => rfl), (fun h => by cases h), HK0.out⟩
    · go_ret
      exact ⟨false, _, rfl, HT0.out, Pruned.refl M, (fun _ _ _ => rfl), (fun h => by cases h), HK0.out⟩
    · rename_i e2 e1 e0
      go_ret
      exact ⟨true, _, rfl, HT0.out, Pruned.refl M, (fun _ _ _ => rfl), fun _ => prune_true HQ0.out HQ1.out e2 e1, HK0.out⟩
    · go_ret
      exact ⟨false, _, rfl, HT0.out, Pruned.refl M, (fun _ _ _ => rfl), (fun h => by cases h), HK0.out⟩
  | succ j ih =>
    have IH := Lib.hid ih
    clear ih
    intro d w x hj hd h hz hx
    have hdn : d < n := by omega
    have N0 := Box.new w (.int .u32 a) (.int .i64 n) 32
    have B0 : Below w.heap.size w (w.alloc (.cells #[.int .u32 a, .int .i64 n] 32)) := (Below.refl _ _).alloc (Nat.le_refl _) _
    obtain ⟨y, hy⟩ : ∃ y, M (PrefP.cut a (d + 1)) (d + 1) = some y := by
      obtain ⟨z, hz⟩ := hz
      obtain ⟨i, rfl⟩ : ∃ i, n = d + 1 + i := ⟨n - (d + 1), by omega⟩
      exact h.ok.anc i a (d + 1) z hz
    have HL := Lib.hid h.blt
    have HT1 := Lib.hid (h.below B0); have HX := Lib.hid hx; have HY := Lib.hid hy; have HZ := Lib.hid hz; have HBX := Lib.hid N0; have HB0 := Lib.hid B0
    have hlt := TrieP.bt_lt a d
    have hlt' : (TrieP.bt a d : Int) < 2 := by omega
    have dk : (w.alloc (.cells #[.int .u32 a, .int .i64 n] 32)).cell? ⟨x.b, TrieP.bt a d, none⟩ = some (.pointer (some ⟨y.b, 0, none⟩)) := by
      rw [HT1.out.cell _ _ _ hx _ (by omega), nc_kid _ _ _ _ _ hlt, ← TrieP.step a d (by omega), hy, pt_some]
    obtain ⟨l1, c0, c1, f0, f1⟩ := N0
    clear h hx hy hz B0
    go_enter Tryd.func29, Tryd.ntmps29
    go_wp2_with fail
    generalize w.alloc (.cells #[.int .u32 a, .int .i64 n] 32) = W1 at *
    go_quiet (first | (go_at_call 31; exact Calls.quiet_of_same (bit_any a d (by omega) _)))
    go_wp2_with fail
    refine wp_region_held_drew (S := (fun w' => w'.cell? ⟨w.heap.size, 0, none⟩ = some (.int .u32 (a : Int)) ∧ w'.cell? ⟨w.heap.size, 1, none⟩ = some (.int .i64 n) ∧ w'.cell? ⟨x.b, TrieP.bt a d, none⟩ = some (.pointer (some ⟨y.b, 0, none⟩)))) (by kernel_rfl) ⟨c0, c1, dk⟩ (fun hHeld => ?_)
    refine wpAnyH_take (i := 0) (oi := { dst := some 20, op := Op.move (Operand.tmp 7), type := 82, pos := "trie.go:67", after := #[], guard := none }) (v := ?_) rfl (by kernel_rfl) (by kernel_rfl) (by kernel_rfl) (fun _ _ _ h => h) (Or.inl ⟨by rfl, ?_⟩) hHeld ?_
    rotate_left
    · (intro w hSw; (try dsimp only at hSw); go_simp; first | done | with_reducible rfl)
    simp only [Act.put, List.setIfInBounds_toArray, List.set_cons_zero, List.set_cons_succ]
    refine wpAnyH_take (i := 1) (oi := { dst := some 21, op := Op.nilCheck (Operand.tmp 20), type := 0, pos := "trie.go:67", after := #[{ on := 0, ground := Ground.data }], guard := none }) (v := ?_) rfl (by kernel_rfl) (by kernel_rfl) (by kernel_rfl) (fun _ _ _ h => h) (Or.inl ⟨by rfl, ?_⟩) hHeld ?_
    rotate_left
    · (intro w hSw; (try dsimp only at hSw); go_simp; first | done | with_reducible rfl)
    simp only [Act.put, List.setIfInBounds_toArray, List.set_cons_zero, List.set_cons_succ]
    refine wpAnyH_take (i := 2) (oi := { dst := some 22, op := Op.load 56 (Operand.tmp 21), type := 56, pos := "trie.go:67", after := #[{ on := 1, ground := Ground.data }], guard := none }) (v := ?_) rfl (by kernel_rfl) (by kernel_rfl) (by kernel_rfl) (fun _ _ _ h => h) (Or.inl ⟨by rfl, ?_⟩) hHeld ?_
    rotate_left
    · (intro w hSw; (try dsimp only at hSw); go_simp; first | done | with_reducible rfl)
    simp only [Act.put, List.setIfInBounds_toArray, List.set_cons_zero, List.set_cons_succ]
    refine wpAnyH_take (i := 3) (oi := { dst := some 23, op := Op.load 32 (Operand.tmp 4), type := 32, pos := "trie.go:67", after := #[], guard := none }) (v := ?_) rfl (by kernel_rfl) (by kernel_rfl) (by kernel_rfl) (fun _ _ _ h => h) (Or.inl ⟨by rfl, ?_⟩) hHeld ?_
    rotate_left
    · (intro w hSw; (try dsimp only at hSw); go_simp; first | done | with_reducible rfl)
    simp only [Act.put, List.setIfInBounds_toArray, List.set_cons_zero, List.set_cons_succ]
    refine wpAnyH_take (i := 4) (oi := { dst := some 24, op := Op.move (Operand.tmp 2), type := 3, pos := "trie.go:67", after := #[], guard := none }) (v := ?_) rfl (by kernel_rfl) (by kernel_rfl) (by kernel_rfl) (fun _ _ _ h => h) (Or.inl ⟨by rfl, ?_⟩) hHeld ?_
    rotate_left
    · (intro w hSw; (try dsimp only at hSw); go_simp; first | done | with_reducible rfl)
    simp only [Act.put, List.setIfInBounds_toArray, List.set_cons_zero, List.set_cons_succ]
    refine wpAnyH_take (i := 5) (oi := { dst := some 25, op := Op.binOp BinOp.add 3 (Operand.tmp 24) (Operand.const (Value.int IntKind.i64 1)) 3, type := 3, pos := "trie.go:67", after := #[{ on := 4, ground := Ground.data }], guard := none }) (v := ?_) rfl (by kernel_rfl) (by kernel_rfl) (by kernel_rfl) (fun _ _ _ h => h) (Or.inl ⟨by rfl, ?_⟩) hHeld ?_
    rotate_left
    · (intro w hSw; (try dsimp only at hSw); go_simp; first | done | with_reducible rfl)
    simp only [Act.put, List.setIfInBounds_toArray, List.set_cons_zero, List.set_cons_succ]
    refine wpAnyH_ready (rs := [6]) (by kernel_rfl) (by simp) ?_
    refine AllReadyH.cons (o := { dst := some 26, op := Op.call { callee := Callee.value (Operand.func 29), args := #[Operand.tmp 22, Operand.tmp 23, Operand.tmp 25], argTypes := #[56, 32, 3] }, type := 4, pos := "trie.go:67", after := #[{ on := 2, ground := Ground.data }, { on := 3, ground := Ground.data }, { on := 5, ground := Ground.data }], guard := none }) rfl (fun K hK => ?_) AllReadyH.nil
    go_simp
    rw [wrapD d hd]
    go_at_call 29
    have IHc := IH.out (d + 1) (W1.drewN (nq + 1)) y (by omega) (by omega) (HT1.out.drewN _) HZ.out HY.out
    rw [show ((d + 1 : Nat) : Int) = (d : Int) + 1 by omega] at IHc
    refine IHc.mono ?_
    rintro e W3 ⟨r, M1, rfl, hT3, hP, hS, hr, hK⟩
    clear IHc
    have bx3 : Box W3 w.heap.size (.int .u32 a) (.int .i64 n) := HBX.out.keptD hK (fun e => by have := HL.out _ e; omega)
    have HT3 := Lib.hid hT3; have HP3 := Lib.hid hP; have HS3 := Lib.hid hS; have HR3 := Lib.hid hr; have HK3 := Lib.hid hK
    have HX3 := Lib.hid (show M1 (PrefP.cut a d) d = some x by rw [hS _ _ (by omega)]; exact HX.out)
    have HY3 := Lib.hid (show M1 (PrefP.cut a (d + 1)) (d + 1) = some y by rw [hS _ _ (by omega)]; exact HY.out)
    have KK0 : W3.cell? ⟨w.heap.size, 0, none⟩ = some (.int .u32 (a : Int)) ∧ W3.cell? ⟨w.heap.size, 1, none⟩ = some (.int .i64 n) ∧ W3.cell? ⟨x.b, TrieP.bt a d, none⟩ = some (.pointer (some ⟨y.b, 0, none⟩)) := by
      refine ⟨bx3.c0, bx3.c1, ?_⟩
      rw [hT3.cell _ _ _ HX3.out _ (by have := TrieP.bt_lt a d; omega), nc_kid _ _ _ _ _ (TrieP.bt_lt a d), ← TrieP.step a d (by omega), HY3.out, pt_some]
    clear hHeld hT3 hP hS hr hK bx3
    go_wp2_with fail
    refine hK.out _ _ KK0 (fun hHeld => ?_)
    clear hK K
    refine wpAnyH_done (by kernel_rfl) ?_ _
    have hbx := hHeld.1
    clear hHeld c0 c1 dk f0 f1 l1
    have HK1 : Hid (Keep M.Bl w W3) := Lib.hid ((Keep.of HB0.out).trans (((Keep.refl M.Bl W1).drewN (nq + 1)).trans HK3.out))
    cases r with
    | false =>
      have d0 := HT3.out.cell _ _ _ HX3.out 0 (by decide)
      have d1 := HT3.out.cell _ _ _ HX3.out 1 (by decide)
      have d2 : (W3).cell? ⟨x.b, 2, none⟩ = some (.bool x.u) := HT3.out.cell _ _ _ HX3.out 2 (by decide)
      have d3 : (W3).cell? ⟨x.b, 3, none⟩ = some (.int .i64 x.v) := HT3.out.cell _ _ _ HX3.out 3 (by decide)
      obtain ⟨q0, hq0⟩ := pt_pointer ((M1) (PrefP.cut a d) (d + 1))
      obtain ⟨q1, hq1⟩ := pt_pointer ((M1) (TrieP.kid (PrefP.cut a d) d 1) (d + 1))
      rw [show nc (M1) (PrefP.cut a d) d x 0 = .pointer q0 from hq0] at d0
      rw [show nc (M1) (PrefP.cut a d) d x 1 = .pointer q1 from hq1] at d1
      have HQ0 := Lib.hid hq0; have HQ1 := Lib.hid hq1
      have heq := eqBranches q0 q1
      clear hq0 hq1
      go_wp2_with fail
      · go_ret
        exact ⟨false, _, rfl, HT3.out, HP3.out, (fun a' d' h => HS3.out a' d' (by omega)), (fun h => by cases h), HK1.out⟩
      · go_ret
        exact ⟨false, _, rfl, HT3.out, HP3.out, (fun a' d' h => HS3.out a' d' (by omega)), (fun h => by cases h), HK1.out⟩
      · rename_i e2 e1 e0
        go_ret
        exact ⟨true, _, rfl, HT3.out, HP3.out, (fun a' d' h => HS3.out a' d' (by omega)), fun _ => prune_true HQ0.out HQ1.out e2 e1, HK1.out⟩
      · go_ret
        exact ⟨false, _, rfl, HT3.out, HP3.out, (fun a' d' h => HS3.out a' d' (by omega)), (fun h => by cases h), HK1.out⟩
    | true =>
      obtain ⟨u1, u2, u3⟩ := HR3.out rfl
      have dk : W3.cell? ⟨x.b, TrieP.bt a d, none⟩ = some (.pointer (some ⟨y.b, 0, none⟩)) := by
        rw [HT3.out.cell _ _ _ HX3.out _ (by omega), nc_kid _ _ _ _ _ hlt, ← TrieP.step a d (by omega), HY3.out, pt_some]
      have ek := HT3.out.free _ _ _ HX3.out (TrieP.bt a d)
      have hcut := HT3.out.cut HX3.out (by omega) hlt (by rw [← TrieP.step a d (by omega)]; exact HY3.out) (by rw [← TrieP.step a d (by omega)]; exact u2) (by rw [← TrieP.step a d (by omega)]; exact u3)
      rw [← TrieP.step a d (by omega)] at hcut
      have HT4 := Lib.hid hcut
      have HX4 := Lib.hid (show (M1.upd (PrefP.cut a (d + 1)) (d + 1) none) (PrefP.cut a d) d = some x by rw [Tm.upd_deep _ _ _ _ _ _ (by omega)]; exact HX3.out)
      have HP4 := Lib.hid (HP3.out.upd HY3.out u1)
      have HK4 := Lib.hid (HK1.out.trans (Keep.setCell M.Bl W3 x.b (TrieP.bt a d) (.pointer none) ⟨_, _, x, HX.out, rfl⟩))
      clear hcut u1 u2 u3
      have d0 := HT4.out.cell _ _ _ HX4.out 0 (by decide)
      have d1 := HT4.out.cell _ _ _ HX4.out 1 (by decide)
      have d2 : (W3.setCell ⟨x.b, TrieP.bt a d, none⟩ (.pointer none)).cell? ⟨x.b, 2, none⟩ = some (.bool x.u) := HT4.out.cell _ _ _ HX4.out 2 (by decide)
      have d3 : (W3.setCell ⟨x.b, TrieP.bt a d, none⟩ (.pointer none)).cell? ⟨x.b, 3, none⟩ = some (.int .i64 x.v) := HT4.out.cell _ _ _ HX4.out 3 (by decide)
      obtain ⟨q0, hq0⟩ := pt_pointer ((M1.upd (PrefP.cut a (d + 1)) (d + 1) none) (PrefP.cut a d) (d + 1))
      obtain ⟨q1, hq1⟩ := pt_pointer ((M1.upd (PrefP.cut a (d + 1)) (d + 1) none) (TrieP.kid (PrefP.cut a d) d 1) (d + 1))
      rw [show nc (M1.upd (PrefP.cut a (d + 1)) (d + 1) none) (PrefP.cut a d) d x 0 = .pointer q0 from hq0] at d0
      rw [show nc (M1.upd (PrefP.cut a (d + 1)) (d + 1) none) (PrefP.cut a d) d x 1 = .pointer q1 from hq1] at d1
      have HQ0 := Lib.hid hq0; have HQ1 := Lib.hid hq1
      have heq := eqBranches q0 q1
      clear hq0 hq1
      go_wp2_with fail
      · go_ret
        exact ⟨false, _, rfl, HT4.out, HP4.out, (fun a' d' h => by rw [Tm.upd_deep _ _ _ _ _ _ (by omega)]; exact HS3.out a' d' (by omega)), (fun h => by cases h), HK4.out⟩
      · go_ret
        exact ⟨false, _, rfl, HT4.out, HP4.out, (fun a' d' h => by rw [Tm.upd_deep _ _ _ _ _ _ (by omega)]; exact HS3.out a' d' (by omega)), (fun h => by cases h), HK4.out⟩
      · rename_i e2 e1 e0
        go_ret
        exact ⟨true, _, rfl, HT4.out, HP4.out, (fun a' d' h => by rw [Tm.upd_deep _ _ _ _ _ _ (by omega)]; exact HS3.out a' d' (by omega)), fun _ => prune_true HQ0.out HQ1.out e2 e1, HK4.out⟩
      · go_ret
        exact ⟨false, _, rfl, HT4.out, HP4.out, (fun a' d' h => by rw [Tm.upd_deep _ _ _ _ _ _ (by omega)]; exact HS3.out a' d' (by omega)), (fun h => by cases h), HK4.out⟩
end Go.Proofs.YtbdmfcnlfmnmdaaDoor

namespace Go.Proofs.YtbdmfcnlfmnmdaaDoor
open Go.RowKit

set_option maxHeartbeats 1000000 in
set_option maxRecDepth 100000 in
theorem drop_bad (w : World) (tb : Nat) (a : Nat) (z : Int) (ha : a < 4294967296) (h : PrefP.chk a z ≠ 0) :
    Calls Tryd.prog 14 #[.pointer (some ⟨tb, 0, none⟩), .agg #[.int .u32 a, .int .i64 z]] w fun e w' => e = .returned (.iface 29 (.int .i64 (PrefP.chk a z))) ∧ Below w.heap.size w w' := by
  have HC := Lib.hid (check1_any a z ha)
  have HE := Lib.hid (errV_pos h)
  clear h
  generalize PrefP.chk a z = k at HC HE ⊢
  go_enter Tryd.func14, Tryd.ntmps14
  go_wp2_with fail
  refine (HC.out _).mono ?_
  rintro e w1 ⟨rfl, hb⟩
  rw [HE.out]
  have hB := (box1 hb).2
  clear hb
  go_wp2_with fail
  go_ret
  exact ⟨rfl, hB⟩

set_option maxHeartbeats 1000000 in
set_option maxRecDepth 100000 in
theorem drop_none (w : World) (M : Tm) (tb : Nat) (c : Int) (a n : Nat) (ha : a < 4294967296) (hn : n ≤ 32) (hc : PrefP.cut a n = a) (h : Tri w M tb c) (hl : M.look a n = none) :
    Calls Tryd.prog 14 #[.pointer (some ⟨tb, 0, none⟩), .agg #[.int .u32 a, .int .i64 n]] w fun e w' => e = .returned (.iface 29 (.int .i64 2)) ∧ Below w.heap.size w w' := by
  have HC := Lib.hid (check_ok a n ha hn hc); have HT := Lib.hid h; have HCC := Lib.hid hc
  have HL := Lib.hid hl
  clear h hc hl
  go_enter Tryd.func14, Tryd.ntmps14
  go_wp2_with fail
  refine (HC.out _).mono ?_
  rintro e w1 ⟨rfl, hb⟩
  obtain ⟨⟨l1, c0, c1, f0, f1⟩, hB⟩ := box1 hb; clear hb
  go_wp2_with fail
  refine (lookup_any w1 M tb c a n hn HCC.out (HT.out.below hB)).mono ?_
  rintro e w2 ⟨rfl, hb2⟩
  rw [HL.out, pt_none]
  go_wp2_with fail
  go_ret
  exact ⟨rfl, Below.two hB hb2⟩

set_option maxHeartbeats 2000000 in
set_option maxRecDepth 100000 in
theorem drop_ok (w : World) (M : Tm) (tb : Nat) (c : Int) (a n : Nat) (x : Nd) (ha : a < 4294967296) (hn : n ≤ 32) (hc : PrefP.cut a n = a) (h : Tri w M tb c) (hl : M.look a n = some x) (h0 : 0 < c) (h64 : c ≤ 64) :
    Calls Tryd.prog 14 #[.pointer (some ⟨tb, 0, none⟩), .agg #[.int .u32 a, .int .i64 n]] w fun e w' => e = .returned .nilIface ∧ (∃ M', Pruned (M.upd a n (some ⟨x.b, false, 0⟩)) M' ∧ Tri w' M' tb (c - 1)) ∧ Keep M.Bl w w' := by
  have HC := Lib.hid (check_ok a n ha hn hc); have HT := Lib.hid h; have HCC := Lib.hid hc
  have HL := Lib.hid hl; have HBL := Lib.hid h.blt
  clear h hc hl
  go_enter Tryd.func14, Tryd.ntmps14
  go_wp2_with fail
  refine (HC.out _).mono ?_
  rintro e w1 ⟨rfl, hb⟩
  obtain ⟨BX, hB⟩ := box1 hb; clear hb
  obtain ⟨l1, c0, c1, f0, f1⟩ := id BX
  go_wp2_with fail
  refine (lookup_any w1 M tb c a n hn HCC.out (HT.out.below hB)).mono ?_
  rintro e w2 ⟨rfl, hb2⟩
  rw [HL.out, pt_some]
  have T2 := Lib.hid ((HT.out.below hB).below hb2)
  have HX := Lib.hid (look_is HL.out).1
  have BX2 := Lib.hid (BX.kept hb2); have B2 := Lib.hid (Below.two hB hb2)
  clear BX l1 c0 c1 f0 f1 hB hb2
  have d2 : w2.cell? ⟨x.b, 2, none⟩ = some (.bool x.u) := T2.out.cell _ _ _ HX.out 2 (by decide)
  have d3 : w2.cell? ⟨x.b, 3, none⟩ = some (.int .i64 x.v) := T2.out.cell _ _ _ HX.out 3 (by decide)
  have e2 := T2.out.free _ _ _ HX.out 2
  have e3 := T2.out.free _ _ _ HX.out 3
  have d4 := T2.out.cnt
  obtain ⟨r0, hr0, hrb⟩ := T2.out.root
  have e4 := T2.out.free _ _ _ hr0 4
  rw [hrb] at e4
  have RB := Lib.hid T2.out.rootB
  have T3 := (T2.out.setUV HX.out false 0).count (c - 1)
  have hnb : ¬ M.Bl w.heap.size := fun e => by have := HBL.out _ e; omega
  have K3 : Keep M.Bl w2 (((w2.setCell ⟨x.b, 2, none⟩ (.bool false)).setCell ⟨x.b, 3, none⟩ (.int .i64 0)).setCell ⟨tb, 4, none⟩ (.int .i64 (c - 1))) :=
    ((Keep.setCell M.Bl _ _ _ _ ⟨a, n, x, HX.out, rfl⟩).trans (Keep.setCell M.Bl _ _ _ _ ⟨a, n, x, HX.out, rfl⟩)).trans (Keep.setCell M.Bl _ _ _ _ RB.out)
  have HK3 := Lib.hid K3; have HT3 := Lib.hid T3; have HNM := Lib.hid hnb
  obtain ⟨r, hr, hrb'⟩ := T3.root
  have HR := Lib.hid (show (M.upd a n (some ⟨x.b, false, 0⟩)) (PrefP.cut a 0) 0 = some r by rw [PrefP.cut_zero]; exact hr)
  have HRB := Lib.hid hrb'
  clear hr0 hrb K3 T3 hr hrb' hnb
  go_wp2_with fail
  generalize ((w2.setCell ⟨x.b, 2, none⟩ (.bool false)).setCell ⟨x.b, 3, none⟩ (.int .i64 0)).setCell ⟨tb, 4, none⟩ (.int .i64 (c - 1)) = W3 at *
  have HBX : Hid (Box W3 w.heap.size (.int .u32 a) (.int .i64 n)) := Lib.hid (by
    have e : W3.heap[w.heap.size]? = w2.heap[w.heap.size]? := HK3.out.block w.heap.size BX2.out.lt HNM.out
    exact ⟨Nat.lt_of_lt_of_le BX2.out.lt HK3.out.size, (World.cell?_of_block (w := w2) e).trans BX2.out.c0, (World.cell?_of_block (w := w2) e).trans BX2.out.c1, (World.frozen?_of_block (w := w2) e).trans BX2.out.f0, (World.frozen?_of_block (w := w2) e).trans BX2.out.f1⟩)
  have bl : ∀ b, (M.upd a n (some ⟨x.b, false, 0⟩)).Bl b → M.Bl b := by
    rintro b ⟨a', d', y, hy, rfl⟩
    unfold Tm.upd at hy
    split at hy
    · obtain rfl := Option.some.inj hy
      exact ⟨a, n, x, HX.out, rfl⟩
    · exact ⟨a', d', y, hy, rfl⟩
  have HNB := Lib.hid (show ¬ (M.upd a n (some ⟨x.b, false, 0⟩)).Bl w.heap.size from fun e => HNM.out (bl _ e))
  have HBB := Lib.hid bl
  have htb : tb = r.b := HRB.out.symm
  clear bl d2 d3 e2 e3 d4 e4
  refine wp_region_held_drew (S := (fun w' => w'.cell? ⟨w.heap.size, 0, none⟩ = some (.int .u32 (a : Int)) ∧ w'.cell? ⟨w.heap.size, 1, none⟩ = some (.int .i64 n))) (by kernel_rfl) ⟨HBX.out.c0, HBX.out.c1⟩ (fun hHeld => ?_)
  refine wpAnyH_take (i := 0) (oi := { dst := some 31, op := Op.move (Operand.tmp 0), type := 25, pos := "trie.go:105", after := #[], guard := none }) (v := ?_) rfl (by kernel_rfl) (by kernel_rfl) (by kernel_rfl) (fun _ _ _ h => h) (Or.inl ⟨by rfl, ?_⟩) hHeld ?_
  rotate_left
  · (intro w hSw; (try dsimp only at hSw); go_simp; first | done | with_reducible rfl)
  simp only [Act.put, List.setIfInBounds_toArray, List.set_cons_zero, List.set_cons_succ]
  refine wpAnyH_take (i := 1) (oi := { dst := some 32, op := Op.nilCheck (Operand.tmp 31), type := 0, pos := "trie.go:105", after := #[{ on := 0, ground := Ground.data }], guard := none }) (v := ?_) rfl (by kernel_rfl) (by kernel_rfl) (by kernel_rfl) (fun _ _ _ h => h) (Or.inl ⟨by rfl, ?_⟩) hHeld ?_
  rotate_left
  · (intro w hSw; (try dsimp only at hSw); go_simp; first | done | with_reducible rfl)
  simp only [Act.put, List.setIfInBounds_toArray, List.set_cons_zero, List.set_cons_succ]
  refine wpAnyH_take (i := 2) (oi := { dst := some 33, op := Op.fieldAddr 61 (Operand.tmp 32) 0, type := 0, pos := "trie.go:105", after := #[{ on := 1, ground := Ground.data }], guard := none }) (v := ?_) rfl (by kernel_rfl) (by kernel_rfl) (by kernel_rfl) (fun _ _ _ h => h) (Or.inl ⟨by rfl, ?_⟩) hHeld ?_
  rotate_left
  · (intro w hSw; (try dsimp only at hSw); go_simp; first | done | with_reducible rfl)
  simp only [Act.put, List.setIfInBounds_toArray, List.set_cons_zero, List.set_cons_succ]
  refine wpAnyH_take (i := 3) (oi := { dst := some 34, op := Op.load 32 (Operand.tmp 3), type := 32, pos := "trie.go:105", after := #[], guard := none }) (v := ?_) rfl (by kernel_rfl) (by kernel_rfl) (by kernel_rfl) (fun _ _ _ h => h) (Or.inl ⟨by rfl, ?_⟩) hHeld ?_
  rotate_left
  · (intro w hSw; (try dsimp only at hSw); go_simp; first | done | with_reducible rfl)
  simp only [Act.put, List.setIfInBounds_toArray, List.set_cons_zero, List.set_cons_succ]
  refine wpAnyH_ready (rs := [4]) (by kernel_rfl) (by simp) ?_
  refine AllReadyH.cons (o := { dst := some 35, op := Op.call { callee := Callee.value (Operand.func 29), args := #[Operand.tmp 33, Operand.tmp 34, Operand.const (Value.int IntKind.i64 0)], argTypes := #[56, 32, 3] }, type := 4, pos := "trie.go:105", after := #[{ on := 2, ground := Ground.data }, { on := 3, ground := Ground.data }], guard := none }) rfl (fun K hK => ?_) AllReadyH.nil
  go_simp
  go_at_call 29
  refine (prune_any tb (c - 1) (M.upd a n (some ⟨x.b, false, 0⟩)) a n hn n 0 _ r (by omega) (by omega) HT3.out.drew ⟨_, Tm.upd_same _ _ _ _⟩ HR.out).mono ?_
  rintro e W4 ⟨rb, M4, rfl, hT4, hP4, _, _, hK4⟩
  have HT4 := Lib.hid hT4; have HP4 := Lib.hid hP4; have HK4 := Lib.hid hK4
  have bx : Box W4 w.heap.size (.int .u32 a) (.int .i64 n) := by
    have e : W4.heap[w.heap.size]? = W3.heap[w.heap.size]? := hK4.block w.heap.size HBX.out.lt HNB.out
    exact ⟨Nat.lt_of_lt_of_le HBX.out.lt hK4.size, (World.cell?_of_block (w := W3) e).trans HBX.out.c0, (World.cell?_of_block (w := W3) e).trans HBX.out.c1, (World.frozen?_of_block (w := W3) e).trans HBX.out.f0, (World.frozen?_of_block (w := W3) e).trans HBX.out.f1⟩
  have KK0 : W4.cell? ⟨w.heap.size, 0, none⟩ = some (.int .u32 (a : Int)) ∧ W4.cell? ⟨w.heap.size, 1, none⟩ = some (.int .i64 n) := ⟨bx.c0, bx.c1⟩
  clear hHeld hT4 hP4 hK4 bx
  go_wp2_with fail
  refine hK.out _ _ KK0 (fun hHeld => ?_)
  clear hK K
  refine wpAnyH_done (by kernel_rfl) ?_ _
  clear hHeld
  go_wp2_with fail
  go_ret
  refine ⟨rfl, ⟨M4, HP4.out, HT4.out⟩, ?_⟩
  exact ((Keep.of B2.out).trans HK3.out).trans ((((Keep.refl M.Bl W3).drew).trans (HK4.out.mono HBB.out)))

/-- What dropping makes of a table. -/
def dropF (f : Nt → Option Int) (x : Nt) : Nt → Option Int := if getE f x = 0 then setF f x none else f
theorem drop_any (w : World) (S : Nat → Prop) (tb : Nat) (f : Nt → Option Int) (L : List Nt) (x : Nt) (hx : x.1 < 4294967296) (h : Tab w S tb f L) :
    Calls Tryd.prog 14 #[.pointer (some ⟨tb, 0, none⟩), .agg #[.int .u32 x.1, .int .i64 x.2]] w fun e w' => e = .returned (errV (getE f x)) ∧ (∃ L', Tab w' S tb (dropF f x) L') ∧ Keep S w w' := by
  obtain ⟨a, z⟩ := x
  have hT := h
  obtain ⟨h64L, M, h1, h2, h3, h4, h5⟩ := h
  have stay : ∀ w', Below w.heap.size w w' → Tab w' S tb f L := fun w' hb => hT.below hb
  by_cases hk : PrefP.chk a z = 0
  · obtain ⟨n, rfl, hn, hc⟩ := PrefP.chk_zero a z hk
    have hv := look_val M a n
    have hf : f (a, (n : Int)) = (M.look a n).map fun x => x.v := by rw [h5, hv]
    cases hl : M.look a n with
    | none =>
      rw [hl] at hf
      have hf : f (a, (n : Int)) = none := hf
      have hE : getE f (a, (n : Int)) = 2 := by unfold getE; simp [hk, hf]
      have hF : dropF f (a, (n : Int)) = f := by unfold dropF; rw [hE, if_neg (by decide)]
      refine (drop_none w M tb L.length a n hx hn hc h1 hl).mono ?_
      rintro e w' ⟨rfl, hb⟩
      rw [hE, hF]
      exact ⟨rfl, ⟨L, stay w' hb⟩, Keep.of hb⟩
    | some x =>
      rw [hl] at hf
      have hf : f (a, (n : Int)) = some x.v := hf
      have hE : getE f (a, (n : Int)) = 0 := by unfold getE; simp [hk, hf]
      have hin : (a, (n : Int)) ∈ L := (hT.mem _).2 ⟨_, hf⟩
      have hpos : 0 < L.length := List.length_pos_of_mem hin
      refine (drop_ok w M tb L.length a n x hx hn hc h1 hl (by omega) (by omega)).mono ?_
      rintro e w' ⟨rfl, ⟨M', hP, T'⟩, K'⟩
      have hv' : ∀ m, dropF f (a, (n : Int)) m = M'.val m := fun m => by
        rw [hP.val m, val_upd]
        unfold dropF
        rw [if_pos hE]
        simp only [Bool.false_eq_true, if_false]
        unfold setF
        rw [h5 m]
      have hlen : L.length = M'.list.length + 1 := by
        refine more_len (x := (a, (n : Int))) (rises_nodup (Tm.list_rises T'.ok)) (rises_nodup hT.rises) ?_ fun m => ?_
        · rw [Tm.list_mem T'.ok, ← hv']
          unfold dropF
          rw [if_pos hE, setF_same]; simp
        · rw [Tm.list_mem T'.ok, hT.mem, ← hv' m]
          unfold dropF
          rw [if_pos hE]
          unfold setF
          by_cases em : m = (a, (n : Int))
          · simp [em, hf]
          · simp [em]
      refine ⟨by rw [hE]; rfl, ⟨M'.list, by omega, M', ?_, ?_, ?_, rfl, hv'⟩, K'.mono h2⟩
      · rw [show ((M'.list.length : Nat) : Int) = (L.length : Int) - 1 by omega]; exact T'
      · intro b hb
        obtain ⟨a', d', y, hy, rfl⟩ := hP.bl b hb
        refine h2 _ ?_
        unfold Tm.upd at hy
        split at hy
        · obtain rfl := Option.some.inj hy
          exact ⟨a, n, x, (look_is hl).1, rfl⟩
        · exact ⟨a', d', y, hy, rfl⟩
      · intro b hb
        exact Nat.lt_of_lt_of_le (h3 b hb) K'.size
  · have hE : getE f (a, z) = PrefP.chk a z := by unfold getE; simp [hk]
    have hF : dropF f (a, z) = f := by unfold dropF; rw [hE, if_neg hk]
    refine (drop_bad w tb a z hx hk).mono ?_
    rintro e w' ⟨rfl, hb⟩
    rw [hE, hF, errV_pos hk]
    exact ⟨rfl, ⟨L, stay w' hb⟩, Keep.of hb⟩
end Go.Proofs.YtbdmfcnlfmnmdaaDoor

namespace Go.Proofs.YtbdmfcnlfmnmdaaDoor
open Go.RowKit

theorem nodup_len {l : List Nt} : ∀ {m : List Nt}, l.Nodup → (∀ n ∈ l, n ∈ m) → l.length ≤ m.length := by
  induction l with
  | nil => intro m _ _; simp
  | cons x r ih =>
    intro m hn hs
    have hx : x ∈ m := hs x (by simp)
    obtain ⟨h1, h2⟩ := List.nodup_cons.1 hn
    have h3 := ih (m := m.erase x) h2 (fun n hn' => (List.mem_erase_of_ne (fun e => h1 (by rw [← e]; exact hn'))).2 (hs n (by simp [hn'])))
    rw [List.length_erase_of_mem hx] at h3
    have := List.length_pos_of_mem hx
    simp only [List.length_cons]
    omega
theorem zero_chk0 : PrefP.chk 0 0 = 0 := by decide +kernel
/-- One put and dropped again. -/
theorem put_drop_none : ∀ n, dropF (setF (fun _ => none) ((0, 0) : Nt) (some 3)) ((0, 0) : Nt) n = none := by
  intro n
  have hE : getE (setF (fun _ => none) ((0, 0) : Nt) (some 3)) ((0, 0) : Nt) = 0 := by unfold getE; rw [if_pos zero_chk0, setF_same, if_neg (by simp)]
  unfold dropF
  rw [if_pos hE]
  unfold setF
  by_cases e : n = ((0, 0) : Nt)
  · rw [if_pos e]
  · rw [if_neg e, if_neg e]
theorem get_zero : getE (setF (fun _ => none) ((0, 0) : Nt) (some 3)) ((0, 0) : Nt) = 0 := by unfold getE; rw [if_pos zero_chk0, setF_same, if_neg (by simp)]
theorem put_zero0 : putE (fun _ => none) [] ((0, 0) : Nt) = 0 := by unfold putE; rw [if_pos zero_chk0, if_neg (by simp)]
end Go.Proofs.YtbdmfcnlfmnmdaaDoor

namespace Go.Proofs.YtbdmfcnlfmnmdaaDoor
open Go.RowKit

/-- What a table holds into which right networks were put, all with 3. -/
def All3 (X : List Nt) (f : Nt → Option Int) : Prop := ∀ n : Nt, f n = if n ∈ X then some 3 else none
theorem All3.congr {X Y : List Nt} {f : Nt → Option Int} (h : All3 X f) (e : ∀ n, n ∈ X ↔ n ∈ Y) : All3 Y f := fun n => by rw [h n]; simp only [e n]
theorem All3.step {w : World} {S : Nat → Prop} {tb : Nat} {f : Nt → Option Int} {L l X : List Nt} {x : Nt} (hT : Tab w S tb f L) (hl : l.length ≤ 64) (hX : ∀ n ∈ X, n ∈ l) (hx : x ∈ l) (hk : PrefP.chk x.1 x.2 = 0) (h : All3 X f) : putE f L x = 0 ∧ All3 (x :: X) (putF f L x 3) := by
  have h64 : ¬ (f x = none ∧ 64 ≤ L.length) := by
    rintro ⟨h1, h2⟩
    have hn : (x :: L).Nodup := List.nodup_cons.2 ⟨fun e => by
      obtain ⟨z, hz⟩ := (hT.mem x).1 e
      rw [h1] at hz; exact absurd hz (by simp), rises_nodup hT.rises⟩
    have := nodup_len (m := l) hn (fun m hm => by
      rcases List.mem_cons.1 hm with rfl | hm
      · exact hx
      · obtain ⟨z, hz⟩ := (hT.mem m).1 hm
        rw [h m] at hz
        by_cases c : m ∈ X
        · exact hX m c
        · rw [if_neg c] at hz; exact absurd hz (by simp))
    simp only [List.length_cons] at this
    omega
  have hE : putE f L x = 0 := by unfold putE; rw [if_pos hk, if_neg h64]
  refine ⟨hE, fun n => ?_⟩
  unfold putF
  rw [if_pos hE]
  unfold setF
  by_cases e : n = x
  · simp [e]
  · rw [if_neg e, h n]; simp [e]
/-- What is found in it. -/
theorem All3.found {X : List Nt} {f : Nt → Option Int} {a : Nat} {q : Option (Nat × Int)} (h : All3 X f) (hF : Fnd f a q) : fE q = (if anyHas X a = true then 0 else 2) ∧ fZ q = (if anyHas X a = true then 3 else 0) := by
  cases q with
  | none =>
    have hA : anyHas X a = false := by
      cases e : anyHas X a with
      | false => rfl
      | true =>
        obtain ⟨n, h1, h2⟩ := List.any_eq_true.1 e
        have := hF n h2
        rw [h n, if_pos h1] at this
        exact absurd this (by simp)
    rw [hA]; exact ⟨rfl, rfl⟩
  | some p =>
    obtain ⟨k, z⟩ := p
    obtain ⟨h1, h2, _⟩ := hF
    rw [h] at h2
    by_cases c : (PrefP.cut a k, (k : Int)) ∈ X
    · rw [if_pos c] at h2
      have hA : anyHas X a = true := List.any_eq_true.2 ⟨_, c, (PrefP.has_iff _ _ _).2 ⟨k, rfl, h1, rfl⟩⟩
      rw [hA]
      exact ⟨rfl, (Option.some.inj h2).symm⟩
    · rw [if_neg c] at h2; exact absurd h2 (by simp)

set_option maxHeartbeats 4000000 in
set_option maxRecDepth 100000 in
theorem topFinds_walk (w : World) (v : Value) (l : List Nt) (a : Nat) (hl : l.length * 16 ≤ 140737488355328) (ha : a < 4294967296) (h : Arg w v l) (hok : ∀ x ∈ l, x.1 < 4294967296) (he : ErrType w) :
    Calls Tryd.prog 6 #[v, .int .u32 a] w fun e w' => e = .returned (.bool true) ∧ Below w.heap.size w w' := by
  have HA0 := Lib.hid h; have HOK := Lib.hid hok; have HE := Lib.hid he
  clear hok he
  obtain ⟨p, c, rfl, _⟩ := h
  go_enter Tryd.func6, Tryd.ntmps6
  go_wp2_with fail
  refine (cover_any w _ l HA0.out (by omega) HOK.out).mono ?_
  rintro e w1 ⟨vc, rfl, o1, b1⟩
  have HA := Lib.hid (HA0.out.below b1); have HW := Lib.hid b1; have HC0 := Lib.hid o1.arg
  clear o1 b1
  go_wp2_with fail
  refine (new_tab w1).mono ?_
  rintro e w2 ⟨rfl, T1, b1⟩
  have HT1 := Lib.hid T1; have HB1 := Lib.hid b1
  clear T1 b1
  go_wp2_with fail
  refine (new_tab w2).mono ?_
  rintro e w3 ⟨rfl, T2, b2⟩
  have HS2 := Lib.hid (HT1.out.below b2); have HT2 := Lib.hid T2; have HB2 := Lib.hid (Below.two HB1.out b2); have hs12 : w1.heap.size < w2.heap.size := HT1.out.lt _ rfl
  clear T2 b2
  go_wp2_with fail
  refine (put_any w3 _ w1.heap.size _ [] ((0, 0) : Nt) 3 (by decide) HS2.out).mono ?_
  rintro e w4 ⟨rfl, ⟨L3, T3⟩, K3⟩
  rw [put_zero0, errV_zero]
  have hF : putF (fun _ => none) [] ((0, 0) : Nt) 3 = setF (fun _ => none) ((0, 0) : Nt) (some 3) := if_pos put_zero0
  rw [hF] at T3
  have HS3 := Lib.hid T3; have HT3 := Lib.hid (HT2.out.keep K3 (fun b h1 h2 => by omega)); have HB3 := Lib.hid (HB2.out.trans (K3.below (fun b hb => by omega) HB2.out.size))
  have HD3 : Hid (∀ b, plus (fun b => b = w1.heap.size) w3 w4 b → ¬ b = w2.heap.size) := Lib.hid (by
    intro b hb
    have := HT2.out.lt _ rfl
    rcases hb with hb | hb <;> omega)
  have HG3 := Lib.hid (show ∀ b, plus (fun b => b = w1.heap.size) w3 w4 b → w1.heap.size ≤ b from plus_ge (fun b hb => by omega) HB2.out.size)
  clear T3 K3 hF
  go_wp2_with fail
  refine (drop_any w4 _ w1.heap.size _ L3 ((0, 0) : Nt) (by decide) HS3.out).mono ?_
  rintro e w4' ⟨rfl, ⟨L4, T4⟩, K4⟩
  rw [get_zero, errV_zero]
  have HS4 := Lib.hid T4; have HT4 := Lib.hid (HT3.out.keep K4 (fun b h1 h2 => HD3.out b h2 h1)); have HB4 := Lib.hid (HB3.out.trans (K4.below HG3.out HB3.out.size))
  have HP4 := Lib.hid (show All3 (l.take 0) (dropF (setF (fun _ => none) ((0, 0) : Nt) (some 3)) ((0, 0) : Nt)) from fun n => by rw [put_drop_none n]; simp)
  clear T4 K4 HS3 HT3 HB3 HS2 HT2 HB2 HT1 HB1
  generalize plus (fun b => b = w1.heap.size) w3 w4 = S4 at *
  generalize dropF (setF (fun _ => none) ((0, 0) : Nt) (some 3)) ((0, 0) : Nt) = f4 at *
  by_cases hb : badL l = 0
  · have hcov : covE l = cov l := if_pos hb
    obtain ⟨h1, h2⟩ := (badL_zero l).1 hb
    have hVl : ∀ x ∈ l, x.V := fun x hx => ⟨HOK.out x hx, h1 x hx⟩
    have HVl := Lib.hid hVl
    have HVcs := Lib.hid (cov_good l hVl).1
    have HCA := Lib.hid (cov_any l hVl a ha)
    have HLl := Lib.hid h2
    have HLcs := Lib.hid (show (cov l).length ≤ 64 from Nat.le_trans (cov_len l) h2)
    rw [hb, errV_zero]
    rw [hcov] at HC0
    obtain ⟨pc, cc, hvc, _⟩ := HC0.out
    subst hvc
    clear hcov h1 hVl hb
    generalize cov l = cs at *
    have HC := HC0
    have hcs := HLcs.out
    go_wp2_with fail
    go_loopw [9] (fun s wr => ∃ (k : Nat) (S S' : Nat → Prop) (f : Nt → Option Int) (L L' : List Nt), s = .int .i64 k ∧ k ≤ l.length ∧ Hid (Tab wr S w1.heap.size f L) ∧ Hid (Tab wr S' w2.heap.size (fun _ => none) L') ∧ Hid (∀ b, S b → ¬ S' b) ∧ Hid (∀ b, S b → w1.heap.size ≤ b) ∧ Hid (∀ b, S' b → w1.heap.size ≤ b) ∧ Hid (All3 (l.take k) f) ∧ Hid (Below w1.heap.size w1 wr)) (fun s _ => l.length - (RowKit.intOf s).toNat)
    case atStart => exact ⟨0, S4, _, f4, L4, [], rfl, Nat.zero_le _, HS4, HT4, HD3, HG3, Lib.hid fun b hb => by omega, HP4, HB4⟩
    case round =>
      obtain ⟨k, S, S', g, L, L', rfl, hk, Ts, Tt, HD, HS, HS', HP, HB⟩ := hrel
      by_cases hkn : k < l.length
      · obtain ⟨b, off, hp, hlt, hs⟩ : ∃ b off, p = some ⟨b, off, none⟩ ∧ b < w1.heap.size ∧ Seen w1 b off l := by
          obtain ⟨p', c', hv, hx⟩ := HA.out
          injection hv with e1 _ _
          subst e1
          rcases hx with h | h
          · rw [h] at hkn; simp at hkn
          · exact h
        subst hp
        obtain ⟨m, hm⟩ : ∃ m, l[k]! = m := ⟨_, rfl⟩
        have hmin : m ∈ l := by rw [← hm, getElem!_pos l k hkn]; exact List.getElem_mem hkn
        have s0 : wr.cell? ⟨b, off + k * 2, none⟩ = some (.int .u32 (m.1 : Int)) := by have := (hs.below HB.out hlt).c0 k hkn; rwa [hm] at this
        have s1 : wr.cell? ⟨b, off + k * 2 + 1, none⟩ = some (.int .i64 m.2) := by have := (hs.below HB.out hlt).c1 k hkn; rwa [hm] at this
        have hV := HVl.out m hmin
        obtain ⟨st1, st2⟩ := All3.step Ts.out HLl.out (fun n hn => List.mem_of_mem_take hn) hmin hV.2 HP.out
        have HP2 := Lib.hid (show All3 (l.take (k + 1)) (putF g L m 3) from st2.congr fun n => by
          have e : l.take (k + 1) = l.take k ++ [m] := by
            rw [List.take_add_one, List.getElem?_eq_getElem hkn, ← hm, getElem!_pos l k hkn]; rfl
          rw [e]; simp [or_comm])
        have hm1 := hV.1
        clear hs hm hmin st2 hV
        go_wp2_with fail
        refine (put_any wr S w1.heap.size g L m 3 hm1 Ts.out).mono ?_
        rintro e w5 ⟨rfl, ⟨L5, T5⟩, K5⟩
        rw [st1, errV_zero]
        have HT5 := Lib.hid T5; have HU5 := Lib.hid (Tt.out.keep K5 (fun b h1 h2 => HD.out b h2 h1)); have HB5 := Lib.hid (HB.out.trans (K5.below HS.out HB.out.size))
        have HD5 := Lib.hid (show ∀ b, plus S wr w5 b → ¬ S' b from fun b h1 h2 => by
          rcases h1 with h1 | h1
          · exact HD.out b h1 h2
          · have := Tt.out.lt b h2; omega)
        clear T5 K5 st1
        go_wp2_with fail
        go_roundw
        case rel => exact ⟨k + 1, _, S', _, L5, L', by go_num, by omega, HT5, HU5, HD5, Lib.hid (plus_ge HS.out HB.out.size), HS', HP2, HB5⟩
        case measure => simp [RowKit.intOf]; omega
      · obtain rfl : k = l.length := by omega
        have HPl := Lib.hid (show All3 l g from HP.out.congr (by simp))
        clear HP
        have Ts1 := Ts; have Tt1 := Tt
        obtain ⟨gs, hgs⟩ : ∃ gs : Nt → Option Int, gs = g := ⟨g, rfl⟩
        rw [← hgs] at Ts1 HPl
        have HPs := HPl
        obtain ⟨Ls, hLs⟩ : ∃ Ls : List Nt, Ls = L := ⟨L, rfl⟩
        rw [← hLs] at Ts1
        have HN0 : Hid (All3 (cs.take 0) (fun _ => none)) := Lib.hid fun n => by simp
        have HD1 := Lib.hid (show ∀ b, S' b → ¬ S b from fun b h1 h2 => HD.out b h2 h1)
        clear HPl hgs hLs Ts Tt HD
        go_wp2_with fail
        go_loopw [10] (fun s wr => ∃ (k : Nat) (S S' : Nat → Prop) (f : Nt → Option Int) (L L' : List Nt), s = .int .i64 k ∧ k ≤ cs.length ∧ Hid (Tab wr S w2.heap.size f L) ∧ Hid (Tab wr S' w1.heap.size gs L') ∧ Hid (∀ b, S b → ¬ S' b) ∧ Hid (∀ b, S b → w1.heap.size ≤ b) ∧ Hid (∀ b, S' b → w1.heap.size ≤ b) ∧ Hid (All3 (cs.take k) f) ∧ Hid (Below w1.heap.size w1 wr)) (fun s _ => cs.length - (RowKit.intOf s).toNat)
        case atStart => exact ⟨0, S', S, fun _ => none, L', Ls, rfl, Nat.zero_le _, Tt1, Ts1, HD1, HS', HS, HN0, HB⟩
        case round =>
          obtain ⟨k, S, S', g, L, L', rfl, hk, Ts, Tt, HD, HS, HS', HP, HB⟩ := hrel
          by_cases hkn : k < cs.length
          · obtain ⟨b, off, hp, hlt, hs⟩ : ∃ b off, pc = some ⟨b, off, none⟩ ∧ b < w1.heap.size ∧ Seen w1 b off cs := by
              obtain ⟨p', c', hv, hx⟩ := HC.out
              injection hv with e1 _ _
              subst e1
              rcases hx with h | h
              · rw [h] at hkn; simp at hkn
              · exact h
            subst hp
            obtain ⟨m, hm⟩ : ∃ m, cs[k]! = m := ⟨_, rfl⟩
            have hmin : m ∈ cs := by rw [← hm, getElem!_pos cs k hkn]; exact List.getElem_mem hkn
            have s0 : wr.cell? ⟨b, off + k * 2, none⟩ = some (.int .u32 (m.1 : Int)) := by have := (hs.below HB.out hlt).c0 k hkn; rwa [hm] at this
            have s1 : wr.cell? ⟨b, off + k * 2 + 1, none⟩ = some (.int .i64 m.2) := by have := (hs.below HB.out hlt).c1 k hkn; rwa [hm] at this
            have hV := HVcs.out m hmin
            obtain ⟨st1, st2⟩ := All3.step Ts.out HLcs.out (fun n hn => List.mem_of_mem_take hn) hmin hV.2 HP.out
            have HP2 := Lib.hid (show All3 (cs.take (k + 1)) (putF g L m 3) from st2.congr fun n => by
              have e : cs.take (k + 1) = cs.take k ++ [m] := by
                rw [List.take_add_one, List.getElem?_eq_getElem hkn, ← hm, getElem!_pos cs k hkn]; rfl
              rw [e]; simp [or_comm])
            have hm1 := hV.1
            clear hs hm hmin st2 hV
            go_wp2_with fail
            refine (put_any wr S w2.heap.size g L m 3 hm1 Ts.out).mono ?_
            rintro e w5 ⟨rfl, ⟨L5, T5⟩, K5⟩
            rw [st1, errV_zero]
            have HT5 := Lib.hid T5; have HU5 := Lib.hid (Tt.out.keep K5 (fun b h1 h2 => HD.out b h2 h1)); have HB5 := Lib.hid (HB.out.trans (K5.below HS.out HB.out.size))
            have HD5 := Lib.hid (show ∀ b, plus S wr w5 b → ¬ S' b from fun b h1 h2 => by
              rcases h1 with h1 | h1
              · exact HD.out b h1 h2
              · have := Tt.out.lt b h2; omega)
            clear T5 K5 st1
            go_wp2_with fail
            go_roundw
            case rel => exact ⟨k + 1, _, S', _, L5, L', by go_num, by omega, HT5, HU5, HD5, Lib.hid (plus_ge HS.out HB.out.size), HS', HP2, HB5⟩
            case measure => simp [RowKit.intOf]; omega
          · obtain rfl : k = cs.length := by omega
            have HPl := Lib.hid (show All3 cs g from HP.out.congr (by simp))
            clear HP
            cases hA : anyHas l a with
            | true =>
              go_wp2_with fail
              refine (find_any wr S' w1.heap.size gs L' a ha Tt.out).mono ?_
              rintro e w6 ⟨q, rfl, hF, b6⟩
              obtain ⟨q1, q2⟩ := All3.found HPs.out hF
              rw [hA] at q1 q2
              rw [if_pos rfl] at q1 q2
              rw [foundV_eq, q1, q2]
              generalize fN q a = xn
              have U6 := Lib.hid (Ts.out.below b6); have B6 := Lib.hid (Below.two HB.out b6)
              clear hF b6 q1 q2
              have b7 : Below w6.heap.size w6 (w6.alloc (.cells #[.int .u32 (xn.1 : Int), .int .i64 xn.2] 32)) := (Below.refl _ _).alloc (Nat.le_refl _) _
              go_wp2_with fail
              generalize w6.alloc (.cells #[.int .u32 (xn.1 : Int), .int .i64 xn.2] 32) = w7 at *
              have U7 := Lib.hid (U6.out.below b7); have B7 := Lib.hid (Below.two B6.out b7)
              clear b7 U6 B6
              refine (find_any w7 S w2.heap.size g L a ha U7.out).mono ?_
              rintro e w8 ⟨q', rfl, hF', b8⟩
              obtain ⟨q1, q2⟩ := All3.found HPl.out hF'
              rw [HCA.out] at q1 q2
              rw [hA] at q1 q2
              rw [if_pos rfl] at q1 q2
              rw [foundV_eq, q1, q2]
              generalize fN q' a = yn
              have B8 := Lib.hid (Below.two B7.out b8)
              clear hF' b8 q1 q2
              have b9 : Below w8.heap.size w8 (w8.alloc (.cells #[.int .u32 (yn.1 : Int), .int .i64 yn.2] 32)) := (Below.refl _ _).alloc (Nat.le_refl _) _
              go_wp2_with fail
              generalize w8.alloc (.cells #[.int .u32 (yn.1 : Int), .int .i64 yn.2] 32) = w9 at *
              have B9 := Lib.hid (Below.two B8.out b9)
              clear b9
              refine (sameTold_any _ _ w9 (HE.out.below (Below.two HW.out B9.out))).mono ?_
              rintro e w12 ⟨rfl, b12⟩
              rw [beq_self_eq_true]
              have B12 := Lib.hid (Below.two B9.out b12)
              clear b12
              rw [errV_zero]
              go_wp2_with fail
              refine wp_region_held_drew (S := (fun _ => True)) (by kernel_rfl) trivial (fun hHeld => ?_)
              refine wpAnyH_take (i := 0) (oi := { dst := some 91, op := Op.move (Operand.tmp 17), type := 4, pos := "top.go:155", after := #[], guard := none }) (v := ?_) rfl (by kernel_rfl) (by kernel_rfl) (by kernel_rfl) (fun _ _ _ h => h) (Or.inl ⟨by rfl, ?_⟩) hHeld ?_
              rotate_left
              · (intro w hSw; (try dsimp only at hSw); go_simp; first | done | with_reducible rfl)
              simp only [Act.put, List.setIfInBounds_toArray, List.set_cons_zero, List.set_cons_succ]
              refine wpAnyH_take (i := 1) (oi := { dst := some 92, op := Op.move (Operand.tmp 91), type := 4, pos := "top.go:155", after := #[{ on := 0, ground := Ground.data }], guard := none }) (v := ?_) rfl (by kernel_rfl) (by kernel_rfl) (by kernel_rfl) (fun _ _ _ h => h) (Or.inl ⟨by rfl, ?_⟩) hHeld ?_
              rotate_left
              · (intro w hSw; (try dsimp only at hSw); go_simp; first | done | with_reducible rfl)
              simp only [Act.put, List.setIfInBounds_toArray, List.set_cons_zero, List.set_cons_succ]
              refine wpAnyH_take (i := 2) (oi := { dst := some 93, op := Op.move (Operand.tmp 12), type := 3, pos := "top.go:155", after := #[{ on := 1, ground := Ground.guard }], guard := some (1, true) }) (v := ?_) rfl (by kernel_rfl) (by kernel_rfl) (by kernel_rfl) (fun _ _ _ h => h) (Or.inl ⟨by rfl, ?_⟩) hHeld ?_
              rotate_left
              · (intro w hSw; (try dsimp only at hSw); go_simp; first | done | with_reducible rfl)
              simp only [Act.put, List.setIfInBounds_toArray, List.set_cons_zero, List.set_cons_succ]
              refine wpAnyH_take (i := 3) (oi := { dst := some 94, op := Op.move (Operand.tmp 15), type := 3, pos := "top.go:155", after := #[{ on := 1, ground := Ground.guard }], guard := some (1, true) }) (v := ?_) rfl (by kernel_rfl) (by kernel_rfl) (by kernel_rfl) (fun _ _ _ h => h) (Or.inl ⟨by rfl, ?_⟩) hHeld ?_
              rotate_left
              · (intro w hSw; (try dsimp only at hSw); go_simp; first | done | with_reducible rfl)
              simp only [Act.put, List.setIfInBounds_toArray, List.set_cons_zero, List.set_cons_succ]
              refine wpAnyH_take (i := 4) (oi := { dst := some 95, op := Op.binOp BinOp.eql 3 (Operand.tmp 93) (Operand.tmp 94) 3, type := 4, pos := "top.go:155", after := #[{ on := 2, ground := Ground.data }, { on := 3, ground := Ground.data }, { on := 1, ground := Ground.guard }], guard := some (1, true) }) (v := ?_) rfl (by kernel_rfl) (by kernel_rfl) (by kernel_rfl) (fun _ _ _ h => h) (Or.inl ⟨by rfl, ?_⟩) hHeld ?_
              rotate_left
              · (intro w hSw; (try dsimp only at hSw); go_simp; first | done | with_reducible rfl)
              simp only [Act.put, List.setIfInBounds_toArray, List.set_cons_zero, List.set_cons_succ]
              refine wpAnyH_take (i := 5) (oi := { dst := some 96, op := Op.pick (Operand.tmp 92) (Operand.tmp 95) (Operand.const (Value.bool false)), type := 4, pos := "top.go:155", after := #[{ on := 1, ground := Ground.data }, { on := 4, ground := Ground.data }], guard := none }) (v := ?_) rfl (by kernel_rfl) (by kernel_rfl) (by kernel_rfl) (fun _ _ _ h => h) (Or.inl ⟨by rfl, ?_⟩) hHeld ?_
              rotate_left
              · (intro w hSw; (try dsimp only at hSw); go_simp; first | done | with_reducible rfl)
              simp only [Act.put, List.setIfInBounds_toArray, List.set_cons_zero, List.set_cons_succ]
              refine wpAnyH_take (i := 6) (oi := { dst := some 97, op := Op.move (Operand.tmp 96), type := 4, pos := "top.go:155", after := #[{ on := 5, ground := Ground.data }, { on := 1, ground := Ground.chain }], guard := none }) (v := ?_) rfl (by kernel_rfl) (by kernel_rfl) (by kernel_rfl) (fun _ _ _ h => h) (Or.inl ⟨by rfl, ?_⟩) hHeld ?_
              rotate_left
              · (intro w hSw; (try dsimp only at hSw); go_simp; first | done | with_reducible rfl)
              simp only [Act.put, List.setIfInBounds_toArray, List.set_cons_zero, List.set_cons_succ]
              refine wpAnyH_take (i := 7) (oi := { dst := some 98, op := Op.move (Operand.tmp 13), type := 35, pos := "top.go:155", after := #[{ on := 6, ground := Ground.guard }], guard := some (6, true) }) (v := ?_) rfl (by kernel_rfl) (by kernel_rfl) (by kernel_rfl) (fun _ _ _ h => h) (Or.inl ⟨by rfl, ?_⟩) hHeld ?_
              rotate_left
              · (intro w hSw; (try dsimp only at hSw); go_simp; first | done | with_reducible rfl)
              simp only [Act.put, List.setIfInBounds_toArray, List.set_cons_zero, List.set_cons_succ]
              refine wpAnyH_take (i := 8) (oi := { dst := some 99, op := Op.binOp BinOp.eql 35 (Operand.tmp 98) (Operand.const Value.nilIface) 35, type := 4, pos := "top.go:155", after := #[{ on := 7, ground := Ground.data }, { on := 6, ground := Ground.guard }], guard := some (6, true) }) (v := ?_) rfl (by kernel_rfl) (by kernel_rfl) (by kernel_rfl) (fun _ _ _ h => h) (Or.inl ⟨by rfl, ?_⟩) hHeld ?_
              rotate_left
              · (intro w hSw; (try dsimp only at hSw); go_simp; first | done | with_reducible rfl)
              simp only [Act.put, List.setIfInBounds_toArray, List.set_cons_zero, List.set_cons_succ]
              refine wpAnyH_take (i := 9) (oi := { dst := some 100, op := Op.move (Operand.tmp 0), type := 22, pos := "top.go:155", after := #[{ on := 6, ground := Ground.guard }], guard := some (6, true) }) (v := ?_) rfl (by kernel_rfl) (by kernel_rfl) (by kernel_rfl) (fun _ _ _ h => h) (Or.inl ⟨by rfl, ?_⟩) hHeld ?_
              rotate_left
              · (intro w hSw; (try dsimp only at hSw); go_simp; first | done | with_reducible rfl)
              simp only [Act.put, List.setIfInBounds_toArray, List.set_cons_zero, List.set_cons_succ]
              refine wpAnyH_take (i := 10) (oi := { dst := some 101, op := Op.move (Operand.tmp 1), type := 24, pos := "top.go:155", after := #[{ on := 6, ground := Ground.guard }], guard := some (6, true) }) (v := ?_) rfl (by kernel_rfl) (by kernel_rfl) (by kernel_rfl) (fun _ _ _ h => h) (Or.inl ⟨by rfl, ?_⟩) hHeld ?_
              rotate_left
              · (intro w hSw; (try dsimp only at hSw); go_simp; first | done | with_reducible rfl)
              simp only [Act.put, List.setIfInBounds_toArray, List.set_cons_zero, List.set_cons_succ]
              refine wpAnyH_ready (rs := [11]) (by kernel_rfl) (by simp) ?_
              refine AllReadyH.cons (o := { dst := some 102, op := Op.call { callee := Callee.value (Operand.func 24), args := #[Operand.tmp 100, Operand.tmp 101], argTypes := #[22, 24] }, type := 4, pos := "top.go:155", after := #[{ on := 9, ground := Ground.data }, { on := 10, ground := Ground.data }, { on := 6, ground := Ground.chain }, { on := 6, ground := Ground.guard }], guard := some (6, true) }) rfl (fun K hK => ?_) AllReadyH.nil
              go_simp
              go_at_call 24
              refine (hasL_any w12.drew (.slice p l.length c) a l ha (by omega) ((HA.out.below B12.out).below (Below.refl _ _).drew)).mono ?_
              rintro e w13 ⟨rfl, b13⟩
              have B13 := Lib.hid (Below.two (Below.two HW.out B12.out) (((Below.refl _ _).drew).trans b13))
              rw [hA]
              have KK0 : True := trivial
              clear hHeld b13
              go_wp2_with fail
              refine hK.out _ _ KK0 (fun hHeld => ?_)
              clear hK K
              refine wpAnyH_take (i := 12) (oi := { dst := some 103, op := Op.binOp BinOp.eql 4 (Operand.tmp 99) (Operand.tmp 102) 4, type := 4, pos := "top.go:155", after := #[{ on := 8, ground := Ground.data }, { on := 11, ground := Ground.data }, { on := 6, ground := Ground.guard }], guard := some (6, true) }) (v := ?_) rfl (by kernel_rfl) (by kernel_rfl) (by kernel_rfl) (fun _ _ _ h => h) (Or.inl ⟨by rfl, ?_⟩) hHeld ?_
              rotate_left
              · (intro w hSw; (try dsimp only at hSw); go_simp; first | done | with_reducible rfl)
              simp only [Act.put, List.setIfInBounds_toArray, List.set_cons_zero, List.set_cons_succ]
              refine wpAnyH_take (i := 13) (oi := { dst := some 104, op := Op.pick (Operand.tmp 97) (Operand.tmp 103) (Operand.const (Value.bool false)), type := 4, pos := "top.go:155", after := #[{ on := 6, ground := Ground.data }, { on := 12, ground := Ground.data }], guard := none }) (v := ?_) rfl (by kernel_rfl) (by kernel_rfl) (by kernel_rfl) (fun _ _ _ h => h) (Or.inl ⟨by rfl, ?_⟩) hHeld ?_
              rotate_left
              · (intro w hSw; (try dsimp only at hSw); go_simp; first | done | with_reducible rfl)
              simp only [Act.put, List.setIfInBounds_toArray, List.set_cons_zero, List.set_cons_succ]
              refine wpAnyH_take (i := 14) (oi := { dst := some 4, op := Op.assign (Operand.tmp 104), type := 4, pos := "top.go:155", after := #[{ on := 13, ground := Ground.data }, { on := 11, ground := Ground.chain }, { on := 0, ground := Ground.phase }, { on := 1, ground := Ground.phase }, { on := 2, ground := Ground.phase }, { on := 3, ground := Ground.phase }, { on := 4, ground := Ground.phase }, { on := 5, ground := Ground.phase }, { on := 6, ground := Ground.phase }, { on := 7, ground := Ground.phase }, { on := 8, ground := Ground.phase }, { on := 9, ground := Ground.phase }, { on := 10, ground := Ground.phase }, { on := 11, ground := Ground.phase }, { on := 12, ground := Ground.phase }, { on := 13, ground := Ground.phase }], guard := none }) (v := ?_) rfl (by kernel_rfl) (by kernel_rfl) (by kernel_rfl) (fun _ _ _ h => h) (Or.inl ⟨by rfl, ?_⟩) hHeld ?_
              rotate_left
              · (intro w hSw; (try dsimp only at hSw); go_simp; first | done | with_reducible rfl)
              simp only [Act.put, List.setIfInBounds_toArray, List.set_cons_zero, List.set_cons_succ]
              refine wpAnyH_done (by kernel_rfl) ?_ _
              clear hHeld
              go_wp2_with fail
              go_ret
              exact ⟨by simp, B13.out⟩
            | false =>
              go_wp2_with fail
              refine (find_any wr S' w1.heap.size gs L' a ha Tt.out).mono ?_
              rintro e w6 ⟨q, rfl, hF, b6⟩
              obtain ⟨q1, q2⟩ := All3.found HPs.out hF
              rw [hA] at q1 q2
              rw [if_neg (by simp)] at q1 q2
              rw [foundV_eq, q1, q2]
              generalize fN q a = xn
              have U6 := Lib.hid (Ts.out.below b6); have B6 := Lib.hid (Below.two HB.out b6)
              clear hF b6 q1 q2
              have b7 : Below w6.heap.size w6 (w6.alloc (.cells #[.int .u32 (xn.1 : Int), .int .i64 xn.2] 32)) := (Below.refl _ _).alloc (Nat.le_refl _) _
              go_wp2_with fail
              generalize w6.alloc (.cells #[.int .u32 (xn.1 : Int), .int .i64 xn.2] 32) = w7 at *
              have U7 := Lib.hid (U6.out.below b7); have B7 := Lib.hid (Below.two B6.out b7)
              clear b7 U6 B6
              refine (find_any w7 S w2.heap.size g L a ha U7.out).mono ?_
              rintro e w8 ⟨q', rfl, hF', b8⟩
              obtain ⟨q1, q2⟩ := All3.found HPl.out hF'
              rw [HCA.out] at q1 q2
              rw [hA] at q1 q2
              rw [if_neg (by simp)] at q1 q2
              rw [foundV_eq, q1, q2]
              generalize fN q' a = yn
              have B8 := Lib.hid (Below.two B7.out b8)
              clear hF' b8 q1 q2
              have b9 : Below w8.heap.size w8 (w8.alloc (.cells #[.int .u32 (yn.1 : Int), .int .i64 yn.2] 32)) := (Below.refl _ _).alloc (Nat.le_refl _) _
              go_wp2_with fail
              generalize w8.alloc (.cells #[.int .u32 (yn.1 : Int), .int .i64 yn.2] 32) = w9 at *
              have B9 := Lib.hid (Below.two B8.out b9)
              clear b9
              refine (sameTold_any _ _ w9 (HE.out.below (Below.two HW.out B9.out))).mono ?_
              rintro e w12 ⟨rfl, b12⟩
              rw [beq_self_eq_true]
              have B12 := Lib.hid (Below.two B9.out b12)
              clear b12
              rw [show errV 2 = .iface 29 (.int .i64 2) from rfl]
              go_wp2_with fail
              refine wp_region_held_drew (S := (fun _ => True)) (by kernel_rfl) trivial (fun hHeld => ?_)
              refine wpAnyH_take (i := 0) (oi := { dst := some 91, op := Op.move (Operand.tmp 17), type := 4, pos := "top.go:155", after := #[], guard := none }) (v := ?_) rfl (by kernel_rfl) (by kernel_rfl) (by kernel_rfl) (fun _ _ _ h => h) (Or.inl ⟨by rfl, ?_⟩) hHeld ?_
              rotate_left
              · (intro w hSw; (try dsimp only at hSw); go_simp; first | done | with_reducible rfl)
              simp only [Act.put, List.setIfInBounds_toArray, List.set_cons_zero, List.set_cons_succ]
              refine wpAnyH_take (i := 1) (oi := { dst := some 92, op := Op.move (Operand.tmp 91), type := 4, pos := "top.go:155", after := #[{ on := 0, ground := Ground.data }], guard := none }) (v := ?_) rfl (by kernel_rfl) (by kernel_rfl) (by kernel_rfl) (fun _ _ _ h => h) (Or.inl ⟨by rfl, ?_⟩) hHeld ?_
              rotate_left
              · (intro w hSw; (try dsimp only at hSw); go_simp; first | done | with_reducible rfl)
              simp only [Act.put, List.setIfInBounds_toArray, List.set_cons_zero, List.set_cons_succ]
              refine wpAnyH_take (i := 2) (oi := { dst := some 93, op := Op.move (Operand.tmp 12), type := 3, pos := "top.go:155", after := #[{ on := 1, ground := Ground.guard }], guard := some (1, true) }) (v := ?_) rfl (by kernel_rfl) (by kernel_rfl) (by kernel_rfl) (fun _ _ _ h => h) (Or.inl ⟨by rfl, ?_⟩) hHeld ?_
              rotate_left
              · (intro w hSw; (try dsimp only at hSw); go_simp; first | done | with_reducible rfl)
              simp only [Act.put, List.setIfInBounds_toArray, List.set_cons_zero, List.set_cons_succ]
              refine wpAnyH_take (i := 3) (oi := { dst := some 94, op := Op.move (Operand.tmp 15), type := 3, pos := "top.go:155", after := #[{ on := 1, ground := Ground.guard }], guard := some (1, true) }) (v := ?_) rfl (by kernel_rfl) (by kernel_rfl) (by kernel_rfl) (fun _ _ _ h => h) (Or.inl ⟨by rfl, ?_⟩) hHeld ?_
              rotate_left
              · (intro w hSw; (try dsimp only at hSw); go_simp; first | done | with_reducible rfl)
              simp only [Act.put, List.setIfInBounds_toArray, List.set_cons_zero, List.set_cons_succ]
              refine wpAnyH_take (i := 4) (oi := { dst := some 95, op := Op.binOp BinOp.eql 3 (Operand.tmp 93) (Operand.tmp 94) 3, type := 4, pos := "top.go:155", after := #[{ on := 2, ground := Ground.data }, { on := 3, ground := Ground.data }, { on := 1, ground := Ground.guard }], guard := some (1, true) }) (v := ?_) rfl (by kernel_rfl) (by kernel_rfl) (by kernel_rfl) (fun _ _ _ h => h) (Or.inl ⟨by rfl, ?_⟩) hHeld ?_
              rotate_left
              · (intro w hSw; (try dsimp only at hSw); go_simp; first | done | with_reducible rfl)
              simp only [Act.put, List.setIfInBounds_toArray, List.set_cons_zero, List.set_cons_succ]
              refine wpAnyH_take (i := 5) (oi := { dst := some 96, op := Op.pick (Operand.tmp 92) (Operand.tmp 95) (Operand.const (Value.bool false)), type := 4, pos := "top.go:155", after := #[{ on := 1, ground := Ground.data }, { on := 4, ground := Ground.data }], guard := none }) (v := ?_) rfl (by kernel_rfl) (by kernel_rfl) (by kernel_rfl) (fun _ _ _ h => h) (Or.inl ⟨by rfl, ?_⟩) hHeld ?_
              rotate_left
              · (intro w hSw; (try dsimp only at hSw); go_simp; first | done | with_reducible rfl)
              simp only [Act.put, List.setIfInBounds_toArray, List.set_cons_zero, List.set_cons_succ]
              refine wpAnyH_take (i := 6) (oi := { dst := some 97, op := Op.move (Operand.tmp 96), type := 4, pos := "top.go:155", after := #[{ on := 5, ground := Ground.data }, { on := 1, ground := Ground.chain }], guard := none }) (v := ?_) rfl (by kernel_rfl) (by kernel_rfl) (by kernel_rfl) (fun _ _ _ h => h) (Or.inl ⟨by rfl, ?_⟩) hHeld ?_
              rotate_left
              · (intro w hSw; (try dsimp only at hSw); go_simp; first | done | with_reducible rfl)
              simp only [Act.put, List.setIfInBounds_toArray, List.set_cons_zero, List.set_cons_succ]
              refine wpAnyH_take (i := 7) (oi := { dst := some 98, op := Op.move (Operand.tmp 13), type := 35, pos := "top.go:155", after := #[{ on := 6, ground := Ground.guard }], guard := some (6, true) }) (v := ?_) rfl (by kernel_rfl) (by kernel_rfl) (by kernel_rfl) (fun _ _ _ h => h) (Or.inl ⟨by rfl, ?_⟩) hHeld ?_
              rotate_left
              · (intro w hSw; (try dsimp only at hSw); go_simp; first | done | with_reducible rfl)
              simp only [Act.put, List.setIfInBounds_toArray, List.set_cons_zero, List.set_cons_succ]
              refine wpAnyH_take (i := 8) (oi := { dst := some 99, op := Op.binOp BinOp.eql 35 (Operand.tmp 98) (Operand.const Value.nilIface) 35, type := 4, pos := "top.go:155", after := #[{ on := 7, ground := Ground.data }, { on := 6, ground := Ground.guard }], guard := some (6, true) }) (v := ?_) rfl (by kernel_rfl) (by kernel_rfl) (by kernel_rfl) (fun _ _ _ h => h) (Or.inl ⟨by rfl, ?_⟩) hHeld ?_
              rotate_left
              · (intro w hSw; (try dsimp only at hSw); go_simp; first | done | with_reducible rfl)
              simp only [Act.put, List.setIfInBounds_toArray, List.set_cons_zero, List.set_cons_succ]
              refine wpAnyH_take (i := 9) (oi := { dst := some 100, op := Op.move (Operand.tmp 0), type := 22, pos := "top.go:155", after := #[{ on := 6, ground := Ground.guard }], guard := some (6, true) }) (v := ?_) rfl (by kernel_rfl) (by kernel_rfl) (by kernel_rfl) (fun _ _ _ h => h) (Or.inl ⟨by rfl, ?_⟩) hHeld ?_
              rotate_left
              · (intro w hSw; (try dsimp only at hSw); go_simp; first | done | with_reducible rfl)
              simp only [Act.put, List.setIfInBounds_toArray, List.set_cons_zero, List.set_cons_succ]
              refine wpAnyH_take (i := 10) (oi := { dst := some 101, op := Op.move (Operand.tmp 1), type := 24, pos := "top.go:155", after := #[{ on := 6, ground := Ground.guard }], guard := some (6, true) }) (v := ?_) rfl (by kernel_rfl) (by kernel_rfl) (by kernel_rfl) (fun _ _ _ h => h) (Or.inl ⟨by rfl, ?_⟩) hHeld ?_
              rotate_left
              · (intro w hSw; (try dsimp only at hSw); go_simp; first | done | with_reducible rfl)
              simp only [Act.put, List.setIfInBounds_toArray, List.set_cons_zero, List.set_cons_succ]
              refine wpAnyH_ready (rs := [11]) (by kernel_rfl) (by simp) ?_
              refine AllReadyH.cons (o := { dst := some 102, op := Op.call { callee := Callee.value (Operand.func 24), args := #[Operand.tmp 100, Operand.tmp 101], argTypes := #[22, 24] }, type := 4, pos := "top.go:155", after := #[{ on := 9, ground := Ground.data }, { on := 10, ground := Ground.data }, { on := 6, ground := Ground.chain }, { on := 6, ground := Ground.guard }], guard := some (6, true) }) rfl (fun K hK => ?_) AllReadyH.nil
              go_simp
              go_at_call 24
              refine (hasL_any w12.drew (.slice p l.length c) a l ha (by omega) ((HA.out.below B12.out).below (Below.refl _ _).drew)).mono ?_
              rintro e w13 ⟨rfl, b13⟩
              have B13 := Lib.hid (Below.two (Below.two HW.out B12.out) (((Below.refl _ _).drew).trans b13))
              rw [hA]
              have KK0 : True := trivial
              clear hHeld b13
              go_wp2_with fail
              refine hK.out _ _ KK0 (fun hHeld => ?_)
              clear hK K
              refine wpAnyH_take (i := 12) (oi := { dst := some 103, op := Op.binOp BinOp.eql 4 (Operand.tmp 99) (Operand.tmp 102) 4, type := 4, pos := "top.go:155", after := #[{ on := 8, ground := Ground.data }, { on := 11, ground := Ground.data }, { on := 6, ground := Ground.guard }], guard := some (6, true) }) (v := ?_) rfl (by kernel_rfl) (by kernel_rfl) (by kernel_rfl) (fun _ _ _ h => h) (Or.inl ⟨by rfl, ?_⟩) hHeld ?_
              rotate_left
              · (intro w hSw; (try dsimp only at hSw); go_simp; first | done | with_reducible rfl)
              simp only [Act.put, List.setIfInBounds_toArray, List.set_cons_zero, List.set_cons_succ]
              refine wpAnyH_take (i := 13) (oi := { dst := some 104, op := Op.pick (Operand.tmp 97) (Operand.tmp 103) (Operand.const (Value.bool false)), type := 4, pos := "top.go:155", after := #[{ on := 6, ground := Ground.data }, { on := 12, ground := Ground.data }], guard := none }) (v := ?_) rfl (by kernel_rfl) (by kernel_rfl) (by kernel_rfl) (fun _ _ _ h => h) (Or.inl ⟨by rfl, ?_⟩) hHeld ?_
              rotate_left
              · (intro w hSw; (try dsimp only at hSw); go_simp; first | done | with_reducible rfl)
              simp only [Act.put, List.setIfInBounds_toArray, List.set_cons_zero, List.set_cons_succ]
              refine wpAnyH_take (i := 14) (oi := { dst := some 4, op := Op.assign (Operand.tmp 104), type := 4, pos := "top.go:155", after := #[{ on := 13, ground := Ground.data }, { on := 11, ground := Ground.chain }, { on := 0, ground := Ground.phase }, { on := 1, ground := Ground.phase }, { on := 2, ground := Ground.phase }, { on := 3, ground := Ground.phase }, { on := 4, ground := Ground.phase }, { on := 5, ground := Ground.phase }, { on := 6, ground := Ground.phase }, { on := 7, ground := Ground.phase }, { on := 8, ground := Ground.phase }, { on := 9, ground := Ground.phase }, { on := 10, ground := Ground.phase }, { on := 11, ground := Ground.phase }, { on := 12, ground := Ground.phase }, { on := 13, ground := Ground.phase }], guard := none }) (v := ?_) rfl (by kernel_rfl) (by kernel_rfl) (by kernel_rfl) (fun _ _ _ h => h) (Or.inl ⟨by rfl, ?_⟩) hHeld ?_
              rotate_left
              · (intro w hSw; (try dsimp only at hSw); go_simp; first | done | with_reducible rfl)
              simp only [Act.put, List.setIfInBounds_toArray, List.set_cons_zero, List.set_cons_succ]
              refine wpAnyH_done (by kernel_rfl) ?_ _
              clear hHeld
              go_wp2_with fail
              go_ret
              exact ⟨by simp, B13.out⟩
  · have hE : errV (badL l) = .iface 29 (.int .i64 (badL l)) := if_neg hb
    rw [hE]
    have hcov : covE l = [] := if_neg hb
    rw [hcov] at HC0
    obtain ⟨pc, cc, rfl, _⟩ := HC0.out
    clear hE hcov hb
    go_wp2_with fail
    go_ret
    exact ⟨by simp, Below.two HW.out HB4.out⟩
end Go.Proofs.YtbdmfcnlfmnmdaaDoor
