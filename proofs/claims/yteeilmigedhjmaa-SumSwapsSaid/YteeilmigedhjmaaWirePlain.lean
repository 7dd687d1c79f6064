/-
  PLAIN FACTS on messages as bytes (of no program): which messages are right, their bytes, which bytes begin those of a message, the byte that goes on.
-/
import Derived.Test.YteeilmigedhjmaaPrefPlain
namespace Go.Proofs.Yteeilmigedhjmaa

/-- An entry: address, length, tag, hop, metric. -/
structure En where
  a : Nat
  n : Int
  t : Int
  h : Nat
  m : Int
instance : Inhabited En := ⟨⟨0, 0, 0, 0, 0⟩⟩
theorem En.same (x y : En) : x = y ↔ x.a = y.a ∧ x.n = y.n ∧ x.t = y.t ∧ x.h = y.h ∧ x.m = y.m := by
  constructor
  · intro h; subst h; exact ⟨rfl, rfl, rfl, rfl, rfl⟩
  · intro h
    obtain ⟨a, n, t, k, m⟩ := x
    obtain ⟨a', n', t', k', m'⟩ := y
    obtain ⟨h1, h2, h3, h4, h5⟩ := h
    simp only at h1 h2 h3 h4 h5
    subst h1; subst h2; subst h3; subst h4; subst h5; rfl
instance : DecidableEq En := fun x y => decidable_of_iff _ (En.same x y).symm

/-- The error of an entry; 0: it is right. -/
def En.chk (e : En) : Int := if PrefP.chk e.a e.n = 0 then (if e.t < 0 ∨ 65535 < e.t then 1 else if e.m < 1 ∨ 16 < e.m then 1 else 0) else PrefP.chk e.a e.n
/-- The error of the first entry that has one. -/
def WireP.chkL : List En → Int
  | [] => 0
  | e :: r => if e.chk = 0 then WireP.chkL r else e.chk
/-- The error of a message. -/
def WireP.chkM (l : List En) : Int := if 25 < l.length then 4 else WireP.chkL l

structure En.Good (e : En) : Prop where
  a : e.a < 4294967296
  n0 : 0 ≤ e.n
  n1 : e.n ≤ 32
  c : PrefP.cut e.a e.n.toNat = e.a
  t0 : 0 ≤ e.t
  t1 : e.t ≤ 65535
  h : e.h < 4294967296
  m0 : 1 ≤ e.m
  m1 : e.m ≤ 16
/-- What an entry's type lets it be. -/
def En.Fits (e : En) : Prop := e.a < 4294967296 ∧ e.h < 4294967296

theorem En.chk_zero (e : En) (hf : e.Fits) : e.chk = 0 ↔ e.Good := by
  unfold En.chk
  constructor
  · intro h
    by_cases hc : PrefP.chk e.a e.n = 0
    · rw [if_pos hc] at h
      by_cases ht : e.t < 0 ∨ 65535 < e.t
      · rw [if_pos ht] at h; simp at h
      · rw [if_neg ht] at h
        by_cases hm : e.m < 1 ∨ 16 < e.m
        · rw [if_pos hm] at h; simp at h
        · rcases PrefP.chk_cases e.a e.n with ⟨_, h1⟩ | ⟨n, _, _, _, h1⟩ | ⟨n, en, hn, hcut, _⟩
          · rw [h1] at hc; simp at hc
          · rw [h1] at hc; simp at hc
          · exact ⟨hf.1, by omega, by omega, by rw [en]; exact hcut, by omega, by omega, hf.2, by omega, by omega⟩
    · rw [if_neg hc] at h; exact absurd h hc
  · intro g
    have hc : PrefP.chk e.a e.n = 0 := by
      rcases PrefP.chk_cases e.a e.n with ⟨h1, _⟩ | ⟨n, en, hn, hcut, _⟩ | ⟨n, en, hn, hcut, h1⟩
      · have := g.n0; have := g.n1; omega
      · have := g.c; rw [en] at this; exact absurd this hcut
      · exact h1
    have := g.t0; have := g.t1; have := g.m0; have := g.m1
    rw [if_pos hc, if_neg (by omega), if_neg (by omega)]

theorem WireP.chkL_zero : ∀ l : List En, WireP.chkL l = 0 ↔ ∀ e ∈ l, e.chk = 0
  | [] => by simp [WireP.chkL]
  | e :: r => by
    rw [WireP.chkL]
    by_cases h : e.chk = 0
    · rw [if_pos h, WireP.chkL_zero r]; simp [h]
    · rw [if_neg h]; simp [h]

/-- A message's entries are right. -/
structure GoodM (l : List En) : Prop where
  few : l.length ≤ 25
  all : ∀ e ∈ l, e.Good
theorem GoodM.iff (l : List En) (hf : ∀ e ∈ l, e.Fits) : WireP.chkM l = 0 ↔ GoodM l := by
  unfold WireP.chkM
  by_cases h : 25 < l.length
  · rw [if_pos h]
    constructor
    · intro h; simp at h
    · intro g; have := g.few; omega
  · rw [if_neg h, WireP.chkL_zero]
    constructor
    · intro k; exact ⟨by omega, fun e he => (En.chk_zero e (hf e he)).1 (k e he)⟩
    · intro g e he; exact (En.chk_zero e (hf e he)).2 (g.all e he)
theorem GoodM.fits {l : List En} (g : GoodM l) : ∀ e ∈ l, e.Fits := fun e he => ⟨(g.all e he).a, (g.all e he).h⟩
theorem GoodM.take {l : List En} (g : GoodM l) (q : Nat) : GoodM (l.take q) :=
  ⟨by rw [List.length_take]; have := g.few; omega, fun e he => g.all e (List.mem_of_mem_take he)⟩
theorem GoodM.nil : GoodM [] := ⟨by simp, by simp⟩

/-- Four bytes of a number. -/
def four (n : Nat) : List Nat := [n / 16777216 % 256, n / 65536 % 256, n / 256 % 256, n % 256]
/-- The bytes of an entry. -/
def encE (e : En) : List Nat := [0, 2, e.t.toNat / 256, e.t.toNat % 256] ++ four e.a ++ four (MaskP.mk e.n.toNat) ++ four e.h ++ four e.m.toNat
theorem encE_eq (e : En) : encE e = [0, 2, e.t.toNat / 256, e.t.toNat % 256, e.a / 16777216 % 256, e.a / 65536 % 256, e.a / 256 % 256, e.a % 256, MaskP.mk e.n.toNat / 16777216 % 256, MaskP.mk e.n.toNat / 65536 % 256, MaskP.mk e.n.toNat / 256 % 256, MaskP.mk e.n.toNat % 256, e.h / 16777216 % 256, e.h / 65536 % 256, e.h / 256 % 256, e.h % 256, e.m.toNat / 16777216 % 256, e.m.toNat / 65536 % 256, e.m.toNat / 256 % 256, e.m.toNat % 256] := rfl
theorem encE_len (e : En) : (encE e).length = 20 := by rw [encE_eq]; rfl
def encL : List En → List Nat
  | [] => []
  | e :: r => encE e ++ encL r
theorem encL_len : ∀ l : List En, (encL l).length = 20 * l.length
  | [] => rfl
  | e :: r => by rw [encL, List.length_append, encE_len, encL_len r, List.length_cons]; omega
theorem encL_app : ∀ l m : List En, encL (l ++ m) = encL l ++ encL m
  | [], _ => rfl
  | e :: r, m => by rw [List.cons_append, encL, encL, encL_app r m, List.append_assoc]
/-- The bytes of a message. -/
def hd (ask : Bool) : List Nat := [if ask then 1 else 2, 2, 0, 0]
def enc (ask : Bool) (l : List En) : List Nat := hd ask ++ encL l
theorem hd_len (ask : Bool) : (hd ask).length = 4 := rfl
theorem enc_len (ask : Bool) (l : List En) : (enc ask l).length = 4 + 20 * l.length := by
  unfold enc; rw [List.length_append, encL_len, hd_len]
theorem enc_app (ask : Bool) (l m : List En) : enc ask (l ++ m) = enc ask l ++ encL m := by
  unfold enc; rw [encL_app, List.append_assoc]

theorem encL_take : ∀ (l : List En) (q j : Nat), q < l.length → j ≤ 20 → (encL l).take (20 * q + j) = encL (l.take q) ++ (encE l[q]!).take j
  | e :: r, 0, j, _, hj => by
    rw [encL, List.take_append_of_le_length (by rw [encE_len]; omega)]
    simp [encL]
  | e :: r, q + 1, j, hq, hj => by
    have ih := encL_take r q j (by simpa using hq) hj
    rw [encL, List.take_append, encE_len, List.take_of_length_le (by rw [encE_len]; omega), show 20 * (q + 1) + j - 20 = 20 * q + j by omega, ih, List.take_succ_cons, encL, List.append_assoc]
    simp
theorem encL_drop : ∀ (l : List En) (q : Nat), q < l.length → ((encL l).drop (20 * q)).take 20 = encE l[q]!
  | e :: r, 0, _ => by
    rw [encL, Nat.mul_zero, List.drop_zero, List.take_append_of_le_length (by rw [encE_len]; omega), List.take_of_length_le (by rw [encE_len]; omega)]
    simp
  | e :: r, q + 1, hq => by
    have ih := encL_drop r q (by simpa using hq)
    rw [encL, List.drop_append, encE_len, List.drop_eq_nil_of_le (by rw [encE_len]; omega), show 20 * (q + 1) - 20 = 20 * q by omega, List.nil_append, ih]
    simp
theorem enc_take (ask : Bool) (l : List En) (q j : Nat) (hq : q < l.length) (hj : j ≤ 20) : (enc ask l).take (4 + 20 * q + j) = enc ask (l.take q) ++ (encE l[q]!).take j := by
  unfold enc
  rw [List.take_append, hd_len, List.take_of_length_le (by rw [hd_len]; omega), show 4 + 20 * q + j - 4 = 20 * q + j by omega, encL_take l q j hq hj, List.append_assoc]
theorem enc_take0 (ask : Bool) (l : List En) (q : Nat) : (enc ask l).take (4 + 20 * q) = enc ask (l.take q) := by
  by_cases hq : q < l.length
  · have := enc_take ask l q 0 hq (by omega)
    simpa using this
  · rw [List.take_of_length_le (by rw [enc_len]; omega), List.take_of_length_le (by omega)]
theorem enc_drop (ask : Bool) (l : List En) (q : Nat) (hq : q < l.length) : ((enc ask l).drop (4 + 20 * q)).take 20 = encE l[q]! := by
  unfold enc
  rw [List.drop_append, hd_len, List.drop_eq_nil_of_le (by rw [hd_len]; omega), show 4 + 20 * q - 4 = 20 * q by omega, List.nil_append, encL_drop l q hq]

/-! ### The bytes that begin a message's -/
def IsEnc (b : List Nat) : Prop := ∃ ask l, GoodM l ∧ b = enc ask l
def Pre (b : List Nat) : Prop := ∃ ask l, GoodM l ∧ b <+: enc ask l
def PreE (b : List Nat) : Prop := ∃ e : En, e.Good ∧ b <+: encE e
def Done (b : List Nat) : Prop := 4 ≤ b.length ∧ (b.length - 4) % 20 = 0
/-- The byte that goes on within an entry, behind j bytes, the last of them x. -/
def nxtE (j x : Nat) : Nat := if j = 1 then 2 else if j = 8 then 255 else if (j = 9 ∨ j = 10 ∨ j = 11) ∧ x = 255 then 255 else if j = 19 then 1 else 0
def nxt (b : List Nat) : Nat := if b.length < 4 then [2, 2, 0, 0][b.length]! else nxtE ((b.length - 4) % 20) b[b.length - 1]!

theorem IsEnc.pre {b : List Nat} (h : IsEnc b) : Pre b := by
  obtain ⟨ask, l, g, rfl⟩ := h
  exact ⟨ask, l, g, List.prefix_refl _⟩
theorem Pre.back {b s : List Nat} (h : Pre (b ++ s)) : Pre b := by
  obtain ⟨ask, l, g, h⟩ := h
  exact ⟨ask, l, g, (List.prefix_append b s).trans h⟩
theorem Pre.done {b : List Nat} (h : Pre b) (hd : Done b) : IsEnc b := by
  obtain ⟨ask, l, g, h⟩ := h
  have e := List.prefix_iff_eq_take.1 h
  obtain ⟨h4, h20⟩ := hd
  have hl : b.length = 4 + 20 * ((b.length - 4) / 20) := by omega
  rw [hl, enc_take0] at e
  exact ⟨ask, _, g.take _, e⟩
theorem IsEnc.done {b : List Nat} (h : IsEnc b) : Done b := by
  obtain ⟨ask, l, g, rfl⟩ := h
  unfold Done
  rw [enc_len]
  omega

theorem mk32 : MaskP.mk 32 = 4294967295 := by decide +kernel
theorem mk_bytes (n : Nat) (h : n ≤ 32) :
    (MaskP.mk n / 16777216 % 256 ≠ 255 → MaskP.mk n / 65536 % 256 = 0) ∧ (MaskP.mk n / 65536 % 256 = 255 → MaskP.mk n / 16777216 % 256 = 255) ∧ (MaskP.mk n / 65536 % 256 ≠ 255 → MaskP.mk n / 256 % 256 = 0) ∧
    (MaskP.mk n / 256 % 256 = 255 → MaskP.mk n / 16777216 % 256 = 255 ∧ MaskP.mk n / 65536 % 256 = 255) ∧ (MaskP.mk n / 256 % 256 ≠ 255 → MaskP.mk n % 256 = 0) :=
  MaskP.upto32 (P := fun n => (MaskP.mk n / 16777216 % 256 ≠ 255 → MaskP.mk n / 65536 % 256 = 0) ∧ (MaskP.mk n / 65536 % 256 = 255 → MaskP.mk n / 16777216 % 256 = 255) ∧ (MaskP.mk n / 65536 % 256 ≠ 255 → MaskP.mk n / 256 % 256 = 0) ∧
    (MaskP.mk n / 256 % 256 = 255 → MaskP.mk n / 16777216 % 256 = 255 ∧ MaskP.mk n / 65536 % 256 = 255) ∧ (MaskP.mk n / 256 % 256 ≠ 255 → MaskP.mk n % 256 = 0)) (by decide +kernel) n h

theorem En.Good.tag {e : En} (g : e.Good) (t : Nat) (h : t ≤ 65535) : (⟨e.a, e.n, t, e.h, e.m⟩ : En).Good := ⟨g.a, g.n0, g.n1, g.c, by simp only; omega, by simp only; omega, g.h, g.m0, g.m1⟩
theorem En.Good.addr {e : En} (g : e.Good) (a : Nat) (h : a < 4294967296) : (⟨a, 32, e.t, e.h, e.m⟩ : En).Good := ⟨h, by simp only; omega, by simp only; omega, PrefP.cut_all a h, g.t0, g.t1, g.h, g.m0, g.m1⟩
theorem En.Good.hop {e : En} (g : e.Good) (k : Nat) (h : k < 4294967296) : (⟨e.a, e.n, e.t, k, e.m⟩ : En).Good := ⟨g.a, g.n0, g.n1, g.c, g.t0, g.t1, h, g.m0, g.m1⟩
theorem En.Good.met {e : En} (g : e.Good) (k : Nat) (h : 1 ≤ k) (h' : k ≤ 16) : (⟨e.a, e.n, e.t, e.h, k⟩ : En).Good := ⟨g.a, g.n0, g.n1, g.c, g.t0, g.t1, g.h, by simp only; omega, by simp only; omega⟩

/-- Within an entry the next byte goes on. -/
theorem En.Good.step {e : En} (g : e.Good) (j : Nat) (h0 : 0 < j) (h1 : j < 20) : ∃ e' : En, e'.Good ∧ (encE e').take (j + 1) = (encE e).take j ++ [nxtE j (encE e)[j - 1]!] := by
  have hn : e.n.toNat ≤ 32 := by have := g.n1; omega
  have hb := mk_bytes _ hn
  have ha := g.a; have hh := g.h; have t0 := g.t0; have t1 := g.t1; have m0 := g.m0; have m1 := g.m1
  match j, h0, h1 with
  | 1, _, _ => exact ⟨e, g, rfl⟩
  | 2, _, _ =>
    refine ⟨_, g.tag 0 (by omega), ?_⟩
    simp only [encE_eq, nxtE, List.take_succ_cons, List.take_zero, List.cons_append, List.nil_append]
    simp
  | 3, _, _ =>
    refine ⟨_, g.tag (e.t.toNat / 256 * 256) (by omega), ?_⟩
    simp only [encE_eq, nxtE, List.take_succ_cons, List.take_zero, List.cons_append, List.nil_append]
    simp; omega
  | 4, _, _ =>
    refine ⟨_, g.addr 0 (by omega), ?_⟩
    simp only [encE_eq, nxtE, List.take_succ_cons, List.take_zero, List.cons_append, List.nil_append]
    simp
  | 5, _, _ =>
    refine ⟨_, g.addr (e.a / 16777216 * 16777216) (by omega), ?_⟩
    simp only [encE_eq, nxtE, List.take_succ_cons, List.take_zero, List.cons_append, List.nil_append]
    simp; omega
  | 6, _, _ =>
    refine ⟨_, g.addr (e.a / 65536 * 65536) (by omega), ?_⟩
    simp only [encE_eq, nxtE, List.take_succ_cons, List.take_zero, List.cons_append, List.nil_append]
    simp; omega
  | 7, _, _ =>
    refine ⟨_, g.addr (e.a / 256 * 256) (by omega), ?_⟩
    simp only [encE_eq, nxtE, List.take_succ_cons, List.take_zero, List.cons_append, List.nil_append]
    simp; omega
  | 8, _, _ =>
    refine ⟨_, g.addr e.a ha, ?_⟩
    simp only [encE_eq, nxtE, List.take_succ_cons, List.take_zero, List.cons_append, List.nil_append]
    simp [mk32]
  | 9, _, _ =>
    by_cases hx : MaskP.mk e.n.toNat / 16777216 % 256 = 255
    · refine ⟨_, g.addr e.a ha, ?_⟩
      simp only [encE_eq, nxtE, List.take_succ_cons, List.take_zero, List.cons_append, List.nil_append]
      simp [hx, mk32]
    · refine ⟨e, g, ?_⟩
      simp only [encE_eq, nxtE, List.take_succ_cons, List.take_zero, List.cons_append, List.nil_append]
      simp [hx, hb.1 hx]
  | 10, _, _ =>
    by_cases hx : MaskP.mk e.n.toNat / 65536 % 256 = 255
    · refine ⟨_, g.addr e.a ha, ?_⟩
      simp only [encE_eq, nxtE, List.take_succ_cons, List.take_zero, List.cons_append, List.nil_append]
      simp [hx, mk32, hb.2.1 hx]
    · refine ⟨e, g, ?_⟩
      simp only [encE_eq, nxtE, List.take_succ_cons, List.take_zero, List.cons_append, List.nil_append]
      simp [hx, hb.2.2.1 hx]
  | 11, _, _ =>
    by_cases hx : MaskP.mk e.n.toNat / 256 % 256 = 255
    · refine ⟨_, g.addr e.a ha, ?_⟩
      simp only [encE_eq, nxtE, List.take_succ_cons, List.take_zero, List.cons_append, List.nil_append]
      simp [hx, mk32, (hb.2.2.2.1 hx).1, (hb.2.2.2.1 hx).2]
    · refine ⟨e, g, ?_⟩
      simp only [encE_eq, nxtE, List.take_succ_cons, List.take_zero, List.cons_append, List.nil_append]
      simp [hx, hb.2.2.2.2 hx]
  | 12, _, _ =>
    refine ⟨_, g.hop 0 (by omega), ?_⟩
    simp only [encE_eq, nxtE, List.take_succ_cons, List.take_zero, List.cons_append, List.nil_append]
    simp
  | 13, _, _ =>
    refine ⟨_, g.hop (e.h / 16777216 * 16777216) (by omega), ?_⟩
    simp only [encE_eq, nxtE, List.take_succ_cons, List.take_zero, List.cons_append, List.nil_append]
    simp; omega
  | 14, _, _ =>
    refine ⟨_, g.hop (e.h / 65536 * 65536) (by omega), ?_⟩
    simp only [encE_eq, nxtE, List.take_succ_cons, List.take_zero, List.cons_append, List.nil_append]
    simp; omega
  | 15, _, _ =>
    refine ⟨_, g.hop (e.h / 256 * 256) (by omega), ?_⟩
    simp only [encE_eq, nxtE, List.take_succ_cons, List.take_zero, List.cons_append, List.nil_append]
    simp; omega
  | 16, _, _ =>
    refine ⟨e, g, ?_⟩
    simp only [encE_eq, nxtE, List.take_succ_cons, List.take_zero, List.cons_append, List.nil_append]
    simp; omega
  | 17, _, _ =>
    refine ⟨e, g, ?_⟩
    simp only [encE_eq, nxtE, List.take_succ_cons, List.take_zero, List.cons_append, List.nil_append]
    simp; omega
  | 18, _, _ =>
    refine ⟨e, g, ?_⟩
    simp only [encE_eq, nxtE, List.take_succ_cons, List.take_zero, List.cons_append, List.nil_append]
    simp; omega
  | 19, _, _ =>
    refine ⟨_, g.met 1 (by omega) (by omega), ?_⟩
    simp only [encE_eq, nxtE, List.take_succ_cons, List.take_zero, List.cons_append, List.nil_append]
    simp; omega
  | j + 20, _, h => omega

/-- The next byte goes on, where bytes begin a message's and end within its head or an entry. -/
theorem Pre.step {b : List Nat} (h : Pre b) (hd0 : ¬ Done b) : Pre (b ++ [nxt b]) := by
  obtain ⟨ask, l, g, h⟩ := h
  have e := List.prefix_iff_eq_take.1 h
  have hle := h.length_le
  rw [enc_len] at hle
  by_cases h4 : b.length < 4
  · have hn : nxt b = [2, 2, 0, 0][b.length]! := if_pos h4
    rw [hn]
    generalize b.length = k at *
    match k, h4 with
    | 0, _ => exact ⟨false, [], GoodM.nil, by rw [e]; exact ⟨[2, 0, 0], rfl⟩⟩
    | 1, _ => exact ⟨ask, [], GoodM.nil, by rw [e]; exact ⟨[0, 0], rfl⟩⟩
    | 2, _ => exact ⟨ask, [], GoodM.nil, by rw [e]; exact ⟨[0], rfl⟩⟩
    | 3, _ => exact ⟨ask, [], GoodM.nil, by rw [e]; exact ⟨[], rfl⟩⟩
  · have hn : nxt b = nxtE ((b.length - 4) % 20) b[b.length - 1]! := if_neg h4
    have hj : 0 < (b.length - 4) % 20 := Nat.pos_of_ne_zero fun h => hd0 ⟨by omega, h⟩
    have hj2 : (b.length - 4) % 20 < 20 := Nat.mod_lt _ (by omega)
    have hq : (b.length - 4) / 20 < l.length := by omega
    have hb : b.length = 4 + 20 * ((b.length - 4) / 20) + (b.length - 4) % 20 := by omega
    generalize (b.length - 4) % 20 = j at *
    generalize (b.length - 4) / 20 = q at *
    rw [hb, enc_take ask l q j hq (by omega)] at e
    have gq : (l[q]!).Good := g.all _ (by rw [getElem!_pos l q hq]; exact List.getElem_mem hq)
    have hlt : (l.take q).length = q := by rw [List.length_take]; omega
    have hlast : b[b.length - 1]! = (encE l[q]!)[j - 1]! := by
      have hl1 : b.length - 1 < b.length := by omega
      have hj1 : j - 1 < (encE l[q]!).length := by rw [encE_len]; omega
      rw [getElem!_pos b _ hl1, getElem!_pos (encE l[q]!) (j - 1) hj1]
      have e2 : b[b.length - 1]? = (encE l[q]!)[j - 1]? := by
        rw [hb]
        conv => lhs; rw [e]
        rw [List.getElem?_append_right (by rw [enc_len, hlt]; omega), enc_len, hlt, show 4 + 20 * q + j - 1 - (4 + 20 * q) = j - 1 by omega, List.getElem?_take_of_lt (by omega)]
      rw [List.getElem?_eq_getElem hl1, List.getElem?_eq_getElem hj1] at e2
      exact Option.some.inj e2
    obtain ⟨e', g', h'⟩ := gq.step j hj hj2
    rw [hn, hlast]
    refine ⟨ask, l.take q ++ [e'], ⟨?_, ?_⟩, ?_⟩
    · have := g.few
      rw [List.length_append, hlt]; simp; omega
    · intro x hx
      rcases List.mem_append.1 hx with hx | hx
      · exact g.all x (List.mem_of_mem_take hx)
      · rw [List.mem_singleton.1 hx]; exact g'
    · rw [enc_app, e, List.append_assoc, ← h']
      show _ <+: enc ask (l.take q) ++ (encE e' ++ [])
      rw [List.append_nil]
      exact (List.prefix_append_right_inj _).2 (List.take_prefix _ _)

/-! ### Bytes read -/
def num (c : List Nat) : Nat := c.foldl (fun n x => n * 256 + x) 0
def rdE (c : List Nat) : Option En := (MaskP.len (num ((c.drop 8).take 4))).map fun n => ⟨num ((c.drop 4).take 4), n, num ((c.drop 2).take 2), num ((c.drop 12).take 4), num ((c.drop 16).take 4)⟩
theorem num_four (n : Nat) (h : n < 4294967296) : num (four n) = n := by
  simp only [num, four, List.foldl_cons, List.foldl_nil]
  omega
theorem rd_enc (e : En) (g : e.Good) : rdE (encE e) = some e := by
  have hn : e.n.toNat ≤ 32 := by have := g.n1; omega
  have e1 : num (((encE e).drop 8).take 4) = MaskP.mk e.n.toNat := num_four _ (MaskP.lt _)
  have e2 : num (((encE e).drop 4).take 4) = e.a := num_four _ g.a
  have e3 : num (((encE e).drop 2).take 2) = e.t.toNat := by
    show num [e.t.toNat / 256, e.t.toNat % 256] = _
    simp only [num, List.foldl_cons, List.foldl_nil]
    omega
  have e4 : num (((encE e).drop 12).take 4) = e.h := num_four _ g.h
  have e5 : num (((encE e).drop 16).take 4) = e.m.toNat := num_four _ (by have := g.m1; omega)
  unfold rdE
  rw [e1, MaskP.len_mk _ hn, e2, e3, e4, e5]
  have := g.n0; have := g.t0; have := g.m0
  show some (⟨e.a, (e.n.toNat : Int), (e.t.toNat : Int), e.h, (e.m.toNat : Int)⟩ : En) = some e
  refine congrArg some ((En.same _ _).2 ⟨rfl, ?_, ?_, rfl, ?_⟩) <;> simp only <;> omega
theorem enc_inj {ask ask' : Bool} {l l' : List En} (g : GoodM l) (g' : GoodM l') (h : enc ask l = enc ask' l') : ask = ask' ∧ l = l' := by
  have hl : l.length = l'.length := by
    have := congrArg List.length h
    rw [enc_len, enc_len] at this
    omega
  constructor
  · have : (enc ask l)[0]! = (enc ask' l')[0]! := by rw [h]
    simp only [enc, hd, List.cons_append, List.getElem!_cons_zero] at this
    cases ask <;> cases ask' <;> simp_all
  · refine List.ext_getElem hl fun i h1 h2 => ?_
    have := enc_drop ask l i h1
    rw [h, enc_drop ask' l' i h2, getElem!_pos l i h1, getElem!_pos l' i h2] at this
    have r1 := rd_enc _ (g.all _ (List.getElem_mem h1))
    rw [← this, rd_enc _ (g'.all _ (List.getElem_mem h2))] at r1
    exact (Option.some.inj r1).symm

/-- What bytes are: a message's; the beginning of one's; neither. k: the error. -/
def DecIs (b : List Nat) (ask : Bool) (l : List En) (k : Int) : Prop :=
  (k = 0 ∧ GoodM l ∧ b = enc ask l) ∨ (k = 6 ∧ ask = false ∧ l = [] ∧ Pre b ∧ ¬ IsEnc b) ∨ (k = 3 ∧ ask = false ∧ l = [] ∧ ¬ Pre b)
theorem DecIs.of_enc {b : List Nat} {ask ask' : Bool} {l l' : List En} {k : Int} (h : DecIs b ask l k) (g : GoodM l') (e : b = enc ask' l') : k = 0 ∧ ask = ask' ∧ l = l' := by
  rcases h with ⟨hk, g1, e1⟩ | ⟨_, _, _, _, hn⟩ | ⟨_, _, _, hn⟩
  · have := enc_inj g1 g (e1.symm.trans e)
    exact ⟨hk, this.1, this.2⟩
  · exact absurd ⟨ask', l', g, e⟩ hn
  · exact absurd (IsEnc.pre ⟨ask', l', g, e⟩) hn
theorem DecIs.only {b : List Nat} {ask ask' : Bool} {l l' : List En} {k k' : Int} (h : DecIs b ask l k) (h' : DecIs b ask' l' k') : k = k' ∧ ask = ask' ∧ l = l' := by
  rcases h' with ⟨hk, g1, e1⟩ | ⟨rfl, rfl, rfl, hp, hn⟩ | ⟨rfl, rfl, rfl, hn⟩
  · have := h.of_enc g1 e1
    exact ⟨this.1.trans hk.symm, this.2⟩
  · rcases h with ⟨_, g1, e1⟩ | ⟨rfl, rfl, rfl, _⟩ | ⟨_, _, _, h⟩
    · exact absurd ⟨_, _, g1, e1⟩ hn
    · exact ⟨rfl, rfl, rfl⟩
    · exact absurd hp h
  · rcases h with ⟨_, g1, e1⟩ | ⟨_, _, _, h, _⟩ | ⟨rfl, rfl, rfl, h⟩
    · exact absurd (IsEnc.pre ⟨_, _, g1, e1⟩) hn
    · exact absurd h hn
    · exact ⟨rfl, rfl, rfl⟩
theorem DecIs.fits {b : List Nat} {ask : Bool} {l : List En} {k : Int} (h : DecIs b ask l k) : l.length ≤ 25 ∧ ∀ e ∈ l, e.Fits := by
  rcases h with ⟨_, g, _⟩ | ⟨_, _, rfl, _⟩ | ⟨_, _, rfl, _⟩
  · exact ⟨g.few, g.fits⟩
  · simp
  · simp

/-! ### Each byte is one -/
def Byt (l : List Nat) : Prop := ∀ x ∈ l, x < 256
theorem Byt.app {l m : List Nat} (h : Byt l) (k : Byt m) : Byt (l ++ m) := fun x hx => by
  rcases List.mem_append.1 hx with hx | hx
  · exact h x hx
  · exact k x hx
theorem Byt.four (n : Nat) : Byt (four n) := by
  intro x hx
  simp only [Proofs.Yteeilmigedhjmaa.four, List.mem_cons, List.not_mem_nil, or_false] at hx
  omega
theorem Byt.encE {e : En} (g : e.Good) : Byt (encE e) := by
  have := g.t1
  refine Byt.app (Byt.app (Byt.app (Byt.app ?_ (Byt.four _)) (Byt.four _)) (Byt.four _)) (Byt.four _)
  intro x hx
  simp only [List.mem_cons, List.not_mem_nil, or_false] at hx
  omega
theorem Byt.nxtE (j x : Nat) : nxtE j x < 256 := by
  unfold Proofs.Yteeilmigedhjmaa.nxtE
  split
  · omega
  · split
    · omega
    · split
      · omega
      · split <;> omega
end Go.Proofs.Yteeilmigedhjmaa
