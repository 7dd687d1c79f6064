/-
  PLAIN FACTS on the document's own reading of messages (of no program): twenty bytes that are an entry's, bytes that begin one.
-/
import Derived.Test.YtlgkjbkbdmneaaaDoorWireRead
import Derived.Test.YtlgkjbkbdmneaaaDoorNetPlain
namespace Go.Proofs.YtlgkjbkbdmneaaaDoor

def IsE (c : List Nat) : Prop := ∃ e : En, e.Good ∧ c = encE e
theorem twenty_of {α : Type} : ∀ {l : List α}, l.length = 20 → ∃ a b c d e f g h i j k m n o p q r s t u, l = [a, b, c, d, e, f, g, h, i, j, k, m, n, o, p, q, r, s, t, u]
  | [a, b, c, d, e, f, g, h, i, j, k, m, n, o, p, q, r, s, t, u], _ => ⟨a, b, c, d, e, f, g, h, i, j, k, m, n, o, p, q, r, s, t, u, rfl⟩
theorem four_num (a b c d : Nat) (ha : a < 256) (hb : b < 256) (hc : c < 256) (hd : d < 256) : four (num [a, b, c, d]) = [a, b, c, d] := by
  have e : num [a, b, c, d] = ((a * 256 + b) * 256 + c) * 256 + d := by simp [num]
  rw [e]
  unfold four
  congr 1
  · omega
  · congr 1
    · omega
    · congr 1
      · omega
      · congr 1; omega
theorem num_four_lt (a b c d : Nat) (ha : a < 256) (hb : b < 256) (hc : c < 256) (hd : d < 256) : num [a, b, c, d] < 4294967296 := by
  have e : num [a, b, c, d] = ((a * 256 + b) * 256 + c) * 256 + d := by simp [num]
  rw [e]; omega

/-- The entry that twenty bytes tell, with a length. -/
def entOf (l : List Nat) (k : Nat) : En := ⟨num ((l.drop 4).take 4), k, ((l[2]! * 256 + l[3]! : Nat) : Int), num ((l.drop 12).take 4), num ((l.drop 16).take 4)⟩
/-- What is asked of them. -/
structure EntOk (l : List Nat) (k : Nat) : Prop where
  b0 : l[0]! = 0
  b1 : l[1]! = 2
  mq : MaskP.mk k = num ((l.drop 8).take 4)
  ck : PrefP.chk (num ((l.drop 4).take 4)) (k : Int) = 0
  m0 : 1 ≤ num ((l.drop 16).take 4)
  m1 : num ((l.drop 16).take 4) ≤ 16
theorem EntOk.good {l : List Nat} {k : Nat} (h : EntOk l k) (hl : l.length = 20) (hb : Byt l) (hk : k ≤ 32) : (entOf l k).Good ∧ l = encE (entOf l k) := by
  obtain ⟨h0, h1, h2, h3, h4, h5⟩ := h
  obtain ⟨a, b, c, d, e, f, g, i, x8, x9, x10, x11, x12, x13, x14, x15, x16, x17, x18, x19, rfl⟩ := twenty_of hl
  have hB : ∀ x ∈ ([a, b, c, d, e, f, g, i, x8, x9, x10, x11, x12, x13, x14, x15, x16, x17, x18, x19] : List Nat), x < 256 := hb
  simp only [List.mem_cons, List.not_mem_nil, or_false, forall_eq_or_imp, forall_eq] at hB
  obtain ⟨q0, q1, q2, q3, q4, q5, q6, q7, q8, q9, q10, q11, q12, q13, q14, q15, q16, q17, q18, q19⟩ := hB
  simp only [List.getElem!_cons_zero, List.getElem!_cons_succ, List.drop_succ_cons, List.drop_zero, List.take_succ_cons, List.take_zero] at h0 h1 h2 h3 h4 h5
  subst h0 h1
  obtain ⟨n, en, hn, hc⟩ := PrefP.chk_zero _ _ h3
  have en' : n = k := by omega
  subst en'
  constructor
  · refine ⟨num_four_lt _ _ _ _ q4 q5 q6 q7, by simp only [entOf]; omega, by simp only [entOf]; omega, ?_, by simp only [entOf]; omega, ?_, num_four_lt _ _ _ _ q12 q13 q14 q15, ?_, ?_⟩
    · show PrefP.cut (num [e, f, g, i]) (n : Int).toNat = num [e, f, g, i]
      rw [Int.toNat_natCast]; exact hc
    · show ((c * 256 + d : Nat) : Int) ≤ 65535
      omega
    · show (1 : Int) ≤ (num [x16, x17, x18, x19] : Int)
      omega
    · show (num [x16, x17, x18, x19] : Int) ≤ 16
      omega
  · show _ = [0, 2, ((c * 256 + d : Nat) : Int).toNat / 256, ((c * 256 + d : Nat) : Int).toNat % 256] ++ four (num [e, f, g, i]) ++ four (MaskP.mk (n : Int).toNat) ++ four (num [x12, x13, x14, x15]) ++ four (num [x16, x17, x18, x19] : Int).toNat
    rw [Int.toNat_natCast, Int.toNat_natCast, Int.toNat_natCast, h2, four_num _ _ _ _ q4 q5 q6 q7, four_num _ _ _ _ q8 q9 q10 q11, four_num _ _ _ _ q12 q13 q14 q15, four_num _ _ _ _ q16 q17 q18 q19, show (c * 256 + d) / 256 = c by omega, show (c * 256 + d) % 256 = d by omega]
    rfl
theorem EntOk.of {e : En} (g : e.Good) : EntOk (encE e) e.n.toNat ∧ entOf (encE e) e.n.toNat = e := by
  have hn : e.n.toNat ≤ 32 := by have := g.n1; omega
  have e1 : num (((encE e).drop 8).take 4) = MaskP.mk e.n.toNat := num_four _ (MaskP.lt _)
  have e2 : num (((encE e).drop 4).take 4) = e.a := num_four _ g.a
  have e4 : num (((encE e).drop 12).take 4) = e.h := num_four _ g.h
  have e5 : num (((encE e).drop 16).take 4) = e.m.toNat := num_four _ (by have := g.m1; omega)
  have t1 : (encE e)[2]! = e.t.toNat / 256 := rfl
  have t2 : (encE e)[3]! = e.t.toNat % 256 := rfl
  have m0 := g.m0; have m1 := g.m1; have n0 := g.n0; have t0 := g.t0
  constructor
  · refine ⟨rfl, rfl, e1.symm, ?_, by rw [e5]; omega, by rw [e5]; omega⟩
    rw [e2]
    exact PrefP.chk_ok e.a e.n.toNat hn g.c
  · unfold entOf
    rw [e2, e4, e5, t1, t2]
    exact (En.same _ _).2 ⟨rfl, by simp only; omega, by simp only; omega, rfl, by simp only; omega⟩

def EntIs (l : List Nat) (e : En) (is : Bool) : Prop := (is = true ∧ e.Good ∧ l = encE e) ∨ (is = false ∧ ¬ IsE l)
/-- The first length whose mask the bytes are, or 32. -/
def Found (l : List Nat) (k : Nat) : Prop := k ≤ 32 ∧ (∀ j, j < k → MaskP.mk j ≠ num ((l.drop 8).take 4)) ∧ (k = 32 ∨ MaskP.mk k = num ((l.drop 8).take 4))
theorem Found.is {l : List Nat} {k : Nat} {is : Bool} (h : Found l k) (hl : l.length = 20) (hb : Byt l) (hi : is = true ↔ EntOk l k) : EntIs l (entOf l k) is := by
  cases is with
  | true => exact Or.inl ⟨rfl, (hi.1 rfl).good hl hb h.1⟩
  | false =>
    refine Or.inr ⟨rfl, ?_⟩
    rintro ⟨e, g, rfl⟩
    have hn : e.n.toNat ≤ 32 := by have := g.n1; omega
    have e1 : num (((encE e).drop 8).take 4) = MaskP.mk e.n.toNat := num_four _ (MaskP.lt _)
    obtain ⟨h1, h2, h3⟩ := h
    rw [e1] at h2 h3
    have hk : k = e.n.toNat := by
      have : ¬ e.n.toNat < k := fun h => h2 _ h rfl
      rcases h3 with h3 | h3
      · omega
      · exact MaskP.inj _ _ h1 hn h3
    rw [hk] at hi
    exact absurd (hi.2 (EntOk.of g).1) (by decide)

/-! ### Bytes that begin an entry's -/
def pad (l : List Nat) (i : Nat) : Nat := if i < l.length then l[i]! else 0
def wit (l : List Nat) (k m : Nat) : List Nat := [0, 2, pad l 2, pad l 3, pad l 4, pad l 5, pad l 6, pad l 7] ++ four (MaskP.mk k) ++ [pad l 12, pad l 13, pad l 14, pad l 15] ++ four m
theorem wit_len (l : List Nat) (k m : Nat) : (wit l k m).length = 20 := rfl
theorem pad_lt {l : List Nat} (hb : Byt l) (i : Nat) : pad l i < 256 := by
  unfold pad
  split
  · rename_i h
    exact hb _ (by rw [getElem!_pos l i h]; exact List.getElem_mem h)
  · omega
theorem Byt.wit {l : List Nat} (hb : Byt l) (k m : Nat) : Byt (wit l k m) := by
  refine Byt.app (Byt.app (Byt.app ?_ (Byt.four _)) ?_) (Byt.four _)
  · intro x hx
    simp only [List.mem_cons, List.not_mem_nil, or_false] at hx
    rcases hx with rfl | rfl | rfl | rfl | rfl | rfl | rfl | rfl
    · omega
    · omega
    all_goals exact pad_lt hb _
  · intro x hx
    simp only [List.mem_cons, List.not_mem_nil, or_false] at hx
    rcases hx with rfl | rfl | rfl | rfl
    all_goals exact pad_lt hb _
def Hit (l : List Nat) (k m : Nat) : Prop := l <+: wit l k m ∧ IsE (wit l k m)
theorem pre_get {l w : List Nat} (hle : l.length ≤ w.length) (h : ∀ i, i < l.length → w[i]! = l[i]!) : l <+: w := by
  rw [List.prefix_iff_eq_take]
  refine List.ext_getElem (by rw [List.length_take]; omega) fun i h1 h2 => ?_
  have := h i h1
  rw [getElem!_pos w i (by omega), getElem!_pos l i h1] at this
  rw [List.getElem_take, this]
theorem get_pre {l w : List Nat} (h : l <+: w) (i : Nat) (hi : i < l.length) : l[i]! = w[i]! := by
  have hle := h.length_le
  rw [getElem!_pos l i hi, getElem!_pos w i (by omega)]
  exact h.getElem hi
theorem cut_down (a n s : Nat) (hn : n ≤ 32) (hs : s ≤ 32) (hc : PrefP.cut a n = a) : PrefP.cut (PrefP.cut a s) n = PrefP.cut a s := by
  by_cases h : s ≤ n
  · exact PrefP.cut_cut' a s n hs hn h
  · rw [PrefP.cut_cut a s n hs hn (by omega), hc]
    have := PrefP.cut_cut' a n s hn hs (by omega)
    rw [hc] at this
    exact this.symm
theorem cut_byte (a n s : Nat) (ha : a < 4294967296) (hn : n ≤ 32) (hs : s ≤ 32) (hc : PrefP.cut a n = a) : PrefP.cut (a / 2 ^ (32 - s) * 2 ^ (32 - s)) n = a / 2 ^ (32 - s) * 2 ^ (32 - s) := by
  have := cut_down a n s hn hs hc
  rw [cut_div a s ha hs] at this
  exact this

theorem hit_of {l : List Nat} {e : En} (hb : Byt l) (g : e.Good) (h : l <+: encE e) : Hit l e.n.toNat e.m.toNat := by
  have hle := h.length_le
  rw [encE_len] at hle
  have hg := fun i hi => get_pre h i hi
  have hn : e.n.toNat ≤ 32 := by have := g.n1; omega
  have p4 : pad l 4 = if 4 < l.length then e.a / 16777216 % 256 else 0 := by unfold pad; split; (rename_i h; exact hg 4 h); rfl
  have p5 : pad l 5 = if 5 < l.length then e.a / 65536 % 256 else 0 := by unfold pad; split; (rename_i h; exact hg 5 h); rfl
  have p6 : pad l 6 = if 6 < l.length then e.a / 256 % 256 else 0 := by unfold pad; split; (rename_i h; exact hg 6 h); rfl
  have p7 : pad l 7 = if 7 < l.length then e.a % 256 else 0 := by unfold pad; split; (rename_i h; exact hg 7 h); rfl
  have ha := g.a
  have hcut : PrefP.cut (num [pad l 4, pad l 5, pad l 6, pad l 7]) e.n.toNat = num [pad l 4, pad l 5, pad l 6, pad l 7] := by
    have en : num [pad l 4, pad l 5, pad l 6, pad l 7] = ((pad l 4 * 256 + pad l 5) * 256 + pad l 6) * 256 + pad l 7 := by simp [num]
    rw [en]
    have k8 := cut_byte e.a e.n.toNat 8 ha hn (by omega) g.c
    have k16 := cut_byte e.a e.n.toNat 16 ha hn (by omega) g.c
    have k24 := cut_byte e.a e.n.toNat 24 ha hn (by omega) g.c
    rw [show 2 ^ (32 - 8) = 16777216 by decide] at k8
    rw [show 2 ^ (32 - 16) = 65536 by decide] at k16
    rw [show 2 ^ (32 - 24) = 256 by decide] at k24
    by_cases h4 : 4 < l.length
    · rw [if_pos h4] at p4
      by_cases h5 : 5 < l.length
      · rw [if_pos h5] at p5
        by_cases h6 : 6 < l.length
        · rw [if_pos h6] at p6
          by_cases h7 : 7 < l.length
          · rw [if_pos h7] at p7
            rw [p4, p5, p6, p7, show ((e.a / 16777216 % 256 * 256 + e.a / 65536 % 256) * 256 + e.a / 256 % 256) * 256 + e.a % 256 = e.a by omega]
            exact g.c
          · rw [if_neg h7] at p7
            rw [p4, p5, p6, p7, show ((e.a / 16777216 % 256 * 256 + e.a / 65536 % 256) * 256 + e.a / 256 % 256) * 256 + 0 = e.a / 256 * 256 by omega]
            exact k24
        · rw [if_neg h6] at p6; rw [if_neg (by omega)] at p7
          rw [p4, p5, p6, p7, show ((e.a / 16777216 % 256 * 256 + e.a / 65536 % 256) * 256 + 0) * 256 + 0 = e.a / 65536 * 65536 by omega]
          exact k16
      · rw [if_neg h5] at p5; rw [if_neg (by omega)] at p6; rw [if_neg (by omega)] at p7
        rw [p4, p5, p6, p7, show ((e.a / 16777216 % 256 * 256 + 0) * 256 + 0) * 256 + 0 = e.a / 16777216 * 16777216 by omega]
        exact k8
    · rw [if_neg h4] at p4; rw [if_neg (by omega)] at p5; rw [if_neg (by omega)] at p6; rw [if_neg (by omega)] at p7
      rw [p4, p5, p6, p7]
      exact Nat.zero_and _
  have q := pad_lt hb
  refine ⟨pre_get (by rw [wit_len]; omega) fun i hi => ?_, ⟨num [pad l 4, pad l 5, pad l 6, pad l 7], e.n, ((pad l 2 * 256 + pad l 3 : Nat) : Int), num [pad l 12, pad l 13, pad l 14, pad l 15], e.m⟩, ?_, ?_⟩
  · have hp : pad l i = l[i]! := if_pos hi
    have h20 : i < 20 := by omega
    match i, h20 with
    | 0, _ => exact (hg 0 hi).symm
    | 1, _ => exact (hg 1 hi).symm
    | 2, _ => exact hp
    | 3, _ => exact hp
    | 4, _ => exact hp
    | 5, _ => exact hp
    | 6, _ => exact hp
    | 7, _ => exact hp
    | 8, _ => exact (hg 8 hi).symm
    | 9, _ => exact (hg 9 hi).symm
    | 10, _ => exact (hg 10 hi).symm
    | 11, _ => exact (hg 11 hi).symm
    | 12, _ => exact hp
    | 13, _ => exact hp
    | 14, _ => exact hp
    | 15, _ => exact hp
    | 16, _ => exact (hg 16 hi).symm
    | 17, _ => exact (hg 17 hi).symm
    | 18, _ => exact (hg 18 hi).symm
    | 19, _ => exact (hg 19 hi).symm
    | i + 20, h => omega
  · have q2 := q 2; have q3 := q 3
    exact ⟨num_four_lt _ _ _ _ (q 4) (q 5) (q 6) (q 7), g.n0, g.n1, hcut, by simp only; omega, by simp only; omega, num_four_lt _ _ _ _ (q 12) (q 13) (q 14) (q 15), g.m0, g.m1⟩
  · have q2 := q 2; have q3 := q 3
    show _ = [0, 2, ((pad l 2 * 256 + pad l 3 : Nat) : Int).toNat / 256, ((pad l 2 * 256 + pad l 3 : Nat) : Int).toNat % 256] ++ four (num [pad l 4, pad l 5, pad l 6, pad l 7]) ++ four (MaskP.mk e.n.toNat) ++ four (num [pad l 12, pad l 13, pad l 14, pad l 15]) ++ four e.m.toNat
    rw [Int.toNat_natCast, four_num _ _ _ _ (q 4) (q 5) (q 6) (q 7), four_num _ _ _ _ (q 12) (q 13) (q 14) (q 15), show (pad l 2 * 256 + pad l 3) / 256 = pad l 2 by omega, show (pad l 2 * 256 + pad l 3) % 256 = pad l 3 by omega]
    rfl
theorem preE_iff {l : List Nat} (hb : Byt l) : PreE l ↔ ∃ k m, k ≤ 32 ∧ 1 ≤ m ∧ m ≤ 16 ∧ Hit l k m := by
  constructor
  · rintro ⟨e, g, h⟩
    have := g.n1; have := g.m0; have := g.m1
    exact ⟨e.n.toNat, e.m.toNat, by omega, by omega, by omega, hit_of hb g h⟩
  · rintro ⟨k, m, _, _, _, h, e, g, he⟩
    rw [he] at h
    exact ⟨e, g, h⟩
end Go.Proofs.YtlgkjbkbdmneaaaDoor
