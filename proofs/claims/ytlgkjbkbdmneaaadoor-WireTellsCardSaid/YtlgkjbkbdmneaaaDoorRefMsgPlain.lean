/-
  PLAIN FACTS on the document's own reading of a message (of no program): its head, byte by byte, and its entries, one by one.
-/
import Derived.Test.YtlgkjbkbdmneaaaDoorRefEntPlain
namespace Go.Proofs.YtlgkjbkbdmneaaaDoor

/-- The first i bytes are a head's. -/
def HeadTo (l : List Nat) (i : Nat) : Prop := i ≤ l.length ∧ i ≤ 4 ∧ ∃ ask, ∀ j, j < i → l[j]! = (hd ask)[j]!
theorem HeadTo.zero (l : List Nat) : HeadTo l 0 := ⟨Nat.zero_le _, by omega, true, fun j hj => by omega⟩
theorem hd_at (ask : Bool) (i : Nat) (h : 0 < i) (h4 : i < 4) : (hd ask)[i]! = (hd false)[i]! := by
  match i, h, h4 with
  | 1, _, _ => rfl
  | 2, _, _ => rfl
  | 3, _, _ => rfl
theorem HeadTo.step {l : List Nat} {i : Nat} (h : HeadTo l i) (hl : i < l.length) (h4 : i < 4) (he : l[i]! = (hd false)[i]! ∨ i = 0 ∧ l[0]! = 1) : HeadTo l (i + 1) := by
  obtain ⟨_, _, ask, ha⟩ := h
  by_cases h0 : i = 0
  · subst h0
    rcases he with he | ⟨_, he⟩
    · exact ⟨hl, h4, false, fun j hj => (by obtain rfl : j = 0 := (by omega); exact he)⟩
    · exact ⟨hl, h4, true, fun j hj => (by obtain rfl : j = 0 := (by omega); exact he)⟩
  · rcases he with he | ⟨h1, _⟩
    · refine ⟨hl, h4, ask, fun j hj => ?_⟩
      rcases Nat.lt_succ_iff_lt_or_eq.1 hj with h | h
      · exact ha j h
      · rw [h, he, hd_at ask i (by omega) h4]
    · exact absurd h1 h0
theorem pre_head {l : List Nat} (h : Pre l) (i : Nat) (hl : i < l.length) (h4 : i < 4) : l[i]! = (hd false)[i]! ∨ i = 0 ∧ l[0]! = 1 := by
  obtain ⟨ask, es, g, h⟩ := h
  have e := get_pre h i hl
  have e2 : (enc ask es)[i]! = (hd ask)[i]! := by
    unfold enc
    rw [getElem!_pos (hd ask ++ encL es) i (by rw [List.length_append, hd_len]; omega), getElem!_pos (hd ask) i (by rw [hd_len]; exact h4), List.getElem_append_left]
  rw [e2] at e
  by_cases h0 : i = 0
  · subst h0
    cases ask
    · exact Or.inl e
    · exact Or.inr ⟨rfl, e⟩
  · exact Or.inl (by rw [e, hd_at ask i (by omega) h4])
theorem head_bad {l : List Nat} {i : Nat} (hl : i < l.length) (h4 : i < 4) (h : ¬ (l[i]! = (hd false)[i]! ∨ i = 0 ∧ l[0]! = 1)) : DecIs l false [] 3 :=
  Or.inr (Or.inr ⟨rfl, rfl, rfl, fun hp => h (pre_head hp i hl h4)⟩)
theorem HeadTo.short {l : List Nat} {i : Nat} (h : HeadTo l i) (hl : l.length ≤ i) (h4 : l.length < 4) : DecIs l false [] 6 := by
  obtain ⟨h1, _, ask, ha⟩ := h
  have hi : i = l.length := by omega
  subst hi
  refine Or.inr (Or.inl ⟨rfl, rfl, rfl, ⟨ask, [], GoodM.nil, pre_get (by rw [enc_len]; omega) fun j hj => ?_⟩, fun he => by have := he.done.1; omega⟩)
  rw [ha j hj]
  show (hd ask ++ [])[j]! = _
  rw [List.append_nil]
/-- The entries es were read. -/
structure MsgR (l : List Nat) (ask : Bool) (es : List En) : Prop where
  le : 4 + 20 * es.length ≤ l.length
  good : GoodM es
  is : l.take (4 + 20 * es.length) = enc ask es
theorem HeadTo.start {l : List Nat} (h : HeadTo l 4) : MsgR l (decide (l[0]! = 1)) [] := by
  obtain ⟨h1, _, ask, ha⟩ := h
  refine ⟨by simpa using h1, GoodM.nil, ?_⟩
  have e0 : decide (l[0]! = 1) = ask := by
    rw [ha 0 (by omega)]
    cases ask <;> rfl
  rw [e0]
  refine List.ext_getElem (by rw [enc_len, List.length_take]; simp; omega) fun j h2 h3 => ?_
  rw [List.length_take] at h2
  simp only [List.length_nil, Nat.mul_zero, Nat.add_zero] at h2
  have := ha j (by omega)
  rw [getElem!_pos l j (by omega), getElem!_pos (hd ask) j (by rw [hd_len]; omega)] at this
  rw [List.getElem_take, this]
  simp [enc, encL]
theorem MsgR.full {l : List Nat} {ask : Bool} {es : List En} (_h : MsgR l ask es) (h25 : es.length = 25) (hl : 4 + 20 * es.length < l.length) : DecIs l false [] 3 := dec_long (by omega)
theorem MsgR.all {l : List Nat} {ask : Bool} {es : List En} (h : MsgR l ask es) (hl : l.length ≤ 4 + 20 * es.length) : DecIs l ask es 0 :=
  Or.inl ⟨rfl, h.good, by rw [← h.is, List.take_of_length_le hl]⟩
theorem drop_pre {l w : List Nat} (h : l <+: w) (q : Nat) : l.drop q <+: w.drop q := by
  obtain ⟨s, rfl⟩ := h
  by_cases hq : q ≤ l.length
  · exact ⟨s, by rw [List.drop_append_of_le_length hq]⟩
  · rw [List.drop_eq_nil_of_le (by omega)]; exact List.nil_prefix
theorem MsgR.goes {l : List Nat} {ask : Bool} {es : List En} (h : MsgR l ask es) (h25 : es.length ≠ 25) (h1 : 4 + 20 * es.length < l.length) (h2 : l.length < 4 + 20 * es.length + 20) (hp : PreE (l.drop (4 + 20 * es.length))) : DecIs l false [] 6 := by
  obtain ⟨e, g, hp⟩ := hp
  refine Or.inr (Or.inl ⟨rfl, rfl, rfl, ⟨ask, es ++ [e], ⟨?_, ?_⟩, ?_⟩, fun he => by have := he.done.2; omega⟩)
  · have := h.good.few
    rw [List.length_append, List.length_singleton]; omega
  · intro x hx
    rcases List.mem_append.1 hx with hx | hx
    · exact h.good.all x hx
    · rw [List.mem_singleton.1 hx]; exact g
  · rw [enc_app, ← h.is]
    conv => lhs; rw [← List.take_append_drop (4 + 20 * es.length) l]
    show _ <+: _ ++ (encE e ++ [])
    rw [List.append_nil]
    exact (List.prefix_append_right_inj _).2 hp
theorem pre_chunk {l : List Nat} (h : Pre l) (q : Nat) (h1 : 4 + 20 * q < l.length) : ∃ e : En, e.Good ∧ (l.drop (4 + 20 * q)).take 20 <+: encE e ∧ (4 + 20 * q + 20 ≤ l.length → (l.drop (4 + 20 * q)).take 20 = encE e) := by
  obtain ⟨ask, es, g, h⟩ := h
  have hle := h.length_le
  rw [enc_len] at hle
  have hq : q < es.length := by omega
  have e := enc_drop ask es q hq
  have hp : (l.drop (4 + 20 * q)).take 20 <+: encE es[q]! := by
    rw [← e]
    have := drop_pre h (4 + 20 * q)
    exact List.prefix_take_iff.2 ⟨(List.take_prefix _ _).trans this, by rw [List.length_take]; omega⟩
  refine ⟨es[q]!, g.all _ (by rw [getElem!_pos es q hq]; exact List.getElem_mem hq), hp, fun hl => ?_⟩
  exact hp.eq_of_length (by rw [encE_len, List.length_take, List.length_drop]; omega)
theorem MsgR.stops {l : List Nat} {ask : Bool} {es : List En} (_h : MsgR l ask es) (h1 : 4 + 20 * es.length < l.length) (h2 : l.length < 4 + 20 * es.length + 20) (hp : ¬ PreE (l.drop (4 + 20 * es.length))) : DecIs l false [] 3 := by
  refine Or.inr (Or.inr ⟨rfl, rfl, rfl, fun h => hp ?_⟩)
  obtain ⟨e, g, hq, _⟩ := pre_chunk h es.length h1
  rw [List.take_of_length_le (by rw [List.length_drop]; omega)] at hq
  exact ⟨e, g, hq⟩
theorem MsgR.bad {l : List Nat} {ask : Bool} {es : List En} (_h : MsgR l ask es) (h1 : 4 + 20 * es.length + 20 ≤ l.length) (hp : ¬ IsE (chunk l es.length)) : DecIs l false [] 3 := by
  refine Or.inr (Or.inr ⟨rfl, rfl, rfl, fun h => hp ?_⟩)
  obtain ⟨e, g, _, hq⟩ := pre_chunk h es.length (by omega)
  exact ⟨e, g, hq h1⟩
theorem MsgR.more {l : List Nat} {ask : Bool} {es : List En} {e : En} (h : MsgR l ask es) (h25 : es.length ≠ 25) (h1 : 4 + 20 * es.length + 20 ≤ l.length) (g : e.Good) (hp : chunk l es.length = encE e) : MsgR l ask (es ++ [e]) := by
  refine ⟨by rw [List.length_append, List.length_singleton]; omega, ⟨?_, ?_⟩, ?_⟩
  · have := h.good.few
    rw [List.length_append, List.length_singleton]; omega
  · intro x hx
    rcases List.mem_append.1 hx with hx | hx
    · exact h.good.all x hx
    · rw [List.mem_singleton.1 hx]; exact g
  · rw [List.length_append, List.length_singleton, show 4 + 20 * (es.length + 1) = 4 + 20 * es.length + 20 by omega, List.take_add, h.is, enc_app]
    show enc ask es ++ chunk l es.length = enc ask es ++ (encE e ++ [])
    rw [hp, List.append_nil]
end Go.Proofs.YtlgkjbkbdmneaaaDoor
