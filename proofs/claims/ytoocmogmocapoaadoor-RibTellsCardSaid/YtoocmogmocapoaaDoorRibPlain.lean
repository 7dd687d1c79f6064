/-
  PLAIN FACTS (of no program) on routes that neighbours told: how they age, what is learnt, what is lost, and what is told in order.
-/
import Derived.Test.YtoocmogmocapoaaDoorNetList
import Derived.Sort.AssemblyPlain
namespace Go.Proofs.YtoocmogmocapoaaDoor

/-- What a neighbour told of a network. -/
structure Hd where
  f : Int
  n : Nt
  m : Int
instance : Inhabited Hd := ⟨⟨0, (0, 0), 0⟩⟩
theorem Hd.same (x y : Hd) : x = y ↔ x.f = y.f ∧ x.n.1 = y.n.1 ∧ x.n.2 = y.n.2 ∧ x.m = y.m := by
  constructor
  · intro h; subst h; exact ⟨rfl, rfl, rfl, rfl⟩
  · obtain ⟨f, ⟨a, l⟩, m⟩ := x
    obtain ⟨f', ⟨a', l'⟩, m'⟩ := y
    rintro ⟨h1, h2, h3, h4⟩
    simp only at h1 h2 h3 h4
    subst h1; subst h2; subst h3; subst h4; rfl
instance : DecidableEq Hd := fun x y => decidable_of_iff _ (Hd.same x y).symm
/-- Which of two stands ahead. -/
def Hd.lt (a b : Hd) : Bool := if a.f = b.f then Nt.lt a.n b.n else decide (a.f < b.f)
theorem Hd.lt_iff (x y : Hd) : Hd.lt x y = true ↔ x.f < y.f ∨ (x.f = y.f ∧ (x.n.1 < y.n.1 ∨ (x.n.1 = y.n.1 ∧ x.n.2 < y.n.2))) := by
  unfold Hd.lt
  split
  · rename_i h; rw [Nt.lt_iff]; omega
  · rename_i h; rw [decide_eq_true_eq]; omega
theorem Hd.lt_not (x y : Hd) : Hd.lt x y = false ↔ ¬ (x.f < y.f ∨ (x.f = y.f ∧ (x.n.1 < y.n.1 ∨ (x.n.1 = y.n.1 ∧ x.n.2 < y.n.2)))) := by
  rw [← Hd.lt_iff]; simp
theorem Hd.swo : Go.Sort.SWO Hd.lt where
  irrefl x := by rw [Hd.lt_not]; omega
  trans x y z := by rw [Hd.lt_iff, Hd.lt_iff, Hd.lt_iff]; omega
  ntrans x y z := by rw [Hd.lt_not, Hd.lt_not, Hd.lt_not]; omega
/-- Of one neighbour, and of one network. -/
def Hd.key (h : Hd) : Int × Nt := (h.f, h.n)
theorem Hd.tot (x y : Hd) (h1 : Hd.lt x y = false) (h2 : Hd.lt y x = false) : x.key = y.key := by
  rw [Hd.lt_not] at h1 h2
  exact Prod.ext (show x.f = y.f by omega) (Prod.ext (show x.n.1 = y.n.1 by omega) (show x.n.2 = y.n.2 by omega))

/-- A route: what was told, and when. -/
structure Rt where
  h : Hd
  t : Int
instance : Inhabited Rt := ⟨⟨default, 0⟩⟩

namespace RibP
/-- A route as it is later. -/
def ageR (now : Int) (e : Rt) : Rt := if e.h.m ≠ 16 ∧ 180 ≤ now - e.t then ⟨⟨e.h.f, e.h.n, 16⟩, e.t + 180⟩ else e
/-- Is it there still? -/
def kpt (now : Int) (e : Rt) : Bool := decide (e.h.m ≠ 16 ∨ now - e.t < 120)
/-- All of them. -/
def age (now : Int) (L : List Rt) : List Rt := (L.map (ageR now)).filter (kpt now)
/-- Of this neighbour and this network. -/
def sm (x e : Rt) : Bool := decide (e.h.f = x.h.f ∧ e.h.n = x.h.n)
/-- What it becomes. -/
def news (x e : Rt) : Rt := if sm x e = true ∧ ¬ (e.h.m = 16 ∧ x.h.m = 16) then x else e
def learn (x : Rt) (L : List Rt) : List Rt := if L.any (sm x) = true then L.map (news x) else if x.h.m = 16 then L else L ++ [x]
/-- There would be too many. -/
def full (x : Rt) (L : List Rt) : Prop := L.any (sm x) = false ∧ x.h.m ≠ 16 ∧ 64 ≤ L.length
instance (x : Rt) (L : List Rt) : Decidable (full x L) := by unfold full; infer_instance
/-- A route whose neighbour is gone. -/
def loseR (f now : Int) (e : Rt) : Rt := if e.h.f = f ∧ e.h.m ≠ 16 then ⟨⟨e.h.f, e.h.n, 16⟩, now⟩ else e
def lose (f now : Int) (L : List Rt) : List Rt := L.map (loseR f now)

def keys (L : List Rt) : List (Int × Nt) := L.map fun e => e.h.key
/-- A right route. -/
structure Ok (now : Int) (e : Rt) : Prop where
  f0 : 0 ≤ e.h.f
  f1 : e.h.f < 8
  a : e.h.n.1 < 4294967296
  m0 : 1 ≤ e.h.m
  m1 : e.h.m ≤ 16
  t0 : 0 ≤ e.t
  t1 : e.t ≤ now
/-- Right routes. -/
structure Fine (now : Int) (L : List Rt) : Prop where
  keys : (keys L).Nodup
  each : ∀ e ∈ L, Ok now e
  len : L.length ≤ 64

theorem ageR_key (now : Int) (e : Rt) : (ageR now e).h.key = e.h.key := by unfold ageR; split <;> rfl
theorem loseR_key (f now : Int) (e : Rt) : (loseR f now e).h.key = e.h.key := by unfold loseR; split <;> rfl
theorem sm_iff (x e : Rt) : sm x e = true ↔ e.h.key = x.h.key := by
  unfold sm Hd.key
  rw [decide_eq_true_eq]
  constructor
  · rintro ⟨h1, h2⟩; rw [h1, h2]
  · intro h; exact ⟨congrArg Prod.fst h, congrArg Prod.snd h⟩
theorem news_key (x e : Rt) : (news x e).h.key = e.h.key := by
  unfold news
  split
  · rename_i h; exact ((sm_iff x e).1 h.1).symm
  · rfl
theorem any_iff (x : Rt) (L : List Rt) : L.any (sm x) = true ↔ x.h.key ∈ keys L := by
  unfold keys
  rw [List.any_eq_true, List.mem_map]
  constructor
  · rintro ⟨e, h1, h2⟩; exact ⟨e, h1, (sm_iff x e).1 h2⟩
  · rintro ⟨e, h1, h2⟩; exact ⟨e, h1, (sm_iff x e).2 h2⟩
theorem keys_lose (f now : Int) (L : List Rt) : keys (lose f now L) = keys L := by
  unfold keys lose; rw [List.map_map]; exact List.map_congr_left fun e _ => loseR_key f now e
theorem keys_news (x : Rt) (L : List Rt) : keys (L.map (news x)) = keys L := by
  unfold keys; rw [List.map_map]; exact List.map_congr_left fun e _ => news_key x e
theorem keys_age (now : Int) (L : List Rt) : (keys (age now L)).Sublist (keys L) := by
  have h1 : keys (L.map (ageR now)) = keys L := by unfold keys; rw [List.map_map]; exact List.map_congr_left fun e _ => ageR_key now e
  rw [← h1]
  exact List.filter_sublist.map _
theorem Ok.age {now now' : Int} {e : Rt} (h : Ok now e) (hn : now ≤ now') : Ok now' (ageR now' e) := by
  obtain ⟨h1, h2, h3, h4, h5, h6, h7⟩ := h
  unfold ageR
  split
  · rename_i h8
    exact ⟨h1, h2, h3, by simp, by simp, by show 0 ≤ e.t + 180; omega, by show e.t + 180 ≤ now'; omega⟩
  · exact ⟨h1, h2, h3, h4, h5, h6, by omega⟩
theorem Fine.age {now now' : Int} {L : List Rt} (h : Fine now L) (hn : now ≤ now') : Fine now' (age now' L) := by
  refine ⟨h.keys.sublist (keys_age _ _), fun e he => ?_, ?_⟩
  · obtain ⟨he, _⟩ := List.mem_filter.1 he
    obtain ⟨e', h1, rfl⟩ := List.mem_map.1 he
    exact (h.each e' h1).age hn
  · refine Nat.le_trans (List.length_filter_le _ _) ?_
    rw [List.length_map]; exact h.len
theorem Fine.learn {now : Int} {L : List Rt} {x : Rt} (h : Fine now L) (hx : Ok now x) (hf : ¬ full x L) : Fine now (learn x L) := by
  unfold RibP.learn
  by_cases h1 : L.any (sm x) = true
  · rw [if_pos h1]
    refine ⟨by rw [keys_news]; exact h.keys, fun e he => ?_, by rw [List.length_map]; exact h.len⟩
    obtain ⟨e', h2, rfl⟩ := List.mem_map.1 he
    unfold news
    split
    · exact hx
    · exact h.each _ h2
  · rw [if_neg h1]
    by_cases h2 : x.h.m = 16
    · rw [if_pos h2]; exact h
    · rw [if_neg h2]
      refine ⟨?_, fun e he => ?_, ?_⟩
      · unfold RibP.keys
        rw [List.map_append, List.nodup_append]
        refine ⟨h.keys, by simp, fun a ha b hb e => ?_⟩
        obtain rfl : b = x.h.key := by simpa using hb
        exact h1 ((any_iff x L).2 (e ▸ ha))
      · rcases List.mem_append.1 he with he | he
        · exact h.each e he
        · obtain rfl : e = x := by simpa using he
          exact hx
      · have : ¬ 64 ≤ L.length := fun h3 => hf ⟨by simpa using h1, h2, h3⟩
        rw [List.length_append, List.length_singleton]; omega
theorem Fine.lose {now : Int} {L : List Rt} (f : Int) (h : Fine now L) (hn : 0 ≤ now) : Fine now (lose f now L) := by
  refine ⟨by rw [keys_lose]; exact h.keys, fun e he => ?_, by unfold RibP.lose; rw [List.length_map]; exact h.len⟩
  obtain ⟨e', h1, rfl⟩ := List.mem_map.1 he
  obtain ⟨a1, a2, a3, a4, a5, a6, a7⟩ := h.each _ h1
  unfold loseR
  split
  · exact ⟨a1, a2, a3, by simp, by simp, hn, Int.le_refl _⟩
  · exact ⟨a1, a2, a3, a4, a5, a6, a7⟩
theorem Fine.nil (now : Int) : Fine now [] := ⟨List.nodup_nil, fun _ he => (nomatch he), Nat.zero_le _⟩

/-! ### One after the other -/
theorem take_more {α : Type} [Inhabited α] (L : List α) (i : Nat) (h : i < L.length) : L.take (i + 1) = L.take i ++ [L[i]!] := by
  rw [List.take_succ_eq_append_getElem h, getElem!_pos L i h]
theorem age_more (now : Int) (L : List Rt) (i : Nat) (h : i < L.length) : age now (L.take (i + 1)) = age now (L.take i) ++ if kpt now (ageR now L[i]!) = true then [ageR now L[i]!] else [] := by
  unfold age
  rw [take_more L i h, List.map_append, List.filter_append]
  congr 1
  simp only [List.map_cons, List.map_nil, List.filter_cons, List.filter_nil]
theorem age_yes (now : Int) (L : List Rt) (i : Nat) (h : i < L.length) (hk : kpt now (ageR now L[i]!) = true) : age now (L.take (i + 1)) = age now (L.take i) ++ [ageR now L[i]!] := by
  rw [age_more now L i h, if_pos hk]
theorem age_no (now : Int) (L : List Rt) (i : Nat) (h : i < L.length) (hk : kpt now (ageR now L[i]!) = false) : age now (L.take (i + 1)) = age now (L.take i) := by
  rw [age_more now L i h, if_neg (by rw [hk]; exact Bool.noConfusion), List.append_nil]
theorem age_len (now : Int) (L : List Rt) : (age now L).length ≤ L.length := by
  refine Nat.le_trans (List.length_filter_le _ _) ?_
  rw [List.length_map]; exact Nat.le_refl _
/-- What is left at a time does not hang on when it was looked at on the way. -/
theorem age_age (a b : Int) (L : List Rt) (h : a ≤ b) : age b (age a L) = age b L := by
  unfold age
  induction L with
  | nil => rfl
  | cons e r ih =>
    simp only [List.map_cons, List.filter_cons]
    have key : kpt a (ageR a e) = true ∧ ageR b (ageR a e) = ageR b e ∨ kpt a (ageR a e) = false ∧ kpt b (ageR b e) = false := by
      obtain ⟨⟨f, n, m⟩, t⟩ := e
      unfold kpt ageR
      simp only
      by_cases hm : m = 16
      · subst hm
        simp only [ne_eq, not_true_eq_false, false_and, if_false, false_or]
        by_cases h1 : a - t < 120
        · exact Or.inl ⟨by simpa using h1, trivial⟩
        · exact Or.inr ⟨by simpa using (show ¬ a - t < 120 from h1), by simpa using (show ¬ b - t < 120 by omega)⟩
      · by_cases h1 : 180 ≤ a - t
        · have h1' : 180 ≤ b - t := by omega
          simp only [ne_eq, hm, not_false_eq_true, true_and, h1, h1', if_true, not_true_eq_false, false_and, if_false, false_or]
          by_cases h2 : a - (t + 180) < 120
          · exact Or.inl ⟨by simpa using h2, trivial⟩
          · exact Or.inr ⟨by simpa using h2, by simpa using (show ¬ b - (t + 180) < 120 by omega)⟩
        · simp only [ne_eq, hm, not_false_eq_true, true_and, h1, if_false, true_or, decide_true, and_self]
    rcases key with ⟨k1, k2⟩ | ⟨k1, k2⟩
    · rw [k1]
      simp only [if_true, List.map_cons, List.filter_cons, k2]
      rw [ih]
    · rw [k1, k2]
      simpa using ih
/-- At once nothing ages. -/
theorem age_now {L : List Rt} (h : Fine 0 L) : age 0 L = L := by
  unfold age
  have h1 : L.map (ageR 0) = L := by
    conv => rhs; rw [← List.map_id L]
    refine List.map_congr_left fun e he => ?_
    obtain ⟨_, _, _, _, _, a6, a7⟩ := h.each e he
    unfold ageR
    rw [if_neg (by omega)]; rfl
  rw [h1]
  refine List.filter_eq_self.2 fun e he => ?_
  obtain ⟨_, _, _, _, _, a6, a7⟩ := h.each e he
  unfold kpt
  rw [decide_eq_true_eq]; omega

/-! ### What is told -/
/-- All that is told, in its order. -/
structure RTold (L : List Rt) (H : List Hd) : Prop where
  perm : H.Perm (L.map Rt.h)
  ord : H.Pairwise fun a b => Hd.lt b a = false
theorem RTold.len {L : List Rt} {H : List Hd} (h : RTold L H) : H.length = L.length := by rw [h.perm.length_eq, List.length_map]
theorem key_inj {L : List Rt} (h : (keys L).Nodup) : ∀ a ∈ L.map Rt.h, ∀ b ∈ L.map Rt.h, a.key = b.key → a = b := by
  induction L with
  | nil => intro a ha; simp at ha
  | cons e r ih =>
    unfold keys at h
    rw [List.map_cons, List.nodup_cons] at h
    intro a ha b hb hk
    rw [List.map_cons, List.mem_cons] at ha hb
    have out : ∀ c : Hd, c ∈ r.map Rt.h → c.key ≠ e.h.key := fun c hc e1 => h.1 (by
      obtain ⟨x, h1, rfl⟩ := List.mem_map.1 hc
      exact List.mem_map.2 ⟨x, h1, e1⟩)
    rcases ha with rfl | ha
    · rcases hb with rfl | hb
      · rfl
      · exact absurd hk.symm (out b hb)
    · rcases hb with rfl | hb
      · exact absurd hk (out a ha)
      · exact ih h.2 a ha b hb hk
theorem RTold.one {L L' : List Rt} {H H' : List Hd} (hk : (keys L).Nodup) (hp : L.Perm L') (h : RTold L H) (h' : RTold L' H') : H = H' := by
  refine List.Perm.eq_of_pairwise (le := fun a b => Hd.lt b a = false) (fun a b ha hb h1 h2 => ?_) h.ord h'.ord (h.perm.trans ((hp.map Rt.h).trans h'.perm.symm))
  have i1 : a ∈ L.map Rt.h := h.perm.mem_iff.1 ha
  have i2 : b ∈ L.map Rt.h := (hp.map Rt.h).mem_iff.2 (h'.perm.mem_iff.1 hb)
  exact key_inj hk a i1 b i2 (Hd.tot a b h2 h1)
/-- Each net of a neighbour stands once. -/
theorem RTold.strict {L : List Rt} {H : List Hd} (hk : (keys L).Nodup) (h : RTold L H) : H.Pairwise fun a b => Hd.lt a b = true := by
  have hn : (H.map Hd.key).Nodup := (h.perm.map Hd.key).nodup_iff.2 (by rw [List.map_map]; exact hk)
  unfold List.Nodup at hn
  rw [List.pairwise_map] at hn
  refine (h.ord.and hn).imp fun {a b} ⟨h1, h2⟩ => ?_
  cases h3 : Hd.lt a b with
  | true => rfl
  | false => exact absurd (Hd.tot a b h3 h1) h2
theorem RTold.of {L : List Rt} (d' : Array Hd) (hp : Go.Sort.PermIn 0 L.length (L.map Rt.h).toArray d') (hs : Go.Sort.SortedIn Hd.lt 0 L.length d') : RTold L d'.toList := by
  obtain ⟨hsz, _, hperm⟩ := hp
  have hl : d'.size = L.length := by rw [hsz]; simp
  have e1 : d'.extract 0 L.length = d' := by rw [← hl]; exact Array.extract_size
  have e2 : ((L.map Rt.h).toArray).extract 0 L.length = (L.map Rt.h).toArray := by
    have : L.length = ((L.map Rt.h).toArray).size := by simp
    rw [this]; exact Array.extract_size
  rw [e1, e2] at hperm
  refine ⟨by simpa using hperm, ?_⟩
  rw [List.pairwise_iff_getElem]
  intro i j hi hj hij
  have hi' : i < d'.size := by simpa using hi
  have hj' : j < d'.size := by simpa using hj
  have := hs i j (Nat.zero_le _) hij (by omega)
  rw [getElem!_pos d' j hj', getElem!_pos d' i hi'] at this
  simpa using this
end RibP
end Go.Proofs.YtoocmogmocapoaaDoor
