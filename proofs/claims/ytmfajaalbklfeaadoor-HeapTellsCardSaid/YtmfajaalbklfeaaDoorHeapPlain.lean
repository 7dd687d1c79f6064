/-
  PLAIN FACTS on a heap of things with keys: which of two comes first; a list of things in the heap's order, but for one place; two exchanged, one put behind, one taken; the one on top is the first.
-/
import Derived.Lib.Hide
namespace Go.Proofs.YtmfajaalbklfeaaDoor.HeapP

/-- Which of two things comes first: the one with the lesser key, of one key the lesser one. -/
def lt (ky : Nat → Int) (a b : Nat) : Prop := ky a < ky b ∨ ky a = ky b ∧ a < b
instance (ky : Nat → Int) (a b : Nat) : Decidable (lt ky a b) := by unfold lt; infer_instance
section
variable {ky ky' : Nat → Int} {a b c : Nat}
theorem lt_irr : ¬ lt ky a a := by unfold lt; omega
theorem lt_asymm (h : lt ky a b) : ¬ lt ky b a := by unfold lt at *; omega
theorem lt_other (h : a ≠ b) (k : ¬ lt ky a b) : lt ky b a := by unfold lt at *; omega
theorem lt_trans (h : lt ky a b) (k : lt ky b c) : lt ky a c := by unfold lt at *; omega
theorem le_trans (h : ¬ lt ky b a) (k : ¬ lt ky c b) : ¬ lt ky c a := by unfold lt at *; omega
theorem lt_le (h : lt ky a b) (k : ¬ lt ky c b) : lt ky a c := by unfold lt at *; omega
theorem le_lt (h : ¬ lt ky b a) (k : lt ky b c) : lt ky a c := by unfold lt at *; omega
theorem lt_congr (ha : ky' a = ky a) (hb : ky' b = ky b) : lt ky' a b ↔ lt ky a b := by unfold lt; rw [ha, hb]
/-- As Less tells it. -/
theorem lt_ne (h : ky a ≠ ky b) : lt ky a b ↔ ky a < ky b := by unfold lt; omega
theorem lt_eq (h : ky a = ky b) : lt ky a b ↔ a < b := by unfold lt; omega
end

/-- Two exchanged. -/
def exch (L : List Nat) (i j : Nat) : List Nat := (L.set i L[j]!).set j L[i]!
theorem exch_len (L : List Nat) (i j : Nat) : (exch L i j).length = L.length := by simp [exch]
theorem exch_at (L : List Nat) (i j k : Nat) (hk : k < L.length) : (exch L i j)[k]! = if k = j then L[i]! else if k = i then L[j]! else L[k]! := by
  rw [getElem!_pos _ k (by rw [exch_len]; exact hk)]
  simp only [exch, List.getElem_set]
  by_cases e : j = k
  · rw [if_pos e, if_pos e.symm]
  · rw [if_neg e, if_neg (Ne.symm e)]
    by_cases e2 : i = k
    · rw [if_pos e2, if_pos e2.symm]
    · rw [if_neg e2, if_neg (Ne.symm e2), getElem!_pos _ k hk]
theorem exch_j (L : List Nat) (i j : Nat) (hj : j < L.length) : (exch L i j)[j]! = L[i]! := by rw [exch_at L i j j hj, if_pos rfl]
theorem exch_i (L : List Nat) (i j : Nat) (hi : i < L.length) : (exch L i j)[i]! = L[j]! := by
  rw [exch_at L i j i hi]
  by_cases e : i = j
  · subst e; rw [if_pos rfl]
  · rw [if_neg e, if_pos rfl]
theorem exch_o (L : List Nat) (i j k : Nat) (hk : k < L.length) (h1 : k ≠ i) (h2 : k ≠ j) : (exch L i j)[k]! = L[k]! := by rw [exch_at L i j k hk, if_neg h2, if_neg h1]
theorem mem_at (L : List Nat) (e : Nat) : e ∈ L ↔ ∃ k, k < L.length ∧ L[k]! = e := by
  rw [List.mem_iff_getElem]
  constructor
  · rintro ⟨k, h, rfl⟩
    exact ⟨k, h, getElem!_pos _ k h⟩
  · rintro ⟨k, h, rfl⟩
    exact ⟨k, h, (getElem!_pos _ k h).symm⟩
theorem at_mem {L : List Nat} {k : Nat} (h : k < L.length) : L[k]! ∈ L := (mem_at L _).2 ⟨k, h, rfl⟩

/-- The same things, the places from c on as they were. -/
structure Same (c : Nat) (L L' : List Nat) : Prop where
  len : L'.length = L.length
  mem : ∀ e, e ∈ L ↔ e ∈ L'
  tail : ∀ m, c ≤ m → m < L.length → L'[m]! = L[m]!
theorem Same.refl (c : Nat) (L : List Nat) : Same c L L := ⟨rfl, fun _ => Iff.rfl, fun _ _ _ => rfl⟩
theorem Same.trans {c : Nat} {L L' L'' : List Nat} (h : Same c L L') (k : Same c L' L'') : Same c L L'' :=
  ⟨k.len.trans h.len, fun e => (h.mem e).trans (k.mem e), fun m hm hl => (k.tail m hm (by rw [h.len]; exact hl)).trans (h.tail m hm hl)⟩
theorem Same.mono {c c' : Nat} {L L' : List Nat} (h : Same c L L') (hc : c ≤ c') : Same c' L L' := ⟨h.len, h.mem, fun m hm hl => h.tail m (Nat.le_trans hc hm) hl⟩
theorem Same.exch {c : Nat} (L : List Nat) (i j : Nat) (hi : i < L.length) (hj : j < L.length) (ic : i < c) (jc : j < c) : Same c L (exch L i j) := by
  refine ⟨exch_len L i j, fun e => ?_, fun m hm hl => exch_o L i j m hl (by omega) (by omega)⟩
  rw [mem_at, mem_at, exch_len]
  constructor
  · rintro ⟨k, hk, rfl⟩
    by_cases e1 : k = i
    · subst e1; exact ⟨j, hj, exch_j L k j hj⟩
    · by_cases e2 : k = j
      · subst e2; exact ⟨i, hi, exch_i L i k hi⟩
      · exact ⟨k, hk, exch_o L i j k hk e1 e2⟩
  · rintro ⟨k, hk, rfl⟩
    rw [exch_at L i j k hk]
    split
    · exact ⟨i, hi, rfl⟩
    · split
      · exact ⟨j, hj, rfl⟩
      · exact ⟨k, hk, rfl⟩

/-- The first n places are in the heap's order. -/
def Ord (ky : Nat → Int) (L : List Nat) (n : Nat) : Prop := ∀ m, 0 < m → m < n → ¬ lt ky L[m]! L[(m - 1) / 2]!
/-- So they are, but for what touches place i. -/
structure Hx (ky : Nat → Int) (L : List Nat) (n i : Nat) : Prop where
  a : ∀ m, 0 < m → m < n → m ≠ i → (m - 1) / 2 ≠ i → ¬ lt ky L[m]! L[(m - 1) / 2]!
  b : ∀ m, 0 < m → m < n → (m - 1) / 2 = i → 0 < i → ¬ lt ky L[m]! L[(i - 1) / 2]!
/-- No child of place i comes ahead of it. -/
def Heirs (ky : Nat → Int) (L : List Nat) (n i : Nat) : Prop := ∀ m, 0 < m → m < n → (m - 1) / 2 = i → ¬ lt ky L[m]! L[i]!
section
variable {ky ky' : Nat → Int} {L : List Nat} {n i j : Nat}
theorem Ord.congr (h : Ord ky L n) (e : ∀ m, m < n → ky' L[m]! = ky L[m]!) : Ord ky' L n := fun m h0 hm => by
  rw [lt_congr (e m hm) (e _ (by omega))]; exact h m h0 hm
theorem Ord.hx (h : Ord ky L n) (i : Nat) : Hx ky L n i :=
  ⟨fun m h0 hm _ _ => h m h0 hm, fun m h0 hm hp hi => by
    have h1 := h m h0 hm
    rw [hp] at h1
    exact le_trans (h i hi (by omega)) h1⟩
/-- A key that has changed. -/
theorem Ord.rekey (h : Ord ky L n) (e : ∀ m, m < n → m ≠ i → ky' L[m]! = ky L[m]!) : Hx ky' L n i := by
  have hx := h.hx i
  refine ⟨fun m h0 hm hi hp => ?_, fun m h0 hm hp hi => ?_⟩
  · rw [lt_congr (e m hm hi) (e _ (by omega) hp)]; exact hx.a m h0 hm hi hp
  · rw [lt_congr (e m hm (by omega)) (e _ (by omega) (by omega))]; exact hx.b m h0 hm hp hi
theorem Hx.done (h : Hx ky L n j) (k : Heirs ky L n j) (hp : 0 < j → ¬ lt ky L[j]! L[(j - 1) / 2]!) : Ord ky L n := by
  intro m h0 hm
  by_cases e : m = j
  · subst e; exact hp h0
  · by_cases e2 : (m - 1) / 2 = j
    · rw [e2]; exact k m h0 hm e2
    · exact h.a m h0 hm e e2
/-- One step up. -/
theorem Hx.up (h : Hx ky L n j) (k : Heirs ky L n j) (hj : j < n) (hn : n ≤ L.length) (h0 : 0 < j) (hi : i = (j - 1) / 2) (hlt : lt ky L[j]! L[i]!) : Hx ky (exch L i j) n i ∧ Heirs ky (exch L i j) n i := by
  have hij : i < j := by omega
  refine ⟨⟨fun m m0 hm hmi hpi => ?_, fun m m0 hm hp i0 => ?_⟩, fun m m0 hm hp => ?_⟩
  · have hmj : m ≠ j := by intro e; subst e; exact hpi hi.symm
    rw [exch_o L i j m (by omega) hmi hmj]
    by_cases e : (m - 1) / 2 = j
    · rw [e, exch_j L i j (by omega), hi]
      exact h.b m m0 hm e h0
    · rw [exch_o L i j _ (by omega) hpi e]
      exact h.a m m0 hm hmj e
  · rw [exch_o L i j ((i - 1) / 2) (by omega) (by omega) (by omega)]
    have hup := h.a i i0 (by omega) (by omega) (by omega)
    by_cases e : m = j
    · subst e; rw [exch_j L i m (by omega)]; exact hup
    · rw [exch_o L i j m (by omega) (by omega) e]
      have h1 := h.a m m0 hm e (by omega)
      rw [hp] at h1
      exact le_trans hup h1
  · rw [exch_i L i j (by omega)]
    by_cases e : m = j
    · subst e; rw [exch_j L i m (by omega)]; exact lt_asymm hlt
    · rw [exch_o L i j m (by omega) (by omega) e]
      have h1 := h.a m m0 hm e (by omega)
      rw [hp] at h1
      exact fun c => h1 (lt_trans c hlt)
/-- One step down. -/
theorem Hx.down (h : Hx ky L n i) (hj : j < n) (hn : n ≤ L.length) (h0 : 0 < j) (hi : (j - 1) / 2 = i) (hmin : Heirs ky (L.set i L[j]!) n i) (hlt : lt ky L[j]! L[i]!) : Hx ky (exch L i j) n j ∧ ¬ lt ky (exch L i j)[j]! (exch L i j)[(j - 1) / 2]! := by
  have hij : i < j := by omega
  have hset : ∀ m, m < L.length → (L.set i L[j]!)[m]! = if i = m then L[j]! else L[m]! := fun m hm => by
    rw [getElem!_pos _ m (by simpa using hm), List.getElem_set]
    by_cases e : i = m
    · rw [if_pos e, if_pos e]
    · rw [if_neg e, if_neg e, getElem!_pos _ m hm]
  refine ⟨⟨fun m m0 hm hmj hpj => ?_, fun m m0 hm hp j0 => ?_⟩, ?_⟩
  · by_cases e : m = i
    · subst e
      rw [exch_i L m j (by omega), exch_o L m j _ (by omega) (by omega) hpj]
      exact h.b j h0 hj hi m0
    · rw [exch_o L i j m (by omega) e hmj]
      by_cases e2 : (m - 1) / 2 = i
      · rw [e2, exch_i L i j (by omega)]
        have := hmin m m0 hm e2
        rw [hset m (by omega), hset i (by omega), if_neg (Ne.symm e), if_pos rfl] at this
        exact this
      · rw [exch_o L i j _ (by omega) e2 hpj]
        exact h.a m m0 hm e e2
  · rw [exch_o L i j m (by omega) (by omega) (by omega), hi, exch_i L i j (by omega)]
    have := h.a m m0 hm (by omega) (by omega)
    rw [hp] at this
    exact this
  · rw [hi, exch_i L i j (by omega), exch_j L i j (by omega)]
    exact lt_asymm hlt
/-- The lesser of one child, of two children. -/
theorem kids_none (h : ¬ 2 * i + 1 < n) : Heirs ky L n i := fun m m0 hm hp => by omega
theorem kids_one (h1 : 2 * i + 1 < n) (h2 : ¬ 2 * i + 2 < n) (hl : ¬ lt ky L[2 * i + 1]! L[i]!) : Heirs ky L n i := fun m m0 hm hp => by
  obtain rfl : m = 2 * i + 1 := by omega
  exact hl
theorem kids_two (ha : 2 * i + 1 < n → ¬ lt ky L[2 * i + 1]! L[i]!) (hb : 2 * i + 2 < n → ¬ lt ky L[2 * i + 2]! L[i]!) : Heirs ky L n i := fun m m0 hm hp => by
  have : m = 2 * i + 1 ∨ m = 2 * i + 2 := by omega
  rcases this with rfl | rfl
  · exact ha hm
  · exact hb hm
theorem kids_set (hn : n ≤ L.length) (hi : i < n) (x : Nat) (ha : 2 * i + 1 < n → ¬ lt ky L[2 * i + 1]! x) (hb : 2 * i + 2 < n → ¬ lt ky L[2 * i + 2]! x) : Heirs ky (L.set i x) n i := by
  have hset : ∀ m, m < L.length → (L.set i x)[m]! = if i = m then x else L[m]! := fun m hm => by
    rw [getElem!_pos _ m (by simpa using hm), List.getElem_set]
    by_cases e : i = m
    · rw [if_pos e, if_pos e]
    · rw [if_neg e, if_neg e, getElem!_pos _ m hm]
  refine kids_two (fun h => ?_) fun h => ?_
  · rw [hset _ (by omega), hset _ (by omega), if_neg (by omega), if_pos rfl]; exact ha h
  · rw [hset _ (by omega), hset _ (by omega), if_neg (by omega), if_pos rfl]; exact hb h
/-- One put behind. -/
theorem Ord.push (h : Ord ky L n) (hl : L.length = n) (x : Nat) : Hx ky (L ++ [x]) (n + 1) n ∧ Heirs ky (L ++ [x]) (n + 1) n := by
  have at_ : ∀ m, m < n → (L ++ [x])[m]! = L[m]! := fun m hm => by
    rw [getElem!_pos _ m (by simp; omega), List.getElem_append_left (by omega), getElem!_pos _ m (by omega)]
  refine ⟨⟨fun m m0 hm e _ => ?_, fun m m0 hm hp hi => by omega⟩, fun m m0 hm hp => by omega⟩
  rw [at_ m (by omega), at_ _ (by omega)]
  exact h m m0 (by omega)
/-- One exchanged with the last one. -/
theorem Ord.take (h : Ord ky L (n + 1)) (hl : L.length = n + 1) (hi : i < n) : Hx ky (exch L i n) n i := by
  refine ⟨fun m m0 hm e e2 => ?_, fun m m0 hm hp i0 => ?_⟩
  · rw [exch_o L i n m (by omega) e (by omega), exch_o L i n _ (by omega) e2 (by omega)]
    exact h m m0 (by omega)
  · rw [exch_o L i n m (by omega) (by omega) (by omega), exch_o L i n _ (by omega) (by omega) (by omega)]
    exact (h.hx i).b m m0 (by omega) hp i0
theorem Ord.less (h : Ord ky L n) (hm : j ≤ n) : Ord ky L j := fun m m0 hk => h m m0 (by omega)
/-- The one on top is the first. -/
theorem Ord.top (h : Ord ky L n) : ∀ m, m < n → ¬ lt ky L[m]! L[0]! := by
  intro m
  induction m using Nat.strongRecOn with
  | _ m ih =>
    intro hm
    by_cases e : m = 0
    · subst e; exact lt_irr
    · exact le_trans (ih ((m - 1) / 2) (by omega) (by omega)) (h m (by omega) hm)
theorem Ord.first (h : Ord ky L L.length) {a : Nat} (ha : a ∈ L) : ¬ lt ky a L[0]! := by
  obtain ⟨k, hk, rfl⟩ := (mem_at L a).1 ha
  exact h.top k hk
end

/-- Where each thing stands: at its place in the list, or nowhere. -/
structure Pl (f : Nat → Int) (L : List Nat) (n : Nat) : Prop where
  i : ∀ m, m < L.length → f L[m]! = (m : Int)
  o : ∀ a, a < n → a ∉ L → f a = -1
section
variable {f : Nat → Int} {L : List Nat} {n : Nat}
theorem Pl.inj (h : Pl f L n) {a b : Nat} (ha : a < L.length) (hb : b < L.length) (e : L[a]! = L[b]!) : a = b := by
  have h1 := h.i a ha
  rw [e, h.i b hb] at h1
  omega
theorem Pl.nodup (h : Pl f L n) : L.Nodup := by
  unfold List.Nodup
  rw [List.pairwise_iff_getElem]
  intro a b ha hb hab e
  have := h.inj ha hb (by rw [getElem!_pos _ a ha, getElem!_pos _ b hb, e])
  omega
theorem Pl.at (h : Pl f L n) {a : Nat} (ha : a ∈ L) : ∃ m, m < L.length ∧ L[m]! = a ∧ f a = (m : Int) := by
  obtain ⟨k, hk, rfl⟩ := (mem_at L a).1 ha
  exact ⟨k, hk, rfl, h.i k hk⟩
theorem Pl.exch (h : Pl f L n) {i j : Nat} (hi : i < L.length) (hj : j < L.length) : Pl (fun a => if a = L[i]! then (j : Int) else if a = L[j]! then (i : Int) else f a) (exch L i j) n := by
  have hs := Same.exch (c := L.length) L i j hi hj hi hj
  refine ⟨fun m hm => ?_, fun a ha hn => ?_⟩
  · rw [exch_len] at hm
    by_cases e : m = j
    · subst e; rw [exch_j L i m hm, if_pos rfl]
    · by_cases e2 : m = i
      · subst e2
        rw [exch_i L m j hm, if_pos rfl, if_neg (fun c => e (h.inj hj hm c).symm)]
      · rw [exch_o L i j m hm e2 e, if_neg (fun c => e2 (h.inj hm hi c)), if_neg (fun c => e (h.inj hm hj c))]
        exact h.i m hm
  · have hn' : a ∉ L := fun c => hn ((hs.mem a).1 c)
    rw [if_neg (fun c : a = L[i]! => hn' (by rw [c]; exact at_mem hi)), if_neg (fun c : a = L[j]! => hn' (by rw [c]; exact at_mem hj))]
    exact h.o a ha hn'
theorem app_at (L : List Nat) (x m : Nat) (hm : m < L.length) : (L ++ [x])[m]! = L[m]! := by
  rw [getElem!_pos _ m (by simp; omega), List.getElem_append_left (by omega), getElem!_pos _ m (by omega)]
theorem app_last (L : List Nat) (x : Nat) : (L ++ [x])[L.length]! = x := by
  rw [getElem!_pos _ _ (by simp)]; simp
theorem Pl.push (h : Pl f L n) {x : Nat} (hx : x ∉ L) : Pl (fun a => if a = x then (L.length : Int) else f a) (L ++ [x]) n := by
  refine ⟨fun m hm => ?_, fun a ha hn => ?_⟩
  · rw [List.length_append, List.length_singleton] at hm
    by_cases e : m = L.length
    · subst e; rw [app_last, if_pos rfl]
    · have hm' : m < L.length := by omega
      rw [app_at L x m hm', if_neg (fun c : L[m]! = x => hx (by rw [← c]; exact at_mem hm'))]
      exact h.i m hm'
  · rw [List.mem_append, List.mem_singleton] at hn
    rw [if_neg (fun c => hn (Or.inr c))]
    exact h.o a ha fun c => hn (Or.inl c)
theorem Pl.last {x : Nat} (h : Pl f (L ++ [x]) n) : x ∉ L := by
  have := h.nodup
  rw [List.nodup_append] at this
  intro c
  exact this.2.2 x c x (by simp) rfl
theorem Pl.pop {x : Nat} (h : Pl f (L ++ [x]) n) : Pl (fun a => if a = x then (-1 : Int) else f a) L n := by
  have hx := h.last
  refine ⟨fun m hm => ?_, fun a ha hn => ?_⟩
  · have := h.i m (by simp; omega)
    rw [app_at L x m hm] at this
    rw [if_neg (fun c : L[m]! = x => hx (by rw [← c]; exact at_mem hm))]
    exact this
  · by_cases e : a = x
    · rw [if_pos e]
    · rw [if_neg e]
      exact h.o a ha (by simp [hn, e])
end
/-- No more things than there are. -/
theorem nodup_len {l : List Nat} : ∀ {m : List Nat}, l.Nodup → (∀ n ∈ l, n ∈ m) → l.length ≤ m.length := by
  induction l with
  | nil => intro m _ _; simp
  | cons x r ih =>
    intro m hn hs
    have hx : x ∈ m := hs x (by simp)
    obtain ⟨h1, h2⟩ := List.nodup_cons.1 hn
    have h3 := ih (m := m.erase x) h2 (fun n hn' => (List.mem_erase_of_ne (fun e => h1 (by rw [← e]; exact hn'))).2 (hs n (by simp [hn'])))
    rw [List.length_erase_of_mem hx] at h3
    have := List.length_pos_of_mem hx
    simp only [List.length_cons]
    omega
theorem same_len {l m : List Nat} (h : l.Nodup) (k : m.Nodup) (e : ∀ a, a ∈ l ↔ a ∈ m) : l.length = m.length := by
  have h1 := nodup_len h fun a ha => (e a).1 ha
  have h2 := nodup_len k fun a ha => (e a).2 ha
  omega
theorem bd_len {l : List Nat} {n : Nat} (h : l.Nodup) (hb : ∀ a ∈ l, a < n) : l.length ≤ n := by
  have := nodup_len (m := List.range n) h fun a ha => List.mem_range.2 (hb a ha)
  simpa using this
end Go.Proofs.YtmfajaalbklfeaaDoor.HeapP
