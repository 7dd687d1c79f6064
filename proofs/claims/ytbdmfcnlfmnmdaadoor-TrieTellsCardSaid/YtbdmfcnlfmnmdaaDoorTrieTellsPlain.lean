/-
  PLAIN FACTS: the document's table (a list of networks with their numbers) and ours hold the same: what putting and dropping make of both; where a network is; what is found; the networks in their order.
-/
import Derived.Test.YtbdmfcnlfmnmdaaDoorRefPut
import Derived.Test.YtbdmfcnlfmnmdaaDoorRefFind
import Derived.Test.YtbdmfcnlfmnmdaaDoorRefOrdered
import Derived.Test.YtbdmfcnlfmnmdaaDoorTrieDrop
import Derived.Test.YtbdmfcnlfmnmdaaDoorTriePut
import Derived.Test.YtbdmfcnlfmnmdaaDoorTrieFind
namespace Go.Proofs.YtbdmfcnlfmnmdaaDoor
open Go.RowKit

/-- The same is held. -/
structure TM (M : Mt) (f : Nt → Option Int) : Prop where
  nd : (nets M).Nodup
  eq : ∀ n z, f n = some z ↔ (n, z) ∈ M
theorem TM.gone {M : Mt} {f : Nt → Option Int} (h : TM M f) (n : Nt) : f n = none ↔ n ∉ nets M := by
  constructor
  · intro h1 h2
    obtain ⟨x, hx, rfl⟩ := List.mem_map.1 h2
    have := (h.eq x.1 x.2).2 hx
    rw [h1] at this
    exact absurd this (by simp)
  · intro h1
    cases e : f n with
    | none => rfl
    | some z => exact absurd (List.mem_map.2 ⟨(n, z), (h.eq n z).1 e, rfl⟩) h1
theorem TM.at {M : Mt} {f : Nt → Option Int} (h : TM M f) (i : Nat) (hi : i < M.length) : f M[i]!.1 = some M[i]!.2 := by
  rw [h.eq, getElem!_pos M i hi]
  exact List.getElem_mem hi
theorem TM.start : TM [] (fun _ => none) := ⟨by simp [nets], fun n z => by simp⟩
theorem dropM_mem (M : Mt) (n : Nt) (x : Nt × Int) : x ∈ dropM M n ↔ x ∈ M ∧ x.1 ≠ n := by
  unfold dropM
  rw [List.mem_filter]; simp
theorem dropM_nd {M : Mt} {n : Nt} (h : (nets M).Nodup) : (nets (dropM M n)).Nodup := by
  refine h.sublist ?_
  unfold nets dropM
  exact List.filter_sublist.map _
theorem dropM_not (M : Mt) (n : Nt) : n ∉ nets (dropM M n) := by
  intro h
  obtain ⟨x, hx, e⟩ := List.mem_map.1 h
  exact ((dropM_mem M n x).1 hx).2 e
theorem TM.drop {M : Mt} {f : Nt → Option Int} (h : TM M f) (n : Nt) : TM (dropM M n) (setF f n none) := by
  refine ⟨dropM_nd h.nd, fun m z => ?_⟩
  rw [dropM_mem]
  unfold setF
  by_cases e : m = n
  · simp [e]
  · rw [if_neg e, h.eq]; simp [e]
theorem TM.put {M : Mt} {f : Nt → Option Int} (h : TM M f) (n : Nt) (z : Int) : TM (dropM M n ++ [(n, z)]) (setF f n (some z)) := by
  refine ⟨?_, fun m y => ?_⟩
  · rw [nets_app]
    refine List.nodup_append.2 ⟨dropM_nd h.nd, by simp [nets], fun a ha b hb => ?_⟩
    have : b = n := by simpa [nets] using hb
    subst this
    intro e
    subst e
    exact dropM_not M _ ha
  · rw [List.mem_append, dropM_mem]
    unfold setF
    by_cases e : m = n
    · subst e; simp [eq_comm]
    · rw [if_neg e, h.eq]; simp [e]
theorem TM.len {w : World} {S : Nat → Prop} {tb : Nat} {M : Mt} {f : Nt → Option Int} {L : List Nt} (h : TM M f) (hT : Tab w S tb f L) : M.length = L.length := by
  rw [← nets_len]
  refine same_len (rises_nodup hT.rises) h.nd fun n => ?_
  rw [hT.mem]
  constructor
  · intro h1
    obtain ⟨x, hx, rfl⟩ := List.mem_map.1 h1
    exact ⟨x.2, (h.eq _ _).2 hx⟩
  · rintro ⟨z, hz⟩
    exact List.mem_map.2 ⟨(n, z), (h.eq _ _).1 hz, rfl⟩
theorem TM.ok {w : World} {S : Nat → Prop} {tb : Nat} {M : Mt} {f : Nt → Option Int} {L : List Nt} (h : TM M f) (hT : Tab w S tb f L) : ∀ x ∈ M, x.1.1 < 4294967296 := fun x hx => (hT.ok x.1 x.2 ((h.eq _ _).2 hx)).1
/-- Where a network is that is there. -/
theorem TM.place {M : Mt} {f : Nt → Option Int} (h : TM M f) (n : Nt) (hn : n ∈ nets M) : ∃ j : Nat, plc (nets M) n = (j : Int) ∧ j < M.length ∧ f n = some (vals M)[j]! := by
  obtain ⟨j, h1, h2, h3⟩ := plc_at hn
  rw [nets_len] at h2
  refine ⟨j, h1, h2, ?_⟩
  rw [nets_at M j h2] at h3
  rw [vals_at M j h2, ← h3]
  exact h.at j h2
/-- What is found. -/
theorem TM.found {M : Mt} {f : Nt → Option Int} {a : Nat} {q : Option (Nat × Int)} (h : TM M f) (hF : Fnd f a q) :
    (fndM M a M.length = none ∧ q = none) ∨ ∃ j k z, fndM M a M.length = some j ∧ j < M.length ∧ q = some (k, z) ∧ M[j]!.1 = fN q a ∧ M[j]!.2 = fZ q := by
  cases e : fndM M a M.length with
  | none =>
    refine Or.inl ⟨rfl, ?_⟩
    refine hF.only (g := f) (fun _ => rfl) (p := none) fun n hn => ?_
    cases e2 : f n with
    | none => rfl
    | some z =>
      obtain ⟨i, hi, hx⟩ := List.getElem_of_mem ((h.eq n z).1 e2)
      have := fndM_none M a M.length e i hi
      rw [getElem!_pos M i hi, hx] at this
      rw [this] at hn
      exact absurd hn (by simp)
  | some j =>
    have hj := fndM_lt M a _ j e
    obtain ⟨h1, h2⟩ := fndM_some M a _ j e
    obtain ⟨k, hk1, hk2, hk3⟩ := (PrefP.has_iff _ _ _).1 h1
    have hq : q = some (k, M[j]!.2) := by
      refine hF.only (g := f) (fun _ => rfl) (p := some (k, M[j]!.2)) ⟨hk2, ?_, fun n hn hne => ?_⟩
      · have : ((PrefP.cut a k, (k : Int)) : Nt) = M[j]!.1 := Prod.ext hk3 hk1.symm
        rw [this]; exact h.at j hj
      · cases e2 : f n with
        | none => exact absurd e2 hne
        | some z =>
          obtain ⟨i, hi, hx⟩ := List.getElem_of_mem ((h.eq n z).1 e2)
          have := h2 i hi (by rw [getElem!_pos M i hi, hx]; exact hn)
          rw [getElem!_pos M i hi, hx, hk1] at this
          exact this
    refine Or.inr ⟨j, k, M[j]!.2, rfl, hj, hq, ?_, ?_⟩
    · rw [hq]; exact Prod.ext hk3.symm hk1
    · rw [hq]; rfl

/-! ### In their order -/
theorem insN_mem (c : List Nt) (x n : Nt) : n ∈ insN c x ↔ n = x ∨ n ∈ c := by
  have h := List.takeWhile_append_dropWhile (p := fun y => Nt.lt y x) (l := c)
  unfold insN
  rw [List.mem_append, List.mem_cons]
  constructor
  · rintro (h1 | h1 | h1)
    · exact Or.inr (by rw [← h]; exact List.mem_append.2 (Or.inl h1))
    · exact Or.inl h1
    · exact Or.inr (by rw [← h]; exact List.mem_append.2 (Or.inr h1))
  · rintro (h1 | h1)
    · exact Or.inr (Or.inl h1)
    · rw [← h] at h1
      rcases List.mem_append.1 h1 with h2 | h2
      · exact Or.inl h2
      · exact Or.inr (Or.inr h2)
theorem insN_cons (y : Nt) (r : List Nt) (x : Nt) : insN (y :: r) x = if Nt.lt y x = true then y :: insN r x else x :: y :: r := by
  unfold insN
  by_cases h : Nt.lt y x = true
  · rw [if_pos h]; simp [h]
  · rw [if_neg h]; simp [h]
theorem insN_rises (x : Nt) : ∀ c : List Nt, (c.Pairwise fun a b => Nt.lt a b = true) → x ∉ c → (insN c x).Pairwise fun a b => Nt.lt a b = true
  | [], _, _ => by simp [insN]
  | y :: r, h, hx => by
    rw [insN_cons]
    obtain ⟨h1, h2⟩ := List.pairwise_cons.1 h
    by_cases hl : Nt.lt y x = true
    · rw [if_pos hl]
      refine List.pairwise_cons.2 ⟨fun b hb => ?_, insN_rises x r h2 (fun e => hx (by simp [e]))⟩
      rcases (insN_mem r x b).1 hb with rfl | hb
      · exact hl
      · exact h1 b hb
    · rw [if_neg hl]
      have hxy : Nt.lt x y = true := by
        have hne : x ≠ y := fun e => hx (by simp [e])
        rw [Nt.lt_iff] at hl ⊢
        rcases Nat.lt_trichotomy x.1 y.1 with h3 | h3 | h3
        · exact Or.inl h3
        · refine Or.inr ⟨h3, ?_⟩
          have : x.2 ≠ y.2 := fun e => hne (Prod.ext h3 e)
          omega
        · omega
      refine List.pairwise_cons.2 ⟨fun b hb => ?_, h⟩
      rcases List.mem_cons.1 hb with rfl | hb
      · exact hxy
      · have := h1 b hb
        rw [Nt.lt_iff] at hxy this ⊢
        omega
theorem ordN_ok (l : List Nt) (h : l.Nodup) : ∀ k, k ≤ l.length → ((ordN (l.take k)).Pairwise fun a b => Nt.lt a b = true) ∧ ∀ n, n ∈ ordN (l.take k) ↔ n ∈ l.take k
  | 0, _ => by simp [ordN]
  | k + 1, hk => by
    obtain ⟨h1, h2⟩ := ordN_ok l h k (by omega)
    have hk' : k < l.length := by omega
    rw [ordN_take l k hk']
    have e : l.take (k + 1) = l.take k ++ [l[k]!] := by
      rw [List.take_add_one, List.getElem?_eq_getElem hk', getElem!_pos l k hk']; rfl
    have hnd : (l.take k ++ [l[k]!]).Nodup := by rw [← e]; exact h.sublist (List.take_sublist _ _)
    have hx : l[k]! ∉ l.take k := fun hm => (List.nodup_append.1 hnd).2.2 _ hm _ (by simp) rfl
    refine ⟨insN_rises _ _ h1 (fun hm => hx ((h2 _).1 hm)), fun n => ?_⟩
    rw [insN_mem, h2 n, e]; simp [or_comm]
theorem TM.order {w : World} {S : Nat → Prop} {tb : Nat} {M : Mt} {f : Nt → Option Int} {L : List Nt} (h : TM M f) (hT : Tab w S tb f L) : ordN (nets M) = L := by
  have ho := ordN_ok (nets M) h.nd (nets M).length (Nat.le_refl _)
  rw [List.take_length] at ho
  refine rises_ext ho.1 hT.rises fun n => ?_
  rw [ho.2 n, hT.mem]
  constructor
  · intro h1
    obtain ⟨x, hx, rfl⟩ := List.mem_map.1 h1
    exact ⟨x.2, (h.eq _ _).2 hx⟩
  · rintro ⟨z, hz⟩
    exact List.mem_map.2 ⟨(n, z), (h.eq _ _).1 hz, rfl⟩
end Go.Proofs.YtbdmfcnlfmnmdaaDoor
