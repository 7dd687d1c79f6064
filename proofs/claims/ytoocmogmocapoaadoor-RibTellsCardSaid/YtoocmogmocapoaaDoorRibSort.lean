/-
  PLAIN FACTS (of no program) on routes in their order: what is learnt stands where it belongs.
-/
import Derived.Test.YtoocmogmocapoaaDoorRibLearn
namespace Go.Proofs.YtoocmogmocapoaaDoor
namespace RibP

/-- In their order, each net of a neighbour once. -/
def Srtd (M : List Rt) : Prop := M.Pairwise fun a b => Hd.lt a.h b.h = true
theorem lt_key {a b c d : Hd} (h1 : a.key = c.key) (h2 : b.key = d.key) : Hd.lt a b = Hd.lt c d := by
  have e1 : a.f = c.f := congrArg Prod.fst h1
  have e2 : a.n = c.n := congrArg Prod.snd h1
  have e3 : b.f = d.f := congrArg Prod.fst h2
  have e4 : b.n = d.n := congrArg Prod.snd h2
  unfold Hd.lt
  rw [e1, e2, e3, e4]
theorem Srtd.map {M : List Rt} (h : Srtd M) (g : Rt → Rt) (hg : ∀ e, (g e).h.key = e.h.key) : Srtd (M.map g) := by
  unfold Srtd
  rw [List.pairwise_map]
  exact List.Pairwise.imp (fun {a b} hab => by rw [lt_key (hg a) (hg b)]; exact hab) h
theorem Srtd.age {M : List Rt} (h : Srtd M) (now : Int) : Srtd (age now M) := (h.map (ageR now) (ageR_key now)).filter _
theorem Srtd.lose {M : List Rt} (h : Srtd M) (f now : Int) : Srtd (lose f now M) := h.map (loseR f now) (loseR_key f now)
theorem Srtd.news {M : List Rt} (h : Srtd M) (x : Rt) : Srtd (M.map (news x)) := h.map (RibP.news x) (news_key x)
theorem Srtd.told {M : List Rt} (h : Srtd M) : RTold M (M.map Rt.h) := by
  refine ⟨List.Perm.refl _, ?_⟩
  rw [List.pairwise_map]
  refine List.Pairwise.imp (fun {a b} hab => ?_) h
  cases h1 : Hd.lt b.h a.h with
  | false => rfl
  | true =>
    have := Hd.swo.trans _ _ _ hab h1
    rw [Hd.swo.irrefl] at this
    exact this.symm
/-- Put where it belongs. -/
theorem Srtd.insert {M : List Rt} (h : Srtd M) (x : Rt) (k : Nat) (hk : k ≤ M.length) (hl : ∀ i, i < k → Hd.lt M[i]!.h x.h = true) (hr : k < M.length → Hd.lt M[k]!.h x.h = false) (hx : M.any (sm x) = false) : Srtd (M.take k ++ [x] ++ M.drop k) := by
  have hxk : ∀ e ∈ M, e.h.key ≠ x.h.key := fun e he e1 => by
    have : M.any (sm x) = true := List.any_eq_true.2 ⟨e, he, (sm_iff x e).2 e1⟩
    rw [hx] at this
    cases this
  have hle : ∀ i (_ : i < M.length), M[i]! = M[i] := fun i hi => getElem!_pos M i hi
  have right : ∀ j (hj : j < M.length), k ≤ j → Hd.lt x.h M[j].h = true := by
    intro j hj hkj
    have hkl : k < M.length := by omega
    have h1 := hr hkl
    rw [hle k hkl] at h1
    have h2 : Hd.lt x.h M[k].h = true := by
      cases h3 : Hd.lt x.h M[k].h with
      | true => rfl
      | false => exact absurd (Hd.tot _ _ h1 h3) (hxk _ (List.getElem_mem hkl))
    rcases Nat.lt_or_ge k j with h4 | h4
    · exact Hd.swo.trans _ _ _ h2 (List.pairwise_iff_getElem.1 h k j hkl hj h4)
    · obtain rfl : k = j := by omega
      exact h2
  unfold Srtd
  rw [List.append_assoc, List.pairwise_append]
  refine ⟨List.Pairwise.sublist (List.take_sublist _ _) h, ?_, fun a ha b hb => ?_⟩
  · rw [List.singleton_append, List.pairwise_cons]
    refine ⟨fun b hb => ?_, List.Pairwise.sublist (List.drop_sublist _ _) h⟩
    obtain ⟨i, hi, rfl⟩ := List.getElem_of_mem hb
    rw [List.getElem_drop]
    exact right _ _ (by omega)
  · obtain ⟨i, hi, rfl⟩ := List.getElem_of_mem ha
    rw [List.length_take] at hi
    rw [List.getElem_take]
    have h1 := hl i (by omega)
    rw [hle i (by omega)] at h1
    rw [List.singleton_append, List.mem_cons] at hb
    rcases hb with rfl | hb
    · exact h1
    · obtain ⟨j, hj, rfl⟩ := List.getElem_of_mem hb
      rw [List.getElem_drop]
      exact Hd.swo.trans _ _ _ h1 (right _ _ (by omega))
theorem insert_perm {M : List Rt} (x : Rt) (k : Nat) : (M.take k ++ [x] ++ M.drop k).Perm (M ++ [x]) := by
  have h1 : (M.take k ++ [x] ++ M.drop k).Perm (M.take k ++ (M.drop k ++ [x])) := by
    rw [List.append_assoc]
    exact List.Perm.append_left _ List.perm_append_comm
  rw [← List.append_assoc, List.take_append_drop] at h1
  exact h1
theorem any_perm {M L : List Rt} (h : M.Perm L) (x : Rt) : M.any (sm x) = L.any (sm x) := by
  rw [Bool.eq_iff_iff, List.any_eq_true, List.any_eq_true]
  exact ⟨fun ⟨e, h1, h2⟩ => ⟨e, h.mem_iff.1 h1, h2⟩, fun ⟨e, h1, h2⟩ => ⟨e, h.mem_iff.2 h1, h2⟩⟩
theorem age_perm {M L : List Rt} (h : M.Perm L) (now : Int) : (age now M).Perm (age now L) := (h.map _).filter _
theorem lose_perm {M L : List Rt} (h : M.Perm L) (f now : Int) : (lose f now M).Perm (lose f now L) := h.map _
theorem learn_perm {M L : List Rt} (h : M.Perm L) (x : Rt) : (learn x M).Perm (learn x L) := by
  unfold learn
  rw [any_perm h x]
  split
  · exact h.map _
  · split
    · exact h
    · exact h.append (List.Perm.refl _)
theorem full_perm {M L : List Rt} (h : M.Perm L) (x : Rt) : full x M ↔ full x L := by
  unfold full
  rw [any_perm h x, h.length_eq]
theorem keys_perm {M L : List Rt} (h : M.Perm L) : (keys M).Nodup ↔ (keys L).Nodup := (List.Perm.map (fun e : Rt => e.h.key) h).nodup_iff
end RibP
end Go.Proofs.YtoocmogmocapoaaDoor
