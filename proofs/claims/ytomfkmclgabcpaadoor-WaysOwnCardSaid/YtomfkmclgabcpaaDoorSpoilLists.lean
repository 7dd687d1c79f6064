/-
  waywardenlaw7.spoil at a list in a block of its own, or none: what it spares.
-/
import Derived.Test.YtomfkmclgabcpaaDoorSpoilInts
import Derived.Test.YtomfkmclgabcpaaDoorSpfLists
namespace Go.Proofs.YtomfkmclgabcpaaDoor
open Go.RowKit Go.Lib

/-- All but one block is as it was. -/
structure Spared (o : Option Nat) (w w1 : World) : Prop where
  below : ∀ n, n ≤ w.heap.size → (∀ g, o = some g → n ≤ g) → Below n w w1
  size : w1.heap.size = w.heap.size
  cell : ∀ a : Addr, o ≠ some a.block → w1.cell? a = w.cell? a
  frozen : ∀ a : Addr, w1.frozen? a = w.frozen? a
/-- A list that may be written over. -/
def Bare (w : World) (v : Value) (n : Nat) : Prop := (v = .slice none 0 0 ∧ n = 0) ∨ ∃ g c, v = .slice (some ⟨g, 0, none⟩) n c ∧ (∀ i, i < n → ∃ u, w.cell? ⟨g, i, none⟩ = some u) ∧ ∀ i, w.frozen? ⟨g, i, none⟩ = false
theorem Vec.bare {w : World} {g n : Nat} {d : Nat → Int} (h : Vec w g n d) : Bare w (.slice (some ⟨g, 0, none⟩) n n) n := Or.inr ⟨g, n, rfl, fun i hi => ⟨_, h.c i hi⟩, h.f⟩
theorem OwnI.bare {w : World} {base : Nat} {v : Value} {l : List Int} (h : OwnI w base v l) : Bare w v l.length := by
  obtain ⟨p, c, hv, hp⟩ := h.arg
  obtain ⟨_, ⟨hv2, hn⟩ | ⟨g, cap, cur, hv2, _, hg, _⟩⟩ := h
  · exact Or.inl ⟨hv2, hn⟩
  · refine Or.inr ⟨g, cap, hv2, fun i hi => ?_, fun i => by simp [World.frozen?, hg]⟩
    rcases hp with e | ⟨b, off, hp, _, hs⟩
    · rw [e] at hi; simp at hi
    · rw [hv2, hp] at hv
      injection hv with hv _ _
      injection hv with hv
      injection hv with h1 h2 _
      have := hs i hi
      rw [← h1, ← h2, Nat.zero_add] at this
      exact ⟨_, this⟩
theorem Bare.spared {w w1 : World} {v : Value} {n : Nat} {o : Option Nat} (h : Bare w v n) (hs : Spared o w w1) (hne : ∀ g, v.ownBlock = some g → o ≠ some g) : Bare w1 v n := by
  rcases h with h | ⟨g, c, hv, h1, h2⟩
  · exact Or.inl h
  · refine Or.inr ⟨g, c, hv, fun i hi => ?_, fun i => (hs.frozen _).trans (h2 i)⟩
    obtain ⟨u, hu⟩ := h1 i hi
    exact ⟨u, (hs.cell ⟨g, i, none⟩ (hne g (by rw [hv]; rfl))).trans hu⟩
theorem arg_spared {w w1 : World} {v : Value} {l : List Int} {o : Option Nat} (h : ArgI w v l) (hs : Spared o w w1) (hne : ∀ g, v.ownBlock = some g → o ≠ some g) : ArgI w1 v l := by
  obtain ⟨p, c, hv, h⟩ := h
  refine ⟨p, c, hv, ?_⟩
  rcases h with h | ⟨b, off, hp, hlt, hse⟩
  · exact Or.inl h
  · exact Or.inr ⟨b, off, hp, by rw [hs.size]; exact hlt, fun i hi => (hs.cell ⟨b, off + i, none⟩ (hne b (by rw [hv, hp]; rfl))).trans (hse i hi)⟩
/-- waywardenlaw7.spoil. -/
theorem spoil_bare (w : World) (v : Value) (n : Nat) (x : Int) (hn : n < 4611686018427387904) (h : Bare w v n) :
    Calls Tryd.prog 17 #[v, .int .i64 x] w fun e w' => e = .returned (.tuple #[]) ∧ Spared v.ownBlock w w' := by
  rcases h with ⟨rfl, rfl⟩ | ⟨g, c, rfl, h1, h2⟩
  · refine (spoil_zero w none 0 x).mono ?_
    rintro e w' ⟨rfl, rfl⟩
    exact ⟨rfl, fun _ _ _ => Below.refl _ _, rfl, fun _ _ => rfl, fun _ => rfl⟩
  · refine (spoil_at w g n c x hn h1 h2).mono ?_
    rintro e w' ⟨rfl, hb⟩
    exact ⟨rfl, fun m _ hm => hb.below.mono (hm g rfl), hb.size, fun a ha => hb.cell a (fun e => ha (by show some g = _; rw [e])), hb.frozen⟩
end Go.Proofs.YtomfkmclgabcpaaDoor
