/-
  What a tick takes slot by slot, and what is left.
-/
import Derived.Test.YtdgfaolflnljaaaDoorWheelSort
namespace Go.Proofs.YtdgfaolflnljaaaDoor
open Go.RowKit Go.Lib WheelP Go.Maps

theorem Keep.lower {w w1 : World} {n : Nat} (h : Below n w w1) : Keep (fun b => n ≤ b) w w1 :=
  ⟨h.os, h.tape, h.output, h.size, fun k _ hn => h.block k (by omega)⟩
namespace WheelP
theorem sweep_same (a x j : Nat) : (if (if a ≤ x ∧ a % 64 = j then 0 else a) % 64 = j then (if a ≤ x ∧ a % 64 = j then 0 else a) else 0) = (if (if a % 64 = j then a else 0) ≤ x then 0 else (if a % 64 = j then a else 0)) := by
  by_cases h : a % 64 = j
  · rw [if_pos h]
    by_cases h2 : a ≤ x
    · have e : (if a ≤ x ∧ a % 64 = j then 0 else a) = 0 := if_pos ⟨h2, h⟩
      rw [e, if_pos h2]
      split <;> rfl
    · have e : (if a ≤ x ∧ a % 64 = j then 0 else a) = a := if_neg fun c => h2 c.1
      rw [e, if_pos h, if_neg h2]
  · have e : (if a ≤ x ∧ a % 64 = j then 0 else a) = a := if_neg fun c => h c.2
    rw [e, if_neg h, if_pos (Nat.zero_le _)]
theorem sweep_other (a x j i : Nat) (hi : i ≠ j) : (if (if a ≤ x ∧ a % 64 = j then 0 else a) % 64 = i then (if a ≤ x ∧ a % 64 = j then 0 else a) else 0) = (if a % 64 = i then a else 0) := by
  by_cases h : a ≤ x ∧ a % 64 = j
  · rw [if_pos h, if_neg (show ¬ a % 64 = i by omega)]; split <;> rfl
  · rw [if_neg h]
/-- What is left behind s slots. -/
def pt (f : Nat → Nat) (now x s : Nat) : Nat → Nat := fun k => if f k ≤ x ∧ (f k - now - 1) % 64 < s then 0 else f k
theorem pt_zero (f : Nat → Nat) (now x k : Nat) : f k = pt f now x 0 k := by
  unfold pt
  rw [if_neg (by omega)]
theorem pt_step {f : Nat → Nat} {now x s : Nat} (hs : s < 64) (k : Nat) (hl : f k = 0 ∨ now < f k) :
    (if pt f now x s k ≤ x ∧ pt f now x s k % 64 = (now + 1 + s) % 64 then 0 else pt f now x s k) = pt f now x (s + 1) k := by
  unfold pt
  by_cases h1 : f k ≤ x ∧ (f k - now - 1) % 64 < s
  · rw [if_pos h1, if_pos (show f k ≤ x ∧ (f k - now - 1) % 64 < s + 1 by omega)]
    split <;> rfl
  · rw [if_neg h1]
    by_cases h2 : f k ≤ x ∧ (f k - now - 1) % 64 < s + 1
    · rw [if_pos h2]
      by_cases h0 : f k = 0
      · rw [h0]; split <;> rfl
      · rw [if_pos (by omega)]
    · rw [if_neg h2, if_neg (by omega)]
theorem pt_end {f : Nat → Nat} {now x : Nat} (k : Nat) (hl : f k = 0 ∨ now < f k) : pt f now x (min (x - now) 64) k = rest f x k := by
  unfold pt rest
  by_cases h : f k ≤ x
  · rw [if_pos h]
    by_cases h0 : f k = 0
    · rw [h0]; split <;> rfl
    · rw [if_pos ⟨h, by
        have h1 := Nat.mod_lt (f k - now - 1) (show 64 > 0 by omega)
        have h2 := Nat.mod_le (f k - now - 1) 64
        omega⟩]
  · rw [if_neg h, if_neg (fun c => h c.1)]
/-- What has been taken out of s slots. -/
structure Got (f : Nat → Nat) (now x s : Nat) (L : List Du) : Prop where
  nodup : L.Nodup
  mem : ∀ p : Du, p ∈ L ↔ p.1 < 64 ∧ 0 < f p.1 ∧ f p.1 ≤ x ∧ (f p.1 - now - 1) % 64 < s ∧ p.2 = f p.1
theorem Got.start (f : Nat → Nat) (now x : Nat) : Got f now x 0 [] := ⟨List.nodup_nil, fun p => by simp⟩
theorem Got.len {f : Nat → Nat} {now x s : Nat} {L : List Du} (h : Got f now x s L) : L.length ≤ 64 := by
  have hn : (L.map (·.1)).Nodup := by
    unfold List.Nodup
    rw [List.pairwise_map]
    refine List.Pairwise.imp_of_mem ?_ h.nodup
    intro a b ha hb hne e
    obtain ⟨_, _, _, _, a5⟩ := (h.mem a).1 ha
    obtain ⟨_, _, _, _, b5⟩ := (h.mem b).1 hb
    exact hne (Prod.ext e (by rw [a5, b5, e]))
  have hs := bd_len (n := 64) hn fun x hx => by
    obtain ⟨p, hp, rfl⟩ := List.mem_map.1 hx
    exact ((h.mem p).1 hp).1
  simpa using hs
theorem Tk.none {g : Nat → Nat} {x : Nat} (h : ∀ k, k < 64 → g k = 0) : Tk g x (fun _ => false) [] := by
  refine ⟨List.nodup_nil, fun p => ⟨fun h => by simp at h, ?_⟩⟩
  rintro ⟨h1, h2, _⟩
  rw [h _ h1] at h2
  omega
theorem Got.more {f : Nat → Nat} {now x s : Nat} {L L1 : List Du} (hs : s < 64) (hl : ∀ k, k < 64 → f k = 0 ∨ now < f k) (h : Got f now x s L) (h1 : Tk (sl (pt f now x s) ((now + 1 + s) % 64)) x (fun _ => false) L1) : Got f now x (s + 1) (L ++ L1) := by
  have key : ∀ k, k < 64 → 0 < f k → ((0 < sl (pt f now x s) ((now + 1 + s) % 64) k ∧ sl (pt f now x s) ((now + 1 + s) % 64) k ≤ x) ↔ (f k ≤ x ∧ (f k - now - 1) % 64 = s)) := by
    intro k hk h0
    have hlk := hl k hk
    unfold sl pt
    by_cases c : f k ≤ x ∧ (f k - now - 1) % 64 < s
    · rw [if_pos c]
      constructor
      · rintro ⟨d, _⟩; revert d; split <;> omega
      · omega
    · rw [if_neg c]
      by_cases d : f k % 64 = (now + 1 + s) % 64
      · rw [if_pos d]; omega
      · rw [if_neg d]; omega
  have val : ∀ k, 0 < sl (pt f now x s) ((now + 1 + s) % 64) k → sl (pt f now x s) ((now + 1 + s) % 64) k = f k ∧ 0 < f k := by
    intro k
    unfold sl
    have e : pt f now x s k = 0 ∨ pt f now x s k = f k := by
      unfold pt
      split
      · exact Or.inl rfl
      · exact Or.inr rfl
    rcases e with e | e
    · rw [e]; split <;> omega
    · rw [e]
      split
      · intro c; exact ⟨rfl, c⟩
      · omega
  have m1 : ∀ p : Du, p ∈ L1 ↔ p.1 < 64 ∧ 0 < f p.1 ∧ f p.1 ≤ x ∧ (f p.1 - now - 1) % 64 = s ∧ p.2 = f p.1 := by
    intro p
    rw [h1.mem]
    constructor
    · rintro ⟨a1, a2, a3, _, a5⟩
      obtain ⟨v1, v2⟩ := val _ a2
      obtain ⟨b1, b2⟩ := (key _ a1 v2).1 ⟨a2, a3⟩
      exact ⟨a1, v2, b1, b2, by rw [a5, v1]⟩
    · rintro ⟨a1, a2, a3, a4, a5⟩
      obtain ⟨b1, b2⟩ := (key _ a1 a2).2 ⟨a3, a4⟩
      exact ⟨a1, b1, b2, rfl, by rw [a5, (val _ b1).1]⟩
  refine ⟨?_, fun p => ?_⟩
  · rw [List.nodup_append]
    refine ⟨h.nodup, h1.nodup, fun a ha b hb e => ?_⟩
    subst e
    obtain ⟨_, _, _, a4, _⟩ := (h.mem a).1 ha
    obtain ⟨_, _, _, b4, _⟩ := (m1 a).1 hb
    omega
  · rw [List.mem_append, h.mem, m1]
    omega
/-- What is told: all that is due, in its order. -/
structure Due (f : Nat → Nat) (x : Nat) (L : List Du) : Prop where
  ord : L.Pairwise ltD
  mem : ∀ p : Du, p ∈ L ↔ p.1 < 64 ∧ 0 < f p.1 ∧ f p.1 ≤ x ∧ p.2 = f p.1
theorem Due.one {f : Nat → Nat} {x : Nat} {L M : List Du} (h : Due f x L) (k : Due f x M) : L = M :=
  one_list h.ord k.ord fun p => (h.mem p).trans (k.mem p).symm
theorem Got.due {f : Nat → Nat} {now x : Nat} {L M : List Du} (hl : ∀ k, k < 64 → f k = 0 ∨ now < f k) (h : Got f now x (min (x - now) 64) L) (hp : M.Perm L) (ho : M.Pairwise ltD) : Due f x M := by
  refine ⟨ho, fun p => ?_⟩
  rw [hp.mem_iff, h.mem]
  constructor
  · rintro ⟨a1, a2, a3, _, a5⟩; exact ⟨a1, a2, a3, a5⟩
  · rintro ⟨a1, a2, a3, a4⟩
    refine ⟨a1, a2, a3, ?_, a4⟩
    have := hl _ a1
    have h1 := Nat.mod_lt (f p.1 - now - 1) (show 64 > 0 by omega)
    have h2 := Nat.mod_le (f p.1 - now - 1) 64
    omega
end WheelP
section
variable {w w1 : World} {p now : Nat} {m : Nat → Option Nat} {f : Nat → Nat}
theorem Whl.drew (h : Whl w p m now f) : Whl w.drew p m now f := h.below (Below.refl _ _).drew
/-- A slot swept. -/
theorem Whl.sweep (h : Whl w p m now f) {j b x : Nat} (hj : j < 64) (hm : m j = some b) (ht : Keep (fun y => y = b) w w1) (hn : MapAt w1 b (rest (sl f j) x)) : Whl w1 p m now (fun k => if f k ≤ x ∧ f k % 64 = j then 0 else f k) := by
  have hp := (h.mp j b hj hm).1
  have hb := ht.block p h.lt (fun e => hp e.symm)
  refine ⟨(World.cell?_of_block (w := w) (a := ⟨p, 0, none⟩) hb).trans h.c0, fun i hi => (World.cell?_of_block (w := w) (a := ⟨p, 1 + i, none⟩) hb).trans (h.cm i hi),
    fun o => (World.frozen?_of_block (w := w) (a := ⟨p, o, none⟩) hb).trans (h.fz o), Nat.lt_of_lt_of_le h.lt ht.size, fun i c hi hc => ?_, fun i hi hc l hl => ?_, h.one, fun l hl => ?_, h.nle⟩
  · refine ⟨(h.mp i c hi hc).1, ?_⟩
    by_cases e : i = j
    · subst e
      rw [hm] at hc
      cases hc
      exact hn.congr fun k _ => (sweep_same (f k) x i).symm
    · refine ((h.mp i c hi hc).2.frame (ht.block c (h.mp i c hi hc).2.lt fun ec => ?_)).congr fun k _ => (sweep_other (f k) x j i e).symm
      subst ec
      exact e (h.one i j c hi hj hc hm)
  · have e : i ≠ j := fun e => by rw [e, hm] at hc; cases hc
    have := h.no i hi hc l hl
    unfold sl at this ⊢
    rw [sweep_other (f l) x j i e]
    exact this
  · by_cases c : f l ≤ x ∧ f l % 64 = j
    · rw [if_pos c]; exact Or.inl rfl
    · rw [if_neg c]; exact h.late l hl
/-- A slot without a map. -/
theorem Whl.pass (h : Whl w p m now f) {j x : Nat} (hj : j < 64) (hm : m j = none) : Whl w p m now (fun k => if f k ≤ x ∧ f k % 64 = j then 0 else f k) := by
  refine h.congr fun k hk => ?_
  have := h.no j hj hm k hk
  unfold sl at this
  by_cases c : f k ≤ x ∧ f k % 64 = j
  · rw [if_pos c]
    rwa [if_pos c.2] at this
  · rw [if_neg c]
/-- The current time anew. -/
theorem Whl.tick (h : Whl w p m now f) {x : Nat} (hx : x ≤ 1099511627776) (hl : ∀ k, k < 64 → f k = 0 ∨ x < f k) : Whl (w.setCell ⟨p, 0, none⟩ (.int .i64 (x : Int))) p m x f := by
  refine ⟨World.cell?_setCell_same _ _ _ h.c0, fun i hi => ?_, fun o => (World.frozen?_setCell _ _ _ _).trans (h.fz o), by simpa [World.setCell] using h.lt, fun i b hi hm => ⟨(h.mp i b hi hm).1, (h.mp i b hi hm).2.frame (Below.heap_setCell _ _ _ _ (h.mp i b hi hm).1)⟩, h.no, h.one, fun k hk => ?_, hx⟩
  · rw [set_if _ p (1 + i) 0 _ _ (h.cm i hi), if_neg (by omega)]
  · have := h.late k hk
    have := hl k hk
    omega
end
/-- The ids of a list. -/
def zsD (L : List Du) : List Int := L.map fun p => (p.1 : Int)
end Go.Proofs.YtdgfaolflnljaaaDoor
