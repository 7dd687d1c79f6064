/-
  TWO WHEELS that are ticked, apart: whatever list was told stays; what two ticks tell is what one tells.
-/
import Derived.Test.YtdgfaolflnljaaaDoorWheelUse
import Derived.Test.YtdgfaolflnljaaaDoorIntApp
namespace Go.Proofs.YtdgfaolflnljaaaDoor
open Go.RowKit Go.Lib WheelP

theorem OwnI.stayK {w w1 : World} {S : Nat → Prop} {base : Nat} {v : Value} {l : List Int} (h : OwnI w base v l) (hk : Keep S w w1) (hs : ∀ q, base ≤ q → ¬ S q) : OwnI w1 base v l := by
  have hp := h.past
  obtain ⟨h1, h2⟩ := h
  refine ⟨h1, ?_⟩
  rcases h2 with h2 | ⟨g, cap, cur, hv, hg0, hg, rest⟩
  · exact Or.inl h2
  · exact Or.inr ⟨g, cap, cur, hv, hg0, by rw [hk.block g (Array.getElem?_eq_some_iff.1 hg).1 (hs g hg0)]; exact hg, rest⟩
/-- An empty list, made anew. -/
theorem OwnI.empty (w : World) : OwnI (w.alloc (.cells #[] 3)) w.heap.size (.slice (some ⟨w.heap.size, 0, none⟩) 0 0) [] := by
  exact World.ownsRow_made w #[] 0 (Nat.le_refl _) (Nat.zero_le _) (by simp)
namespace WheelP
/-- STEP BY STEP: what is due by a time is what is due by an earlier one and what is due then. -/
theorem due_two {f : Nat → Nat} {x y : Nat} {L M R : List Du} (hxy : x ≤ y) (h1 : Due f x L) (h2 : Due (rest f x) y M) (h3 : Due f y R) : R = L ++ M := by
  have m2 : ∀ p : Du, p ∈ M ↔ p.1 < 64 ∧ 0 < f p.1 ∧ x < f p.1 ∧ f p.1 ≤ y ∧ p.2 = f p.1 := by
    intro p
    rw [h2.mem]
    unfold rest
    by_cases c : f p.1 ≤ x
    · rw [if_pos c]; omega
    · rw [if_neg c]; omega
  refine h3.one ⟨List.pairwise_append.2 ⟨h1.ord, h2.ord, fun a ha b hb => ?_⟩, fun p => ?_⟩
  · obtain ⟨_, _, a3, a4⟩ := (h1.mem a).1 ha
    obtain ⟨_, _, b3, _, b5⟩ := (m2 b).1 hb
    exact Or.inl (by omega)
  · rw [List.mem_append, h1.mem, m2]
    omega
theorem rest_two (f : Nat → Nat) {x y : Nat} (hxy : x ≤ y) (k : Nat) : rest (rest f x) y k = rest f y k := by
  unfold rest
  by_cases c : f k ≤ x
  · rw [if_pos c, if_pos (Nat.zero_le _), if_pos (by omega)]
  · rw [if_neg c]
theorem zsD_app (L M : List Du) : zsD (L ++ M) = zsD L ++ zsD M := by simp [zsD]
theorem zsD_len (L : List Du) : (zsD L).length = L.length := by simp [zsD]
end WheelP

/-- Two wheels, in known blocks below N. -/
structure TwoM (w0 : World) (N : Nat) (w : World) (p : Nat) (m1 : Nat → Option Nat) (q : Nat) (m2 : Nat → Option Nat) (n1 : Nat) (f1 : Nat → Nat) (n2 : Nat) (f2 : Nat → Nat) : Prop where
  a : Whl w p m1 n1 f1
  b : Whl w q m2 n2 f2
  ap : ∀ c, InW p m1 c → ¬ InW q m2 c
  lo1 : ∀ c, InW p m1 c → w0.heap.size ≤ c ∧ c < N
  lo2 : ∀ c, InW q m2 c → w0.heap.size ≤ c ∧ c < N
  up : N ≤ w.heap.size
  bel : Below w0.heap.size w0 w
theorem TwoM.of {w0 w : World} {p q n1 n2 : Nat} {f1 f2 : Nat → Nat} (h : TwoW w0 w p q n1 f1 n2 f2) : ∃ m1 m2, TwoM w0 w.heap.size w p m1 q m2 n1 f1 n2 f2 := by
  obtain ⟨m1, m2, h1, h2, h3, h4, h5⟩ := h.ex
  exact ⟨m1, m2, h1, h2, h3, fun c hc => ⟨h4 c hc, h1.in hc⟩, fun c hc => ⟨h5 c hc, h2.in hc⟩, Nat.le_refl _, h.bel⟩
section
variable {w0 w : World} {N p q n1 n2 : Nat} {m1 m2 : Nat → Option Nat} {f1 f2 : Nat → Nat} (h : TwoM w0 N w p m1 q m2 n1 f1 n2 f2)
include h
theorem TwoM.swap : TwoM w0 N w q m2 p m1 n2 f2 n1 f1 := ⟨h.b, h.a, fun c hc e => h.ap c e hc, h.lo2, h.lo1, h.up, h.bel⟩
theorem TwoM.tick (x : Nat) (hx : okT n1 x) : Calls Tryd.prog 11 #[.pointer (some ⟨p, 0, none⟩), .int .i64 x] w fun e w' => ∃ v L, e = .returned (.tuple #[v, .nilIface]) ∧ Due f1 x L ∧ OwnI w' N v (zsD L) ∧ TwoM w0 N w' p m1 q m2 x (rest f1 x) n2 f2 ∧ ∀ u l, OwnI w N u l → OwnI w' N u l := by
  refine (wTick_ok w p m1 n1 f1 h.a x (by have := hx.1; omega) (by have := hx.2; omega)).mono ?_
  rintro e w' ⟨v, L, rfl, a1, a2, a3, a4⟩
  refine ⟨v, L, rfl, a1, a2.down h.up, ⟨a3, h.b.keep a4 fun c hc e => h.ap c e hc, h.ap, h.lo1, h.lo2, Nat.le_trans h.up a4.size, h.bel.trans (a4.below (fun c hc => (h.lo1 c hc).1) h.bel.size)⟩, fun u l hu => hu.stayK a4 fun c hc e => ?_⟩
  have := (h.lo1 c e).2
  omega
theorem TwoM.bad (x : Int) (hx : ¬ okT n1 x) : Calls Tryd.prog 11 #[.pointer (some ⟨p, 0, none⟩), .int .i64 x] w fun e w' => e = .returned (.tuple #[.slice none 0 0, eV 1]) ∧ w = w' := tick_bad h.a x hx
theorem TwoM.len : Calls Tryd.prog 13 #[.pointer (some ⟨p, 0, none⟩)] w fun e w' => e = .returned (.int .i64 (cnt f1)) ∧ w = w' := wLen_any w p m1 n1 f1 h.a
theorem TwoM.below {w1 : World} (hb : Below w.heap.size w w1) : TwoM w0 N w1 p m1 q m2 n1 f1 n2 f2 :=
  ⟨h.a.below hb, h.b.below hb, h.ap, h.lo1, h.lo2, Nat.le_trans h.up hb.size, h.bel.trans (hb.mono h.bel.size)⟩
theorem TwoM.lower {w1 : World} (hb : Below N w w1) (hN : w0.heap.size ≤ N) : TwoM w0 N w1 p m1 q m2 n1 f1 n2 f2 :=
  ⟨h.a.keep (Keep.lower hb) fun c hc e => by have := (h.lo1 c hc).2; omega, h.b.keep (Keep.lower hb) fun c hc e => by have := (h.lo2 c hc).2; omega, h.ap, h.lo1, h.lo2, Nat.le_trans h.up hb.size, h.bel.trans (hb.mono hN)⟩
end
end Go.Proofs.YtdgfaolflnljaaaDoor
