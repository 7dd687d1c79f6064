/-
  TWO HEAPS beside each other: what is done to one leaves the other as it was.
-/
import Derived.Test.YtmfajaalbklfeaaHeapUse
namespace Go.Proofs.Ytmfajaalbklfeaa
open Go.RowKit Go.Lib HeapP

/-- Two heaps that the call has made, apart. -/
structure Two (w0 w : World) (q r n : Nat) (ky kz : Nat → Int) (M N : Nat → Prop) : Prop where
  ex : ∃ S T, HB w S q n ky M ∧ HB w T r n kz N ∧ (∀ b, S b → ¬ T b) ∧ (∀ b, S b → w0.heap.size ≤ b) ∧ (∀ b, T b → w0.heap.size ≤ b)
  bel : Below w0.heap.size w0 w
section
variable {w0 w w1 : World} {q r n : Nat} {ky kz : Nat → Int} {M N : Nat → Prop} (h : Two w0 w q r n ky kz M N)
include h
theorem Two.swap : Two w0 w r q n kz ky N M := by
  obtain ⟨S, T, h1, h2, h3, h4, h5⟩ := h.ex
  exact ⟨⟨T, S, h2, h1, fun b hb c => h3 b c hb, h5, h4⟩, h.bel⟩
theorem Two.below (hb : Below w.heap.size w w1) : Two w0 w1 q r n ky kz M N := by
  obtain ⟨S, T, h1, h2, h3⟩ := h.ex
  exact ⟨⟨S, T, h1.below hb, h2.below hb, h3⟩, h.bel.trans (hb.mono h.bel.size)⟩
theorem Two.congr {ky' kz' : Nat → Int} {M' N' : Nat → Prop} (ek : ∀ a, a < n → ky a = ky' a) (ez : ∀ a, a < n → kz a = kz' a) (em : ∀ a, M a ↔ M' a) (en : ∀ a, N a ↔ N' a) : Two w0 w q r n ky' kz' M' N' := by
  obtain ⟨S, T, h1, h2, h3⟩ := h.ex
  exact ⟨⟨S, T, h1.congr ek em, h2.congr ez en, h3⟩, h.bel⟩
theorem Two.bd {a : Nat} (ha : M a) : a < n := by
  obtain ⟨S, T, h1, _⟩ := h.ex
  exact h1.bd ha
theorem Two.put (a : Nat) (i x : Int) (ha : a < n) (hi : i = a) :
    Calls Try.prog 7 #[.pointer (some ⟨q, 0, none⟩), .int .i64 i, .int .i64 x] w fun e w' => e = .returned .nilIface ∧ Two w0 w' q r n (putK ky a x) kz (fun b => b = a ∨ M b) N := by
  obtain ⟨S, T, h1, h2, h3, h4, h5⟩ := h.ex
  refine (put_hb w S q n ky M h1 a i x ha hi).mono ?_
  rintro e w' ⟨rfl, S', t1, t2, t3⟩
  refine ⟨rfl, ⟨S', T, t1, h2.keep t2 fun b hb c => h3 b c hb, fun b hb c => ?_, fun b hb => ?_, h5⟩, h.bel.trans (t2.below h4 h.bel.size)⟩
  · rcases t3 b hb with d | d
    · exact h3 b d c
    · have := h2.lt c
      omega
  · rcases t3 b hb with d | d
    · exact h4 b d
    · exact Nat.le_trans h.bel.size d
theorem Two.drop (a : Nat) (i : Int) (ha : M a) (hi : i = a) :
    Calls Try.prog 9 #[.pointer (some ⟨q, 0, none⟩), .int .i64 i] w fun e w' => e = .returned .nilIface ∧ Two w0 w' q r n ky kz (fun b => M b ∧ b ≠ a) N := by
  obtain ⟨S, T, h1, h2, h3, h4, h5⟩ := h.ex
  refine (drop_hb w S q n ky M h1 a i ha hi).mono ?_
  rintro e w' ⟨rfl, S', t1, t2, t3⟩
  refine ⟨rfl, ⟨S', T, t1, h2.keep t2 fun b hb c => h3 b c hb, fun b hb c => ?_, fun b hb => ?_, h5⟩, h.bel.trans (t2.below h4 h.bel.size)⟩
  · rcases t3 b hb with d | d
    · exact h3 b d c
    · have := h2.lt c
      omega
  · rcases t3 b hb with d | d
    · exact h4 b d
    · exact Nat.le_trans h.bel.size d
theorem Two.min (a : Nat) (ha : M a) :
    Calls Try.prog 8 #[.pointer (some ⟨q, 0, none⟩)] w fun e w' => ∃ x : Nat, e = .returned (.tuple #[.int .i64 x, .int .i64 (ky x), .nilIface]) ∧ M x ∧ (∀ b, M b → ¬ lt ky b x) ∧ Two w0 w' q r n ky kz M N := by
  obtain ⟨S, T, h1, _⟩ := h.ex
  exact (min_hb w S q n ky M h1 a ha).mono fun _ _ ⟨x, e, m, l, t⟩ => ⟨x, e, m, l, h.below t⟩
theorem Two.len (l : List Nat) (hl : l.Nodup) (hm : ∀ a, a ∈ l ↔ M a) :
    Calls Try.prog 10 #[.pointer (some ⟨q, 0, none⟩)] w fun e w' => e = .returned (.int .i64 l.length) ∧ w = w' := by
  obtain ⟨S, T, h1, _⟩ := h.ex
  exact len_hb w S q n ky M h1 l hl hm
end
/-- A second heap made beside one. -/
theorem new_two (w0 w : World) (q n : Nat) (ky : Nat → Int) (M : Nat → Prop) (i : Int) (h : One w0 w q n ky M) (h5 : n ≤ 5000) (hi : i = n) :
    Calls Try.prog 6 #[.int .i64 i] w fun e w' => ∃ r, e = .returned (.tuple #[.pointer (some ⟨r, 0, none⟩), .nilIface]) ∧ Two w0 w' q r n ky (fun _ => 0) M (fun _ => False) := by
  obtain ⟨S, h1, h2⟩ := h.ex
  refine (new_hb w n i h5 hi).mono ?_
  rintro e w' ⟨r, T, rfl, hh, hs, hb⟩
  refine ⟨r, rfl, ⟨S, T, h1.below hb, hh, fun b e c => ?_, h2, fun b e => Nat.le_trans h.bel.size (hs b e)⟩, h.bel.trans (hb.mono h.bel.size)⟩
  have := h1.lt e
  have := hs b c
  omega
end Go.Proofs.Ytmfajaalbklfeaa
