/-
  A HEAP IN USE: which things have a key, and which; what its functions tell of that; two heaps beside each other; the fact that the statements begin with.
-/
import Derived.Test.YtmfajaalbklfeaaDoorHeapActs
namespace Go.Proofs.YtmfajaalbklfeaaDoor
open Go.RowKit Go.Lib HeapP

/-- A heap at q, in the blocks S: those things have a key that M tells of, and it is ky's. -/
def HB (w : World) (S : Nat → Prop) (q n : Nat) (ky : Nat → Int) (M : Nat → Prop) : Prop :=
  ∃ tv p k L, Hp w q tv p k n ky L ∧ Ord ky L L.length ∧ (∀ a, a ∈ L ↔ M a) ∧ S = InH q tv p k
/-- What a call on it leaves: another heap, in the same blocks or new ones; all else as it was. -/
def Turned (w w' : World) (S : Nat → Prop) (q n : Nat) (ky : Nat → Int) (M : Nat → Prop) : Prop :=
  ∃ S', HB w' S' q n ky M ∧ Keep S w w' ∧ ∀ b, S' b → S b ∨ w.heap.size ≤ b
section
variable {w w1 w' : World} {S T : Nat → Prop} {q n : Nat} {ky : Nat → Int} {M : Nat → Prop}
theorem HB.lt (h : HB w S q n ky M) {b : Nat} (hb : S b) : b < w.heap.size := by
  obtain ⟨tv, p, k, L, hp, _, _, rfl⟩ := h
  exact hp.lt hb
theorem HB.keep (h : HB w S q n ky M) (hk : Keep T w w1) (hs : ∀ b, S b → ¬ T b) : HB w1 S q n ky M := by
  obtain ⟨tv, p, k, L, hp, ho, hm, rfl⟩ := h
  exact ⟨tv, p, k, L, hp.keep hk hs, ho, hm, rfl⟩
theorem HB.below (h : HB w S q n ky M) (hb : Below w.heap.size w w1) : HB w1 S q n ky M := h.keep (T := fun _ => False) (Keep.of hb) fun _ _ e => e
theorem HB.congr (h : HB w S q n ky M) {ky' : Nat → Int} {M' : Nat → Prop} (ek : ∀ a, a < n → ky a = ky' a) (em : ∀ a, M a ↔ M' a) : HB w S q n ky' M' := by
  obtain ⟨tv, p, k, L, hp, ho, hm, rfl⟩ := h
  exact ⟨tv, p, k, L, hp.keys ek, ho.congr fun m hm => (ek _ (hp.bd _ (at_mem hm))).symm, fun a => (hm a).trans (em a), rfl⟩
theorem HB.bd (h : HB w S q n ky M) {a : Nat} (ha : M a) : a < n := by
  obtain ⟨tv, p, k, L, hp, ho, hm, rfl⟩ := h
  exact hp.bd a ((hm a).2 ha)
theorem Turned.congr (h : Turned w w' S q n ky M) {ky' : Nat → Int} {M' : Nat → Prop} (ek : ∀ a, a < n → ky a = ky' a) (em : ∀ a, M a ↔ M' a) : Turned w w' S q n ky' M' := by
  obtain ⟨S', h1, h2, h3⟩ := h
  exact ⟨S', h1.congr ek em, h2, h3⟩
end

section
variable (w : World) (S : Nat → Prop) (q n : Nat) (ky : Nat → Int) (M : Nat → Prop) (h : HB w S q n ky M)
include h
theorem put_hb (a : Nat) (i x : Int) (ha : a < n) (hi : i = a) :
    Calls Tryd.prog 9 #[.pointer (some ⟨q, 0, none⟩), .int .i64 i, .int .i64 x] w fun e w' => e = .returned .nilIface ∧ Turned w w' S q n (putK ky a x) (fun b => b = a ∨ M b) := by
  subst hi
  obtain ⟨tv, p, k, L, hp, ho, hm, rfl⟩ := h
  refine (put_ok w q tv p k n ky L hp ho a x ha).mono ?_
  rintro e w' ⟨rfl, tv', L', h1, h2, h3, h4, h5⟩
  refine ⟨rfl, InH q tv' p k, ⟨tv', p, k, L', h1, h3, fun b => by rw [h2 b, hm b], rfl⟩, h4, fun b hb => ?_⟩
  rcases hb with e | e | e | e
  · exact Or.inl (Or.inl e)
  · exact Or.inl (Or.inr (Or.inl e))
  · exact Or.inl (Or.inr (Or.inr (Or.inl e)))
  · rcases h5 with o | ⟨c, o, hc⟩
    · exact Or.inl (Or.inr (Or.inr (Or.inr (by rw [← o]; exact e))))
    · rw [o] at e
      have := Option.some.inj e
      exact Or.inr (by omega)
theorem put_hb_bad (i x : Int) (hi : i < 0 ∨ (n : Int) ≤ i) :
    Calls Tryd.prog 9 #[.pointer (some ⟨q, 0, none⟩), .int .i64 i, .int .i64 x] w fun e w' => e = .returned (eV 1) ∧ w = w' := by
  obtain ⟨tv, p, k, L, hp, ho, hm, rfl⟩ := h
  exact put_bad w q tv p k n ky L hp i x hi
theorem drop_hb (a : Nat) (i : Int) (ha : M a) (hi : i = a) :
    Calls Tryd.prog 8 #[.pointer (some ⟨q, 0, none⟩), .int .i64 i] w fun e w' => e = .returned .nilIface ∧ Turned w w' S q n ky (fun b => M b ∧ b ≠ a) := by
  subst hi
  obtain ⟨tv, p, k, L, hp, ho, hm, rfl⟩ := h
  refine (drop_ok w q tv p k n ky L hp ho a ((hm a).2 ha)).mono ?_
  rintro e w' ⟨rfl, tv', L', h1, h2, h3, h4, h5⟩
  refine ⟨rfl, InH q tv' p k, ⟨tv', p, k, L', h1, h3, fun b => by rw [h2 b, hm b], rfl⟩, h4, fun b hb => Or.inl ?_⟩
  unfold InH at hb ⊢
  rwa [h5] at hb
theorem drop_hb_bad (i : Int) (hi : i < 0 ∨ (n : Int) ≤ i) :
    Calls Tryd.prog 8 #[.pointer (some ⟨q, 0, none⟩), .int .i64 i] w fun e w' => e = .returned (eV 1) ∧ w = w' := by
  obtain ⟨tv, p, k, L, hp, ho, hm, rfl⟩ := h
  exact drop_bad w q tv p k n ky L hp i hi
theorem drop_hb_none (a : Nat) (i : Int) (ha : a < n) (hn : ¬ M a) (hi : i = a) :
    Calls Tryd.prog 8 #[.pointer (some ⟨q, 0, none⟩), .int .i64 i] w fun e w' => e = .returned (eV 2) ∧ w = w' := by
  subst hi
  obtain ⟨tv, p, k, L, hp, ho, hm, rfl⟩ := h
  exact drop_none w q tv p k n ky L hp a ha (fun c => hn ((hm a).1 c))
/-- The first of those that have a key. -/
theorem min_hb (a : Nat) (ha : M a) :
    Calls Tryd.prog 10 #[.pointer (some ⟨q, 0, none⟩)] w fun e w' => ∃ x : Nat, e = .returned (.tuple #[.int .i64 x, .int .i64 (ky x), .nilIface]) ∧ M x ∧ (∀ b, M b → ¬ lt ky b x) ∧ Below w.heap.size w w' := by
  obtain ⟨tv, p, k, L, hp, ho, hm, rfl⟩ := h
  have hl : 0 < L.length := List.length_pos_of_mem ((hm a).2 ha)
  obtain ⟨x, hx⟩ : ∃ x, L[0]! = x := ⟨_, rfl⟩
  refine (min_ok w q tv p k n ky L hp hl x hx).mono ?_
  rintro e w' ⟨rfl, hb⟩
  exact ⟨x, rfl, (hm x).1 (by rw [← hx]; exact at_mem hl), fun b hb => by rw [← hx]; exact ho.first ((hm b).2 hb), hb⟩
theorem min_hb_none (hn : ∀ a, ¬ M a) :
    Calls Tryd.prog 10 #[.pointer (some ⟨q, 0, none⟩)] w fun e w' => e = .returned (.tuple #[.int .i64 0, .int .i64 0, eV 2]) ∧ w = w' := by
  obtain ⟨tv, p, k, L, hp, ho, hm, rfl⟩ := h
  exact min_none w q tv p k n ky L hp (List.eq_nil_iff_forall_not_mem.2 fun a ha => hn a ((hm a).1 ha))
/-- How many they are. -/
theorem len_hb (l : List Nat) (hl : l.Nodup) (hm : ∀ a, a ∈ l ↔ M a) :
    Calls Tryd.prog 11 #[.pointer (some ⟨q, 0, none⟩)] w fun e w' => e = .returned (.int .i64 l.length) ∧ w = w' := by
  obtain ⟨tv, p, k, L, hp, ho, hm2, rfl⟩ := h
  rw [same_len hl hp.nodup fun a => (hm a).trans (hm2 a).symm]
  exact hLen_any w q tv p k n ky L hp
end

/-- A heap made anew. -/
theorem new_hb (w : World) (n : Nat) (i : Int) (h : n ≤ 5000) (hi : i = n) :
    Calls Tryd.prog 5 #[.int .i64 i] w fun e w' => ∃ q S, e = .returned (.tuple #[.pointer (some ⟨q, 0, none⟩), .nilIface]) ∧ HB w' S q n (fun _ => 0) (fun _ => False) ∧ (∀ b, S b → w.heap.size ≤ b) ∧ Below w.heap.size w w' := by
  subst hi
  refine (new_ok w n h).mono ?_
  rintro e w' ⟨q, p, k, rfl, hq, hp, hk, hh, hb⟩
  refine ⟨q, _, rfl, ⟨_, p, k, [], hh, fun m h0 hm => by simp at hm, fun a => by simp, rfl⟩, fun b hb => ?_, hb⟩
  rcases hb with rfl | rfl | rfl | hb
  · exact hq
  · exact hp
  · exact hk
  · cases hb
/-- A heap that the call has made: all that was there before is as it was. -/
structure One (w0 w : World) (q n : Nat) (ky : Nat → Int) (M : Nat → Prop) : Prop where
  ex : ∃ S, HB w S q n ky M ∧ ∀ b, S b → w0.heap.size ≤ b
  bel : Below w0.heap.size w0 w
theorem One.below {w0 w w1 : World} {q n : Nat} {ky : Nat → Int} {M : Nat → Prop} (h : One w0 w q n ky M) (hb : Below w.heap.size w w1) : One w0 w1 q n ky M := by
  obtain ⟨S, h1, h2⟩ := h.ex
  exact ⟨⟨S, h1.below hb, h2⟩, h.bel.trans (hb.mono h.bel.size)⟩
theorem One.turned {w0 w w1 : World} {S : Nat → Prop} {q n : Nat} {ky : Nat → Int} {M : Nat → Prop} (hb : Below w0.heap.size w0 w) (hs : ∀ b, S b → w0.heap.size ≤ b) (ht : Turned w w1 S q n ky M) : One w0 w1 q n ky M := by
  obtain ⟨S', h1, h2, h3⟩ := ht
  refine ⟨⟨S', h1, fun b e => ?_⟩, hb.trans (h2.below hs hb.size)⟩
  rcases h3 b e with c | c
  · exact hs b c
  · exact Nat.le_trans hb.size c
section
variable {w0 w : World} {q n : Nat} {ky : Nat → Int} {M : Nat → Prop} (h : One w0 w q n ky M)
include h
theorem One.congr {ky' : Nat → Int} {M' : Nat → Prop} (ek : ∀ a, a < n → ky a = ky' a) (em : ∀ a, M a ↔ M' a) : One w0 w q n ky' M' := by
  obtain ⟨S, h1, h2⟩ := h.ex
  exact ⟨⟨S, h1.congr ek em, h2⟩, h.bel⟩
theorem One.put (a : Nat) (i x : Int) (ha : a < n) (hi : i = a) :
    Calls Tryd.prog 9 #[.pointer (some ⟨q, 0, none⟩), .int .i64 i, .int .i64 x] w fun e w' => e = .returned .nilIface ∧ One w0 w' q n (putK ky a x) (fun b => b = a ∨ M b) := by
  obtain ⟨S, h1, h2⟩ := h.ex
  exact (put_hb w S q n ky M h1 a i x ha hi).mono fun _ _ ⟨e, t⟩ => ⟨e, One.turned h.bel h2 t⟩
theorem One.drop (a : Nat) (i : Int) (ha : M a) (hi : i = a) :
    Calls Tryd.prog 8 #[.pointer (some ⟨q, 0, none⟩), .int .i64 i] w fun e w' => e = .returned .nilIface ∧ One w0 w' q n ky (fun b => M b ∧ b ≠ a) := by
  obtain ⟨S, h1, h2⟩ := h.ex
  exact (drop_hb w S q n ky M h1 a i ha hi).mono fun _ _ ⟨e, t⟩ => ⟨e, One.turned h.bel h2 t⟩
theorem One.min (a : Nat) (ha : M a) :
    Calls Tryd.prog 10 #[.pointer (some ⟨q, 0, none⟩)] w fun e w' => ∃ x : Nat, e = .returned (.tuple #[.int .i64 x, .int .i64 (ky x), .nilIface]) ∧ M x ∧ (∀ b, M b → ¬ lt ky b x) ∧ One w0 w' q n ky M := by
  obtain ⟨S, h1, h2⟩ := h.ex
  exact (min_hb w S q n ky M h1 a ha).mono fun _ _ ⟨x, e, m, l, t⟩ => ⟨x, e, m, l, h.below t⟩
theorem One.len (l : List Nat) (hl : l.Nodup) (hm : ∀ a, a ∈ l ↔ M a) :
    Calls Tryd.prog 11 #[.pointer (some ⟨q, 0, none⟩)] w fun e w' => e = .returned (.int .i64 l.length) ∧ w = w' := by
  obtain ⟨S, h1, _⟩ := h.ex
  exact len_hb w S q n ky M h1 l hl hm
theorem One.bd {a : Nat} (ha : M a) : a < n := by
  obtain ⟨S, h1, _⟩ := h.ex
  exact h1.bd ha
end
theorem new_one (w0 w : World) (n : Nat) (i : Int) (h : n ≤ 5000) (hi : i = n) (hb : Below w0.heap.size w0 w) :
    Calls Tryd.prog 5 #[.int .i64 i] w fun e w' => ∃ q, e = .returned (.tuple #[.pointer (some ⟨q, 0, none⟩), .nilIface]) ∧ One w0 w' q n (fun _ => 0) (fun _ => False) := by
  refine (new_hb w n i h hi).mono ?_
  rintro e w' ⟨q, S, rfl, hh, hs, hb2⟩
  exact ⟨q, rfl, ⟨S, hh, fun b e => Nat.le_trans hb.size (hs b e)⟩, hb.trans (hb2.mono hb.size)⟩

set_option maxHeartbeats 1000000 in
set_option maxRecDepth 100000 in
/-- The fact that the statements begin with. -/
theorem heaped_any (w : World) : Calls Tryd.prog 4 #[] w fun e w' => e = .returned (.bool true) ∧ Below w.heap.size w w' := by
  have HN := Lib.hid (new_one w w 3 3 (by omega) rfl (Below.refl _ _))
  go_enter Tryd.func4, Tryd.ntmps4
  go_wp2_with fail
  refine HN.out.mono ?_
  rintro e w1 ⟨q, rfl, h1⟩
  have H1 := Lib.hid (h1.put 1 1 5 (by omega) rfl)
  clear h1 HN
  go_wp2_with fail
  refine H1.out.mono ?_
  rintro e w2 ⟨rfl, h2⟩
  have H2 := Lib.hid (h2.put 2 2 3 (by omega) rfl)
  clear h2 H1
  go_wp2_with fail
  refine H2.out.mono ?_
  rintro e w3 ⟨rfl, h3⟩
  have H3 := Lib.hid (h3.min 1 (Or.inr (Or.inl rfl)))
  clear h3 H2
  go_wp2_with fail
  refine H3.out.mono ?_
  rintro e w4 ⟨x, rfl, hm, hl, h4⟩
  have hx : x = 2 := by
    rcases hm with e | e | e
    · exact e
    · exfalso
      subst e
      refine hl 2 (Or.inl rfl) (Or.inl ?_)
      rw [putK_at, putK_ne _ _ _ _ (by omega), putK_at]
      omega
    · exact e.elim
  subst hx
  rw [putK_at]
  have HB := Lib.hid h4.bel
  clear h4 hl hm H3
  go_wp2_with fail
  go_ret
  exact ⟨rfl, HB.out⟩
end Go.Proofs.YtmfajaalbklfeaaDoor
