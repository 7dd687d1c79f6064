/-
  Put, Drop, Key, Min and Len of a heap: what each tells, and how the heap stands behind it.
-/
import Derived.Test.YtmfajaalbklfeaaDoorHeapCode
namespace Go.Proofs.YtmfajaalbklfeaaDoor
open Go.RowKit Go.Lib HeapP

/-- One key put anew. -/
def putK (ky : Nat → Int) (a : Nat) (x : Int) : Nat → Int := fun i => if i = a then x else ky i
theorem putK_at (ky : Nat → Int) (a : Nat) (x : Int) : putK ky a x a = x := if_pos rfl
theorem putK_ne (ky : Nat → Int) (a b : Nat) (x : Int) (h : b ≠ a) : putK ky a x b = ky b := if_neg h

section
variable (w : World) (q : Nat) (tv : Value) (p k n : Nat) (ky : Nat → Int) (L : List Nat) (h : Hp w q tv p k n ky L)
include h

set_option maxHeartbeats 1000000 in
set_option maxRecDepth 100000 in
theorem check_bad (i : Int) (hi : i < 0 ∨ (n : Int) ≤ i) :
    Calls Tryd.prog 16 #[.pointer (some ⟨q, 0, none⟩), .int .i64 i] w fun e w' => e = .returned (eV 1) ∧ w = w' := by
  have c1 := h.c1
  clear h
  by_cases t : i < 0
  · clear hi
    go_enter Tryd.func16, Tryd.ntmps16
    go_wp2_with fail
    go_ret
    exact ⟨rfl, rfl⟩
  · have t2 : i ≥ (n : Int) := by omega
    clear hi
    go_enter Tryd.func16, Tryd.ntmps16
    go_wp2_with fail
    go_ret
    exact ⟨rfl, rfl⟩
set_option maxHeartbeats 1000000 in
set_option maxRecDepth 100000 in
theorem check_ok (a : Nat) (ha : a < n) :
    Calls Tryd.prog 16 #[.pointer (some ⟨q, 0, none⟩), .int .i64 a] w fun e w' => e = .returned .nilIface ∧ w = w' := by
  have c1 := h.c1
  have t : ¬ (a : Int) < 0 := by omega
  have t2 : ¬ (a : Int) ≥ (n : Int) := by omega
  clear h
  go_enter Tryd.func16, Tryd.ntmps16
  go_wp2_with fail
  go_ret
  exact ⟨rfl, rfl⟩

set_option maxHeartbeats 1000000 in
set_option maxRecDepth 100000 in
theorem checkKey_bad (i : Int) (hi : i < 0 ∨ (n : Int) ≤ i) :
    Calls Tryd.prog 14 #[.pointer (some ⟨q, 0, none⟩), .int .i64 i] w fun e w' => e = .returned (eV 1) ∧ w = w' := by
  have HC := Lib.hid (check_bad w q tv p k n ky L h i hi)
  clear h hi
  go_enter Tryd.func14, Tryd.ntmps14
  go_wp2_with fail
  refine HC.out.mono ?_
  rintro e w1 ⟨rfl, rfl⟩
  go_wp2_with fail
  go_ret
  exact ⟨rfl, rfl⟩
set_option maxHeartbeats 1000000 in
set_option maxRecDepth 100000 in
theorem checkKey_none (a : Nat) (ha : a < n) (hn : a ∉ L) :
    Calls Tryd.prog 14 #[.pointer (some ⟨q, 0, none⟩), .int .i64 a] w fun e w' => e = .returned (eV 2) ∧ w = w' := by
  have HC := Lib.hid (check_ok w q tv p k n ky L h a ha)
  obtain ⟨f, hv, hp⟩ := h.pl
  have c1 := h.c1
  have va := hv.c a ha
  rw [hp.o a ha hn] at va
  have t : (a : Int) < (n : Int) := by omega
  clear h hv hp
  go_enter Tryd.func14, Tryd.ntmps14
  go_wp2_with fail
  refine HC.out.mono ?_
  rintro e w1 ⟨rfl, rfl⟩
  go_wp2_with fail
  go_ret
  exact ⟨rfl, rfl⟩
set_option maxHeartbeats 1000000 in
set_option maxRecDepth 100000 in
theorem checkKey_ok (a : Nat) (hn : a ∈ L) :
    Calls Tryd.prog 14 #[.pointer (some ⟨q, 0, none⟩), .int .i64 a] w fun e w' => e = .returned .nilIface ∧ w = w' := by
  have ha := h.bd a hn
  have HC := Lib.hid (check_ok w q tv p k n ky L h a ha)
  obtain ⟨f, hv, hp⟩ := h.pl
  have c1 := h.c1
  obtain ⟨m, _, _, hm⟩ := hp.at hn
  have va := hv.c a ha
  rw [hm] at va
  have t : (a : Int) < (n : Int) := by omega
  have t2 : ((m : Int) == -1) = false := by simp
  clear h hv hp hm
  go_enter Tryd.func14, Tryd.ntmps14
  go_wp2_with fail
  refine HC.out.mono ?_
  rintro e w1 ⟨rfl, rfl⟩
  go_wp2_with fail
  go_ret
  exact ⟨rfl, rfl⟩

set_option maxHeartbeats 1000000 in
set_option maxRecDepth 100000 in
theorem hLen_any :
    Calls Tryd.prog 11 #[.pointer (some ⟨q, 0, none⟩)] w fun e w' => e = .returned (.int .i64 L.length) ∧ w = w' := by
  have HC := Lib.hid (tLen_any w q tv p k n ky L h)
  clear h
  generalize L.length = l at HC ⊢
  go_enter Tryd.func11, Tryd.ntmps11
  go_wp2_with fail
  refine HC.out.mono ?_
  rintro e w1 ⟨rfl, rfl⟩
  go_wp2_with fail
  go_ret
  exact ⟨rfl, rfl⟩

set_option maxHeartbeats 1000000 in
set_option maxRecDepth 100000 in
theorem min_none (hl : L = []) :
    Calls Tryd.prog 10 #[.pointer (some ⟨q, 0, none⟩)] w fun e w' => e = .returned (.tuple #[.int .i64 0, .int .i64 0, eV 2]) ∧ w = w' := by
  have HC := Lib.hid (hLen_any w q tv p k n ky L h)
  rw [hl, List.length_nil] at HC
  clear h hl
  go_enter Tryd.func10, Tryd.ntmps10
  go_wp2_with fail
  refine HC.out.mono ?_
  rintro e w1 ⟨rfl, rfl⟩
  go_wp2_with fail
  go_ret3
  exact ⟨rfl, rfl⟩
set_option maxHeartbeats 1000000 in
set_option maxRecDepth 100000 in
theorem min_ok (hl : 0 < L.length) (x : Nat) (hx : L[0]! = x) :
    Calls Tryd.prog 10 #[.pointer (some ⟨q, 0, none⟩)] w fun e w' => e = .returned (.tuple #[.int .i64 x, .int .i64 (ky x), .nilIface]) ∧ Below w.heap.size w w' := by
  have HC := Lib.hid (hLen_any w q tv p k n ky L h)
  obtain ⟨g, cap, rfl, hr, _⟩ := h.th hl
  have c0 := h.c0
  have c2 := h.c2
  have cx := hr.c 0 hl
  have hb := h.bd _ (at_mem hl)
  rw [hx] at cx hb
  have ck := h.kys.c x hb
  have t : (x : Int) < (n : Int) := by omega
  clear h hr hx
  generalize L.length = l at HC c0 hl ⊢
  have t0 : (0 : Int) < (l : Int) := by omega
  have t1 : ((l : Int) == 0) = false := by
    have : ¬ (l : Int) = 0 := by omega
    simpa using this
  go_enter Tryd.func10, Tryd.ntmps10
  go_wp2_with fail
  refine HC.out.mono ?_
  rintro e w1 ⟨rfl, rfl⟩
  go_wp2_with fail
  go_quiet (fail)
  go_wp2_with fail
  go_ret3
  exact ⟨rfl, Below.drewN (Below.refl _ _) _⟩

set_option maxHeartbeats 1000000 in
set_option maxRecDepth 100000 in
theorem put_bad (i x : Int) (hi : i < 0 ∨ (n : Int) ≤ i) :
    Calls Tryd.prog 9 #[.pointer (some ⟨q, 0, none⟩), .int .i64 i, .int .i64 x] w fun e w' => e = .returned (eV 1) ∧ w = w' := by
  have HC := Lib.hid (check_bad w q tv p k n ky L h i hi)
  clear h hi
  go_enter Tryd.func9, Tryd.ntmps9
  go_wp2_with fail
  refine HC.out.mono ?_
  rintro e w1 ⟨rfl, rfl⟩
  go_wp2_with fail
  go_ret
  exact ⟨rfl, rfl⟩
set_option maxHeartbeats 2000000 in
set_option maxRecDepth 100000 in
theorem put_ok (ho : Ord ky L L.length) (a : Nat) (x : Int) (ha : a < n) :
    Calls Tryd.prog 9 #[.pointer (some ⟨q, 0, none⟩), .int .i64 a, .int .i64 x] w fun e w' => e = .returned .nilIface ∧ ∃ tv' L', Hp w' q tv' p k n (putK ky a x) L' ∧ (∀ b, b ∈ L' ↔ b = a ∨ b ∈ L) ∧ Ord (putK ky a x) L' L'.length ∧ Keep (InH q tv p k) w w' ∧ (tv'.ownBlock = tv.ownBlock ∨ ∃ b, tv'.ownBlock = some b ∧ w.heap.size ≤ b) := by
  have HC := Lib.hid (check_ok w q tv p k n ky L h a ha)
  have t : (a : Int) < (n : Int) := by omega
  have c1 := (set_far w q 1 k a (.int .i64 x) h.qk.symm).trans h.c1
  have c2 := h.c2
  have ka := h.kys.c a ha
  have fa := h.kys.f a
  obtain ⟨f, hv, hp⟩ := h.pl
  have pa := (set_far w p a k a (.int .i64 x) h.pk.symm).trans (hv.c a ha)
  -- the key is put
  have hK : Keep (InH q tv p k) w (w.setCell ⟨k, a, none⟩ (.int .i64 x)) := Keep.setCell _ w k a _ (Or.inr (Or.inr (Or.inl rfl)))
  have hW : Hp (w.setCell ⟨k, a, none⟩ (.int .i64 x)) q tv p k n (putK ky a x) L :=
    ⟨(set_far w q 0 k a _ h.qk.symm).trans h.c0, c1, (set_far w q 2 k a _ h.qk.symm).trans h.c2, fun o => (set_fz _ _ _ _).trans (h.fz o), Nat.lt_of_lt_of_le h.lq hK.size,
      h.own.frame fun g hg _ => Below.heap_setCell _ _ _ _ (h.out g hg).2.2, ⟨f, hv.past k a h.pk.symm _, hp⟩, h.kys.set a x, h.qp, h.qk, h.pk, h.out, h.bd, h.mx⟩
  have hsz : (w.setCell ⟨k, a, none⟩ (.int .i64 x)).heap.size = w.heap.size := by simp [World.setCell]
  by_cases hm : a ∈ L
  · obtain ⟨m, hml, hma, hfa⟩ := hp.at hm
    rw [hfa] at pa
    have HX : Hx (putK ky a x) L L.length m := ho.rekey fun j hj hne => putK_ne ky a _ x fun e => hne (hp.inj hj hml (e.trans hma.symm))
    have HF := Lib.hid (heapFix_any _ q tv p k n _ L m hW hml HX)
    have HK := Lib.hid hK
    have t2 : ((m : Int) != -1) = true := by simp
    clear h hv hp hK hW HX hma hfa
    go_enter Tryd.func9, Tryd.ntmps9
    go_wp2_with fail
    refine HC.out.mono ?_
    rintro e w1 ⟨rfl, rfl⟩
    go_wp2_with fail
    refine HF.out.mono ?_
    rintro e w2 ⟨rfl, hh⟩
    have HH := Lib.hid hh
    clear hh
    go_wp2_with fail
    go_ret
    obtain ⟨L', h1, h2, h3, h4⟩ := HH.out
    refine ⟨rfl, tv, L', h1, fun b => ?_, h3, HK.out.trans h4, Or.inl rfl⟩
    rw [h2 b]
    constructor
    · exact Or.inr
    · rintro (rfl | c)
      · exact hm
      · exact c
  · rw [hp.o a ha hm] at pa
    have HF := Lib.hid (heapPush_any _ q tv p k n _ L a hW (ho.congr fun j hj => putK_ne ky a _ x fun e => hm (e ▸ at_mem hj)) ha hm)
    have HK := Lib.hid hK
    have HZ := Lib.hid hsz
    clear h hv hp hK hW hsz
    go_enter Tryd.func9, Tryd.ntmps9
    go_wp2_with fail
    refine HC.out.mono ?_
    rintro e w1 ⟨rfl, rfl⟩
    go_wp2_with fail
    refine HF.out.mono ?_
    rintro e w2 ⟨rfl, hh⟩
    have HH := Lib.hid hh
    clear hh
    go_wp2_with fail
    go_ret
    obtain ⟨tv', L', h1, h2, h3, h4, h5⟩ := HH.out
    rw [HZ.out] at h5
    exact ⟨rfl, tv', L', h1, h2, h3, HK.out.trans h4, h5⟩

set_option maxHeartbeats 1000000 in
set_option maxRecDepth 100000 in
theorem drop_bad (i : Int) (hi : i < 0 ∨ (n : Int) ≤ i) :
    Calls Tryd.prog 8 #[.pointer (some ⟨q, 0, none⟩), .int .i64 i] w fun e w' => e = .returned (eV 1) ∧ w = w' := by
  have HC := Lib.hid (checkKey_bad w q tv p k n ky L h i hi)
  clear h hi
  go_enter Tryd.func8, Tryd.ntmps8
  go_wp2_with fail
  refine HC.out.mono ?_
  rintro e w1 ⟨rfl, rfl⟩
  go_wp2_with fail
  go_ret
  exact ⟨rfl, rfl⟩
set_option maxHeartbeats 1000000 in
set_option maxRecDepth 100000 in
theorem drop_none (a : Nat) (ha : a < n) (hn : a ∉ L) :
    Calls Tryd.prog 8 #[.pointer (some ⟨q, 0, none⟩), .int .i64 a] w fun e w' => e = .returned (eV 2) ∧ w = w' := by
  have HC := Lib.hid (checkKey_none w q tv p k n ky L h a ha hn)
  clear h
  go_enter Tryd.func8, Tryd.ntmps8
  go_wp2_with fail
  refine HC.out.mono ?_
  rintro e w1 ⟨rfl, rfl⟩
  go_wp2_with fail
  go_ret
  exact ⟨rfl, rfl⟩
set_option maxHeartbeats 2000000 in
set_option maxRecDepth 100000 in
theorem drop_ok (ho : Ord ky L L.length) (a : Nat) (hm : a ∈ L) :
    Calls Tryd.prog 8 #[.pointer (some ⟨q, 0, none⟩), .int .i64 a] w fun e w' => e = .returned .nilIface ∧ ∃ tv' L', Hp w' q tv' p k n ky L' ∧ (∀ b, b ∈ L' ↔ b ∈ L ∧ b ≠ a) ∧ Ord ky L' L'.length ∧ Keep (InH q tv p k) w w' ∧ tv'.ownBlock = tv.ownBlock := by
  have HC := Lib.hid (checkKey_ok w q tv p k n ky L h a hm)
  have ha := h.bd a hm
  have t : (a : Int) < (n : Int) := by omega
  have c1 := h.c1
  obtain ⟨f, hv, hp⟩ := h.pl
  have pa := hv.c a ha
  obtain ⟨m, hml, hma, hfa⟩ := hp.at hm
  rw [hfa] at pa
  obtain ⟨l, hl⟩ : ∃ l, L.length = l + 1 := ⟨L.length - 1, by omega⟩
  have HR := Lib.hid (heapRemove_any w.drew q tv p k n ky L m l h.drew ho hml hl a hma)
  clear h hv hp hfa hma hl
  go_enter Tryd.func8, Tryd.ntmps8
  go_wp2_with fail
  refine HC.out.mono ?_
  rintro e w1 ⟨rfl, rfl⟩
  go_wp2_with fail
  go_region_with (refine HR.out.mono ?_; rintro e w2 ⟨rfl, hh⟩; have HH := Lib.hid hh; clear hh)
  all_goals (go_wp2_with fail)
  all_goals go_ret
  all_goals
    obtain ⟨tv', L', h1, h2, h3, h4, h5⟩ := HH.out
    exact ⟨rfl, tv', L', h1, h2, h3, ((Keep.refl _ w).drew).trans h4, h5⟩
end
end Go.Proofs.YtmfajaalbklfeaaDoor
