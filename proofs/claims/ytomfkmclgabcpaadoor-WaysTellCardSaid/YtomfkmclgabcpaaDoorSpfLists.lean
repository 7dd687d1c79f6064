/-
  LISTS OF NUMBERS in a row that a call has laid: each list in a block of its own, or none.
-/
import Derived.Test.YtomfkmclgabcpaaDoorSpfUps
import Derived.Test.YtomfkmclgabcpaaDoorRowSeen
namespace Go.Proofs.YtomfkmclgabcpaaDoor
open Go.RowKit Go.Lib

/-- An owned list whose block is as it was. -/
theorem OwnI.frame {w w1 : World} {base : Nat} {v : Value} {l : List Int} (h : OwnI w base v l) (hb : ∀ g, v.ownBlock = some g → w1.heap[g]? = w.heap[g]?) : OwnI w1 base v l := by
  obtain ⟨h1, h2⟩ := h
  refine ⟨h1, ?_⟩
  rcases h2 with h2 | ⟨g, cap, cur, hv, hg0, hg, rest⟩
  · exact Or.inl h2
  · refine Or.inr ⟨g, cap, cur, hv, hg0, ?_, rest⟩
    rw [hb g (by rw [hv]; rfl)]; exact hg
/-- The first k of n lists are laid in the row u, the values vs; their blocks are apart. -/
structure Lists (w : World) (u n k base : Nat) (vs : Nat → Value) (F : Nat → List Int) : Prop where
  lt : u < w.heap.size
  hb : base ≤ u
  c : ∀ i, i < k → w.cell? ⟨u, i, none⟩ = some (vs i)
  z : ∀ i, k ≤ i → i < n → w.cell? ⟨u, i, none⟩ = some (.slice none 0 0)
  f : ∀ i, w.frozen? ⟨u, i, none⟩ = false
  o : ∀ i, i < k → OwnI w base (vs i) (F i)
  nu : ∀ i, i < k → (vs i).ownBlock ≠ some u
  ap : ∀ i j, i < k → j < k → i ≠ j → ∀ g, (vs i).ownBlock = some g → (vs j).ownBlock ≠ some g
theorem Lists.keep {w w1 : World} {u n k base : Nat} {vs : Nat → Value} {F : Nat → List Int} (h : Lists w u n k base vs F) (hb : Below w.heap.size w w1) : Lists w1 u n k base vs F :=
  ⟨Nat.lt_of_lt_of_le h.lt hb.size, h.hb, fun i hi => (hb.cell (p := ⟨u, i, none⟩) h.lt).trans (h.c i hi), fun i hi hn => (hb.cell (p := ⟨u, i, none⟩) h.lt).trans (h.z i hi hn), fun i => (hb.frozen (p := ⟨u, i, none⟩) h.lt).trans (h.f i), fun i hi => (h.o i hi).keep hb, h.nu, h.ap⟩
theorem Lists.drew {w : World} {u n k base : Nat} {vs : Nat → Value} {F : Nat → List Int} (h : Lists w u n k base vs F) : Lists w.drew u n k base vs F := ⟨h.lt, h.hb, h.c, h.z, h.f, fun i hi => (h.o i hi).frame fun _ _ => rfl, h.nu, h.ap⟩
theorem Lists.new (w : World) (n base : Nat) (T : TypeId) (vs : Nat → Value) (F : Nat → List Int) (hb : base ≤ w.heap.size) : Lists (w.alloc (.cells (madeCells #[.slice none 0 0] n) T)) w.heap.size n 0 base vs F :=
  ⟨by simp, hb, fun i hi => by omega, fun i _ hn => made_cell w _ n i T hn, fun i => by rw [frozen?_alloc_cells]; exact frozen_past _ _ (Nat.le_refl _), fun i hi => by omega, fun i hi => by omega, fun i j hi => by omega⟩
/-- One list more, which a call has laid in a world that came behind. -/
theorem Lists.more {w w1 : World} {u n k base : Nat} {vs : Nat → Value} {F : Nat → List Int} (h : Lists w u n k base vs F) (hb : Below w.heap.size w w1) (hk : k < n) (v : Value) (ho : OwnI w1 w.heap.size v (F k)) :
    Lists (w1.setCell ⟨u, k, none⟩ v) u n (k + 1) base (fun i => if i = k then v else vs i) F := by
  have h1 := h.keep hb
  have hbs : base ≤ w.heap.size := by have := h.lt; have := h.hb; omega
  have hsz : (w1.setCell ⟨u, k, none⟩ v).heap.size = w1.heap.size := by simp [World.setCell]
  have old : ∀ i, i < k → ∀ g, (vs i).ownBlock = some g → g < w.heap.size := fun i hi g hg => (World.ownsRow.lt (h.o i hi) g hg).2
  have new : ∀ g, v.ownBlock = some g → w.heap.size ≤ g := fun g hg => (World.ownsRow.lt ho g hg).1
  refine ⟨by rw [hsz]; exact h1.lt, h.hb, fun i hi => ?_, fun i hi hn => ?_, fun i => by rw [World.frozen?_setCell]; exact h1.f i, fun i hi => ?_, fun i hi => ?_, fun i j hi hj hij g hg => ?_⟩
  · by_cases e : i = k
    · subst e
      rw [if_pos rfl]
      exact World.cell?_setCell_same _ _ _ (h1.z i (Nat.le_refl _) hk)
    · rw [if_neg e]
      exact (World.cell?_setCell_other _ _ _ _ (fun e' => by simp only [Addr.mk.injEq] at e'; omega)).trans (h1.c i (by omega))
  · exact (World.cell?_setCell_other _ _ _ _ (fun e' => by simp only [Addr.mk.injEq] at e'; omega)).trans (h1.z i (by omega) hn)
  · by_cases e : i = k
    · subst e
      rw [if_pos rfl]
      refine (ho.frame fun g hg => Below.heap_setCell _ _ _ _ ?_).down hbs
      have := new g hg
      have := h.lt
      show g ≠ u
      omega
    · rw [if_neg e]
      refine (h1.o i (by omega)).frame fun g hg => Below.heap_setCell _ _ _ _ ?_
      intro e2
      have e2 : g = u := e2
      exact h.nu i (by omega) (by rw [hg, e2])
  · show (if i = k then v else vs i).ownBlock ≠ some u
    by_cases e : i = k
    · rw [if_pos e]
      intro e2
      have := new u e2
      have := h.lt
      omega
    · rw [if_neg e]; exact h.nu i (by omega)
  · show (if j = k then v else vs j).ownBlock ≠ some g
    have hg : (if i = k then v else vs i).ownBlock = some g := hg
    by_cases e : i = k
    · rw [if_pos e] at hg
      rw [if_neg (by omega)]
      intro e2
      have := old j (by omega) g e2
      have := new g hg
      omega
    · rw [if_neg e] at hg
      by_cases e2 : j = k
      · rw [if_pos e2]
        intro e3
        have := old i (by omega) g hg
        have := new g e3
        omega
      · rw [if_neg e2]; exact h.ap i j (by omega) (by omega) hij g hg
/-- Such a row, read. -/
theorem Lists.arg {w : World} {u n base : Nat} {vs : Nat → Value} {F : Nat → List Int} (h : Lists w u n n base vs F) : ArgR w (.slice (some ⟨u, 0, none⟩) n n) ((List.range n).map F) := by
  refine ⟨_, n, by simp, Or.inr ⟨u, 0, rfl, h.lt, fun i hi => ?_⟩⟩
  have hi' : i < n := by simpa using hi
  refine ⟨vs i, by rw [Nat.zero_add]; exact h.c i hi', ?_⟩
  rw [getElem!_pos _ i hi]
  simpa using (h.o i hi').arg

set_option maxHeartbeats 400000 in
set_option maxRecDepth 100000 in
/-- spf.Ups at what is wrong. -/
theorem ups_bad (w : World) (n fr : Int) (v : Value) (l : List Lk) (hn : l.length < 4611686018427387904) (h : ArgK w v l) (hg : spfBad n l fr ≠ 0) :
    Calls Tryd.prog 33 #[.int .i64 n, v, .int .i64 fr] w fun e w' => e = .returned (.tuple #[.slice none 0 0, errV (spfBad n l fr)]) ∧ Below w.heap.size w w' := by
  have HC := Lib.hid (checked_bad w n fr v l hn h hg)
  rw [spf_err hg] at HC ⊢
  clear h
  generalize spfBad n l fr = q at HC hg
  go_enter Tryd.func33, Tryd.ntmps33
  go_wp2_with fail
  refine HC.out.mono ?_
  rintro e w1 ⟨rfl, hb1⟩
  go_wp2_with fail
  go_ret2
  exact ⟨rfl, hb1⟩
set_option maxHeartbeats 1000000 in
set_option maxRecDepth 100000 in
/-- spf.Ups at what is right. -/
theorem ups_ok (w : World) (m t : Nat) (v : Value) (l : List Lk) (hn : l.length < 4611686018427387904) (h : ArgK w v l) (hg : gBad m l = 0) (ht : t < m) :
    Calls Tryd.prog 33 #[.int .i64 m, v, .int .i64 t] w fun e w' => ∃ u vs, e = .returned (.tuple #[.slice (some ⟨u, 0, none⟩) m m, .nilIface]) ∧ Lists w' u m m w.heap.size vs (SpfP.ups m (BellP.ct l) t) ∧ Below w.heap.size w w' := by
  have HC := Lib.hid (checked_ok w m t v l hn h hg ht)
  obtain ⟨hm, hR⟩ := (gBad_zero m l).1 hg
  have HR := Lib.hid hR
  have h1 : 1 ≤ m := by omega
  have h8 : m ≤ 8 := by omega
  have hm1 := run_make_row' (P := Tryd.prog) 29 23 _ 24 Tryd.underlying29 info_ints rfl .i64 .i64 m (by omega) (by omega)
  clear h hg hR hm
  go_enter Tryd.func33, Tryd.ntmps33
  go_wp2_with fail
  refine HC.out.mono ?_
  rintro e w1 ⟨g, hgs, rfl, hG, hb1⟩
  have HK := Lib.hid (BellP.ct_cost HR.out)
  have HG1 := hG.congr fun i _ j _ => (BellP.ct_int HR.out i j).symm
  have HD := Lib.hid (distances_any w1 g m t (BellP.ct l) h1 h8 ht HK.out (SpfP.ct_sym l) HG1)
  have HG := Lib.hid HG1
  have HB := Lib.hid hb1
  clear hG hb1 HG1
  go_wp2_with fail
  refine HD.out.mono ?_
  rintro e w2 ⟨f, hf, rfl, hv, hb2⟩
  have HV := Lib.hid hv
  have HB2 := Lib.hid (Below.two HB.out hb2)
  have HG2 := Lib.hid (HG.out.keep hb2)
  clear hv hb2 HG HD HC
  go_wp2_with fail
  go_loopw [31] (fun x wr => ∃ k : Nat, ∃ vs, x = .int .i64 k ∧ k ≤ m ∧ Hid (Below w2.heap.size w2 wr) ∧ Hid (Lists wr w2.heap.size m k w.heap.size vs (SpfP.ups m (BellP.ct l) t))) (fun x _ => m - (RowKit.intOf x).toNat)
  case atStart => exact ⟨0, fun _ => undef, rfl, Nat.zero_le _, Lib.hid ((Below.refl _ w2).alloc (Nat.le_refl _) _), Lib.hid (Lists.new w2 m w.heap.size _ _ _ HB2.out.size)⟩
  case round =>
    obtain ⟨k, vs, rfl, hk, HBr, HL⟩ := hrel
    clear hm1
    by_cases hkn : k < m
    · have o0 := (HG2.out.keep HBr.out).o k hkn
      have GR := HG2.out.keep HBr.out
      have HU := Lib.hid (ups_any wr (g + 1 + k) m k t f (BellP.ct l) h8 hkn HK.out (by have := GR.lt; omega) (fun j hj => GR.e k hkn j hj) (HV.out.keep HBr.out))
      clear GR
      go_wp2_with fail
      refine HU.out.mono ?_
      rintro e w3 ⟨v3, rfl, ho3, hb3⟩
      have z3 := (HL.out.keep hb3).z k (Nat.le_refl _) hkn
      have f3 := (HL.out.keep hb3).f k
      have HL3 := Lib.hid (HL.out.more hb3 hkn v3 ho3)
      have HB3 := Lib.hid ((Below.two HBr.out hb3).setCell (p := ⟨w2.heap.size, k, none⟩) (Nat.le_refl _) v3)
      obtain ⟨p3, c3, hv3, _⟩ := ho3.arg
      have HV3 := Lib.hid hv3
      clear hb3 ho3 HU o0
      rw [hv3] at HL3 HB3 ⊢
      go_wp2_with fail
      go_roundw
      case rel => exact ⟨k + 1, _, by go_num, by omega, HB3, HL3⟩
      case measure => simp [RowKit.intOf]; omega
    · obtain rfl : k = m := by omega
      go_wp2_with fail
      go_ret2
      exact ⟨_, vs, rfl, HL.out, Below.two HB2.out HBr.out⟩
end Go.Proofs.YtomfkmclgabcpaaDoor
