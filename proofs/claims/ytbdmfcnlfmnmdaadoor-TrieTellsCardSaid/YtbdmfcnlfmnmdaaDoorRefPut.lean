/-
  The document's own answer PutIn, at every table, every network and every number; what lay in memory stays.
-/
import Derived.Test.YtbdmfcnlfmnmdaaDoorRefDrop
namespace Go.Proofs.YtbdmfcnlfmnmdaaDoor
open Go.RowKit

/-- Three blocks: the table, the network, what is told. -/
structure Three (w : World) (B : Nat) (vN vV a b uN uV : Value) : Prop where
  t : Box w B vN vV
  n : Box w (B + 1) a b
  r : Box w (B + 1 + 1) uN uV
theorem Three.below {w w' : World} {B k : Nat} {vN vV a b uN uV : Value} (h : Three w B vN vV a b uN uV) (hb : Below k w w') (hk : B + 3 ≤ k) : Three w' B vN vV a b uN uV :=
  ⟨h.t.below hb (by omega), h.n.below hb (by omega), h.r.below hb (by omega)⟩
theorem three_new (w X : World) (vN vV a b uN uV : Value) (T T' : TypeId) (hX : ((w.alloc (.cells #[vN, vV] T)).alloc (.cells #[a, b] T')).alloc (.cells #[uN, uV] T) = X) : Three X w.heap.size vN vV a b uN uV ∧ Below w.heap.size w X ∧ X.heap.size = w.heap.size + 3 := by
  subst hX
  have e1 : (w.alloc (.cells #[vN, vV] T)).heap.size = w.heap.size + 1 := by simp
  have e2 : ((w.alloc (.cells #[vN, vV] T)).alloc (.cells #[a, b] T')).heap.size = w.heap.size + 1 + 1 := by simp
  have b1 := ((Box.new w vN vV T).alloc (.cells #[a, b] T')).alloc (.cells #[uN, uV] T)
  have b2 := (Box.new (w.alloc (.cells #[vN, vV] T)) a b T').alloc (.cells #[uN, uV] T)
  have b3 := Box.new ((w.alloc (.cells #[vN, vV] T)).alloc (.cells #[a, b] T')) uN uV T
  rw [e1] at b2
  rw [e2] at b3
  exact ⟨⟨b1, b2, b3⟩, ((((Below.refl _ w).alloc (Nat.le_refl _) _).alloc (by simp) _).alloc (by simp; omega) _), by simp⟩

set_option maxHeartbeats 2000000 in
set_option maxRecDepth 100000 in
theorem putIn_full (w : World) (vN vV : Value) (M : Mt) (n : Nt) (z : Int) (hM : M.length ≤ 1000000) (hN : Arg w vN (nets M)) (hV : ArgI w vV (vals M)) (h0 : n ∉ nets M) (h64 : 64 ≤ M.length) :
    Calls Tryd.prog 12 #[.agg #[vN, vV], .agg #[.int .u32 n.1, .int .i64 n.2], .int .i64 z] w fun e w' => e = .returned (.tuple #[.agg #[vN, vV], .bool false]) ∧ Below w.heap.size w w' := by
  have HN := Lib.hid hN
  have HP := Lib.hid (plc_none h0)
  obtain ⟨pN, cN, eN, _⟩ := hN
  obtain ⟨pV, cV, eV, _⟩ := hV
  rw [nets_len] at eN
  rw [vals_len] at eV
  subst eN eV
  clear h0
  have h64' : (64 : Int) ≤ (M.length : Int) := by omega
  go_enter Tryd.func12, Tryd.ntmps12
  go_wp2_with fail
  generalize hX : ((w.alloc (.cells #[.slice pN M.length cN, .slice pV M.length cV] 28)).alloc (.cells #[.int .u32 n.1, .int .i64 n.2] 32)).alloc (.cells #[.slice none 0 0, .slice none 0 0] 28) = X
  obtain ⟨f0, b0, z0⟩ := three_new _ _ _ _ _ _ _ _ _ _ hX
  clear hX
  refine (places_any X _ (nets M) n (by rw [nets_len]; omega) (HN.out.below b0)).mono ?_
  rintro e w3 ⟨rfl, b3⟩
  rw [HP.out]
  obtain ⟨⟨lt, t0, t1, _, _⟩, ⟨ln, n0, n1, _, _⟩, ⟨lr, r0, r1, rf0, rf1⟩⟩ := f0.below b3 (by omega)
  have B3 := Below.two b0 b3
  clear f0 b0 b3
  go_wp2_with fail
  exact bodyPost_ret (v := .tuple #[.agg #[.slice pN M.length cN, .slice pV M.length cV], .bool false]) (by simp [results, Tryd.results12, go_sem, r0, r1]) rfl ⟨rfl, (B3.setCell (p := ⟨w.heap.size + 1 + 1, 0, none⟩) (by simp only; omega) _).setCell (p := ⟨w.heap.size + 1 + 1, 1, none⟩) (by simp only; omega) _⟩

theorem row_new {w : World} {base k : Nat} {v : Value} {l : List Nt} (h : Own w base v l) (hk : w.heap.size ≤ k) : v.ownBlock ≠ some k := by
  intro e
  have := (World.ownsRow.lt h k e).2
  omega
theorem row_newI {w : World} {base k : Nat} {v : Value} {l : List Int} (h : OwnI w base v l) (hk : w.heap.size ≤ k) : v.ownBlock ≠ some k := by
  intro e
  have := (World.ownsRow.lt h k e).2
  omega

set_option maxHeartbeats 4000000 in
set_option maxRecDepth 100000 in
theorem putIn_ok (w : World) (vN vV : Value) (M : Mt) (n : Nt) (z : Int) (hM : M.length ≤ 1000000) (hN : Arg w vN (nets M)) (hV : ArgI w vV (vals M)) (h0 : n ∈ nets M ∨ M.length < 64) :
    Calls Tryd.prog 12 #[.agg #[vN, vV], .agg #[.int .u32 n.1, .int .i64 n.2], .int .i64 z] w fun e w' => ∃ uN uV, e = .returned (.tuple #[.agg #[uN, uV], .bool true]) ∧ Own w' w.heap.size uN (nets (dropM M n ++ [(n, z)])) ∧ OwnI w' w.heap.size uV (vals (dropM M n ++ [(n, z)])) ∧ Below w.heap.size w w' := by
  have HN := Lib.hid hN; have HV := Lib.hid hV
  obtain ⟨pN, cN, eN, _⟩ := hN
  obtain ⟨pV, cV, eV, _⟩ := hV
  rw [nets_len] at eN
  rw [vals_len] at eV
  subst eN eV
  have hway : (plc (nets M) n < 0 ∧ ¬ (64 : Int) ≤ (M.length : Int)) ∨ ¬ plc (nets M) n < 0 := by
    rcases h0 with h | h
    · exact Or.inr (fun e => (plc_neg _ _).1 e h)
    · by_cases e : plc (nets M) n < 0
      · exact Or.inl ⟨e, by omega⟩
      · exact Or.inr e
  clear h0
  have HQ := Lib.hid (fun W hW => places_any W (.slice pN M.length cN) (nets M) n (by rw [nets_len]; omega) hW)
  generalize plc (nets M) n = pl at hway HQ
  go_enter Tryd.func12, Tryd.ntmps12
  go_wp2_with fail
  generalize hX : ((w.alloc (.cells #[.slice pN M.length cN, .slice pV M.length cV] 28)).alloc (.cells #[.int .u32 n.1, .int .i64 n.2] 32)).alloc (.cells #[.slice none 0 0, .slice none 0 0] 28) = X
  obtain ⟨f0, b0, z0⟩ := three_new _ _ _ _ _ _ _ _ _ _ hX
  clear hX
  refine (HQ.out X (HN.out.below b0)).mono ?_
  rintro e w3 ⟨rfl, b3⟩
  have F3 := Lib.hid (f0.below b3 (by omega)); have B3 := Lib.hid (Below.two b0 b3)
  have hz3 : w.heap.size + 3 ≤ w3.heap.size := by have := b3.size; omega
  obtain ⟨⟨lt, t0, t1, _, _⟩, ⟨ln, n0, n1, _, _⟩, _⟩ := F3.out
  clear f0 b0 b3 z0
  rcases hway with ⟨h1, h2⟩ | h1
  · go_wp2_with fail
    refine (dropFrom_any w3 _ _ M n hM (HN.out.below B3.out) (HV.out.below B3.out)).mono ?_
    rintro e w4 ⟨uN, uV, rfl, o4, i4, b4⟩
    have hl4 : (nets (dropM M n)).length ≤ 1000000 := by rw [nets_len]; exact Nat.le_trans (dropM_len M n) hM
    have hl4' : (vals (dropM M n)).length ≤ 1000000 := by rw [vals_len]; exact Nat.le_trans (dropM_len M n) hM
    have hz4 : w3.heap.size ≤ w4.heap.size := b4.size
    have bx := Box.new w4 uN uV 28
    have b5 : Below w4.heap.size w4 (w4.alloc (.cells #[uN, uV] 28)) := (Below.refl _ _).alloc (Nat.le_refl _) _
    have hx5 : (w4.alloc (.cells #[uN, uV] 28)).heap.size = w4.heap.size + 1 := by simp
    have F4 := Lib.hid ((F3.out.below b4 hz3).below b5 (by omega)); have O5 := Lib.hid (o4.keep b5); have I5 := Lib.hid (i4.keep b5); have X5 := Lib.hid bx; have B5 := Lib.hid (Below.two (Below.two B3.out b4) b5)
    have HO4 := Lib.hid o4; have HI4 := Lib.hid i4
    obtain ⟨p1, c1, hv1, _⟩ := o4.arg
    obtain ⟨p2, c2, hv2, _⟩ := i4.arg
    clear t0 t1 n0 n1 o4 i4 b4 b5 bx lt ln
    obtain ⟨_, ⟨ln, n0, n1, _, _⟩, _⟩ := F4.out
    generalize (nets (dropM M n)).length = m1 at hv1
    generalize (vals (dropM M n)).length = m2 at hv2
    subst hv1 hv2
    have bV : Below (w4.alloc (.cells #[.slice p1 m1 c1, .slice p2 m2 c2] 28)).heap.size (w4.alloc (.cells #[.slice p1 m1 c1, .slice p2 m2 c2] 28)) ((w4.alloc (.cells #[.slice p1 m1 c1, .slice p2 m2 c2] 28)).alloc (.cells #[.int .u32 n.1, .int .i64 n.2] 32)) := (Below.refl _ _).alloc (Nat.le_refl _) _
    have hV5 : ((w4.alloc (.cells #[.slice p1 m1 c1, .slice p2 m2 c2] 28)).alloc (.cells #[.int .u32 n.1, .int .i64 n.2] 32)).heap.size = w4.heap.size + 1 + 1 := by simp
    go_wp2_with (at_builtin; refine wpList_plain rfl fun _ hK => wp_append_one _ _ rfl w3.heap.size (.slice p1 m1 c1) (nets (dropM M n)) n (w4.heap.size + 1) 1 rfl rfl ?ra1 ?ra2 (by omega) ?ra3 ?ra4)
    case ra1 => exact O5.out.keep bV
    case ra2 => have := Box.new (w4.alloc (.cells #[.slice p1 m1 c1, .slice p2 m2 c2] 28)) (Nt.v0 n) (Nt.v1 n) 32; rw [hx5] at this; exact this
    case ra3 => exact Nat.le_trans hz4 (by rw [hV5]; omega)
    intro v5 w5 hO hg hnew
    refine hK _ _ ?_
    clear hK
    have hbase : w3.heap.size ≤ ((w4.alloc (.cells #[.slice p1 m1 c1, .slice p2 m2 c2] 28)).alloc (.cells #[.int .u32 n.1, .int .i64 n.2] 32)).heap.size := Nat.le_trans hz4 (by rw [hV5]; omega)
    have bG := grown_below hg hbase (fun q hq => (World.ownsRow.lt HO4.out q hq).1)
    -- the table that is made
    have eO : w5.heap[w4.heap.size]? = ((w4.alloc (.cells #[.slice p1 m1 c1, .slice p2 m2 c2] 28)).alloc (.cells #[.int .u32 n.1, .int .i64 n.2] 32)).heap[w4.heap.size]? := hg.block w4.heap.size (by rw [hV5]; omega) (fun e => row_new HO4.out (Nat.le_refl _) e.symm)
    have XV := X5.out.kept bV
    have x0 : w5.cell? ⟨w4.heap.size, 0, none⟩ = some (.slice p1 m1 c1) := (World.cell?_of_block (w := ((w4.alloc (.cells #[.slice p1 m1 c1, .slice p2 m2 c2] 28)).alloc (.cells #[.int .u32 n.1, .int .i64 n.2] 32))) eO).trans XV.c0
    have x1 : w5.cell? ⟨w4.heap.size, 1, none⟩ = some (.slice p2 m2 c2) := (World.cell?_of_block (w := ((w4.alloc (.cells #[.slice p1 m1 c1, .slice p2 m2 c2] 28)).alloc (.cells #[.int .u32 n.1, .int .i64 n.2] 32))) eO).trans XV.c1
    have y0 : w5.frozen? ⟨w4.heap.size, 0, none⟩ = false := (World.frozen?_of_block (w := ((w4.alloc (.cells #[.slice p1 m1 c1, .slice p2 m2 c2] 28)).alloc (.cells #[.int .u32 n.1, .int .i64 n.2] 32))) eO).trans XV.f0
    have y1 : w5.frozen? ⟨w4.heap.size, 1, none⟩ = false := (World.frozen?_of_block (w := ((w4.alloc (.cells #[.slice p1 m1 c1, .slice p2 m2 c2] 28)).alloc (.cells #[.int .u32 n.1, .int .i64 n.2] 32))) eO).trans XV.f1
    have hz5 : w4.heap.size + 2 ≤ w5.heap.size := by have := hg.size; rw [hV5] at this; omega
    have F5 := (F4.out.below bV (by omega)).below bG (by omega)
    have I5' : OwnI w5 w3.heap.size (.slice p2 m2 c2) (vals (dropM M n)) := World.ownsRow.kept (I5.out.keep bV) hg (row_types (O5.out.keep bV) (I5.out.keep bV))
    have n5 : v5.ownBlock ≠ some w4.heap.size := by
      rcases hnew with e | e
      · rw [e]; exact row_new HO4.out (Nat.le_refl _)
      · rw [e]; intro e2; have := Option.some.inj e2; omega
    have hB5 : Below w.heap.size w w5 := (Below.two B5.out bV).trans (bG.mono (by omega))
    obtain ⟨p5, c5, hv5, _⟩ := hO.arg
    generalize (nets (dropM M n) ++ [n]).length = m5 at hv5
    subst hv5
    -- behind the store
    have HO6 := Lib.hid (ownsRow_setCell_other hO (a := ⟨w4.heap.size, 0, none⟩) n5 (.slice p5 m5 c5))
    have HI6 : Hid (OwnI (w5.setCell ⟨w4.heap.size, 0, none⟩ (.slice p5 m5 c5)) w3.heap.size (.slice p2 m2 c2) (vals (dropM M n))) := Lib.hid (ownsRow_setCell_other I5' (a := ⟨w4.heap.size, 0, none⟩) (row_newI HI4.out (Nat.le_refl _)) (.slice p5 m5 c5))
    have hn6 : (Value.slice p5 m5 c5).ownBlock ≠ some w4.heap.size := n5
    have F6 := Lib.hid (show Three (w5.setCell ⟨w4.heap.size, 0, none⟩ (.slice p5 m5 c5)) w.heap.size (.slice pN M.length cN) (.slice pV M.length cV) (.int .u32 n.1) (.int .i64 n.2) (.slice none 0 0) (.slice none 0 0) from ⟨F5.t.off (by omega) _ _, F5.n.off (by omega) _ _, F5.r.off (by omega) _ _⟩)
    have X6 := Lib.hid (show Box (w5.setCell ⟨w4.heap.size, 0, none⟩ (.slice p5 m5 c5)) w4.heap.size (.slice p5 m5 c5) (.slice p2 m2 c2) from Box.cell0 ⟨by omega, x0, x1, y0, y1⟩ (.slice p5 m5 c5))
    have B6 := Lib.hid (hB5.setCell (p := ⟨w4.heap.size, 0, none⟩) (by simp only; omega) (.slice p5 m5 c5))
    have hz6 : (w5.setCell ⟨w4.heap.size, 0, none⟩ (.slice p5 m5 c5)).heap.size = w5.heap.size := by simp [World.setCell]
    have hl6 := HO6.out.1
    clear hO hg hnew bG eO XV x1 y1 F5 I5' n5 hB5 bV n0 n1 ln O5 I5 X5 B5 F4 hbase hV5 hx5
    have q1 := X6.out.c1
    -- the numbers
    have bW : Below (w5.setCell ⟨w4.heap.size, 0, none⟩ (.slice p5 m5 c5)).heap.size (w5.setCell ⟨w4.heap.size, 0, none⟩ (.slice p5 m5 c5)) ((w5.setCell ⟨w4.heap.size, 0, none⟩ (.slice p5 m5 c5)).alloc (.cells #[.int .i64 z] 3)) := (Below.refl _ _).alloc (Nat.le_refl _) _
    have hW6 : ((w5.setCell ⟨w4.heap.size, 0, none⟩ (.slice p5 m5 c5)).alloc (.cells #[.int .i64 z] 3)).heap.size = w5.heap.size + 1 := by simp [World.setCell]
    go_wp2_with (at_builtin; refine wpList_plain rfl fun _ hK => wp_append_oneI _ _ rfl w3.heap.size (.slice p2 m2 c2) (vals (dropM M n)) z w5.heap.size 1 rfl rfl ?ra5 ?ra6 (by omega) ?ra7 ?ra8)
    case ra5 => exact HI6.out.keep bW
    case ra6 => rw [← hz6]; exact (World.cell?_alloc_new _ _ _ 0).trans rfl
    case ra7 => rw [hW6]; omega
    intro v7 w7 hI hg hnew
    refine hK _ _ ?_
    clear hK
    have bG := grown_below hg (by rw [hW6]; omega) (fun q hq => (World.ownsRow.lt HI4.out q hq).1)
    have eO : w7.heap[w4.heap.size]? = ((w5.setCell ⟨w4.heap.size, 0, none⟩ (.slice p5 m5 c5)).alloc (.cells #[.int .i64 z] 3)).heap[w4.heap.size]? := hg.block w4.heap.size (by rw [hW6]; omega) (fun e => row_newI HI4.out (Nat.le_refl _) e.symm)
    have XV := X6.out.kept bW
    have x0' : w7.cell? ⟨w4.heap.size, 0, none⟩ = some (.slice p5 m5 c5) := (World.cell?_of_block (w := (w5.setCell ⟨w4.heap.size, 0, none⟩ (.slice p5 m5 c5)).alloc (.cells #[.int .i64 z] 3)) eO).trans XV.c0
    have x1' : w7.cell? ⟨w4.heap.size, 1, none⟩ = some (.slice p2 m2 c2) := (World.cell?_of_block (w := (w5.setCell ⟨w4.heap.size, 0, none⟩ (.slice p5 m5 c5)).alloc (.cells #[.int .i64 z] 3)) eO).trans XV.c1
    have y1' : w7.frozen? ⟨w4.heap.size, 1, none⟩ = false := (World.frozen?_of_block (w := (w5.setCell ⟨w4.heap.size, 0, none⟩ (.slice p5 m5 c5)).alloc (.cells #[.int .i64 z] 3)) eO).trans XV.f1
    have hz7 : w5.heap.size + 1 ≤ w7.heap.size := by have := hg.size; rw [hW6] at this; omega
    have F7 := (F6.out.below bW (by rw [hz6]; omega)).below bG (by omega)
    have O7 : Own w7 w3.heap.size (.slice p5 m5 c5) (nets (dropM M n) ++ [n]) := by
      have h1 := rowKeep HO6.out bW
      have h3 : Own ((w5.setCell ⟨w4.heap.size, 0, none⟩ (.slice p5 m5 c5)).alloc (.cells #[.int .i64 z] 3)) w3.heap.size (.slice p5 m5 c5) (nets (dropM M n) ++ [n]) := h1
      exact World.ownsRow.kept h3 hg (row_types' h3 (HI6.out.keep bW))
    have n7 : v7.ownBlock ≠ some w4.heap.size := by
      rcases hnew with e | e
      · rw [e]; exact row_newI HI4.out (Nat.le_refl _)
      · rw [e]; intro e2; have := Option.some.inj e2; omega
    have hB7 : Below w.heap.size w w7 := (Below.two B6.out bW).trans (bG.mono (by omega))
    obtain ⟨p7, c7, hv7, _⟩ := hI.arg
    generalize (vals (dropM M n) ++ [z]).length = m7 at hv7
    subst hv7
    have O8 : Own (w7.setCell ⟨w4.heap.size, 1, none⟩ (.slice p7 m7 c7)) w3.heap.size (.slice p5 m5 c5) (nets (dropM M n) ++ [n]) := ownsRow_setCell_other O7 (a := ⟨w4.heap.size, 1, none⟩) hn6 (.slice p7 m7 c7)
    have I8 : OwnI (w7.setCell ⟨w4.heap.size, 1, none⟩ (.slice p7 m7 c7)) w3.heap.size (.slice p7 m7 c7) (vals (dropM M n) ++ [z]) := ownsRow_setCell_other hI (a := ⟨w4.heap.size, 1, none⟩) n7 (.slice p7 m7 c7)
    have HO8 := Lib.hid O8; have HI8 := Lib.hid I8
    have HF8 := Lib.hid (show Three (w7.setCell ⟨w4.heap.size, 1, none⟩ (.slice p7 m7 c7)) w.heap.size (.slice pN M.length cN) (.slice pV M.length cV) (.int .u32 n.1) (.int .i64 n.2) (.slice none 0 0) (.slice none 0 0) from ⟨F7.t.off (by omega) _ _, F7.n.off (by omega) _ _, F7.r.off (by omega) _ _⟩)
    have HX8 := Lib.hid (show Box (w7.setCell ⟨w4.heap.size, 1, none⟩ (.slice p7 m7 c7)) w4.heap.size (.slice p5 m5 c5) (.slice p7 m7 c7) from ⟨by simp only [World.setCell, Array.size_modify]; omega, (World.cell?_setCell_other _ _ _ _ (by simp)).trans x0', World.cell?_setCell_same _ _ _ x1', by rw [World.frozen?_setCell]; exact (World.frozen?_of_block (w := (w5.setCell ⟨w4.heap.size, 0, none⟩ (.slice p5 m5 c5)).alloc (.cells #[.int .i64 z] 3)) eO).trans XV.f0, by rw [World.frozen?_setCell]; exact y1'⟩)
    have HB8 := Lib.hid (hB7.setCell (p := ⟨w4.heap.size, 1, none⟩) (by simp only; omega) (.slice p7 m7 c7))
    obtain ⟨_, u0, u1, _, _⟩ := HX8.out
    obtain ⟨_, r0, r1, rf0, rf1⟩ := HF8.out.r
    clear hI hg hnew bG eO XV F7 O7 n7 hB7 O8 I8 bW x0 y0 q1
    go_wp2_with fail
    have hO9 := ownsRow_setCell_below (ownsRow_setCell_below HO8.out (a := ⟨w.heap.size + 1 + 1, 0, none⟩) (by simp only; omega) (.slice p5 m5 c5)) (a := ⟨w.heap.size + 1 + 1, 1, none⟩) (by simp only; omega) (.slice p7 m7 c7)
    have hP9 := ownsRow_setCell_below (ownsRow_setCell_below HI8.out (a := ⟨w.heap.size + 1 + 1, 0, none⟩) (by simp only; omega) (.slice p5 m5 c5)) (a := ⟨w.heap.size + 1 + 1, 1, none⟩) (by simp only; omega) (.slice p7 m7 c7)
    exact bodyPost_ret (v := .tuple #[.agg #[.slice p5 m5 c5, .slice p7 m7 c7], .bool true]) (by simp [results, Tryd.results12, go_sem, r0, r1]) rfl ⟨_, _, rfl, by rw [nets_app]; exact Own.down hO9 (by omega), by rw [vals_app]; exact OwnI.down hP9 (by omega), (HB8.out.setCell (p := ⟨w.heap.size + 1 + 1, 0, none⟩) (by simp only; omega) _).setCell (p := ⟨w.heap.size + 1 + 1, 1, none⟩) (by simp only; omega) _⟩
  · go_wp2_with fail
    refine (dropFrom_any w3 _ _ M n hM (HN.out.below B3.out) (HV.out.below B3.out)).mono ?_
    rintro e w4 ⟨uN, uV, rfl, o4, i4, b4⟩
    have hl4 : (nets (dropM M n)).length ≤ 1000000 := by rw [nets_len]; exact Nat.le_trans (dropM_len M n) hM
    have hl4' : (vals (dropM M n)).length ≤ 1000000 := by rw [vals_len]; exact Nat.le_trans (dropM_len M n) hM
    have hz4 : w3.heap.size ≤ w4.heap.size := b4.size
    have bx := Box.new w4 uN uV 28
    have b5 : Below w4.heap.size w4 (w4.alloc (.cells #[uN, uV] 28)) := (Below.refl _ _).alloc (Nat.le_refl _) _
    have hx5 : (w4.alloc (.cells #[uN, uV] 28)).heap.size = w4.heap.size + 1 := by simp
    have F4 := Lib.hid ((F3.out.below b4 hz3).below b5 (by omega)); have O5 := Lib.hid (o4.keep b5); have I5 := Lib.hid (i4.keep b5); have X5 := Lib.hid bx; have B5 := Lib.hid (Below.two (Below.two B3.out b4) b5)
    have HO4 := Lib.hid o4; have HI4 := Lib.hid i4
    obtain ⟨p1, c1, hv1, _⟩ := o4.arg
    obtain ⟨p2, c2, hv2, _⟩ := i4.arg
    clear t0 t1 n0 n1 o4 i4 b4 b5 bx lt ln
    obtain ⟨_, ⟨ln, n0, n1, _, _⟩, _⟩ := F4.out
    generalize (nets (dropM M n)).length = m1 at hv1
    generalize (vals (dropM M n)).length = m2 at hv2
    subst hv1 hv2
    have bV : Below (w4.alloc (.cells #[.slice p1 m1 c1, .slice p2 m2 c2] 28)).heap.size (w4.alloc (.cells #[.slice p1 m1 c1, .slice p2 m2 c2] 28)) ((w4.alloc (.cells #[.slice p1 m1 c1, .slice p2 m2 c2] 28)).alloc (.cells #[.int .u32 n.1, .int .i64 n.2] 32)) := (Below.refl _ _).alloc (Nat.le_refl _) _
    have hV5 : ((w4.alloc (.cells #[.slice p1 m1 c1, .slice p2 m2 c2] 28)).alloc (.cells #[.int .u32 n.1, .int .i64 n.2] 32)).heap.size = w4.heap.size + 1 + 1 := by simp
    go_wp2_with (at_builtin; refine wpList_plain rfl fun _ hK => wp_append_one _ _ rfl w3.heap.size (.slice p1 m1 c1) (nets (dropM M n)) n (w4.heap.size + 1) 1 rfl rfl ?rb1 ?rb2 (by omega) ?rb3 ?rb4)
    case rb1 => exact O5.out.keep bV
    case rb2 => have := Box.new (w4.alloc (.cells #[.slice p1 m1 c1, .slice p2 m2 c2] 28)) (Nt.v0 n) (Nt.v1 n) 32; rw [hx5] at this; exact this
    case rb3 => exact Nat.le_trans hz4 (by rw [hV5]; omega)
    intro v5 w5 hO hg hnew
    refine hK _ _ ?_
    clear hK
    have hbase : w3.heap.size ≤ ((w4.alloc (.cells #[.slice p1 m1 c1, .slice p2 m2 c2] 28)).alloc (.cells #[.int .u32 n.1, .int .i64 n.2] 32)).heap.size := Nat.le_trans hz4 (by rw [hV5]; omega)
    have bG := grown_below hg hbase (fun q hq => (World.ownsRow.lt HO4.out q hq).1)
    -- the table that is made
    have eO : w5.heap[w4.heap.size]? = ((w4.alloc (.cells #[.slice p1 m1 c1, .slice p2 m2 c2] 28)).alloc (.cells #[.int .u32 n.1, .int .i64 n.2] 32)).heap[w4.heap.size]? := hg.block w4.heap.size (by rw [hV5]; omega) (fun e => row_new HO4.out (Nat.le_refl _) e.symm)
    have XV := X5.out.kept bV
    have x0 : w5.cell? ⟨w4.heap.size, 0, none⟩ = some (.slice p1 m1 c1) := (World.cell?_of_block (w := ((w4.alloc (.cells #[.slice p1 m1 c1, .slice p2 m2 c2] 28)).alloc (.cells #[.int .u32 n.1, .int .i64 n.2] 32))) eO).trans XV.c0
    have x1 : w5.cell? ⟨w4.heap.size, 1, none⟩ = some (.slice p2 m2 c2) := (World.cell?_of_block (w := ((w4.alloc (.cells #[.slice p1 m1 c1, .slice p2 m2 c2] 28)).alloc (.cells #[.int .u32 n.1, .int .i64 n.2] 32))) eO).trans XV.c1
    have y0 : w5.frozen? ⟨w4.heap.size, 0, none⟩ = false := (World.frozen?_of_block (w := ((w4.alloc (.cells #[.slice p1 m1 c1, .slice p2 m2 c2] 28)).alloc (.cells #[.int .u32 n.1, .int .i64 n.2] 32))) eO).trans XV.f0
    have y1 : w5.frozen? ⟨w4.heap.size, 1, none⟩ = false := (World.frozen?_of_block (w := ((w4.alloc (.cells #[.slice p1 m1 c1, .slice p2 m2 c2] 28)).alloc (.cells #[.int .u32 n.1, .int .i64 n.2] 32))) eO).trans XV.f1
    have hz5 : w4.heap.size + 2 ≤ w5.heap.size := by have := hg.size; rw [hV5] at this; omega
    have F5 := (F4.out.below bV (by omega)).below bG (by omega)
    have I5' : OwnI w5 w3.heap.size (.slice p2 m2 c2) (vals (dropM M n)) := World.ownsRow.kept (I5.out.keep bV) hg (row_types (O5.out.keep bV) (I5.out.keep bV))
    have n5 : v5.ownBlock ≠ some w4.heap.size := by
      rcases hnew with e | e
      · rw [e]; exact row_new HO4.out (Nat.le_refl _)
      · rw [e]; intro e2; have := Option.some.inj e2; omega
    have hB5 : Below w.heap.size w w5 := (Below.two B5.out bV).trans (bG.mono (by omega))
    obtain ⟨p5, c5, hv5, _⟩ := hO.arg
    generalize (nets (dropM M n) ++ [n]).length = m5 at hv5
    subst hv5
    -- behind the store
    have HO6 := Lib.hid (ownsRow_setCell_other hO (a := ⟨w4.heap.size, 0, none⟩) n5 (.slice p5 m5 c5))
    have HI6 : Hid (OwnI (w5.setCell ⟨w4.heap.size, 0, none⟩ (.slice p5 m5 c5)) w3.heap.size (.slice p2 m2 c2) (vals (dropM M n))) := Lib.hid (ownsRow_setCell_other I5' (a := ⟨w4.heap.size, 0, none⟩) (row_newI HI4.out (Nat.le_refl _)) (.slice p5 m5 c5))
    have hn6 : (Value.slice p5 m5 c5).ownBlock ≠ some w4.heap.size := n5
    have F6 := Lib.hid (show Three (w5.setCell ⟨w4.heap.size, 0, none⟩ (.slice p5 m5 c5)) w.heap.size (.slice pN M.length cN) (.slice pV M.length cV) (.int .u32 n.1) (.int .i64 n.2) (.slice none 0 0) (.slice none 0 0) from ⟨F5.t.off (by omega) _ _, F5.n.off (by omega) _ _, F5.r.off (by omega) _ _⟩)
    have X6 := Lib.hid (show Box (w5.setCell ⟨w4.heap.size, 0, none⟩ (.slice p5 m5 c5)) w4.heap.size (.slice p5 m5 c5) (.slice p2 m2 c2) from Box.cell0 ⟨by omega, x0, x1, y0, y1⟩ (.slice p5 m5 c5))
    have B6 := Lib.hid (hB5.setCell (p := ⟨w4.heap.size, 0, none⟩) (by simp only; omega) (.slice p5 m5 c5))
    have hz6 : (w5.setCell ⟨w4.heap.size, 0, none⟩ (.slice p5 m5 c5)).heap.size = w5.heap.size := by simp [World.setCell]
    have hl6 := HO6.out.1
    clear hO hg hnew bG eO XV x1 y1 F5 I5' n5 hB5 bV n0 n1 ln O5 I5 X5 B5 F4 hbase hV5 hx5
    have q1 := X6.out.c1
    -- the numbers
    have bW : Below (w5.setCell ⟨w4.heap.size, 0, none⟩ (.slice p5 m5 c5)).heap.size (w5.setCell ⟨w4.heap.size, 0, none⟩ (.slice p5 m5 c5)) ((w5.setCell ⟨w4.heap.size, 0, none⟩ (.slice p5 m5 c5)).alloc (.cells #[.int .i64 z] 3)) := (Below.refl _ _).alloc (Nat.le_refl _) _
    have hW6 : ((w5.setCell ⟨w4.heap.size, 0, none⟩ (.slice p5 m5 c5)).alloc (.cells #[.int .i64 z] 3)).heap.size = w5.heap.size + 1 := by simp [World.setCell]
    go_wp2_with (at_builtin; refine wpList_plain rfl fun _ hK => wp_append_oneI _ _ rfl w3.heap.size (.slice p2 m2 c2) (vals (dropM M n)) z w5.heap.size 1 rfl rfl ?rb5 ?rb6 (by omega) ?rb7 ?rb8)
    case rb5 => exact HI6.out.keep bW
    case rb6 => rw [← hz6]; exact (World.cell?_alloc_new _ _ _ 0).trans rfl
    case rb7 => rw [hW6]; omega
    intro v7 w7 hI hg hnew
    refine hK _ _ ?_
    clear hK
    have bG := grown_below hg (by rw [hW6]; omega) (fun q hq => (World.ownsRow.lt HI4.out q hq).1)
    have eO : w7.heap[w4.heap.size]? = ((w5.setCell ⟨w4.heap.size, 0, none⟩ (.slice p5 m5 c5)).alloc (.cells #[.int .i64 z] 3)).heap[w4.heap.size]? := hg.block w4.heap.size (by rw [hW6]; omega) (fun e => row_newI HI4.out (Nat.le_refl _) e.symm)
    have XV := X6.out.kept bW
    have x0' : w7.cell? ⟨w4.heap.size, 0, none⟩ = some (.slice p5 m5 c5) := (World.cell?_of_block (w := (w5.setCell ⟨w4.heap.size, 0, none⟩ (.slice p5 m5 c5)).alloc (.cells #[.int .i64 z] 3)) eO).trans XV.c0
    have x1' : w7.cell? ⟨w4.heap.size, 1, none⟩ = some (.slice p2 m2 c2) := (World.cell?_of_block (w := (w5.setCell ⟨w4.heap.size, 0, none⟩ (.slice p5 m5 c5)).alloc (.cells #[.int .i64 z] 3)) eO).trans XV.c1
    have y1' : w7.frozen? ⟨w4.heap.size, 1, none⟩ = false := (World.frozen?_of_block (w := (w5.setCell ⟨w4.heap.size, 0, none⟩ (.slice p5 m5 c5)).alloc (.cells #[.int .i64 z] 3)) eO).trans XV.f1
    have hz7 : w5.heap.size + 1 ≤ w7.heap.size := by have := hg.size; rw [hW6] at this; omega
    have F7 := (F6.out.below bW (by rw [hz6]; omega)).below bG (by omega)
    have O7 : Own w7 w3.heap.size (.slice p5 m5 c5) (nets (dropM M n) ++ [n]) := by
      have h1 := rowKeep HO6.out bW
      have h3 : Own ((w5.setCell ⟨w4.heap.size, 0, none⟩ (.slice p5 m5 c5)).alloc (.cells #[.int .i64 z] 3)) w3.heap.size (.slice p5 m5 c5) (nets (dropM M n) ++ [n]) := h1
      exact World.ownsRow.kept h3 hg (row_types' h3 (HI6.out.keep bW))
    have n7 : v7.ownBlock ≠ some w4.heap.size := by
      rcases hnew with e | e
      · rw [e]; exact row_newI HI4.out (Nat.le_refl _)
      · rw [e]; intro e2; have := Option.some.inj e2; omega
    have hB7 : Below w.heap.size w w7 := (Below.two B6.out bW).trans (bG.mono (by omega))
    obtain ⟨p7, c7, hv7, _⟩ := hI.arg
    generalize (vals (dropM M n) ++ [z]).length = m7 at hv7
    subst hv7
    have O8 : Own (w7.setCell ⟨w4.heap.size, 1, none⟩ (.slice p7 m7 c7)) w3.heap.size (.slice p5 m5 c5) (nets (dropM M n) ++ [n]) := ownsRow_setCell_other O7 (a := ⟨w4.heap.size, 1, none⟩) hn6 (.slice p7 m7 c7)
    have I8 : OwnI (w7.setCell ⟨w4.heap.size, 1, none⟩ (.slice p7 m7 c7)) w3.heap.size (.slice p7 m7 c7) (vals (dropM M n) ++ [z]) := ownsRow_setCell_other hI (a := ⟨w4.heap.size, 1, none⟩) n7 (.slice p7 m7 c7)
    have HO8 := Lib.hid O8; have HI8 := Lib.hid I8
    have HF8 := Lib.hid (show Three (w7.setCell ⟨w4.heap.size, 1, none⟩ (.slice p7 m7 c7)) w.heap.size (.slice pN M.length cN) (.slice pV M.length cV) (.int .u32 n.1) (.int .i64 n.2) (.slice none 0 0) (.slice none 0 0) from ⟨F7.t.off (by omega) _ _, F7.n.off (by omega) _ _, F7.r.off (by omega) _ _⟩)
    have HX8 := Lib.hid (show Box (w7.setCell ⟨w4.heap.size, 1, none⟩ (.slice p7 m7 c7)) w4.heap.size (.slice p5 m5 c5) (.slice p7 m7 c7) from ⟨by simp only [World.setCell, Array.size_modify]; omega, (World.cell?_setCell_other _ _ _ _ (by simp)).trans x0', World.cell?_setCell_same _ _ _ x1', by rw [World.frozen?_setCell]; exact (World.frozen?_of_block (w := (w5.setCell ⟨w4.heap.size, 0, none⟩ (.slice p5 m5 c5)).alloc (.cells #[.int .i64 z] 3)) eO).trans XV.f0, by rw [World.frozen?_setCell]; exact y1'⟩)
    have HB8 := Lib.hid (hB7.setCell (p := ⟨w4.heap.size, 1, none⟩) (by simp only; omega) (.slice p7 m7 c7))
    obtain ⟨_, u0, u1, _, _⟩ := HX8.out
    obtain ⟨_, r0, r1, rf0, rf1⟩ := HF8.out.r
    clear hI hg hnew bG eO XV F7 O7 n7 hB7 O8 I8 bW x0 y0 q1
    go_wp2_with fail
    have hO9 := ownsRow_setCell_below (ownsRow_setCell_below HO8.out (a := ⟨w.heap.size + 1 + 1, 0, none⟩) (by simp only; omega) (.slice p5 m5 c5)) (a := ⟨w.heap.size + 1 + 1, 1, none⟩) (by simp only; omega) (.slice p7 m7 c7)
    have hP9 := ownsRow_setCell_below (ownsRow_setCell_below HI8.out (a := ⟨w.heap.size + 1 + 1, 0, none⟩) (by simp only; omega) (.slice p5 m5 c5)) (a := ⟨w.heap.size + 1 + 1, 1, none⟩) (by simp only; omega) (.slice p7 m7 c7)
    exact bodyPost_ret (v := .tuple #[.agg #[.slice p5 m5 c5, .slice p7 m7 c7], .bool true]) (by simp [results, Tryd.results12, go_sem, r0, r1]) rfl ⟨_, _, rfl, by rw [nets_app]; exact Own.down hO9 (by omega), by rw [vals_app]; exact OwnI.down hP9 (by omega), (HB8.out.setCell (p := ⟨w.heap.size + 1 + 1, 0, none⟩) (by simp only; omega) _).setCell (p := ⟨w.heap.size + 1 + 1, 1, none⟩) (by simp only; omega) _⟩
end Go.Proofs.YtbdmfcnlfmnmdaaDoor
