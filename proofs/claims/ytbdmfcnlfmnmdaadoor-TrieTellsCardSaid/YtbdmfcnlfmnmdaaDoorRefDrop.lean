/-
  The document's own answer DropFrom, at every table (a list of networks and a list of numbers) and every network; what lay in memory stays.
-/
import Derived.Test.YtbdmfcnlfmnmdaaDoorIntList
import Derived.Test.YtbdmfcnlfmnmdaaDoorRefPlaces
import Derived.StillTailTactics
import Derived.OneCell
import Derived.Deep.RegionHeld3
namespace Go.Proofs.YtbdmfcnlfmnmdaaDoor
open Go.RowKit

/-- The document's table: networks with their numbers. -/
abbrev Mt := List (Nt × Int)
def nets (M : Mt) : List Nt := M.map fun x => x.1
def vals (M : Mt) : List Int := M.map fun x => x.2
theorem nets_len (M : Mt) : (nets M).length = M.length := by simp [nets]
theorem vals_len (M : Mt) : (vals M).length = M.length := by simp [vals]
theorem nets_app (M N : Mt) : nets (M ++ N) = nets M ++ nets N := by simp [nets]
theorem vals_app (M N : Mt) : vals (M ++ N) = vals M ++ vals N := by simp [vals]
theorem nets_at (M : Mt) (k : Nat) (h : k < M.length) : (nets M)[k]! = M[k]!.1 := by
  rw [getElem!_pos (nets M) k (by rw [nets_len]; exact h), getElem!_pos M k h]; simp [nets]
theorem vals_at (M : Mt) (k : Nat) (h : k < M.length) : (vals M)[k]! = M[k]!.2 := by
  rw [getElem!_pos (vals M) k (by rw [vals_len]; exact h), getElem!_pos M k h]; simp [vals]
/-- Without one. -/
def dropM (M : Mt) (n : Nt) : Mt := M.filter fun x => decide (x.1 ≠ n)
theorem dropM_take (M : Mt) (n : Nt) (k : Nat) (h : k < M.length) : dropM (M.take (k + 1)) n = if M[k]!.1 = n then dropM (M.take k) n else dropM (M.take k) n ++ [M[k]!] := by
  unfold dropM
  rw [List.take_add_one, List.getElem?_eq_getElem h, getElem!_pos M k h, List.filter_append]
  by_cases e : M[k].1 = n
  · rw [if_pos e]; simp [e]
  · rw [if_neg e]; simp [e]
theorem row_types {w : World} {b b' : Nat} {v v' : Value} {l : List Nt} {m : List Int} (h : Own w b v l) (h' : OwnI w b' v' m) : v'.ownBlock = none ∨ v'.ownBlock ≠ v.ownBlock := by
  obtain ⟨_, ⟨rfl, _⟩ | ⟨g, cap, cur, rfl, _, hg, _⟩⟩ := h
  · cases e : v'.ownBlock with
    | none => exact Or.inl rfl
    | some g => exact Or.inr (by simp [Value.ownBlock])
  · obtain ⟨_, ⟨rfl, _⟩ | ⟨g', cap', cur', rfl, _, hg', _⟩⟩ := h'
    · exact Or.inl rfl
    · refine Or.inr fun e => ?_
      have e2 : g' = g := by simpa [Value.ownBlock] using e
      subst e2
      rw [hg] at hg'
      simp at hg'
theorem row_types' {w : World} {b b' : Nat} {v v' : Value} {l : List Nt} {m : List Int} (h : Own w b v l) (h' : OwnI w b' v' m) : v.ownBlock = none ∨ v.ownBlock ≠ v'.ownBlock := by
  rcases row_types h h' with e | e
  · cases e2 : v.ownBlock with
    | none => exact Or.inl rfl
    | some g => exact Or.inr (by rw [e]; simp)
  · exact Or.inr (Ne.symm e)
/-- What the walk holds: three cells; kept by a new block, by what is appended, by a store elsewhere. -/
theorem heldA1 {w : World} {a b c : Addr} {u v x : Value} (h : w.cell? a = some u ∧ w.cell? b = some v ∧ w.cell? c = some x) (o : Obj) : (w.alloc o).cell? a = some u ∧ (w.alloc o).cell? b = some v ∧ (w.alloc o).cell? c = some x :=
  ⟨(World.cell?_alloc_lt _ _ _ (World.block_lt_of_cell? _ _ h.1)).trans h.1, (World.cell?_alloc_lt _ _ _ (World.block_lt_of_cell? _ _ h.2.1)).trans h.2.1, (World.cell?_alloc_lt _ _ _ (World.block_lt_of_cell? _ _ h.2.2)).trans h.2.2⟩
theorem heldA2 {w : World} {a b : Addr} {u v : Value} (h : w.cell? a = some u ∧ w.cell? b = some v ∧ True) (o : Obj) : (w.alloc o).cell? a = some u ∧ (w.alloc o).cell? b = some v ∧ True :=
  ⟨(World.cell?_alloc_lt _ _ _ (World.block_lt_of_cell? _ _ h.1)).trans h.1, (World.cell?_alloc_lt _ _ _ (World.block_lt_of_cell? _ _ h.2.1)).trans h.2.1, trivial⟩
theorem heldB1 {w w' : World} {n a b i j k : Nat} {u v x : Value} (h : w.cell? ⟨a, i, none⟩ = some u ∧ w.cell? ⟨b, j, none⟩ = some v ∧ w.cell? ⟨b, k, none⟩ = some x) (hb : Below n w w') (ha : a < n) (hc : b < n) : w'.cell? ⟨a, i, none⟩ = some u ∧ w'.cell? ⟨b, j, none⟩ = some v ∧ w'.cell? ⟨b, k, none⟩ = some x :=
  ⟨(hb.cell (p := ⟨a, i, none⟩) ha).trans h.1, (hb.cell (p := ⟨b, j, none⟩) hc).trans h.2.1, (hb.cell (p := ⟨b, k, none⟩) hc).trans h.2.2⟩
theorem heldB2 {w w' : World} {n a b i j : Nat} {u v : Value} (h : w.cell? ⟨a, i, none⟩ = some u ∧ w.cell? ⟨b, j, none⟩ = some v ∧ True) (hb : Below n w w') (ha : a < n) (hc : b < n) : w'.cell? ⟨a, i, none⟩ = some u ∧ w'.cell? ⟨b, j, none⟩ = some v ∧ True :=
  ⟨(hb.cell (p := ⟨a, i, none⟩) ha).trans h.1, (hb.cell (p := ⟨b, j, none⟩) hc).trans h.2.1, trivial⟩
theorem heldC1 {w : World} {a b i j k : Nat} {u v x : Value} {q : Nat} {r : Nat} (h : w.cell? ⟨a, i, none⟩ = some u ∧ w.cell? ⟨b, j, none⟩ = some v ∧ w.cell? ⟨b, k, none⟩ = some x) (ha : a ≠ q) (hc : b ≠ q) (z : Value) : (w.setCell ⟨q, r, none⟩ z).cell? ⟨a, i, none⟩ = some u ∧ (w.setCell ⟨q, r, none⟩ z).cell? ⟨b, j, none⟩ = some v ∧ (w.setCell ⟨q, r, none⟩ z).cell? ⟨b, k, none⟩ = some x :=
  ⟨(World.cell?_setCell_other _ _ _ _ (by intro e; simp only [Addr.mk.injEq] at e; exact ha e.1.symm)).trans h.1, (World.cell?_setCell_other _ _ _ _ (by intro e; simp only [Addr.mk.injEq] at e; exact hc e.1.symm)).trans h.2.1, (World.cell?_setCell_other _ _ _ _ (by intro e; simp only [Addr.mk.injEq] at e; exact hc e.1.symm)).trans h.2.2⟩
theorem heldC2 {w : World} {a b i j : Nat} {u v : Value} {q : Nat} {r : Nat} (h : w.cell? ⟨a, i, none⟩ = some u ∧ w.cell? ⟨b, j, none⟩ = some v ∧ True) (ha : a ≠ q) (hc : b ≠ q) (z : Value) : (w.setCell ⟨q, r, none⟩ z).cell? ⟨a, i, none⟩ = some u ∧ (w.setCell ⟨q, r, none⟩ z).cell? ⟨b, j, none⟩ = some v ∧ True :=
  ⟨(World.cell?_setCell_other _ _ _ _ (by intro e; simp only [Addr.mk.injEq] at e; exact ha e.1.symm)).trans h.1, (World.cell?_setCell_other _ _ _ _ (by intro e; simp only [Addr.mk.injEq] at e; exact hc e.1.symm)).trans h.2.1, trivial⟩
theorem grown_below {w w' : World} {r : Option Nat} {n : Nat} (hg : w.grownBy w' r) (hn : n ≤ w.heap.size) (hr : ∀ q, r = some q → n ≤ q) : Below n w w' := (Below.refl n w).grown hg hn hr
theorem dropM_len (M : Mt) (n : Nt) : (dropM M n).length ≤ M.length := List.length_filter_le _ _

/-- Four blocks: the table, the network, what is told, what is made. -/
structure Four (w : World) (B : Nat) (vN vV a b uN uV oN oV : Value) : Prop where
  t : Box w B vN vV
  n : Box w (B + 1) a b
  r : Box w (B + 1 + 1) uN uV
  o : Box w (B + 1 + 1 + 1) oN oV
theorem Four.below {w w' : World} {B : Nat} {vN vV a b uN uV oN oV : Value} (h : Four w B vN vV a b uN uV oN oV) (hb : Below (B + 4) w w') : Four w' B vN vV a b uN uV oN oV :=
  ⟨h.t.below hb (by omega), h.n.below hb (by omega), h.r.below hb (by omega), h.o.below hb (by omega)⟩
theorem Box.cell0 {w : World} {b : Nat} {x y : Value} (h : Box w b x y) (x' : Value) : Box (w.setCell ⟨b, 0, none⟩ x') b x' y :=
  ⟨by simpa [World.setCell] using h.lt, World.cell?_setCell_same _ _ _ h.c0, (World.cell?_setCell_other _ _ _ _ (by simp)).trans h.c1, by rw [World.frozen?_setCell]; exact h.f0, by rw [World.frozen?_setCell]; exact h.f1⟩
theorem Box.cell1 {w : World} {b : Nat} {x y : Value} (h : Box w b x y) (y' : Value) : Box (w.setCell ⟨b, 1, none⟩ y') b x y' :=
  ⟨by simpa [World.setCell] using h.lt, (World.cell?_setCell_other _ _ _ _ (by simp)).trans h.c0, World.cell?_setCell_same _ _ _ h.c1, by rw [World.frozen?_setCell]; exact h.f0, by rw [World.frozen?_setCell]; exact h.f1⟩
theorem Box.off {w : World} {b c : Nat} {x y : Value} (h : Box w b x y) (hc : b ≠ c) (i : Nat) (v : Value) : Box (w.setCell ⟨c, i, none⟩ v) b x y :=
  ⟨by simpa [World.setCell] using h.lt, (World.cell?_setCell_other _ _ _ _ (by intro e; simp only [Addr.mk.injEq] at e; exact hc e.1.symm)).trans h.c0, (World.cell?_setCell_other _ _ _ _ (by intro e; simp only [Addr.mk.injEq] at e; exact hc e.1.symm)).trans h.c1, by rw [World.frozen?_setCell]; exact h.f0, by rw [World.frozen?_setCell]; exact h.f1⟩
theorem Four.out0 {w : World} {B : Nat} {vN vV a b uN uV oN oV : Value} (h : Four w B vN vV a b uN uV oN oV) (x : Value) : Four (w.setCell ⟨B + 1 + 1 + 1, 0, none⟩ x) B vN vV a b uN uV x oV :=
  ⟨h.t.off (by omega) _ _, h.n.off (by omega) _ _, h.r.off (by omega) _ _, h.o.cell0 x⟩
theorem Four.out1 {w : World} {B : Nat} {vN vV a b uN uV oN oV : Value} (h : Four w B vN vV a b uN uV oN oV) (x : Value) : Four (w.setCell ⟨B + 1 + 1 + 1, 1, none⟩ x) B vN vV a b uN uV oN x :=
  ⟨h.t.off (by omega) _ _, h.n.off (by omega) _ _, h.r.off (by omega) _ _, h.o.cell1 x⟩

theorem four_new (w X : World) (vN vV a b uN uV oN oV : Value) (T T' : TypeId) (hX : (((w.alloc (.cells #[vN, vV] T)).alloc (.cells #[a, b] T')).alloc (.cells #[uN, uV] T)).alloc (.cells #[oN, oV] T) = X) : Four X w.heap.size vN vV a b uN uV oN oV ∧ Below w.heap.size w X ∧ w.heap.size + 4 ≤ X.heap.size := by
  subst hX
  have e1 : (w.alloc (.cells #[vN, vV] T)).heap.size = w.heap.size + 1 := by simp
  have e2 : ((w.alloc (.cells #[vN, vV] T)).alloc (.cells #[a, b] T')).heap.size = w.heap.size + 1 + 1 := by simp
  have e3 : (((w.alloc (.cells #[vN, vV] T)).alloc (.cells #[a, b] T')).alloc (.cells #[uN, uV] T)).heap.size = w.heap.size + 1 + 1 + 1 := by simp
  have b1 := (((Box.new w vN vV T).alloc (.cells #[a, b] T')).alloc (.cells #[uN, uV] T)).alloc (.cells #[oN, oV] T)
  have b2 := ((Box.new (w.alloc (.cells #[vN, vV] T)) a b T').alloc (.cells #[uN, uV] T)).alloc (.cells #[oN, oV] T)
  have b3 := (Box.new ((w.alloc (.cells #[vN, vV] T)).alloc (.cells #[a, b] T')) uN uV T).alloc (.cells #[oN, oV] T)
  have b4 := Box.new (((w.alloc (.cells #[vN, vV] T)).alloc (.cells #[a, b] T')).alloc (.cells #[uN, uV] T)) oN oV T
  rw [e1] at b2
  rw [e2] at b3
  rw [e3] at b4
  exact ⟨⟨b1, b2, b3, b4⟩, (((((Below.refl _ w).alloc (Nat.le_refl _) _).alloc (by simp) _).alloc (by simp; omega) _).alloc (by simp; omega) _), by simp⟩

set_option maxHeartbeats 4000000 in
set_option maxRecDepth 100000 in
theorem dropFrom_any (w : World) (vN vV : Value) (M : Mt) (n : Nt) (hM : M.length ≤ 1000000) (hN : Arg w vN (nets M)) (hV : ArgI w vV (vals M)) :
    Calls Tryd.prog 15 #[.agg #[vN, vV], .agg #[.int .u32 n.1, .int .i64 n.2]] w fun e w' => ∃ uN uV, e = .returned (.agg #[uN, uV]) ∧ Own w' w.heap.size uN (nets (dropM M n)) ∧ OwnI w' w.heap.size uV (vals (dropM M n)) ∧ Below w.heap.size w w' := by
  have HN := Lib.hid hN; have HV := Lib.hid hV
  obtain ⟨pN, cN, eN, _⟩ := hN
  obtain ⟨pV, cV, eV, _⟩ := hV
  rw [nets_len] at eN
  rw [vals_len] at eV
  subst eN eV
  go_enter Tryd.func15, Tryd.ntmps15
  go_wp2_with fail
  generalize hX : (((w.alloc (.cells #[.slice pN M.length cN, .slice pV M.length cV] 28)).alloc (.cells #[.int .u32 n.1, .int .i64 n.2] 32)).alloc (.cells #[.slice none 0 0, .slice none 0 0] 28)).alloc (.cells #[.slice none 0 0, .slice none 0 0] 28) = X
  obtain ⟨f0, b0, z0⟩ := four_new _ _ _ _ _ _ _ _ _ _ _ _ hX
  have HF := Lib.hid f0; have HB := Lib.hid b0
  clear hX f0 b0
  have hz0 := Lib.hid z0; clear z0
  go_loopw [6] (fun s6 wr => ∃ (k : Nat) (oN oV : Value), s6 = .int .i64 k ∧ k ≤ M.length ∧ Hid (Four wr w.heap.size (.slice pN M.length cN) (.slice pV M.length cV) (.int .u32 n.1) (.int .i64 n.2) (.slice none 0 0) (.slice none 0 0) oN oV) ∧ Hid (Own wr (w.heap.size + 4) oN (nets (dropM (M.take k) n))) ∧ Hid (OwnI wr (w.heap.size + 4) oV (vals (dropM (M.take k) n))) ∧ Hid (Below w.heap.size w wr) ∧ Hid (w.heap.size + 4 ≤ wr.heap.size)) (fun s6 _ => M.length - (RowKit.intOf s6).toNat)
  case atStart => exact ⟨0, _, _, rfl, Nat.zero_le _, HF, Lib.hid (World.ownsRow_nil _ _ _ _), Lib.hid (World.ownsRow_nil _ _ _ _), HB, hz0⟩
  case round =>
    clear HF HB hz0
    obtain ⟨k, oN, oV, rfl, hk, HF, HO, HP, HB, HZ⟩ := hrel
    obtain ⟨⟨lt, t0, t1, _, _⟩, ⟨ln, n0, n1, _, _⟩, ⟨lr, r0, r1, rf0, rf1⟩, ⟨lo, o0, o1, of0, of1⟩⟩ := HF.out
    by_cases hkn : k < M.length
    · obtain ⟨b, off, hp, hlt, hs⟩ : ∃ b off, pN = some ⟨b, off, none⟩ ∧ b < w.heap.size ∧ Seen w b off (nets M) := by
        obtain ⟨p', c', hv, hx⟩ := HN.out
        injection hv with e1 _ _
        subst e1
        rcases hx with h | h
        · have := congrArg List.length h
          rw [nets_len] at this; simp only [List.length_nil] at this; omega
        · exact h
      obtain ⟨b', off', hp', hlt', hs'⟩ : ∃ b off, pV = some ⟨b, off, none⟩ ∧ b < w.heap.size ∧ SeenI w b off (vals M) := by
        obtain ⟨p', c', hv, hx⟩ := HV.out
        injection hv with e1 _ _
        subst e1
        rcases hx with h | h
        · have := congrArg List.length h
          rw [vals_len] at this; simp only [List.length_nil] at this; omega
        · exact h
      subst hp hp'
      obtain ⟨x, hx⟩ : ∃ x, M[k]! = x := ⟨_, rfl⟩
      have s0 : wr.cell? ⟨b, off + k * 2, none⟩ = some (.int .u32 (x.1.1 : Int)) := by have := (hs.below HB.out hlt).c0 k (by rw [nets_len]; exact hkn); rwa [nets_at M k hkn, hx] at this
      have s1 : wr.cell? ⟨b, off + k * 2 + 1, none⟩ = some (.int .i64 x.1.2) := by have := (hs.below HB.out hlt).c1 k (by rw [nets_len]; exact hkn); rwa [nets_at M k hkn, hx] at this
      have s2 : ∀ W, Below w.heap.size w W → W.cell? ⟨b', off' + k, none⟩ = some (.int .i64 x.2) := fun W hW => by have := (hs'.below hW hlt') k (by rw [vals_len]; exact hkn); rwa [vals_at M k hkn, hx] at this
      have hD := dropM_take M n k hkn
      rw [hx] at hD
      have HS2 := Lib.hid s2
      clear hs hs' hx s2
      by_cases e : x.1 = n
      · rw [if_pos e] at hD
        have HD := Lib.hid hD; clear hD
        rw [e] at s0 s1
        clear e
        go_wp2_with fail
        go_quiet (fail)
        go_wp2_with fail
        go_roundw
        case rel => exact ⟨k + 1, oN, oV, by go_num, by omega, Lib.hid (HF.out.below (Below.drewN (Below.refl _ _) _)), by rw [HD.out]; exact Lib.hid (HO.out.keep (Below.drewN (Below.refl _ _) _)), by rw [HD.out]; exact Lib.hid (HP.out.keep (Below.drewN (Below.refl _ _) _)), Lib.hid (Below.drewN HB.out _), HZ⟩
        case measure => simp [RowKit.intOf]; omega
      · rw [if_neg e] at hD
        have HD := Lib.hid hD; clear hD
        have hor : ((x.1.1 : Int) == (n.1 : Int)) = false ∨ ((x.1.1 : Int) = (n.1 : Int) ∧ (x.1.2 == n.2) = false) := by
          by_cases e1 : x.1.1 = n.1
          · refine Or.inr ⟨by omega, ?_⟩
            have : ¬ x.1.2 = n.2 := fun h => e (Prod.ext e1 h)
            simpa using this
          · refine Or.inl ?_
            have : ¬ ((x.1.1 : Int) = (n.1 : Int)) := by omega
            simpa using this
        clear e
        rcases hor with t | ⟨e1, t⟩
        · go_wp2_with fail
          go_quiet (fail)
          go_wp2_with fail
          have HF1 := Lib.hid (HF.out.below (Below.drewN (Below.refl _ wr) nq)); have HO1 := Lib.hid (HO.out.keep (Below.drewN (Below.refl _ wr) nq)); have HP1 := Lib.hid (HP.out.keep (Below.drewN (Below.refl _ wr) nq)); have HB1 := Lib.hid (Below.drewN HB.out nq); have HZ1 : Hid (w.heap.size + 4 ≤ (wr.drewN nq).heap.size) := HZ
          have hs0 : (wr.drewN nq).cell? ⟨b, off + k * 2, none⟩ = some (.int .u32 (x.1.1 : Int)) := s0
          have hs1 : (wr.drewN nq).cell? ⟨b, off + k * 2 + 1, none⟩ = some (.int .i64 x.1.2) := s1
          clear s0 s1 t0 t1 n0 n1 r0 r1 rf0 rf1 o0 o1 of0 of1 lt ln lr lo HF HO HP HB HZ
          generalize wr.drewN nq = W1 at *
          have o1 : W1.cell? ⟨w.heap.size + 1 + 1 + 1, 0, none⟩ = some oN := HF1.out.o.c0
          have A1 : ∀ q, (W1.alloc q).cell? ⟨w.heap.size + 1 + 1 + 1, 0, none⟩ = some oN := fun q => (HF1.out.o.alloc q).c0
          have A1' : ∀ q, (W1.drew.alloc q).cell? ⟨w.heap.size + 1 + 1 + 1, 0, none⟩ = some oN := fun q => (HF1.out.o.alloc q).c0
          have bA1 : Below W1.heap.size W1 (W1.drew.alloc (.cells #[.int .u32 (x.1.1 : Int), .int .i64 x.1.2] 32)) := ((Below.refl _ W1).drew).alloc (Nat.le_refl _) _
          have BX1 := Box.new W1.drew (Nt.v0 x.1) (Nt.v1 x.1) 32
          have hA1 : w.heap.size + 4 ≤ (W1.drew.alloc (.cells #[.int .u32 (x.1.1 : Int), .int .i64 x.1.2] 32)).heap.size := Nat.le_trans HZ1.out bA1.size
          have hA41 : w.heap.size + 4 ≤ W1.heap.size := HZ1.out
          have hL1 : ((nets (dropM (M.take k) n)).length + 1) * 16 ≤ 140737488355328 := by
            have := dropM_len (M.take k) n
            have h2 : (M.take k).length ≤ M.length := by rw [List.length_take]; omega
            rw [nets_len]; omega
          refine wp_region_held_drew (S := (fun w' => w'.cell? ⟨w.heap.size, 0, none⟩ = some (.slice (some ⟨b, off, none⟩) M.length cN) ∧ w'.cell? ⟨b, off + k * 2, none⟩ = some (.int .u32 (x.1.1 : Int)) ∧ w'.cell? ⟨b, off + k * 2 + 1, none⟩ = some (.int .i64 x.1.2))) (by kernel_rfl) ⟨HF1.out.t.c0, hs0, hs1⟩ (fun hHeld => ?_)
          refine wpAnyH_take (i := 0) (oi := { dst := some 21, op := Op.fieldAddr 28 (Operand.tmp 5) 0, type := 0, pos := "rest.go:812", after := #[], guard := none }) (v := ?_) rfl (by kernel_rfl) (by kernel_rfl) (by kernel_rfl) (fun _ _ _ h => h) (Or.inl ⟨by rfl, ?_⟩) hHeld ?_
          rotate_left
          · (intro w hSw; (try dsimp only at hSw); go_simp; first | done | with_reducible rfl)
          simp only [Act.put, List.setIfInBounds_toArray, List.set_cons_zero, List.set_cons_succ]
          refine wpAnyH_take (i := 2) (oi := { dst := some 23, op := Op.fieldAddr 28 (Operand.tmp 2) 0, type := 0, pos := "rest.go:812", after := #[], guard := none }) (v := ?_) rfl (by kernel_rfl) (by kernel_rfl) (by kernel_rfl) (fun _ _ _ h => h) (Or.inl ⟨by rfl, ?_⟩) hHeld ?_
          rotate_left
          · (intro w hSw; (try dsimp only at hSw); go_simp; first | done | with_reducible rfl)
          simp only [Act.put, List.setIfInBounds_toArray, List.set_cons_zero, List.set_cons_succ]
          refine wpAnyH_take (i := 3) (oi := { dst := some 24, op := Op.load 22 (Operand.tmp 23), type := 22, pos := "rest.go:812", after := #[{ on := 2, ground := Ground.data }], guard := none }) (v := ?_) rfl (by kernel_rfl) (by kernel_rfl) (by kernel_rfl) (fun _ _ _ h => h) (Or.inl ⟨by rfl, ?_⟩) hHeld ?_
          rotate_left
          · (intro w hSw; (try dsimp only at hSw); go_simp; first | done | with_reducible rfl)
          simp only [Act.put, List.setIfInBounds_toArray, List.set_cons_zero, List.set_cons_succ]
          refine wpAnyH_take (i := 4) (oi := { dst := some 25, op := Op.move (Operand.tmp 6), type := 3, pos := "rest.go:812", after := #[], guard := none }) (v := ?_) rfl (by kernel_rfl) (by kernel_rfl) (by kernel_rfl) (fun _ _ _ h => h) (Or.inl ⟨by rfl, ?_⟩) hHeld ?_
          rotate_left
          · (intro w hSw; (try dsimp only at hSw); go_simp; first | done | with_reducible rfl)
          simp only [Act.put, List.setIfInBounds_toArray, List.set_cons_zero, List.set_cons_succ]
          refine wpAnyH_take (i := 5) (oi := { dst := some 26, op := Op.indexAddr 22 (Operand.tmp 24) (Operand.tmp 25), type := 0, pos := "rest.go:812", after := #[{ on := 3, ground := Ground.data }, { on := 4, ground := Ground.data }], guard := none }) (v := ?_) rfl (by kernel_rfl) (by kernel_rfl) (by kernel_rfl) (fun _ _ _ h => h) (Or.inl ⟨by rfl, ?_⟩) hHeld ?_
          rotate_left
          · (intro w hSw; (try dsimp only at hSw); go_simp; first | done | with_reducible rfl)
          simp only [Act.put, List.setIfInBounds_toArray, List.set_cons_zero, List.set_cons_succ]
          refine wpAnyH_take (i := 6) (oi := { dst := some 27, op := Op.load 32 (Operand.tmp 26), type := 32, pos := "rest.go:812", after := #[{ on := 5, ground := Ground.data }], guard := none }) (v := ?_) rfl (by kernel_rfl) (by kernel_rfl) (by kernel_rfl) (fun _ _ _ h => h) (Or.inl ⟨by rfl, ?_⟩) hHeld ?_
          rotate_left
          · (intro w hSw; (try dsimp only at hSw); go_simp; first | done | with_reducible rfl)
          simp only [Act.put, List.setIfInBounds_toArray, List.set_cons_zero, List.set_cons_succ]
          refine wpAnyH_ready (rs := [1, 7]) (by kernel_rfl) (by simp) ?_
          refine (AllReadyH.cons (o := { dst := some 22, op := Op.load 22 (Operand.tmp 21), type := 22, pos := "rest.go:812", after := #[{ on := 0, ground := Ground.data }], guard := none }) rfl (fun K hK => ?_) (AllReadyH.cons (o := { dst := some 28, op := Op.buildSlice 22 1 #[(0, Operand.tmp 27)], type := 22, pos := "rest.go:812", after := #[{ on := 6, ground := Ground.data }], guard := none }) rfl (fun K hK => ?_) AllReadyH.nil))
          · go_simp
            have KK1 := hHeld
            clear hHeld
            refine hK.out _ _ KK1 (fun hHeld => ?_)
            clear hK K
            refine wpAnyH_ready (rs := [7]) (by kernel_rfl) (by simp) ?_
            refine (AllReadyH.cons (o := { dst := some 28, op := Op.buildSlice 22 1 #[(0, Operand.tmp 27)], type := 22, pos := "rest.go:812", after := #[{ on := 6, ground := Ground.data }], guard := none }) rfl (fun K hK => ?_) AllReadyH.nil)
            go_simp
            have KK7 := heldA1 hHeld (.cells #[.int .u32 (x.1.1 : Int), .int .i64 x.1.2] 32)
            clear hHeld
            refine hK.out _ _ KK7 (fun hHeld => ?_)
            clear hK K
            refine wpAnyH_ready (rs := [8]) (by kernel_rfl) (by simp) ?_
            refine (AllReadyH.cons (o := { dst := some 29, op := Op.call { callee := Callee.builtin Builtin.append, args := #[Operand.tmp 22, Operand.tmp 28], argTypes := #[22, 22] }, type := 22, pos := "rest.go:812", after := #[{ on := 1, ground := Ground.data }, { on := 7, ground := Ground.data }], guard := none }) rfl (fun K hK => ?_) AllReadyH.nil)
            rw [if_pos (by rfl)]
            refine wp_append_one _ _ rfl (w.heap.size + 4) oN (nets (dropM (M.take k) n)) x.1 W1.heap.size 1 rfl rfl (HO1.out.keep bA1) BX1 hL1 hA1 ?_
            intro v1 w1 hO hg hnew
            have bG := grown_below hg hA1 (fun q hq => (World.ownsRow.lt (HO1.out.keep bA1) q hq).1)
            have KK8 := heldB1 hHeld bG (by omega) (by omega)
            clear hHeld
            have HG1 := Lib.hid hg; have HW1 := Lib.hid hO; have HBG1 := Lib.hid bG
            obtain ⟨p1, c1, ev1, _⟩ := hO.arg
            generalize ((nets (dropM (M.take k) n)) ++ [x.1]).length = m1 at ev1
            subst ev1
            have g0 := ((HF1.out.below (bA1.mono hA41)).below bG).o
            have q0 := g0.c0
            have q1 := g0.f0
            clear hO hg hnew bG g0
            simp only [Act.put, List.setIfInBounds_toArray, List.set_cons_zero, List.set_cons_succ]
            refine hK.out _ _ KK8 (fun hHeld => ?_)
            clear hK K
            refine wpAnyH_take (i := 9) (oi := { dst := some 30, op := Op.fieldAddr 28 (Operand.tmp 5) 0, type := 0, pos := "rest.go:812", after := #[{ on := 0, ground := Ground.phase }, { on := 1, ground := Ground.phase }, { on := 2, ground := Ground.phase }, { on := 3, ground := Ground.phase }, { on := 4, ground := Ground.phase }, { on := 5, ground := Ground.phase }, { on := 6, ground := Ground.phase }, { on := 7, ground := Ground.phase }, { on := 8, ground := Ground.phase }], guard := none }) (v := ?_) rfl (by kernel_rfl) (by kernel_rfl) (by kernel_rfl) (fun _ _ _ h => h) (Or.inl ⟨by rfl, ?_⟩) hHeld ?_
            rotate_left
            · (intro w hSw; (try dsimp only at hSw); go_simp; first | done | with_reducible rfl)
            simp only [Act.put, List.setIfInBounds_toArray, List.set_cons_zero, List.set_cons_succ]
            refine wpAnyH_ready (rs := [10]) (by kernel_rfl) (by simp) ?_
            refine (AllReadyH.cons (o := { dst := none, op := Op.store 22 (Operand.tmp 30) (Operand.tmp 29), type := 0, pos := "rest.go:812", after := #[{ on := 9, ground := Ground.data }, { on := 8, ground := Ground.data }, { on := 8, ground := Ground.chain }, { on := 0, ground := Ground.phase }, { on := 1, ground := Ground.phase }, { on := 2, ground := Ground.phase }, { on := 3, ground := Ground.phase }, { on := 4, ground := Ground.phase }, { on := 5, ground := Ground.phase }, { on := 6, ground := Ground.phase }, { on := 7, ground := Ground.phase }, { on := 8, ground := Ground.phase }], guard := none }) rfl (fun K hK => ?_) AllReadyH.nil)
            go_simp
            have KK10 := heldC1 (q := w.heap.size + 1 + 1 + 1) (r := 0) hHeld (by omega) (by omega) (.slice p1 m1 c1)
            clear hHeld
            refine hK.out _ _ KK10 (fun hHeld => ?_)
            clear hK K
            refine wpAnyH_done (by kernel_rfl) ?_ _
            clear hHeld q0 q1
            have HF2a := Lib.hid (((HF1.out.below (bA1.mono hA41)).below HBG1.out).out0 (.slice p1 m1 c1))
            have HO2a : Hid (Own (w1.setCell ⟨w.heap.size + 1 + 1 + 1, 0, none⟩ (.slice p1 m1 c1)) (w.heap.size + 4) (.slice p1 m1 c1) (nets (dropM (M.take k) n ++ [x]))) := Lib.hid (by
              have := ownsRow_setCell_below HW1.out (a := ⟨w.heap.size + 1 + 1 + 1, 0, none⟩) (by simp only; omega) (.slice p1 m1 c1)
              rw [nets_app]; exact this)
            have HP2a : Hid (OwnI (w1.setCell ⟨w.heap.size + 1 + 1 + 1, 0, none⟩ (.slice p1 m1 c1)) (w.heap.size + 4) oV (vals (dropM (M.take k) n))) := Lib.hid (by
              have h1 := World.ownsRow.kept (HP1.out.keep bA1) HG1.out (row_types (HO1.out.keep bA1) (HP1.out.keep bA1))
              exact ownsRow_setCell_below h1 (a := ⟨w.heap.size + 1 + 1 + 1, 0, none⟩) (by simp only; omega) (.slice p1 m1 c1))
            have HB2a := Lib.hid ((((HB1.out.trans (bA1.mono (Nat.le_trans (Nat.le_add_right _ 4) hA41))).trans (HBG1.out.mono (Nat.le_add_right _ 4))).setCell (p := ⟨w.heap.size + 1 + 1 + 1, 0, none⟩) (by simp only; omega) (.slice p1 m1 c1)))
            have HZ2a : Hid (w.heap.size + 4 ≤ (w1.setCell ⟨w.heap.size + 1 + 1 + 1, 0, none⟩ (.slice p1 m1 c1)).heap.size) := Lib.hid (by have h1 : w.heap.size + 4 ≤ w1.heap.size := Nat.le_trans hA1 HBG1.out.size; simp only [World.setCell, Array.size_modify]; exact h1)
            clear HF1 HO1 HP1 HB1 HZ1 HG1 HW1 HBG1 o1 A1 A1' bA1 BX1 hA1 hA41 hL1
            go_wp2_with fail
            generalize w1.setCell ⟨w.heap.size + 1 + 1 + 1, 0, none⟩ (.slice p1 m1 c1) = W2 at *
            generalize (Value.slice p1 m1 c1) = oN' at *
            have HF2 := HF2a; have HO2 := HO2a; have HP2 := HP2a; have HB2 := HB2a; have HZ2 := HZ2a
            clear HF2a HO2a HP2a HB2a HZ2a
            have o2 : W2.cell? ⟨w.heap.size + 1 + 1 + 1, 1, none⟩ = some oV := HF2.out.o.c1
            have A2 : ∀ q, (W2.alloc q).cell? ⟨w.heap.size + 1 + 1 + 1, 1, none⟩ = some oV := fun q => (HF2.out.o.alloc q).c1
            have A2' : ∀ q, (W2.drew.alloc q).cell? ⟨w.heap.size + 1 + 1 + 1, 1, none⟩ = some oV := fun q => (HF2.out.o.alloc q).c1
            have bA2 : Below W2.heap.size W2 (W2.drew.alloc (.cells #[.int .i64 x.2] 3)) := ((Below.refl _ W2).drew).alloc (Nat.le_refl _) _
            have BX2 := (show (W2.drew.alloc (.cells #[.int .i64 x.2] 3)).cell? ⟨W2.heap.size, 0, none⟩ = some (.int .i64 x.2) from by show (W2.drew.alloc (.cells #[.int .i64 x.2] 3)).cell? ⟨W2.drew.heap.size, 0, none⟩ = _; rw [World.cell?_alloc_new]; rfl)
            have hA2 : w.heap.size + 4 ≤ (W2.drew.alloc (.cells #[.int .i64 x.2] 3)).heap.size := Nat.le_trans HZ2.out bA2.size
            have hA42 : w.heap.size + 4 ≤ W2.heap.size := HZ2.out
            have hL2 : ((vals (dropM (M.take k) n)).length + 1) * 8 ≤ 140737488355328 := by
              have := dropM_len (M.take k) n
              have h2 : (M.take k).length ≤ M.length := by rw [List.length_take]; omega
              rw [vals_len]; omega
            refine wp_region_held_drew (S := (fun w' => w'.cell? ⟨w.heap.size, 1, none⟩ = some (.slice (some ⟨b', off', none⟩) M.length cV) ∧ w'.cell? ⟨b', off' + k, none⟩ = some (.int .i64 x.2) ∧ True)) (by kernel_rfl) ⟨HF2.out.t.c1, HS2.out W2 HB2.out, trivial⟩ (fun hHeld => ?_)
            refine wpAnyH_take (i := 0) (oi := { dst := some 31, op := Op.fieldAddr 28 (Operand.tmp 5) 1, type := 0, pos := "rest.go:813", after := #[], guard := none }) (v := ?_) rfl (by kernel_rfl) (by kernel_rfl) (by kernel_rfl) (fun _ _ _ h => h) (Or.inl ⟨by rfl, ?_⟩) hHeld ?_
            rotate_left
            · (intro w hSw; (try dsimp only at hSw); go_simp; first | done | with_reducible rfl)
            simp only [Act.put, List.setIfInBounds_toArray, List.set_cons_zero, List.set_cons_succ]
            refine wpAnyH_take (i := 2) (oi := { dst := some 33, op := Op.fieldAddr 28 (Operand.tmp 2) 1, type := 0, pos := "rest.go:813", after := #[], guard := none }) (v := ?_) rfl (by kernel_rfl) (by kernel_rfl) (by kernel_rfl) (fun _ _ _ h => h) (Or.inl ⟨by rfl, ?_⟩) hHeld ?_
            rotate_left
            · (intro w hSw; (try dsimp only at hSw); go_simp; first | done | with_reducible rfl)
            simp only [Act.put, List.setIfInBounds_toArray, List.set_cons_zero, List.set_cons_succ]
            refine wpAnyH_take (i := 3) (oi := { dst := some 34, op := Op.load 23 (Operand.tmp 33), type := 23, pos := "rest.go:813", after := #[{ on := 2, ground := Ground.data }], guard := none }) (v := ?_) rfl (by kernel_rfl) (by kernel_rfl) (by kernel_rfl) (fun _ _ _ h => h) (Or.inl ⟨by rfl, ?_⟩) hHeld ?_
            rotate_left
            · (intro w hSw; (try dsimp only at hSw); go_simp; first | done | with_reducible rfl)
            simp only [Act.put, List.setIfInBounds_toArray, List.set_cons_zero, List.set_cons_succ]
            refine wpAnyH_take (i := 4) (oi := { dst := some 35, op := Op.move (Operand.tmp 6), type := 3, pos := "rest.go:813", after := #[], guard := none }) (v := ?_) rfl (by kernel_rfl) (by kernel_rfl) (by kernel_rfl) (fun _ _ _ h => h) (Or.inl ⟨by rfl, ?_⟩) hHeld ?_
            rotate_left
            · (intro w hSw; (try dsimp only at hSw); go_simp; first | done | with_reducible rfl)
            simp only [Act.put, List.setIfInBounds_toArray, List.set_cons_zero, List.set_cons_succ]
            refine wpAnyH_take (i := 5) (oi := { dst := some 36, op := Op.indexAddr 23 (Operand.tmp 34) (Operand.tmp 35), type := 0, pos := "rest.go:813", after := #[{ on := 3, ground := Ground.data }, { on := 4, ground := Ground.data }], guard := none }) (v := ?_) rfl (by kernel_rfl) (by kernel_rfl) (by kernel_rfl) (fun _ _ _ h => h) (Or.inl ⟨by rfl, ?_⟩) hHeld ?_
            rotate_left
            · (intro w hSw; (try dsimp only at hSw); go_simp; first | done | with_reducible rfl)
            simp only [Act.put, List.setIfInBounds_toArray, List.set_cons_zero, List.set_cons_succ]
            refine wpAnyH_take (i := 6) (oi := { dst := some 37, op := Op.load 3 (Operand.tmp 36), type := 3, pos := "rest.go:813", after := #[{ on := 5, ground := Ground.data }], guard := none }) (v := ?_) rfl (by kernel_rfl) (by kernel_rfl) (by kernel_rfl) (fun _ _ _ h => h) (Or.inl ⟨by rfl, ?_⟩) hHeld ?_
            rotate_left
            · (intro w hSw; (try dsimp only at hSw); go_simp; first | done | with_reducible rfl)
            simp only [Act.put, List.setIfInBounds_toArray, List.set_cons_zero, List.set_cons_succ]
            refine wpAnyH_ready (rs := [1, 7]) (by kernel_rfl) (by simp) ?_
            refine (AllReadyH.cons (o := { dst := some 32, op := Op.load 23 (Operand.tmp 31), type := 23, pos := "rest.go:813", after := #[{ on := 0, ground := Ground.data }], guard := none }) rfl (fun K hK => ?_) (AllReadyH.cons (o := { dst := some 38, op := Op.buildSlice 23 1 #[(0, Operand.tmp 37)], type := 23, pos := "rest.go:813", after := #[{ on := 6, ground := Ground.data }], guard := none }) rfl (fun K hK => ?_) AllReadyH.nil))
            · go_simp
              have KK1 := hHeld
              clear hHeld
              refine hK.out _ _ KK1 (fun hHeld => ?_)
              clear hK K
              refine wpAnyH_ready (rs := [7]) (by kernel_rfl) (by simp) ?_
              refine (AllReadyH.cons (o := { dst := some 38, op := Op.buildSlice 23 1 #[(0, Operand.tmp 37)], type := 23, pos := "rest.go:813", after := #[{ on := 6, ground := Ground.data }], guard := none }) rfl (fun K hK => ?_) AllReadyH.nil)
              go_simp
              have KK7 := heldA2 hHeld (.cells #[.int .i64 x.2] 3)
              clear hHeld
              refine hK.out _ _ KK7 (fun hHeld => ?_)
              clear hK K
              refine wpAnyH_ready (rs := [8]) (by kernel_rfl) (by simp) ?_
              refine (AllReadyH.cons (o := { dst := some 39, op := Op.call { callee := Callee.builtin Builtin.append, args := #[Operand.tmp 32, Operand.tmp 38], argTypes := #[23, 23] }, type := 23, pos := "rest.go:813", after := #[{ on := 1, ground := Ground.data }, { on := 7, ground := Ground.data }], guard := none }) rfl (fun K hK => ?_) AllReadyH.nil)
              rw [if_pos (by rfl)]
              refine wp_append_oneI _ _ rfl (w.heap.size + 4) oV (vals (dropM (M.take k) n)) x.2 W2.heap.size 1 rfl rfl (HP2.out.keep bA2) BX2 hL2 hA2 ?_
              intro v2 w2 hO hg hnew
              have bG := grown_below hg hA2 (fun q hq => (World.ownsRow.lt (HP2.out.keep bA2) q hq).1)
              have KK8 := heldB2 hHeld bG (by omega) (by omega)
              clear hHeld
              have HG2 := Lib.hid hg; have HW2 := Lib.hid hO; have HBG2 := Lib.hid bG
              obtain ⟨p2, c2, ev2, _⟩ := hO.arg
              generalize ((vals (dropM (M.take k) n)) ++ [x.2]).length = m2 at ev2
              subst ev2
              have g0 := ((HF2.out.below (bA2.mono hA42)).below bG).o
              have q0 := g0.c1
              have q1 := g0.f1
              clear hO hg hnew bG g0
              simp only [Act.put, List.setIfInBounds_toArray, List.set_cons_zero, List.set_cons_succ]
              refine hK.out _ _ KK8 (fun hHeld => ?_)
              clear hK K
              refine wpAnyH_take (i := 9) (oi := { dst := some 40, op := Op.fieldAddr 28 (Operand.tmp 5) 1, type := 0, pos := "rest.go:813", after := #[{ on := 0, ground := Ground.phase }, { on := 1, ground := Ground.phase }, { on := 2, ground := Ground.phase }, { on := 3, ground := Ground.phase }, { on := 4, ground := Ground.phase }, { on := 5, ground := Ground.phase }, { on := 6, ground := Ground.phase }, { on := 7, ground := Ground.phase }, { on := 8, ground := Ground.phase }], guard := none }) (v := ?_) rfl (by kernel_rfl) (by kernel_rfl) (by kernel_rfl) (fun _ _ _ h => h) (Or.inl ⟨by rfl, ?_⟩) hHeld ?_
              rotate_left
              · (intro w hSw; (try dsimp only at hSw); go_simp; first | done | with_reducible rfl)
              simp only [Act.put, List.setIfInBounds_toArray, List.set_cons_zero, List.set_cons_succ]
              refine wpAnyH_ready (rs := [10]) (by kernel_rfl) (by simp) ?_
              refine (AllReadyH.cons (o := { dst := none, op := Op.store 23 (Operand.tmp 40) (Operand.tmp 39), type := 0, pos := "rest.go:813", after := #[{ on := 9, ground := Ground.data }, { on := 8, ground := Ground.data }, { on := 8, ground := Ground.chain }, { on := 0, ground := Ground.phase }, { on := 1, ground := Ground.phase }, { on := 2, ground := Ground.phase }, { on := 3, ground := Ground.phase }, { on := 4, ground := Ground.phase }, { on := 5, ground := Ground.phase }, { on := 6, ground := Ground.phase }, { on := 7, ground := Ground.phase }, { on := 8, ground := Ground.phase }], guard := none }) rfl (fun K hK => ?_) AllReadyH.nil)
              go_simp
              have KK10 := heldC2 (q := w.heap.size + 1 + 1 + 1) (r := 1) hHeld (by omega) (by omega) (.slice p2 m2 c2)
              clear hHeld
              refine hK.out _ _ KK10 (fun hHeld => ?_)
              clear hK K
              refine wpAnyH_done (by kernel_rfl) ?_ _
              clear hHeld q0 q1
              have HFa := Lib.hid (((HF2.out.below (bA2.mono hA42)).below HBG2.out).out1 (.slice p2 m2 c2))
              have HPa : Hid (OwnI (w2.setCell ⟨w.heap.size + 1 + 1 + 1, 1, none⟩ (.slice p2 m2 c2)) (w.heap.size + 4) (.slice p2 m2 c2) (vals (dropM (M.take k) n ++ [x]))) := Lib.hid (by
                have := ownsRow_setCell_below HW2.out (a := ⟨w.heap.size + 1 + 1 + 1, 1, none⟩) (by simp only; omega) (.slice p2 m2 c2)
                rw [vals_app]; exact this)
              have HOa : Hid (Own (w2.setCell ⟨w.heap.size + 1 + 1 + 1, 1, none⟩ (.slice p2 m2 c2)) (w.heap.size + 4) oN' (nets (dropM (M.take k) n ++ [x]))) := Lib.hid (by
                have h1 := World.ownsRow.kept (HO2.out.keep bA2) HG2.out (row_types' (HO2.out.keep bA2) (HP2.out.keep bA2))
                exact ownsRow_setCell_below h1 (a := ⟨w.heap.size + 1 + 1 + 1, 1, none⟩) (by simp only; omega) (.slice p2 m2 c2))
              have HBa := Lib.hid ((((HB2.out.trans (bA2.mono (Nat.le_trans (Nat.le_add_right _ 4) hA42))).trans (HBG2.out.mono (Nat.le_add_right _ 4))).setCell (p := ⟨w.heap.size + 1 + 1 + 1, 1, none⟩) (by simp only; omega) (.slice p2 m2 c2)))
              have HZa : Hid (w.heap.size + 4 ≤ (w2.setCell ⟨w.heap.size + 1 + 1 + 1, 1, none⟩ (.slice p2 m2 c2)).heap.size) := Lib.hid (by have h1 : w.heap.size + 4 ≤ w2.heap.size := Nat.le_trans hA2 HBG2.out.size; simp only [World.setCell, Array.size_modify]; exact h1)
              go_wp2_with fail
              go_roundw
              case rel => exact ⟨k + 1, oN', .slice p2 m2 c2, by go_num, by omega, HFa, by rw [HD.out]; exact HOa, by rw [HD.out]; exact HPa, HBa, HZa⟩
              case measure => simp [RowKit.intOf]; omega
            · go_simp
              have KK7 := heldA2 hHeld (.cells #[.int .i64 x.2] 3)
              clear hHeld
              refine hK.out _ _ KK7 (fun hHeld => ?_)
              clear hK K
              refine wpAnyH_ready (rs := [1]) (by kernel_rfl) (by simp) ?_
              refine (AllReadyH.cons (o := { dst := some 32, op := Op.load 23 (Operand.tmp 31), type := 23, pos := "rest.go:813", after := #[{ on := 0, ground := Ground.data }], guard := none }) rfl (fun K hK => ?_) AllReadyH.nil)
              go_simp
              have KK1 := hHeld
              clear hHeld
              refine hK.out _ _ KK1 (fun hHeld => ?_)
              clear hK K
              refine wpAnyH_ready (rs := [8]) (by kernel_rfl) (by simp) ?_
              refine (AllReadyH.cons (o := { dst := some 39, op := Op.call { callee := Callee.builtin Builtin.append, args := #[Operand.tmp 32, Operand.tmp 38], argTypes := #[23, 23] }, type := 23, pos := "rest.go:813", after := #[{ on := 1, ground := Ground.data }, { on := 7, ground := Ground.data }], guard := none }) rfl (fun K hK => ?_) AllReadyH.nil)
              rw [if_pos (by rfl)]
              refine wp_append_oneI _ _ rfl (w.heap.size + 4) oV (vals (dropM (M.take k) n)) x.2 W2.heap.size 1 rfl rfl (HP2.out.keep bA2) BX2 hL2 hA2 ?_
              intro v2 w2 hO hg hnew
              have bG := grown_below hg hA2 (fun q hq => (World.ownsRow.lt (HP2.out.keep bA2) q hq).1)
              have KK8 := heldB2 hHeld bG (by omega) (by omega)
              clear hHeld
              have HG2 := Lib.hid hg; have HW2 := Lib.hid hO; have HBG2 := Lib.hid bG
              obtain ⟨p2, c2, ev2, _⟩ := hO.arg
              generalize ((vals (dropM (M.take k) n)) ++ [x.2]).length = m2 at ev2
              subst ev2
              have g0 := ((HF2.out.below (bA2.mono hA42)).below bG).o
              have q0 := g0.c1
              have q1 := g0.f1
              clear hO hg hnew bG g0
              simp only [Act.put, List.setIfInBounds_toArray, List.set_cons_zero, List.set_cons_succ]
              refine hK.out _ _ KK8 (fun hHeld => ?_)
              clear hK K
              refine wpAnyH_take (i := 9) (oi := { dst := some 40, op := Op.fieldAddr 28 (Operand.tmp 5) 1, type := 0, pos := "rest.go:813", after := #[{ on := 0, ground := Ground.phase }, { on := 1, ground := Ground.phase }, { on := 2, ground := Ground.phase }, { on := 3, ground := Ground.phase }, { on := 4, ground := Ground.phase }, { on := 5, ground := Ground.phase }, { on := 6, ground := Ground.phase }, { on := 7, ground := Ground.phase }, { on := 8, ground := Ground.phase }], guard := none }) (v := ?_) rfl (by kernel_rfl) (by kernel_rfl) (by kernel_rfl) (fun _ _ _ h => h) (Or.inl ⟨by rfl, ?_⟩) hHeld ?_
              rotate_left
              · (intro w hSw; (try dsimp only at hSw); go_simp; first | done | with_reducible rfl)
              simp only [Act.put, List.setIfInBounds_toArray, List.set_cons_zero, List.set_cons_succ]
              refine wpAnyH_ready (rs := [10]) (by kernel_rfl) (by simp) ?_
              refine (AllReadyH.cons (o := { dst := none, op := Op.store 23 (Operand.tmp 40) (Operand.tmp 39), type := 0, pos := "rest.go:813", after := #[{ on := 9, ground := Ground.data }, { on := 8, ground := Ground.data }, { on := 8, ground := Ground.chain }, { on := 0, ground := Ground.phase }, { on := 1, ground := Ground.phase }, { on := 2, ground := Ground.phase }, { on := 3, ground := Ground.phase }, { on := 4, ground := Ground.phase }, { on := 5, ground := Ground.phase }, { on := 6, ground := Ground.phase }, { on := 7, ground := Ground.phase }, { on := 8, ground := Ground.phase }], guard := none }) rfl (fun K hK => ?_) AllReadyH.nil)
              go_simp
              have KK10 := heldC2 (q := w.heap.size + 1 + 1 + 1) (r := 1) hHeld (by omega) (by omega) (.slice p2 m2 c2)
              clear hHeld
              refine hK.out _ _ KK10 (fun hHeld => ?_)
              clear hK K
              refine wpAnyH_done (by kernel_rfl) ?_ _
              clear hHeld q0 q1
              have HFa := Lib.hid (((HF2.out.below (bA2.mono hA42)).below HBG2.out).out1 (.slice p2 m2 c2))
              have HPa : Hid (OwnI (w2.setCell ⟨w.heap.size + 1 + 1 + 1, 1, none⟩ (.slice p2 m2 c2)) (w.heap.size + 4) (.slice p2 m2 c2) (vals (dropM (M.take k) n ++ [x]))) := Lib.hid (by
                have := ownsRow_setCell_below HW2.out (a := ⟨w.heap.size + 1 + 1 + 1, 1, none⟩) (by simp only; omega) (.slice p2 m2 c2)
                rw [vals_app]; exact this)
              have HOa : Hid (Own (w2.setCell ⟨w.heap.size + 1 + 1 + 1, 1, none⟩ (.slice p2 m2 c2)) (w.heap.size + 4) oN' (nets (dropM (M.take k) n ++ [x]))) := Lib.hid (by
                have h1 := World.ownsRow.kept (HO2.out.keep bA2) HG2.out (row_types' (HO2.out.keep bA2) (HP2.out.keep bA2))
                exact ownsRow_setCell_below h1 (a := ⟨w.heap.size + 1 + 1 + 1, 1, none⟩) (by simp only; omega) (.slice p2 m2 c2))
              have HBa := Lib.hid ((((HB2.out.trans (bA2.mono (Nat.le_trans (Nat.le_add_right _ 4) hA42))).trans (HBG2.out.mono (Nat.le_add_right _ 4))).setCell (p := ⟨w.heap.size + 1 + 1 + 1, 1, none⟩) (by simp only; omega) (.slice p2 m2 c2)))
              have HZa : Hid (w.heap.size + 4 ≤ (w2.setCell ⟨w.heap.size + 1 + 1 + 1, 1, none⟩ (.slice p2 m2 c2)).heap.size) := Lib.hid (by have h1 : w.heap.size + 4 ≤ w2.heap.size := Nat.le_trans hA2 HBG2.out.size; simp only [World.setCell, Array.size_modify]; exact h1)
              go_wp2_with fail
              go_roundw
              case rel => exact ⟨k + 1, oN', .slice p2 m2 c2, by go_num, by omega, HFa, by rw [HD.out]; exact HOa, by rw [HD.out]; exact HPa, HBa, HZa⟩
              case measure => simp [RowKit.intOf]; omega
          · go_simp
            have KK7 := heldA1 hHeld (.cells #[.int .u32 (x.1.1 : Int), .int .i64 x.1.2] 32)
            clear hHeld
            refine hK.out _ _ KK7 (fun hHeld => ?_)
            clear hK K
            refine wpAnyH_ready (rs := [1]) (by kernel_rfl) (by simp) ?_
            refine (AllReadyH.cons (o := { dst := some 22, op := Op.load 22 (Operand.tmp 21), type := 22, pos := "rest.go:812", after := #[{ on := 0, ground := Ground.data }], guard := none }) rfl (fun K hK => ?_) AllReadyH.nil)
            go_simp
            have KK1 := hHeld
            clear hHeld
            refine hK.out _ _ KK1 (fun hHeld => ?_)
            clear hK K
            refine wpAnyH_ready (rs := [8]) (by kernel_rfl) (by simp) ?_
            refine (AllReadyH.cons (o := { dst := some 29, op := Op.call { callee := Callee.builtin Builtin.append, args := #[Operand.tmp 22, Operand.tmp 28], argTypes := #[22, 22] }, type := 22, pos := "rest.go:812", after := #[{ on := 1, ground := Ground.data }, { on := 7, ground := Ground.data }], guard := none }) rfl (fun K hK => ?_) AllReadyH.nil)
            rw [if_pos (by rfl)]
            refine wp_append_one _ _ rfl (w.heap.size + 4) oN (nets (dropM (M.take k) n)) x.1 W1.heap.size 1 rfl rfl (HO1.out.keep bA1) BX1 hL1 hA1 ?_
            intro v1 w1 hO hg hnew
            have bG := grown_below hg hA1 (fun q hq => (World.ownsRow.lt (HO1.out.keep bA1) q hq).1)
            have KK8 := heldB1 hHeld bG (by omega) (by omega)
            clear hHeld
            have HG1 := Lib.hid hg; have HW1 := Lib.hid hO; have HBG1 := Lib.hid bG
            obtain ⟨p1, c1, ev1, _⟩ := hO.arg
            generalize ((nets (dropM (M.take k) n)) ++ [x.1]).length = m1 at ev1
            subst ev1
            have g0 := ((HF1.out.below (bA1.mono hA41)).below bG).o
            have q0 := g0.c0
            have q1 := g0.f0
            clear hO hg hnew bG g0
            simp only [Act.put, List.setIfInBounds_toArray, List.set_cons_zero, List.set_cons_succ]
            refine hK.out _ _ KK8 (fun hHeld => ?_)
            clear hK K
            refine wpAnyH_take (i := 9) (oi := { dst := some 30, op := Op.fieldAddr 28 (Operand.tmp 5) 0, type := 0, pos := "rest.go:812", after := #[{ on := 0, ground := Ground.phase }, { on := 1, ground := Ground.phase }, { on := 2, ground := Ground.phase }, { on := 3, ground := Ground.phase }, { on := 4, ground := Ground.phase }, { on := 5, ground := Ground.phase }, { on := 6, ground := Ground.phase }, { on := 7, ground := Ground.phase }, { on := 8, ground := Ground.phase }], guard := none }) (v := ?_) rfl (by kernel_rfl) (by kernel_rfl) (by kernel_rfl) (fun _ _ _ h => h) (Or.inl ⟨by rfl, ?_⟩) hHeld ?_
            rotate_left
            · (intro w hSw; (try dsimp only at hSw); go_simp; first | done | with_reducible rfl)
            simp only [Act.put, List.setIfInBounds_toArray, List.set_cons_zero, List.set_cons_succ]
            refine wpAnyH_ready (rs := [10]) (by kernel_rfl) (by simp) ?_
            refine (AllReadyH.cons (o := { dst := none, op := Op.store 22 (Operand.tmp 30) (Operand.tmp 29), type := 0, pos := "rest.go:812", after := #[{ on := 9, ground := Ground.data }, { on := 8, ground := Ground.data }, { on := 8, ground := Ground.chain }, { on := 0, ground := Ground.phase }, { on := 1, ground := Ground.phase }, { on := 2, ground := Ground.phase }, { on := 3, ground := Ground.phase }, { on := 4, ground := Ground.phase }, { on := 5, ground := Ground.phase }, { on := 6, ground := Ground.phase }, { on := 7, ground := Ground.phase }, { on := 8, ground := Ground.phase }], guard := none }) rfl (fun K hK => ?_) AllReadyH.nil)
            go_simp
            have KK10 := heldC1 (q := w.heap.size + 1 + 1 + 1) (r := 0) hHeld (by omega) (by omega) (.slice p1 m1 c1)
            clear hHeld
            refine hK.out _ _ KK10 (fun hHeld => ?_)
            clear hK K
            refine wpAnyH_done (by kernel_rfl) ?_ _
            clear hHeld q0 q1
            have HF2a := Lib.hid (((HF1.out.below (bA1.mono hA41)).below HBG1.out).out0 (.slice p1 m1 c1))
            have HO2a : Hid (Own (w1.setCell ⟨w.heap.size + 1 + 1 + 1, 0, none⟩ (.slice p1 m1 c1)) (w.heap.size + 4) (.slice p1 m1 c1) (nets (dropM (M.take k) n ++ [x]))) := Lib.hid (by
              have := ownsRow_setCell_below HW1.out (a := ⟨w.heap.size + 1 + 1 + 1, 0, none⟩) (by simp only; omega) (.slice p1 m1 c1)
              rw [nets_app]; exact this)
            have HP2a : Hid (OwnI (w1.setCell ⟨w.heap.size + 1 + 1 + 1, 0, none⟩ (.slice p1 m1 c1)) (w.heap.size + 4) oV (vals (dropM (M.take k) n))) := Lib.hid (by
              have h1 := World.ownsRow.kept (HP1.out.keep bA1) HG1.out (row_types (HO1.out.keep bA1) (HP1.out.keep bA1))
              exact ownsRow_setCell_below h1 (a := ⟨w.heap.size + 1 + 1 + 1, 0, none⟩) (by simp only; omega) (.slice p1 m1 c1))
            have HB2a := Lib.hid ((((HB1.out.trans (bA1.mono (Nat.le_trans (Nat.le_add_right _ 4) hA41))).trans (HBG1.out.mono (Nat.le_add_right _ 4))).setCell (p := ⟨w.heap.size + 1 + 1 + 1, 0, none⟩) (by simp only; omega) (.slice p1 m1 c1)))
            have HZ2a : Hid (w.heap.size + 4 ≤ (w1.setCell ⟨w.heap.size + 1 + 1 + 1, 0, none⟩ (.slice p1 m1 c1)).heap.size) := Lib.hid (by have h1 : w.heap.size + 4 ≤ w1.heap.size := Nat.le_trans hA1 HBG1.out.size; simp only [World.setCell, Array.size_modify]; exact h1)
            clear HF1 HO1 HP1 HB1 HZ1 HG1 HW1 HBG1 o1 A1 A1' bA1 BX1 hA1 hA41 hL1
            go_wp2_with fail
            generalize w1.setCell ⟨w.heap.size + 1 + 1 + 1, 0, none⟩ (.slice p1 m1 c1) = W2 at *
            generalize (Value.slice p1 m1 c1) = oN' at *
            have HF2 := HF2a; have HO2 := HO2a; have HP2 := HP2a; have HB2 := HB2a; have HZ2 := HZ2a
            clear HF2a HO2a HP2a HB2a HZ2a
            have o2 : W2.cell? ⟨w.heap.size + 1 + 1 + 1, 1, none⟩ = some oV := HF2.out.o.c1
            have A2 : ∀ q, (W2.alloc q).cell? ⟨w.heap.size + 1 + 1 + 1, 1, none⟩ = some oV := fun q => (HF2.out.o.alloc q).c1
            have A2' : ∀ q, (W2.drew.alloc q).cell? ⟨w.heap.size + 1 + 1 + 1, 1, none⟩ = some oV := fun q => (HF2.out.o.alloc q).c1
            have bA2 : Below W2.heap.size W2 (W2.drew.alloc (.cells #[.int .i64 x.2] 3)) := ((Below.refl _ W2).drew).alloc (Nat.le_refl _) _
            have BX2 := (show (W2.drew.alloc (.cells #[.int .i64 x.2] 3)).cell? ⟨W2.heap.size, 0, none⟩ = some (.int .i64 x.2) from by show (W2.drew.alloc (.cells #[.int .i64 x.2] 3)).cell? ⟨W2.drew.heap.size, 0, none⟩ = _; rw [World.cell?_alloc_new]; rfl)
            have hA2 : w.heap.size + 4 ≤ (W2.drew.alloc (.cells #[.int .i64 x.2] 3)).heap.size := Nat.le_trans HZ2.out bA2.size
            have hA42 : w.heap.size + 4 ≤ W2.heap.size := HZ2.out
            have hL2 : ((vals (dropM (M.take k) n)).length + 1) * 8 ≤ 140737488355328 := by
              have := dropM_len (M.take k) n
              have h2 : (M.take k).length ≤ M.length := by rw [List.length_take]; omega
              rw [vals_len]; omega
            refine wp_region_held_drew (S := (fun w' => w'.cell? ⟨w.heap.size, 1, none⟩ = some (.slice (some ⟨b', off', none⟩) M.length cV) ∧ w'.cell? ⟨b', off' + k, none⟩ = some (.int .i64 x.2) ∧ True)) (by kernel_rfl) ⟨HF2.out.t.c1, HS2.out W2 HB2.out, trivial⟩ (fun hHeld => ?_)
            refine wpAnyH_take (i := 0) (oi := { dst := some 31, op := Op.fieldAddr 28 (Operand.tmp 5) 1, type := 0, pos := "rest.go:813", after := #[], guard := none }) (v := ?_) rfl (by kernel_rfl) (by kernel_rfl) (by kernel_rfl) (fun _ _ _ h => h) (Or.inl ⟨by rfl, ?_⟩) hHeld ?_
            rotate_left
            · (intro w hSw; (try dsimp only at hSw); go_simp; first | done | with_reducible rfl)
            simp only [Act.put, List.setIfInBounds_toArray, List.set_cons_zero, List.set_cons_succ]
            refine wpAnyH_take (i := 2) (oi := { dst := some 33, op := Op.fieldAddr 28 (Operand.tmp 2) 1, type := 0, pos := "rest.go:813", after := #[], guard := none }) (v := ?_) rfl (by kernel_rfl) (by kernel_rfl) (by kernel_rfl) (fun _ _ _ h => h) (Or.inl ⟨by rfl, ?_⟩) hHeld ?_
            rotate_left
            · (intro w hSw; (try dsimp only at hSw); go_simp; first | done | with_reducible rfl)
            simp only [Act.put, List.setIfInBounds_toArray, List.set_cons_zero, List.set_cons_succ]
            refine wpAnyH_take (i := 3) (oi := { dst := some 34, op := Op.load 23 (Operand.tmp 33), type := 23, pos := "rest.go:813", after := #[{ on := 2, ground := Ground.data }], guard := none }) (v := ?_) rfl (by kernel_rfl) (by kernel_rfl) (by kernel_rfl) (fun _ _ _ h => h) (Or.inl ⟨by rfl, ?_⟩) hHeld ?_
            rotate_left
            · (intro w hSw; (try dsimp only at hSw); go_simp; first | done | with_reducible rfl)
            simp only [Act.put, List.setIfInBounds_toArray, List.set_cons_zero, List.set_cons_succ]
            refine wpAnyH_take (i := 4) (oi := { dst := some 35, op := Op.move (Operand.tmp 6), type := 3, pos := "rest.go:813", after := #[], guard := none }) (v := ?_) rfl (by kernel_rfl) (by kernel_rfl) (by kernel_rfl) (fun _ _ _ h => h) (Or.inl ⟨by rfl, ?_⟩) hHeld ?_
            rotate_left
            · (intro w hSw; (try dsimp only at hSw); go_simp; first | done | with_reducible rfl)
            simp only [Act.put, List.setIfInBounds_toArray, List.set_cons_zero, List.set_cons_succ]
            refine wpAnyH_take (i := 5) (oi := { dst := some 36, op := Op.indexAddr 23 (Operand.tmp 34) (Operand.tmp 35), type := 0, pos := "rest.go:813", after := #[{ on := 3, ground := Ground.data }, { on := 4, ground := Ground.data }], guard := none }) (v := ?_) rfl (by kernel_rfl) (by kernel_rfl) (by kernel_rfl) (fun _ _ _ h => h) (Or.inl ⟨by rfl, ?_⟩) hHeld ?_
            rotate_left
            · (intro w hSw; (try dsimp only at hSw); go_simp; first | done | with_reducible rfl)
            simp only [Act.put, List.setIfInBounds_toArray, List.set_cons_zero, List.set_cons_succ]
            refine wpAnyH_take (i := 6) (oi := { dst := some 37, op := Op.load 3 (Operand.tmp 36), type := 3, pos := "rest.go:813", after := #[{ on := 5, ground := Ground.data }], guard := none }) (v := ?_) rfl (by kernel_rfl) (by kernel_rfl) (by kernel_rfl) (fun _ _ _ h => h) (Or.inl ⟨by rfl, ?_⟩) hHeld ?_
            rotate_left
            · (intro w hSw; (try dsimp only at hSw); go_simp; first | done | with_reducible rfl)
            simp only [Act.put, List.setIfInBounds_toArray, List.set_cons_zero, List.set_cons_succ]
            refine wpAnyH_ready (rs := [1, 7]) (by kernel_rfl) (by simp) ?_
            refine (AllReadyH.cons (o := { dst := some 32, op := Op.load 23 (Operand.tmp 31), type := 23, pos := "rest.go:813", after := #[{ on := 0, ground := Ground.data }], guard := none }) rfl (fun K hK => ?_) (AllReadyH.cons (o := { dst := some 38, op := Op.buildSlice 23 1 #[(0, Operand.tmp 37)], type := 23, pos := "rest.go:813", after := #[{ on := 6, ground := Ground.data }], guard := none }) rfl (fun K hK => ?_) AllReadyH.nil))
            · go_simp
              have KK1 := hHeld
              clear hHeld
              refine hK.out _ _ KK1 (fun hHeld => ?_)
              clear hK K
              refine wpAnyH_ready (rs := [7]) (by kernel_rfl) (by simp) ?_
              refine (AllReadyH.cons (o := { dst := some 38, op := Op.buildSlice 23 1 #[(0, Operand.tmp 37)], type := 23, pos := "rest.go:813", after := #[{ on := 6, ground := Ground.data }], guard := none }) rfl (fun K hK => ?_) AllReadyH.nil)
              go_simp
              have KK7 := heldA2 hHeld (.cells #[.int .i64 x.2] 3)
              clear hHeld
              refine hK.out _ _ KK7 (fun hHeld => ?_)
              clear hK K
              refine wpAnyH_ready (rs := [8]) (by kernel_rfl) (by simp) ?_
              refine (AllReadyH.cons (o := { dst := some 39, op := Op.call { callee := Callee.builtin Builtin.append, args := #[Operand.tmp 32, Operand.tmp 38], argTypes := #[23, 23] }, type := 23, pos := "rest.go:813", after := #[{ on := 1, ground := Ground.data }, { on := 7, ground := Ground.data }], guard := none }) rfl (fun K hK => ?_) AllReadyH.nil)
              rw [if_pos (by rfl)]
              refine wp_append_oneI _ _ rfl (w.heap.size + 4) oV (vals (dropM (M.take k) n)) x.2 W2.heap.size 1 rfl rfl (HP2.out.keep bA2) BX2 hL2 hA2 ?_
              intro v2 w2 hO hg hnew
              have bG := grown_below hg hA2 (fun q hq => (World.ownsRow.lt (HP2.out.keep bA2) q hq).1)
              have KK8 := heldB2 hHeld bG (by omega) (by omega)
              clear hHeld
              have HG2 := Lib.hid hg; have HW2 := Lib.hid hO; have HBG2 := Lib.hid bG
              obtain ⟨p2, c2, ev2, _⟩ := hO.arg
              generalize ((vals (dropM (M.take k) n)) ++ [x.2]).length = m2 at ev2
              subst ev2
              have g0 := ((HF2.out.below (bA2.mono hA42)).below bG).o
              have q0 := g0.c1
              have q1 := g0.f1
              clear hO hg hnew bG g0
              simp only [Act.put, List.setIfInBounds_toArray, List.set_cons_zero, List.set_cons_succ]
              refine hK.out _ _ KK8 (fun hHeld => ?_)
              clear hK K
              refine wpAnyH_take (i := 9) (oi := { dst := some 40, op := Op.fieldAddr 28 (Operand.tmp 5) 1, type := 0, pos := "rest.go:813", after := #[{ on := 0, ground := Ground.phase }, { on := 1, ground := Ground.phase }, { on := 2, ground := Ground.phase }, { on := 3, ground := Ground.phase }, { on := 4, ground := Ground.phase }, { on := 5, ground := Ground.phase }, { on := 6, ground := Ground.phase }, { on := 7, ground := Ground.phase }, { on := 8, ground := Ground.phase }], guard := none }) (v := ?_) rfl (by kernel_rfl) (by kernel_rfl) (by kernel_rfl) (fun _ _ _ h => h) (Or.inl ⟨by rfl, ?_⟩) hHeld ?_
              rotate_left
              · (intro w hSw; (try dsimp only at hSw); go_simp; first | done | with_reducible rfl)
              simp only [Act.put, List.setIfInBounds_toArray, List.set_cons_zero, List.set_cons_succ]
              refine wpAnyH_ready (rs := [10]) (by kernel_rfl) (by simp) ?_
              refine (AllReadyH.cons (o := { dst := none, op := Op.store 23 (Operand.tmp 40) (Operand.tmp 39), type := 0, pos := "rest.go:813", after := #[{ on := 9, ground := Ground.data }, { on := 8, ground := Ground.data }, { on := 8, ground := Ground.chain }, { on := 0, ground := Ground.phase }, { on := 1, ground := Ground.phase }, { on := 2, ground := Ground.phase }, { on := 3, ground := Ground.phase }, { on := 4, ground := Ground.phase }, { on := 5, ground := Ground.phase }, { on := 6, ground := Ground.phase }, { on := 7, ground := Ground.phase }, { on := 8, ground := Ground.phase }], guard := none }) rfl (fun K hK => ?_) AllReadyH.nil)
              go_simp
              have KK10 := heldC2 (q := w.heap.size + 1 + 1 + 1) (r := 1) hHeld (by omega) (by omega) (.slice p2 m2 c2)
              clear hHeld
              refine hK.out _ _ KK10 (fun hHeld => ?_)
              clear hK K
              refine wpAnyH_done (by kernel_rfl) ?_ _
              clear hHeld q0 q1
              have HFa := Lib.hid (((HF2.out.below (bA2.mono hA42)).below HBG2.out).out1 (.slice p2 m2 c2))
              have HPa : Hid (OwnI (w2.setCell ⟨w.heap.size + 1 + 1 + 1, 1, none⟩ (.slice p2 m2 c2)) (w.heap.size + 4) (.slice p2 m2 c2) (vals (dropM (M.take k) n ++ [x]))) := Lib.hid (by
                have := ownsRow_setCell_below HW2.out (a := ⟨w.heap.size + 1 + 1 + 1, 1, none⟩) (by simp only; omega) (.slice p2 m2 c2)
                rw [vals_app]; exact this)
              have HOa : Hid (Own (w2.setCell ⟨w.heap.size + 1 + 1 + 1, 1, none⟩ (.slice p2 m2 c2)) (w.heap.size + 4) oN' (nets (dropM (M.take k) n ++ [x]))) := Lib.hid (by
                have h1 := World.ownsRow.kept (HO2.out.keep bA2) HG2.out (row_types' (HO2.out.keep bA2) (HP2.out.keep bA2))
                exact ownsRow_setCell_below h1 (a := ⟨w.heap.size + 1 + 1 + 1, 1, none⟩) (by simp only; omega) (.slice p2 m2 c2))
              have HBa := Lib.hid ((((HB2.out.trans (bA2.mono (Nat.le_trans (Nat.le_add_right _ 4) hA42))).trans (HBG2.out.mono (Nat.le_add_right _ 4))).setCell (p := ⟨w.heap.size + 1 + 1 + 1, 1, none⟩) (by simp only; omega) (.slice p2 m2 c2)))
              have HZa : Hid (w.heap.size + 4 ≤ (w2.setCell ⟨w.heap.size + 1 + 1 + 1, 1, none⟩ (.slice p2 m2 c2)).heap.size) := Lib.hid (by have h1 : w.heap.size + 4 ≤ w2.heap.size := Nat.le_trans hA2 HBG2.out.size; simp only [World.setCell, Array.size_modify]; exact h1)
              go_wp2_with fail
              go_roundw
              case rel => exact ⟨k + 1, oN', .slice p2 m2 c2, by go_num, by omega, HFa, by rw [HD.out]; exact HOa, by rw [HD.out]; exact HPa, HBa, HZa⟩
              case measure => simp [RowKit.intOf]; omega
            · go_simp
              have KK7 := heldA2 hHeld (.cells #[.int .i64 x.2] 3)
              clear hHeld
              refine hK.out _ _ KK7 (fun hHeld => ?_)
              clear hK K
              refine wpAnyH_ready (rs := [1]) (by kernel_rfl) (by simp) ?_
              refine (AllReadyH.cons (o := { dst := some 32, op := Op.load 23 (Operand.tmp 31), type := 23, pos := "rest.go:813", after := #[{ on := 0, ground := Ground.data }], guard := none }) rfl (fun K hK => ?_) AllReadyH.nil)
              go_simp
              have KK1 := hHeld
              clear hHeld
              refine hK.out _ _ KK1 (fun hHeld => ?_)
              clear hK K
              refine wpAnyH_ready (rs := [8]) (by kernel_rfl) (by simp) ?_
              refine (AllReadyH.cons (o := { dst := some 39, op := Op.call { callee := Callee.builtin Builtin.append, args := #[Operand.tmp 32, Operand.tmp 38], argTypes := #[23, 23] }, type := 23, pos := "rest.go:813", after := #[{ on := 1, ground := Ground.data }, { on := 7, ground := Ground.data }], guard := none }) rfl (fun K hK => ?_) AllReadyH.nil)
              rw [if_pos (by rfl)]
              refine wp_append_oneI _ _ rfl (w.heap.size + 4) oV (vals (dropM (M.take k) n)) x.2 W2.heap.size 1 rfl rfl (HP2.out.keep bA2) BX2 hL2 hA2 ?_
              intro v2 w2 hO hg hnew
              have bG := grown_below hg hA2 (fun q hq => (World.ownsRow.lt (HP2.out.keep bA2) q hq).1)
              have KK8 := heldB2 hHeld bG (by omega) (by omega)
              clear hHeld
              have HG2 := Lib.hid hg; have HW2 := Lib.hid hO; have HBG2 := Lib.hid bG
              obtain ⟨p2, c2, ev2, _⟩ := hO.arg
              generalize ((vals (dropM (M.take k) n)) ++ [x.2]).length = m2 at ev2
              subst ev2
              have g0 := ((HF2.out.below (bA2.mono hA42)).below bG).o
              have q0 := g0.c1
              have q1 := g0.f1
              clear hO hg hnew bG g0
              simp only [Act.put, List.setIfInBounds_toArray, List.set_cons_zero, List.set_cons_succ]
              refine hK.out _ _ KK8 (fun hHeld => ?_)
              clear hK K
              refine wpAnyH_take (i := 9) (oi := { dst := some 40, op := Op.fieldAddr 28 (Operand.tmp 5) 1, type := 0, pos := "rest.go:813", after := #[{ on := 0, ground := Ground.phase }, { on := 1, ground := Ground.phase }, { on := 2, ground := Ground.phase }, { on := 3, ground := Ground.phase }, { on := 4, ground := Ground.phase }, { on := 5, ground := Ground.phase }, { on := 6, ground := Ground.phase }, { on := 7, ground := Ground.phase }, { on := 8, ground := Ground.phase }], guard := none }) (v := ?_) rfl (by kernel_rfl) (by kernel_rfl) (by kernel_rfl) (fun _ _ _ h => h) (Or.inl ⟨by rfl, ?_⟩) hHeld ?_
              rotate_left
              · (intro w hSw; (try dsimp only at hSw); go_simp; first | done | with_reducible rfl)
              simp only [Act.put, List.setIfInBounds_toArray, List.set_cons_zero, List.set_cons_succ]
              refine wpAnyH_ready (rs := [10]) (by kernel_rfl) (by simp) ?_
              refine (AllReadyH.cons (o := { dst := none, op := Op.store 23 (Operand.tmp 40) (Operand.tmp 39), type := 0, pos := "rest.go:813", after := #[{ on := 9, ground := Ground.data }, { on := 8, ground := Ground.data }, { on := 8, ground := Ground.chain }, { on := 0, ground := Ground.phase }, { on := 1, ground := Ground.phase }, { on := 2, ground := Ground.phase }, { on := 3, ground := Ground.phase }, { on := 4, ground := Ground.phase }, { on := 5, ground := Ground.phase }, { on := 6, ground := Ground.phase }, { on := 7, ground := Ground.phase }, { on := 8, ground := Ground.phase }], guard := none }) rfl (fun K hK => ?_) AllReadyH.nil)
              go_simp
              have KK10 := heldC2 (q := w.heap.size + 1 + 1 + 1) (r := 1) hHeld (by omega) (by omega) (.slice p2 m2 c2)
              clear hHeld
              refine hK.out _ _ KK10 (fun hHeld => ?_)
              clear hK K
              refine wpAnyH_done (by kernel_rfl) ?_ _
              clear hHeld q0 q1
              have HFa := Lib.hid (((HF2.out.below (bA2.mono hA42)).below HBG2.out).out1 (.slice p2 m2 c2))
              have HPa : Hid (OwnI (w2.setCell ⟨w.heap.size + 1 + 1 + 1, 1, none⟩ (.slice p2 m2 c2)) (w.heap.size + 4) (.slice p2 m2 c2) (vals (dropM (M.take k) n ++ [x]))) := Lib.hid (by
                have := ownsRow_setCell_below HW2.out (a := ⟨w.heap.size + 1 + 1 + 1, 1, none⟩) (by simp only; omega) (.slice p2 m2 c2)
                rw [vals_app]; exact this)
              have HOa : Hid (Own (w2.setCell ⟨w.heap.size + 1 + 1 + 1, 1, none⟩ (.slice p2 m2 c2)) (w.heap.size + 4) oN' (nets (dropM (M.take k) n ++ [x]))) := Lib.hid (by
                have h1 := World.ownsRow.kept (HO2.out.keep bA2) HG2.out (row_types' (HO2.out.keep bA2) (HP2.out.keep bA2))
                exact ownsRow_setCell_below h1 (a := ⟨w.heap.size + 1 + 1 + 1, 1, none⟩) (by simp only; omega) (.slice p2 m2 c2))
              have HBa := Lib.hid ((((HB2.out.trans (bA2.mono (Nat.le_trans (Nat.le_add_right _ 4) hA42))).trans (HBG2.out.mono (Nat.le_add_right _ 4))).setCell (p := ⟨w.heap.size + 1 + 1 + 1, 1, none⟩) (by simp only; omega) (.slice p2 m2 c2)))
              have HZa : Hid (w.heap.size + 4 ≤ (w2.setCell ⟨w.heap.size + 1 + 1 + 1, 1, none⟩ (.slice p2 m2 c2)).heap.size) := Lib.hid (by have h1 : w.heap.size + 4 ≤ w2.heap.size := Nat.le_trans hA2 HBG2.out.size; simp only [World.setCell, Array.size_modify]; exact h1)
              go_wp2_with fail
              go_roundw
              case rel => exact ⟨k + 1, oN', .slice p2 m2 c2, by go_num, by omega, HFa, by rw [HD.out]; exact HOa, by rw [HD.out]; exact HPa, HBa, HZa⟩
              case measure => simp [RowKit.intOf]; omega
        · obtain ⟨⟨x1, x2⟩, x3⟩ := x
          obtain rfl : x1 = n.1 := by simp only at e1; omega
          simp only at s0 s1 HS2 t
          clear e1
          go_wp2_with fail
          go_quiet (fail)
          go_wp2_with fail
          have HF1 := Lib.hid (HF.out.below (Below.drewN (Below.refl _ wr) nq)); have HO1 := Lib.hid (HO.out.keep (Below.drewN (Below.refl _ wr) nq)); have HP1 := Lib.hid (HP.out.keep (Below.drewN (Below.refl _ wr) nq)); have HB1 := Lib.hid (Below.drewN HB.out nq); have HZ1 : Hid (w.heap.size + 4 ≤ (wr.drewN nq).heap.size) := HZ
          have hs0 : (wr.drewN nq).cell? ⟨b, off + k * 2, none⟩ = some (.int .u32 (n.1 : Int)) := s0
          have hs1 : (wr.drewN nq).cell? ⟨b, off + k * 2 + 1, none⟩ = some (.int .i64 x2) := s1
          clear s0 s1 t0 t1 n0 n1 r0 r1 rf0 rf1 o0 o1 of0 of1 lt ln lr lo HF HO HP HB HZ
          generalize wr.drewN nq = W1 at *
          have o1 : W1.cell? ⟨w.heap.size + 1 + 1 + 1, 0, none⟩ = some oN := HF1.out.o.c0
          have A1 : ∀ q, (W1.alloc q).cell? ⟨w.heap.size + 1 + 1 + 1, 0, none⟩ = some oN := fun q => (HF1.out.o.alloc q).c0
          have A1' : ∀ q, (W1.drew.alloc q).cell? ⟨w.heap.size + 1 + 1 + 1, 0, none⟩ = some oN := fun q => (HF1.out.o.alloc q).c0
          have bA1 : Below W1.heap.size W1 (W1.drew.alloc (.cells #[.int .u32 (n.1 : Int), .int .i64 x2] 32)) := ((Below.refl _ W1).drew).alloc (Nat.le_refl _) _
          have BX1 := Box.new W1.drew (Nt.v0 ((n.1, x2) : Nt)) (Nt.v1 ((n.1, x2) : Nt)) 32
          have hA1 : w.heap.size + 4 ≤ (W1.drew.alloc (.cells #[.int .u32 (n.1 : Int), .int .i64 x2] 32)).heap.size := Nat.le_trans HZ1.out bA1.size
          have hA41 : w.heap.size + 4 ≤ W1.heap.size := HZ1.out
          have hL1 : ((nets (dropM (M.take k) n)).length + 1) * 16 ≤ 140737488355328 := by
            have := dropM_len (M.take k) n
            have h2 : (M.take k).length ≤ M.length := by rw [List.length_take]; omega
            rw [nets_len]; omega
          refine wp_region_held_drew (S := (fun w' => w'.cell? ⟨w.heap.size, 0, none⟩ = some (.slice (some ⟨b, off, none⟩) M.length cN) ∧ w'.cell? ⟨b, off + k * 2, none⟩ = some (.int .u32 (n.1 : Int)) ∧ w'.cell? ⟨b, off + k * 2 + 1, none⟩ = some (.int .i64 x2))) (by kernel_rfl) ⟨HF1.out.t.c0, hs0, hs1⟩ (fun hHeld => ?_)
          refine wpAnyH_take (i := 0) (oi := { dst := some 21, op := Op.fieldAddr 28 (Operand.tmp 5) 0, type := 0, pos := "rest.go:812", after := #[], guard := none }) (v := ?_) rfl (by kernel_rfl) (by kernel_rfl) (by kernel_rfl) (fun _ _ _ h => h) (Or.inl ⟨by rfl, ?_⟩) hHeld ?_
          rotate_left
          · (intro w hSw; (try dsimp only at hSw); go_simp; first | done | with_reducible rfl)
          simp only [Act.put, List.setIfInBounds_toArray, List.set_cons_zero, List.set_cons_succ]
          refine wpAnyH_take (i := 2) (oi := { dst := some 23, op := Op.fieldAddr 28 (Operand.tmp 2) 0, type := 0, pos := "rest.go:812", after := #[], guard := none }) (v := ?_) rfl (by kernel_rfl) (by kernel_rfl) (by kernel_rfl) (fun _ _ _ h => h) (Or.inl ⟨by rfl, ?_⟩) hHeld ?_
          rotate_left
          · (intro w hSw; (try dsimp only at hSw); go_simp; first | done | with_reducible rfl)
          simp only [Act.put, List.setIfInBounds_toArray, List.set_cons_zero, List.set_cons_succ]
          refine wpAnyH_take (i := 3) (oi := { dst := some 24, op := Op.load 22 (Operand.tmp 23), type := 22, pos := "rest.go:812", after := #[{ on := 2, ground := Ground.data }], guard := none }) (v := ?_) rfl (by kernel_rfl) (by kernel_rfl) (by kernel_rfl) (fun _ _ _ h => h) (Or.inl ⟨by rfl, ?_⟩) hHeld ?_
          rotate_left
          · (intro w hSw; (try dsimp only at hSw); go_simp; first | done | with_reducible rfl)
          simp only [Act.put, List.setIfInBounds_toArray, List.set_cons_zero, List.set_cons_succ]
          refine wpAnyH_take (i := 4) (oi := { dst := some 25, op := Op.move (Operand.tmp 6), type := 3, pos := "rest.go:812", after := #[], guard := none }) (v := ?_) rfl (by kernel_rfl) (by kernel_rfl) (by kernel_rfl) (fun _ _ _ h => h) (Or.inl ⟨by rfl, ?_⟩) hHeld ?_
          rotate_left
          · (intro w hSw; (try dsimp only at hSw); go_simp; first | done | with_reducible rfl)
          simp only [Act.put, List.setIfInBounds_toArray, List.set_cons_zero, List.set_cons_succ]
          refine wpAnyH_take (i := 5) (oi := { dst := some 26, op := Op.indexAddr 22 (Operand.tmp 24) (Operand.tmp 25), type := 0, pos := "rest.go:812", after := #[{ on := 3, ground := Ground.data }, { on := 4, ground := Ground.data }], guard := none }) (v := ?_) rfl (by kernel_rfl) (by kernel_rfl) (by kernel_rfl) (fun _ _ _ h => h) (Or.inl ⟨by rfl, ?_⟩) hHeld ?_
          rotate_left
          · (intro w hSw; (try dsimp only at hSw); go_simp; first | done | with_reducible rfl)
          simp only [Act.put, List.setIfInBounds_toArray, List.set_cons_zero, List.set_cons_succ]
          refine wpAnyH_take (i := 6) (oi := { dst := some 27, op := Op.load 32 (Operand.tmp 26), type := 32, pos := "rest.go:812", after := #[{ on := 5, ground := Ground.data }], guard := none }) (v := ?_) rfl (by kernel_rfl) (by kernel_rfl) (by kernel_rfl) (fun _ _ _ h => h) (Or.inl ⟨by rfl, ?_⟩) hHeld ?_
          rotate_left
          · (intro w hSw; (try dsimp only at hSw); go_simp; first | done | with_reducible rfl)
          simp only [Act.put, List.setIfInBounds_toArray, List.set_cons_zero, List.set_cons_succ]
          refine wpAnyH_ready (rs := [1, 7]) (by kernel_rfl) (by simp) ?_
          refine (AllReadyH.cons (o := { dst := some 22, op := Op.load 22 (Operand.tmp 21), type := 22, pos := "rest.go:812", after := #[{ on := 0, ground := Ground.data }], guard := none }) rfl (fun K hK => ?_) (AllReadyH.cons (o := { dst := some 28, op := Op.buildSlice 22 1 #[(0, Operand.tmp 27)], type := 22, pos := "rest.go:812", after := #[{ on := 6, ground := Ground.data }], guard := none }) rfl (fun K hK => ?_) AllReadyH.nil))
          · go_simp
            have KK1 := hHeld
            clear hHeld
            refine hK.out _ _ KK1 (fun hHeld => ?_)
            clear hK K
            refine wpAnyH_ready (rs := [7]) (by kernel_rfl) (by simp) ?_
            refine (AllReadyH.cons (o := { dst := some 28, op := Op.buildSlice 22 1 #[(0, Operand.tmp 27)], type := 22, pos := "rest.go:812", after := #[{ on := 6, ground := Ground.data }], guard := none }) rfl (fun K hK => ?_) AllReadyH.nil)
            go_simp
            have KK7 := heldA1 hHeld (.cells #[.int .u32 (n.1 : Int), .int .i64 x2] 32)
            clear hHeld
            refine hK.out _ _ KK7 (fun hHeld => ?_)
            clear hK K
            refine wpAnyH_ready (rs := [8]) (by kernel_rfl) (by simp) ?_
            refine (AllReadyH.cons (o := { dst := some 29, op := Op.call { callee := Callee.builtin Builtin.append, args := #[Operand.tmp 22, Operand.tmp 28], argTypes := #[22, 22] }, type := 22, pos := "rest.go:812", after := #[{ on := 1, ground := Ground.data }, { on := 7, ground := Ground.data }], guard := none }) rfl (fun K hK => ?_) AllReadyH.nil)
            rw [if_pos (by rfl)]
            refine wp_append_one _ _ rfl (w.heap.size + 4) oN (nets (dropM (M.take k) n)) ((n.1, x2) : Nt) W1.heap.size 1 rfl rfl (HO1.out.keep bA1) BX1 hL1 hA1 ?_
            intro v1 w1 hO hg hnew
            have bG := grown_below hg hA1 (fun q hq => (World.ownsRow.lt (HO1.out.keep bA1) q hq).1)
            have KK8 := heldB1 hHeld bG (by omega) (by omega)
            clear hHeld
            have HG1 := Lib.hid hg; have HW1 := Lib.hid hO; have HBG1 := Lib.hid bG
            obtain ⟨p1, c1, ev1, _⟩ := hO.arg
            generalize ((nets (dropM (M.take k) n)) ++ [((n.1, x2) : Nt)]).length = m1 at ev1
            subst ev1
            have g0 := ((HF1.out.below (bA1.mono hA41)).below bG).o
            have q0 := g0.c0
            have q1 := g0.f0
            clear hO hg hnew bG g0
            simp only [Act.put, List.setIfInBounds_toArray, List.set_cons_zero, List.set_cons_succ]
            refine hK.out _ _ KK8 (fun hHeld => ?_)
            clear hK K
            refine wpAnyH_take (i := 9) (oi := { dst := some 30, op := Op.fieldAddr 28 (Operand.tmp 5) 0, type := 0, pos := "rest.go:812", after := #[{ on := 0, ground := Ground.phase }, { on := 1, ground := Ground.phase }, { on := 2, ground := Ground.phase }, { on := 3, ground := Ground.phase }, { on := 4, ground := Ground.phase }, { on := 5, ground := Ground.phase }, { on := 6, ground := Ground.phase }, { on := 7, ground := Ground.phase }, { on := 8, ground := Ground.phase }], guard := none }) (v := ?_) rfl (by kernel_rfl) (by kernel_rfl) (by kernel_rfl) (fun _ _ _ h => h) (Or.inl ⟨by rfl, ?_⟩) hHeld ?_
            rotate_left
            · (intro w hSw; (try dsimp only at hSw); go_simp; first | done | with_reducible rfl)
            simp only [Act.put, List.setIfInBounds_toArray, List.set_cons_zero, List.set_cons_succ]
            refine wpAnyH_ready (rs := [10]) (by kernel_rfl) (by simp) ?_
            refine (AllReadyH.cons (o := { dst := none, op := Op.store 22 (Operand.tmp 30) (Operand.tmp 29), type := 0, pos := "rest.go:812", after := #[{ on := 9, ground := Ground.data }, { on := 8, ground := Ground.data }, { on := 8, ground := Ground.chain }, { on := 0, ground := Ground.phase }, { on := 1, ground := Ground.phase }, { on := 2, ground := Ground.phase }, { on := 3, ground := Ground.phase }, { on := 4, ground := Ground.phase }, { on := 5, ground := Ground.phase }, { on := 6, ground := Ground.phase }, { on := 7, ground := Ground.phase }, { on := 8, ground := Ground.phase }], guard := none }) rfl (fun K hK => ?_) AllReadyH.nil)
            go_simp
            have KK10 := heldC1 (q := w.heap.size + 1 + 1 + 1) (r := 0) hHeld (by omega) (by omega) (.slice p1 m1 c1)
            clear hHeld
            refine hK.out _ _ KK10 (fun hHeld => ?_)
            clear hK K
            refine wpAnyH_done (by kernel_rfl) ?_ _
            clear hHeld q0 q1
            have HF2a := Lib.hid (((HF1.out.below (bA1.mono hA41)).below HBG1.out).out0 (.slice p1 m1 c1))
            have HO2a : Hid (Own (w1.setCell ⟨w.heap.size + 1 + 1 + 1, 0, none⟩ (.slice p1 m1 c1)) (w.heap.size + 4) (.slice p1 m1 c1) (nets (dropM (M.take k) n ++ [(((n.1, x2), x3) : Nt × Int)]))) := Lib.hid (by
              have := ownsRow_setCell_below HW1.out (a := ⟨w.heap.size + 1 + 1 + 1, 0, none⟩) (by simp only; omega) (.slice p1 m1 c1)
              rw [nets_app]; exact this)
            have HP2a : Hid (OwnI (w1.setCell ⟨w.heap.size + 1 + 1 + 1, 0, none⟩ (.slice p1 m1 c1)) (w.heap.size + 4) oV (vals (dropM (M.take k) n))) := Lib.hid (by
              have h1 := World.ownsRow.kept (HP1.out.keep bA1) HG1.out (row_types (HO1.out.keep bA1) (HP1.out.keep bA1))
              exact ownsRow_setCell_below h1 (a := ⟨w.heap.size + 1 + 1 + 1, 0, none⟩) (by simp only; omega) (.slice p1 m1 c1))
            have HB2a := Lib.hid ((((HB1.out.trans (bA1.mono (Nat.le_trans (Nat.le_add_right _ 4) hA41))).trans (HBG1.out.mono (Nat.le_add_right _ 4))).setCell (p := ⟨w.heap.size + 1 + 1 + 1, 0, none⟩) (by simp only; omega) (.slice p1 m1 c1)))
            have HZ2a : Hid (w.heap.size + 4 ≤ (w1.setCell ⟨w.heap.size + 1 + 1 + 1, 0, none⟩ (.slice p1 m1 c1)).heap.size) := Lib.hid (by have h1 : w.heap.size + 4 ≤ w1.heap.size := Nat.le_trans hA1 HBG1.out.size; simp only [World.setCell, Array.size_modify]; exact h1)
            clear HF1 HO1 HP1 HB1 HZ1 HG1 HW1 HBG1 o1 A1 A1' bA1 BX1 hA1 hA41 hL1
            go_wp2_with fail
            generalize w1.setCell ⟨w.heap.size + 1 + 1 + 1, 0, none⟩ (.slice p1 m1 c1) = W2 at *
            generalize (Value.slice p1 m1 c1) = oN' at *
            have HF2 := HF2a; have HO2 := HO2a; have HP2 := HP2a; have HB2 := HB2a; have HZ2 := HZ2a
            clear HF2a HO2a HP2a HB2a HZ2a
            have o2 : W2.cell? ⟨w.heap.size + 1 + 1 + 1, 1, none⟩ = some oV := HF2.out.o.c1
            have A2 : ∀ q, (W2.alloc q).cell? ⟨w.heap.size + 1 + 1 + 1, 1, none⟩ = some oV := fun q => (HF2.out.o.alloc q).c1
            have A2' : ∀ q, (W2.drew.alloc q).cell? ⟨w.heap.size + 1 + 1 + 1, 1, none⟩ = some oV := fun q => (HF2.out.o.alloc q).c1
            have bA2 : Below W2.heap.size W2 (W2.drew.alloc (.cells #[.int .i64 x3] 3)) := ((Below.refl _ W2).drew).alloc (Nat.le_refl _) _
            have BX2 := (show (W2.drew.alloc (.cells #[.int .i64 x3] 3)).cell? ⟨W2.heap.size, 0, none⟩ = some (.int .i64 x3) from by show (W2.drew.alloc (.cells #[.int .i64 x3] 3)).cell? ⟨W2.drew.heap.size, 0, none⟩ = _; rw [World.cell?_alloc_new]; rfl)
            have hA2 : w.heap.size + 4 ≤ (W2.drew.alloc (.cells #[.int .i64 x3] 3)).heap.size := Nat.le_trans HZ2.out bA2.size
            have hA42 : w.heap.size + 4 ≤ W2.heap.size := HZ2.out
            have hL2 : ((vals (dropM (M.take k) n)).length + 1) * 8 ≤ 140737488355328 := by
              have := dropM_len (M.take k) n
              have h2 : (M.take k).length ≤ M.length := by rw [List.length_take]; omega
              rw [vals_len]; omega
            refine wp_region_held_drew (S := (fun w' => w'.cell? ⟨w.heap.size, 1, none⟩ = some (.slice (some ⟨b', off', none⟩) M.length cV) ∧ w'.cell? ⟨b', off' + k, none⟩ = some (.int .i64 x3) ∧ True)) (by kernel_rfl) ⟨HF2.out.t.c1, HS2.out W2 HB2.out, trivial⟩ (fun hHeld => ?_)
            refine wpAnyH_take (i := 0) (oi := { dst := some 31, op := Op.fieldAddr 28 (Operand.tmp 5) 1, type := 0, pos := "rest.go:813", after := #[], guard := none }) (v := ?_) rfl (by kernel_rfl) (by kernel_rfl) (by kernel_rfl) (fun _ _ _ h => h) (Or.inl ⟨by rfl, ?_⟩) hHeld ?_
            rotate_left
            · (intro w hSw; (try dsimp only at hSw); go_simp; first | done | with_reducible rfl)
            simp only [Act.put, List.setIfInBounds_toArray, List.set_cons_zero, List.set_cons_succ]
            refine wpAnyH_take (i := 2) (oi := { dst := some 33, op := Op.fieldAddr 28 (Operand.tmp 2) 1, type := 0, pos := "rest.go:813", after := #[], guard := none }) (v := ?_) rfl (by kernel_rfl) (by kernel_rfl) (by kernel_rfl) (fun _ _ _ h => h) (Or.inl ⟨by rfl, ?_⟩) hHeld ?_
            rotate_left
            · (intro w hSw; (try dsimp only at hSw); go_simp; first | done | with_reducible rfl)
            simp only [Act.put, List.setIfInBounds_toArray, List.set_cons_zero, List.set_cons_succ]
            refine wpAnyH_take (i := 3) (oi := { dst := some 34, op := Op.load 23 (Operand.tmp 33), type := 23, pos := "rest.go:813", after := #[{ on := 2, ground := Ground.data }], guard := none }) (v := ?_) rfl (by kernel_rfl) (by kernel_rfl) (by kernel_rfl) (fun _ _ _ h => h) (Or.inl ⟨by rfl, ?_⟩) hHeld ?_
            rotate_left
            · (intro w hSw; (try dsimp only at hSw); go_simp; first | done | with_reducible rfl)
            simp only [Act.put, List.setIfInBounds_toArray, List.set_cons_zero, List.set_cons_succ]
            refine wpAnyH_take (i := 4) (oi := { dst := some 35, op := Op.move (Operand.tmp 6), type := 3, pos := "rest.go:813", after := #[], guard := none }) (v := ?_) rfl (by kernel_rfl) (by kernel_rfl) (by kernel_rfl) (fun _ _ _ h => h) (Or.inl ⟨by rfl, ?_⟩) hHeld ?_
            rotate_left
            · (intro w hSw; (try dsimp only at hSw); go_simp; first | done | with_reducible rfl)
            simp only [Act.put, List.setIfInBounds_toArray, List.set_cons_zero, List.set_cons_succ]
            refine wpAnyH_take (i := 5) (oi := { dst := some 36, op := Op.indexAddr 23 (Operand.tmp 34) (Operand.tmp 35), type := 0, pos := "rest.go:813", after := #[{ on := 3, ground := Ground.data }, { on := 4, ground := Ground.data }], guard := none }) (v := ?_) rfl (by kernel_rfl) (by kernel_rfl) (by kernel_rfl) (fun _ _ _ h => h) (Or.inl ⟨by rfl, ?_⟩) hHeld ?_
            rotate_left
            · (intro w hSw; (try dsimp only at hSw); go_simp; first | done | with_reducible rfl)
            simp only [Act.put, List.setIfInBounds_toArray, List.set_cons_zero, List.set_cons_succ]
            refine wpAnyH_take (i := 6) (oi := { dst := some 37, op := Op.load 3 (Operand.tmp 36), type := 3, pos := "rest.go:813", after := #[{ on := 5, ground := Ground.data }], guard := none }) (v := ?_) rfl (by kernel_rfl) (by kernel_rfl) (by kernel_rfl) (fun _ _ _ h => h) (Or.inl ⟨by rfl, ?_⟩) hHeld ?_
            rotate_left
            · (intro w hSw; (try dsimp only at hSw); go_simp; first | done | with_reducible rfl)
            simp only [Act.put, List.setIfInBounds_toArray, List.set_cons_zero, List.set_cons_succ]
            refine wpAnyH_ready (rs := [1, 7]) (by kernel_rfl) (by simp) ?_
            refine (AllReadyH.cons (o := { dst := some 32, op := Op.load 23 (Operand.tmp 31), type := 23, pos := "rest.go:813", after := #[{ on := 0, ground := Ground.data }], guard := none }) rfl (fun K hK => ?_) (AllReadyH.cons (o := { dst := some 38, op := Op.buildSlice 23 1 #[(0, Operand.tmp 37)], type := 23, pos := "rest.go:813", after := #[{ on := 6, ground := Ground.data }], guard := none }) rfl (fun K hK => ?_) AllReadyH.nil))
            · go_simp
              have KK1 := hHeld
              clear hHeld
              refine hK.out _ _ KK1 (fun hHeld => ?_)
              clear hK K
              refine wpAnyH_ready (rs := [7]) (by kernel_rfl) (by simp) ?_
              refine (AllReadyH.cons (o := { dst := some 38, op := Op.buildSlice 23 1 #[(0, Operand.tmp 37)], type := 23, pos := "rest.go:813", after := #[{ on := 6, ground := Ground.data }], guard := none }) rfl (fun K hK => ?_) AllReadyH.nil)
              go_simp
              have KK7 := heldA2 hHeld (.cells #[.int .i64 x3] 3)
              clear hHeld
              refine hK.out _ _ KK7 (fun hHeld => ?_)
              clear hK K
              refine wpAnyH_ready (rs := [8]) (by kernel_rfl) (by simp) ?_
              refine (AllReadyH.cons (o := { dst := some 39, op := Op.call { callee := Callee.builtin Builtin.append, args := #[Operand.tmp 32, Operand.tmp 38], argTypes := #[23, 23] }, type := 23, pos := "rest.go:813", after := #[{ on := 1, ground := Ground.data }, { on := 7, ground := Ground.data }], guard := none }) rfl (fun K hK => ?_) AllReadyH.nil)
              rw [if_pos (by rfl)]
              refine wp_append_oneI _ _ rfl (w.heap.size + 4) oV (vals (dropM (M.take k) n)) x3 W2.heap.size 1 rfl rfl (HP2.out.keep bA2) BX2 hL2 hA2 ?_
              intro v2 w2 hO hg hnew
              have bG := grown_below hg hA2 (fun q hq => (World.ownsRow.lt (HP2.out.keep bA2) q hq).1)
              have KK8 := heldB2 hHeld bG (by omega) (by omega)
              clear hHeld
              have HG2 := Lib.hid hg; have HW2 := Lib.hid hO; have HBG2 := Lib.hid bG
              obtain ⟨p2, c2, ev2, _⟩ := hO.arg
              generalize ((vals (dropM (M.take k) n)) ++ [x3]).length = m2 at ev2
              subst ev2
              have g0 := ((HF2.out.below (bA2.mono hA42)).below bG).o
              have q0 := g0.c1
              have q1 := g0.f1
              clear hO hg hnew bG g0
              simp only [Act.put, List.setIfInBounds_toArray, List.set_cons_zero, List.set_cons_succ]
              refine hK.out _ _ KK8 (fun hHeld => ?_)
              clear hK K
              refine wpAnyH_take (i := 9) (oi := { dst := some 40, op := Op.fieldAddr 28 (Operand.tmp 5) 1, type := 0, pos := "rest.go:813", after := #[{ on := 0, ground := Ground.phase }, { on := 1, ground := Ground.phase }, { on := 2, ground := Ground.phase }, { on := 3, ground := Ground.phase }, { on := 4, ground := Ground.phase }, { on := 5, ground := Ground.phase }, { on := 6, ground := Ground.phase }, { on := 7, ground := Ground.phase }, { on := 8, ground := Ground.phase }], guard := none }) (v := ?_) rfl (by kernel_rfl) (by kernel_rfl) (by kernel_rfl) (fun _ _ _ h => h) (Or.inl ⟨by rfl, ?_⟩) hHeld ?_
              rotate_left
              · (intro w hSw; (try dsimp only at hSw); go_simp; first | done | with_reducible rfl)
              simp only [Act.put, List.setIfInBounds_toArray, List.set_cons_zero, List.set_cons_succ]
              refine wpAnyH_ready (rs := [10]) (by kernel_rfl) (by simp) ?_
              refine (AllReadyH.cons (o := { dst := none, op := Op.store 23 (Operand.tmp 40) (Operand.tmp 39), type := 0, pos := "rest.go:813", after := #[{ on := 9, ground := Ground.data }, { on := 8, ground := Ground.data }, { on := 8, ground := Ground.chain }, { on := 0, ground := Ground.phase }, { on := 1, ground := Ground.phase }, { on := 2, ground := Ground.phase }, { on := 3, ground := Ground.phase }, { on := 4, ground := Ground.phase }, { on := 5, ground := Ground.phase }, { on := 6, ground := Ground.phase }, { on := 7, ground := Ground.phase }, { on := 8, ground := Ground.phase }], guard := none }) rfl (fun K hK => ?_) AllReadyH.nil)
              go_simp
              have KK10 := heldC2 (q := w.heap.size + 1 + 1 + 1) (r := 1) hHeld (by omega) (by omega) (.slice p2 m2 c2)
              clear hHeld
              refine hK.out _ _ KK10 (fun hHeld => ?_)
              clear hK K
              refine wpAnyH_done (by kernel_rfl) ?_ _
              clear hHeld q0 q1
              have HFa := Lib.hid (((HF2.out.below (bA2.mono hA42)).below HBG2.out).out1 (.slice p2 m2 c2))
              have HPa : Hid (OwnI (w2.setCell ⟨w.heap.size + 1 + 1 + 1, 1, none⟩ (.slice p2 m2 c2)) (w.heap.size + 4) (.slice p2 m2 c2) (vals (dropM (M.take k) n ++ [(((n.1, x2), x3) : Nt × Int)]))) := Lib.hid (by
                have := ownsRow_setCell_below HW2.out (a := ⟨w.heap.size + 1 + 1 + 1, 1, none⟩) (by simp only; omega) (.slice p2 m2 c2)
                rw [vals_app]; exact this)
              have HOa : Hid (Own (w2.setCell ⟨w.heap.size + 1 + 1 + 1, 1, none⟩ (.slice p2 m2 c2)) (w.heap.size + 4) oN' (nets (dropM (M.take k) n ++ [(((n.1, x2), x3) : Nt × Int)]))) := Lib.hid (by
                have h1 := World.ownsRow.kept (HO2.out.keep bA2) HG2.out (row_types' (HO2.out.keep bA2) (HP2.out.keep bA2))
                exact ownsRow_setCell_below h1 (a := ⟨w.heap.size + 1 + 1 + 1, 1, none⟩) (by simp only; omega) (.slice p2 m2 c2))
              have HBa := Lib.hid ((((HB2.out.trans (bA2.mono (Nat.le_trans (Nat.le_add_right _ 4) hA42))).trans (HBG2.out.mono (Nat.le_add_right _ 4))).setCell (p := ⟨w.heap.size + 1 + 1 + 1, 1, none⟩) (by simp only; omega) (.slice p2 m2 c2)))
              have HZa : Hid (w.heap.size + 4 ≤ (w2.setCell ⟨w.heap.size + 1 + 1 + 1, 1, none⟩ (.slice p2 m2 c2)).heap.size) := Lib.hid (by have h1 : w.heap.size + 4 ≤ w2.heap.size := Nat.le_trans hA2 HBG2.out.size; simp only [World.setCell, Array.size_modify]; exact h1)
              go_wp2_with fail
              go_roundw
              case rel => exact ⟨k + 1, oN', .slice p2 m2 c2, by go_num, by omega, HFa, by rw [HD.out]; exact HOa, by rw [HD.out]; exact HPa, HBa, HZa⟩
              case measure => simp [RowKit.intOf]; omega
            · go_simp
              have KK7 := heldA2 hHeld (.cells #[.int .i64 x3] 3)
              clear hHeld
              refine hK.out _ _ KK7 (fun hHeld => ?_)
              clear hK K
              refine wpAnyH_ready (rs := [1]) (by kernel_rfl) (by simp) ?_
              refine (AllReadyH.cons (o := { dst := some 32, op := Op.load 23 (Operand.tmp 31), type := 23, pos := "rest.go:813", after := #[{ on := 0, ground := Ground.data }], guard := none }) rfl (fun K hK => ?_) AllReadyH.nil)
              go_simp
              have KK1 := hHeld
              clear hHeld
              refine hK.out _ _ KK1 (fun hHeld => ?_)
              clear hK K
              refine wpAnyH_ready (rs := [8]) (by kernel_rfl) (by simp) ?_
              refine (AllReadyH.cons (o := { dst := some 39, op := Op.call { callee := Callee.builtin Builtin.append, args := #[Operand.tmp 32, Operand.tmp 38], argTypes := #[23, 23] }, type := 23, pos := "rest.go:813", after := #[{ on := 1, ground := Ground.data }, { on := 7, ground := Ground.data }], guard := none }) rfl (fun K hK => ?_) AllReadyH.nil)
              rw [if_pos (by rfl)]
              refine wp_append_oneI _ _ rfl (w.heap.size + 4) oV (vals (dropM (M.take k) n)) x3 W2.heap.size 1 rfl rfl (HP2.out.keep bA2) BX2 hL2 hA2 ?_
              intro v2 w2 hO hg hnew
              have bG := grown_below hg hA2 (fun q hq => (World.ownsRow.lt (HP2.out.keep bA2) q hq).1)
              have KK8 := heldB2 hHeld bG (by omega) (by omega)
              clear hHeld
              have HG2 := Lib.hid hg; have HW2 := Lib.hid hO; have HBG2 := Lib.hid bG
              obtain ⟨p2, c2, ev2, _⟩ := hO.arg
              generalize ((vals (dropM (M.take k) n)) ++ [x3]).length = m2 at ev2
              subst ev2
              have g0 := ((HF2.out.below (bA2.mono hA42)).below bG).o
              have q0 := g0.c1
              have q1 := g0.f1
              clear hO hg hnew bG g0
              simp only [Act.put, List.setIfInBounds_toArray, List.set_cons_zero, List.set_cons_succ]
              refine hK.out _ _ KK8 (fun hHeld => ?_)
              clear hK K
              refine wpAnyH_take (i := 9) (oi := { dst := some 40, op := Op.fieldAddr 28 (Operand.tmp 5) 1, type := 0, pos := "rest.go:813", after := #[{ on := 0, ground := Ground.phase }, { on := 1, ground := Ground.phase }, { on := 2, ground := Ground.phase }, { on := 3, ground := Ground.phase }, { on := 4, ground := Ground.phase }, { on := 5, ground := Ground.phase }, { on := 6, ground := Ground.phase }, { on := 7, ground := Ground.phase }, { on := 8, ground := Ground.phase }], guard := none }) (v := ?_) rfl (by kernel_rfl) (by kernel_rfl) (by kernel_rfl) (fun _ _ _ h => h) (Or.inl ⟨by rfl, ?_⟩) hHeld ?_
              rotate_left
              · (intro w hSw; (try dsimp only at hSw); go_simp; first | done | with_reducible rfl)
              simp only [Act.put, List.setIfInBounds_toArray, List.set_cons_zero, List.set_cons_succ]
              refine wpAnyH_ready (rs := [10]) (by kernel_rfl) (by simp) ?_
              refine (AllReadyH.cons (o := { dst := none, op := Op.store 23 (Operand.tmp 40) (Operand.tmp 39), type := 0, pos := "rest.go:813", after := #[{ on := 9, ground := Ground.data }, { on := 8, ground := Ground.data }, { on := 8, ground := Ground.chain }, { on := 0, ground := Ground.phase }, { on := 1, ground := Ground.phase }, { on := 2, ground := Ground.phase }, { on := 3, ground := Ground.phase }, { on := 4, ground := Ground.phase }, { on := 5, ground := Ground.phase }, { on := 6, ground := Ground.phase }, { on := 7, ground := Ground.phase }, { on := 8, ground := Ground.phase }], guard := none }) rfl (fun K hK => ?_) AllReadyH.nil)
              go_simp
              have KK10 := heldC2 (q := w.heap.size + 1 + 1 + 1) (r := 1) hHeld (by omega) (by omega) (.slice p2 m2 c2)
              clear hHeld
              refine hK.out _ _ KK10 (fun hHeld => ?_)
              clear hK K
              refine wpAnyH_done (by kernel_rfl) ?_ _
              clear hHeld q0 q1
              have HFa := Lib.hid (((HF2.out.below (bA2.mono hA42)).below HBG2.out).out1 (.slice p2 m2 c2))
              have HPa : Hid (OwnI (w2.setCell ⟨w.heap.size + 1 + 1 + 1, 1, none⟩ (.slice p2 m2 c2)) (w.heap.size + 4) (.slice p2 m2 c2) (vals (dropM (M.take k) n ++ [(((n.1, x2), x3) : Nt × Int)]))) := Lib.hid (by
                have := ownsRow_setCell_below HW2.out (a := ⟨w.heap.size + 1 + 1 + 1, 1, none⟩) (by simp only; omega) (.slice p2 m2 c2)
                rw [vals_app]; exact this)
              have HOa : Hid (Own (w2.setCell ⟨w.heap.size + 1 + 1 + 1, 1, none⟩ (.slice p2 m2 c2)) (w.heap.size + 4) oN' (nets (dropM (M.take k) n ++ [(((n.1, x2), x3) : Nt × Int)]))) := Lib.hid (by
                have h1 := World.ownsRow.kept (HO2.out.keep bA2) HG2.out (row_types' (HO2.out.keep bA2) (HP2.out.keep bA2))
                exact ownsRow_setCell_below h1 (a := ⟨w.heap.size + 1 + 1 + 1, 1, none⟩) (by simp only; omega) (.slice p2 m2 c2))
              have HBa := Lib.hid ((((HB2.out.trans (bA2.mono (Nat.le_trans (Nat.le_add_right _ 4) hA42))).trans (HBG2.out.mono (Nat.le_add_right _ 4))).setCell (p := ⟨w.heap.size + 1 + 1 + 1, 1, none⟩) (by simp only; omega) (.slice p2 m2 c2)))
              have HZa : Hid (w.heap.size + 4 ≤ (w2.setCell ⟨w.heap.size + 1 + 1 + 1, 1, none⟩ (.slice p2 m2 c2)).heap.size) := Lib.hid (by have h1 : w.heap.size + 4 ≤ w2.heap.size := Nat.le_trans hA2 HBG2.out.size; simp only [World.setCell, Array.size_modify]; exact h1)
              go_wp2_with fail
              go_roundw
              case rel => exact ⟨k + 1, oN', .slice p2 m2 c2, by go_num, by omega, HFa, by rw [HD.out]; exact HOa, by rw [HD.out]; exact HPa, HBa, HZa⟩
              case measure => simp [RowKit.intOf]; omega
          · go_simp
            have KK7 := heldA1 hHeld (.cells #[.int .u32 (n.1 : Int), .int .i64 x2] 32)
            clear hHeld
            refine hK.out _ _ KK7 (fun hHeld => ?_)
            clear hK K
            refine wpAnyH_ready (rs := [1]) (by kernel_rfl) (by simp) ?_
            refine (AllReadyH.cons (o := { dst := some 22, op := Op.load 22 (Operand.tmp 21), type := 22, pos := "rest.go:812", after := #[{ on := 0, ground := Ground.data }], guard := none }) rfl (fun K hK => ?_) AllReadyH.nil)
            go_simp
            have KK1 := hHeld
            clear hHeld
            refine hK.out _ _ KK1 (fun hHeld => ?_)
            clear hK K
            refine wpAnyH_ready (rs := [8]) (by kernel_rfl) (by simp) ?_
            refine (AllReadyH.cons (o := { dst := some 29, op := Op.call { callee := Callee.builtin Builtin.append, args := #[Operand.tmp 22, Operand.tmp 28], argTypes := #[22, 22] }, type := 22, pos := "rest.go:812", after := #[{ on := 1, ground := Ground.data }, { on := 7, ground := Ground.data }], guard := none }) rfl (fun K hK => ?_) AllReadyH.nil)
            rw [if_pos (by rfl)]
            refine wp_append_one _ _ rfl (w.heap.size + 4) oN (nets (dropM (M.take k) n)) ((n.1, x2) : Nt) W1.heap.size 1 rfl rfl (HO1.out.keep bA1) BX1 hL1 hA1 ?_
            intro v1 w1 hO hg hnew
            have bG := grown_below hg hA1 (fun q hq => (World.ownsRow.lt (HO1.out.keep bA1) q hq).1)
            have KK8 := heldB1 hHeld bG (by omega) (by omega)
            clear hHeld
            have HG1 := Lib.hid hg; have HW1 := Lib.hid hO; have HBG1 := Lib.hid bG
            obtain ⟨p1, c1, ev1, _⟩ := hO.arg
            generalize ((nets (dropM (M.take k) n)) ++ [((n.1, x2) : Nt)]).length = m1 at ev1
            subst ev1
            have g0 := ((HF1.out.below (bA1.mono hA41)).below bG).o
            have q0 := g0.c0
            have q1 := g0.f0
            clear hO hg hnew bG g0
            simp only [Act.put, List.setIfInBounds_toArray, List.set_cons_zero, List.set_cons_succ]
            refine hK.out _ _ KK8 (fun hHeld => ?_)
            clear hK K
            refine wpAnyH_take (i := 9) (oi := { dst := some 30, op := Op.fieldAddr 28 (Operand.tmp 5) 0, type := 0, pos := "rest.go:812", after := #[{ on := 0, ground := Ground.phase }, { on := 1, ground := Ground.phase }, { on := 2, ground := Ground.phase }, { on := 3, ground := Ground.phase }, { on := 4, ground := Ground.phase }, { on := 5, ground := Ground.phase }, { on := 6, ground := Ground.phase }, { on := 7, ground := Ground.phase }, { on := 8, ground := Ground.phase }], guard := none }) (v := ?_) rfl (by kernel_rfl) (by kernel_rfl) (by kernel_rfl) (fun _ _ _ h => h) (Or.inl ⟨by rfl, ?_⟩) hHeld ?_
            rotate_left
            · (intro w hSw; (try dsimp only at hSw); go_simp; first | done | with_reducible rfl)
            simp only [Act.put, List.setIfInBounds_toArray, List.set_cons_zero, List.set_cons_succ]
            refine wpAnyH_ready (rs := [10]) (by kernel_rfl) (by simp) ?_
            refine (AllReadyH.cons (o := { dst := none, op := Op.store 22 (Operand.tmp 30) (Operand.tmp 29), type := 0, pos := "rest.go:812", after := #[{ on := 9, ground := Ground.data }, { on := 8, ground := Ground.data }, { on := 8, ground := Ground.chain }, { on := 0, ground := Ground.phase }, { on := 1, ground := Ground.phase }, { on := 2, ground := Ground.phase }, { on := 3, ground := Ground.phase }, { on := 4, ground := Ground.phase }, { on := 5, ground := Ground.phase }, { on := 6, ground := Ground.phase }, { on := 7, ground := Ground.phase }, { on := 8, ground := Ground.phase }], guard := none }) rfl (fun K hK => ?_) AllReadyH.nil)
            go_simp
            have KK10 := heldC1 (q := w.heap.size + 1 + 1 + 1) (r := 0) hHeld (by omega) (by omega) (.slice p1 m1 c1)
            clear hHeld
            refine hK.out _ _ KK10 (fun hHeld => ?_)
            clear hK K
            refine wpAnyH_done (by kernel_rfl) ?_ _
            clear hHeld q0 q1
            have HF2a := Lib.hid (((HF1.out.below (bA1.mono hA41)).below HBG1.out).out0 (.slice p1 m1 c1))
            have HO2a : Hid (Own (w1.setCell ⟨w.heap.size + 1 + 1 + 1, 0, none⟩ (.slice p1 m1 c1)) (w.heap.size + 4) (.slice p1 m1 c1) (nets (dropM (M.take k) n ++ [(((n.1, x2), x3) : Nt × Int)]))) := Lib.hid (by
              have := ownsRow_setCell_below HW1.out (a := ⟨w.heap.size + 1 + 1 + 1, 0, none⟩) (by simp only; omega) (.slice p1 m1 c1)
              rw [nets_app]; exact this)
            have HP2a : Hid (OwnI (w1.setCell ⟨w.heap.size + 1 + 1 + 1, 0, none⟩ (.slice p1 m1 c1)) (w.heap.size + 4) oV (vals (dropM (M.take k) n))) := Lib.hid (by
              have h1 := World.ownsRow.kept (HP1.out.keep bA1) HG1.out (row_types (HO1.out.keep bA1) (HP1.out.keep bA1))
              exact ownsRow_setCell_below h1 (a := ⟨w.heap.size + 1 + 1 + 1, 0, none⟩) (by simp only; omega) (.slice p1 m1 c1))
            have HB2a := Lib.hid ((((HB1.out.trans (bA1.mono (Nat.le_trans (Nat.le_add_right _ 4) hA41))).trans (HBG1.out.mono (Nat.le_add_right _ 4))).setCell (p := ⟨w.heap.size + 1 + 1 + 1, 0, none⟩) (by simp only; omega) (.slice p1 m1 c1)))
            have HZ2a : Hid (w.heap.size + 4 ≤ (w1.setCell ⟨w.heap.size + 1 + 1 + 1, 0, none⟩ (.slice p1 m1 c1)).heap.size) := Lib.hid (by have h1 : w.heap.size + 4 ≤ w1.heap.size := Nat.le_trans hA1 HBG1.out.size; simp only [World.setCell, Array.size_modify]; exact h1)
            clear HF1 HO1 HP1 HB1 HZ1 HG1 HW1 HBG1 o1 A1 A1' bA1 BX1 hA1 hA41 hL1
            go_wp2_with fail
            generalize w1.setCell ⟨w.heap.size + 1 + 1 + 1, 0, none⟩ (.slice p1 m1 c1) = W2 at *
            generalize (Value.slice p1 m1 c1) = oN' at *
            have HF2 := HF2a; have HO2 := HO2a; have HP2 := HP2a; have HB2 := HB2a; have HZ2 := HZ2a
            clear HF2a HO2a HP2a HB2a HZ2a
            have o2 : W2.cell? ⟨w.heap.size + 1 + 1 + 1, 1, none⟩ = some oV := HF2.out.o.c1
            have A2 : ∀ q, (W2.alloc q).cell? ⟨w.heap.size + 1 + 1 + 1, 1, none⟩ = some oV := fun q => (HF2.out.o.alloc q).c1
            have A2' : ∀ q, (W2.drew.alloc q).cell? ⟨w.heap.size + 1 + 1 + 1, 1, none⟩ = some oV := fun q => (HF2.out.o.alloc q).c1
            have bA2 : Below W2.heap.size W2 (W2.drew.alloc (.cells #[.int .i64 x3] 3)) := ((Below.refl _ W2).drew).alloc (Nat.le_refl _) _
            have BX2 := (show (W2.drew.alloc (.cells #[.int .i64 x3] 3)).cell? ⟨W2.heap.size, 0, none⟩ = some (.int .i64 x3) from by show (W2.drew.alloc (.cells #[.int .i64 x3] 3)).cell? ⟨W2.drew.heap.size, 0, none⟩ = _; rw [World.cell?_alloc_new]; rfl)
            have hA2 : w.heap.size + 4 ≤ (W2.drew.alloc (.cells #[.int .i64 x3] 3)).heap.size := Nat.le_trans HZ2.out bA2.size
            have hA42 : w.heap.size + 4 ≤ W2.heap.size := HZ2.out
            have hL2 : ((vals (dropM (M.take k) n)).length + 1) * 8 ≤ 140737488355328 := by
              have := dropM_len (M.take k) n
              have h2 : (M.take k).length ≤ M.length := by rw [List.length_take]; omega
              rw [vals_len]; omega
            refine wp_region_held_drew (S := (fun w' => w'.cell? ⟨w.heap.size, 1, none⟩ = some (.slice (some ⟨b', off', none⟩) M.length cV) ∧ w'.cell? ⟨b', off' + k, none⟩ = some (.int .i64 x3) ∧ True)) (by kernel_rfl) ⟨HF2.out.t.c1, HS2.out W2 HB2.out, trivial⟩ (fun hHeld => ?_)
            refine wpAnyH_take (i := 0) (oi := { dst := some 31, op := Op.fieldAddr 28 (Operand.tmp 5) 1, type := 0, pos := "rest.go:813", after := #[], guard := none }) (v := ?_) rfl (by kernel_rfl) (by kernel_rfl) (by kernel_rfl) (fun _ _ _ h => h) (Or.inl ⟨by rfl, ?_⟩) hHeld ?_
            rotate_left
            · (intro w hSw; (try dsimp only at hSw); go_simp; first | done | with_reducible rfl)
            simp only [Act.put, List.setIfInBounds_toArray, List.set_cons_zero, List.set_cons_succ]
            refine wpAnyH_take (i := 2) (oi := { dst := some 33, op := Op.fieldAddr 28 (Operand.tmp 2) 1, type := 0, pos := "rest.go:813", after := #[], guard := none }) (v := ?_) rfl (by kernel_rfl) (by kernel_rfl) (by kernel_rfl) (fun _ _ _ h => h) (Or.inl ⟨by rfl, ?_⟩) hHeld ?_
            rotate_left
            · (intro w hSw; (try dsimp only at hSw); go_simp; first | done | with_reducible rfl)
            simp only [Act.put, List.setIfInBounds_toArray, List.set_cons_zero, List.set_cons_succ]
            refine wpAnyH_take (i := 3) (oi := { dst := some 34, op := Op.load 23 (Operand.tmp 33), type := 23, pos := "rest.go:813", after := #[{ on := 2, ground := Ground.data }], guard := none }) (v := ?_) rfl (by kernel_rfl) (by kernel_rfl) (by kernel_rfl) (fun _ _ _ h => h) (Or.inl ⟨by rfl, ?_⟩) hHeld ?_
            rotate_left
            · (intro w hSw; (try dsimp only at hSw); go_simp; first | done | with_reducible rfl)
            simp only [Act.put, List.setIfInBounds_toArray, List.set_cons_zero, List.set_cons_succ]
            refine wpAnyH_take (i := 4) (oi := { dst := some 35, op := Op.move (Operand.tmp 6), type := 3, pos := "rest.go:813", after := #[], guard := none }) (v := ?_) rfl (by kernel_rfl) (by kernel_rfl) (by kernel_rfl) (fun _ _ _ h => h) (Or.inl ⟨by rfl, ?_⟩) hHeld ?_
            rotate_left
            · (intro w hSw; (try dsimp only at hSw); go_simp; first | done | with_reducible rfl)
            simp only [Act.put, List.setIfInBounds_toArray, List.set_cons_zero, List.set_cons_succ]
            refine wpAnyH_take (i := 5) (oi := { dst := some 36, op := Op.indexAddr 23 (Operand.tmp 34) (Operand.tmp 35), type := 0, pos := "rest.go:813", after := #[{ on := 3, ground := Ground.data }, { on := 4, ground := Ground.data }], guard := none }) (v := ?_) rfl (by kernel_rfl) (by kernel_rfl) (by kernel_rfl) (fun _ _ _ h => h) (Or.inl ⟨by rfl, ?_⟩) hHeld ?_
            rotate_left
            · (intro w hSw; (try dsimp only at hSw); go_simp; first | done | with_reducible rfl)
            simp only [Act.put, List.setIfInBounds_toArray, List.set_cons_zero, List.set_cons_succ]
            refine wpAnyH_take (i := 6) (oi := { dst := some 37, op := Op.load 3 (Operand.tmp 36), type := 3, pos := "rest.go:813", after := #[{ on := 5, ground := Ground.data }], guard := none }) (v := ?_) rfl (by kernel_rfl) (by kernel_rfl) (by kernel_rfl) (fun _ _ _ h => h) (Or.inl ⟨by rfl, ?_⟩) hHeld ?_
            rotate_left
            · (intro w hSw; (try dsimp only at hSw); go_simp; first | done | with_reducible rfl)
            simp only [Act.put, List.setIfInBounds_toArray, List.set_cons_zero, List.set_cons_succ]
            refine wpAnyH_ready (rs := [1, 7]) (by kernel_rfl) (by simp) ?_
            refine (AllReadyH.cons (o := { dst := some 32, op := Op.load 23 (Operand.tmp 31), type := 23, pos := "rest.go:813", after := #[{ on := 0, ground := Ground.data }], guard := none }) rfl (fun K hK => ?_) (AllReadyH.cons (o := { dst := some 38, op := Op.buildSlice 23 1 #[(0, Operand.tmp 37)], type := 23, pos := "rest.go:813", after := #[{ on := 6, ground := Ground.data }], guard := none }) rfl (fun K hK => ?_) AllReadyH.nil))
            · go_simp
              have KK1 := hHeld
              clear hHeld
              refine hK.out _ _ KK1 (fun hHeld => ?_)
              clear hK K
              refine wpAnyH_ready (rs := [7]) (by kernel_rfl) (by simp) ?_
              refine (AllReadyH.cons (o := { dst := some 38, op := Op.buildSlice 23 1 #[(0, Operand.tmp 37)], type := 23, pos := "rest.go:813", after := #[{ on := 6, ground := Ground.data }], guard := none }) rfl (fun K hK => ?_) AllReadyH.nil)
              go_simp
              have KK7 := heldA2 hHeld (.cells #[.int .i64 x3] 3)
              clear hHeld
              refine hK.out _ _ KK7 (fun hHeld => ?_)
              clear hK K
              refine wpAnyH_ready (rs := [8]) (by kernel_rfl) (by simp) ?_
              refine (AllReadyH.cons (o := { dst := some 39, op := Op.call { callee := Callee.builtin Builtin.append, args := #[Operand.tmp 32, Operand.tmp 38], argTypes := #[23, 23] }, type := 23, pos := "rest.go:813", after := #[{ on := 1, ground := Ground.data }, { on := 7, ground := Ground.data }], guard := none }) rfl (fun K hK => ?_) AllReadyH.nil)
              rw [if_pos (by rfl)]
              refine wp_append_oneI _ _ rfl (w.heap.size + 4) oV (vals (dropM (M.take k) n)) x3 W2.heap.size 1 rfl rfl (HP2.out.keep bA2) BX2 hL2 hA2 ?_
              intro v2 w2 hO hg hnew
              have bG := grown_below hg hA2 (fun q hq => (World.ownsRow.lt (HP2.out.keep bA2) q hq).1)
              have KK8 := heldB2 hHeld bG (by omega) (by omega)
              clear hHeld
              have HG2 := Lib.hid hg; have HW2 := Lib.hid hO; have HBG2 := Lib.hid bG
              obtain ⟨p2, c2, ev2, _⟩ := hO.arg
              generalize ((vals (dropM (M.take k) n)) ++ [x3]).length = m2 at ev2
              subst ev2
              have g0 := ((HF2.out.below (bA2.mono hA42)).below bG).o
              have q0 := g0.c1
              have q1 := g0.f1
              clear hO hg hnew bG g0
              simp only [Act.put, List.setIfInBounds_toArray, List.set_cons_zero, List.set_cons_succ]
              refine hK.out _ _ KK8 (fun hHeld => ?_)
              clear hK K
              refine wpAnyH_take (i := 9) (oi := { dst := some 40, op := Op.fieldAddr 28 (Operand.tmp 5) 1, type := 0, pos := "rest.go:813", after := #[{ on := 0, ground := Ground.phase }, { on := 1, ground := Ground.phase }, { on := 2, ground := Ground.phase }, { on := 3, ground := Ground.phase }, { on := 4, ground := Ground.phase }, { on := 5, ground := Ground.phase }, { on := 6, ground := Ground.phase }, { on := 7, ground := Ground.phase }, { on := 8, ground := Ground.phase }], guard := none }) (v := ?_) rfl (by kernel_rfl) (by kernel_rfl) (by kernel_rfl) (fun _ _ _ h => h) (Or.inl ⟨by rfl, ?_⟩) hHeld ?_
              rotate_left
              · (intro w hSw; (try dsimp only at hSw); go_simp; first | done | with_reducible rfl)
              simp only [Act.put, List.setIfInBounds_toArray, List.set_cons_zero, List.set_cons_succ]
              refine wpAnyH_ready (rs := [10]) (by kernel_rfl) (by simp) ?_
              refine (AllReadyH.cons (o := { dst := none, op := Op.store 23 (Operand.tmp 40) (Operand.tmp 39), type := 0, pos := "rest.go:813", after := #[{ on := 9, ground := Ground.data }, { on := 8, ground := Ground.data }, { on := 8, ground := Ground.chain }, { on := 0, ground := Ground.phase }, { on := 1, ground := Ground.phase }, { on := 2, ground := Ground.phase }, { on := 3, ground := Ground.phase }, { on := 4, ground := Ground.phase }, { on := 5, ground := Ground.phase }, { on := 6, ground := Ground.phase }, { on := 7, ground := Ground.phase }, { on := 8, ground := Ground.phase }], guard := none }) rfl (fun K hK => ?_) AllReadyH.nil)
              go_simp
              have KK10 := heldC2 (q := w.heap.size + 1 + 1 + 1) (r := 1) hHeld (by omega) (by omega) (.slice p2 m2 c2)
              clear hHeld
              refine hK.out _ _ KK10 (fun hHeld => ?_)
              clear hK K
              refine wpAnyH_done (by kernel_rfl) ?_ _
              clear hHeld q0 q1
              have HFa := Lib.hid (((HF2.out.below (bA2.mono hA42)).below HBG2.out).out1 (.slice p2 m2 c2))
              have HPa : Hid (OwnI (w2.setCell ⟨w.heap.size + 1 + 1 + 1, 1, none⟩ (.slice p2 m2 c2)) (w.heap.size + 4) (.slice p2 m2 c2) (vals (dropM (M.take k) n ++ [(((n.1, x2), x3) : Nt × Int)]))) := Lib.hid (by
                have := ownsRow_setCell_below HW2.out (a := ⟨w.heap.size + 1 + 1 + 1, 1, none⟩) (by simp only; omega) (.slice p2 m2 c2)
                rw [vals_app]; exact this)
              have HOa : Hid (Own (w2.setCell ⟨w.heap.size + 1 + 1 + 1, 1, none⟩ (.slice p2 m2 c2)) (w.heap.size + 4) oN' (nets (dropM (M.take k) n ++ [(((n.1, x2), x3) : Nt × Int)]))) := Lib.hid (by
                have h1 := World.ownsRow.kept (HO2.out.keep bA2) HG2.out (row_types' (HO2.out.keep bA2) (HP2.out.keep bA2))
                exact ownsRow_setCell_below h1 (a := ⟨w.heap.size + 1 + 1 + 1, 1, none⟩) (by simp only; omega) (.slice p2 m2 c2))
              have HBa := Lib.hid ((((HB2.out.trans (bA2.mono (Nat.le_trans (Nat.le_add_right _ 4) hA42))).trans (HBG2.out.mono (Nat.le_add_right _ 4))).setCell (p := ⟨w.heap.size + 1 + 1 + 1, 1, none⟩) (by simp only; omega) (.slice p2 m2 c2)))
              have HZa : Hid (w.heap.size + 4 ≤ (w2.setCell ⟨w.heap.size + 1 + 1 + 1, 1, none⟩ (.slice p2 m2 c2)).heap.size) := Lib.hid (by have h1 : w.heap.size + 4 ≤ w2.heap.size := Nat.le_trans hA2 HBG2.out.size; simp only [World.setCell, Array.size_modify]; exact h1)
              go_wp2_with fail
              go_roundw
              case rel => exact ⟨k + 1, oN', .slice p2 m2 c2, by go_num, by omega, HFa, by rw [HD.out]; exact HOa, by rw [HD.out]; exact HPa, HBa, HZa⟩
              case measure => simp [RowKit.intOf]; omega
            · go_simp
              have KK7 := heldA2 hHeld (.cells #[.int .i64 x3] 3)
              clear hHeld
              refine hK.out _ _ KK7 (fun hHeld => ?_)
              clear hK K
              refine wpAnyH_ready (rs := [1]) (by kernel_rfl) (by simp) ?_
              refine (AllReadyH.cons (o := { dst := some 32, op := Op.load 23 (Operand.tmp 31), type := 23, pos := "rest.go:813", after := #[{ on := 0, ground := Ground.data }], guard := none }) rfl (fun K hK => ?_) AllReadyH.nil)
              go_simp
              have KK1 := hHeld
              clear hHeld
              refine hK.out _ _ KK1 (fun hHeld => ?_)
              clear hK K
              refine wpAnyH_ready (rs := [8]) (by kernel_rfl) (by simp) ?_
              refine (AllReadyH.cons (o := { dst := some 39, op := Op.call { callee := Callee.builtin Builtin.append, args := #[Operand.tmp 32, Operand.tmp 38], argTypes := #[23, 23] }, type := 23, pos := "rest.go:813", after := #[{ on := 1, ground := Ground.data }, { on := 7, ground := Ground.data }], guard := none }) rfl (fun K hK => ?_) AllReadyH.nil)
              rw [if_pos (by rfl)]
              refine wp_append_oneI _ _ rfl (w.heap.size + 4) oV (vals (dropM (M.take k) n)) x3 W2.heap.size 1 rfl rfl (HP2.out.keep bA2) BX2 hL2 hA2 ?_
              intro v2 w2 hO hg hnew
              have bG := grown_below hg hA2 (fun q hq => (World.ownsRow.lt (HP2.out.keep bA2) q hq).1)
              have KK8 := heldB2 hHeld bG (by omega) (by omega)
              clear hHeld
              have HG2 := Lib.hid hg; have HW2 := Lib.hid hO; have HBG2 := Lib.hid bG
              obtain ⟨p2, c2, ev2, _⟩ := hO.arg
              generalize ((vals (dropM (M.take k) n)) ++ [x3]).length = m2 at ev2
              subst ev2
              have g0 := ((HF2.out.below (bA2.mono hA42)).below bG).o
              have q0 := g0.c1
              have q1 := g0.f1
              clear hO hg hnew bG g0
              simp only [Act.put, List.setIfInBounds_toArray, List.set_cons_zero, List.set_cons_succ]
              refine hK.out _ _ KK8 (fun hHeld => ?_)
              clear hK K
              refine wpAnyH_take (i := 9) (oi := { dst := some 40, op := Op.fieldAddr 28 (Operand.tmp 5) 1, type := 0, pos := "rest.go:813", after := #[{ on := 0, ground := Ground.phase }, { on := 1, ground := Ground.phase }, { on := 2, ground := Ground.phase }, { on := 3, ground := Ground.phase }, { on := 4, ground := Ground.phase }, { on := 5, ground := Ground.phase }, { on := 6, ground := Ground.phase }, { on := 7, ground := Ground.phase }, { on := 8, ground := Ground.phase }], guard := none }) (v := ?_) rfl (by kernel_rfl) (by kernel_rfl) (by kernel_rfl) (fun _ _ _ h => h) (Or.inl ⟨by rfl, ?_⟩) hHeld ?_
              rotate_left
              · (intro w hSw; (try dsimp only at hSw); go_simp; first | done | with_reducible rfl)
              simp only [Act.put, List.setIfInBounds_toArray, List.set_cons_zero, List.set_cons_succ]
              refine wpAnyH_ready (rs := [10]) (by kernel_rfl) (by simp) ?_
              refine (AllReadyH.cons (o := { dst := none, op := Op.store 23 (Operand.tmp 40) (Operand.tmp 39), type := 0, pos := "rest.go:813", after := #[{ on := 9, ground := Ground.data }, { on := 8, ground := Ground.data }, { on := 8, ground := Ground.chain }, { on := 0, ground := Ground.phase }, { on := 1, ground := Ground.phase }, { on := 2, ground := Ground.phase }, { on := 3, ground := Ground.phase }, { on := 4, ground := Ground.phase }, { on := 5, ground := Ground.phase }, { on := 6, ground := Ground.phase }, { on := 7, ground := Ground.phase }, { on := 8, ground := Ground.phase }], guard := none }) rfl (fun K hK => ?_) AllReadyH.nil)
              go_simp
              have KK10 := heldC2 (q := w.heap.size + 1 + 1 + 1) (r := 1) hHeld (by omega) (by omega) (.slice p2 m2 c2)
              clear hHeld
              refine hK.out _ _ KK10 (fun hHeld => ?_)
              clear hK K
              refine wpAnyH_done (by kernel_rfl) ?_ _
              clear hHeld q0 q1
              have HFa := Lib.hid (((HF2.out.below (bA2.mono hA42)).below HBG2.out).out1 (.slice p2 m2 c2))
              have HPa : Hid (OwnI (w2.setCell ⟨w.heap.size + 1 + 1 + 1, 1, none⟩ (.slice p2 m2 c2)) (w.heap.size + 4) (.slice p2 m2 c2) (vals (dropM (M.take k) n ++ [(((n.1, x2), x3) : Nt × Int)]))) := Lib.hid (by
                have := ownsRow_setCell_below HW2.out (a := ⟨w.heap.size + 1 + 1 + 1, 1, none⟩) (by simp only; omega) (.slice p2 m2 c2)
                rw [vals_app]; exact this)
              have HOa : Hid (Own (w2.setCell ⟨w.heap.size + 1 + 1 + 1, 1, none⟩ (.slice p2 m2 c2)) (w.heap.size + 4) oN' (nets (dropM (M.take k) n ++ [(((n.1, x2), x3) : Nt × Int)]))) := Lib.hid (by
                have h1 := World.ownsRow.kept (HO2.out.keep bA2) HG2.out (row_types' (HO2.out.keep bA2) (HP2.out.keep bA2))
                exact ownsRow_setCell_below h1 (a := ⟨w.heap.size + 1 + 1 + 1, 1, none⟩) (by simp only; omega) (.slice p2 m2 c2))
              have HBa := Lib.hid ((((HB2.out.trans (bA2.mono (Nat.le_trans (Nat.le_add_right _ 4) hA42))).trans (HBG2.out.mono (Nat.le_add_right _ 4))).setCell (p := ⟨w.heap.size + 1 + 1 + 1, 1, none⟩) (by simp only; omega) (.slice p2 m2 c2)))
              have HZa : Hid (w.heap.size + 4 ≤ (w2.setCell ⟨w.heap.size + 1 + 1 + 1, 1, none⟩ (.slice p2 m2 c2)).heap.size) := Lib.hid (by have h1 : w.heap.size + 4 ≤ w2.heap.size := Nat.le_trans hA2 HBG2.out.size; simp only [World.setCell, Array.size_modify]; exact h1)
              go_wp2_with fail
              go_roundw
              case rel => exact ⟨k + 1, oN', .slice p2 m2 c2, by go_num, by omega, HFa, by rw [HD.out]; exact HOa, by rw [HD.out]; exact HPa, HBa, HZa⟩
              case measure => simp [RowKit.intOf]; omega
    · obtain rfl : k = M.length := by omega
      rw [List.take_length] at HO HP
      obtain ⟨p1, c1, hv1, _⟩ := HO.out.arg
      obtain ⟨p2, c2, hv2, _⟩ := HP.out.arg
      generalize (nets (dropM M n)).length = m1 at hv1
      generalize (vals (dropM M n)).length = m2 at hv2
      subst hv1 hv2
      go_wp2_with fail
      have hO := ownsRow_setCell_below (ownsRow_setCell_below HO.out (a := ⟨w.heap.size + 1 + 1, 0, none⟩) (by simp only; omega) (.slice p1 m1 c1)) (a := ⟨w.heap.size + 1 + 1, 1, none⟩) (by simp only; omega) (.slice p2 m2 c2)
      have hP := ownsRow_setCell_below (ownsRow_setCell_below HP.out (a := ⟨w.heap.size + 1 + 1, 0, none⟩) (by simp only; omega) (.slice p1 m1 c1)) (a := ⟨w.heap.size + 1 + 1, 1, none⟩) (by simp only; omega) (.slice p2 m2 c2)
      exact bodyPost_ret (v := .agg #[.slice p1 m1 c1, .slice p2 m2 c2]) (by simp [results, Tryd.results15, go_sem, r0, r1]) rfl ⟨_, _, rfl, Own.down hO (by omega), OwnI.down hP (by omega), (HB.out.setCell (p := ⟨w.heap.size + 1 + 1, 0, none⟩) (by simp only; omega) _).setCell (p := ⟨w.heap.size + 1 + 1, 1, none⟩) (by simp only; omega) _⟩
end Go.Proofs.YtbdmfcnlfmnmdaaDoor
