/-
  The closure of (*trie.Table).List, which calls itself: it appends the networks of a tree, from a node on, in their order.
-/
import Derived.Test.YtbdmfcnlfmnmdaaDoorTrieTab
import Derived.Test.YtbdmfcnlfmnmdaaDoorPrefHalves
import Derived.Test.YtbdmfcnlfmnmdaaDoorNetApp
import Derived.Deep.RegionHeld3
namespace Go.Proofs.YtbdmfcnlfmnmdaaDoor
open Go.RowKit

/-- The closure's value: its own two variables, the list and itself. -/
def visV (nb vb : Nat) : Value := .func (.func 33) #[] #[.pointer (some ⟨nb, 0, none⟩), .pointer (some ⟨vb, 0, none⟩)]
/-- The list so far, and the closure's variables. -/
structure Vis (w : World) (base nb vb : Nat) (v : Value) (L : List Nt) : Prop where
  own : Own w base v L
  c : w.cell? ⟨nb, 0, none⟩ = some v
  f : w.frozen? ⟨nb, 0, none⟩ = false
  k : w.cell? ⟨vb, 0, none⟩ = some (visV nb vb)
  nlt : nb < base
  vlt : vb < base
  ne : nb ≠ vb
  le : base ≤ w.heap.size
/-- What a call of it turns: the list's variable and the list. -/
structure Went (nb : Nat) (w w' : World) (v v' : Value) : Prop where
  keep : Keep (fun b => b = nb ∨ some b = v.ownBlock) w w'
  own : v'.ownBlock = v.ownBlock ∨ ∃ g, v'.ownBlock = some g ∧ w.heap.size ≤ g
theorem Went.refl (nb : Nat) (w : World) (v : Value) : Went nb w w v v := ⟨Keep.refl _ _, Or.inl rfl⟩
theorem Went.of {nb : Nat} {w w' : World} (h : Below w.heap.size w w') (v : Value) : Went nb w w' v v := ⟨Keep.of h, Or.inl rfl⟩
theorem Went.trans {nb : Nat} {w w1 w2 : World} {v v1 v2 : Value} (h : Went nb w w1 v v1) (k : Went nb w1 w2 v1 v2) : Went nb w w2 v v2 := by
  refine ⟨h.keep.then k.keep ?_, ?_⟩
  · rintro b (rfl | hb)
    · exact Or.inl (Or.inl rfl)
    · rcases h.own with h1 | ⟨g, h1, h2⟩
      · exact Or.inl (Or.inr (hb.trans h1))
      · rw [h1] at hb
        obtain rfl := Option.some.inj hb
        exact Or.inr h2
  · rcases k.own with k1 | ⟨g, k1, k2⟩
    · rcases h.own with h1 | ⟨g, h1, h2⟩
      · exact Or.inl (k1.trans h1)
      · exact Or.inr ⟨g, k1.trans h1, h2⟩
    · exact Or.inr ⟨g, k1, Nat.le_trans h.keep.size k2⟩
theorem Vis.below {w w' : World} {base nb vb : Nat} {v : Value} {L : List Nt} (h : Vis w base nb vb v L) (hb : Below w.heap.size w w') : Vis w' base nb vb v L :=
  have l1 := Nat.lt_of_lt_of_le h.nlt h.le
  have l2 := Nat.lt_of_lt_of_le h.vlt h.le
  ⟨h.own.keep hb, (hb.cell (p := ⟨nb, 0, none⟩) l1).trans h.c, (hb.frozen (p := ⟨nb, 0, none⟩) l1).trans h.f, (hb.cell (p := ⟨vb, 0, none⟩) l2).trans h.k, h.nlt, h.vlt, h.ne, Nat.le_trans h.le hb.size⟩
theorem Vis.row {w : World} {base nb vb : Nat} {v : Value} {L : List Nt} (h : Vis w base nb vb v L) (b : Nat) (hb : b < base) : some b ≠ v.ownBlock := by
  intro e
  have := (World.ownsRow.lt h.own b e.symm).1
  omega
/-- A block of two cells that such a call does not turn. -/
theorem Box.went {nb : Nat} {w w' : World} {v v' x y : Value} {b : Nat} (h : Box w b x y) (k : Went nb w w' v v') (h1 : b ≠ nb) (h2 : some b ≠ v.ownBlock) : Box w' b x y := by
  have e := k.keep.block b h.lt (fun e => by rcases e with e | e; exact h1 e; exact h2 e)
  exact ⟨Nat.lt_of_lt_of_le h.lt k.keep.size, (World.cell?_of_block (w := w) e).trans h.c0, (World.cell?_of_block (w := w) e).trans h.c1, (World.frozen?_of_block (w := w) e).trans h.f0, (World.frozen?_of_block (w := w) e).trans h.f1⟩
theorem Tri.went {nb : Nat} {w w' : World} {v v' : Value} {M : Tm} {tb : Nat} {c : Int} (h : Tri w M tb c) (k : Went nb w w' v v') (h1 : ∀ b, M.Bl b → b ≠ nb ∧ some b ≠ v.ownBlock) : Tri w' M tb c :=
  h.keep k.keep fun b hb e => by rcases e with e | e; exact (h1 b hb).1 e; exact (h1 b hb).2 e
/-- One network more. -/
theorem Vis.more {w V w' : World} {base nb vb : Nat} {v v' : Value} {L : List Nt} {n : Nt} (h : Vis w base nb vb v L) (hb : Below w.heap.size w V) (hown : Own w' base v' (L ++ [n])) (hg : V.grownBy w' v.ownBlock) (hnew : v'.ownBlock = v.ownBlock ∨ v'.ownBlock = some V.heap.size) :
    Vis (w'.setCell ⟨nb, 0, none⟩ v') base nb vb v' (L ++ [n]) ∧ Went nb w (w'.setCell ⟨nb, 0, none⟩ v') v v' := by
  have l1 := Nat.lt_of_lt_of_le h.nlt h.le
  have l2 := Nat.lt_of_lt_of_le h.vlt h.le
  have hV := h.below hb
  have e1 : w'.heap[nb]? = V.heap[nb]? := hg.block nb (Nat.lt_of_lt_of_le l1 hb.size) (h.row nb h.nlt)
  have e2 : w'.heap[vb]? = V.heap[vb]? := hg.block vb (Nat.lt_of_lt_of_le l2 hb.size) (h.row vb h.vlt)
  have own' : v'.ownBlock ≠ some nb := by
    intro e
    have := (World.ownsRow.lt hown nb e).1
    have := h.nlt
    omega
  refine ⟨⟨ownsRow_setCell_other hown own' v', World.cell?_setCell_same _ _ _ ((World.cell?_of_block (w := V) e1).trans hV.c), ?_, ?_, h.nlt, h.vlt, h.ne, ?_⟩, ⟨?_, ?_⟩⟩
  · rw [World.frozen?_setCell]; exact (World.frozen?_of_block (w := V) e1).trans hV.f
  · rw [World.cell?_setCell_other _ _ _ _ (by intro e; simp only [Addr.mk.injEq] at e; exact h.ne e.1)]
    exact (World.cell?_of_block (w := V) e2).trans hV.k
  · have := Nat.le_trans h.le (Nat.le_trans hb.size hg.size)
    simpa [World.setCell] using this
  · refine ((Keep.of hb).trans ⟨hg.os, hg.tape, hg.output, hg.size, fun k hk hn => hg.block k hk (fun e => hn (Or.inr e))⟩).trans (Keep.setCell _ _ _ _ _ (Or.inl rfl))
  · rcases hnew with e | e
    · exact Or.inl e
    · exact Or.inr ⟨_, e, hb.size⟩

theorem Box.drew1 {w : World} {b : Nat} {x y : Value} (h : Box w b x y) : Box w.drew b x y := ⟨h.lt, h.c0, h.c1, h.f0, h.f1⟩
/-- What is asked of a call, from a network of d bits on. -/
def VisOk (base nb vb tb : Nat) (c : Int) (M : Tm) (k d : Nat) : Prop := ∀ (a : Nat) (w : World) (v : Value) (L : List Nt), a < 4294967296 → PrefP.cut a d = a → Tri w M tb c → Vis w base nb vb v L → L.length + (M.below k a d).length ≤ 1000000 →
    Calls Tryd.prog 33 #[pt (M a d), .agg #[.int .u32 a, .int .i64 (d : Int)], .pointer (some ⟨nb, 0, none⟩), .pointer (some ⟨vb, 0, none⟩)] w fun e w' => e = .returned (.tuple #[]) ∧ ∃ v', Vis w' base nb vb v' (L ++ M.below k a d) ∧ Went nb w w' v v'

set_option maxHeartbeats 4000000 in
set_option maxRecDepth 100000 in
theorem visit_on (base nb vb tb : Nat) (c : Int) (M : Tm) (k a d : Nat) (hk : k + 1 + d = 33) (ha : a < 4294967296) (hc : PrefP.cut a d = a) (x : Nd) (hx : M a d = some x) (hu : x.u = true) (w : World) (v : Value) (L : List Nt)
    (hT : Tri w M tb c) (hV : Vis w base nb vb v L) (hM : ∀ b, M.Bl b → b ≠ nb ∧ b < base) (hlen : L.length + (M.below (k + 1) a d).length ≤ 1000000) (ih : d < 32 → VisOk base nb vb tb c M k (d + 1)) :
    Calls Tryd.prog 33 #[.pointer (some ⟨x.b, 0, none⟩), .agg #[.int .u32 a, .int .i64 d], .pointer (some ⟨nb, 0, none⟩), .pointer (some ⟨vb, 0, none⟩)] w fun e w' => e = .returned (.tuple #[]) ∧ ∃ v', Vis w' base nb vb v' (L ++ M.below (k + 1) a d) ∧ Went nb w w' v v' := by
  have N0 := Box.new w (.int .u32 a) (.int .i64 d) 32
  have B0 : Below w.heap.size w (w.alloc (.cells #[.int .u32 a, .int .i64 d] 32)) := (Below.refl _ _).alloc (Nat.le_refl _) _
  have hl : L.length ≤ 1000000 := by omega
  have c2 : (w.alloc (.cells #[.int .u32 a, .int .i64 d] 32)).cell? ⟨x.b, 2, none⟩ = some (.bool true) := by
    have := (hT.below B0).cell _ _ _ hx 2 (by decide)
    rw [show nc M a d x 2 = .bool x.u from rfl, hu] at this
    exact this
  have V0 := hV.below B0
  have HC := Lib.hid hc
  have HT := Lib.hid hT; have HV := Lib.hid hV; have HM := Lib.hid hM; have HX := Lib.hid hx; have HV0 := Lib.hid V0; have HB0 := Lib.hid B0; have HN0 := Lib.hid N0; have HLEN := Lib.hid hlen
  have hun : M.below (k + 1) a d = [((a, (d : Int)) : Nt)] ++ (M.below k a (d + 1) ++ M.below k (TrieP.kid a d 1) (d + 1)) := by rw [Tm.below, hx]; simp only [hu, if_true]
  have HUN := Lib.hid hun
  have IH0 := Lib.hid ih
  clear hT hV hM hx B0 hlen hc hun ih
  have cc := V0.c
  have cf := V0.f
  clear V0
  go_enter Tryd.func33, Tryd.ntmps33
  go_wp2_with (at_builtin; refine wpList_plain rfl fun _ hK => wp_append_one _ _ rfl base v L (a, (d : Int)) (w.heap.size + 1) 1 rfl rfl ?q1 ?q2 (by omega) ?q3 ?q4)
  case q1 => exact (HV0.out.below ((Below.refl _ _).alloc (Nat.le_refl _) _)).own
  case q2 => have := Box.new (w.alloc (.cells #[.int .u32 a, .int .i64 d] 32)) (.int .u32 a) (.int .i64 d) 32; rw [show (w.alloc (.cells #[.int .u32 a, .int .i64 d] 32)).heap.size = w.heap.size + 1 by simp] at this; exact this
  case q3 => have := HV.out.le; simp; omega
  intro v1 w1 hown hg hnew
  refine hK _ _ ?_
  clear hK
  have hmore := HV0.out.more ((Below.refl _ _).alloc (Nat.le_refl _) (.cells #[.int .u32 a, .int .i64 d] 32)) hown hg (by simpa using hnew)
  have l1 := Nat.lt_of_lt_of_le HV.out.nlt HV.out.le
  have e1 := hg.block nb (by simp; omega) (HV.out.row nb HV.out.nlt)
  have cc1 : w1.cell? ⟨nb, 0, none⟩ = some v := (World.cell?_of_block (w := _) e1).trans (HV0.out.below ((Below.refl _ _).alloc (Nat.le_refl _) _)).c
  have cf1 : w1.frozen? ⟨nb, 0, none⟩ = false := (World.frozen?_of_block (w := _) e1).trans (HV0.out.below ((Below.refl _ _).alloc (Nat.le_refl _) _)).f
  have HW1 := Lib.hid ((Went.of HB0.out v).trans hmore.2)
  have HV1 := Lib.hid hmore.1
  have HT1 := Lib.hid ((HT.out.below HB0.out).went hmore.2 fun b hb => ⟨(HM.out b hb).1, HV.out.row b (HM.out b hb).2⟩)
  have HBX := Lib.hid (HN0.out.went hmore.2 (by omega) (by
    intro e
    have := (World.ownsRow.lt HV.out.own _ e.symm).2
    omega))
  obtain ⟨p1, k1, hv1, _⟩ := hown.arg
  generalize (L ++ [((a, (d : Int)) : Nt)]).length = m1 at hv1
  subst hv1
  generalize hL1 : L ++ [((a, (d : Int)) : Nt)] = L1 at *
  have HL1 := Lib.hid hL1; clear hL1
  have HLEN2 : Hid (L1.length + ((M.below k a (d + 1)).length + (M.below k (TrieP.kid a d 1) (d + 1)).length) ≤ 1000000) := Lib.hid (by
    have := HLEN.out
    rw [HUN.out] at this
    rw [← HL1.out]
    simp only [List.length_append, List.length_singleton] at this ⊢
    omega)
  clear cc cf c2 hown hg hnew hmore e1 l1
  have c0 := HBX.out.c0
  have c1 := HBX.out.c1
  go_wp2_with fail
  generalize w1.setCell ⟨nb, 0, none⟩ (.slice p1 m1 k1) = W1 at *
  clear cc1 cf1 c0 c1
  generalize (Value.slice p1 m1 k1) = v1 at *
  by_cases hd : d < 32
  · have IH := Lib.hid (IH0.out hd)
    refine (halves_yes a d ha (by omega) HC.out _).mono ?_
    rintro e W2 ⟨rfl, hb2⟩
    go_wp2_with fail
    generalize hX : (W2.alloc (.cells #[.int .u32 a, .int .i64 ((d : Int) + 1)] 32)).alloc (.cells #[.int .u32 ((a ||| PrefP.bit d : Nat) : Int), .int .i64 ((d : Int) + 1)] 32) = X
    obtain ⟨bl, bh, bB⟩ : Box X W2.heap.size (.int .u32 a) (.int .i64 ((d : Int) + 1)) ∧ Box X (W2.heap.size + 1) (.int .u32 ((a ||| PrefP.bit d : Nat) : Int)) (.int .i64 ((d : Int) + 1)) ∧ Below W2.heap.size W2 X := by
      rw [← hX]; exact box2 (Below.refl _ _)
    clear hX
    have bX := Below.two hb2 bB
    have sX := hb2.size
    clear hb2 bB
    have HV3 := Lib.hid (HV1.out.below bX); have HT3 := Lib.hid (HT1.out.below bX); have HB3 := Lib.hid bl; have HH3 := Lib.hid bh; have HW3 := Lib.hid (HW1.out.trans (Went.of bX v1))
    clear bl bh bX
    obtain ⟨q0, hq0⟩ := pt_pointer (M a (d + 1))
    obtain ⟨q1, hq1⟩ := pt_pointer (M (TrieP.kid a d 1) (d + 1))
    have HQ0 := Lib.hid (show nc M a d x 0 = .pointer q0 from hq0); have HQ1 := Lib.hid (show nc M a d x 1 = .pointer q1 from hq1)
    clear hq0 hq1
    refine wp_region_held_drew (S := (fun w' => w'.cell? ⟨vb, 0, none⟩ = some (.func (.func 33) #[] #[.pointer (some ⟨nb, 0, none⟩), .pointer (some ⟨vb, 0, none⟩)]) ∧ w'.cell? ⟨x.b, 0, none⟩ = some (.pointer q0) ∧ w'.cell? ⟨W2.heap.size, 0, none⟩ = some (.int .u32 (a : Int)) ∧ w'.cell? ⟨W2.heap.size, 1, none⟩ = some (.int .i64 ((d : Int) + 1)))) (by kernel_rfl) ⟨HV3.out.k, HT3.out.cell _ _ _ HX.out 0 (by decide) |>.trans (congrArg some HQ0.out), HB3.out.c0, HB3.out.c1⟩ (fun hHeld => ?_)
    refine wpAnyH_take (i := 0) (oi := { dst := some 27, op := Op.load 70 (Operand.tmp 3), type := 70, pos := "trie.go:160", after := #[], guard := none }) (v := ?_) rfl (by kernel_rfl) (by kernel_rfl) (by kernel_rfl) (fun _ _ _ h => h) (Or.inl ⟨by rfl, ?_⟩) hHeld ?_
    rotate_left
    · (intro w hSw; (try dsimp only at hSw); go_simp; first | done | with_reducible rfl)
    simp only [Act.put, List.setIfInBounds_toArray, List.set_cons_zero, List.set_cons_succ]
    refine wpAnyH_take (i := 1) (oi := { dst := some 28, op := Op.move (Operand.tmp 0), type := 56, pos := "trie.go:160", after := #[], guard := none }) (v := ?_) rfl (by kernel_rfl) (by kernel_rfl) (by kernel_rfl) (fun _ _ _ h => h) (Or.inl ⟨by rfl, ?_⟩) hHeld ?_
    rotate_left
    · (intro w hSw; (try dsimp only at hSw); go_simp; first | done | with_reducible rfl)
    simp only [Act.put, List.setIfInBounds_toArray, List.set_cons_zero, List.set_cons_succ]
    refine wpAnyH_take (i := 2) (oi := { dst := some 29, op := Op.nilCheck (Operand.tmp 28), type := 0, pos := "trie.go:160", after := #[{ on := 1, ground := Ground.data }], guard := none }) (v := ?_) rfl (by kernel_rfl) (by kernel_rfl) (by kernel_rfl) (fun _ _ _ h => h) (Or.inl ⟨by rfl, ?_⟩) hHeld ?_
    rotate_left
    · (intro w hSw; (try dsimp only at hSw); go_simp; first | done | with_reducible rfl)
    simp only [Act.put, List.setIfInBounds_toArray, List.set_cons_zero, List.set_cons_succ]
    refine wpAnyH_take (i := 3) (oi := { dst := some 30, op := Op.fieldAddr 59 (Operand.tmp 29) 0, type := 0, pos := "trie.go:160", after := #[{ on := 2, ground := Ground.data }], guard := none }) (v := ?_) rfl (by kernel_rfl) (by kernel_rfl) (by kernel_rfl) (fun _ _ _ h => h) (Or.inl ⟨by rfl, ?_⟩) hHeld ?_
    rotate_left
    · (intro w hSw; (try dsimp only at hSw); go_simp; first | done | with_reducible rfl)
    simp only [Act.put, List.setIfInBounds_toArray, List.set_cons_zero, List.set_cons_succ]
    refine wpAnyH_take (i := 4) (oi := { dst := some 31, op := Op.indexAddr 57 (Operand.tmp 30) (Operand.const (Value.int IntKind.i64 0)), type := 0, pos := "trie.go:160", after := #[{ on := 3, ground := Ground.data }], guard := none }) (v := ?_) rfl (by kernel_rfl) (by kernel_rfl) (by kernel_rfl) (fun _ _ _ h => h) (Or.inl ⟨by rfl, ?_⟩) hHeld ?_
    rotate_left
    · (intro w hSw; (try dsimp only at hSw); go_simp; first | done | with_reducible rfl)
    simp only [Act.put, List.setIfInBounds_toArray, List.set_cons_zero, List.set_cons_succ]
    refine wpAnyH_take (i := 5) (oi := { dst := some 32, op := Op.load 56 (Operand.tmp 31), type := 56, pos := "trie.go:160", after := #[{ on := 4, ground := Ground.data }], guard := none }) (v := ?_) rfl (by kernel_rfl) (by kernel_rfl) (by kernel_rfl) (fun _ _ _ h => h) (Or.inl ⟨by rfl, ?_⟩) hHeld ?_
    rotate_left
    · (intro w hSw; (try dsimp only at hSw); go_simp; first | done | with_reducible rfl)
    simp only [Act.put, List.setIfInBounds_toArray, List.set_cons_zero, List.set_cons_succ]
    refine wpAnyH_take (i := 6) (oi := { dst := some 33, op := Op.load 32 (Operand.tmp 6), type := 32, pos := "trie.go:160", after := #[], guard := none }) (v := ?_) rfl (by kernel_rfl) (by kernel_rfl) (by kernel_rfl) (fun _ _ _ h => h) (Or.inl ⟨by rfl, ?_⟩) hHeld ?_
    rotate_left
    · (intro w hSw; (try dsimp only at hSw); go_simp; first | done | with_reducible rfl)
    simp only [Act.put, List.setIfInBounds_toArray, List.set_cons_zero, List.set_cons_succ]
    refine wpAnyH_ready (rs := [7]) (by kernel_rfl) (by simp) ?_
    refine AllReadyH.cons (o := { dst := some 34, op := Op.call { callee := Callee.value (Operand.tmp 27), args := #[Operand.tmp 32, Operand.tmp 33], argTypes := #[56, 32] }, type := 0, pos := "trie.go:160", after := #[{ on := 0, ground := Ground.data }, { on := 5, ground := Ground.data }, { on := 6, ground := Ground.data }], guard := none }) rfl (fun K hK => ?_) AllReadyH.nil
    go_simp
    go_at_call 33
    have IHc := IH.out a X.drew v1 L1 ha (TrieP.kid_ok a d 0 hd HC.out) HT3.out.drew (HV3.out.below (Below.refl _ _).drew) (by have := HLEN2.out; omega)
    rw [show pt (M a (d + 1)) = .pointer q0 from HQ0.out, show ((d + 1 : Nat) : Int) = (d : Int) + 1 by omega] at IHc
    refine IHc.mono ?_
    rintro e W3 ⟨rfl, v2, hV4, hW4⟩
    clear IHc
    have hrow : ∀ b, W1.heap.size ≤ b → some b ≠ v1.ownBlock := by
      intro b hb e
      have := (World.ownsRow.lt HV1.out.own b e.symm).2
      omega
    have hnb : nb < W1.heap.size := Nat.lt_of_lt_of_le HV1.out.nlt HV1.out.le
    have HV4 := Lib.hid hV4; have HW4 := Lib.hid (HW3.out.trans ((Went.of (Below.refl _ _).drew v1).trans hW4))
    have HT4 := Lib.hid (HT3.out.drew.went hW4 fun b hb => ⟨(HM.out b hb).1, HV3.out.row b (HM.out b hb).2⟩)
    have lo := HB3.out.drew1.went hW4 (by omega) (hrow _ sX)
    have HB4 := Lib.hid (HH3.out.drew1.went hW4 (by omega) (hrow _ (by omega)))
    have KK0 : W3.cell? ⟨vb, 0, none⟩ = some (.func (.func 33) #[] #[.pointer (some ⟨nb, 0, none⟩), .pointer (some ⟨vb, 0, none⟩)]) ∧ W3.cell? ⟨x.b, 0, none⟩ = some (.pointer q0) ∧ W3.cell? ⟨W2.heap.size, 0, none⟩ = some (.int .u32 (a : Int)) ∧ W3.cell? ⟨W2.heap.size, 1, none⟩ = some (.int .i64 ((d : Int) + 1)) := ⟨hV4.k, (HT4.out.cell _ _ _ HX.out 0 (by decide)).trans (congrArg some HQ0.out), lo.c0, lo.c1⟩
    have HR4 := Lib.hid (show some (W2.heap.size + 1) ≠ v2.ownBlock from by
      rcases hW4.own with e | ⟨g, e, hg⟩
      · rw [e]; exact hrow _ (by omega)
      · rw [e]
        intro e2
        have := Option.some.inj e2
        have := HH3.out.lt
        have : X.heap.size ≤ g := hg
        omega)
    have HNB := Lib.hid (show W2.heap.size + 1 ≠ nb by omega)
    clear hHeld hV4 hW4 lo hrow hnb
    go_wp2_with fail
    refine hK.out _ _ KK0 (fun hHeld => ?_)
    clear hK K
    refine wpAnyH_done (by kernel_rfl) ?_ _
    go_wp2_with fail
    clear hHeld
    refine wp_region_held_drew (S := (fun w' => w'.cell? ⟨vb, 0, none⟩ = some (.func (.func 33) #[] #[.pointer (some ⟨nb, 0, none⟩), .pointer (some ⟨vb, 0, none⟩)]) ∧ w'.cell? ⟨x.b, 1, none⟩ = some (.pointer q1) ∧ w'.cell? ⟨W2.heap.size + 1, 0, none⟩ = some (.int .u32 ((a ||| PrefP.bit d : Nat) : Int)) ∧ w'.cell? ⟨W2.heap.size + 1, 1, none⟩ = some (.int .i64 ((d : Int) + 1)))) (by kernel_rfl) ⟨HV4.out.k, HT4.out.cell _ _ _ HX.out 1 (by decide) |>.trans (congrArg some HQ1.out), HB4.out.c0, HB4.out.c1⟩ (fun hHeld => ?_)
    refine wpAnyH_take (i := 0) (oi := { dst := some 35, op := Op.load 70 (Operand.tmp 3), type := 70, pos := "trie.go:161", after := #[], guard := none }) (v := ?_) rfl (by kernel_rfl) (by kernel_rfl) (by kernel_rfl) (fun _ _ _ h => h) (Or.inl ⟨by rfl, ?_⟩) hHeld ?_
    rotate_left
    · (intro w hSw; (try dsimp only at hSw); go_simp; first | done | with_reducible rfl)
    simp only [Act.put, List.setIfInBounds_toArray, List.set_cons_zero, List.set_cons_succ]
    refine wpAnyH_take (i := 1) (oi := { dst := some 36, op := Op.move (Operand.tmp 0), type := 56, pos := "trie.go:161", after := #[], guard := none }) (v := ?_) rfl (by kernel_rfl) (by kernel_rfl) (by kernel_rfl) (fun _ _ _ h => h) (Or.inl ⟨by rfl, ?_⟩) hHeld ?_
    rotate_left
    · (intro w hSw; (try dsimp only at hSw); go_simp; first | done | with_reducible rfl)
    simp only [Act.put, List.setIfInBounds_toArray, List.set_cons_zero, List.set_cons_succ]
    refine wpAnyH_take (i := 2) (oi := { dst := some 37, op := Op.nilCheck (Operand.tmp 36), type := 0, pos := "trie.go:161", after := #[{ on := 1, ground := Ground.data }], guard := none }) (v := ?_) rfl (by kernel_rfl) (by kernel_rfl) (by kernel_rfl) (fun _ _ _ h => h) (Or.inl ⟨by rfl, ?_⟩) hHeld ?_
    rotate_left
    · (intro w hSw; (try dsimp only at hSw); go_simp; first | done | with_reducible rfl)
    simp only [Act.put, List.setIfInBounds_toArray, List.set_cons_zero, List.set_cons_succ]
    refine wpAnyH_take (i := 3) (oi := { dst := some 38, op := Op.fieldAddr 59 (Operand.tmp 37) 0, type := 0, pos := "trie.go:161", after := #[{ on := 2, ground := Ground.data }], guard := none }) (v := ?_) rfl (by kernel_rfl) (by kernel_rfl) (by kernel_rfl) (fun _ _ _ h => h) (Or.inl ⟨by rfl, ?_⟩) hHeld ?_
    rotate_left
    · (intro w hSw; (try dsimp only at hSw); go_simp; first | done | with_reducible rfl)
    simp only [Act.put, List.setIfInBounds_toArray, List.set_cons_zero, List.set_cons_succ]
    refine wpAnyH_take (i := 4) (oi := { dst := some 39, op := Op.indexAddr 57 (Operand.tmp 38) (Operand.const (Value.int IntKind.i64 1)), type := 0, pos := "trie.go:161", after := #[{ on := 3, ground := Ground.data }], guard := none }) (v := ?_) rfl (by kernel_rfl) (by kernel_rfl) (by kernel_rfl) (fun _ _ _ h => h) (Or.inl ⟨by rfl, ?_⟩) hHeld ?_
    rotate_left
    · (intro w hSw; (try dsimp only at hSw); go_simp; first | done | with_reducible rfl)
    simp only [Act.put, List.setIfInBounds_toArray, List.set_cons_zero, List.set_cons_succ]
    refine wpAnyH_take (i := 5) (oi := { dst := some 40, op := Op.load 56 (Operand.tmp 39), type := 56, pos := "trie.go:161", after := #[{ on := 4, ground := Ground.data }], guard := none }) (v := ?_) rfl (by kernel_rfl) (by kernel_rfl) (by kernel_rfl) (fun _ _ _ h => h) (Or.inl ⟨by rfl, ?_⟩) hHeld ?_
    rotate_left
    · (intro w hSw; (try dsimp only at hSw); go_simp; first | done | with_reducible rfl)
    simp only [Act.put, List.setIfInBounds_toArray, List.set_cons_zero, List.set_cons_succ]
    refine wpAnyH_take (i := 6) (oi := { dst := some 41, op := Op.load 32 (Operand.tmp 7), type := 32, pos := "trie.go:161", after := #[], guard := none }) (v := ?_) rfl (by kernel_rfl) (by kernel_rfl) (by kernel_rfl) (fun _ _ _ h => h) (Or.inl ⟨by rfl, ?_⟩) hHeld ?_
    rotate_left
    · (intro w hSw; (try dsimp only at hSw); go_simp; first | done | with_reducible rfl)
    simp only [Act.put, List.setIfInBounds_toArray, List.set_cons_zero, List.set_cons_succ]
    refine wpAnyH_ready (rs := [7]) (by kernel_rfl) (by simp) ?_
    refine AllReadyH.cons (o := { dst := some 42, op := Op.call { callee := Callee.value (Operand.tmp 35), args := #[Operand.tmp 40, Operand.tmp 41], argTypes := #[56, 32] }, type := 0, pos := "trie.go:161", after := #[{ on := 0, ground := Ground.data }, { on := 5, ground := Ground.data }, { on := 6, ground := Ground.data }], guard := none }) rfl (fun K hK => ?_) AllReadyH.nil
    go_simp
    go_at_call 33
    have IHc := IH.out (TrieP.kid a d 1) W3.drew v2 (L1 ++ M.below k a (d + 1)) (TrieP.kid_lt a d 1 ha) (TrieP.kid_ok a d 1 hd HC.out) HT4.out.drew (HV4.out.below (Below.refl _ _).drew) (by have := HLEN2.out; rw [List.length_append]; omega)
    rw [show pt (M (TrieP.kid a d 1) (d + 1)) = .pointer q1 from HQ1.out, show ((d + 1 : Nat) : Int) = (d : Int) + 1 by omega, TrieP.kid1] at IHc
    refine IHc.mono ?_
    rintro e W5 ⟨rfl, v3, hV6, hW6⟩
    clear IHc
    have hlist : L1 ++ M.below k a (d + 1) ++ M.below k (a ||| PrefP.bit d) (d + 1) = L ++ M.below (k + 1) a d := by rw [HUN.out, ← HL1.out, TrieP.kid1]; simp only [List.append_assoc]
    rw [hlist] at hV6
    have HV6 := Lib.hid hV6; have HW6 := Lib.hid (HW4.out.trans ((Went.of (Below.refl _ _).drew v2).trans hW6))
    have HT6 := HT4.out.drew.went hW6 fun b hb => ⟨(HM.out b hb).1, HV4.out.row b (HM.out b hb).2⟩
    have hi := HB4.out.drew1.went hW6 HNB.out HR4.out
    have KK0 : W5.cell? ⟨vb, 0, none⟩ = some (.func (.func 33) #[] #[.pointer (some ⟨nb, 0, none⟩), .pointer (some ⟨vb, 0, none⟩)]) ∧ W5.cell? ⟨x.b, 1, none⟩ = some (.pointer q1) ∧ W5.cell? ⟨W2.heap.size + 1, 0, none⟩ = some (.int .u32 ((a ||| PrefP.bit d : Nat) : Int)) ∧ W5.cell? ⟨W2.heap.size + 1, 1, none⟩ = some (.int .i64 ((d : Int) + 1)) := ⟨hV6.k, (HT6.cell _ _ _ HX.out 1 (by decide)).trans (congrArg some HQ1.out), hi.c0, hi.c1⟩
    clear hHeld hV6 hW6 hlist HT6 hi
    go_wp2_with fail
    refine hK.out _ _ KK0 (fun hHeld => ?_)
    clear hK K
    refine wpAnyH_done (by kernel_rfl) ?_ _
    go_wp2_with fail
    go_end0
    exact ⟨rfl, v3, HV6.out, HW6.out⟩
  · obtain rfl : d = 32 := by omega
    obtain rfl : k = 0 := by omega
    have H := halves_none a ha W1
    rw [show (32 : Int) = ((32 : Nat) : Int) by omega] at H
    refine H.mono ?_
    rintro e W2 ⟨rfl, hb2⟩
    go_wp2_with fail
    refine bodyPost_ret (v := .tuple #[]) (results_none rfl _ _ _) rfl ?_
    have hlist : L1 = L ++ M.below (0 + 1) a 32 := by rw [HUN.out, ← HL1.out]; simp [Tm.below]
    have bX := Below.two hb2 (((Below.refl _ W2).alloc (Nat.le_refl _) (.cells #[.int .u32 0, .int .i64 0] 32)).alloc (by simp) (.cells #[.int .u32 0, .int .i64 0] 32))
    have hv := HV1.out.below bX
    rw [hlist] at hv
    exact ⟨rfl, v1, hv, HW1.out.trans (Went.of bX v1)⟩

set_option maxHeartbeats 4000000 in
set_option maxRecDepth 100000 in
theorem visit_off (base nb vb tb : Nat) (c : Int) (M : Tm) (k a d : Nat) (hk : k + 1 + d = 33) (ha : a < 4294967296) (hc : PrefP.cut a d = a) (x : Nd) (hx : M a d = some x) (hu : x.u = false) (w : World) (v : Value) (L : List Nt)
    (hT : Tri w M tb c) (hV : Vis w base nb vb v L) (hM : ∀ b, M.Bl b → b ≠ nb ∧ b < base) (hlen : L.length + (M.below (k + 1) a d).length ≤ 1000000) (ih : d < 32 → VisOk base nb vb tb c M k (d + 1)) :
    Calls Tryd.prog 33 #[.pointer (some ⟨x.b, 0, none⟩), .agg #[.int .u32 a, .int .i64 d], .pointer (some ⟨nb, 0, none⟩), .pointer (some ⟨vb, 0, none⟩)] w fun e w' => e = .returned (.tuple #[]) ∧ ∃ v', Vis w' base nb vb v' (L ++ M.below (k + 1) a d) ∧ Went nb w w' v v' := by
  have N0 := Box.new w (.int .u32 a) (.int .i64 d) 32
  have B0 : Below w.heap.size w (w.alloc (.cells #[.int .u32 a, .int .i64 d] 32)) := (Below.refl _ _).alloc (Nat.le_refl _) _
  have hl : L.length ≤ 1000000 := by omega
  have c2 : (w.alloc (.cells #[.int .u32 a, .int .i64 d] 32)).cell? ⟨x.b, 2, none⟩ = some (.bool false) := by
    have := (hT.below B0).cell _ _ _ hx 2 (by decide)
    rw [show nc M a d x 2 = .bool x.u from rfl, hu] at this
    exact this
  have V0 := hV.below B0
  have HC := Lib.hid hc
  have HT := Lib.hid hT; have HV := Lib.hid hV; have HM := Lib.hid hM; have HX := Lib.hid hx; have HV0 := Lib.hid V0; have HB0 := Lib.hid B0; have HN0 := Lib.hid N0; have HLEN := Lib.hid hlen
  have hun : M.below (k + 1) a d = M.below k a (d + 1) ++ M.below k (TrieP.kid a d 1) (d + 1) := by rw [Tm.below, hx]; simp [hu]
  have HUN := Lib.hid hun
  have IH0 := Lib.hid ih
  clear hT hV hM hx B0 hlen hc hun ih
  clear V0
  go_enter Tryd.func33, Tryd.ntmps33
  have HV1 := HV0; have HW0 := Lib.hid (Went.of (nb := nb) HB0.out v); have HT1 := Lib.hid (HT.out.below HB0.out); have HBX := HN0
  have c0 := HBX.out.c0
  have c1 := HBX.out.c1
  clear HV0 HB0 HN0 N0
  go_wp2_with fail
  generalize w.alloc (.cells #[.int .u32 a, .int .i64 d] 32) = W1 at *
  clear c0 c1 c2
  obtain ⟨L1, hL1⟩ : ∃ L1, L = L1 := ⟨L, rfl⟩
  obtain ⟨v1, hv1⟩ : ∃ v1, v = v1 := ⟨v, rfl⟩
  rw [hL1, hv1] at HV1
  have HW1 : Hid (Went nb w W1 v v1) := Lib.hid (by have := HW0.out; rwa [hv1] at this ⊢)
  have HL1 := Lib.hid hL1
  have HLEN2 : Hid (L1.length + ((M.below k a (d + 1)).length + (M.below k (TrieP.kid a d 1) (d + 1)).length) ≤ 1000000) := Lib.hid (by
    have := HLEN.out
    rw [HUN.out, HL1.out] at this
    simp only [List.length_append] at this
    omega)
  clear hL1 hv1 HW0
  by_cases hd : d < 32
  · have IH := Lib.hid (IH0.out hd)
    refine (halves_yes a d ha (by omega) HC.out _).mono ?_
    rintro e W2 ⟨rfl, hb2⟩
    go_wp2_with fail
    generalize hX : (W2.alloc (.cells #[.int .u32 a, .int .i64 ((d : Int) + 1)] 32)).alloc (.cells #[.int .u32 ((a ||| PrefP.bit d : Nat) : Int), .int .i64 ((d : Int) + 1)] 32) = X
    obtain ⟨bl, bh, bB⟩ : Box X W2.heap.size (.int .u32 a) (.int .i64 ((d : Int) + 1)) ∧ Box X (W2.heap.size + 1) (.int .u32 ((a ||| PrefP.bit d : Nat) : Int)) (.int .i64 ((d : Int) + 1)) ∧ Below W2.heap.size W2 X := by
      rw [← hX]; exact box2 (Below.refl _ _)
    clear hX
    have bX := Below.two hb2 bB
    have sX := hb2.size
    clear hb2 bB
    have HV3 := Lib.hid (HV1.out.below bX); have HT3 := Lib.hid (HT1.out.below bX); have HB3 := Lib.hid bl; have HH3 := Lib.hid bh; have HW3 := Lib.hid (HW1.out.trans (Went.of bX v1))
    clear bl bh bX
    obtain ⟨q0, hq0⟩ := pt_pointer (M a (d + 1))
    obtain ⟨q1, hq1⟩ := pt_pointer (M (TrieP.kid a d 1) (d + 1))
    have HQ0 := Lib.hid (show nc M a d x 0 = .pointer q0 from hq0); have HQ1 := Lib.hid (show nc M a d x 1 = .pointer q1 from hq1)
    clear hq0 hq1
    refine wp_region_held_drew (S := (fun w' => w'.cell? ⟨vb, 0, none⟩ = some (.func (.func 33) #[] #[.pointer (some ⟨nb, 0, none⟩), .pointer (some ⟨vb, 0, none⟩)]) ∧ w'.cell? ⟨x.b, 0, none⟩ = some (.pointer q0) ∧ w'.cell? ⟨W2.heap.size, 0, none⟩ = some (.int .u32 (a : Int)) ∧ w'.cell? ⟨W2.heap.size, 1, none⟩ = some (.int .i64 ((d : Int) + 1)))) (by kernel_rfl) ⟨HV3.out.k, HT3.out.cell _ _ _ HX.out 0 (by decide) |>.trans (congrArg some HQ0.out), HB3.out.c0, HB3.out.c1⟩ (fun hHeld => ?_)
    refine wpAnyH_take (i := 0) (oi := { dst := some 27, op := Op.load 70 (Operand.tmp 3), type := 70, pos := "trie.go:160", after := #[], guard := none }) (v := ?_) rfl (by kernel_rfl) (by kernel_rfl) (by kernel_rfl) (fun _ _ _ h => h) (Or.inl ⟨by rfl, ?_⟩) hHeld ?_
    rotate_left
    · (intro w hSw; (try dsimp only at hSw); go_simp; first | done | with_reducible rfl)
    simp only [Act.put, List.setIfInBounds_toArray, List.set_cons_zero, List.set_cons_succ]
    refine wpAnyH_take (i := 1) (oi := { dst := some 28, op := Op.move (Operand.tmp 0), type := 56, pos := "trie.go:160", after := #[], guard := none }) (v := ?_) rfl (by kernel_rfl) (by kernel_rfl) (by kernel_rfl) (fun _ _ _ h => h) (Or.inl ⟨by rfl, ?_⟩) hHeld ?_
    rotate_left
    · (intro w hSw; (try dsimp only at hSw); go_simp; first | done | with_reducible rfl)
    simp only [Act.put, List.setIfInBounds_toArray, List.set_cons_zero, List.set_cons_succ]
    refine wpAnyH_take (i := 2) (oi := { dst := some 29, op := Op.nilCheck (Operand.tmp 28), type := 0, pos := "trie.go:160", after := #[{ on := 1, ground := Ground.data }], guard := none }) (v := ?_) rfl (by kernel_rfl) (by kernel_rfl) (by kernel_rfl) (fun _ _ _ h => h) (Or.inl ⟨by rfl, ?_⟩) hHeld ?_
    rotate_left
    · (intro w hSw; (try dsimp only at hSw); go_simp; first | done | with_reducible rfl)
    simp only [Act.put, List.setIfInBounds_toArray, List.set_cons_zero, List.set_cons_succ]
    refine wpAnyH_take (i := 3) (oi := { dst := some 30, op := Op.fieldAddr 59 (Operand.tmp 29) 0, type := 0, pos := "trie.go:160", after := #[{ on := 2, ground := Ground.data }], guard := none }) (v := ?_) rfl (by kernel_rfl) (by kernel_rfl) (by kernel_rfl) (fun _ _ _ h => h) (Or.inl ⟨by rfl, ?_⟩) hHeld ?_
    rotate_left
    · (intro w hSw; (try dsimp only at hSw); go_simp; first | done | with_reducible rfl)
    simp only [Act.put, List.setIfInBounds_toArray, List.set_cons_zero, List.set_cons_succ]
    refine wpAnyH_take (i := 4) (oi := { dst := some 31, op := Op.indexAddr 57 (Operand.tmp 30) (Operand.const (Value.int IntKind.i64 0)), type := 0, pos := "trie.go:160", after := #[{ on := 3, ground := Ground.data }], guard := none }) (v := ?_) rfl (by kernel_rfl) (by kernel_rfl) (by kernel_rfl) (fun _ _ _ h => h) (Or.inl ⟨by rfl, ?_⟩) hHeld ?_
    rotate_left
    · (intro w hSw; (try dsimp only at hSw); go_simp; first | done | with_reducible rfl)
    simp only [Act.put, List.setIfInBounds_toArray, List.set_cons_zero, List.set_cons_succ]
    refine wpAnyH_take (i := 5) (oi := { dst := some 32, op := Op.load 56 (Operand.tmp 31), type := 56, pos := "trie.go:160", after := #[{ on := 4, ground := Ground.data }], guard := none }) (v := ?_) rfl (by kernel_rfl) (by kernel_rfl) (by kernel_rfl) (fun _ _ _ h => h) (Or.inl ⟨by rfl, ?_⟩) hHeld ?_
    rotate_left
    · (intro w hSw; (try dsimp only at hSw); go_simp; first | done | with_reducible rfl)
    simp only [Act.put, List.setIfInBounds_toArray, List.set_cons_zero, List.set_cons_succ]
    refine wpAnyH_take (i := 6) (oi := { dst := some 33, op := Op.load 32 (Operand.tmp 6), type := 32, pos := "trie.go:160", after := #[], guard := none }) (v := ?_) rfl (by kernel_rfl) (by kernel_rfl) (by kernel_rfl) (fun _ _ _ h => h) (Or.inl ⟨by rfl, ?_⟩) hHeld ?_
    rotate_left
    · (intro w hSw; (try dsimp only at hSw); go_simp; first | done | with_reducible rfl)
    simp only [Act.put, List.setIfInBounds_toArray, List.set_cons_zero, List.set_cons_succ]
    refine wpAnyH_ready (rs := [7]) (by kernel_rfl) (by simp) ?_
    refine AllReadyH.cons (o := { dst := some 34, op := Op.call { callee := Callee.value (Operand.tmp 27), args := #[Operand.tmp 32, Operand.tmp 33], argTypes := #[56, 32] }, type := 0, pos := "trie.go:160", after := #[{ on := 0, ground := Ground.data }, { on := 5, ground := Ground.data }, { on := 6, ground := Ground.data }], guard := none }) rfl (fun K hK => ?_) AllReadyH.nil
    go_simp
    go_at_call 33
    have IHc := IH.out a X.drew v1 L1 ha (TrieP.kid_ok a d 0 hd HC.out) HT3.out.drew (HV3.out.below (Below.refl _ _).drew) (by have := HLEN2.out; omega)
    rw [show pt (M a (d + 1)) = .pointer q0 from HQ0.out, show ((d + 1 : Nat) : Int) = (d : Int) + 1 by omega] at IHc
    refine IHc.mono ?_
    rintro e W3 ⟨rfl, v2, hV4, hW4⟩
    clear IHc
    have hrow : ∀ b, W1.heap.size ≤ b → some b ≠ v1.ownBlock := by
      intro b hb e
      have := (World.ownsRow.lt HV1.out.own b e.symm).2
      omega
    have hnb : nb < W1.heap.size := Nat.lt_of_lt_of_le HV1.out.nlt HV1.out.le
    have HV4 := Lib.hid hV4; have HW4 := Lib.hid (HW3.out.trans ((Went.of (Below.refl _ _).drew v1).trans hW4))
    have HT4 := Lib.hid (HT3.out.drew.went hW4 fun b hb => ⟨(HM.out b hb).1, HV3.out.row b (HM.out b hb).2⟩)
    have lo := HB3.out.drew1.went hW4 (by omega) (hrow _ sX)
    have HB4 := Lib.hid (HH3.out.drew1.went hW4 (by omega) (hrow _ (by omega)))
    have KK0 : W3.cell? ⟨vb, 0, none⟩ = some (.func (.func 33) #[] #[.pointer (some ⟨nb, 0, none⟩), .pointer (some ⟨vb, 0, none⟩)]) ∧ W3.cell? ⟨x.b, 0, none⟩ = some (.pointer q0) ∧ W3.cell? ⟨W2.heap.size, 0, none⟩ = some (.int .u32 (a : Int)) ∧ W3.cell? ⟨W2.heap.size, 1, none⟩ = some (.int .i64 ((d : Int) + 1)) := ⟨hV4.k, (HT4.out.cell _ _ _ HX.out 0 (by decide)).trans (congrArg some HQ0.out), lo.c0, lo.c1⟩
    have HR4 := Lib.hid (show some (W2.heap.size + 1) ≠ v2.ownBlock from by
      rcases hW4.own with e | ⟨g, e, hg⟩
      · rw [e]; exact hrow _ (by omega)
      · rw [e]
        intro e2
        have := Option.some.inj e2
        have := HH3.out.lt
        have : X.heap.size ≤ g := hg
        omega)
    have HNB := Lib.hid (show W2.heap.size + 1 ≠ nb by omega)
    clear hHeld hV4 hW4 lo hrow hnb
    go_wp2_with fail
    refine hK.out _ _ KK0 (fun hHeld => ?_)
    clear hK K
    refine wpAnyH_done (by kernel_rfl) ?_ _
    go_wp2_with fail
    clear hHeld
    refine wp_region_held_drew (S := (fun w' => w'.cell? ⟨vb, 0, none⟩ = some (.func (.func 33) #[] #[.pointer (some ⟨nb, 0, none⟩), .pointer (some ⟨vb, 0, none⟩)]) ∧ w'.cell? ⟨x.b, 1, none⟩ = some (.pointer q1) ∧ w'.cell? ⟨W2.heap.size + 1, 0, none⟩ = some (.int .u32 ((a ||| PrefP.bit d : Nat) : Int)) ∧ w'.cell? ⟨W2.heap.size + 1, 1, none⟩ = some (.int .i64 ((d : Int) + 1)))) (by kernel_rfl) ⟨HV4.out.k, HT4.out.cell _ _ _ HX.out 1 (by decide) |>.trans (congrArg some HQ1.out), HB4.out.c0, HB4.out.c1⟩ (fun hHeld => ?_)
    refine wpAnyH_take (i := 0) (oi := { dst := some 35, op := Op.load 70 (Operand.tmp 3), type := 70, pos := "trie.go:161", after := #[], guard := none }) (v := ?_) rfl (by kernel_rfl) (by kernel_rfl) (by kernel_rfl) (fun _ _ _ h => h) (Or.inl ⟨by rfl, ?_⟩) hHeld ?_
    rotate_left
    · (intro w hSw; (try dsimp only at hSw); go_simp; first | done | with_reducible rfl)
    simp only [Act.put, List.setIfInBounds_toArray, List.set_cons_zero, List.set_cons_succ]
    refine wpAnyH_take (i := 1) (oi := { dst := some 36, op := Op.move (Operand.tmp 0), type := 56, pos := "trie.go:161", after := #[], guard := none }) (v := ?_) rfl (by kernel_rfl) (by kernel_rfl) (by kernel_rfl) (fun _ _ _ h => h) (Or.inl ⟨by rfl, ?_⟩) hHeld ?_
    rotate_left
    · (intro w hSw; (try dsimp only at hSw); go_simp; first | done | with_reducible rfl)
    simp only [Act.put, List.setIfInBounds_toArray, List.set_cons_zero, List.set_cons_succ]
    refine wpAnyH_take (i := 2) (oi := { dst := some 37, op := Op.nilCheck (Operand.tmp 36), type := 0, pos := "trie.go:161", after := #[{ on := 1, ground := Ground.data }], guard := none }) (v := ?_) rfl (by kernel_rfl) (by kernel_rfl) (by kernel_rfl) (fun _ _ _ h => h) (Or.inl ⟨by rfl, ?_⟩) hHeld ?_
    rotate_left
    · (intro w hSw; (try dsimp only at hSw); go_simp; first | done | with_reducible rfl)
    simp only [Act.put, List.setIfInBounds_toArray, List.set_cons_zero, List.set_cons_succ]
    refine wpAnyH_take (i := 3) (oi := { dst := some 38, op := Op.fieldAddr 59 (Operand.tmp 37) 0, type := 0, pos := "trie.go:161", after := #[{ on := 2, ground := Ground.data }], guard := none }) (v := ?_) rfl (by kernel_rfl) (by kernel_rfl) (by kernel_rfl) (fun _ _ _ h => h) (Or.inl ⟨by rfl, ?_⟩) hHeld ?_
    rotate_left
    · (intro w hSw; (try dsimp only at hSw); go_simp; first | done | with_reducible rfl)
    simp only [Act.put, List.setIfInBounds_toArray, List.set_cons_zero, List.set_cons_succ]
    refine wpAnyH_take (i := 4) (oi := { dst := some 39, op := Op.indexAddr 57 (Operand.tmp 38) (Operand.const (Value.int IntKind.i64 1)), type := 0, pos := "trie.go:161", after := #[{ on := 3, ground := Ground.data }], guard := none }) (v := ?_) rfl (by kernel_rfl) (by kernel_rfl) (by kernel_rfl) (fun _ _ _ h => h) (Or.inl ⟨by rfl, ?_⟩) hHeld ?_
    rotate_left
    · (intro w hSw; (try dsimp only at hSw); go_simp; first | done | with_reducible rfl)
    simp only [Act.put, List.setIfInBounds_toArray, List.set_cons_zero, List.set_cons_succ]
    refine wpAnyH_take (i := 5) (oi := { dst := some 40, op := Op.load 56 (Operand.tmp 39), type := 56, pos := "trie.go:161", after := #[{ on := 4, ground := Ground.data }], guard := none }) (v := ?_) rfl (by kernel_rfl) (by kernel_rfl) (by kernel_rfl) (fun _ _ _ h => h) (Or.inl ⟨by rfl, ?_⟩) hHeld ?_
    rotate_left
    · (intro w hSw; (try dsimp only at hSw); go_simp; first | done | with_reducible rfl)
    simp only [Act.put, List.setIfInBounds_toArray, List.set_cons_zero, List.set_cons_succ]
    refine wpAnyH_take (i := 6) (oi := { dst := some 41, op := Op.load 32 (Operand.tmp 7), type := 32, pos := "trie.go:161", after := #[], guard := none }) (v := ?_) rfl (by kernel_rfl) (by kernel_rfl) (by kernel_rfl) (fun _ _ _ h => h) (Or.inl ⟨by rfl, ?_⟩) hHeld ?_
    rotate_left
    · (intro w hSw; (try dsimp only at hSw); go_simp; first | done | with_reducible rfl)
    simp only [Act.put, List.setIfInBounds_toArray, List.set_cons_zero, List.set_cons_succ]
    refine wpAnyH_ready (rs := [7]) (by kernel_rfl) (by simp) ?_
    refine AllReadyH.cons (o := { dst := some 42, op := Op.call { callee := Callee.value (Operand.tmp 35), args := #[Operand.tmp 40, Operand.tmp 41], argTypes := #[56, 32] }, type := 0, pos := "trie.go:161", after := #[{ on := 0, ground := Ground.data }, { on := 5, ground := Ground.data }, { on := 6, ground := Ground.data }], guard := none }) rfl (fun K hK => ?_) AllReadyH.nil
    go_simp
    go_at_call 33
    have IHc := IH.out (TrieP.kid a d 1) W3.drew v2 (L1 ++ M.below k a (d + 1)) (TrieP.kid_lt a d 1 ha) (TrieP.kid_ok a d 1 hd HC.out) HT4.out.drew (HV4.out.below (Below.refl _ _).drew) (by have := HLEN2.out; rw [List.length_append]; omega)
    rw [show pt (M (TrieP.kid a d 1) (d + 1)) = .pointer q1 from HQ1.out, show ((d + 1 : Nat) : Int) = (d : Int) + 1 by omega, TrieP.kid1] at IHc
    refine IHc.mono ?_
    rintro e W5 ⟨rfl, v3, hV6, hW6⟩
    clear IHc
    have hlist : L1 ++ M.below k a (d + 1) ++ M.below k (a ||| PrefP.bit d) (d + 1) = L ++ M.below (k + 1) a d := by rw [HUN.out, ← HL1.out, TrieP.kid1]; simp only [List.append_assoc]
    rw [hlist] at hV6
    have HV6 := Lib.hid hV6; have HW6 := Lib.hid (HW4.out.trans ((Went.of (Below.refl _ _).drew v2).trans hW6))
    have HT6 := HT4.out.drew.went hW6 fun b hb => ⟨(HM.out b hb).1, HV4.out.row b (HM.out b hb).2⟩
    have hi := HB4.out.drew1.went hW6 HNB.out HR4.out
    have KK0 : W5.cell? ⟨vb, 0, none⟩ = some (.func (.func 33) #[] #[.pointer (some ⟨nb, 0, none⟩), .pointer (some ⟨vb, 0, none⟩)]) ∧ W5.cell? ⟨x.b, 1, none⟩ = some (.pointer q1) ∧ W5.cell? ⟨W2.heap.size + 1, 0, none⟩ = some (.int .u32 ((a ||| PrefP.bit d : Nat) : Int)) ∧ W5.cell? ⟨W2.heap.size + 1, 1, none⟩ = some (.int .i64 ((d : Int) + 1)) := ⟨hV6.k, (HT6.cell _ _ _ HX.out 1 (by decide)).trans (congrArg some HQ1.out), hi.c0, hi.c1⟩
    clear hHeld hV6 hW6 hlist HT6 hi
    go_wp2_with fail
    refine hK.out _ _ KK0 (fun hHeld => ?_)
    clear hK K
    refine wpAnyH_done (by kernel_rfl) ?_ _
    go_wp2_with fail
    go_end0
    exact ⟨rfl, v3, HV6.out, HW6.out⟩
  · obtain rfl : d = 32 := by omega
    obtain rfl : k = 0 := by omega
    have H := halves_none a ha W1
    rw [show (32 : Int) = ((32 : Nat) : Int) by omega] at H
    refine H.mono ?_
    rintro e W2 ⟨rfl, hb2⟩
    go_wp2_with fail
    refine bodyPost_ret (v := .tuple #[]) (results_none rfl _ _ _) rfl ?_
    have hlist : L1 = L ++ M.below (0 + 1) a 32 := by rw [HUN.out, ← HL1.out]; simp [Tm.below]
    have bX := Below.two hb2 (((Below.refl _ W2).alloc (Nat.le_refl _) (.cells #[.int .u32 0, .int .i64 0] 32)).alloc (by simp) (.cells #[.int .u32 0, .int .i64 0] 32))
    have hv := HV1.out.below bX
    rw [hlist] at hv
    exact ⟨rfl, v1, hv, HW1.out.trans (Went.of bX v1)⟩

set_option maxHeartbeats 1000000 in
set_option maxRecDepth 100000 in
theorem visit_none (a : Nat) (d : Int) (nb vb : Nat) (w : World) :
    Calls Tryd.prog 33 #[.pointer none, .agg #[.int .u32 a, .int .i64 d], .pointer (some ⟨nb, 0, none⟩), .pointer (some ⟨vb, 0, none⟩)] w fun e w' => e = .returned (.tuple #[]) ∧ Below w.heap.size w w' := by
  go_enter Tryd.func33, Tryd.ntmps33
  go_wp2_with fail
  refine bodyPost_ret (v := .tuple #[]) (results_none rfl _ _ _) rfl ?_
  exact ⟨rfl, (Below.refl _ _).alloc (Nat.le_refl _) _⟩
theorem visit_any (base nb vb tb : Nat) (c : Int) (M : Tm) (hM : ∀ b, M.Bl b → b ≠ nb ∧ b < base) : ∀ (k d : Nat), k + 1 + d = 33 → VisOk base nb vb tb c M (k + 1) d := by
  intro k
  induction k with
  | zero =>
    intro d hk a w v L ha hc hT hV hlen
    cases hx : M a d with
    | none =>
      refine (visit_none a d nb vb w).mono ?_
      rintro e w' ⟨rfl, hb⟩
      exact ⟨rfl, v, by rw [Tm.below, hx, List.append_nil]; exact hV.below hb, Went.of hb v⟩
    | some x =>
      cases hu : x.u with
      | true => exact visit_on base nb vb tb c M 0 a d hk ha hc x hx hu w v L hT hV hM hlen (fun h => by omega)
      | false => exact visit_off base nb vb tb c M 0 a d hk ha hc x hx hu w v L hT hV hM hlen (fun h => by omega)
  | succ k ih =>
    intro d hk a w v L ha hc hT hV hlen
    cases hx : M a d with
    | none =>
      refine (visit_none a d nb vb w).mono ?_
      rintro e w' ⟨rfl, hb⟩
      exact ⟨rfl, v, by rw [Tm.below, hx, List.append_nil]; exact hV.below hb, Went.of hb v⟩
    | some x =>
      cases hu : x.u with
      | true => exact visit_on base nb vb tb c M (k + 1) a d hk ha hc x hx hu w v L hT hV hM hlen (fun h => ih (d + 1) (by omega))
      | false => exact visit_off base nb vb tb c M (k + 1) a d hk ha hc x hx hu w v L hT hV hM hlen (fun h => ih (d + 1) (by omega))
end Go.Proofs.YtbdmfcnlfmnmdaaDoor
