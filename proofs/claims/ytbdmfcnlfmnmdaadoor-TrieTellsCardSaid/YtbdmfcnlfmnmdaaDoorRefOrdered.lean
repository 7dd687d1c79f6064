/-
  The document's own answer Ordered, at every list of networks; what lay in memory stays.
-/
import Derived.Test.YtbdmfcnlfmnmdaaDoorNetApp
import Derived.Test.YtbdmfcnlfmnmdaaDoorRefLess
import Derived.Test.YtbdmfcnlfmnmdaaDoorPrefErr
import Derived.Lib.SliceRun
import Derived.Lib.Walk
import Derived.Deep.RegionHeld3
namespace Go.Proofs.YtbdmfcnlfmnmdaaDoor
open Go.RowKit

/-- One put into its place. -/
def insN (c : List Nt) (x : Nt) : List Nt := c.takeWhile (fun y => Nt.lt y x) ++ x :: c.dropWhile (fun y => Nt.lt y x)
def ordN (l : List Nt) : List Nt := l.foldl insN []
theorem insN_len (c : List Nt) (x : Nt) : (insN c x).length = c.length + 1 := by
  unfold insN
  have h := congrArg List.length (List.takeWhile_append_dropWhile (p := fun y => Nt.lt y x) (l := c))
  rw [List.length_append] at h
  rw [List.length_append, List.length_cons]; omega
theorem ordN_take (l : List Nt) (k : Nat) (h : k < l.length) : ordN (l.take (k + 1)) = insN (ordN (l.take k)) l[k]! := by
  unfold ordN
  rw [List.take_add_one, List.getElem?_eq_getElem h, getElem!_pos l k h, List.foldl_append]; rfl
theorem ordN_len (l : List Nt) : ∀ k, k ≤ l.length → (ordN (l.take k)).length = k
  | 0, _ => by simp [ordN]
  | k + 1, h => by rw [ordN_take l k (by omega), insN_len, ordN_len l k (by omega)]
/-- Where it is put. -/
theorem insN_at (c : List Nt) (x : Nt) (k : Nat) (hk : k ≤ c.length) (h1 : ∀ j, j < k → Nt.lt c[j]! x = true) (h2 : k < c.length → Nt.lt c[k]! x = false) : insN c x = c.take k ++ x :: c.drop k := by
  unfold insN
  induction c generalizing k with
  | nil => simp at hk; subst hk; simp
  | cons y r ih =>
    cases k with
    | zero =>
      have := h2 (by simp)
      simp only [List.getElem!_cons_zero] at this
      simp [this]
    | succ k =>
      have h0 := h1 0 (by omega)
      simp only [List.getElem!_cons_zero] at h0
      simp only [List.takeWhile_cons, List.dropWhile_cons, h0, if_true, List.take_succ_cons, List.drop_succ_cons, List.cons_append]
      rw [ih k (by simpa using hk) (fun j hj => by have := h1 (j + 1) (by omega); simpa using this) (fun hk' => by have := h2 (by simpa using hk'); simpa using this)]
theorem heldOrd {w0 w w1 : World} {g b i j k m : Nat} {u v x y : Value} (h : w.cell? ⟨g, i, none⟩ = some u ∧ w.cell? ⟨g, j, none⟩ = some v ∧ w.cell? ⟨b, k, none⟩ = some x ∧ w.cell? ⟨b, m, none⟩ = some y ∧ Below w0.heap.size w0 w) (hb : Below w.heap.size w w1) :
    w1.cell? ⟨g, i, none⟩ = some u ∧ w1.cell? ⟨g, j, none⟩ = some v ∧ w1.cell? ⟨b, k, none⟩ = some x ∧ w1.cell? ⟨b, m, none⟩ = some y ∧ Below w0.heap.size w0 w1 := by
  obtain ⟨h1, h2, h3, h4, h5⟩ := h
  have l1 : g < w.heap.size := World.block_lt_of_cell? _ _ h1
  have l2 : b < w.heap.size := World.block_lt_of_cell? _ _ h3
  exact ⟨(hb.cell (p := ⟨g, i, none⟩) l1).trans h1, (hb.cell (p := ⟨g, j, none⟩) l1).trans h2, (hb.cell (p := ⟨b, k, none⟩) l2).trans h3, (hb.cell (p := ⟨b, m, none⟩) l2).trans h4, Below.two h5 hb⟩
/-- A list that is read, appended to one that the call owns. -/
theorem wp_append_arg {o : Oper} {a : Act} {K : Act → World → Prop} {Q : Exit → Act → World → Prop} {w : World} (s x : Operand) (ho : o.op = .call { callee := .builtin .append, args := #[s, x], argTypes := #[22, 22] })
    (base : Nat) (v0 v1 : Value) (l0 l1 : List Nt) (hs : a.eval s = v0) (hx : a.eval x = v1) (h0 : Own w base v0 l0) (h1 : ∃ b off c, v1 = .slice (some ⟨b, off, none⟩) l1.length c ∧ Seen w b off l1) (hlen : (l0.length + l1.length) * 16 ≤ 140737488355328) (hbase : base ≤ w.heap.size)
    (h : ∀ v' w', Own w' base v' (l0 ++ l1) → Below base w w' → K (a.put o.dst v') w') : o.wp Tryd.prog a w K Q := by
  have hi : Tryd.prog.info? 32 = some infoN := by kernel_rfl
  obtain ⟨z, hz⟩ : ∃ z, infoN.zero = some z ∧ z.cells.size = 2 := ⟨.agg #[.int .u32 0, .int .i64 0], by kernel_rfl, by kernel_rfl⟩
  have hby : infoN.bytes = 16 := by kernel_rfl
  obtain ⟨b, off, c, rfl, hs1⟩ := h1
  refine wp_append_own _ s x 22 ho base 32 infoN z 2 16 (by kernel_rfl) hi hz.1 infoN_size hby hz.2 (by omega) v0 l0.length (cellsL l0) hs h0 ⟨b, off, none⟩ l1.length c (cellsL l1) hx (cellsL_len l1) ?_ (cellsL_one l1) (by simp only [maxLen]; omega) hlen hbase ?_
  · intro j u hu
    rw [Addr.add_lit]; exact hs1.cells j u hu
  · intro v' w' hown hgrow _
    refine h v' w' ?_ ((Below.refl _ w).grown hgrow hbase ?_)
    · unfold Own
      rw [List.length_append, cellsL_app]
      exact hown
    · intro q hq
      exact (World.ownsRow.lt h0 q hq).1
/-- Nothing appended. -/
theorem wp_append_none {o : Oper} {a : Act} {K : Act → World → Prop} {Q : Exit → Act → World → Prop} {w : World} (s x : Operand) (ho : o.op = .call { callee := .builtin .append, args := #[s, x], argTypes := #[22, 22] })
    (base : Nat) (v0 : Value) (l0 : List Nt) (hs : a.eval s = v0) (hx : a.eval x = .slice none 0 0) (h0 : Own w base v0 l0) (h : K (a.put o.dst v0) w) : o.wp Tryd.prog a w K Q := by
  have hi : Tryd.prog.info? 32 = some infoN := by kernel_rfl
  have hrun := run_append_owned_none (P := Tryd.prog) (w := w) base 22 o.type 32 infoN 2 (by kernel_rfl) hi v0 l0.length (cellsL l0) h0
  unfold Oper.wp execOp
  simp only [ho, resolve, invoke, builtin, Sem.run_bind, Sem.run_pure, Result.andThen_ok, List.map_toArray, List.map_cons, List.map_nil, hs, hx, hrun]
  exact h
theorem own_some {w : World} {base : Nat} {v : Value} {l : List Nt} (h : Own w base v l) (hl : 0 < l.length) : ∃ g cap, v = .slice (some ⟨g, 0, none⟩) l.length cap ∧ l.length ≤ cap ∧ g < w.heap.size ∧ Seen w g 0 l := by
  obtain ⟨_, ⟨_, hn⟩ | ⟨g, cap, cur, hv, hb, hg, hcap, _, _, hc⟩⟩ := h
  · omega
  · exact ⟨g, cap, hv, hcap, (Array.getElem?_eq_some_iff.1 hg).1, Own.seen hg hc hb hcap⟩
theorem grown_below0 {w w' : World} {r : Option Nat} {n : Nat} (hg : w.grownBy w' r) (hn : n ≤ w.heap.size) (hr : ∀ q, r = some q → n ≤ q) : Below n w w' := (Below.refl n w).grown hg hn hr
theorem Seen.take {w : World} {b off : Nat} {l : List Nt} (h : Seen w b off l) (k : Nat) (hk : k ≤ l.length) : Seen w b off (l.take k) := by
  have hl : (l.take k).length = k := by rw [List.length_take]; omega
  refine ⟨fun i hi => ?_, fun i hi => ?_⟩
  all_goals
    rw [hl] at hi
    have e : (l.take k)[i]! = l[i]! := by
      rw [getElem!_pos (l.take k) i (by rw [hl]; exact hi), getElem!_pos l i (by omega)]; simp
    rw [e]
  · exact h.c0 i (by omega)
  · exact h.c1 i (by omega)
theorem Seen.drop {w : World} {b off : Nat} {l : List Nt} (h : Seen w b off l) (k : Nat) : Seen w b (off + k * 2) (l.drop k) := by
  refine ⟨fun i hi => ?_, fun i hi => ?_⟩
  all_goals
    rw [List.length_drop] at hi
    have e : (l.drop k)[i]! = l[k + i]! := by
      rw [getElem!_pos (l.drop k) i (by rw [List.length_drop]; omega), getElem!_pos l (k + i) (by omega)]; simp
    rw [e]
  · rw [show off + k * 2 + i * 2 = off + (k + i) * 2 by omega]; exact h.c0 (k + i) (by omega)
  · rw [show off + k * 2 + i * 2 + 1 = off + (k + i) * 2 + 1 by omega]; exact h.c1 (k + i) (by omega)

set_option maxHeartbeats 4000000 in
set_option maxRecDepth 100000 in
theorem ordered_any (w : World) (v : Value) (l : List Nt) (hl : l.length ≤ 1000000) (h : Arg w v l) :
    Calls Tryd.prog 20 #[v] w fun e w' => ∃ v', e = .returned v' ∧ Own w' w.heap.size v' (ordN l) ∧ Below w.heap.size w w' := by
  obtain ⟨p, c, rfl, h⟩ := h
  have HA := Lib.hid h; clear h
  go_enter Tryd.func20, Tryd.ntmps20
  go_wp2_with fail
  go_loopw [3, 4] (fun s3 s4 wr => ∃ (i : Nat), s4 = .int .i64 i ∧ i ≤ l.length ∧ Hid ((i = 0 ∧ s3 = .slice none 0 0) ∨ ∃ g cap, s3 = .slice (some ⟨g, 0, none⟩) i cap ∧ i ≤ cap ∧ g < wr.heap.size ∧ Seen wr g 0 (ordN (l.take i))) ∧ Hid (Own wr w.heap.size s3 (ordN (l.take i))) ∧ Hid (Below w.heap.size w wr)) (fun _ s4 _ => l.length - (RowKit.intOf s4).toNat)
  case atStart => exact ⟨0, rfl, Nat.zero_le _, Lib.hid (Or.inl ⟨rfl, rfl⟩), Lib.hid (World.ownsRow_nil _ _ _ _), Lib.hid (Below.refl _ _)⟩
  case round =>
    obtain ⟨i, rfl, hi, HC, HO, HB⟩ := hrel
    by_cases hin : i < l.length
    · obtain ⟨b, off, hp, hlt, hs⟩ : ∃ b off, p = some ⟨b, off, none⟩ ∧ b < w.heap.size ∧ Seen w b off l := by
        rcases HA.out with h | h
        · rw [h] at hin; simp at hin
        · exact h
      subst hp
      obtain ⟨x, hx⟩ : ∃ x, l[i]! = x := ⟨_, rfl⟩
      have HX : Hid (∀ W, Below w.heap.size w W → W.cell? ⟨b, off + i * 2, none⟩ = some (.int .u32 (x.1 : Int)) ∧ W.cell? ⟨b, off + i * 2 + 1, none⟩ = some (.int .i64 x.2)) := Lib.hid fun W hW => by
        have e0 := (hs.below hW hlt).c0 i hin
        have e1 := (hs.below hW hlt).c1 i hin
        rw [hx] at e0 e1
        exact ⟨e0, e1⟩
      have HT := Lib.hid (show ordN (l.take (i + 1)) = insN (ordN (l.take i)) x by rw [ordN_take l i hin, hx])
      have hlen := ordN_len l i (by omega)
      clear hs hx
      rcases HC.out with ⟨h0, h3⟩ | ⟨g, cap, h3, hcap, hg, hsg⟩
      · -- the first one
        subst h0 h3
        clear HC
        go_wp2_with fail
        refine wp_loop_rounds 1 ?_
        rw [rounds_succ]
        go_wp2_with fail
        refine wp_region_held_drew (S := (fun w' => Below wr.heap.size wr w')) (by kernel_rfl) ((Below.refl _ _).drew) (fun hHeld => ?_)
        refine wpAnyH_take (i := 0) (oi := { dst := some 13, op := Op.move (Operand.tmp 5), type := 3, pos := "nets.go:194", after := #[], guard := none }) (v := ?_) rfl (by kernel_rfl) (by kernel_rfl) (by kernel_rfl) (fun _ _ _ h => h) (Or.inl ⟨by rfl, ?_⟩) hHeld ?_
        rotate_left
        · (intro w hSw; (try dsimp only at hSw); go_simp; first | done | with_reducible rfl)
        simp only [Act.put, List.setIfInBounds_toArray, List.set_cons_zero, List.set_cons_succ]
        refine wpAnyH_take (i := 1) (oi := { dst := some 14, op := Op.move (Operand.tmp 3), type := 22, pos := "nets.go:194", after := #[], guard := none }) (v := ?_) rfl (by kernel_rfl) (by kernel_rfl) (by kernel_rfl) (fun _ _ _ h => h) (Or.inl ⟨by rfl, ?_⟩) hHeld ?_
        rotate_left
        · (intro w hSw; (try dsimp only at hSw); go_simp; first | done | with_reducible rfl)
        simp only [Act.put, List.setIfInBounds_toArray, List.set_cons_zero, List.set_cons_succ]
        refine wpAnyH_take (i := 2) (oi := { dst := some 15, op := Op.call { callee := Callee.builtin Builtin.len, args := #[Operand.tmp 14], argTypes := #[22] }, type := 3, pos := "nets.go:194", after := #[{ on := 1, ground := Ground.data }], guard := none }) (v := ?_) rfl (by kernel_rfl) (by kernel_rfl) (by kernel_rfl) (fun _ _ _ h => h) (Or.inl ⟨by rfl, ?_⟩) hHeld ?_
        rotate_left
        · (intro w hSw; (try dsimp only at hSw); go_simp; first | done | with_reducible rfl)
        simp only [Act.put, List.setIfInBounds_toArray, List.set_cons_zero, List.set_cons_succ]
        refine wpAnyH_take (i := 3) (oi := { dst := some 16, op := Op.binOp BinOp.lss 3 (Operand.tmp 13) (Operand.tmp 15) 3, type := 4, pos := "nets.go:194", after := #[{ on := 0, ground := Ground.data }, { on := 2, ground := Ground.data }], guard := none }) (v := ?_) rfl (by kernel_rfl) (by kernel_rfl) (by kernel_rfl) (fun _ _ _ h => h) (Or.inl ⟨by rfl, ?_⟩) hHeld ?_
        rotate_left
        · (intro w hSw; (try dsimp only at hSw); go_simp; first | done | with_reducible rfl)
        simp only [Act.put, List.setIfInBounds_toArray, List.set_cons_zero, List.set_cons_succ]
        refine wpAnyH_take (i := 4) (oi := { dst := some 17, op := Op.move (Operand.tmp 16), type := 4, pos := "nets.go:194", after := #[{ on := 3, ground := Ground.data }], guard := none }) (v := ?_) rfl (by kernel_rfl) (by kernel_rfl) (by kernel_rfl) (fun _ _ _ h => h) (Or.inl ⟨by rfl, ?_⟩) hHeld ?_
        rotate_left
        · (intro w hSw; (try dsimp only at hSw); go_simp; first | done | with_reducible rfl)
        simp only [Act.put, List.setIfInBounds_toArray, List.set_cons_zero, List.set_cons_succ]
        refine wpAnyH_take (i := 5) (oi := { dst := some 18, op := Op.move (Operand.tmp 3), type := 22, pos := "nets.go:194", after := #[{ on := 4, ground := Ground.guard }], guard := some (4, true) }) (v := undef) rfl (by kernel_rfl) (by kernel_rfl) (by kernel_rfl) (fun _ _ _ h => h) (Or.inr ⟨by rfl, rfl⟩) hHeld ?_
        simp only [Act.put, List.setIfInBounds_toArray, List.set_cons_zero, List.set_cons_succ]
        refine wpAnyH_take (i := 6) (oi := { dst := some 19, op := Op.move (Operand.tmp 5), type := 3, pos := "nets.go:194", after := #[{ on := 4, ground := Ground.guard }], guard := some (4, true) }) (v := undef) rfl (by kernel_rfl) (by kernel_rfl) (by kernel_rfl) (fun _ _ _ h => h) (Or.inr ⟨by rfl, rfl⟩) hHeld ?_
        simp only [Act.put, List.setIfInBounds_toArray, List.set_cons_zero, List.set_cons_succ]
        refine wpAnyH_take (i := 7) (oi := { dst := some 20, op := Op.indexAddr 22 (Operand.tmp 18) (Operand.tmp 19), type := 0, pos := "nets.go:194", after := #[{ on := 5, ground := Ground.data }, { on := 6, ground := Ground.data }, { on := 4, ground := Ground.guard }], guard := some (4, true) }) (v := undef) rfl (by kernel_rfl) (by kernel_rfl) (by kernel_rfl) (fun _ _ _ h => h) (Or.inr ⟨by rfl, rfl⟩) hHeld ?_
        simp only [Act.put, List.setIfInBounds_toArray, List.set_cons_zero, List.set_cons_succ]
        refine wpAnyH_take (i := 8) (oi := { dst := some 21, op := Op.load 32 (Operand.tmp 20), type := 32, pos := "nets.go:194", after := #[{ on := 7, ground := Ground.data }, { on := 4, ground := Ground.guard }], guard := some (4, true) }) (v := undef) rfl (by kernel_rfl) (by kernel_rfl) (by kernel_rfl) (fun _ _ _ h => h) (Or.inr ⟨by rfl, rfl⟩) hHeld ?_
        simp only [Act.put, List.setIfInBounds_toArray, List.set_cons_zero, List.set_cons_succ]
        refine wpAnyH_take (i := 9) (oi := { dst := some 22, op := Op.move (Operand.tmp 0), type := 22, pos := "nets.go:194", after := #[{ on := 4, ground := Ground.guard }], guard := some (4, true) }) (v := undef) rfl (by kernel_rfl) (by kernel_rfl) (by kernel_rfl) (fun _ _ _ h => h) (Or.inr ⟨by rfl, rfl⟩) hHeld ?_
        simp only [Act.put, List.setIfInBounds_toArray, List.set_cons_zero, List.set_cons_succ]
        refine wpAnyH_take (i := 10) (oi := { dst := some 23, op := Op.move (Operand.tmp 4), type := 3, pos := "nets.go:194", after := #[{ on := 4, ground := Ground.guard }], guard := some (4, true) }) (v := undef) rfl (by kernel_rfl) (by kernel_rfl) (by kernel_rfl) (fun _ _ _ h => h) (Or.inr ⟨by rfl, rfl⟩) hHeld ?_
        simp only [Act.put, List.setIfInBounds_toArray, List.set_cons_zero, List.set_cons_succ]
        refine wpAnyH_take (i := 11) (oi := { dst := some 24, op := Op.indexAddr 22 (Operand.tmp 22) (Operand.tmp 23), type := 0, pos := "nets.go:194", after := #[{ on := 9, ground := Ground.data }, { on := 10, ground := Ground.data }, { on := 4, ground := Ground.guard }], guard := some (4, true) }) (v := undef) rfl (by kernel_rfl) (by kernel_rfl) (by kernel_rfl) (fun _ _ _ h => h) (Or.inr ⟨by rfl, rfl⟩) hHeld ?_
        simp only [Act.put, List.setIfInBounds_toArray, List.set_cons_zero, List.set_cons_succ]
        refine wpAnyH_take (i := 12) (oi := { dst := some 25, op := Op.load 32 (Operand.tmp 24), type := 32, pos := "nets.go:194", after := #[{ on := 11, ground := Ground.data }, { on := 4, ground := Ground.guard }], guard := some (4, true) }) (v := undef) rfl (by kernel_rfl) (by kernel_rfl) (by kernel_rfl) (fun _ _ _ h => h) (Or.inr ⟨by rfl, rfl⟩) hHeld ?_
        simp only [Act.put, List.setIfInBounds_toArray, List.set_cons_zero, List.set_cons_succ]
        refine wpAnyH_take (i := 13) (oi := { dst := some 26, op := Op.call { callee := Callee.value (Operand.func 35), args := #[Operand.tmp 21, Operand.tmp 25], argTypes := #[32, 32] }, type := 4, pos := "nets.go:194", after := #[{ on := 8, ground := Ground.data }, { on := 12, ground := Ground.data }, { on := 4, ground := Ground.chain }, { on := 4, ground := Ground.guard }], guard := some (4, true) }) (v := undef) rfl (by kernel_rfl) (by kernel_rfl) (by kernel_rfl) (fun _ _ _ h => h) (Or.inr ⟨by rfl, rfl⟩) hHeld ?_
        simp only [Act.put, List.setIfInBounds_toArray, List.set_cons_zero, List.set_cons_succ]
        refine wpAnyH_take (i := 14) (oi := { dst := some 27, op := Op.pick (Operand.tmp 17) (Operand.tmp 26) (Operand.const (Value.bool false)), type := 4, pos := "nets.go:194", after := #[{ on := 4, ground := Ground.data }, { on := 13, ground := Ground.data }], guard := none }) (v := ?_) rfl (by kernel_rfl) (by kernel_rfl) (by kernel_rfl) (fun _ _ _ h => h) (Or.inl ⟨by rfl, ?_⟩) hHeld ?_
        rotate_left
        · (intro w hSw; (try dsimp only at hSw); go_simp; first | done | with_reducible rfl)
        simp only [Act.put, List.setIfInBounds_toArray, List.set_cons_zero, List.set_cons_succ]
        refine wpAnyH_done (by kernel_rfl) ?_ _
        have HB1 := Lib.hid (Below.two HB.out hHeld)
        have hW1 := hHeld
        clear hHeld
        obtain ⟨s0, s1⟩ := HX.out wr.drew HB1.out
        simp only [Nat.zero_mul, Nat.add_zero] at s0 s1
        have hz : w.heap.size ≤ wr.heap.size := HB.out.size
        go_wp2_with (at_builtin; first | (refine wpList_plain rfl fun _ hK => wp_append_none _ _ rfl w.heap.size (.slice none 0 0) [] rfl rfl (World.ownsRow_nil _ _ _ _) ?_) | (refine wpList_plain rfl fun _ hK => wp_append_one _ _ rfl w.heap.size (.slice none 0 0) [] x wr.heap.size 1 rfl rfl (World.ownsRow_nil _ _ _ _) ?n1 (by simp) ?n2 ?n3))
        case n1 => exact Box.new wr.drew (Nt.v0 x) (Nt.v1 x) 32
        case n2 => exact Nat.le_trans hz (by simp)
        intro v2 w2 hO hg _
        refine hK _ _ ?_
        clear hK
        have bG : Below w.heap.size w w2 := ((HB1.out).alloc (by simpa using hz) _).trans (grown_below0 hg (Nat.le_trans hz (by simp)) (fun q hq => by simp [Value.ownBlock] at hq))
        have HO2 : Hid (Own w2 w.heap.size v2 [x]) := Lib.hid hO
        obtain ⟨g2, cap2, hv2, hc2, hg2, hs2⟩ := own_some HO2.out (by simp)
        simp only [List.length_singleton] at hv2 hc2
        have HT2 : Hid (ordN (l.take (0 + 1)) = [x]) := Lib.hid (by rw [HT.out]; simp [ordN, insN])
        clear hO hg
        subst hv2
        go_wp2_with (at_builtin; refine wpList_plain rfl fun _ hK => wp_append_none _ _ rfl w.heap.size (.slice (some ⟨g2, 0, none⟩) 1 cap2) [x] rfl rfl HO2.out ?_)
        go_roundw
        case rel => exact ⟨0 + 1, by go_num, by omega, Lib.hid (Or.inr ⟨g2, cap2, rfl, hc2, hg2, by rw [HT2.out]; exact hs2⟩), by rw [HT2.out]; exact HO2, Lib.hid bG⟩
        case measure => simp [RowKit.intOf]; omega
      · subst h3
        have HSG := Lib.hid hsg; have HGL := Lib.hid hg
        clear HC hsg hg
        obtain ⟨co, hco⟩ : ∃ co, ordN (l.take i) = co := ⟨_, rfl⟩
        rw [hco] at HSG HO HT hlen
        clear hco
        have hi0 := hlen
        go_wp2_with fail
        generalize wr = V at *
        go_loopw [5] (fun s5 W => ∃ k : Nat, s5 = .int .i64 k ∧ k ≤ i ∧ Hid (∀ j, j < k → Nt.lt co[j]! x = true) ∧ Hid (Below V.heap.size V W)) (fun s5 _ => i - (RowKit.intOf s5).toNat)
        case atStart => exact ⟨0, rfl, Nat.zero_le _, Lib.hid (fun j hj => by omega), Lib.hid (Below.refl _ _)⟩
        case round =>
          obtain ⟨k, rfl, hk, HL, HBW⟩ := hrel
          by_cases hki : k < i
          · obtain ⟨y, hy⟩ : ∃ y, co[k]! = y := ⟨_, rfl⟩
            have s0 : wr.cell? ⟨g, k * 2, none⟩ = some (.int .u32 (y.1 : Int)) := by have := (HSG.out.below HBW.out HGL.out).c0 k (by omega); rw [hy, Nat.zero_add] at this; exact this
            have s1 : wr.cell? ⟨g, k * 2 + 1, none⟩ = some (.int .i64 y.2) := by have := (HSG.out.below HBW.out HGL.out).c1 k (by omega); rw [hy, Nat.zero_add] at this; exact this
            obtain ⟨s2, s3⟩ := HX.out wr (Below.two HB.out HBW.out)
            have HY := Lib.hid hy; clear hy
            cases hLs : PrefP.less y.1 y.2 x.1 x.2 with
            | true =>
              go_wp2_with fail
              refine wp_region_held_drew (S := (fun w' => w'.cell? ⟨g, k * 2, none⟩ = some (.int .u32 (y.1 : Int)) ∧ w'.cell? ⟨g, k * 2 + 1, none⟩ = some (.int .i64 y.2) ∧ w'.cell? ⟨b, off + i * 2, none⟩ = some (.int .u32 (x.1 : Int)) ∧ w'.cell? ⟨b, off + i * 2 + 1, none⟩ = some (.int .i64 x.2) ∧ Below V.heap.size V w')) (by kernel_rfl) ⟨s0, s1, s2, s3, HBW.out.drew⟩ (fun hHeld => ?_)
              refine wpAnyH_take (i := 0) (oi := { dst := some 13, op := Op.move (Operand.tmp 5), type := 3, pos := "nets.go:194", after := #[], guard := none }) (v := ?_) rfl (by kernel_rfl) (by kernel_rfl) (by kernel_rfl) (fun _ _ _ h => h) (Or.inl ⟨by rfl, ?_⟩) hHeld ?_
              rotate_left
              · (intro w hSw; (try dsimp only at hSw); go_simp; first | done | with_reducible rfl)
              simp only [Act.put, List.setIfInBounds_toArray, List.set_cons_zero, List.set_cons_succ]
              refine wpAnyH_take (i := 1) (oi := { dst := some 14, op := Op.move (Operand.tmp 3), type := 22, pos := "nets.go:194", after := #[], guard := none }) (v := ?_) rfl (by kernel_rfl) (by kernel_rfl) (by kernel_rfl) (fun _ _ _ h => h) (Or.inl ⟨by rfl, ?_⟩) hHeld ?_
              rotate_left
              · (intro w hSw; (try dsimp only at hSw); go_simp; first | done | with_reducible rfl)
              simp only [Act.put, List.setIfInBounds_toArray, List.set_cons_zero, List.set_cons_succ]
              refine wpAnyH_take (i := 2) (oi := { dst := some 15, op := Op.call { callee := Callee.builtin Builtin.len, args := #[Operand.tmp 14], argTypes := #[22] }, type := 3, pos := "nets.go:194", after := #[{ on := 1, ground := Ground.data }], guard := none }) (v := ?_) rfl (by kernel_rfl) (by kernel_rfl) (by kernel_rfl) (fun _ _ _ h => h) (Or.inl ⟨by rfl, ?_⟩) hHeld ?_
              rotate_left
              · (intro w hSw; (try dsimp only at hSw); go_simp; first | done | with_reducible rfl)
              simp only [Act.put, List.setIfInBounds_toArray, List.set_cons_zero, List.set_cons_succ]
              refine wpAnyH_take (i := 3) (oi := { dst := some 16, op := Op.binOp BinOp.lss 3 (Operand.tmp 13) (Operand.tmp 15) 3, type := 4, pos := "nets.go:194", after := #[{ on := 0, ground := Ground.data }, { on := 2, ground := Ground.data }], guard := none }) (v := ?_) rfl (by kernel_rfl) (by kernel_rfl) (by kernel_rfl) (fun _ _ _ h => h) (Or.inl ⟨by rfl, ?_⟩) hHeld ?_
              rotate_left
              · (intro w hSw; (try dsimp only at hSw); go_simp; first | done | with_reducible rfl)
              simp only [Act.put, List.setIfInBounds_toArray, List.set_cons_zero, List.set_cons_succ]
              refine wpAnyH_take (i := 4) (oi := { dst := some 17, op := Op.move (Operand.tmp 16), type := 4, pos := "nets.go:194", after := #[{ on := 3, ground := Ground.data }], guard := none }) (v := ?_) rfl (by kernel_rfl) (by kernel_rfl) (by kernel_rfl) (fun _ _ _ h => h) (Or.inl ⟨by rfl, ?_⟩) hHeld ?_
              rotate_left
              · (intro w hSw; (try dsimp only at hSw); go_simp; first | done | with_reducible rfl)
              simp only [Act.put, List.setIfInBounds_toArray, List.set_cons_zero, List.set_cons_succ]
              refine wpAnyH_take (i := 5) (oi := { dst := some 18, op := Op.move (Operand.tmp 3), type := 22, pos := "nets.go:194", after := #[{ on := 4, ground := Ground.guard }], guard := some (4, true) }) (v := ?_) rfl (by kernel_rfl) (by kernel_rfl) (by kernel_rfl) (fun _ _ _ h => h) (Or.inl ⟨by rfl, ?_⟩) hHeld ?_
              rotate_left
              · (intro w hSw; (try dsimp only at hSw); go_simp; first | done | with_reducible rfl)
              simp only [Act.put, List.setIfInBounds_toArray, List.set_cons_zero, List.set_cons_succ]
              refine wpAnyH_take (i := 6) (oi := { dst := some 19, op := Op.move (Operand.tmp 5), type := 3, pos := "nets.go:194", after := #[{ on := 4, ground := Ground.guard }], guard := some (4, true) }) (v := ?_) rfl (by kernel_rfl) (by kernel_rfl) (by kernel_rfl) (fun _ _ _ h => h) (Or.inl ⟨by rfl, ?_⟩) hHeld ?_
              rotate_left
              · (intro w hSw; (try dsimp only at hSw); go_simp; first | done | with_reducible rfl)
              simp only [Act.put, List.setIfInBounds_toArray, List.set_cons_zero, List.set_cons_succ]
              refine wpAnyH_take (i := 7) (oi := { dst := some 20, op := Op.indexAddr 22 (Operand.tmp 18) (Operand.tmp 19), type := 0, pos := "nets.go:194", after := #[{ on := 5, ground := Ground.data }, { on := 6, ground := Ground.data }, { on := 4, ground := Ground.guard }], guard := some (4, true) }) (v := ?_) rfl (by kernel_rfl) (by kernel_rfl) (by kernel_rfl) (fun _ _ _ h => h) (Or.inl ⟨by rfl, ?_⟩) hHeld ?_
              rotate_left
              · (intro w hSw; (try dsimp only at hSw); go_simp; first | done | with_reducible rfl)
              simp only [Act.put, List.setIfInBounds_toArray, List.set_cons_zero, List.set_cons_succ]
              refine wpAnyH_take (i := 8) (oi := { dst := some 21, op := Op.load 32 (Operand.tmp 20), type := 32, pos := "nets.go:194", after := #[{ on := 7, ground := Ground.data }, { on := 4, ground := Ground.guard }], guard := some (4, true) }) (v := ?_) rfl (by kernel_rfl) (by kernel_rfl) (by kernel_rfl) (fun _ _ _ h => h) (Or.inl ⟨by rfl, ?_⟩) hHeld ?_
              rotate_left
              · (intro w hSw; (try dsimp only at hSw); go_simp; first | done | with_reducible rfl)
              simp only [Act.put, List.setIfInBounds_toArray, List.set_cons_zero, List.set_cons_succ]
              refine wpAnyH_take (i := 9) (oi := { dst := some 22, op := Op.move (Operand.tmp 0), type := 22, pos := "nets.go:194", after := #[{ on := 4, ground := Ground.guard }], guard := some (4, true) }) (v := ?_) rfl (by kernel_rfl) (by kernel_rfl) (by kernel_rfl) (fun _ _ _ h => h) (Or.inl ⟨by rfl, ?_⟩) hHeld ?_
              rotate_left
              · (intro w hSw; (try dsimp only at hSw); go_simp; first | done | with_reducible rfl)
              simp only [Act.put, List.setIfInBounds_toArray, List.set_cons_zero, List.set_cons_succ]
              refine wpAnyH_take (i := 10) (oi := { dst := some 23, op := Op.move (Operand.tmp 4), type := 3, pos := "nets.go:194", after := #[{ on := 4, ground := Ground.guard }], guard := some (4, true) }) (v := ?_) rfl (by kernel_rfl) (by kernel_rfl) (by kernel_rfl) (fun _ _ _ h => h) (Or.inl ⟨by rfl, ?_⟩) hHeld ?_
              rotate_left
              · (intro w hSw; (try dsimp only at hSw); go_simp; first | done | with_reducible rfl)
              simp only [Act.put, List.setIfInBounds_toArray, List.set_cons_zero, List.set_cons_succ]
              refine wpAnyH_take (i := 11) (oi := { dst := some 24, op := Op.indexAddr 22 (Operand.tmp 22) (Operand.tmp 23), type := 0, pos := "nets.go:194", after := #[{ on := 9, ground := Ground.data }, { on := 10, ground := Ground.data }, { on := 4, ground := Ground.guard }], guard := some (4, true) }) (v := ?_) rfl (by kernel_rfl) (by kernel_rfl) (by kernel_rfl) (fun _ _ _ h => h) (Or.inl ⟨by rfl, ?_⟩) hHeld ?_
              rotate_left
              · (intro w hSw; (try dsimp only at hSw); go_simp; first | done | with_reducible rfl)
              simp only [Act.put, List.setIfInBounds_toArray, List.set_cons_zero, List.set_cons_succ]
              refine wpAnyH_take (i := 12) (oi := { dst := some 25, op := Op.load 32 (Operand.tmp 24), type := 32, pos := "nets.go:194", after := #[{ on := 11, ground := Ground.data }, { on := 4, ground := Ground.guard }], guard := some (4, true) }) (v := ?_) rfl (by kernel_rfl) (by kernel_rfl) (by kernel_rfl) (fun _ _ _ h => h) (Or.inl ⟨by rfl, ?_⟩) hHeld ?_
              rotate_left
              · (intro w hSw; (try dsimp only at hSw); go_simp; first | done | with_reducible rfl)
              simp only [Act.put, List.setIfInBounds_toArray, List.set_cons_zero, List.set_cons_succ]
              refine wpAnyH_ready (rs := [13]) (by kernel_rfl) (by simp) ?_
              refine AllReadyH.cons (o := { dst := some 26, op := Op.call { callee := Callee.value (Operand.func 35), args := #[Operand.tmp 21, Operand.tmp 25], argTypes := #[32, 32] }, type := 4, pos := "nets.go:194", after := #[{ on := 8, ground := Ground.data }, { on := 12, ground := Ground.data }, { on := 4, ground := Ground.chain }, { on := 4, ground := Ground.guard }], guard := some (4, true) }) rfl (fun K hK => ?_) AllReadyH.nil
              go_simp
              go_at_call 35
              refine (refLess_any y.1 y.2 x.1 x.2 _).mono ?_
              rintro e w9 ⟨rfl, hb9⟩
              have KK0 := heldOrd hHeld hb9; clear hHeld hb9
              rw [hLs]
              go_wp2_with fail
              refine hK.out _ _ KK0 (fun hHeld => ?_)
              clear hK K
              refine wpAnyH_take (i := 14) (oi := { dst := some 27, op := Op.pick (Operand.tmp 17) (Operand.tmp 26) (Operand.const (Value.bool false)), type := 4, pos := "nets.go:194", after := #[{ on := 4, ground := Ground.data }, { on := 13, ground := Ground.data }], guard := none }) (v := ?_) rfl (by kernel_rfl) (by kernel_rfl) (by kernel_rfl) (fun _ _ _ h => h) (Or.inl ⟨by rfl, ?_⟩) hHeld ?_
              rotate_left
              · (intro w hSw; (try dsimp only at hSw); go_simp; first | done | with_reducible rfl)
              simp only [Act.put, List.setIfInBounds_toArray, List.set_cons_zero, List.set_cons_succ]
              refine wpAnyH_done (by kernel_rfl) ?_ _
              have HB2 := Lib.hid hHeld.2.2.2.2
              clear hHeld
              go_wp2_with fail
              go_roundw
              case rel =>
                refine ⟨k + 1, by go_num, by omega, Lib.hid fun j hj => ?_, HB2⟩
                by_cases e : j = k
                · rw [e, HY.out]; exact hLs
                · exact HL.out j (by omega)
              case measure => simp [RowKit.intOf]; omega
            | false =>
              have HIN := Lib.hid (insN_at co x k (by omega) HL.out (fun _ => by rw [HY.out]; exact hLs))
              go_wp2_with fail
              refine wp_region_held_drew (S := (fun w' => w'.cell? ⟨g, k * 2, none⟩ = some (.int .u32 (y.1 : Int)) ∧ w'.cell? ⟨g, k * 2 + 1, none⟩ = some (.int .i64 y.2) ∧ w'.cell? ⟨b, off + i * 2, none⟩ = some (.int .u32 (x.1 : Int)) ∧ w'.cell? ⟨b, off + i * 2 + 1, none⟩ = some (.int .i64 x.2) ∧ Below V.heap.size V w')) (by kernel_rfl) ⟨s0, s1, s2, s3, HBW.out.drew⟩ (fun hHeld => ?_)
              refine wpAnyH_take (i := 0) (oi := { dst := some 13, op := Op.move (Operand.tmp 5), type := 3, pos := "nets.go:194", after := #[], guard := none }) (v := ?_) rfl (by kernel_rfl) (by kernel_rfl) (by kernel_rfl) (fun _ _ _ h => h) (Or.inl ⟨by rfl, ?_⟩) hHeld ?_
              rotate_left
              · (intro w hSw; (try dsimp only at hSw); go_simp; first | done | with_reducible rfl)
              simp only [Act.put, List.setIfInBounds_toArray, List.set_cons_zero, List.set_cons_succ]
              refine wpAnyH_take (i := 1) (oi := { dst := some 14, op := Op.move (Operand.tmp 3), type := 22, pos := "nets.go:194", after := #[], guard := none }) (v := ?_) rfl (by kernel_rfl) (by kernel_rfl) (by kernel_rfl) (fun _ _ _ h => h) (Or.inl ⟨by rfl, ?_⟩) hHeld ?_
              rotate_left
              · (intro w hSw; (try dsimp only at hSw); go_simp; first | done | with_reducible rfl)
              simp only [Act.put, List.setIfInBounds_toArray, List.set_cons_zero, List.set_cons_succ]
              refine wpAnyH_take (i := 2) (oi := { dst := some 15, op := Op.call { callee := Callee.builtin Builtin.len, args := #[Operand.tmp 14], argTypes := #[22] }, type := 3, pos := "nets.go:194", after := #[{ on := 1, ground := Ground.data }], guard := none }) (v := ?_) rfl (by kernel_rfl) (by kernel_rfl) (by kernel_rfl) (fun _ _ _ h => h) (Or.inl ⟨by rfl, ?_⟩) hHeld ?_
              rotate_left
              · (intro w hSw; (try dsimp only at hSw); go_simp; first | done | with_reducible rfl)
              simp only [Act.put, List.setIfInBounds_toArray, List.set_cons_zero, List.set_cons_succ]
              refine wpAnyH_take (i := 3) (oi := { dst := some 16, op := Op.binOp BinOp.lss 3 (Operand.tmp 13) (Operand.tmp 15) 3, type := 4, pos := "nets.go:194", after := #[{ on := 0, ground := Ground.data }, { on := 2, ground := Ground.data }], guard := none }) (v := ?_) rfl (by kernel_rfl) (by kernel_rfl) (by kernel_rfl) (fun _ _ _ h => h) (Or.inl ⟨by rfl, ?_⟩) hHeld ?_
              rotate_left
              · (intro w hSw; (try dsimp only at hSw); go_simp; first | done | with_reducible rfl)
              simp only [Act.put, List.setIfInBounds_toArray, List.set_cons_zero, List.set_cons_succ]
              refine wpAnyH_take (i := 4) (oi := { dst := some 17, op := Op.move (Operand.tmp 16), type := 4, pos := "nets.go:194", after := #[{ on := 3, ground := Ground.data }], guard := none }) (v := ?_) rfl (by kernel_rfl) (by kernel_rfl) (by kernel_rfl) (fun _ _ _ h => h) (Or.inl ⟨by rfl, ?_⟩) hHeld ?_
              rotate_left
              · (intro w hSw; (try dsimp only at hSw); go_simp; first | done | with_reducible rfl)
              simp only [Act.put, List.setIfInBounds_toArray, List.set_cons_zero, List.set_cons_succ]
              refine wpAnyH_take (i := 5) (oi := { dst := some 18, op := Op.move (Operand.tmp 3), type := 22, pos := "nets.go:194", after := #[{ on := 4, ground := Ground.guard }], guard := some (4, true) }) (v := ?_) rfl (by kernel_rfl) (by kernel_rfl) (by kernel_rfl) (fun _ _ _ h => h) (Or.inl ⟨by rfl, ?_⟩) hHeld ?_
              rotate_left
              · (intro w hSw; (try dsimp only at hSw); go_simp; first | done | with_reducible rfl)
              simp only [Act.put, List.setIfInBounds_toArray, List.set_cons_zero, List.set_cons_succ]
              refine wpAnyH_take (i := 6) (oi := { dst := some 19, op := Op.move (Operand.tmp 5), type := 3, pos := "nets.go:194", after := #[{ on := 4, ground := Ground.guard }], guard := some (4, true) }) (v := ?_) rfl (by kernel_rfl) (by kernel_rfl) (by kernel_rfl) (fun _ _ _ h => h) (Or.inl ⟨by rfl, ?_⟩) hHeld ?_
              rotate_left
              · (intro w hSw; (try dsimp only at hSw); go_simp; first | done | with_reducible rfl)
              simp only [Act.put, List.setIfInBounds_toArray, List.set_cons_zero, List.set_cons_succ]
              refine wpAnyH_take (i := 7) (oi := { dst := some 20, op := Op.indexAddr 22 (Operand.tmp 18) (Operand.tmp 19), type := 0, pos := "nets.go:194", after := #[{ on := 5, ground := Ground.data }, { on := 6, ground := Ground.data }, { on := 4, ground := Ground.guard }], guard := some (4, true) }) (v := ?_) rfl (by kernel_rfl) (by kernel_rfl) (by kernel_rfl) (fun _ _ _ h => h) (Or.inl ⟨by rfl, ?_⟩) hHeld ?_
              rotate_left
              · (intro w hSw; (try dsimp only at hSw); go_simp; first | done | with_reducible rfl)
              simp only [Act.put, List.setIfInBounds_toArray, List.set_cons_zero, List.set_cons_succ]
              refine wpAnyH_take (i := 8) (oi := { dst := some 21, op := Op.load 32 (Operand.tmp 20), type := 32, pos := "nets.go:194", after := #[{ on := 7, ground := Ground.data }, { on := 4, ground := Ground.guard }], guard := some (4, true) }) (v := ?_) rfl (by kernel_rfl) (by kernel_rfl) (by kernel_rfl) (fun _ _ _ h => h) (Or.inl ⟨by rfl, ?_⟩) hHeld ?_
              rotate_left
              · (intro w hSw; (try dsimp only at hSw); go_simp; first | done | with_reducible rfl)
              simp only [Act.put, List.setIfInBounds_toArray, List.set_cons_zero, List.set_cons_succ]
              refine wpAnyH_take (i := 9) (oi := { dst := some 22, op := Op.move (Operand.tmp 0), type := 22, pos := "nets.go:194", after := #[{ on := 4, ground := Ground.guard }], guard := some (4, true) }) (v := ?_) rfl (by kernel_rfl) (by kernel_rfl) (by kernel_rfl) (fun _ _ _ h => h) (Or.inl ⟨by rfl, ?_⟩) hHeld ?_
              rotate_left
              · (intro w hSw; (try dsimp only at hSw); go_simp; first | done | with_reducible rfl)
              simp only [Act.put, List.setIfInBounds_toArray, List.set_cons_zero, List.set_cons_succ]
              refine wpAnyH_take (i := 10) (oi := { dst := some 23, op := Op.move (Operand.tmp 4), type := 3, pos := "nets.go:194", after := #[{ on := 4, ground := Ground.guard }], guard := some (4, true) }) (v := ?_) rfl (by kernel_rfl) (by kernel_rfl) (by kernel_rfl) (fun _ _ _ h => h) (Or.inl ⟨by rfl, ?_⟩) hHeld ?_
              rotate_left
              · (intro w hSw; (try dsimp only at hSw); go_simp; first | done | with_reducible rfl)
              simp only [Act.put, List.setIfInBounds_toArray, List.set_cons_zero, List.set_cons_succ]
              refine wpAnyH_take (i := 11) (oi := { dst := some 24, op := Op.indexAddr 22 (Operand.tmp 22) (Operand.tmp 23), type := 0, pos := "nets.go:194", after := #[{ on := 9, ground := Ground.data }, { on := 10, ground := Ground.data }, { on := 4, ground := Ground.guard }], guard := some (4, true) }) (v := ?_) rfl (by kernel_rfl) (by kernel_rfl) (by kernel_rfl) (fun _ _ _ h => h) (Or.inl ⟨by rfl, ?_⟩) hHeld ?_
              rotate_left
              · (intro w hSw; (try dsimp only at hSw); go_simp; first | done | with_reducible rfl)
              simp only [Act.put, List.setIfInBounds_toArray, List.set_cons_zero, List.set_cons_succ]
              refine wpAnyH_take (i := 12) (oi := { dst := some 25, op := Op.load 32 (Operand.tmp 24), type := 32, pos := "nets.go:194", after := #[{ on := 11, ground := Ground.data }, { on := 4, ground := Ground.guard }], guard := some (4, true) }) (v := ?_) rfl (by kernel_rfl) (by kernel_rfl) (by kernel_rfl) (fun _ _ _ h => h) (Or.inl ⟨by rfl, ?_⟩) hHeld ?_
              rotate_left
              · (intro w hSw; (try dsimp only at hSw); go_simp; first | done | with_reducible rfl)
              simp only [Act.put, List.setIfInBounds_toArray, List.set_cons_zero, List.set_cons_succ]
              refine wpAnyH_ready (rs := [13]) (by kernel_rfl) (by simp) ?_
              refine AllReadyH.cons (o := { dst := some 26, op := Op.call { callee := Callee.value (Operand.func 35), args := #[Operand.tmp 21, Operand.tmp 25], argTypes := #[32, 32] }, type := 4, pos := "nets.go:194", after := #[{ on := 8, ground := Ground.data }, { on := 12, ground := Ground.data }, { on := 4, ground := Ground.chain }, { on := 4, ground := Ground.guard }], guard := some (4, true) }) rfl (fun K hK => ?_) AllReadyH.nil
              go_simp
              go_at_call 35
              refine (refLess_any y.1 y.2 x.1 x.2 _).mono ?_
              rintro e w9 ⟨rfl, hb9⟩
              have KK0 := heldOrd hHeld hb9; clear hHeld hb9
              rw [hLs]
              go_wp2_with fail
              refine hK.out _ _ KK0 (fun hHeld => ?_)
              clear hK K
              refine wpAnyH_take (i := 14) (oi := { dst := some 27, op := Op.pick (Operand.tmp 17) (Operand.tmp 26) (Operand.const (Value.bool false)), type := 4, pos := "nets.go:194", after := #[{ on := 4, ground := Ground.data }, { on := 13, ground := Ground.data }], guard := none }) (v := ?_) rfl (by kernel_rfl) (by kernel_rfl) (by kernel_rfl) (fun _ _ _ h => h) (Or.inl ⟨by rfl, ?_⟩) hHeld ?_
              rotate_left
              · (intro w hSw; (try dsimp only at hSw); go_simp; first | done | with_reducible rfl)
              simp only [Act.put, List.setIfInBounds_toArray, List.set_cons_zero, List.set_cons_succ]
              refine wpAnyH_done (by kernel_rfl) ?_ _
              have HW := Lib.hid hHeld.2.2.2.2
              clear hHeld s0 s1 s2 s3
              have hz : w.heap.size ≤ V.heap.size := HB.out.size
              have hz9 : V.heap.size ≤ w9.heap.size := HW.out.size
              have hkc : k ≤ cap := by omega
              have hkc2 : (k : Int) ≤ (cap : Int) := by omega
              have HSW := Lib.hid (HSG.out.below HW.out HGL.out)
              have hgW : g < w9.heap.size := Nat.lt_of_lt_of_le HGL.out hz9
              have hlt1 : (co.take k).length = k := by rw [List.length_take]; omega
              have hld1 : (co.drop k).length = i - k := by rw [List.length_drop]; omega
              go_wp2_with (at_builtin; refine wpList_plain rfl fun _ hK => wp_append_arg _ _ rfl w9.heap.size (.slice none 0 0) (.slice (some ⟨g, 0, none⟩) k cap) [] (co.take k) rfl rfl ?a1 ?a2 (by rw [hlt1]; simp; omega) ?a3 ?a4)
              case a1 => exact World.ownsRow_nil _ _ _ _
              case a2 => exact ⟨g, 0, cap, by rw [hlt1], HSW.out.take k (by omega)⟩
              case a3 => exact Nat.le_refl _
              intro v1 w10 hO bA
              refine hK _ _ ?_
              clear hK
              have HO1 := Lib.hid hO; have HA1 := Lib.hid bA
              have hz10 := bA.size
              obtain ⟨s0, s1⟩ := HX.out w10 ((Below.two HB.out HW.out).trans (bA.mono (by omega)))
              clear hO bA
              have bV : Below w10.heap.size w10 (w10.alloc (.cells #[.int .u32 (x.1 : Int), .int .i64 x.2] 32)) := (Below.refl _ _).alloc (Nat.le_refl _) _
              go_wp2_with (at_builtin; refine wpList_plain rfl fun _ hK => wp_append_one _ _ rfl w9.heap.size v1 (co.take k) x w10.heap.size 1 rfl rfl ?a5 ?a6 (by rw [hlt1]; omega) ?a7 ?a8)
              case a5 => exact HO1.out.keep bV
              case a6 => exact Box.new w10 (Nt.v0 x) (Nt.v1 x) 32
              case a7 => exact Nat.le_trans hz10 bV.size
              intro v2 w11 hO hg _
              refine hK _ _ ?_
              clear hK
              have bB : Below w9.heap.size w10 w11 := (bV.mono hz10).trans (grown_below0 hg (Nat.le_trans hz10 bV.size) (fun q hq => (World.ownsRow.lt HO1.out q hq).1))
              have HO2 := Lib.hid hO; have HA2 := Lib.hid (HA1.out.trans bB)
              have hz11 := HA2.out.size
              have HSW2 := Lib.hid ((HSW.out.below HA2.out hgW).drop k)
              clear hO hg bB s0 s1 bV
              have hl2 : (co.take k ++ [x]).length = k + 1 := by rw [List.length_append, hlt1]; rfl
              go_wp2_with (at_builtin; refine wpList_plain rfl fun _ hK => wp_append_arg _ _ rfl w9.heap.size v2 (.slice (some ⟨g, k * 2, none⟩) (i - k) (cap - k)) (co.take k ++ [x]) (co.drop k) rfl rfl ?a9 ?a10 (by rw [hl2, hld1]; omega) ?a11 ?a12)
              case a9 => exact HO2.out
              case a10 => exact ⟨g, 0 + k * 2, cap - k, by rw [hld1, Nat.zero_add], HSW2.out⟩
              case a11 => exact hz11
              intro v3 w12 hO bC
              refine hK _ _ ?_
              clear hK
              have e3 : co.take k ++ x :: co.drop k = ordN (l.take (i + 1)) := by rw [HT.out, HIN.out]
              rw [e3] at hO
              have HO3 := Lib.hid (Own.down hO (show w.heap.size ≤ w9.heap.size by omega)); have HA3 := Lib.hid ((Below.two HB.out HW.out).trans ((HA2.out.trans bC).mono (by omega)))
              have hl3 := ordN_len l (i + 1) (by omega)
              obtain ⟨g3, cap3, hv3, hc3, hg3, hs3⟩ := own_some HO3.out (by omega)
              rw [hl3] at hv3 hc3
              subst hv3
              clear hO bC
              go_wp2_with fail
              go_roundw
              case rel => exact ⟨i + 1, by go_num, by omega, Lib.hid (Or.inr ⟨g3, cap3, rfl, hc3, hg3, hs3⟩), HO3, HA3⟩
              case measure => simp [RowKit.intOf]; omega
          · have hik : i ≤ k := by omega
            have HIN := Lib.hid (insN_at co x k (by omega) HL.out (fun h => by omega))
            go_wp2_with fail
            refine wp_region_held_drew (S := (fun w' => Below V.heap.size V w')) (by kernel_rfl) HBW.out.drew (fun hHeld => ?_)
            refine wpAnyH_take (i := 0) (oi := { dst := some 13, op := Op.move (Operand.tmp 5), type := 3, pos := "nets.go:194", after := #[], guard := none }) (v := ?_) rfl (by kernel_rfl) (by kernel_rfl) (by kernel_rfl) (fun _ _ _ h => h) (Or.inl ⟨by rfl, ?_⟩) hHeld ?_
            rotate_left
            · (intro w hSw; (try dsimp only at hSw); go_simp; first | done | with_reducible rfl)
            simp only [Act.put, List.setIfInBounds_toArray, List.set_cons_zero, List.set_cons_succ]
            refine wpAnyH_take (i := 1) (oi := { dst := some 14, op := Op.move (Operand.tmp 3), type := 22, pos := "nets.go:194", after := #[], guard := none }) (v := ?_) rfl (by kernel_rfl) (by kernel_rfl) (by kernel_rfl) (fun _ _ _ h => h) (Or.inl ⟨by rfl, ?_⟩) hHeld ?_
            rotate_left
            · (intro w hSw; (try dsimp only at hSw); go_simp; first | done | with_reducible rfl)
            simp only [Act.put, List.setIfInBounds_toArray, List.set_cons_zero, List.set_cons_succ]
            refine wpAnyH_take (i := 2) (oi := { dst := some 15, op := Op.call { callee := Callee.builtin Builtin.len, args := #[Operand.tmp 14], argTypes := #[22] }, type := 3, pos := "nets.go:194", after := #[{ on := 1, ground := Ground.data }], guard := none }) (v := ?_) rfl (by kernel_rfl) (by kernel_rfl) (by kernel_rfl) (fun _ _ _ h => h) (Or.inl ⟨by rfl, ?_⟩) hHeld ?_
            rotate_left
            · (intro w hSw; (try dsimp only at hSw); go_simp; first | done | with_reducible rfl)
            simp only [Act.put, List.setIfInBounds_toArray, List.set_cons_zero, List.set_cons_succ]
            refine wpAnyH_take (i := 3) (oi := { dst := some 16, op := Op.binOp BinOp.lss 3 (Operand.tmp 13) (Operand.tmp 15) 3, type := 4, pos := "nets.go:194", after := #[{ on := 0, ground := Ground.data }, { on := 2, ground := Ground.data }], guard := none }) (v := ?_) rfl (by kernel_rfl) (by kernel_rfl) (by kernel_rfl) (fun _ _ _ h => h) (Or.inl ⟨by rfl, ?_⟩) hHeld ?_
            rotate_left
            · (intro w hSw; (try dsimp only at hSw); go_simp; first | done | with_reducible rfl)
            simp only [Act.put, List.setIfInBounds_toArray, List.set_cons_zero, List.set_cons_succ]
            refine wpAnyH_take (i := 4) (oi := { dst := some 17, op := Op.move (Operand.tmp 16), type := 4, pos := "nets.go:194", after := #[{ on := 3, ground := Ground.data }], guard := none }) (v := ?_) rfl (by kernel_rfl) (by kernel_rfl) (by kernel_rfl) (fun _ _ _ h => h) (Or.inl ⟨by rfl, ?_⟩) hHeld ?_
            rotate_left
            · (intro w hSw; (try dsimp only at hSw); go_simp; first | done | with_reducible rfl)
            simp only [Act.put, List.setIfInBounds_toArray, List.set_cons_zero, List.set_cons_succ]
            refine wpAnyH_take (i := 5) (oi := { dst := some 18, op := Op.move (Operand.tmp 3), type := 22, pos := "nets.go:194", after := #[{ on := 4, ground := Ground.guard }], guard := some (4, true) }) (v := undef) rfl (by kernel_rfl) (by kernel_rfl) (by kernel_rfl) (fun _ _ _ h => h) (Or.inr ⟨by rfl, rfl⟩) hHeld ?_
            simp only [Act.put, List.setIfInBounds_toArray, List.set_cons_zero, List.set_cons_succ]
            refine wpAnyH_take (i := 6) (oi := { dst := some 19, op := Op.move (Operand.tmp 5), type := 3, pos := "nets.go:194", after := #[{ on := 4, ground := Ground.guard }], guard := some (4, true) }) (v := undef) rfl (by kernel_rfl) (by kernel_rfl) (by kernel_rfl) (fun _ _ _ h => h) (Or.inr ⟨by rfl, rfl⟩) hHeld ?_
            simp only [Act.put, List.setIfInBounds_toArray, List.set_cons_zero, List.set_cons_succ]
            refine wpAnyH_take (i := 7) (oi := { dst := some 20, op := Op.indexAddr 22 (Operand.tmp 18) (Operand.tmp 19), type := 0, pos := "nets.go:194", after := #[{ on := 5, ground := Ground.data }, { on := 6, ground := Ground.data }, { on := 4, ground := Ground.guard }], guard := some (4, true) }) (v := undef) rfl (by kernel_rfl) (by kernel_rfl) (by kernel_rfl) (fun _ _ _ h => h) (Or.inr ⟨by rfl, rfl⟩) hHeld ?_
            simp only [Act.put, List.setIfInBounds_toArray, List.set_cons_zero, List.set_cons_succ]
            refine wpAnyH_take (i := 8) (oi := { dst := some 21, op := Op.load 32 (Operand.tmp 20), type := 32, pos := "nets.go:194", after := #[{ on := 7, ground := Ground.data }, { on := 4, ground := Ground.guard }], guard := some (4, true) }) (v := undef) rfl (by kernel_rfl) (by kernel_rfl) (by kernel_rfl) (fun _ _ _ h => h) (Or.inr ⟨by rfl, rfl⟩) hHeld ?_
            simp only [Act.put, List.setIfInBounds_toArray, List.set_cons_zero, List.set_cons_succ]
            refine wpAnyH_take (i := 9) (oi := { dst := some 22, op := Op.move (Operand.tmp 0), type := 22, pos := "nets.go:194", after := #[{ on := 4, ground := Ground.guard }], guard := some (4, true) }) (v := undef) rfl (by kernel_rfl) (by kernel_rfl) (by kernel_rfl) (fun _ _ _ h => h) (Or.inr ⟨by rfl, rfl⟩) hHeld ?_
            simp only [Act.put, List.setIfInBounds_toArray, List.set_cons_zero, List.set_cons_succ]
            refine wpAnyH_take (i := 10) (oi := { dst := some 23, op := Op.move (Operand.tmp 4), type := 3, pos := "nets.go:194", after := #[{ on := 4, ground := Ground.guard }], guard := some (4, true) }) (v := undef) rfl (by kernel_rfl) (by kernel_rfl) (by kernel_rfl) (fun _ _ _ h => h) (Or.inr ⟨by rfl, rfl⟩) hHeld ?_
            simp only [Act.put, List.setIfInBounds_toArray, List.set_cons_zero, List.set_cons_succ]
            refine wpAnyH_take (i := 11) (oi := { dst := some 24, op := Op.indexAddr 22 (Operand.tmp 22) (Operand.tmp 23), type := 0, pos := "nets.go:194", after := #[{ on := 9, ground := Ground.data }, { on := 10, ground := Ground.data }, { on := 4, ground := Ground.guard }], guard := some (4, true) }) (v := undef) rfl (by kernel_rfl) (by kernel_rfl) (by kernel_rfl) (fun _ _ _ h => h) (Or.inr ⟨by rfl, rfl⟩) hHeld ?_
            simp only [Act.put, List.setIfInBounds_toArray, List.set_cons_zero, List.set_cons_succ]
            refine wpAnyH_take (i := 12) (oi := { dst := some 25, op := Op.load 32 (Operand.tmp 24), type := 32, pos := "nets.go:194", after := #[{ on := 11, ground := Ground.data }, { on := 4, ground := Ground.guard }], guard := some (4, true) }) (v := undef) rfl (by kernel_rfl) (by kernel_rfl) (by kernel_rfl) (fun _ _ _ h => h) (Or.inr ⟨by rfl, rfl⟩) hHeld ?_
            simp only [Act.put, List.setIfInBounds_toArray, List.set_cons_zero, List.set_cons_succ]
            refine wpAnyH_take (i := 13) (oi := { dst := some 26, op := Op.call { callee := Callee.value (Operand.func 35), args := #[Operand.tmp 21, Operand.tmp 25], argTypes := #[32, 32] }, type := 4, pos := "nets.go:194", after := #[{ on := 8, ground := Ground.data }, { on := 12, ground := Ground.data }, { on := 4, ground := Ground.chain }, { on := 4, ground := Ground.guard }], guard := some (4, true) }) (v := undef) rfl (by kernel_rfl) (by kernel_rfl) (by kernel_rfl) (fun _ _ _ h => h) (Or.inr ⟨by rfl, rfl⟩) hHeld ?_
            simp only [Act.put, List.setIfInBounds_toArray, List.set_cons_zero, List.set_cons_succ]
            refine wpAnyH_take (i := 14) (oi := { dst := some 27, op := Op.pick (Operand.tmp 17) (Operand.tmp 26) (Operand.const (Value.bool false)), type := 4, pos := "nets.go:194", after := #[{ on := 4, ground := Ground.data }, { on := 13, ground := Ground.data }], guard := none }) (v := ?_) rfl (by kernel_rfl) (by kernel_rfl) (by kernel_rfl) (fun _ _ _ h => h) (Or.inl ⟨by rfl, ?_⟩) hHeld ?_
            rotate_left
            · (intro w hSw; (try dsimp only at hSw); go_simp; first | done | with_reducible rfl)
            simp only [Act.put, List.setIfInBounds_toArray, List.set_cons_zero, List.set_cons_succ]
            refine wpAnyH_done (by kernel_rfl) ?_ _
            have HW := Lib.hid hHeld
            clear hHeld
            generalize wr.drew = w9 at *
            have hz : w.heap.size ≤ V.heap.size := HB.out.size
            have hz9 : V.heap.size ≤ w9.heap.size := HW.out.size
            have hkc : k ≤ cap := by omega
            have hkc2 : (k : Int) ≤ (cap : Int) := by omega
            have HSW := Lib.hid (HSG.out.below HW.out HGL.out)
            have hgW : g < w9.heap.size := Nat.lt_of_lt_of_le HGL.out hz9
            have hlt1 : (co.take k).length = k := by rw [List.length_take]; omega
            have hld1 : (co.drop k).length = i - k := by rw [List.length_drop]; omega
            go_wp2_with (at_builtin; refine wpList_plain rfl fun _ hK => wp_append_arg _ _ rfl w9.heap.size (.slice none 0 0) (.slice (some ⟨g, 0, none⟩) k cap) [] (co.take k) rfl rfl ?b1 ?b2 (by rw [hlt1]; simp; omega) ?b3 ?b4)
            case b1 => exact World.ownsRow_nil _ _ _ _
            case b2 => exact ⟨g, 0, cap, by rw [hlt1], HSW.out.take k (by omega)⟩
            case b3 => exact Nat.le_refl _
            intro v1 w10 hO bA
            refine hK _ _ ?_
            clear hK
            have HO1 := Lib.hid hO; have HA1 := Lib.hid bA
            have hz10 := bA.size
            obtain ⟨s0, s1⟩ := HX.out w10 ((Below.two HB.out HW.out).trans (bA.mono (by omega)))
            clear hO bA
            have bV : Below w10.heap.size w10 (w10.alloc (.cells #[.int .u32 (x.1 : Int), .int .i64 x.2] 32)) := (Below.refl _ _).alloc (Nat.le_refl _) _
            go_wp2_with (at_builtin; refine wpList_plain rfl fun _ hK => wp_append_one _ _ rfl w9.heap.size v1 (co.take k) x w10.heap.size 1 rfl rfl ?b5 ?b6 (by rw [hlt1]; omega) ?b7 ?b8)
            case b5 => exact HO1.out.keep bV
            case b6 => exact Box.new w10 (Nt.v0 x) (Nt.v1 x) 32
            case b7 => exact Nat.le_trans hz10 bV.size
            intro v2 w11 hO hg _
            refine hK _ _ ?_
            clear hK
            have bB : Below w9.heap.size w10 w11 := (bV.mono hz10).trans (grown_below0 hg (Nat.le_trans hz10 bV.size) (fun q hq => (World.ownsRow.lt HO1.out q hq).1))
            have HO2 := Lib.hid hO; have HA2 := Lib.hid (HA1.out.trans bB)
            have hz11 := HA2.out.size
            have HSW2 := Lib.hid ((HSW.out.below HA2.out hgW).drop k)
            clear hO hg bB s0 s1 bV
            obtain ⟨oo, hif⟩ : ∃ oo, (if cap = k then some (⟨g, 0, none⟩ : Addr) else some ⟨g, k * 2, none⟩) = some ⟨g, oo, none⟩ := by split <;> exact ⟨_, rfl⟩
            have hl2 : (co.take k ++ [x]).length = k + 1 := by rw [List.length_append, hlt1]; rfl
            go_wp2_with (at_builtin; refine wpList_plain rfl fun _ hK => wp_append_arg _ _ rfl w9.heap.size v2 (.slice (some ⟨g, oo, none⟩) 0 (cap - k)) (co.take k ++ [x]) (co.drop k) rfl rfl ?b9 ?b10 (by rw [hl2, hld1]; omega) ?b11 ?b12)
            case b9 => exact HO2.out
            case b10 =>
              have hd0 : co.drop k = [] := List.drop_eq_nil_of_le (by omega)
              rw [hd0]
              exact ⟨g, oo, cap - k, rfl, ⟨fun i h => by simp at h, fun i h => by simp at h⟩⟩
            case b11 => exact hz11
            intro v3 w12 hO bC
            refine hK _ _ ?_
            clear hK
            have e3 : co.take k ++ x :: co.drop k = ordN (l.take (i + 1)) := by rw [HT.out, HIN.out]
            rw [e3] at hO
            have HO3 := Lib.hid (Own.down hO (show w.heap.size ≤ w9.heap.size by omega)); have HA3 := Lib.hid ((Below.two HB.out HW.out).trans ((HA2.out.trans bC).mono (by omega)))
            have hl3 := ordN_len l (i + 1) (by omega)
            obtain ⟨g3, cap3, hv3, hc3, hg3, hs3⟩ := own_some HO3.out (by omega)
            rw [hl3] at hv3 hc3
            subst hv3
            clear hO bC
            go_wp2_with fail
            go_roundw
            case rel => exact ⟨i + 1, by go_num, by omega, Lib.hid (Or.inr ⟨g3, cap3, rfl, hc3, hg3, hs3⟩), HO3, HA3⟩
            case measure => simp [RowKit.intOf]; omega
    · obtain rfl : i = l.length := by omega
      rw [List.take_length] at HO HC
      go_wp2_with fail
      go_ret
      exact ⟨_, rfl, HO.out, HB.out⟩
end Go.Proofs.YtbdmfcnlfmnmdaaDoor
