/-
  LISTS OF NUMBERS copied by the statements' own ints; a row written over by spoil.
-/
import Derived.Test.YtjgpibchnpodjaaDoorIntList
import Derived.Laws.MakeOwn
import Derived.Deep.RegionHeld3
namespace Go.Proofs.YtjgpibchnpodjaaDoor
open Go.RowKit Go.Lib

theorem infoI_is : Tryd.prog.info? 3 = some infoI := by kernel_rfl
set_option maxRecDepth 100000 in
theorem run_append_noneI (w : World) (ty : TypeId) (base : Nat) (v0 : Value) (c : Nat) (h0 : OwnI w base v0 []) :
    (Builtin.append_ #[23, 23] ty #[v0, .slice none 0 c]).run Tryd.prog w = .ok v0 w := by
  have ht : Tryd.prog.underlying 23 = some (.slice 3) := by kernel_rfl
  have hi := infoI_is
  rcases h0.2 with ⟨rfl, _⟩ | ⟨g, cap, cur, rfl, _, _, hnc, _⟩
  · simp [Builtin.append_, run_underlying ht, sizeOf, typeInfo, hi, Builtin.lenOf, Builtin.firstCells]
  · simp [Builtin.append_, run_underlying ht, sizeOf, typeInfo, hi, Builtin.lenOf, Builtin.firstCells, storeCells]
theorem SeenI.cells {w : World} {b off : Nat} {l : List Int} (h : SeenI w b off l) : ∀ j u, (cellsI l)[j]? = some u → w.cell? ⟨b, off + j, none⟩ = some u := by
  intro j u hj
  have hl : j < l.length := by
    have := (List.getElem?_eq_some_iff.1 hj).1
    rwa [cellsI_len] at this
  rw [h j hl]
  simp only [cellsI, List.getElem?_map, List.getElem?_eq_getElem hl, Option.map_some, Option.some.injEq] at hj
  rw [← hj, getElem!_pos l j hl]
/-- A list copied. -/
theorem wpl_copyI {ops : Array Oper} {rest : List Oper} {o : Oper} {a : Act} {Q : Exit → Act → World → Prop} {w : World} (hgd : o.guard = none) (s x : Operand) (ho : o.op = .call { callee := .builtin .append, args := #[s, x], argTypes := #[23, 23] })
    (base : Nat) (v0 v1 : Value) (l : List Int) (hs : a.eval s = v0) (hx : a.eval x = v1) (h0 : OwnI w base v0 []) (h1 : ArgI w v1 l) (hlen : l.length * 8 ≤ 140737488355328) (hbase : base ≤ w.heap.size)
    (h : ∀ v' w', OwnI w' base v' l → Below base w w' → wpList Tryd.prog ops Q rest (a.put o.dst v') w') : wpList Tryd.prog ops Q (o :: rest) a w := by
  have some_ : ∀ (ad : Addr) (c : Nat), v1 = .slice (some ad) l.length c → (∀ j u, (cellsI l)[j]? = some u → w.cell? (ad.add j) = some u) → wpList Tryd.prog ops Q (o :: rest) a w := by
    intro ad c hv hc
    refine wpList_append_own w hgd s x 23 ho base 3 infoI (.int .i64 0) 1 8 (by kernel_rfl) infoI_is (by kernel_rfl) infoI_size (by kernel_rfl) (by kernel_rfl) (by omega) v0 0 [] hs h0 ad l.length c (cellsI l) (hx.trans hv) (by rw [cellsI_len]; omega) hc (cellsI_one l) (by simp only [maxLen]; omega) (by omega) hbase ?_
    intro v' w' hown hgrow _
    refine h v' w' (by simpa [OwnI] using hown) ((Below.refl _ w).grown hgrow hbase ?_)
    intro q hq
    exact (World.ownsRow.lt h0 q hq).1
  obtain ⟨p, c, rfl, h1⟩ := h1
  rcases h1 with rfl | ⟨b, off, rfl, _, hS⟩
  · cases p with
    | none =>
      refine wpList_plain hgd fun K' hK' => ?_
      have hrun := run_append_noneI w o.type base v0 c h0
      unfold Oper.wp execOp
      simp only [ho, resolve, invoke, builtin, Sem.run_bind, Sem.run_pure, Result.andThen_ok, List.map_toArray, List.map_cons, List.map_nil, hs, hx, List.length_nil, hrun]
      exact hK' _ _ (h v0 w h0 (Below.refl _ _))
    | some ad => exact some_ ad c rfl (fun j u hu => by simp [cellsI] at hu)
  · exact some_ ⟨b, off, none⟩ c rfl (fun j u hu => by rw [Addr.add_lit]; exact hS.cells j u hu)

set_option maxHeartbeats 1000000 in
set_option maxRecDepth 100000 in
/-- waywardenlaw7.ints. -/
theorem intsCopy_any (w : World) (v : Value) (l : List Int) (hn : l.length * 8 ≤ 140737488355328) (h : ArgI w v l) :
    Calls Tryd.prog 16 #[v] w fun e w' => ∃ u, e = .returned u ∧ OwnI w' w.heap.size u l ∧ Below w.heap.size w w' := by
  have BA := (Below.refl w.heap.size w).alloc (Nat.le_refl _) (.cells #[] 3)
  have HA := Lib.hid (h.below BA)
  have HBA := Lib.hid BA
  obtain ⟨p, c, rfl, _⟩ := h
  clear BA
  go_enter Tryd.func16, Tryd.ntmps16
  go_wp2_with (at_builtin; refine wpl_copyI rfl _ _ rfl w.heap.size _ _ l rfl rfl (World.ownsRow_made w #[] 0 (Nat.le_refl _) (Nat.zero_le _) (by simp)) HA.out hn (by simp) ?_; intro v1 w1 hO1 hb1)
  have HB1 := Lib.hid (HBA.out.trans hb1)
  have HO := Lib.hid hO1
  clear hO1 hb1
  go_wp2_with fail
  go_ret
  exact ⟨_, rfl, HO.out, HB1.out⟩

/-- But block g all is as it was. -/
structure But (g : Nat) (w w1 : World) : Prop where
  below : Below g w w1
  size : w1.heap.size = w.heap.size
  cell : ∀ a : Addr, a.block ≠ g → w1.cell? a = w.cell? a
  frozen : ∀ a : Addr, w1.frozen? a = w.frozen? a
theorem But.refl (g : Nat) (w : World) : But g w w := ⟨Below.refl _ _, rfl, fun _ _ => rfl, fun _ => rfl⟩
theorem But.set {g : Nat} {w w1 : World} (h : But g w w1) (i : Nat) (v : Value) : But g w (w1.setCell ⟨g, i, none⟩ v) :=
  ⟨h.below.setCell (p := ⟨g, i, none⟩) (Nat.le_refl _) v, by simpa [World.setCell] using h.size, fun a ha => (World.cell?_setCell_other _ _ _ _ (fun e => ha (by rw [← e]))).trans (h.cell a ha), fun a => by rw [World.frozen?_setCell]; exact h.frozen a⟩
set_option maxHeartbeats 1000000 in
set_option maxRecDepth 100000 in
/-- waywardenlaw7.spoil at a row of a grid. -/
theorem spoil_any (w : World) (g n : Nat) (x : Int) (hn : n < 4611686018427387904) (hc : ∀ i, i < n → ∃ u, w.cell? ⟨g, i, none⟩ = some u) (hf : ∀ i, w.frozen? ⟨g, i, none⟩ = false) :
    Calls Tryd.prog 18 #[.slice (some ⟨g, 0, none⟩) n n, .int .i64 x] w fun e w' => e = .returned (.tuple #[]) ∧ But g w w' := by
  have HC := Lib.hid hc; have HF := Lib.hid hf
  clear hc hf
  go_enter Tryd.func18, Tryd.ntmps18
  go_wp2_with fail
  go_loopw [4] (fun v wr => ∃ (k : Nat), v = .int .i64 k ∧ k ≤ n ∧ Hid (But g w wr) ∧ Hid (∀ i, i < n → ∃ u, wr.cell? ⟨g, i, none⟩ = some u)) (fun v _ => n - (RowKit.intOf v).toNat)
  case atStart => exact ⟨0, rfl, Nat.zero_le _, Lib.hid (But.refl _ _), HC⟩
  case round =>
    clear HC
    obtain ⟨k, rfl, hk, hB, HC⟩ := hrel
    by_cases hkn : k < n
    · obtain ⟨u, hu⟩ := HC.out k hkn
      have hf := (hB.out.frozen ⟨g, k, none⟩).trans (HF.out k)
      go_wp2_with fail
      go_roundw
      case rel =>
        refine ⟨k + 1, by go_num, by omega, Lib.hid (hB.out.set k _), Lib.hid fun i hi => ?_⟩
        obtain ⟨u', hu'⟩ := HC.out i hi
        exact ⟨_, set_if wr g i k _ u' hu'⟩
      case measure => simp [RowKit.intOf]; omega
    · go_wp2_with fail
      go_end0
      exact ⟨rfl, hB.out⟩
end Go.Proofs.YtjgpibchnpodjaaDoor
