/-
  LISTS OF NUMBERS and of rows copied by the statements' own ints and rows; a row written over by spoil.
-/
import Derived.Test.YtobfidlfgdlilaaRowsOwn
import Derived.Test.YtobfidlfgdlilaaGrid
import Derived.Deep.RegionHeld3
namespace Go.Proofs.Ytobfidlfgdlilaa
open Go.RowKit Go.Lib

theorem infoI_is : Try.prog.info? 3 = some infoI := by kernel_rfl
set_option maxRecDepth 100000 in
theorem run_append_noneI (w : World) (ty : TypeId) (base : Nat) (v0 : Value) (c : Nat) (h0 : OwnI w base v0 []) :
    (Builtin.append_ #[32, 32] ty #[v0, .slice none 0 c]).run Try.prog w = .ok v0 w := by
  have ht : Try.prog.underlying 32 = some (.slice 3) := by kernel_rfl
  have hi := infoI_is
  rcases h0.2 with ⟨rfl, _⟩ | ⟨g, cap, cur, rfl, _, _, hnc, _⟩
  · simp [Builtin.append_, run_underlying ht, sizeOf, typeInfo, hi, Builtin.lenOf, Builtin.firstCells]
  · simp [Builtin.append_, run_underlying ht, sizeOf, typeInfo, hi, Builtin.lenOf, Builtin.firstCells, storeCells]
theorem SeenI.cells {w : World} {b off : Nat} {l : List Int} (h : SeenI w b off l) : ∀ j u, (cellsI l)[j]? = some u → w.cell? ⟨b, off + j, none⟩ = some u := by
  intro j u hj
  have hl : j < l.length := by
    have := (List.getElem?_eq_some_iff.1 hj).1
    rwa [cellsI_len] at this
  rw [h j hl]
  simp only [cellsI, List.getElem?_map, List.getElem?_eq_getElem hl, Option.map_some, Option.some.injEq] at hj
  rw [← hj, getElem!_pos l j hl]
/-- A list copied. -/
theorem wpl_copyI {ops : Array Oper} {rest : List Oper} {o : Oper} {a : Act} {Q : Exit → Act → World → Prop} {w : World} (hgd : o.guard = none) (s x : Operand) (ho : o.op = .call { callee := .builtin .append, args := #[s, x], argTypes := #[32, 32] })
    (base : Nat) (v0 v1 : Value) (l : List Int) (hs : a.eval s = v0) (hx : a.eval x = v1) (h0 : OwnI w base v0 []) (h1 : ArgI w v1 l) (hlen : l.length * 8 ≤ 140737488355328) (hbase : base ≤ w.heap.size)
    (h : ∀ v' w', OwnI w' base v' l → Below base w w' → wpList Try.prog ops Q rest (a.put o.dst v') w') : wpList Try.prog ops Q (o :: rest) a w := by
  have some_ : ∀ (ad : Addr) (c : Nat), v1 = .slice (some ad) l.length c → (∀ j u, (cellsI l)[j]? = some u → w.cell? (ad.add j) = some u) → wpList Try.prog ops Q (o :: rest) a w := by
    intro ad c hv hc
    refine wpList_append_own w hgd s x 32 ho base 3 infoI (.int .i64 0) 1 8 (by kernel_rfl) infoI_is (by kernel_rfl) infoI_size (by kernel_rfl) (by kernel_rfl) (by omega) v0 0 [] hs h0 ad l.length c (cellsI l) (hx.trans hv) (by rw [cellsI_len]; omega) hc (cellsI_one l) (by simp only [maxLen]; omega) (by omega) hbase ?_
    intro v' w' hown hgrow _
    refine h v' w' (by simpa [OwnI] using hown) ((Below.refl _ w).grown hgrow hbase ?_)
    intro q hq
    exact (World.ownsRow.lt h0 q hq).1
  obtain ⟨p, c, rfl, h1⟩ := h1
  rcases h1 with rfl | ⟨b, off, rfl, _, hS⟩
  · cases p with
    | none =>
      refine wpList_plain hgd fun K' hK' => ?_
      have hrun := run_append_noneI w o.type base v0 c h0
      unfold Oper.wp execOp
      simp only [ho, resolve, invoke, builtin, Sem.run_bind, Sem.run_pure, Result.andThen_ok, List.map_toArray, List.map_cons, List.map_nil, hs, hx, List.length_nil, hrun]
      exact hK' _ _ (h v0 w h0 (Below.refl _ _))
    | some ad => exact some_ ad c rfl (fun j u hu => by simp [cellsI] at hu)
  · exact some_ ⟨b, off, none⟩ c rfl (fun j u hu => by rw [Addr.add_lit]; exact hS.cells j u hu)

set_option maxHeartbeats 1000000 in
set_option maxRecDepth 100000 in
/-- waywardenlaw7.ints. -/
theorem intsCopy_any (w : World) (v : Value) (l : List Int) (hn : l.length * 8 ≤ 140737488355328) (h : ArgI w v l) :
    Calls Try.prog 24 #[v] w fun e w' => ∃ u, e = .returned u ∧ OwnI w' w.heap.size u l ∧ Below w.heap.size w w' := by
  have BA := (Below.refl w.heap.size w).alloc (Nat.le_refl _) (.cells #[] 3)
  have HA := Lib.hid (h.below BA)
  have HBA := Lib.hid BA
  obtain ⟨p, c, rfl, _⟩ := h
  clear BA
  go_enter Try.func24, Try.ntmps24
  go_wp2_with (at_builtin; refine wpl_copyI rfl _ _ rfl w.heap.size _ _ l rfl rfl (World.ownsRow_made w #[] 0 (Nat.le_refl _) (Nat.zero_le _) (by simp)) HA.out hn (by simp) ?_; intro v1 w1 hO1 hb1)
  have HB1 := Lib.hid (HBA.out.trans hb1)
  have HO := Lib.hid hO1
  clear hO1 hb1
  go_wp2_with fail
  go_ret
  exact ⟨_, rfl, HO.out, HB1.out⟩

set_option maxHeartbeats 1000000 in
set_option maxRecDepth 100000 in
/-- waywardenlaw7.rows at at least one row. -/
theorem rowsCopy_some (w : World) (b off c : Nat) (M : List (List Int)) (hn : M.length * 24 ≤ 140737488351232) (hr : ∀ r ∈ M, r.length * 8 ≤ 140737488351232) (hb : b < w.heap.size) (hs : SeenR w b off M) :
    Calls Try.prog 15 #[.slice (some ⟨b, off, none⟩) M.length c] w fun e w' => ∃ u, e = .returned u ∧ OwnR w' w.heap.size u M ∧ Below w.heap.size w w' := by
  have HS := Lib.hid hs; have HR := Lib.hid hr
  clear hs hr
  go_enter Try.func15, Try.ntmps15
  go_wp2_with fail
  go_loopw [3, 4] (fun u x wr => ∃ (k : Nat), x = .int .i64 k ∧ k ≤ M.length ∧ Hid (Below w.heap.size w wr) ∧ Hid (OwnR wr w.heap.size u (M.take k))) (fun _ x _ => M.length - (RowKit.intOf x).toNat)
  case atStart => exact ⟨0, rfl, Nat.zero_le _, Lib.hid (Below.refl _ _), Lib.hid (OwnR.nil _ _)⟩
  case round =>
    obtain ⟨k, rfl, hk, hB, HO⟩ := hrel
    by_cases hkn : k < M.length
    · obtain ⟨v, a0, hv⟩ := (HS.out.below hB.out hb) k hkn
      have hl : M[k]!.length * 8 ≤ 140737488355328 := by
        have := HR.out _ (show M[k]! ∈ M by rw [getElem!_pos M k hkn]; exact List.getElem_mem hkn)
        omega
      have HC := Lib.hid (intsCopy_any wr v M[k]! hl hv)
      have HT : Hid (M.take (k + 1) = M.take k ++ [M[k]!]) := Lib.hid (by rw [List.take_succ_eq_append_getElem hkn, ← getElem!_pos M k hkn])
      have HLen : Hid ((M.take k).length = k) := Lib.hid (by rw [List.length_take]; omega)
      generalize M[k]! = r at HC HT
      clear hv hl
      go_wp2_with fail
      refine HC.out.mono ?_
      rintro e w3 ⟨v3, rfl, hO3, hb3⟩
      obtain ⟨p7, c7, rfl, _⟩ := id hO3.arg
      have HB3 := Lib.hid (Below.two hB.out hb3)
      have HR2 := Lib.hid ((HO.out.keep hb3).keep ((Below.refl w3.heap.size w3).alloc (Nat.le_refl _) (.cells #[.slice p7 r.length c7] 32)))
      have HI2 := Lib.hid ((hO3.down hB.out.size).keep ((Below.refl w3.heap.size w3).alloc (Nat.le_refl _) (.cells #[.slice p7 r.length c7] 32)))
      clear hO3 hb3
      go_wp2_with (at_builtin; refine wpl_append_oneR rfl _ _ rfl w.heap.size _ _ (.slice p7 r.length c7) _ w3.heap.size 1 rfl rfl HR2.out HI2.out (by simp) (by rw [HLen.out]; omega) (Nat.le_trans HB3.out.size (by simp)) ?_; intro v' w4 hO4 hg4)
      go_roundw
      case rel => exact ⟨k + 1, by go_num, by omega, Lib.hid ((HB3.out.alloc HB3.out.size _).grown hg4 (Nat.le_trans HB3.out.size (by simp)) HO.out.past), Lib.hid (by rw [HT.out]; exact hO4)⟩
      case measure => simp [RowKit.intOf]; omega
    · have e : M.take k = M := List.take_of_length_le (by omega)
      rw [e] at HO
      go_wp2_with fail
      go_ret
      exact ⟨_, rfl, HO.out, hB.out⟩
set_option maxHeartbeats 400000 in
set_option maxRecDepth 100000 in
theorem rowsCopy_none (w : World) (p : Option Addr) (c : Nat) :
    Calls Try.prog 15 #[.slice p 0 c] w fun e w' => ∃ u, e = .returned u ∧ OwnR w' w.heap.size u [] ∧ Below w.heap.size w w' := by
  go_enter Try.func15, Try.ntmps15
  go_wp2_with fail
  refine wp_loop_rounds 1 ?_
  rw [rounds_succ]
  go_wp2_with fail
  go_ret
  exact ⟨_, rfl, OwnR.nil _ _, Below.refl _ _⟩
/-- waywardenlaw7.rows. -/
theorem rowsCopy_any (w : World) (v : Value) (M : List (List Int)) (hn : M.length * 24 ≤ 140737488351232 ∧ ∀ r ∈ M, r.length * 8 ≤ 140737488351232) (h : ArgR w v M) :
    Calls Try.prog 15 #[v] w fun e w' => ∃ u, e = .returned u ∧ OwnR w' w.heap.size u M ∧ Below w.heap.size w w' := by
  obtain ⟨p, c, rfl, h⟩ := h
  rcases h with rfl | ⟨b, off, rfl, hb, hs⟩
  · exact rowsCopy_none w p c
  · exact rowsCopy_some w b off c M hn.1 hn.2 hb hs

/-- But block g all is as it was. -/
structure But (g : Nat) (w w1 : World) : Prop where
  below : Below g w w1
  size : w1.heap.size = w.heap.size
  cell : ∀ a : Addr, a.block ≠ g → w1.cell? a = w.cell? a
  frozen : ∀ a : Addr, w1.frozen? a = w.frozen? a
theorem But.refl (g : Nat) (w : World) : But g w w := ⟨Below.refl _ _, rfl, fun _ _ => rfl, fun _ => rfl⟩
theorem But.set {g : Nat} {w w1 : World} (h : But g w w1) (i : Nat) (v : Value) : But g w (w1.setCell ⟨g, i, none⟩ v) :=
  ⟨h.below.setCell (p := ⟨g, i, none⟩) (Nat.le_refl _) v, by simpa [World.setCell] using h.size, fun a ha => (World.cell?_setCell_other _ _ _ _ (fun e => ha (by rw [← e]))).trans (h.cell a ha), fun a => by rw [World.frozen?_setCell]; exact h.frozen a⟩
/-- A grid that is elsewhere. -/
theorem Grid.but {w w1 : World} {b n k g : Nat} {f : Nat → Nat → Int} (h : Grid w b n k f) (hb : But g w w1) (hg : g < b ∨ b + k < g) : Grid w1 b n k f :=
  ⟨by rw [hb.size]; exact h.lt, fun i hi => (hb.cell _ (show b ≠ g by omega)).trans (h.o i hi), fun i hi hn => (hb.cell _ (show b ≠ g by omega)).trans (h.r i hi hn), fun i => (hb.frozen _).trans (h.fo i),
    fun i hi j hj => (hb.cell _ (show b + 1 + i ≠ g by omega)).trans (h.e i hi j hj), fun i hi j => (hb.frozen _).trans (h.fe i hi j)⟩
/-- A grid whose row p is that block: all other rows are as they were. -/
theorem Grid.butRow {w w1 : World} {b n k p : Nat} {f : Nat → Nat → Int} (h : Grid w b n k f) (hb : But (b + 1 + p) w w1) (i : Nat) (hi : i < k) (hp : i ≠ p) : w1.cell? ⟨b, i, none⟩ = some (.slice (some ⟨b + 1 + i, 0, none⟩) n n) ∧ (∀ j, j < n → w1.cell? ⟨b + 1 + i, j, none⟩ = some (.int .i64 (f i j))) ∧ b + 1 + i < w1.heap.size :=
  ⟨(hb.cell _ (show b ≠ b + 1 + p by omega)).trans (h.o i hi), fun j hj => (hb.cell _ (show b + 1 + i ≠ b + 1 + p by omega)).trans (h.e i hi j hj), by rw [hb.size]; have := h.lt; omega⟩

set_option maxHeartbeats 1000000 in
set_option maxRecDepth 100000 in
/-- waywardenlaw7.spoil at a row of a grid. -/
theorem spoil_any (w : World) (g n : Nat) (x : Int) (hn : n < 4611686018427387904) (hc : ∀ i, i < n → ∃ u, w.cell? ⟨g, i, none⟩ = some u) (hf : ∀ i, w.frozen? ⟨g, i, none⟩ = false) :
    Calls Try.prog 16 #[.slice (some ⟨g, 0, none⟩) n n, .int .i64 x] w fun e w' => e = .returned (.tuple #[]) ∧ But g w w' := by
  have HC := Lib.hid hc; have HF := Lib.hid hf
  clear hc hf
  go_enter Try.func16, Try.ntmps16
  go_wp2_with fail
  go_loopw [4] (fun v wr => ∃ (k : Nat), v = .int .i64 k ∧ k ≤ n ∧ Hid (But g w wr) ∧ Hid (∀ i, i < n → ∃ u, wr.cell? ⟨g, i, none⟩ = some u)) (fun v _ => n - (RowKit.intOf v).toNat)
  case atStart => exact ⟨0, rfl, Nat.zero_le _, Lib.hid (But.refl _ _), HC⟩
  case round =>
    clear HC
    obtain ⟨k, rfl, hk, hB, HC⟩ := hrel
    by_cases hkn : k < n
    · obtain ⟨u, hu⟩ := HC.out k hkn
      have hf := (hB.out.frozen ⟨g, k, none⟩).trans (HF.out k)
      go_wp2_with fail
      go_roundw
      case rel =>
        refine ⟨k + 1, by go_num, by omega, Lib.hid (hB.out.set k _), Lib.hid fun i hi => ?_⟩
        obtain ⟨u', hu'⟩ := HC.out i hi
        exact ⟨_, set_if wr g i k _ u' hu'⟩
      case measure => simp [RowKit.intOf]; omega
    · go_wp2_with fail
      go_end0
      exact ⟨rfl, hB.out⟩
end Go.Proofs.Ytobfidlfgdlilaa
