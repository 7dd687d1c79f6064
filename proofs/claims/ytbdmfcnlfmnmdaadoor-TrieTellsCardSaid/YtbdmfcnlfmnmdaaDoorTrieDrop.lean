/-
  (*trie.Table).Drop at every table and every network.
-/
import Derived.Test.YtbdmfcnlfmnmdaaDoorTriePrune
import Derived.Test.YtbdmfcnlfmnmdaaDoorTrieGet
namespace Go.Proofs.YtbdmfcnlfmnmdaaDoor
open Go.RowKit

set_option maxHeartbeats 1000000 in
set_option maxRecDepth 100000 in
theorem drop_bad (w : World) (tb : Nat) (a : Nat) (z : Int) (ha : a < 4294967296) (h : PrefP.chk a z ≠ 0) :
    Calls Tryd.prog 14 #[.pointer (some ⟨tb, 0, none⟩), .agg #[.int .u32 a, .int .i64 z]] w fun e w' => e = .returned (.iface 29 (.int .i64 (PrefP.chk a z))) ∧ Below w.heap.size w w' := by
  have HC := Lib.hid (check1_any a z ha)
  have HE := Lib.hid (errV_pos h)
  clear h
  generalize PrefP.chk a z = k at HC HE ⊢
  go_enter Tryd.func14, Tryd.ntmps14
  go_wp2_with fail
  refine (HC.out _).mono ?_
  rintro e w1 ⟨rfl, hb⟩
  rw [HE.out]
  have hB := (box1 hb).2
  clear hb
  go_wp2_with fail
  go_ret
  exact ⟨rfl, hB⟩

set_option maxHeartbeats 1000000 in
set_option maxRecDepth 100000 in
theorem drop_none (w : World) (M : Tm) (tb : Nat) (c : Int) (a n : Nat) (ha : a < 4294967296) (hn : n ≤ 32) (hc : PrefP.cut a n = a) (h : Tri w M tb c) (hl : M.look a n = none) :
    Calls Tryd.prog 14 #[.pointer (some ⟨tb, 0, none⟩), .agg #[.int .u32 a, .int .i64 n]] w fun e w' => e = .returned (.iface 29 (.int .i64 2)) ∧ Below w.heap.size w w' := by
  have HC := Lib.hid (check_ok a n ha hn hc); have HT := Lib.hid h; have HCC := Lib.hid hc
  have HL := Lib.hid hl
  clear h hc hl
  go_enter Tryd.func14, Tryd.ntmps14
  go_wp2_with fail
  refine (HC.out _).mono ?_
  rintro e w1 ⟨rfl, hb⟩
  obtain ⟨⟨l1, c0, c1, f0, f1⟩, hB⟩ := box1 hb; clear hb
  go_wp2_with fail
  refine (lookup_any w1 M tb c a n hn HCC.out (HT.out.below hB)).mono ?_
  rintro e w2 ⟨rfl, hb2⟩
  rw [HL.out, pt_none]
  go_wp2_with fail
  go_ret
  exact ⟨rfl, Below.two hB hb2⟩

set_option maxHeartbeats 2000000 in
set_option maxRecDepth 100000 in
theorem drop_ok (w : World) (M : Tm) (tb : Nat) (c : Int) (a n : Nat) (x : Nd) (ha : a < 4294967296) (hn : n ≤ 32) (hc : PrefP.cut a n = a) (h : Tri w M tb c) (hl : M.look a n = some x) (h0 : 0 < c) (h64 : c ≤ 64) :
    Calls Tryd.prog 14 #[.pointer (some ⟨tb, 0, none⟩), .agg #[.int .u32 a, .int .i64 n]] w fun e w' => e = .returned .nilIface ∧ (∃ M', Pruned (M.upd a n (some ⟨x.b, false, 0⟩)) M' ∧ Tri w' M' tb (c - 1)) ∧ Keep M.Bl w w' := by
  have HC := Lib.hid (check_ok a n ha hn hc); have HT := Lib.hid h; have HCC := Lib.hid hc
  have HL := Lib.hid hl; have HBL := Lib.hid h.blt
  clear h hc hl
  go_enter Tryd.func14, Tryd.ntmps14
  go_wp2_with fail
  refine (HC.out _).mono ?_
  rintro e w1 ⟨rfl, hb⟩
  obtain ⟨BX, hB⟩ := box1 hb; clear hb
  obtain ⟨l1, c0, c1, f0, f1⟩ := id BX
  go_wp2_with fail
  refine (lookup_any w1 M tb c a n hn HCC.out (HT.out.below hB)).mono ?_
  rintro e w2 ⟨rfl, hb2⟩
  rw [HL.out, pt_some]
  have T2 := Lib.hid ((HT.out.below hB).below hb2)
  have HX := Lib.hid (look_is HL.out).1
  have BX2 := Lib.hid (BX.kept hb2); have B2 := Lib.hid (Below.two hB hb2)
  clear BX l1 c0 c1 f0 f1 hB hb2
  have d2 : w2.cell? ⟨x.b, 2, none⟩ = some (.bool x.u) := T2.out.cell _ _ _ HX.out 2 (by decide)
  have d3 : w2.cell? ⟨x.b, 3, none⟩ = some (.int .i64 x.v) := T2.out.cell _ _ _ HX.out 3 (by decide)
  have e2 := T2.out.free _ _ _ HX.out 2
  have e3 := T2.out.free _ _ _ HX.out 3
  have d4 := T2.out.cnt
  obtain ⟨r0, hr0, hrb⟩ := T2.out.root
  have e4 := T2.out.free _ _ _ hr0 4
  rw [hrb] at e4
  have RB := Lib.hid T2.out.rootB
  have T3 := (T2.out.setUV HX.out false 0).count (c - 1)
  have hnb : ¬ M.Bl w.heap.size := fun e => by have := HBL.out _ e; omega
  have K3 : Keep M.Bl w2 (((w2.setCell ⟨x.b, 2, none⟩ (.bool false)).setCell ⟨x.b, 3, none⟩ (.int .i64 0)).setCell ⟨tb, 4, none⟩ (.int .i64 (c - 1))) :=
    ((Keep.setCell M.Bl _ _ _ _ ⟨a, n, x, HX.out, rfl⟩).trans (Keep.setCell M.Bl _ _ _ _ ⟨a, n, x, HX.out, rfl⟩)).trans (Keep.setCell M.Bl _ _ _ _ RB.out)
  have HK3 := Lib.hid K3; have HT3 := Lib.hid T3; have HNM := Lib.hid hnb
  obtain ⟨r, hr, hrb'⟩ := T3.root
  have HR := Lib.hid (show (M.upd a n (some ⟨x.b, false, 0⟩)) (PrefP.cut a 0) 0 = some r by rw [PrefP.cut_zero]; exact hr)
  have HRB := Lib.hid hrb'
  clear hr0 hrb K3 T3 hr hrb' hnb
  go_wp2_with fail
  generalize ((w2.setCell ⟨x.b, 2, none⟩ (.bool false)).setCell ⟨x.b, 3, none⟩ (.int .i64 0)).setCell ⟨tb, 4, none⟩ (.int .i64 (c - 1)) = W3 at *
  have HBX : Hid (Box W3 w.heap.size (.int .u32 a) (.int .i64 n)) := Lib.hid (by
    have e : W3.heap[w.heap.size]? = w2.heap[w.heap.size]? := HK3.out.block w.heap.size BX2.out.lt HNM.out
    exact ⟨Nat.lt_of_lt_of_le BX2.out.lt HK3.out.size, (World.cell?_of_block (w := w2) e).trans BX2.out.c0, (World.cell?_of_block (w := w2) e).trans BX2.out.c1, (World.frozen?_of_block (w := w2) e).trans BX2.out.f0, (World.frozen?_of_block (w := w2) e).trans BX2.out.f1⟩)
  have bl : ∀ b, (M.upd a n (some ⟨x.b, false, 0⟩)).Bl b → M.Bl b := by
    rintro b ⟨a', d', y, hy, rfl⟩
    unfold Tm.upd at hy
    split at hy
    · obtain rfl := Option.some.inj hy
      exact ⟨a, n, x, HX.out, rfl⟩
    · exact ⟨a', d', y, hy, rfl⟩
  have HNB := Lib.hid (show ¬ (M.upd a n (some ⟨x.b, false, 0⟩)).Bl w.heap.size from fun e => HNM.out (bl _ e))
  have HBB := Lib.hid bl
  have htb : tb = r.b := HRB.out.symm
  clear bl d2 d3 e2 e3 d4 e4
  refine wp_region_held_drew (S := (fun w' => w'.cell? ⟨w.heap.size, 0, none⟩ = some (.int .u32 (a : Int)) ∧ w'.cell? ⟨w.heap.size, 1, none⟩ = some (.int .i64 n))) (by kernel_rfl) ⟨HBX.out.c0, HBX.out.c1⟩ (fun hHeld => ?_)
  refine wpAnyH_take (i := 0) (oi := { dst := some 31, op := Op.move (Operand.tmp 0), type := 25, pos := "trie.go:105", after := #[], guard := none }) (v := ?_) rfl (by kernel_rfl) (by kernel_rfl) (by kernel_rfl) (fun _ _ _ h => h) (Or.inl ⟨by rfl, ?_⟩) hHeld ?_
  rotate_left
  · (intro w hSw; (try dsimp only at hSw); go_simp; first | done | with_reducible rfl)
  simp only [Act.put, List.setIfInBounds_toArray, List.set_cons_zero, List.set_cons_succ]
  refine wpAnyH_take (i := 1) (oi := { dst := some 32, op := Op.nilCheck (Operand.tmp 31), type := 0, pos := "trie.go:105", after := #[{ on := 0, ground := Ground.data }], guard := none }) (v := ?_) rfl (by kernel_rfl) (by kernel_rfl) (by kernel_rfl) (fun _ _ _ h => h) (Or.inl ⟨by rfl, ?_⟩) hHeld ?_
  rotate_left
  · (intro w hSw; (try dsimp only at hSw); go_simp; first | done | with_reducible rfl)
  simp only [Act.put, List.setIfInBounds_toArray, List.set_cons_zero, List.set_cons_succ]
  refine wpAnyH_take (i := 2) (oi := { dst := some 33, op := Op.fieldAddr 61 (Operand.tmp 32) 0, type := 0, pos := "trie.go:105", after := #[{ on := 1, ground := Ground.data }], guard := none }) (v := ?_) rfl (by kernel_rfl) (by kernel_rfl) (by kernel_rfl) (fun _ _ _ h => h) (Or.inl ⟨by rfl, ?_⟩) hHeld ?_
  rotate_left
  · (intro w hSw; (try dsimp only at hSw); go_simp; first | done | with_reducible rfl)
  simp only [Act.put, List.setIfInBounds_toArray, List.set_cons_zero, List.set_cons_succ]
  refine wpAnyH_take (i := 3) (oi := { dst := some 34, op := Op.load 32 (Operand.tmp 3), type := 32, pos := "trie.go:105", after := #[], guard := none }) (v := ?_) rfl (by kernel_rfl) (by kernel_rfl) (by kernel_rfl) (fun _ _ _ h => h) (Or.inl ⟨by rfl, ?_⟩) hHeld ?_
  rotate_left
  · (intro w hSw; (try dsimp only at hSw); go_simp; first | done | with_reducible rfl)
  simp only [Act.put, List.setIfInBounds_toArray, List.set_cons_zero, List.set_cons_succ]
  refine wpAnyH_ready (rs := [4]) (by kernel_rfl) (by simp) ?_
  refine AllReadyH.cons (o := { dst := some 35, op := Op.call { callee := Callee.value (Operand.func 29), args := #[Operand.tmp 33, Operand.tmp 34, Operand.const (Value.int IntKind.i64 0)], argTypes := #[56, 32, 3] }, type := 4, pos := "trie.go:105", after := #[{ on := 2, ground := Ground.data }, { on := 3, ground := Ground.data }], guard := none }) rfl (fun K hK => ?_) AllReadyH.nil
  go_simp
  go_at_call 29
  refine (prune_any tb (c - 1) (M.upd a n (some ⟨x.b, false, 0⟩)) a n hn n 0 _ r (by omega) (by omega) HT3.out.drew ⟨_, Tm.upd_same _ _ _ _⟩ HR.out).mono ?_
  rintro e W4 ⟨rb, M4, rfl, hT4, hP4, _, _, hK4⟩
  have HT4 := Lib.hid hT4; have HP4 := Lib.hid hP4; have HK4 := Lib.hid hK4
  have bx : Box W4 w.heap.size (.int .u32 a) (.int .i64 n) := by
    have e : W4.heap[w.heap.size]? = W3.heap[w.heap.size]? := hK4.block w.heap.size HBX.out.lt HNB.out
    exact ⟨Nat.lt_of_lt_of_le HBX.out.lt hK4.size, (World.cell?_of_block (w := W3) e).trans HBX.out.c0, (World.cell?_of_block (w := W3) e).trans HBX.out.c1, (World.frozen?_of_block (w := W3) e).trans HBX.out.f0, (World.frozen?_of_block (w := W3) e).trans HBX.out.f1⟩
  have KK0 : W4.cell? ⟨w.heap.size, 0, none⟩ = some (.int .u32 (a : Int)) ∧ W4.cell? ⟨w.heap.size, 1, none⟩ = some (.int .i64 n) := ⟨bx.c0, bx.c1⟩
  clear hHeld hT4 hP4 hK4 bx
  go_wp2_with fail
  refine hK.out _ _ KK0 (fun hHeld => ?_)
  clear hK K
  refine wpAnyH_done (by kernel_rfl) ?_ _
  clear hHeld
  go_wp2_with fail
  go_ret
  refine ⟨rfl, ⟨M4, HP4.out, HT4.out⟩, ?_⟩
  exact ((Keep.of B2.out).trans HK3.out).trans ((((Keep.refl M.Bl W3).drew).trans (HK4.out.mono HBB.out)))

/-- What dropping makes of a table. -/
def dropF (f : Nt → Option Int) (x : Nt) : Nt → Option Int := if getE f x = 0 then setF f x none else f
theorem drop_any (w : World) (S : Nat → Prop) (tb : Nat) (f : Nt → Option Int) (L : List Nt) (x : Nt) (hx : x.1 < 4294967296) (h : Tab w S tb f L) :
    Calls Tryd.prog 14 #[.pointer (some ⟨tb, 0, none⟩), .agg #[.int .u32 x.1, .int .i64 x.2]] w fun e w' => e = .returned (errV (getE f x)) ∧ (∃ L', Tab w' S tb (dropF f x) L') ∧ Keep S w w' := by
  obtain ⟨a, z⟩ := x
  have hT := h
  obtain ⟨h64L, M, h1, h2, h3, h4, h5⟩ := h
  have stay : ∀ w', Below w.heap.size w w' → Tab w' S tb f L := fun w' hb => hT.below hb
  by_cases hk : PrefP.chk a z = 0
  · obtain ⟨n, rfl, hn, hc⟩ := PrefP.chk_zero a z hk
    have hv := look_val M a n
    have hf : f (a, (n : Int)) = (M.look a n).map fun x => x.v := by rw [h5, hv]
    cases hl : M.look a n with
    | none =>
      rw [hl] at hf
      have hf : f (a, (n : Int)) = none := hf
      have hE : getE f (a, (n : Int)) = 2 := by unfold getE; simp [hk, hf]
      have hF : dropF f (a, (n : Int)) = f := by unfold dropF; rw [hE, if_neg (by decide)]
      refine (drop_none w M tb L.length a n hx hn hc h1 hl).mono ?_
      rintro e w' ⟨rfl, hb⟩
      rw [hE, hF]
      exact ⟨rfl, ⟨L, stay w' hb⟩, Keep.of hb⟩
    | some x =>
      rw [hl] at hf
      have hf : f (a, (n : Int)) = some x.v := hf
      have hE : getE f (a, (n : Int)) = 0 := by unfold getE; simp [hk, hf]
      have hin : (a, (n : Int)) ∈ L := (hT.mem _).2 ⟨_, hf⟩
      have hpos : 0 < L.length := List.length_pos_of_mem hin
      refine (drop_ok w M tb L.length a n x hx hn hc h1 hl (by omega) (by omega)).mono ?_
      rintro e w' ⟨rfl, ⟨M', hP, T'⟩, K'⟩
      have hv' : ∀ m, dropF f (a, (n : Int)) m = M'.val m := fun m => by
        rw [hP.val m, val_upd]
        unfold dropF
        rw [if_pos hE]
        simp only [Bool.false_eq_true, if_false]
        unfold setF
        rw [h5 m]
      have hlen : L.length = M'.list.length + 1 := by
        refine more_len (x := (a, (n : Int))) (rises_nodup (Tm.list_rises T'.ok)) (rises_nodup hT.rises) ?_ fun m => ?_
        · rw [Tm.list_mem T'.ok, ← hv']
          unfold dropF
          rw [if_pos hE, setF_same]; simp
        · rw [Tm.list_mem T'.ok, hT.mem, ← hv' m]
          unfold dropF
          rw [if_pos hE]
          unfold setF
          by_cases em : m = (a, (n : Int))
          · simp [em, hf]
          · simp [em]
      refine ⟨by rw [hE]; rfl, ⟨M'.list, by omega, M', ?_, ?_, ?_, rfl, hv'⟩, K'.mono h2⟩
      · rw [show ((M'.list.length : Nat) : Int) = (L.length : Int) - 1 by omega]; exact T'
      · intro b hb
        obtain ⟨a', d', y, hy, rfl⟩ := hP.bl b hb
        refine h2 _ ?_
        unfold Tm.upd at hy
        split at hy
        · obtain rfl := Option.some.inj hy
          exact ⟨a, n, x, (look_is hl).1, rfl⟩
        · exact ⟨a', d', y, hy, rfl⟩
      · intro b hb
        exact Nat.lt_of_lt_of_le (h3 b hb) K'.size
  · have hE : getE f (a, z) = PrefP.chk a z := by unfold getE; simp [hk]
    have hF : dropF f (a, z) = f := by unfold dropF; rw [hE, if_neg hk]
    refine (drop_bad w tb a z hx hk).mono ?_
    rintro e w' ⟨rfl, hb⟩
    rw [hE, hF, errV_pos hk]
    exact ⟨rfl, ⟨L, stay w' hb⟩, Keep.of hb⟩
end Go.Proofs.YtbdmfcnlfmnmdaaDoor
