/-
  The law TopCut at every number of nodes, every links, a place and two nodes, all there: some of the ways that it goes.
-/
import Derived.Test.YtjgmehmhhplkaaaSpfOne
import Derived.Test.YtjgmehmhhplkaaaSpfLists
import Derived.Test.YtjgmehmhhplkaaaSpfCutPlain
import Derived.Test.YtjgmehmhhplkaaaGraphCut
import Derived.Deep.RegionHeld3
import Derived.Deep.QuietTactic
import Derived.BigQuiet
import Derived.Test.YtjgmehmhhplkaaaTopCutBad
namespace Go.Proofs.Ytjgmehmhhplkaaa
open Go.RowKit Go.Lib

set_option maxHeartbeats 4000000 in
set_option maxRecDepth 100000 in
theorem topCut_3f (w : World) (m t k b : Nat) (v : Value) (l : List Lk) (hn : l.length * 24 ≤ 140737488355328) (h : ArgK w v l) (hg : gBad m l = 0) (ht : t < m) (hk : k < l.length) (hb : b < m) (q0 : t ≠ b) (q1 : BellP.far m (BellP.ct l) t b < 16) (uu : Int) (hF : SpfP.ups m (BellP.ct l) t b = [uu]) (r1 : ¬ uu = l[k]!.1) (r3 : uu = l[k]!.2.1) (r4 : (b : Int) = l[k]!.1) :
    Calls Try.prog 7 #[.int .i64 m, v, .int .i64 k, .int .i64 t, .int .i64 b] w fun e w' => e = .returned (.bool true) ∧ Below w.heap.size w w' := by
  have q0_ := Lib.hid q0
  clear q0
  have q1_ := Lib.hid q1
  clear q1
  have hF_ := Lib.hid hF
  clear hF
  have r1_ := Lib.hid r1
  clear r1
  have r3_ := Lib.hid r3
  clear r3
  have r4_ := Lib.hid r4
  clear r4
  have HL := Lib.hid (h)
  have hR := ((gBad_zero m l).1 hg).2
  have hm := ((gBad_zero m l).1 hg).1
  have HR := Lib.hid hR
  have HMm := Lib.hid (List.getElem_mem hk)
  rw [← getElem!_pos l k hk] at HMm
  obtain ⟨p, c, rfl, hp⟩ := h
  rcases hp with hp | ⟨lb, lo, rfl, hlb, hs⟩
  · exfalso; rw [hp] at hk; exact absurd hk (by simp)
  have h : ArgK w (.slice (some ⟨lb, lo, none⟩) l.length c) l := ⟨_, c, rfl, Or.inr ⟨lb, lo, rfl, hlb, hs⟩⟩
  have HL := Lib.hid h
  have HSK := Lib.hid (And.intro hlb hs)
  clear h hs hlb hR
  have hx1 : l[k]!.1 ≠ l[k]!.2.1 := ((linkBad_zero m _).1 (HR.out.1 _ HMm.out)).2.2.2.2.2.2
  have HZZ : Hid (Below w.heap.size w w) := Lib.hid (Below.refl _ _)
  go_enter Try.func7, Try.ntmps7
  have HSKz : Hid (∀ w', Below w.heap.size w w' → w'.cell? ⟨lb, lo + k * 3, none⟩ = some (.int .i64 l[k]!.1) ∧ w'.cell? ⟨lb, lo + k * 3 + 1, none⟩ = some (.int .i64 l[k]!.2.1)) := Lib.hid fun w' hb => ⟨(hb.cell (p := ⟨lb, lo + k * 3, none⟩) HSK.out.1).trans (HSK.out.2.c0 k hk), (hb.cell (p := ⟨lb, lo + k * 3 + 1, none⟩) HSK.out.1).trans (HSK.out.2.c1 k hk)⟩
  have HLen : Hid (l.length = l.length) := Lib.hid rfl
  clear HSK
  go_wp2_with fail
  refine (far_ok w m t (.slice (some ⟨lb, lo, none⟩) l.length c) l (by omega) HL.out hg ht).mono ?_
  rintro e w1 ⟨f1, _, rfl, hV, hb1⟩
  have HL' := Lib.hid (HL.out.below hb1)
  have HZZ' := Lib.hid (Below.two HZZ.out hb1)
  have HX := Lib.hid (hV)
  clear hb1 HZZ HL
  have HZZ := HZZ'
  clear HZZ'
  have HL := HL'
  clear HL'
  clear hV
  go_wp2_with fail
  refine (one_at w1).mono ?_
  rintro e w2 ⟨f0, _, rfl, o1, hb2⟩
  have HL' := Lib.hid (HL.out.below hb2)
  have HX' := Lib.hid (HX.out.keep hb2)
  have HZZ' := Lib.hid (Below.two HZZ.out hb2)
  clear hb2 HZZ HL HX
  have HZZ := HZZ'
  clear HZZ'
  have HL := HL'
  clear HL'
  have HX := HX'
  clear HX'
  have HCY := Lib.hid (fun w' h => cut_yes w' m l[k]!.1 l[k]!.2.1 (.slice (some ⟨lb, lo, none⟩) l.length c) l hn h hg (SpfP.less_has HMm.out))
  have HRL := Lib.hid (right_less HR.out l[k]!.1 l[k]!.2.1)
  have hgL : gBad m (less l l[k]!.1 l[k]!.2.1) = 0 := (gBad_zero m _).2 ⟨hm, HRL.out⟩
  have hLl : (less l l[k]!.1 l[k]!.2.1).length ≤ l.length := List.length_filter_le _ _
  have HLE := Lib.hid (SpfP.cut_le HR.out HMm.out ht b hb)
  have HMO := Lib.hid (SpfP.cut_more HR.out HMm.out ht b hb)
  have HBD := Lib.hid (BellP.far_bd m (BellP.ct l) t b)
  generalize hA : l[k]!.1 = A at *
  generalize hB : l[k]!.2.1 = B at *
  clear hA hB HMm
  have kn : ¬ (k : Int) < 0 := by omega
  have kl : ¬ (k : Int) ≥ (l.length : Int) := by omega
  have bn : ¬ (b : Int) < 0 := by omega
  have bm : ¬ (b : Int) ≥ (m : Int) := by omega
  go_wp2_with fail
  obtain ⟨s0, s1⟩ := HSKz.out _ HZZ.out
  have HLd := Lib.hid (HL.out.below (Below.refl w2.heap.size w2).drew)
  go_region_held3 (fun w' => w'.cell? ⟨lb, lo + k * 3, none⟩ = some (.int .i64 A) ∧ w'.cell? ⟨lb, lo + k * 3 + 1, none⟩ = some (.int .i64 B)) (first | assumption | exact ⟨s0, s1⟩)
    (first | (go_at_call 16; refine (HCY.out _ HLd.out).mono ?_; rintro e w3 ⟨g2, c2, _, rfl, hRF, hb3⟩; have hbb : Below w2.heap.size w2 w3 := Below.two (Below.refl _ _).drew hb3; have K := HSKz.out _ (Below.two HZZ.out hbb); clear hb3))
  clear K s0 s1 HLd
  have HL' := Lib.hid (HL.out.below hbb)
  have HX' := Lib.hid (HX.out.keep hbb)
  have HZZ' := Lib.hid (Below.two HZZ.out hbb)
  clear HZZ HL HX
  have HZZ := HZZ'
  clear HZZ'
  have HL := HL'
  clear HL'
  have HX := HX'
  clear HX'
  have HL2 := Lib.hid (RowF.argK hRF c2)
  clear hRF hbb
  go_wp2_with fail
  refine (far_ok w3 m t _ (less l A B) (by omega) HL2.out hgL ht).mono ?_
  rintro e w4 ⟨f2, _, rfl, hV, hb4⟩
  have HL' := Lib.hid (HL.out.below hb4)
  have HX' := Lib.hid (HX.out.keep hb4)
  have HL2' := Lib.hid (HL2.out.below hb4)
  have HZZ' := Lib.hid (Below.two HZZ.out hb4)
  have HY := Lib.hid (hV)
  clear hb4 HZZ HL HX HL2
  have HZZ := HZZ'
  clear HZZ'
  have HL := HL'
  clear HL'
  have HX := HX'
  clear HX'
  have HL2 := HL2'
  clear HL2'
  clear hV
  go_wp2_with fail
  have xb := HX.out.c b hb
  have yb := HY.out.c b hb
  generalize hyy : BellP.far m (BellP.ct (less l A B)) t b = y at yb HLE HMO
  generalize hxx : BellP.far m (BellP.ct l) t b = x at xb HLE HMO HBD q1_
  have HXX := Lib.hid hxx
  have HYY := Lib.hid hyy
  clear hxx hyy
  have hle := HLE.out
  have le1 : ¬ (y : Int) < (x : Int) := by omega
  go_quiet (fail)
  have hdr : Below w4.heap.size w4 (w4.drewN nq) := Below.drewN (Below.refl _ _) nq
  generalize w4.drewN nq = we at hdr ⊢
  have HL' := Lib.hid (HL.out.below hdr)
  have HX' := Lib.hid (HX.out.keep hdr)
  have HL2' := Lib.hid (HL2.out.below hdr)
  have HY' := Lib.hid (HY.out.keep hdr)
  have HZZ' := Lib.hid (Below.two HZZ.out hdr)
  clear HZZ HL HX HL2 HY
  have HZZ := HZZ'
  clear HZZ'
  have HL := HL'
  clear HL'
  have HX := HX'
  clear HX'
  have HL2 := HL2'
  clear HL2'
  have HY := HY'
  clear HY'
  clear hdr xb yb le1
  go_wp2_with fail
  refine (ups_ok we m t (.slice (some ⟨lb, lo, none⟩) l.length c) l (by omega) HL.out hg ht).mono ?_
  rintro e w5 ⟨u, vs, rfl, hT, hb5⟩
  have HL' := Lib.hid (HL.out.below hb5)
  have HX' := Lib.hid (HX.out.keep hb5)
  have HL2' := Lib.hid (HL2.out.below hb5)
  have HY' := Lib.hid (HY.out.keep hb5)
  have HZZ' := Lib.hid (Below.two HZZ.out hb5)
  have HT := Lib.hid (hT)
  clear hb5 HZZ HL HX HL2 HY
  have HZZ := HZZ'
  clear HZZ'
  have HL := HL'
  clear HL'
  have HX := HX'
  clear HX'
  have HL2 := HL2'
  clear HL2'
  have HY := HY'
  clear HY'
  clear hT
  go_wp2_with fail
  have ci := HT.out.c b hb
  obtain ⟨p3, c3, hv3, hp3⟩ := (HT.out.o b hb).arg
  rw [hv3] at ci
  have xb := HX.out.c b hb
  have yb := HY.out.c b hb
  obtain ⟨s0, s1⟩ := HSKz.out _ HZZ.out
  rw [HXX.out] at xb
  rw [HYY.out] at yb
  generalize SpfP.ups m (BellP.ct l) t b = F at ci HMO hp3 hF_
  clear hv3 HT
  dsimp only [List.append_eq, List.cons_append, List.nil_append]
  have q0 := q0_.out
  have q1 := q1_.out
  have hF := hF_.out
  have r1 := r1_.out
  have r3 := r3_.out
  have r4 := r4_.out
  have n0 : ((t : Int) != (b : Int)) = true := by
    have : ¬ (t : Int) = b := by omega
    simpa using this
  have n1 : (x : Int) < 16 := by omega
  subst hF
  rcases hp3 with e | ⟨bb, off, rfl, hbb, hs⟩
  · exact absurd e (by simp)
  have cu := hs 0 (by simp)
  rw [Nat.add_zero] at cu
  have cu : _ = some (Value.int .i64 uu) := cu
  have HM := Lib.hid (fun h => HMO.out (fun e => q0 e.symm) q1 uu rfl h)
  clear hs HMO
  have hM := HM.out (Or.inr ⟨r3, r4⟩)
  have e1 : (uu == A) = false := by simpa using r1
  have e3 : (uu == B) = true := by simpa using r3
  have e4 : ((b : Int) == A) = true := by simpa using r4
  have e5 : (y : Int) > (x : Int) := by omega
  clear r1 r3 r4
  refine wp_region_held_drew (S := (fun w' => w'.cell? ⟨f1, b, none⟩ = some (.int .i64 (x : Int)) ∧ w'.cell? ⟨u, b, none⟩ = some (.slice (some ⟨bb, off, none⟩) 1 c3) ∧ w'.cell? ⟨lb, lo + k * 3, none⟩ = some (.int .i64 A) ∧ w'.cell? ⟨lb, lo + k * 3 + 1, none⟩ = some (.int .i64 B) ∧ w'.cell? ⟨bb, off, none⟩ = some (.int .i64 uu))) (by kernel_rfl) ⟨xb, ci, s0, s1, cu⟩ (fun hHeld => ?_)
  refine wpAnyH_take (i := 0) (oi := { dst := some 118, op := Op.move (Operand.tmp 3), type := 3, pos := "top.go:243", after := #[], guard := none }) (v := ?_) rfl (by kernel_rfl) (by kernel_rfl) (by kernel_rfl) (fun _ _ _ h => h) (Or.inl ⟨by rfl, ?_⟩) hHeld ?_
  rotate_left
  · (intro w hSw; (try dsimp only at hSw); go_simp; first | done | with_reducible rfl)
  simp only [Act.put, List.setIfInBounds_toArray, List.set_cons_zero, List.set_cons_succ]
  refine wpAnyH_take (i := 1) (oi := { dst := some 119, op := Op.move (Operand.tmp 4), type := 3, pos := "top.go:243", after := #[], guard := none }) (v := ?_) rfl (by kernel_rfl) (by kernel_rfl) (by kernel_rfl) (fun _ _ _ h => h) (Or.inl ⟨by rfl, ?_⟩) hHeld ?_
  rotate_left
  · (intro w hSw; (try dsimp only at hSw); go_simp; first | done | with_reducible rfl)
  simp only [Act.put, List.setIfInBounds_toArray, List.set_cons_zero, List.set_cons_succ]
  refine wpAnyH_take (i := 2) (oi := { dst := some 120, op := Op.binOp BinOp.neq 3 (Operand.tmp 118) (Operand.tmp 119) 3, type := 4, pos := "top.go:243", after := #[{ on := 0, ground := Ground.data }, { on := 1, ground := Ground.data }], guard := none }) (v := ?_) rfl (by kernel_rfl) (by kernel_rfl) (by kernel_rfl) (fun _ _ _ h => h) (Or.inl ⟨by rfl, ?_⟩) hHeld ?_
  rotate_left
  · (intro w hSw; (try dsimp only at hSw); go_simp; first | done | with_reducible rfl)
  simp only [Act.put, List.setIfInBounds_toArray, List.set_cons_zero, List.set_cons_succ]
  refine wpAnyH_take (i := 3) (oi := { dst := some 121, op := Op.move (Operand.tmp 120), type := 4, pos := "top.go:243", after := #[{ on := 2, ground := Ground.data }], guard := none }) (v := ?_) rfl (by kernel_rfl) (by kernel_rfl) (by kernel_rfl) (fun _ _ _ h => h) (Or.inl ⟨by rfl, ?_⟩) hHeld ?_
  rotate_left
  · (intro w hSw; (try dsimp only at hSw); go_simp; first | done | with_reducible rfl)
  simp only [Act.put, List.setIfInBounds_toArray, List.set_cons_zero, List.set_cons_succ]
  refine wpAnyH_take (i := 4) (oi := { dst := some 122, op := Op.move (Operand.tmp 11), type := 24, pos := "top.go:243", after := #[{ on := 3, ground := Ground.guard }], guard := some (3, true) }) (v := ?_) rfl (by kernel_rfl) (by kernel_rfl) (by kernel_rfl) (fun _ _ _ h => h) (Or.inl ⟨by rfl, ?_⟩) hHeld ?_
  rotate_left
  · (intro w hSw; (try dsimp only at hSw); go_simp; first | done | with_reducible rfl)
  simp only [Act.put, List.setIfInBounds_toArray, List.set_cons_zero, List.set_cons_succ]
  refine wpAnyH_take (i := 5) (oi := { dst := some 123, op := Op.move (Operand.tmp 4), type := 3, pos := "top.go:243", after := #[{ on := 3, ground := Ground.guard }], guard := some (3, true) }) (v := ?_) rfl (by kernel_rfl) (by kernel_rfl) (by kernel_rfl) (fun _ _ _ h => h) (Or.inl ⟨by rfl, ?_⟩) hHeld ?_
  rotate_left
  · (intro w hSw; (try dsimp only at hSw); go_simp; first | done | with_reducible rfl)
  simp only [Act.put, List.setIfInBounds_toArray, List.set_cons_zero, List.set_cons_succ]
  refine wpAnyH_take (i := 6) (oi := { dst := some 124, op := Op.indexAddr 24 (Operand.tmp 122) (Operand.tmp 123), type := 0, pos := "top.go:243", after := #[{ on := 4, ground := Ground.data }, { on := 5, ground := Ground.data }, { on := 3, ground := Ground.guard }], guard := some (3, true) }) (v := ?_) rfl (by kernel_rfl) (by kernel_rfl) (by kernel_rfl) (fun _ _ _ h => h) (Or.inl ⟨by rfl, ?_⟩) hHeld ?_
  rotate_left
  · (intro w hSw; (try dsimp only at hSw); go_simp; first | done | with_reducible rfl)
  simp only [Act.put, List.setIfInBounds_toArray, List.set_cons_zero, List.set_cons_succ]
  refine wpAnyH_take (i := 7) (oi := { dst := some 125, op := Op.load 3 (Operand.tmp 124), type := 3, pos := "top.go:243", after := #[{ on := 6, ground := Ground.data }, { on := 3, ground := Ground.guard }], guard := some (3, true) }) (v := ?_) rfl (by kernel_rfl) (by kernel_rfl) (by kernel_rfl) (fun _ _ _ h => h) (Or.inl ⟨by rfl, ?_⟩) hHeld ?_
  rotate_left
  · (intro w hSw; (try dsimp only at hSw); go_simp; first | done | with_reducible rfl)
  simp only [Act.put, List.setIfInBounds_toArray, List.set_cons_zero, List.set_cons_succ]
  refine wpAnyH_take (i := 8) (oi := { dst := some 126, op := Op.binOp BinOp.lss 3 (Operand.tmp 125) (Operand.const (Value.int IntKind.i64 16)) 3, type := 4, pos := "top.go:243", after := #[{ on := 7, ground := Ground.data }, { on := 3, ground := Ground.guard }], guard := some (3, true) }) (v := ?_) rfl (by kernel_rfl) (by kernel_rfl) (by kernel_rfl) (fun _ _ _ h => h) (Or.inl ⟨by rfl, ?_⟩) hHeld ?_
  rotate_left
  · (intro w hSw; (try dsimp only at hSw); go_simp; first | done | with_reducible rfl)
  simp only [Act.put, List.setIfInBounds_toArray, List.set_cons_zero, List.set_cons_succ]
  refine wpAnyH_take (i := 9) (oi := { dst := some 127, op := Op.pick (Operand.tmp 121) (Operand.tmp 126) (Operand.const (Value.bool false)), type := 4, pos := "top.go:243", after := #[{ on := 3, ground := Ground.data }, { on := 8, ground := Ground.data }], guard := none }) (v := ?_) rfl (by kernel_rfl) (by kernel_rfl) (by kernel_rfl) (fun _ _ _ h => h) (Or.inl ⟨by rfl, ?_⟩) hHeld ?_
  rotate_left
  · (intro w hSw; (try dsimp only at hSw); go_simp; first | done | with_reducible rfl)
  simp only [Act.put, List.setIfInBounds_toArray, List.set_cons_zero, List.set_cons_succ]
  refine wpAnyH_take (i := 10) (oi := { dst := some 128, op := Op.move (Operand.tmp 127), type := 4, pos := "top.go:243", after := #[{ on := 9, ground := Ground.data }, { on := 3, ground := Ground.chain }], guard := none }) (v := ?_) rfl (by kernel_rfl) (by kernel_rfl) (by kernel_rfl) (fun _ _ _ h => h) (Or.inl ⟨by rfl, ?_⟩) hHeld ?_
  rotate_left
  · (intro w hSw; (try dsimp only at hSw); go_simp; first | done | with_reducible rfl)
  simp only [Act.put, List.setIfInBounds_toArray, List.set_cons_zero, List.set_cons_succ]
  refine wpAnyH_take (i := 11) (oi := { dst := some 129, op := Op.move (Operand.tmp 19), type := 31, pos := "top.go:243", after := #[{ on := 10, ground := Ground.guard }], guard := some (10, true) }) (v := ?_) rfl (by kernel_rfl) (by kernel_rfl) (by kernel_rfl) (fun _ _ _ h => h) (Or.inl ⟨by rfl, ?_⟩) hHeld ?_
  rotate_left
  · (intro w hSw; (try dsimp only at hSw); go_simp; first | done | with_reducible rfl)
  simp only [Act.put, List.setIfInBounds_toArray, List.set_cons_zero, List.set_cons_succ]
  refine wpAnyH_take (i := 12) (oi := { dst := some 130, op := Op.move (Operand.tmp 4), type := 3, pos := "top.go:243", after := #[{ on := 10, ground := Ground.guard }], guard := some (10, true) }) (v := ?_) rfl (by kernel_rfl) (by kernel_rfl) (by kernel_rfl) (fun _ _ _ h => h) (Or.inl ⟨by rfl, ?_⟩) hHeld ?_
  rotate_left
  · (intro w hSw; (try dsimp only at hSw); go_simp; first | done | with_reducible rfl)
  simp only [Act.put, List.setIfInBounds_toArray, List.set_cons_zero, List.set_cons_succ]
  refine wpAnyH_take (i := 13) (oi := { dst := some 131, op := Op.indexAddr 31 (Operand.tmp 129) (Operand.tmp 130), type := 0, pos := "top.go:243", after := #[{ on := 11, ground := Ground.data }, { on := 12, ground := Ground.data }, { on := 10, ground := Ground.guard }], guard := some (10, true) }) (v := ?_) rfl (by kernel_rfl) (by kernel_rfl) (by kernel_rfl) (fun _ _ _ h => h) (Or.inl ⟨by rfl, ?_⟩) hHeld ?_
  rotate_left
  · (intro w hSw; (try dsimp only at hSw); go_simp; first | done | with_reducible rfl)
  simp only [Act.put, List.setIfInBounds_toArray, List.set_cons_zero, List.set_cons_succ]
  refine wpAnyH_take (i := 14) (oi := { dst := some 132, op := Op.load 24 (Operand.tmp 131), type := 24, pos := "top.go:243", after := #[{ on := 13, ground := Ground.data }, { on := 10, ground := Ground.guard }], guard := some (10, true) }) (v := ?_) rfl (by kernel_rfl) (by kernel_rfl) (by kernel_rfl) (fun _ _ _ h => h) (Or.inl ⟨by rfl, ?_⟩) hHeld ?_
  rotate_left
  · (intro w hSw; (try dsimp only at hSw); go_simp; first | done | with_reducible rfl)
  simp only [Act.put, List.setIfInBounds_toArray, List.set_cons_zero, List.set_cons_succ]
  refine wpAnyH_take (i := 15) (oi := { dst := some 133, op := Op.call { callee := Callee.builtin Builtin.len, args := #[Operand.tmp 132], argTypes := #[24] }, type := 3, pos := "top.go:243", after := #[{ on := 14, ground := Ground.data }, { on := 10, ground := Ground.guard }], guard := some (10, true) }) (v := ?_) rfl (by kernel_rfl) (by kernel_rfl) (by kernel_rfl) (fun _ _ _ h => h) (Or.inl ⟨by rfl, ?_⟩) hHeld ?_
  rotate_left
  · (intro w hSw; (try dsimp only at hSw); go_simp; first | done | with_reducible rfl)
  simp only [Act.put, List.setIfInBounds_toArray, List.set_cons_zero, List.set_cons_succ]
  refine wpAnyH_take (i := 16) (oi := { dst := some 134, op := Op.binOp BinOp.eql 3 (Operand.tmp 133) (Operand.const (Value.int IntKind.i64 1)) 3, type := 4, pos := "top.go:243", after := #[{ on := 15, ground := Ground.data }, { on := 10, ground := Ground.guard }], guard := some (10, true) }) (v := ?_) rfl (by kernel_rfl) (by kernel_rfl) (by kernel_rfl) (fun _ _ _ h => h) (Or.inl ⟨by rfl, ?_⟩) hHeld ?_
  rotate_left
  · (intro w hSw; (try dsimp only at hSw); go_simp; first | done | with_reducible rfl)
  simp only [Act.put, List.setIfInBounds_toArray, List.set_cons_zero, List.set_cons_succ]
  refine wpAnyH_take (i := 17) (oi := { dst := some 135, op := Op.pick (Operand.tmp 128) (Operand.tmp 134) (Operand.const (Value.bool false)), type := 4, pos := "top.go:243", after := #[{ on := 10, ground := Ground.data }, { on := 16, ground := Ground.data }], guard := none }) (v := ?_) rfl (by kernel_rfl) (by kernel_rfl) (by kernel_rfl) (fun _ _ _ h => h) (Or.inl ⟨by rfl, ?_⟩) hHeld ?_
  rotate_left
  · (intro w hSw; (try dsimp only at hSw); go_simp; first | done | with_reducible rfl)
  simp only [Act.put, List.setIfInBounds_toArray, List.set_cons_zero, List.set_cons_succ]
  refine wpAnyH_take (i := 18) (oi := { dst := some 136, op := Op.move (Operand.tmp 135), type := 4, pos := "top.go:243", after := #[{ on := 17, ground := Ground.data }, { on := 10, ground := Ground.chain }], guard := none }) (v := ?_) rfl (by kernel_rfl) (by kernel_rfl) (by kernel_rfl) (fun _ _ _ h => h) (Or.inl ⟨by rfl, ?_⟩) hHeld ?_
  rotate_left
  · (intro w hSw; (try dsimp only at hSw); go_simp; first | done | with_reducible rfl)
  simp only [Act.put, List.setIfInBounds_toArray, List.set_cons_zero, List.set_cons_succ]
  refine wpAnyH_take (i := 19) (oi := { dst := some 137, op := Op.move (Operand.tmp 19), type := 31, pos := "top.go:243", after := #[{ on := 18, ground := Ground.guard }], guard := some (18, true) }) (v := ?_) rfl (by kernel_rfl) (by kernel_rfl) (by kernel_rfl) (fun _ _ _ h => h) (Or.inl ⟨by rfl, ?_⟩) hHeld ?_
  rotate_left
  · (intro w hSw; (try dsimp only at hSw); go_simp; first | done | with_reducible rfl)
  simp only [Act.put, List.setIfInBounds_toArray, List.set_cons_zero, List.set_cons_succ]
  refine wpAnyH_take (i := 20) (oi := { dst := some 138, op := Op.move (Operand.tmp 4), type := 3, pos := "top.go:243", after := #[{ on := 18, ground := Ground.guard }], guard := some (18, true) }) (v := ?_) rfl (by kernel_rfl) (by kernel_rfl) (by kernel_rfl) (fun _ _ _ h => h) (Or.inl ⟨by rfl, ?_⟩) hHeld ?_
  rotate_left
  · (intro w hSw; (try dsimp only at hSw); go_simp; first | done | with_reducible rfl)
  simp only [Act.put, List.setIfInBounds_toArray, List.set_cons_zero, List.set_cons_succ]
  refine wpAnyH_take (i := 21) (oi := { dst := some 139, op := Op.indexAddr 31 (Operand.tmp 137) (Operand.tmp 138), type := 0, pos := "top.go:243", after := #[{ on := 19, ground := Ground.data }, { on := 20, ground := Ground.data }, { on := 18, ground := Ground.guard }], guard := some (18, true) }) (v := ?_) rfl (by kernel_rfl) (by kernel_rfl) (by kernel_rfl) (fun _ _ _ h => h) (Or.inl ⟨by rfl, ?_⟩) hHeld ?_
  rotate_left
  · (intro w hSw; (try dsimp only at hSw); go_simp; first | done | with_reducible rfl)
  simp only [Act.put, List.setIfInBounds_toArray, List.set_cons_zero, List.set_cons_succ]
  refine wpAnyH_take (i := 22) (oi := { dst := some 140, op := Op.load 24 (Operand.tmp 139), type := 24, pos := "top.go:243", after := #[{ on := 21, ground := Ground.data }, { on := 18, ground := Ground.guard }], guard := some (18, true) }) (v := ?_) rfl (by kernel_rfl) (by kernel_rfl) (by kernel_rfl) (fun _ _ _ h => h) (Or.inl ⟨by rfl, ?_⟩) hHeld ?_
  rotate_left
  · (intro w hSw; (try dsimp only at hSw); go_simp; first | done | with_reducible rfl)
  simp only [Act.put, List.setIfInBounds_toArray, List.set_cons_zero, List.set_cons_succ]
  refine wpAnyH_take (i := 23) (oi := { dst := some 141, op := Op.indexAddr 24 (Operand.tmp 140) (Operand.const (Value.int IntKind.i64 0)), type := 0, pos := "top.go:243", after := #[{ on := 22, ground := Ground.data }, { on := 18, ground := Ground.guard }], guard := some (18, true) }) (v := ?_) rfl (by kernel_rfl) (by kernel_rfl) (by kernel_rfl) (fun _ _ _ h => h) (Or.inl ⟨by rfl, ?_⟩) hHeld ?_
  rotate_left
  · (intro w hSw; (try dsimp only at hSw); go_simp; first | done | with_reducible rfl)
  simp only [Act.put, List.setIfInBounds_toArray, List.set_cons_zero, List.set_cons_succ]
  refine wpAnyH_take (i := 24) (oi := { dst := some 142, op := Op.load 3 (Operand.tmp 141), type := 3, pos := "top.go:243", after := #[{ on := 23, ground := Ground.data }, { on := 18, ground := Ground.guard }], guard := some (18, true) }) (v := ?_) rfl (by kernel_rfl) (by kernel_rfl) (by kernel_rfl) (fun _ _ _ h => h) (Or.inl ⟨by rfl, ?_⟩) hHeld ?_
  rotate_left
  · (intro w hSw; (try dsimp only at hSw); go_simp; first | done | with_reducible rfl)
  simp only [Act.put, List.setIfInBounds_toArray, List.set_cons_zero, List.set_cons_succ]
  refine wpAnyH_take (i := 25) (oi := { dst := some 143, op := Op.move (Operand.tmp 1), type := 22, pos := "top.go:243", after := #[{ on := 18, ground := Ground.guard }], guard := some (18, true) }) (v := ?_) rfl (by kernel_rfl) (by kernel_rfl) (by kernel_rfl) (fun _ _ _ h => h) (Or.inl ⟨by rfl, ?_⟩) hHeld ?_
  rotate_left
  · (intro w hSw; (try dsimp only at hSw); go_simp; first | done | with_reducible rfl)
  simp only [Act.put, List.setIfInBounds_toArray, List.set_cons_zero, List.set_cons_succ]
  refine wpAnyH_take (i := 26) (oi := { dst := some 144, op := Op.move (Operand.tmp 2), type := 3, pos := "top.go:243", after := #[{ on := 18, ground := Ground.guard }], guard := some (18, true) }) (v := ?_) rfl (by kernel_rfl) (by kernel_rfl) (by kernel_rfl) (fun _ _ _ h => h) (Or.inl ⟨by rfl, ?_⟩) hHeld ?_
  rotate_left
  · (intro w hSw; (try dsimp only at hSw); go_simp; first | done | with_reducible rfl)
  simp only [Act.put, List.setIfInBounds_toArray, List.set_cons_zero, List.set_cons_succ]
  refine wpAnyH_take (i := 27) (oi := { dst := some 145, op := Op.indexAddr 22 (Operand.tmp 143) (Operand.tmp 144), type := 0, pos := "top.go:243", after := #[{ on := 25, ground := Ground.data }, { on := 26, ground := Ground.data }, { on := 18, ground := Ground.guard }], guard := some (18, true) }) (v := ?_) rfl (by kernel_rfl) (by kernel_rfl) (by kernel_rfl) (fun _ _ _ h => h) (Or.inl ⟨by rfl, ?_⟩) hHeld ?_
  rotate_left
  · (intro w hSw; (try dsimp only at hSw); go_simp; first | done | with_reducible rfl)
  simp only [Act.put, List.setIfInBounds_toArray, List.set_cons_zero, List.set_cons_succ]
  refine wpAnyH_take (i := 28) (oi := { dst := some 146, op := Op.fieldAddr 42 (Operand.tmp 145) 0, type := 0, pos := "top.go:243", after := #[{ on := 27, ground := Ground.data }, { on := 18, ground := Ground.guard }], guard := some (18, true) }) (v := ?_) rfl (by kernel_rfl) (by kernel_rfl) (by kernel_rfl) (fun _ _ _ h => h) (Or.inl ⟨by rfl, ?_⟩) hHeld ?_
  rotate_left
  · (intro w hSw; (try dsimp only at hSw); go_simp; first | done | with_reducible rfl)
  simp only [Act.put, List.setIfInBounds_toArray, List.set_cons_zero, List.set_cons_succ]
  refine wpAnyH_take (i := 29) (oi := { dst := some 147, op := Op.load 3 (Operand.tmp 146), type := 3, pos := "top.go:243", after := #[{ on := 28, ground := Ground.data }, { on := 18, ground := Ground.guard }], guard := some (18, true) }) (v := ?_) rfl (by kernel_rfl) (by kernel_rfl) (by kernel_rfl) (fun _ _ _ h => h) (Or.inl ⟨by rfl, ?_⟩) hHeld ?_
  rotate_left
  · (intro w hSw; (try dsimp only at hSw); go_simp; first | done | with_reducible rfl)
  simp only [Act.put, List.setIfInBounds_toArray, List.set_cons_zero, List.set_cons_succ]
  refine wpAnyH_take (i := 30) (oi := { dst := some 148, op := Op.binOp BinOp.eql 3 (Operand.tmp 142) (Operand.tmp 147) 3, type := 4, pos := "top.go:243", after := #[{ on := 24, ground := Ground.data }, { on := 29, ground := Ground.data }, { on := 18, ground := Ground.guard }], guard := some (18, true) }) (v := ?_) rfl (by kernel_rfl) (by kernel_rfl) (by kernel_rfl) (fun _ _ _ h => h) (Or.inl ⟨by rfl, ?_⟩) hHeld ?_
  rotate_left
  · (intro w hSw; (try dsimp only at hSw); go_simp; first | done | with_reducible rfl)
  simp only [Act.put, List.setIfInBounds_toArray, List.set_cons_zero, List.set_cons_succ]
  refine wpAnyH_take (i := 31) (oi := { dst := some 149, op := Op.move (Operand.tmp 148), type := 4, pos := "top.go:243", after := #[{ on := 30, ground := Ground.data }, { on := 18, ground := Ground.chain }, { on := 18, ground := Ground.guard }], guard := some (18, true) }) (v := ?_) rfl (by kernel_rfl) (by kernel_rfl) (by kernel_rfl) (fun _ _ _ h => h) (Or.inl ⟨by rfl, ?_⟩) hHeld ?_
  rotate_left
  · (intro w hSw; (try dsimp only at hSw); go_simp; first | done | with_reducible rfl)
  simp only [Act.put, List.setIfInBounds_toArray, List.set_cons_zero, List.set_cons_succ]
  refine wpAnyH_take (i := 32) (oi := { dst := some 150, op := Op.move (Operand.tmp 4), type := 3, pos := "top.go:243", after := #[{ on := 31, ground := Ground.guard }], guard := some (31, true) }) (v := undef) rfl (by kernel_rfl) (by kernel_rfl) (by kernel_rfl) (fun _ _ _ h => h) (Or.inr ⟨by rfl, rfl⟩) hHeld ?_
  simp only [Act.put, List.setIfInBounds_toArray, List.set_cons_zero, List.set_cons_succ]
  refine wpAnyH_take (i := 33) (oi := { dst := some 151, op := Op.move (Operand.tmp 1), type := 22, pos := "top.go:243", after := #[{ on := 31, ground := Ground.guard }], guard := some (31, true) }) (v := undef) rfl (by kernel_rfl) (by kernel_rfl) (by kernel_rfl) (fun _ _ _ h => h) (Or.inr ⟨by rfl, rfl⟩) hHeld ?_
  simp only [Act.put, List.setIfInBounds_toArray, List.set_cons_zero, List.set_cons_succ]
  refine wpAnyH_take (i := 34) (oi := { dst := some 152, op := Op.move (Operand.tmp 2), type := 3, pos := "top.go:243", after := #[{ on := 31, ground := Ground.guard }], guard := some (31, true) }) (v := undef) rfl (by kernel_rfl) (by kernel_rfl) (by kernel_rfl) (fun _ _ _ h => h) (Or.inr ⟨by rfl, rfl⟩) hHeld ?_
  simp only [Act.put, List.setIfInBounds_toArray, List.set_cons_zero, List.set_cons_succ]
  refine wpAnyH_take (i := 35) (oi := { dst := some 153, op := Op.indexAddr 22 (Operand.tmp 151) (Operand.tmp 152), type := 0, pos := "top.go:243", after := #[{ on := 33, ground := Ground.data }, { on := 34, ground := Ground.data }, { on := 31, ground := Ground.guard }], guard := some (31, true) }) (v := undef) rfl (by kernel_rfl) (by kernel_rfl) (by kernel_rfl) (fun _ _ _ h => h) (Or.inr ⟨by rfl, rfl⟩) hHeld ?_
  simp only [Act.put, List.setIfInBounds_toArray, List.set_cons_zero, List.set_cons_succ]
  refine wpAnyH_take (i := 36) (oi := { dst := some 154, op := Op.fieldAddr 42 (Operand.tmp 153) 1, type := 0, pos := "top.go:243", after := #[{ on := 35, ground := Ground.data }, { on := 31, ground := Ground.guard }], guard := some (31, true) }) (v := undef) rfl (by kernel_rfl) (by kernel_rfl) (by kernel_rfl) (fun _ _ _ h => h) (Or.inr ⟨by rfl, rfl⟩) hHeld ?_
  simp only [Act.put, List.setIfInBounds_toArray, List.set_cons_zero, List.set_cons_succ]
  refine wpAnyH_take (i := 37) (oi := { dst := some 155, op := Op.load 3 (Operand.tmp 154), type := 3, pos := "top.go:243", after := #[{ on := 36, ground := Ground.data }, { on := 31, ground := Ground.guard }], guard := some (31, true) }) (v := undef) rfl (by kernel_rfl) (by kernel_rfl) (by kernel_rfl) (fun _ _ _ h => h) (Or.inr ⟨by rfl, rfl⟩) hHeld ?_
  simp only [Act.put, List.setIfInBounds_toArray, List.set_cons_zero, List.set_cons_succ]
  refine wpAnyH_take (i := 38) (oi := { dst := some 156, op := Op.binOp BinOp.eql 3 (Operand.tmp 150) (Operand.tmp 155) 3, type := 4, pos := "top.go:243", after := #[{ on := 32, ground := Ground.data }, { on := 37, ground := Ground.data }, { on := 31, ground := Ground.guard }], guard := some (31, true) }) (v := undef) rfl (by kernel_rfl) (by kernel_rfl) (by kernel_rfl) (fun _ _ _ h => h) (Or.inr ⟨by rfl, rfl⟩) hHeld ?_
  simp only [Act.put, List.setIfInBounds_toArray, List.set_cons_zero, List.set_cons_succ]
  refine wpAnyH_take (i := 39) (oi := { dst := some 157, op := Op.pick (Operand.tmp 149) (Operand.tmp 156) (Operand.const (Value.bool false)), type := 4, pos := "top.go:243", after := #[{ on := 31, ground := Ground.data }, { on := 38, ground := Ground.data }, { on := 18, ground := Ground.guard }], guard := some (18, true) }) (v := ?_) rfl (by kernel_rfl) (by kernel_rfl) (by kernel_rfl) (fun _ _ _ h => h) (Or.inl ⟨by rfl, ?_⟩) hHeld ?_
  rotate_left
  · (intro w hSw; (try dsimp only at hSw); go_simp; first | done | with_reducible rfl)
  simp only [Act.put, List.setIfInBounds_toArray, List.set_cons_zero, List.set_cons_succ]
  refine wpAnyH_take (i := 40) (oi := { dst := some 158, op := Op.move (Operand.tmp 157), type := 4, pos := "top.go:243", after := #[{ on := 39, ground := Ground.data }, { on := 31, ground := Ground.chain }, { on := 18, ground := Ground.guard }], guard := some (18, true) }) (v := ?_) rfl (by kernel_rfl) (by kernel_rfl) (by kernel_rfl) (fun _ _ _ h => h) (Or.inl ⟨by rfl, ?_⟩) hHeld ?_
  rotate_left
  · (intro w hSw; (try dsimp only at hSw); go_simp; first | done | with_reducible rfl)
  simp only [Act.put, List.setIfInBounds_toArray, List.set_cons_zero, List.set_cons_succ]
  refine wpAnyH_take (i := 41) (oi := { dst := some 159, op := Op.move (Operand.tmp 19), type := 31, pos := "top.go:243", after := #[{ on := 40, ground := Ground.guard }], guard := some (40, false) }) (v := ?_) rfl (by kernel_rfl) (by kernel_rfl) (by kernel_rfl) (fun _ _ _ h => h) (Or.inl ⟨by rfl, ?_⟩) hHeld ?_
  rotate_left
  · (intro w hSw; (try dsimp only at hSw); go_simp; first | done | with_reducible rfl)
  simp only [Act.put, List.setIfInBounds_toArray, List.set_cons_zero, List.set_cons_succ]
  refine wpAnyH_take (i := 42) (oi := { dst := some 160, op := Op.move (Operand.tmp 4), type := 3, pos := "top.go:243", after := #[{ on := 40, ground := Ground.guard }], guard := some (40, false) }) (v := ?_) rfl (by kernel_rfl) (by kernel_rfl) (by kernel_rfl) (fun _ _ _ h => h) (Or.inl ⟨by rfl, ?_⟩) hHeld ?_
  rotate_left
  · (intro w hSw; (try dsimp only at hSw); go_simp; first | done | with_reducible rfl)
  simp only [Act.put, List.setIfInBounds_toArray, List.set_cons_zero, List.set_cons_succ]
  refine wpAnyH_take (i := 43) (oi := { dst := some 161, op := Op.indexAddr 31 (Operand.tmp 159) (Operand.tmp 160), type := 0, pos := "top.go:243", after := #[{ on := 41, ground := Ground.data }, { on := 42, ground := Ground.data }, { on := 40, ground := Ground.guard }], guard := some (40, false) }) (v := ?_) rfl (by kernel_rfl) (by kernel_rfl) (by kernel_rfl) (fun _ _ _ h => h) (Or.inl ⟨by rfl, ?_⟩) hHeld ?_
  rotate_left
  · (intro w hSw; (try dsimp only at hSw); go_simp; first | done | with_reducible rfl)
  simp only [Act.put, List.setIfInBounds_toArray, List.set_cons_zero, List.set_cons_succ]
  refine wpAnyH_take (i := 44) (oi := { dst := some 162, op := Op.load 24 (Operand.tmp 161), type := 24, pos := "top.go:243", after := #[{ on := 43, ground := Ground.data }, { on := 40, ground := Ground.guard }], guard := some (40, false) }) (v := ?_) rfl (by kernel_rfl) (by kernel_rfl) (by kernel_rfl) (fun _ _ _ h => h) (Or.inl ⟨by rfl, ?_⟩) hHeld ?_
  rotate_left
  · (intro w hSw; (try dsimp only at hSw); go_simp; first | done | with_reducible rfl)
  simp only [Act.put, List.setIfInBounds_toArray, List.set_cons_zero, List.set_cons_succ]
  refine wpAnyH_take (i := 45) (oi := { dst := some 163, op := Op.indexAddr 24 (Operand.tmp 162) (Operand.const (Value.int IntKind.i64 0)), type := 0, pos := "top.go:243", after := #[{ on := 44, ground := Ground.data }, { on := 40, ground := Ground.guard }], guard := some (40, false) }) (v := ?_) rfl (by kernel_rfl) (by kernel_rfl) (by kernel_rfl) (fun _ _ _ h => h) (Or.inl ⟨by rfl, ?_⟩) hHeld ?_
  rotate_left
  · (intro w hSw; (try dsimp only at hSw); go_simp; first | done | with_reducible rfl)
  simp only [Act.put, List.setIfInBounds_toArray, List.set_cons_zero, List.set_cons_succ]
  refine wpAnyH_take (i := 46) (oi := { dst := some 164, op := Op.load 3 (Operand.tmp 163), type := 3, pos := "top.go:243", after := #[{ on := 45, ground := Ground.data }, { on := 40, ground := Ground.guard }], guard := some (40, false) }) (v := ?_) rfl (by kernel_rfl) (by kernel_rfl) (by kernel_rfl) (fun _ _ _ h => h) (Or.inl ⟨by rfl, ?_⟩) hHeld ?_
  rotate_left
  · (intro w hSw; (try dsimp only at hSw); go_simp; first | done | with_reducible rfl)
  simp only [Act.put, List.setIfInBounds_toArray, List.set_cons_zero, List.set_cons_succ]
  refine wpAnyH_take (i := 47) (oi := { dst := some 165, op := Op.move (Operand.tmp 1), type := 22, pos := "top.go:243", after := #[{ on := 40, ground := Ground.guard }], guard := some (40, false) }) (v := ?_) rfl (by kernel_rfl) (by kernel_rfl) (by kernel_rfl) (fun _ _ _ h => h) (Or.inl ⟨by rfl, ?_⟩) hHeld ?_
  rotate_left
  · (intro w hSw; (try dsimp only at hSw); go_simp; first | done | with_reducible rfl)
  simp only [Act.put, List.setIfInBounds_toArray, List.set_cons_zero, List.set_cons_succ]
  refine wpAnyH_take (i := 48) (oi := { dst := some 166, op := Op.move (Operand.tmp 2), type := 3, pos := "top.go:243", after := #[{ on := 40, ground := Ground.guard }], guard := some (40, false) }) (v := ?_) rfl (by kernel_rfl) (by kernel_rfl) (by kernel_rfl) (fun _ _ _ h => h) (Or.inl ⟨by rfl, ?_⟩) hHeld ?_
  rotate_left
  · (intro w hSw; (try dsimp only at hSw); go_simp; first | done | with_reducible rfl)
  simp only [Act.put, List.setIfInBounds_toArray, List.set_cons_zero, List.set_cons_succ]
  refine wpAnyH_take (i := 49) (oi := { dst := some 167, op := Op.indexAddr 22 (Operand.tmp 165) (Operand.tmp 166), type := 0, pos := "top.go:243", after := #[{ on := 47, ground := Ground.data }, { on := 48, ground := Ground.data }, { on := 40, ground := Ground.guard }], guard := some (40, false) }) (v := ?_) rfl (by kernel_rfl) (by kernel_rfl) (by kernel_rfl) (fun _ _ _ h => h) (Or.inl ⟨by rfl, ?_⟩) hHeld ?_
  rotate_left
  · (intro w hSw; (try dsimp only at hSw); go_simp; first | done | with_reducible rfl)
  simp only [Act.put, List.setIfInBounds_toArray, List.set_cons_zero, List.set_cons_succ]
  refine wpAnyH_take (i := 50) (oi := { dst := some 168, op := Op.fieldAddr 42 (Operand.tmp 167) 1, type := 0, pos := "top.go:243", after := #[{ on := 49, ground := Ground.data }, { on := 40, ground := Ground.guard }], guard := some (40, false) }) (v := ?_) rfl (by kernel_rfl) (by kernel_rfl) (by kernel_rfl) (fun _ _ _ h => h) (Or.inl ⟨by rfl, ?_⟩) hHeld ?_
  rotate_left
  · (intro w hSw; (try dsimp only at hSw); go_simp; first | done | with_reducible rfl)
  simp only [Act.put, List.setIfInBounds_toArray, List.set_cons_zero, List.set_cons_succ]
  refine wpAnyH_take (i := 51) (oi := { dst := some 169, op := Op.load 3 (Operand.tmp 168), type := 3, pos := "top.go:243", after := #[{ on := 50, ground := Ground.data }, { on := 40, ground := Ground.guard }], guard := some (40, false) }) (v := ?_) rfl (by kernel_rfl) (by kernel_rfl) (by kernel_rfl) (fun _ _ _ h => h) (Or.inl ⟨by rfl, ?_⟩) hHeld ?_
  rotate_left
  · (intro w hSw; (try dsimp only at hSw); go_simp; first | done | with_reducible rfl)
  simp only [Act.put, List.setIfInBounds_toArray, List.set_cons_zero, List.set_cons_succ]
  refine wpAnyH_take (i := 52) (oi := { dst := some 170, op := Op.binOp BinOp.eql 3 (Operand.tmp 164) (Operand.tmp 169) 3, type := 4, pos := "top.go:243", after := #[{ on := 46, ground := Ground.data }, { on := 51, ground := Ground.data }, { on := 40, ground := Ground.guard }], guard := some (40, false) }) (v := ?_) rfl (by kernel_rfl) (by kernel_rfl) (by kernel_rfl) (fun _ _ _ h => h) (Or.inl ⟨by rfl, ?_⟩) hHeld ?_
  rotate_left
  · (intro w hSw; (try dsimp only at hSw); go_simp; first | done | with_reducible rfl)
  simp only [Act.put, List.setIfInBounds_toArray, List.set_cons_zero, List.set_cons_succ]
  refine wpAnyH_take (i := 53) (oi := { dst := some 171, op := Op.move (Operand.tmp 170), type := 4, pos := "top.go:243", after := #[{ on := 52, ground := Ground.data }, { on := 40, ground := Ground.chain }, { on := 40, ground := Ground.guard }], guard := some (40, false) }) (v := ?_) rfl (by kernel_rfl) (by kernel_rfl) (by kernel_rfl) (fun _ _ _ h => h) (Or.inl ⟨by rfl, ?_⟩) hHeld ?_
  rotate_left
  · (intro w hSw; (try dsimp only at hSw); go_simp; first | done | with_reducible rfl)
  simp only [Act.put, List.setIfInBounds_toArray, List.set_cons_zero, List.set_cons_succ]
  refine wpAnyH_take (i := 54) (oi := { dst := some 172, op := Op.move (Operand.tmp 4), type := 3, pos := "top.go:243", after := #[{ on := 53, ground := Ground.guard }], guard := some (53, true) }) (v := ?_) rfl (by kernel_rfl) (by kernel_rfl) (by kernel_rfl) (fun _ _ _ h => h) (Or.inl ⟨by rfl, ?_⟩) hHeld ?_
  rotate_left
  · (intro w hSw; (try dsimp only at hSw); go_simp; first | done | with_reducible rfl)
  simp only [Act.put, List.setIfInBounds_toArray, List.set_cons_zero, List.set_cons_succ]
  refine wpAnyH_take (i := 55) (oi := { dst := some 173, op := Op.move (Operand.tmp 1), type := 22, pos := "top.go:243", after := #[{ on := 53, ground := Ground.guard }], guard := some (53, true) }) (v := ?_) rfl (by kernel_rfl) (by kernel_rfl) (by kernel_rfl) (fun _ _ _ h => h) (Or.inl ⟨by rfl, ?_⟩) hHeld ?_
  rotate_left
  · (intro w hSw; (try dsimp only at hSw); go_simp; first | done | with_reducible rfl)
  simp only [Act.put, List.setIfInBounds_toArray, List.set_cons_zero, List.set_cons_succ]
  refine wpAnyH_take (i := 56) (oi := { dst := some 174, op := Op.move (Operand.tmp 2), type := 3, pos := "top.go:243", after := #[{ on := 53, ground := Ground.guard }], guard := some (53, true) }) (v := ?_) rfl (by kernel_rfl) (by kernel_rfl) (by kernel_rfl) (fun _ _ _ h => h) (Or.inl ⟨by rfl, ?_⟩) hHeld ?_
  rotate_left
  · (intro w hSw; (try dsimp only at hSw); go_simp; first | done | with_reducible rfl)
  simp only [Act.put, List.setIfInBounds_toArray, List.set_cons_zero, List.set_cons_succ]
  refine wpAnyH_take (i := 57) (oi := { dst := some 175, op := Op.indexAddr 22 (Operand.tmp 173) (Operand.tmp 174), type := 0, pos := "top.go:243", after := #[{ on := 55, ground := Ground.data }, { on := 56, ground := Ground.data }, { on := 53, ground := Ground.guard }], guard := some (53, true) }) (v := ?_) rfl (by kernel_rfl) (by kernel_rfl) (by kernel_rfl) (fun _ _ _ h => h) (Or.inl ⟨by rfl, ?_⟩) hHeld ?_
  rotate_left
  · (intro w hSw; (try dsimp only at hSw); go_simp; first | done | with_reducible rfl)
  simp only [Act.put, List.setIfInBounds_toArray, List.set_cons_zero, List.set_cons_succ]
  refine wpAnyH_take (i := 58) (oi := { dst := some 176, op := Op.fieldAddr 42 (Operand.tmp 175) 0, type := 0, pos := "top.go:243", after := #[{ on := 57, ground := Ground.data }, { on := 53, ground := Ground.guard }], guard := some (53, true) }) (v := ?_) rfl (by kernel_rfl) (by kernel_rfl) (by kernel_rfl) (fun _ _ _ h => h) (Or.inl ⟨by rfl, ?_⟩) hHeld ?_
  rotate_left
  · (intro w hSw; (try dsimp only at hSw); go_simp; first | done | with_reducible rfl)
  simp only [Act.put, List.setIfInBounds_toArray, List.set_cons_zero, List.set_cons_succ]
  refine wpAnyH_take (i := 59) (oi := { dst := some 177, op := Op.load 3 (Operand.tmp 176), type := 3, pos := "top.go:243", after := #[{ on := 58, ground := Ground.data }, { on := 53, ground := Ground.guard }], guard := some (53, true) }) (v := ?_) rfl (by kernel_rfl) (by kernel_rfl) (by kernel_rfl) (fun _ _ _ h => h) (Or.inl ⟨by rfl, ?_⟩) hHeld ?_
  rotate_left
  · (intro w hSw; (try dsimp only at hSw); go_simp; first | done | with_reducible rfl)
  simp only [Act.put, List.setIfInBounds_toArray, List.set_cons_zero, List.set_cons_succ]
  refine wpAnyH_take (i := 60) (oi := { dst := some 178, op := Op.binOp BinOp.eql 3 (Operand.tmp 172) (Operand.tmp 177) 3, type := 4, pos := "top.go:243", after := #[{ on := 54, ground := Ground.data }, { on := 59, ground := Ground.data }, { on := 53, ground := Ground.guard }], guard := some (53, true) }) (v := ?_) rfl (by kernel_rfl) (by kernel_rfl) (by kernel_rfl) (fun _ _ _ h => h) (Or.inl ⟨by rfl, ?_⟩) hHeld ?_
  rotate_left
  · (intro w hSw; (try dsimp only at hSw); go_simp; first | done | with_reducible rfl)
  simp only [Act.put, List.setIfInBounds_toArray, List.set_cons_zero, List.set_cons_succ]
  refine wpAnyH_take (i := 61) (oi := { dst := some 179, op := Op.pick (Operand.tmp 171) (Operand.tmp 178) (Operand.const (Value.bool false)), type := 4, pos := "top.go:243", after := #[{ on := 53, ground := Ground.data }, { on := 60, ground := Ground.data }, { on := 40, ground := Ground.guard }], guard := some (40, false) }) (v := ?_) rfl (by kernel_rfl) (by kernel_rfl) (by kernel_rfl) (fun _ _ _ h => h) (Or.inl ⟨by rfl, ?_⟩) hHeld ?_
  rotate_left
  · (intro w hSw; (try dsimp only at hSw); go_simp; first | done | with_reducible rfl)
  simp only [Act.put, List.setIfInBounds_toArray, List.set_cons_zero, List.set_cons_succ]
  refine wpAnyH_take (i := 62) (oi := { dst := some 180, op := Op.pick (Operand.tmp 158) (Operand.const (Value.bool true)) (Operand.tmp 179), type := 4, pos := "top.go:243", after := #[{ on := 40, ground := Ground.data }, { on := 61, ground := Ground.data }, { on := 18, ground := Ground.guard }], guard := some (18, true) }) (v := ?_) rfl (by kernel_rfl) (by kernel_rfl) (by kernel_rfl) (fun _ _ _ h => h) (Or.inl ⟨by rfl, ?_⟩) hHeld ?_
  rotate_left
  · (intro w hSw; (try dsimp only at hSw); go_simp; first | done | with_reducible rfl)
  simp only [Act.put, List.setIfInBounds_toArray, List.set_cons_zero, List.set_cons_succ]
  refine wpAnyH_take (i := 63) (oi := { dst := some 181, op := Op.pick (Operand.tmp 136) (Operand.tmp 180) (Operand.const (Value.bool false)), type := 4, pos := "top.go:243", after := #[{ on := 18, ground := Ground.data }, { on := 62, ground := Ground.data }], guard := none }) (v := ?_) rfl (by kernel_rfl) (by kernel_rfl) (by kernel_rfl) (fun _ _ _ h => h) (Or.inl ⟨by rfl, ?_⟩) hHeld ?_
  rotate_left
  · (intro w hSw; (try dsimp only at hSw); go_simp; first | done | with_reducible rfl)
  simp only [Act.put, List.setIfInBounds_toArray, List.set_cons_zero, List.set_cons_succ]
  refine wpAnyH_take (i := 64) (oi := { dst := some 21, op := Op.assign (Operand.tmp 181), type := 4, pos := "top.go:243", after := #[{ on := 63, ground := Ground.data }, { on := 53, ground := Ground.chain }, { on := 0, ground := Ground.phase }, { on := 1, ground := Ground.phase }, { on := 2, ground := Ground.phase }, { on := 3, ground := Ground.phase }, { on := 4, ground := Ground.phase }, { on := 5, ground := Ground.phase }, { on := 6, ground := Ground.phase }, { on := 7, ground := Ground.phase }, { on := 8, ground := Ground.phase }, { on := 9, ground := Ground.phase }, { on := 10, ground := Ground.phase }, { on := 11, ground := Ground.phase }, { on := 12, ground := Ground.phase }, { on := 13, ground := Ground.phase }, { on := 14, ground := Ground.phase }, { on := 15, ground := Ground.phase }, { on := 16, ground := Ground.phase }, { on := 17, ground := Ground.phase }, { on := 18, ground := Ground.phase }, { on := 19, ground := Ground.phase }, { on := 20, ground := Ground.phase }, { on := 21, ground := Ground.phase }, { on := 22, ground := Ground.phase }, { on := 23, ground := Ground.phase }, { on := 24, ground := Ground.phase }, { on := 25, ground := Ground.phase }, { on := 26, ground := Ground.phase }, { on := 27, ground := Ground.phase }, { on := 28, ground := Ground.phase }, { on := 29, ground := Ground.phase }, { on := 30, ground := Ground.phase }, { on := 31, ground := Ground.phase }, { on := 32, ground := Ground.phase }, { on := 33, ground := Ground.phase }, { on := 34, ground := Ground.phase }, { on := 35, ground := Ground.phase }, { on := 36, ground := Ground.phase }, { on := 37, ground := Ground.phase }, { on := 38, ground := Ground.phase }, { on := 39, ground := Ground.phase }, { on := 40, ground := Ground.phase }, { on := 41, ground := Ground.phase }, { on := 42, ground := Ground.phase }, { on := 43, ground := Ground.phase }, { on := 44, ground := Ground.phase }, { on := 45, ground := Ground.phase }, { on := 46, ground := Ground.phase }, { on := 47, ground := Ground.phase }, { on := 48, ground := Ground.phase }, { on := 49, ground := Ground.phase }, { on := 50, ground := Ground.phase }, { on := 51, ground := Ground.phase }, { on := 52, ground := Ground.phase }, { on := 53, ground := Ground.phase }, { on := 54, ground := Ground.phase }, { on := 55, ground := Ground.phase }, { on := 56, ground := Ground.phase }, { on := 57, ground := Ground.phase }, { on := 58, ground := Ground.phase }, { on := 59, ground := Ground.phase }, { on := 60, ground := Ground.phase }, { on := 61, ground := Ground.phase }, { on := 62, ground := Ground.phase }, { on := 63, ground := Ground.phase }], guard := none }) (v := ?_) rfl (by kernel_rfl) (by kernel_rfl) (by kernel_rfl) (fun _ _ _ h => h) (Or.inl ⟨by rfl, ?_⟩) hHeld ?_
  rotate_left
  · (intro w hSw; (try dsimp only at hSw); go_simp; first | done | with_reducible rfl)
  simp only [Act.put, List.setIfInBounds_toArray, List.set_cons_zero, List.set_cons_succ]
  refine wpAnyH_done (by kernel_rfl) ?_ _
  clear hHeld
  go_wp2_with fail
  go_quiet (fail)
  go_wp2_with fail
  go_ret
  exact ⟨rfl, Below.drewN HZZ.out.drew _⟩
set_option maxHeartbeats 4000000 in
set_option maxRecDepth 100000 in
theorem topCut_3g (w : World) (m t k b : Nat) (v : Value) (l : List Lk) (hn : l.length * 24 ≤ 140737488355328) (h : ArgK w v l) (hg : gBad m l = 0) (ht : t < m) (hk : k < l.length) (hb : b < m) (q0 : t ≠ b) (q1 : BellP.far m (BellP.ct l) t b < 16) (uu : Int) (hF : SpfP.ups m (BellP.ct l) t b = [uu]) (r1 : ¬ uu = l[k]!.1) (r3 : uu = l[k]!.2.1) (r4 : ¬ (b : Int) = l[k]!.1) :
    Calls Try.prog 7 #[.int .i64 m, v, .int .i64 k, .int .i64 t, .int .i64 b] w fun e w' => e = .returned (.bool true) ∧ Below w.heap.size w w' := by
  have q0_ := Lib.hid q0
  clear q0
  have q1_ := Lib.hid q1
  clear q1
  have hF_ := Lib.hid hF
  clear hF
  have r1_ := Lib.hid r1
  clear r1
  have r3_ := Lib.hid r3
  clear r3
  have r4_ := Lib.hid r4
  clear r4
  have HL := Lib.hid (h)
  have hR := ((gBad_zero m l).1 hg).2
  have hm := ((gBad_zero m l).1 hg).1
  have HR := Lib.hid hR
  have HMm := Lib.hid (List.getElem_mem hk)
  rw [← getElem!_pos l k hk] at HMm
  obtain ⟨p, c, rfl, hp⟩ := h
  rcases hp with hp | ⟨lb, lo, rfl, hlb, hs⟩
  · exfalso; rw [hp] at hk; exact absurd hk (by simp)
  have h : ArgK w (.slice (some ⟨lb, lo, none⟩) l.length c) l := ⟨_, c, rfl, Or.inr ⟨lb, lo, rfl, hlb, hs⟩⟩
  have HL := Lib.hid h
  have HSK := Lib.hid (And.intro hlb hs)
  clear h hs hlb hR
  have hx1 : l[k]!.1 ≠ l[k]!.2.1 := ((linkBad_zero m _).1 (HR.out.1 _ HMm.out)).2.2.2.2.2.2
  have HZZ : Hid (Below w.heap.size w w) := Lib.hid (Below.refl _ _)
  go_enter Try.func7, Try.ntmps7
  have HSKz : Hid (∀ w', Below w.heap.size w w' → w'.cell? ⟨lb, lo + k * 3, none⟩ = some (.int .i64 l[k]!.1) ∧ w'.cell? ⟨lb, lo + k * 3 + 1, none⟩ = some (.int .i64 l[k]!.2.1)) := Lib.hid fun w' hb => ⟨(hb.cell (p := ⟨lb, lo + k * 3, none⟩) HSK.out.1).trans (HSK.out.2.c0 k hk), (hb.cell (p := ⟨lb, lo + k * 3 + 1, none⟩) HSK.out.1).trans (HSK.out.2.c1 k hk)⟩
  have HLen : Hid (l.length = l.length) := Lib.hid rfl
  clear HSK
  go_wp2_with fail
  refine (far_ok w m t (.slice (some ⟨lb, lo, none⟩) l.length c) l (by omega) HL.out hg ht).mono ?_
  rintro e w1 ⟨f1, _, rfl, hV, hb1⟩
  have HL' := Lib.hid (HL.out.below hb1)
  have HZZ' := Lib.hid (Below.two HZZ.out hb1)
  have HX := Lib.hid (hV)
  clear hb1 HZZ HL
  have HZZ := HZZ'
  clear HZZ'
  have HL := HL'
  clear HL'
  clear hV
  go_wp2_with fail
  refine (one_at w1).mono ?_
  rintro e w2 ⟨f0, _, rfl, o1, hb2⟩
  have HL' := Lib.hid (HL.out.below hb2)
  have HX' := Lib.hid (HX.out.keep hb2)
  have HZZ' := Lib.hid (Below.two HZZ.out hb2)
  clear hb2 HZZ HL HX
  have HZZ := HZZ'
  clear HZZ'
  have HL := HL'
  clear HL'
  have HX := HX'
  clear HX'
  have HCY := Lib.hid (fun w' h => cut_yes w' m l[k]!.1 l[k]!.2.1 (.slice (some ⟨lb, lo, none⟩) l.length c) l hn h hg (SpfP.less_has HMm.out))
  have HRL := Lib.hid (right_less HR.out l[k]!.1 l[k]!.2.1)
  have hgL : gBad m (less l l[k]!.1 l[k]!.2.1) = 0 := (gBad_zero m _).2 ⟨hm, HRL.out⟩
  have hLl : (less l l[k]!.1 l[k]!.2.1).length ≤ l.length := List.length_filter_le _ _
  have HLE := Lib.hid (SpfP.cut_le HR.out HMm.out ht b hb)
  have HMO := Lib.hid (SpfP.cut_more HR.out HMm.out ht b hb)
  have HBD := Lib.hid (BellP.far_bd m (BellP.ct l) t b)
  generalize hA : l[k]!.1 = A at *
  generalize hB : l[k]!.2.1 = B at *
  clear hA hB HMm
  have kn : ¬ (k : Int) < 0 := by omega
  have kl : ¬ (k : Int) ≥ (l.length : Int) := by omega
  have bn : ¬ (b : Int) < 0 := by omega
  have bm : ¬ (b : Int) ≥ (m : Int) := by omega
  go_wp2_with fail
  obtain ⟨s0, s1⟩ := HSKz.out _ HZZ.out
  have HLd := Lib.hid (HL.out.below (Below.refl w2.heap.size w2).drew)
  go_region_held3 (fun w' => w'.cell? ⟨lb, lo + k * 3, none⟩ = some (.int .i64 A) ∧ w'.cell? ⟨lb, lo + k * 3 + 1, none⟩ = some (.int .i64 B)) (first | assumption | exact ⟨s0, s1⟩)
    (first | (go_at_call 16; refine (HCY.out _ HLd.out).mono ?_; rintro e w3 ⟨g2, c2, _, rfl, hRF, hb3⟩; have hbb : Below w2.heap.size w2 w3 := Below.two (Below.refl _ _).drew hb3; have K := HSKz.out _ (Below.two HZZ.out hbb); clear hb3))
  clear K s0 s1 HLd
  have HL' := Lib.hid (HL.out.below hbb)
  have HX' := Lib.hid (HX.out.keep hbb)
  have HZZ' := Lib.hid (Below.two HZZ.out hbb)
  clear HZZ HL HX
  have HZZ := HZZ'
  clear HZZ'
  have HL := HL'
  clear HL'
  have HX := HX'
  clear HX'
  have HL2 := Lib.hid (RowF.argK hRF c2)
  clear hRF hbb
  go_wp2_with fail
  refine (far_ok w3 m t _ (less l A B) (by omega) HL2.out hgL ht).mono ?_
  rintro e w4 ⟨f2, _, rfl, hV, hb4⟩
  have HL' := Lib.hid (HL.out.below hb4)
  have HX' := Lib.hid (HX.out.keep hb4)
  have HL2' := Lib.hid (HL2.out.below hb4)
  have HZZ' := Lib.hid (Below.two HZZ.out hb4)
  have HY := Lib.hid (hV)
  clear hb4 HZZ HL HX HL2
  have HZZ := HZZ'
  clear HZZ'
  have HL := HL'
  clear HL'
  have HX := HX'
  clear HX'
  have HL2 := HL2'
  clear HL2'
  clear hV
  go_wp2_with fail
  have xb := HX.out.c b hb
  have yb := HY.out.c b hb
  generalize hyy : BellP.far m (BellP.ct (less l A B)) t b = y at yb HLE HMO
  generalize hxx : BellP.far m (BellP.ct l) t b = x at xb HLE HMO HBD q1_
  have HXX := Lib.hid hxx
  have HYY := Lib.hid hyy
  clear hxx hyy
  have hle := HLE.out
  have le1 : ¬ (y : Int) < (x : Int) := by omega
  go_quiet (fail)
  have hdr : Below w4.heap.size w4 (w4.drewN nq) := Below.drewN (Below.refl _ _) nq
  generalize w4.drewN nq = we at hdr ⊢
  have HL' := Lib.hid (HL.out.below hdr)
  have HX' := Lib.hid (HX.out.keep hdr)
  have HL2' := Lib.hid (HL2.out.below hdr)
  have HY' := Lib.hid (HY.out.keep hdr)
  have HZZ' := Lib.hid (Below.two HZZ.out hdr)
  clear HZZ HL HX HL2 HY
  have HZZ := HZZ'
  clear HZZ'
  have HL := HL'
  clear HL'
  have HX := HX'
  clear HX'
  have HL2 := HL2'
  clear HL2'
  have HY := HY'
  clear HY'
  clear hdr xb yb le1
  go_wp2_with fail
  refine (ups_ok we m t (.slice (some ⟨lb, lo, none⟩) l.length c) l (by omega) HL.out hg ht).mono ?_
  rintro e w5 ⟨u, vs, rfl, hT, hb5⟩
  have HL' := Lib.hid (HL.out.below hb5)
  have HX' := Lib.hid (HX.out.keep hb5)
  have HL2' := Lib.hid (HL2.out.below hb5)
  have HY' := Lib.hid (HY.out.keep hb5)
  have HZZ' := Lib.hid (Below.two HZZ.out hb5)
  have HT := Lib.hid (hT)
  clear hb5 HZZ HL HX HL2 HY
  have HZZ := HZZ'
  clear HZZ'
  have HL := HL'
  clear HL'
  have HX := HX'
  clear HX'
  have HL2 := HL2'
  clear HL2'
  have HY := HY'
  clear HY'
  clear hT
  go_wp2_with fail
  have ci := HT.out.c b hb
  obtain ⟨p3, c3, hv3, hp3⟩ := (HT.out.o b hb).arg
  rw [hv3] at ci
  have xb := HX.out.c b hb
  have yb := HY.out.c b hb
  obtain ⟨s0, s1⟩ := HSKz.out _ HZZ.out
  rw [HXX.out] at xb
  rw [HYY.out] at yb
  generalize SpfP.ups m (BellP.ct l) t b = F at ci HMO hp3 hF_
  clear hv3 HT
  dsimp only [List.append_eq, List.cons_append, List.nil_append]
  have q0 := q0_.out
  have q1 := q1_.out
  have hF := hF_.out
  have r1 := r1_.out
  have r3 := r3_.out
  have r4 := r4_.out
  have n0 : ((t : Int) != (b : Int)) = true := by
    have : ¬ (t : Int) = b := by omega
    simpa using this
  have n1 : (x : Int) < 16 := by omega
  subst hF
  rcases hp3 with e | ⟨bb, off, rfl, hbb, hs⟩
  · exact absurd e (by simp)
  have cu := hs 0 (by simp)
  rw [Nat.add_zero] at cu
  have cu : _ = some (Value.int .i64 uu) := cu
  have HM := Lib.hid (fun h => HMO.out (fun e => q0 e.symm) q1 uu rfl h)
  clear hs HMO
  have e1 : (uu == A) = false := by simpa using r1
  have e3 : (uu == B) = true := by simpa using r3
  have e4 : ((b : Int) == A) = false := by simpa using r4
  clear r1 r3 r4
  refine wp_region_held_drew (S := (fun w' => w'.cell? ⟨f1, b, none⟩ = some (.int .i64 (x : Int)) ∧ w'.cell? ⟨u, b, none⟩ = some (.slice (some ⟨bb, off, none⟩) 1 c3) ∧ w'.cell? ⟨lb, lo + k * 3, none⟩ = some (.int .i64 A) ∧ w'.cell? ⟨lb, lo + k * 3 + 1, none⟩ = some (.int .i64 B) ∧ w'.cell? ⟨bb, off, none⟩ = some (.int .i64 uu))) (by kernel_rfl) ⟨xb, ci, s0, s1, cu⟩ (fun hHeld => ?_)
  refine wpAnyH_take (i := 0) (oi := { dst := some 118, op := Op.move (Operand.tmp 3), type := 3, pos := "top.go:243", after := #[], guard := none }) (v := ?_) rfl (by kernel_rfl) (by kernel_rfl) (by kernel_rfl) (fun _ _ _ h => h) (Or.inl ⟨by rfl, ?_⟩) hHeld ?_
  rotate_left
  · (intro w hSw; (try dsimp only at hSw); go_simp; first | done | with_reducible rfl)
  simp only [Act.put, List.setIfInBounds_toArray, List.set_cons_zero, List.set_cons_succ]
  refine wpAnyH_take (i := 1) (oi := { dst := some 119, op := Op.move (Operand.tmp 4), type := 3, pos := "top.go:243", after := #[], guard := none }) (v := ?_) rfl (by kernel_rfl) (by kernel_rfl) (by kernel_rfl) (fun _ _ _ h => h) (Or.inl ⟨by rfl, ?_⟩) hHeld ?_
  rotate_left
  · (intro w hSw; (try dsimp only at hSw); go_simp; first | done | with_reducible rfl)
  simp only [Act.put, List.setIfInBounds_toArray, List.set_cons_zero, List.set_cons_succ]
  refine wpAnyH_take (i := 2) (oi := { dst := some 120, op := Op.binOp BinOp.neq 3 (Operand.tmp 118) (Operand.tmp 119) 3, type := 4, pos := "top.go:243", after := #[{ on := 0, ground := Ground.data }, { on := 1, ground := Ground.data }], guard := none }) (v := ?_) rfl (by kernel_rfl) (by kernel_rfl) (by kernel_rfl) (fun _ _ _ h => h) (Or.inl ⟨by rfl, ?_⟩) hHeld ?_
  rotate_left
  · (intro w hSw; (try dsimp only at hSw); go_simp; first | done | with_reducible rfl)
  simp only [Act.put, List.setIfInBounds_toArray, List.set_cons_zero, List.set_cons_succ]
  refine wpAnyH_take (i := 3) (oi := { dst := some 121, op := Op.move (Operand.tmp 120), type := 4, pos := "top.go:243", after := #[{ on := 2, ground := Ground.data }], guard := none }) (v := ?_) rfl (by kernel_rfl) (by kernel_rfl) (by kernel_rfl) (fun _ _ _ h => h) (Or.inl ⟨by rfl, ?_⟩) hHeld ?_
  rotate_left
  · (intro w hSw; (try dsimp only at hSw); go_simp; first | done | with_reducible rfl)
  simp only [Act.put, List.setIfInBounds_toArray, List.set_cons_zero, List.set_cons_succ]
  refine wpAnyH_take (i := 4) (oi := { dst := some 122, op := Op.move (Operand.tmp 11), type := 24, pos := "top.go:243", after := #[{ on := 3, ground := Ground.guard }], guard := some (3, true) }) (v := ?_) rfl (by kernel_rfl) (by kernel_rfl) (by kernel_rfl) (fun _ _ _ h => h) (Or.inl ⟨by rfl, ?_⟩) hHeld ?_
  rotate_left
  · (intro w hSw; (try dsimp only at hSw); go_simp; first | done | with_reducible rfl)
  simp only [Act.put, List.setIfInBounds_toArray, List.set_cons_zero, List.set_cons_succ]
  refine wpAnyH_take (i := 5) (oi := { dst := some 123, op := Op.move (Operand.tmp 4), type := 3, pos := "top.go:243", after := #[{ on := 3, ground := Ground.guard }], guard := some (3, true) }) (v := ?_) rfl (by kernel_rfl) (by kernel_rfl) (by kernel_rfl) (fun _ _ _ h => h) (Or.inl ⟨by rfl, ?_⟩) hHeld ?_
  rotate_left
  · (intro w hSw; (try dsimp only at hSw); go_simp; first | done | with_reducible rfl)
  simp only [Act.put, List.setIfInBounds_toArray, List.set_cons_zero, List.set_cons_succ]
  refine wpAnyH_take (i := 6) (oi := { dst := some 124, op := Op.indexAddr 24 (Operand.tmp 122) (Operand.tmp 123), type := 0, pos := "top.go:243", after := #[{ on := 4, ground := Ground.data }, { on := 5, ground := Ground.data }, { on := 3, ground := Ground.guard }], guard := some (3, true) }) (v := ?_) rfl (by kernel_rfl) (by kernel_rfl) (by kernel_rfl) (fun _ _ _ h => h) (Or.inl ⟨by rfl, ?_⟩) hHeld ?_
  rotate_left
  · (intro w hSw; (try dsimp only at hSw); go_simp; first | done | with_reducible rfl)
  simp only [Act.put, List.setIfInBounds_toArray, List.set_cons_zero, List.set_cons_succ]
  refine wpAnyH_take (i := 7) (oi := { dst := some 125, op := Op.load 3 (Operand.tmp 124), type := 3, pos := "top.go:243", after := #[{ on := 6, ground := Ground.data }, { on := 3, ground := Ground.guard }], guard := some (3, true) }) (v := ?_) rfl (by kernel_rfl) (by kernel_rfl) (by kernel_rfl) (fun _ _ _ h => h) (Or.inl ⟨by rfl, ?_⟩) hHeld ?_
  rotate_left
  · (intro w hSw; (try dsimp only at hSw); go_simp; first | done | with_reducible rfl)
  simp only [Act.put, List.setIfInBounds_toArray, List.set_cons_zero, List.set_cons_succ]
  refine wpAnyH_take (i := 8) (oi := { dst := some 126, op := Op.binOp BinOp.lss 3 (Operand.tmp 125) (Operand.const (Value.int IntKind.i64 16)) 3, type := 4, pos := "top.go:243", after := #[{ on := 7, ground := Ground.data }, { on := 3, ground := Ground.guard }], guard := some (3, true) }) (v := ?_) rfl (by kernel_rfl) (by kernel_rfl) (by kernel_rfl) (fun _ _ _ h => h) (Or.inl ⟨by rfl, ?_⟩) hHeld ?_
  rotate_left
  · (intro w hSw; (try dsimp only at hSw); go_simp; first | done | with_reducible rfl)
  simp only [Act.put, List.setIfInBounds_toArray, List.set_cons_zero, List.set_cons_succ]
  refine wpAnyH_take (i := 9) (oi := { dst := some 127, op := Op.pick (Operand.tmp 121) (Operand.tmp 126) (Operand.const (Value.bool false)), type := 4, pos := "top.go:243", after := #[{ on := 3, ground := Ground.data }, { on := 8, ground := Ground.data }], guard := none }) (v := ?_) rfl (by kernel_rfl) (by kernel_rfl) (by kernel_rfl) (fun _ _ _ h => h) (Or.inl ⟨by rfl, ?_⟩) hHeld ?_
  rotate_left
  · (intro w hSw; (try dsimp only at hSw); go_simp; first | done | with_reducible rfl)
  simp only [Act.put, List.setIfInBounds_toArray, List.set_cons_zero, List.set_cons_succ]
  refine wpAnyH_take (i := 10) (oi := { dst := some 128, op := Op.move (Operand.tmp 127), type := 4, pos := "top.go:243", after := #[{ on := 9, ground := Ground.data }, { on := 3, ground := Ground.chain }], guard := none }) (v := ?_) rfl (by kernel_rfl) (by kernel_rfl) (by kernel_rfl) (fun _ _ _ h => h) (Or.inl ⟨by rfl, ?_⟩) hHeld ?_
  rotate_left
  · (intro w hSw; (try dsimp only at hSw); go_simp; first | done | with_reducible rfl)
  simp only [Act.put, List.setIfInBounds_toArray, List.set_cons_zero, List.set_cons_succ]
  refine wpAnyH_take (i := 11) (oi := { dst := some 129, op := Op.move (Operand.tmp 19), type := 31, pos := "top.go:243", after := #[{ on := 10, ground := Ground.guard }], guard := some (10, true) }) (v := ?_) rfl (by kernel_rfl) (by kernel_rfl) (by kernel_rfl) (fun _ _ _ h => h) (Or.inl ⟨by rfl, ?_⟩) hHeld ?_
  rotate_left
  · (intro w hSw; (try dsimp only at hSw); go_simp; first | done | with_reducible rfl)
  simp only [Act.put, List.setIfInBounds_toArray, List.set_cons_zero, List.set_cons_succ]
  refine wpAnyH_take (i := 12) (oi := { dst := some 130, op := Op.move (Operand.tmp 4), type := 3, pos := "top.go:243", after := #[{ on := 10, ground := Ground.guard }], guard := some (10, true) }) (v := ?_) rfl (by kernel_rfl) (by kernel_rfl) (by kernel_rfl) (fun _ _ _ h => h) (Or.inl ⟨by rfl, ?_⟩) hHeld ?_
  rotate_left
  · (intro w hSw; (try dsimp only at hSw); go_simp; first | done | with_reducible rfl)
  simp only [Act.put, List.setIfInBounds_toArray, List.set_cons_zero, List.set_cons_succ]
  refine wpAnyH_take (i := 13) (oi := { dst := some 131, op := Op.indexAddr 31 (Operand.tmp 129) (Operand.tmp 130), type := 0, pos := "top.go:243", after := #[{ on := 11, ground := Ground.data }, { on := 12, ground := Ground.data }, { on := 10, ground := Ground.guard }], guard := some (10, true) }) (v := ?_) rfl (by kernel_rfl) (by kernel_rfl) (by kernel_rfl) (fun _ _ _ h => h) (Or.inl ⟨by rfl, ?_⟩) hHeld ?_
  rotate_left
  · (intro w hSw; (try dsimp only at hSw); go_simp; first | done | with_reducible rfl)
  simp only [Act.put, List.setIfInBounds_toArray, List.set_cons_zero, List.set_cons_succ]
  refine wpAnyH_take (i := 14) (oi := { dst := some 132, op := Op.load 24 (Operand.tmp 131), type := 24, pos := "top.go:243", after := #[{ on := 13, ground := Ground.data }, { on := 10, ground := Ground.guard }], guard := some (10, true) }) (v := ?_) rfl (by kernel_rfl) (by kernel_rfl) (by kernel_rfl) (fun _ _ _ h => h) (Or.inl ⟨by rfl, ?_⟩) hHeld ?_
  rotate_left
  · (intro w hSw; (try dsimp only at hSw); go_simp; first | done | with_reducible rfl)
  simp only [Act.put, List.setIfInBounds_toArray, List.set_cons_zero, List.set_cons_succ]
  refine wpAnyH_take (i := 15) (oi := { dst := some 133, op := Op.call { callee := Callee.builtin Builtin.len, args := #[Operand.tmp 132], argTypes := #[24] }, type := 3, pos := "top.go:243", after := #[{ on := 14, ground := Ground.data }, { on := 10, ground := Ground.guard }], guard := some (10, true) }) (v := ?_) rfl (by kernel_rfl) (by kernel_rfl) (by kernel_rfl) (fun _ _ _ h => h) (Or.inl ⟨by rfl, ?_⟩) hHeld ?_
  rotate_left
  · (intro w hSw; (try dsimp only at hSw); go_simp; first | done | with_reducible rfl)
  simp only [Act.put, List.setIfInBounds_toArray, List.set_cons_zero, List.set_cons_succ]
  refine wpAnyH_take (i := 16) (oi := { dst := some 134, op := Op.binOp BinOp.eql 3 (Operand.tmp 133) (Operand.const (Value.int IntKind.i64 1)) 3, type := 4, pos := "top.go:243", after := #[{ on := 15, ground := Ground.data }, { on := 10, ground := Ground.guard }], guard := some (10, true) }) (v := ?_) rfl (by kernel_rfl) (by kernel_rfl) (by kernel_rfl) (fun _ _ _ h => h) (Or.inl ⟨by rfl, ?_⟩) hHeld ?_
  rotate_left
  · (intro w hSw; (try dsimp only at hSw); go_simp; first | done | with_reducible rfl)
  simp only [Act.put, List.setIfInBounds_toArray, List.set_cons_zero, List.set_cons_succ]
  refine wpAnyH_take (i := 17) (oi := { dst := some 135, op := Op.pick (Operand.tmp 128) (Operand.tmp 134) (Operand.const (Value.bool false)), type := 4, pos := "top.go:243", after := #[{ on := 10, ground := Ground.data }, { on := 16, ground := Ground.data }], guard := none }) (v := ?_) rfl (by kernel_rfl) (by kernel_rfl) (by kernel_rfl) (fun _ _ _ h => h) (Or.inl ⟨by rfl, ?_⟩) hHeld ?_
  rotate_left
  · (intro w hSw; (try dsimp only at hSw); go_simp; first | done | with_reducible rfl)
  simp only [Act.put, List.setIfInBounds_toArray, List.set_cons_zero, List.set_cons_succ]
  refine wpAnyH_take (i := 18) (oi := { dst := some 136, op := Op.move (Operand.tmp 135), type := 4, pos := "top.go:243", after := #[{ on := 17, ground := Ground.data }, { on := 10, ground := Ground.chain }], guard := none }) (v := ?_) rfl (by kernel_rfl) (by kernel_rfl) (by kernel_rfl) (fun _ _ _ h => h) (Or.inl ⟨by rfl, ?_⟩) hHeld ?_
  rotate_left
  · (intro w hSw; (try dsimp only at hSw); go_simp; first | done | with_reducible rfl)
  simp only [Act.put, List.setIfInBounds_toArray, List.set_cons_zero, List.set_cons_succ]
  refine wpAnyH_take (i := 19) (oi := { dst := some 137, op := Op.move (Operand.tmp 19), type := 31, pos := "top.go:243", after := #[{ on := 18, ground := Ground.guard }], guard := some (18, true) }) (v := ?_) rfl (by kernel_rfl) (by kernel_rfl) (by kernel_rfl) (fun _ _ _ h => h) (Or.inl ⟨by rfl, ?_⟩) hHeld ?_
  rotate_left
  · (intro w hSw; (try dsimp only at hSw); go_simp; first | done | with_reducible rfl)
  simp only [Act.put, List.setIfInBounds_toArray, List.set_cons_zero, List.set_cons_succ]
  refine wpAnyH_take (i := 20) (oi := { dst := some 138, op := Op.move (Operand.tmp 4), type := 3, pos := "top.go:243", after := #[{ on := 18, ground := Ground.guard }], guard := some (18, true) }) (v := ?_) rfl (by kernel_rfl) (by kernel_rfl) (by kernel_rfl) (fun _ _ _ h => h) (Or.inl ⟨by rfl, ?_⟩) hHeld ?_
  rotate_left
  · (intro w hSw; (try dsimp only at hSw); go_simp; first | done | with_reducible rfl)
  simp only [Act.put, List.setIfInBounds_toArray, List.set_cons_zero, List.set_cons_succ]
  refine wpAnyH_take (i := 21) (oi := { dst := some 139, op := Op.indexAddr 31 (Operand.tmp 137) (Operand.tmp 138), type := 0, pos := "top.go:243", after := #[{ on := 19, ground := Ground.data }, { on := 20, ground := Ground.data }, { on := 18, ground := Ground.guard }], guard := some (18, true) }) (v := ?_) rfl (by kernel_rfl) (by kernel_rfl) (by kernel_rfl) (fun _ _ _ h => h) (Or.inl ⟨by rfl, ?_⟩) hHeld ?_
  rotate_left
  · (intro w hSw; (try dsimp only at hSw); go_simp; first | done | with_reducible rfl)
  simp only [Act.put, List.setIfInBounds_toArray, List.set_cons_zero, List.set_cons_succ]
  refine wpAnyH_take (i := 22) (oi := { dst := some 140, op := Op.load 24 (Operand.tmp 139), type := 24, pos := "top.go:243", after := #[{ on := 21, ground := Ground.data }, { on := 18, ground := Ground.guard }], guard := some (18, true) }) (v := ?_) rfl (by kernel_rfl) (by kernel_rfl) (by kernel_rfl) (fun _ _ _ h => h) (Or.inl ⟨by rfl, ?_⟩) hHeld ?_
  rotate_left
  · (intro w hSw; (try dsimp only at hSw); go_simp; first | done | with_reducible rfl)
  simp only [Act.put, List.setIfInBounds_toArray, List.set_cons_zero, List.set_cons_succ]
  refine wpAnyH_take (i := 23) (oi := { dst := some 141, op := Op.indexAddr 24 (Operand.tmp 140) (Operand.const (Value.int IntKind.i64 0)), type := 0, pos := "top.go:243", after := #[{ on := 22, ground := Ground.data }, { on := 18, ground := Ground.guard }], guard := some (18, true) }) (v := ?_) rfl (by kernel_rfl) (by kernel_rfl) (by kernel_rfl) (fun _ _ _ h => h) (Or.inl ⟨by rfl, ?_⟩) hHeld ?_
  rotate_left
  · (intro w hSw; (try dsimp only at hSw); go_simp; first | done | with_reducible rfl)
  simp only [Act.put, List.setIfInBounds_toArray, List.set_cons_zero, List.set_cons_succ]
  refine wpAnyH_take (i := 24) (oi := { dst := some 142, op := Op.load 3 (Operand.tmp 141), type := 3, pos := "top.go:243", after := #[{ on := 23, ground := Ground.data }, { on := 18, ground := Ground.guard }], guard := some (18, true) }) (v := ?_) rfl (by kernel_rfl) (by kernel_rfl) (by kernel_rfl) (fun _ _ _ h => h) (Or.inl ⟨by rfl, ?_⟩) hHeld ?_
  rotate_left
  · (intro w hSw; (try dsimp only at hSw); go_simp; first | done | with_reducible rfl)
  simp only [Act.put, List.setIfInBounds_toArray, List.set_cons_zero, List.set_cons_succ]
  refine wpAnyH_take (i := 25) (oi := { dst := some 143, op := Op.move (Operand.tmp 1), type := 22, pos := "top.go:243", after := #[{ on := 18, ground := Ground.guard }], guard := some (18, true) }) (v := ?_) rfl (by kernel_rfl) (by kernel_rfl) (by kernel_rfl) (fun _ _ _ h => h) (Or.inl ⟨by rfl, ?_⟩) hHeld ?_
  rotate_left
  · (intro w hSw; (try dsimp only at hSw); go_simp; first | done | with_reducible rfl)
  simp only [Act.put, List.setIfInBounds_toArray, List.set_cons_zero, List.set_cons_succ]
  refine wpAnyH_take (i := 26) (oi := { dst := some 144, op := Op.move (Operand.tmp 2), type := 3, pos := "top.go:243", after := #[{ on := 18, ground := Ground.guard }], guard := some (18, true) }) (v := ?_) rfl (by kernel_rfl) (by kernel_rfl) (by kernel_rfl) (fun _ _ _ h => h) (Or.inl ⟨by rfl, ?_⟩) hHeld ?_
  rotate_left
  · (intro w hSw; (try dsimp only at hSw); go_simp; first | done | with_reducible rfl)
  simp only [Act.put, List.setIfInBounds_toArray, List.set_cons_zero, List.set_cons_succ]
  refine wpAnyH_take (i := 27) (oi := { dst := some 145, op := Op.indexAddr 22 (Operand.tmp 143) (Operand.tmp 144), type := 0, pos := "top.go:243", after := #[{ on := 25, ground := Ground.data }, { on := 26, ground := Ground.data }, { on := 18, ground := Ground.guard }], guard := some (18, true) }) (v := ?_) rfl (by kernel_rfl) (by kernel_rfl) (by kernel_rfl) (fun _ _ _ h => h) (Or.inl ⟨by rfl, ?_⟩) hHeld ?_
  rotate_left
  · (intro w hSw; (try dsimp only at hSw); go_simp; first | done | with_reducible rfl)
  simp only [Act.put, List.setIfInBounds_toArray, List.set_cons_zero, List.set_cons_succ]
  refine wpAnyH_take (i := 28) (oi := { dst := some 146, op := Op.fieldAddr 42 (Operand.tmp 145) 0, type := 0, pos := "top.go:243", after := #[{ on := 27, ground := Ground.data }, { on := 18, ground := Ground.guard }], guard := some (18, true) }) (v := ?_) rfl (by kernel_rfl) (by kernel_rfl) (by kernel_rfl) (fun _ _ _ h => h) (Or.inl ⟨by rfl, ?_⟩) hHeld ?_
  rotate_left
  · (intro w hSw; (try dsimp only at hSw); go_simp; first | done | with_reducible rfl)
  simp only [Act.put, List.setIfInBounds_toArray, List.set_cons_zero, List.set_cons_succ]
  refine wpAnyH_take (i := 29) (oi := { dst := some 147, op := Op.load 3 (Operand.tmp 146), type := 3, pos := "top.go:243", after := #[{ on := 28, ground := Ground.data }, { on := 18, ground := Ground.guard }], guard := some (18, true) }) (v := ?_) rfl (by kernel_rfl) (by kernel_rfl) (by kernel_rfl) (fun _ _ _ h => h) (Or.inl ⟨by rfl, ?_⟩) hHeld ?_
  rotate_left
  · (intro w hSw; (try dsimp only at hSw); go_simp; first | done | with_reducible rfl)
  simp only [Act.put, List.setIfInBounds_toArray, List.set_cons_zero, List.set_cons_succ]
  refine wpAnyH_take (i := 30) (oi := { dst := some 148, op := Op.binOp BinOp.eql 3 (Operand.tmp 142) (Operand.tmp 147) 3, type := 4, pos := "top.go:243", after := #[{ on := 24, ground := Ground.data }, { on := 29, ground := Ground.data }, { on := 18, ground := Ground.guard }], guard := some (18, true) }) (v := ?_) rfl (by kernel_rfl) (by kernel_rfl) (by kernel_rfl) (fun _ _ _ h => h) (Or.inl ⟨by rfl, ?_⟩) hHeld ?_
  rotate_left
  · (intro w hSw; (try dsimp only at hSw); go_simp; first | done | with_reducible rfl)
  simp only [Act.put, List.setIfInBounds_toArray, List.set_cons_zero, List.set_cons_succ]
  refine wpAnyH_take (i := 31) (oi := { dst := some 149, op := Op.move (Operand.tmp 148), type := 4, pos := "top.go:243", after := #[{ on := 30, ground := Ground.data }, { on := 18, ground := Ground.chain }, { on := 18, ground := Ground.guard }], guard := some (18, true) }) (v := ?_) rfl (by kernel_rfl) (by kernel_rfl) (by kernel_rfl) (fun _ _ _ h => h) (Or.inl ⟨by rfl, ?_⟩) hHeld ?_
  rotate_left
  · (intro w hSw; (try dsimp only at hSw); go_simp; first | done | with_reducible rfl)
  simp only [Act.put, List.setIfInBounds_toArray, List.set_cons_zero, List.set_cons_succ]
  refine wpAnyH_take (i := 32) (oi := { dst := some 150, op := Op.move (Operand.tmp 4), type := 3, pos := "top.go:243", after := #[{ on := 31, ground := Ground.guard }], guard := some (31, true) }) (v := undef) rfl (by kernel_rfl) (by kernel_rfl) (by kernel_rfl) (fun _ _ _ h => h) (Or.inr ⟨by rfl, rfl⟩) hHeld ?_
  simp only [Act.put, List.setIfInBounds_toArray, List.set_cons_zero, List.set_cons_succ]
  refine wpAnyH_take (i := 33) (oi := { dst := some 151, op := Op.move (Operand.tmp 1), type := 22, pos := "top.go:243", after := #[{ on := 31, ground := Ground.guard }], guard := some (31, true) }) (v := undef) rfl (by kernel_rfl) (by kernel_rfl) (by kernel_rfl) (fun _ _ _ h => h) (Or.inr ⟨by rfl, rfl⟩) hHeld ?_
  simp only [Act.put, List.setIfInBounds_toArray, List.set_cons_zero, List.set_cons_succ]
  refine wpAnyH_take (i := 34) (oi := { dst := some 152, op := Op.move (Operand.tmp 2), type := 3, pos := "top.go:243", after := #[{ on := 31, ground := Ground.guard }], guard := some (31, true) }) (v := undef) rfl (by kernel_rfl) (by kernel_rfl) (by kernel_rfl) (fun _ _ _ h => h) (Or.inr ⟨by rfl, rfl⟩) hHeld ?_
  simp only [Act.put, List.setIfInBounds_toArray, List.set_cons_zero, List.set_cons_succ]
  refine wpAnyH_take (i := 35) (oi := { dst := some 153, op := Op.indexAddr 22 (Operand.tmp 151) (Operand.tmp 152), type := 0, pos := "top.go:243", after := #[{ on := 33, ground := Ground.data }, { on := 34, ground := Ground.data }, { on := 31, ground := Ground.guard }], guard := some (31, true) }) (v := undef) rfl (by kernel_rfl) (by kernel_rfl) (by kernel_rfl) (fun _ _ _ h => h) (Or.inr ⟨by rfl, rfl⟩) hHeld ?_
  simp only [Act.put, List.setIfInBounds_toArray, List.set_cons_zero, List.set_cons_succ]
  refine wpAnyH_take (i := 36) (oi := { dst := some 154, op := Op.fieldAddr 42 (Operand.tmp 153) 1, type := 0, pos := "top.go:243", after := #[{ on := 35, ground := Ground.data }, { on := 31, ground := Ground.guard }], guard := some (31, true) }) (v := undef) rfl (by kernel_rfl) (by kernel_rfl) (by kernel_rfl) (fun _ _ _ h => h) (Or.inr ⟨by rfl, rfl⟩) hHeld ?_
  simp only [Act.put, List.setIfInBounds_toArray, List.set_cons_zero, List.set_cons_succ]
  refine wpAnyH_take (i := 37) (oi := { dst := some 155, op := Op.load 3 (Operand.tmp 154), type := 3, pos := "top.go:243", after := #[{ on := 36, ground := Ground.data }, { on := 31, ground := Ground.guard }], guard := some (31, true) }) (v := undef) rfl (by kernel_rfl) (by kernel_rfl) (by kernel_rfl) (fun _ _ _ h => h) (Or.inr ⟨by rfl, rfl⟩) hHeld ?_
  simp only [Act.put, List.setIfInBounds_toArray, List.set_cons_zero, List.set_cons_succ]
  refine wpAnyH_take (i := 38) (oi := { dst := some 156, op := Op.binOp BinOp.eql 3 (Operand.tmp 150) (Operand.tmp 155) 3, type := 4, pos := "top.go:243", after := #[{ on := 32, ground := Ground.data }, { on := 37, ground := Ground.data }, { on := 31, ground := Ground.guard }], guard := some (31, true) }) (v := undef) rfl (by kernel_rfl) (by kernel_rfl) (by kernel_rfl) (fun _ _ _ h => h) (Or.inr ⟨by rfl, rfl⟩) hHeld ?_
  simp only [Act.put, List.setIfInBounds_toArray, List.set_cons_zero, List.set_cons_succ]
  refine wpAnyH_take (i := 39) (oi := { dst := some 157, op := Op.pick (Operand.tmp 149) (Operand.tmp 156) (Operand.const (Value.bool false)), type := 4, pos := "top.go:243", after := #[{ on := 31, ground := Ground.data }, { on := 38, ground := Ground.data }, { on := 18, ground := Ground.guard }], guard := some (18, true) }) (v := ?_) rfl (by kernel_rfl) (by kernel_rfl) (by kernel_rfl) (fun _ _ _ h => h) (Or.inl ⟨by rfl, ?_⟩) hHeld ?_
  rotate_left
  · (intro w hSw; (try dsimp only at hSw); go_simp; first | done | with_reducible rfl)
  simp only [Act.put, List.setIfInBounds_toArray, List.set_cons_zero, List.set_cons_succ]
  refine wpAnyH_take (i := 40) (oi := { dst := some 158, op := Op.move (Operand.tmp 157), type := 4, pos := "top.go:243", after := #[{ on := 39, ground := Ground.data }, { on := 31, ground := Ground.chain }, { on := 18, ground := Ground.guard }], guard := some (18, true) }) (v := ?_) rfl (by kernel_rfl) (by kernel_rfl) (by kernel_rfl) (fun _ _ _ h => h) (Or.inl ⟨by rfl, ?_⟩) hHeld ?_
  rotate_left
  · (intro w hSw; (try dsimp only at hSw); go_simp; first | done | with_reducible rfl)
  simp only [Act.put, List.setIfInBounds_toArray, List.set_cons_zero, List.set_cons_succ]
  refine wpAnyH_take (i := 41) (oi := { dst := some 159, op := Op.move (Operand.tmp 19), type := 31, pos := "top.go:243", after := #[{ on := 40, ground := Ground.guard }], guard := some (40, false) }) (v := ?_) rfl (by kernel_rfl) (by kernel_rfl) (by kernel_rfl) (fun _ _ _ h => h) (Or.inl ⟨by rfl, ?_⟩) hHeld ?_
  rotate_left
  · (intro w hSw; (try dsimp only at hSw); go_simp; first | done | with_reducible rfl)
  simp only [Act.put, List.setIfInBounds_toArray, List.set_cons_zero, List.set_cons_succ]
  refine wpAnyH_take (i := 42) (oi := { dst := some 160, op := Op.move (Operand.tmp 4), type := 3, pos := "top.go:243", after := #[{ on := 40, ground := Ground.guard }], guard := some (40, false) }) (v := ?_) rfl (by kernel_rfl) (by kernel_rfl) (by kernel_rfl) (fun _ _ _ h => h) (Or.inl ⟨by rfl, ?_⟩) hHeld ?_
  rotate_left
  · (intro w hSw; (try dsimp only at hSw); go_simp; first | done | with_reducible rfl)
  simp only [Act.put, List.setIfInBounds_toArray, List.set_cons_zero, List.set_cons_succ]
  refine wpAnyH_take (i := 43) (oi := { dst := some 161, op := Op.indexAddr 31 (Operand.tmp 159) (Operand.tmp 160), type := 0, pos := "top.go:243", after := #[{ on := 41, ground := Ground.data }, { on := 42, ground := Ground.data }, { on := 40, ground := Ground.guard }], guard := some (40, false) }) (v := ?_) rfl (by kernel_rfl) (by kernel_rfl) (by kernel_rfl) (fun _ _ _ h => h) (Or.inl ⟨by rfl, ?_⟩) hHeld ?_
  rotate_left
  · (intro w hSw; (try dsimp only at hSw); go_simp; first | done | with_reducible rfl)
  simp only [Act.put, List.setIfInBounds_toArray, List.set_cons_zero, List.set_cons_succ]
  refine wpAnyH_take (i := 44) (oi := { dst := some 162, op := Op.load 24 (Operand.tmp 161), type := 24, pos := "top.go:243", after := #[{ on := 43, ground := Ground.data }, { on := 40, ground := Ground.guard }], guard := some (40, false) }) (v := ?_) rfl (by kernel_rfl) (by kernel_rfl) (by kernel_rfl) (fun _ _ _ h => h) (Or.inl ⟨by rfl, ?_⟩) hHeld ?_
  rotate_left
  · (intro w hSw; (try dsimp only at hSw); go_simp; first | done | with_reducible rfl)
  simp only [Act.put, List.setIfInBounds_toArray, List.set_cons_zero, List.set_cons_succ]
  refine wpAnyH_take (i := 45) (oi := { dst := some 163, op := Op.indexAddr 24 (Operand.tmp 162) (Operand.const (Value.int IntKind.i64 0)), type := 0, pos := "top.go:243", after := #[{ on := 44, ground := Ground.data }, { on := 40, ground := Ground.guard }], guard := some (40, false) }) (v := ?_) rfl (by kernel_rfl) (by kernel_rfl) (by kernel_rfl) (fun _ _ _ h => h) (Or.inl ⟨by rfl, ?_⟩) hHeld ?_
  rotate_left
  · (intro w hSw; (try dsimp only at hSw); go_simp; first | done | with_reducible rfl)
  simp only [Act.put, List.setIfInBounds_toArray, List.set_cons_zero, List.set_cons_succ]
  refine wpAnyH_take (i := 46) (oi := { dst := some 164, op := Op.load 3 (Operand.tmp 163), type := 3, pos := "top.go:243", after := #[{ on := 45, ground := Ground.data }, { on := 40, ground := Ground.guard }], guard := some (40, false) }) (v := ?_) rfl (by kernel_rfl) (by kernel_rfl) (by kernel_rfl) (fun _ _ _ h => h) (Or.inl ⟨by rfl, ?_⟩) hHeld ?_
  rotate_left
  · (intro w hSw; (try dsimp only at hSw); go_simp; first | done | with_reducible rfl)
  simp only [Act.put, List.setIfInBounds_toArray, List.set_cons_zero, List.set_cons_succ]
  refine wpAnyH_take (i := 47) (oi := { dst := some 165, op := Op.move (Operand.tmp 1), type := 22, pos := "top.go:243", after := #[{ on := 40, ground := Ground.guard }], guard := some (40, false) }) (v := ?_) rfl (by kernel_rfl) (by kernel_rfl) (by kernel_rfl) (fun _ _ _ h => h) (Or.inl ⟨by rfl, ?_⟩) hHeld ?_
  rotate_left
  · (intro w hSw; (try dsimp only at hSw); go_simp; first | done | with_reducible rfl)
  simp only [Act.put, List.setIfInBounds_toArray, List.set_cons_zero, List.set_cons_succ]
  refine wpAnyH_take (i := 48) (oi := { dst := some 166, op := Op.move (Operand.tmp 2), type := 3, pos := "top.go:243", after := #[{ on := 40, ground := Ground.guard }], guard := some (40, false) }) (v := ?_) rfl (by kernel_rfl) (by kernel_rfl) (by kernel_rfl) (fun _ _ _ h => h) (Or.inl ⟨by rfl, ?_⟩) hHeld ?_
  rotate_left
  · (intro w hSw; (try dsimp only at hSw); go_simp; first | done | with_reducible rfl)
  simp only [Act.put, List.setIfInBounds_toArray, List.set_cons_zero, List.set_cons_succ]
  refine wpAnyH_take (i := 49) (oi := { dst := some 167, op := Op.indexAddr 22 (Operand.tmp 165) (Operand.tmp 166), type := 0, pos := "top.go:243", after := #[{ on := 47, ground := Ground.data }, { on := 48, ground := Ground.data }, { on := 40, ground := Ground.guard }], guard := some (40, false) }) (v := ?_) rfl (by kernel_rfl) (by kernel_rfl) (by kernel_rfl) (fun _ _ _ h => h) (Or.inl ⟨by rfl, ?_⟩) hHeld ?_
  rotate_left
  · (intro w hSw; (try dsimp only at hSw); go_simp; first | done | with_reducible rfl)
  simp only [Act.put, List.setIfInBounds_toArray, List.set_cons_zero, List.set_cons_succ]
  refine wpAnyH_take (i := 50) (oi := { dst := some 168, op := Op.fieldAddr 42 (Operand.tmp 167) 1, type := 0, pos := "top.go:243", after := #[{ on := 49, ground := Ground.data }, { on := 40, ground := Ground.guard }], guard := some (40, false) }) (v := ?_) rfl (by kernel_rfl) (by kernel_rfl) (by kernel_rfl) (fun _ _ _ h => h) (Or.inl ⟨by rfl, ?_⟩) hHeld ?_
  rotate_left
  · (intro w hSw; (try dsimp only at hSw); go_simp; first | done | with_reducible rfl)
  simp only [Act.put, List.setIfInBounds_toArray, List.set_cons_zero, List.set_cons_succ]
  refine wpAnyH_take (i := 51) (oi := { dst := some 169, op := Op.load 3 (Operand.tmp 168), type := 3, pos := "top.go:243", after := #[{ on := 50, ground := Ground.data }, { on := 40, ground := Ground.guard }], guard := some (40, false) }) (v := ?_) rfl (by kernel_rfl) (by kernel_rfl) (by kernel_rfl) (fun _ _ _ h => h) (Or.inl ⟨by rfl, ?_⟩) hHeld ?_
  rotate_left
  · (intro w hSw; (try dsimp only at hSw); go_simp; first | done | with_reducible rfl)
  simp only [Act.put, List.setIfInBounds_toArray, List.set_cons_zero, List.set_cons_succ]
  refine wpAnyH_take (i := 52) (oi := { dst := some 170, op := Op.binOp BinOp.eql 3 (Operand.tmp 164) (Operand.tmp 169) 3, type := 4, pos := "top.go:243", after := #[{ on := 46, ground := Ground.data }, { on := 51, ground := Ground.data }, { on := 40, ground := Ground.guard }], guard := some (40, false) }) (v := ?_) rfl (by kernel_rfl) (by kernel_rfl) (by kernel_rfl) (fun _ _ _ h => h) (Or.inl ⟨by rfl, ?_⟩) hHeld ?_
  rotate_left
  · (intro w hSw; (try dsimp only at hSw); go_simp; first | done | with_reducible rfl)
  simp only [Act.put, List.setIfInBounds_toArray, List.set_cons_zero, List.set_cons_succ]
  refine wpAnyH_take (i := 53) (oi := { dst := some 171, op := Op.move (Operand.tmp 170), type := 4, pos := "top.go:243", after := #[{ on := 52, ground := Ground.data }, { on := 40, ground := Ground.chain }, { on := 40, ground := Ground.guard }], guard := some (40, false) }) (v := ?_) rfl (by kernel_rfl) (by kernel_rfl) (by kernel_rfl) (fun _ _ _ h => h) (Or.inl ⟨by rfl, ?_⟩) hHeld ?_
  rotate_left
  · (intro w hSw; (try dsimp only at hSw); go_simp; first | done | with_reducible rfl)
  simp only [Act.put, List.setIfInBounds_toArray, List.set_cons_zero, List.set_cons_succ]
  refine wpAnyH_take (i := 54) (oi := { dst := some 172, op := Op.move (Operand.tmp 4), type := 3, pos := "top.go:243", after := #[{ on := 53, ground := Ground.guard }], guard := some (53, true) }) (v := ?_) rfl (by kernel_rfl) (by kernel_rfl) (by kernel_rfl) (fun _ _ _ h => h) (Or.inl ⟨by rfl, ?_⟩) hHeld ?_
  rotate_left
  · (intro w hSw; (try dsimp only at hSw); go_simp; first | done | with_reducible rfl)
  simp only [Act.put, List.setIfInBounds_toArray, List.set_cons_zero, List.set_cons_succ]
  refine wpAnyH_take (i := 55) (oi := { dst := some 173, op := Op.move (Operand.tmp 1), type := 22, pos := "top.go:243", after := #[{ on := 53, ground := Ground.guard }], guard := some (53, true) }) (v := ?_) rfl (by kernel_rfl) (by kernel_rfl) (by kernel_rfl) (fun _ _ _ h => h) (Or.inl ⟨by rfl, ?_⟩) hHeld ?_
  rotate_left
  · (intro w hSw; (try dsimp only at hSw); go_simp; first | done | with_reducible rfl)
  simp only [Act.put, List.setIfInBounds_toArray, List.set_cons_zero, List.set_cons_succ]
  refine wpAnyH_take (i := 56) (oi := { dst := some 174, op := Op.move (Operand.tmp 2), type := 3, pos := "top.go:243", after := #[{ on := 53, ground := Ground.guard }], guard := some (53, true) }) (v := ?_) rfl (by kernel_rfl) (by kernel_rfl) (by kernel_rfl) (fun _ _ _ h => h) (Or.inl ⟨by rfl, ?_⟩) hHeld ?_
  rotate_left
  · (intro w hSw; (try dsimp only at hSw); go_simp; first | done | with_reducible rfl)
  simp only [Act.put, List.setIfInBounds_toArray, List.set_cons_zero, List.set_cons_succ]
  refine wpAnyH_take (i := 57) (oi := { dst := some 175, op := Op.indexAddr 22 (Operand.tmp 173) (Operand.tmp 174), type := 0, pos := "top.go:243", after := #[{ on := 55, ground := Ground.data }, { on := 56, ground := Ground.data }, { on := 53, ground := Ground.guard }], guard := some (53, true) }) (v := ?_) rfl (by kernel_rfl) (by kernel_rfl) (by kernel_rfl) (fun _ _ _ h => h) (Or.inl ⟨by rfl, ?_⟩) hHeld ?_
  rotate_left
  · (intro w hSw; (try dsimp only at hSw); go_simp; first | done | with_reducible rfl)
  simp only [Act.put, List.setIfInBounds_toArray, List.set_cons_zero, List.set_cons_succ]
  refine wpAnyH_take (i := 58) (oi := { dst := some 176, op := Op.fieldAddr 42 (Operand.tmp 175) 0, type := 0, pos := "top.go:243", after := #[{ on := 57, ground := Ground.data }, { on := 53, ground := Ground.guard }], guard := some (53, true) }) (v := ?_) rfl (by kernel_rfl) (by kernel_rfl) (by kernel_rfl) (fun _ _ _ h => h) (Or.inl ⟨by rfl, ?_⟩) hHeld ?_
  rotate_left
  · (intro w hSw; (try dsimp only at hSw); go_simp; first | done | with_reducible rfl)
  simp only [Act.put, List.setIfInBounds_toArray, List.set_cons_zero, List.set_cons_succ]
  refine wpAnyH_take (i := 59) (oi := { dst := some 177, op := Op.load 3 (Operand.tmp 176), type := 3, pos := "top.go:243", after := #[{ on := 58, ground := Ground.data }, { on := 53, ground := Ground.guard }], guard := some (53, true) }) (v := ?_) rfl (by kernel_rfl) (by kernel_rfl) (by kernel_rfl) (fun _ _ _ h => h) (Or.inl ⟨by rfl, ?_⟩) hHeld ?_
  rotate_left
  · (intro w hSw; (try dsimp only at hSw); go_simp; first | done | with_reducible rfl)
  simp only [Act.put, List.setIfInBounds_toArray, List.set_cons_zero, List.set_cons_succ]
  refine wpAnyH_take (i := 60) (oi := { dst := some 178, op := Op.binOp BinOp.eql 3 (Operand.tmp 172) (Operand.tmp 177) 3, type := 4, pos := "top.go:243", after := #[{ on := 54, ground := Ground.data }, { on := 59, ground := Ground.data }, { on := 53, ground := Ground.guard }], guard := some (53, true) }) (v := ?_) rfl (by kernel_rfl) (by kernel_rfl) (by kernel_rfl) (fun _ _ _ h => h) (Or.inl ⟨by rfl, ?_⟩) hHeld ?_
  rotate_left
  · (intro w hSw; (try dsimp only at hSw); go_simp; first | done | with_reducible rfl)
  simp only [Act.put, List.setIfInBounds_toArray, List.set_cons_zero, List.set_cons_succ]
  refine wpAnyH_take (i := 61) (oi := { dst := some 179, op := Op.pick (Operand.tmp 171) (Operand.tmp 178) (Operand.const (Value.bool false)), type := 4, pos := "top.go:243", after := #[{ on := 53, ground := Ground.data }, { on := 60, ground := Ground.data }, { on := 40, ground := Ground.guard }], guard := some (40, false) }) (v := ?_) rfl (by kernel_rfl) (by kernel_rfl) (by kernel_rfl) (fun _ _ _ h => h) (Or.inl ⟨by rfl, ?_⟩) hHeld ?_
  rotate_left
  · (intro w hSw; (try dsimp only at hSw); go_simp; first | done | with_reducible rfl)
  simp only [Act.put, List.setIfInBounds_toArray, List.set_cons_zero, List.set_cons_succ]
  refine wpAnyH_take (i := 62) (oi := { dst := some 180, op := Op.pick (Operand.tmp 158) (Operand.const (Value.bool true)) (Operand.tmp 179), type := 4, pos := "top.go:243", after := #[{ on := 40, ground := Ground.data }, { on := 61, ground := Ground.data }, { on := 18, ground := Ground.guard }], guard := some (18, true) }) (v := ?_) rfl (by kernel_rfl) (by kernel_rfl) (by kernel_rfl) (fun _ _ _ h => h) (Or.inl ⟨by rfl, ?_⟩) hHeld ?_
  rotate_left
  · (intro w hSw; (try dsimp only at hSw); go_simp; first | done | with_reducible rfl)
  simp only [Act.put, List.setIfInBounds_toArray, List.set_cons_zero, List.set_cons_succ]
  refine wpAnyH_take (i := 63) (oi := { dst := some 181, op := Op.pick (Operand.tmp 136) (Operand.tmp 180) (Operand.const (Value.bool false)), type := 4, pos := "top.go:243", after := #[{ on := 18, ground := Ground.data }, { on := 62, ground := Ground.data }], guard := none }) (v := ?_) rfl (by kernel_rfl) (by kernel_rfl) (by kernel_rfl) (fun _ _ _ h => h) (Or.inl ⟨by rfl, ?_⟩) hHeld ?_
  rotate_left
  · (intro w hSw; (try dsimp only at hSw); go_simp; first | done | with_reducible rfl)
  simp only [Act.put, List.setIfInBounds_toArray, List.set_cons_zero, List.set_cons_succ]
  refine wpAnyH_take (i := 64) (oi := { dst := some 21, op := Op.assign (Operand.tmp 181), type := 4, pos := "top.go:243", after := #[{ on := 63, ground := Ground.data }, { on := 53, ground := Ground.chain }, { on := 0, ground := Ground.phase }, { on := 1, ground := Ground.phase }, { on := 2, ground := Ground.phase }, { on := 3, ground := Ground.phase }, { on := 4, ground := Ground.phase }, { on := 5, ground := Ground.phase }, { on := 6, ground := Ground.phase }, { on := 7, ground := Ground.phase }, { on := 8, ground := Ground.phase }, { on := 9, ground := Ground.phase }, { on := 10, ground := Ground.phase }, { on := 11, ground := Ground.phase }, { on := 12, ground := Ground.phase }, { on := 13, ground := Ground.phase }, { on := 14, ground := Ground.phase }, { on := 15, ground := Ground.phase }, { on := 16, ground := Ground.phase }, { on := 17, ground := Ground.phase }, { on := 18, ground := Ground.phase }, { on := 19, ground := Ground.phase }, { on := 20, ground := Ground.phase }, { on := 21, ground := Ground.phase }, { on := 22, ground := Ground.phase }, { on := 23, ground := Ground.phase }, { on := 24, ground := Ground.phase }, { on := 25, ground := Ground.phase }, { on := 26, ground := Ground.phase }, { on := 27, ground := Ground.phase }, { on := 28, ground := Ground.phase }, { on := 29, ground := Ground.phase }, { on := 30, ground := Ground.phase }, { on := 31, ground := Ground.phase }, { on := 32, ground := Ground.phase }, { on := 33, ground := Ground.phase }, { on := 34, ground := Ground.phase }, { on := 35, ground := Ground.phase }, { on := 36, ground := Ground.phase }, { on := 37, ground := Ground.phase }, { on := 38, ground := Ground.phase }, { on := 39, ground := Ground.phase }, { on := 40, ground := Ground.phase }, { on := 41, ground := Ground.phase }, { on := 42, ground := Ground.phase }, { on := 43, ground := Ground.phase }, { on := 44, ground := Ground.phase }, { on := 45, ground := Ground.phase }, { on := 46, ground := Ground.phase }, { on := 47, ground := Ground.phase }, { on := 48, ground := Ground.phase }, { on := 49, ground := Ground.phase }, { on := 50, ground := Ground.phase }, { on := 51, ground := Ground.phase }, { on := 52, ground := Ground.phase }, { on := 53, ground := Ground.phase }, { on := 54, ground := Ground.phase }, { on := 55, ground := Ground.phase }, { on := 56, ground := Ground.phase }, { on := 57, ground := Ground.phase }, { on := 58, ground := Ground.phase }, { on := 59, ground := Ground.phase }, { on := 60, ground := Ground.phase }, { on := 61, ground := Ground.phase }, { on := 62, ground := Ground.phase }, { on := 63, ground := Ground.phase }], guard := none }) (v := ?_) rfl (by kernel_rfl) (by kernel_rfl) (by kernel_rfl) (fun _ _ _ h => h) (Or.inl ⟨by rfl, ?_⟩) hHeld ?_
  rotate_left
  · (intro w hSw; (try dsimp only at hSw); go_simp; first | done | with_reducible rfl)
  simp only [Act.put, List.setIfInBounds_toArray, List.set_cons_zero, List.set_cons_succ]
  refine wpAnyH_done (by kernel_rfl) ?_ _
  clear hHeld
  go_wp2_with fail
  go_quiet (fail)
  go_wp2_with fail
  go_ret
  exact ⟨rfl, Below.drewN HZZ.out.drew _⟩
set_option maxHeartbeats 4000000 in
set_option maxRecDepth 100000 in
theorem topCut_3h (w : World) (m t k b : Nat) (v : Value) (l : List Lk) (hn : l.length * 24 ≤ 140737488355328) (h : ArgK w v l) (hg : gBad m l = 0) (ht : t < m) (hk : k < l.length) (hb : b < m) (q0 : t ≠ b) (q1 : BellP.far m (BellP.ct l) t b < 16) (uu : Int) (hF : SpfP.ups m (BellP.ct l) t b = [uu]) (r1 : ¬ uu = l[k]!.1) (r3 : ¬ uu = l[k]!.2.1) :
    Calls Try.prog 7 #[.int .i64 m, v, .int .i64 k, .int .i64 t, .int .i64 b] w fun e w' => e = .returned (.bool true) ∧ Below w.heap.size w w' := by
  have q0_ := Lib.hid q0
  clear q0
  have q1_ := Lib.hid q1
  clear q1
  have hF_ := Lib.hid hF
  clear hF
  have r1_ := Lib.hid r1
  clear r1
  have r3_ := Lib.hid r3
  clear r3
  have HL := Lib.hid (h)
  have hR := ((gBad_zero m l).1 hg).2
  have hm := ((gBad_zero m l).1 hg).1
  have HR := Lib.hid hR
  have HMm := Lib.hid (List.getElem_mem hk)
  rw [← getElem!_pos l k hk] at HMm
  obtain ⟨p, c, rfl, hp⟩ := h
  rcases hp with hp | ⟨lb, lo, rfl, hlb, hs⟩
  · exfalso; rw [hp] at hk; exact absurd hk (by simp)
  have h : ArgK w (.slice (some ⟨lb, lo, none⟩) l.length c) l := ⟨_, c, rfl, Or.inr ⟨lb, lo, rfl, hlb, hs⟩⟩
  have HL := Lib.hid h
  have HSK := Lib.hid (And.intro hlb hs)
  clear h hs hlb hR
  have hx1 : l[k]!.1 ≠ l[k]!.2.1 := ((linkBad_zero m _).1 (HR.out.1 _ HMm.out)).2.2.2.2.2.2
  have HZZ : Hid (Below w.heap.size w w) := Lib.hid (Below.refl _ _)
  go_enter Try.func7, Try.ntmps7
  have HSKz : Hid (∀ w', Below w.heap.size w w' → w'.cell? ⟨lb, lo + k * 3, none⟩ = some (.int .i64 l[k]!.1) ∧ w'.cell? ⟨lb, lo + k * 3 + 1, none⟩ = some (.int .i64 l[k]!.2.1)) := Lib.hid fun w' hb => ⟨(hb.cell (p := ⟨lb, lo + k * 3, none⟩) HSK.out.1).trans (HSK.out.2.c0 k hk), (hb.cell (p := ⟨lb, lo + k * 3 + 1, none⟩) HSK.out.1).trans (HSK.out.2.c1 k hk)⟩
  have HLen : Hid (l.length = l.length) := Lib.hid rfl
  clear HSK
  go_wp2_with fail
  refine (far_ok w m t (.slice (some ⟨lb, lo, none⟩) l.length c) l (by omega) HL.out hg ht).mono ?_
  rintro e w1 ⟨f1, _, rfl, hV, hb1⟩
  have HL' := Lib.hid (HL.out.below hb1)
  have HZZ' := Lib.hid (Below.two HZZ.out hb1)
  have HX := Lib.hid (hV)
  clear hb1 HZZ HL
  have HZZ := HZZ'
  clear HZZ'
  have HL := HL'
  clear HL'
  clear hV
  go_wp2_with fail
  refine (one_at w1).mono ?_
  rintro e w2 ⟨f0, _, rfl, o1, hb2⟩
  have HL' := Lib.hid (HL.out.below hb2)
  have HX' := Lib.hid (HX.out.keep hb2)
  have HZZ' := Lib.hid (Below.two HZZ.out hb2)
  clear hb2 HZZ HL HX
  have HZZ := HZZ'
  clear HZZ'
  have HL := HL'
  clear HL'
  have HX := HX'
  clear HX'
  have HCY := Lib.hid (fun w' h => cut_yes w' m l[k]!.1 l[k]!.2.1 (.slice (some ⟨lb, lo, none⟩) l.length c) l hn h hg (SpfP.less_has HMm.out))
  have HRL := Lib.hid (right_less HR.out l[k]!.1 l[k]!.2.1)
  have hgL : gBad m (less l l[k]!.1 l[k]!.2.1) = 0 := (gBad_zero m _).2 ⟨hm, HRL.out⟩
  have hLl : (less l l[k]!.1 l[k]!.2.1).length ≤ l.length := List.length_filter_le _ _
  have HLE := Lib.hid (SpfP.cut_le HR.out HMm.out ht b hb)
  have HMO := Lib.hid (SpfP.cut_more HR.out HMm.out ht b hb)
  have HBD := Lib.hid (BellP.far_bd m (BellP.ct l) t b)
  generalize hA : l[k]!.1 = A at *
  generalize hB : l[k]!.2.1 = B at *
  clear hA hB HMm
  have kn : ¬ (k : Int) < 0 := by omega
  have kl : ¬ (k : Int) ≥ (l.length : Int) := by omega
  have bn : ¬ (b : Int) < 0 := by omega
  have bm : ¬ (b : Int) ≥ (m : Int) := by omega
  go_wp2_with fail
  obtain ⟨s0, s1⟩ := HSKz.out _ HZZ.out
  have HLd := Lib.hid (HL.out.below (Below.refl w2.heap.size w2).drew)
  go_region_held3 (fun w' => w'.cell? ⟨lb, lo + k * 3, none⟩ = some (.int .i64 A) ∧ w'.cell? ⟨lb, lo + k * 3 + 1, none⟩ = some (.int .i64 B)) (first | assumption | exact ⟨s0, s1⟩)
    (first | (go_at_call 16; refine (HCY.out _ HLd.out).mono ?_; rintro e w3 ⟨g2, c2, _, rfl, hRF, hb3⟩; have hbb : Below w2.heap.size w2 w3 := Below.two (Below.refl _ _).drew hb3; have K := HSKz.out _ (Below.two HZZ.out hbb); clear hb3))
  clear K s0 s1 HLd
  have HL' := Lib.hid (HL.out.below hbb)
  have HX' := Lib.hid (HX.out.keep hbb)
  have HZZ' := Lib.hid (Below.two HZZ.out hbb)
  clear HZZ HL HX
  have HZZ := HZZ'
  clear HZZ'
  have HL := HL'
  clear HL'
  have HX := HX'
  clear HX'
  have HL2 := Lib.hid (RowF.argK hRF c2)
  clear hRF hbb
  go_wp2_with fail
  refine (far_ok w3 m t _ (less l A B) (by omega) HL2.out hgL ht).mono ?_
  rintro e w4 ⟨f2, _, rfl, hV, hb4⟩
  have HL' := Lib.hid (HL.out.below hb4)
  have HX' := Lib.hid (HX.out.keep hb4)
  have HL2' := Lib.hid (HL2.out.below hb4)
  have HZZ' := Lib.hid (Below.two HZZ.out hb4)
  have HY := Lib.hid (hV)
  clear hb4 HZZ HL HX HL2
  have HZZ := HZZ'
  clear HZZ'
  have HL := HL'
  clear HL'
  have HX := HX'
  clear HX'
  have HL2 := HL2'
  clear HL2'
  clear hV
  go_wp2_with fail
  have xb := HX.out.c b hb
  have yb := HY.out.c b hb
  generalize hyy : BellP.far m (BellP.ct (less l A B)) t b = y at yb HLE HMO
  generalize hxx : BellP.far m (BellP.ct l) t b = x at xb HLE HMO HBD q1_
  have HXX := Lib.hid hxx
  have HYY := Lib.hid hyy
  clear hxx hyy
  have hle := HLE.out
  have le1 : ¬ (y : Int) < (x : Int) := by omega
  go_quiet (fail)
  have hdr : Below w4.heap.size w4 (w4.drewN nq) := Below.drewN (Below.refl _ _) nq
  generalize w4.drewN nq = we at hdr ⊢
  have HL' := Lib.hid (HL.out.below hdr)
  have HX' := Lib.hid (HX.out.keep hdr)
  have HL2' := Lib.hid (HL2.out.below hdr)
  have HY' := Lib.hid (HY.out.keep hdr)
  have HZZ' := Lib.hid (Below.two HZZ.out hdr)
  clear HZZ HL HX HL2 HY
  have HZZ := HZZ'
  clear HZZ'
  have HL := HL'
  clear HL'
  have HX := HX'
  clear HX'
  have HL2 := HL2'
  clear HL2'
  have HY := HY'
  clear HY'
  clear hdr xb yb le1
  go_wp2_with fail
  refine (ups_ok we m t (.slice (some ⟨lb, lo, none⟩) l.length c) l (by omega) HL.out hg ht).mono ?_
  rintro e w5 ⟨u, vs, rfl, hT, hb5⟩
  have HL' := Lib.hid (HL.out.below hb5)
  have HX' := Lib.hid (HX.out.keep hb5)
  have HL2' := Lib.hid (HL2.out.below hb5)
  have HY' := Lib.hid (HY.out.keep hb5)
  have HZZ' := Lib.hid (Below.two HZZ.out hb5)
  have HT := Lib.hid (hT)
  clear hb5 HZZ HL HX HL2 HY
  have HZZ := HZZ'
  clear HZZ'
  have HL := HL'
  clear HL'
  have HX := HX'
  clear HX'
  have HL2 := HL2'
  clear HL2'
  have HY := HY'
  clear HY'
  clear hT
  go_wp2_with fail
  have ci := HT.out.c b hb
  obtain ⟨p3, c3, hv3, hp3⟩ := (HT.out.o b hb).arg
  rw [hv3] at ci
  have xb := HX.out.c b hb
  have yb := HY.out.c b hb
  obtain ⟨s0, s1⟩ := HSKz.out _ HZZ.out
  rw [HXX.out] at xb
  rw [HYY.out] at yb
  generalize SpfP.ups m (BellP.ct l) t b = F at ci HMO hp3 hF_
  clear hv3 HT
  dsimp only [List.append_eq, List.cons_append, List.nil_append]
  have q0 := q0_.out
  have q1 := q1_.out
  have hF := hF_.out
  have r1 := r1_.out
  have r3 := r3_.out
  have n0 : ((t : Int) != (b : Int)) = true := by
    have : ¬ (t : Int) = b := by omega
    simpa using this
  have n1 : (x : Int) < 16 := by omega
  subst hF
  rcases hp3 with e | ⟨bb, off, rfl, hbb, hs⟩
  · exact absurd e (by simp)
  have cu := hs 0 (by simp)
  rw [Nat.add_zero] at cu
  have cu : _ = some (Value.int .i64 uu) := cu
  have HM := Lib.hid (fun h => HMO.out (fun e => q0 e.symm) q1 uu rfl h)
  clear hs HMO
  have e1 : (uu == A) = false := by simpa using r1
  have e3 : (uu == B) = false := by simpa using r3
  clear r1 r3
  refine wp_region_held_drew (S := (fun w' => w'.cell? ⟨f1, b, none⟩ = some (.int .i64 (x : Int)) ∧ w'.cell? ⟨u, b, none⟩ = some (.slice (some ⟨bb, off, none⟩) 1 c3) ∧ w'.cell? ⟨lb, lo + k * 3, none⟩ = some (.int .i64 A) ∧ w'.cell? ⟨lb, lo + k * 3 + 1, none⟩ = some (.int .i64 B) ∧ w'.cell? ⟨bb, off, none⟩ = some (.int .i64 uu))) (by kernel_rfl) ⟨xb, ci, s0, s1, cu⟩ (fun hHeld => ?_)
  refine wpAnyH_take (i := 0) (oi := { dst := some 118, op := Op.move (Operand.tmp 3), type := 3, pos := "top.go:243", after := #[], guard := none }) (v := ?_) rfl (by kernel_rfl) (by kernel_rfl) (by kernel_rfl) (fun _ _ _ h => h) (Or.inl ⟨by rfl, ?_⟩) hHeld ?_
  rotate_left
  · (intro w hSw; (try dsimp only at hSw); go_simp; first | done | with_reducible rfl)
  simp only [Act.put, List.setIfInBounds_toArray, List.set_cons_zero, List.set_cons_succ]
  refine wpAnyH_take (i := 1) (oi := { dst := some 119, op := Op.move (Operand.tmp 4), type := 3, pos := "top.go:243", after := #[], guard := none }) (v := ?_) rfl (by kernel_rfl) (by kernel_rfl) (by kernel_rfl) (fun _ _ _ h => h) (Or.inl ⟨by rfl, ?_⟩) hHeld ?_
  rotate_left
  · (intro w hSw; (try dsimp only at hSw); go_simp; first | done | with_reducible rfl)
  simp only [Act.put, List.setIfInBounds_toArray, List.set_cons_zero, List.set_cons_succ]
  refine wpAnyH_take (i := 2) (oi := { dst := some 120, op := Op.binOp BinOp.neq 3 (Operand.tmp 118) (Operand.tmp 119) 3, type := 4, pos := "top.go:243", after := #[{ on := 0, ground := Ground.data }, { on := 1, ground := Ground.data }], guard := none }) (v := ?_) rfl (by kernel_rfl) (by kernel_rfl) (by kernel_rfl) (fun _ _ _ h => h) (Or.inl ⟨by rfl, ?_⟩) hHeld ?_
  rotate_left
  · (intro w hSw; (try dsimp only at hSw); go_simp; first | done | with_reducible rfl)
  simp only [Act.put, List.setIfInBounds_toArray, List.set_cons_zero, List.set_cons_succ]
  refine wpAnyH_take (i := 3) (oi := { dst := some 121, op := Op.move (Operand.tmp 120), type := 4, pos := "top.go:243", after := #[{ on := 2, ground := Ground.data }], guard := none }) (v := ?_) rfl (by kernel_rfl) (by kernel_rfl) (by kernel_rfl) (fun _ _ _ h => h) (Or.inl ⟨by rfl, ?_⟩) hHeld ?_
  rotate_left
  · (intro w hSw; (try dsimp only at hSw); go_simp; first | done | with_reducible rfl)
  simp only [Act.put, List.setIfInBounds_toArray, List.set_cons_zero, List.set_cons_succ]
  refine wpAnyH_take (i := 4) (oi := { dst := some 122, op := Op.move (Operand.tmp 11), type := 24, pos := "top.go:243", after := #[{ on := 3, ground := Ground.guard }], guard := some (3, true) }) (v := ?_) rfl (by kernel_rfl) (by kernel_rfl) (by kernel_rfl) (fun _ _ _ h => h) (Or.inl ⟨by rfl, ?_⟩) hHeld ?_
  rotate_left
  · (intro w hSw; (try dsimp only at hSw); go_simp; first | done | with_reducible rfl)
  simp only [Act.put, List.setIfInBounds_toArray, List.set_cons_zero, List.set_cons_succ]
  refine wpAnyH_take (i := 5) (oi := { dst := some 123, op := Op.move (Operand.tmp 4), type := 3, pos := "top.go:243", after := #[{ on := 3, ground := Ground.guard }], guard := some (3, true) }) (v := ?_) rfl (by kernel_rfl) (by kernel_rfl) (by kernel_rfl) (fun _ _ _ h => h) (Or.inl ⟨by rfl, ?_⟩) hHeld ?_
  rotate_left
  · (intro w hSw; (try dsimp only at hSw); go_simp; first | done | with_reducible rfl)
  simp only [Act.put, List.setIfInBounds_toArray, List.set_cons_zero, List.set_cons_succ]
  refine wpAnyH_take (i := 6) (oi := { dst := some 124, op := Op.indexAddr 24 (Operand.tmp 122) (Operand.tmp 123), type := 0, pos := "top.go:243", after := #[{ on := 4, ground := Ground.data }, { on := 5, ground := Ground.data }, { on := 3, ground := Ground.guard }], guard := some (3, true) }) (v := ?_) rfl (by kernel_rfl) (by kernel_rfl) (by kernel_rfl) (fun _ _ _ h => h) (Or.inl ⟨by rfl, ?_⟩) hHeld ?_
  rotate_left
  · (intro w hSw; (try dsimp only at hSw); go_simp; first | done | with_reducible rfl)
  simp only [Act.put, List.setIfInBounds_toArray, List.set_cons_zero, List.set_cons_succ]
  refine wpAnyH_take (i := 7) (oi := { dst := some 125, op := Op.load 3 (Operand.tmp 124), type := 3, pos := "top.go:243", after := #[{ on := 6, ground := Ground.data }, { on := 3, ground := Ground.guard }], guard := some (3, true) }) (v := ?_) rfl (by kernel_rfl) (by kernel_rfl) (by kernel_rfl) (fun _ _ _ h => h) (Or.inl ⟨by rfl, ?_⟩) hHeld ?_
  rotate_left
  · (intro w hSw; (try dsimp only at hSw); go_simp; first | done | with_reducible rfl)
  simp only [Act.put, List.setIfInBounds_toArray, List.set_cons_zero, List.set_cons_succ]
  refine wpAnyH_take (i := 8) (oi := { dst := some 126, op := Op.binOp BinOp.lss 3 (Operand.tmp 125) (Operand.const (Value.int IntKind.i64 16)) 3, type := 4, pos := "top.go:243", after := #[{ on := 7, ground := Ground.data }, { on := 3, ground := Ground.guard }], guard := some (3, true) }) (v := ?_) rfl (by kernel_rfl) (by kernel_rfl) (by kernel_rfl) (fun _ _ _ h => h) (Or.inl ⟨by rfl, ?_⟩) hHeld ?_
  rotate_left
  · (intro w hSw; (try dsimp only at hSw); go_simp; first | done | with_reducible rfl)
  simp only [Act.put, List.setIfInBounds_toArray, List.set_cons_zero, List.set_cons_succ]
  refine wpAnyH_take (i := 9) (oi := { dst := some 127, op := Op.pick (Operand.tmp 121) (Operand.tmp 126) (Operand.const (Value.bool false)), type := 4, pos := "top.go:243", after := #[{ on := 3, ground := Ground.data }, { on := 8, ground := Ground.data }], guard := none }) (v := ?_) rfl (by kernel_rfl) (by kernel_rfl) (by kernel_rfl) (fun _ _ _ h => h) (Or.inl ⟨by rfl, ?_⟩) hHeld ?_
  rotate_left
  · (intro w hSw; (try dsimp only at hSw); go_simp; first | done | with_reducible rfl)
  simp only [Act.put, List.setIfInBounds_toArray, List.set_cons_zero, List.set_cons_succ]
  refine wpAnyH_take (i := 10) (oi := { dst := some 128, op := Op.move (Operand.tmp 127), type := 4, pos := "top.go:243", after := #[{ on := 9, ground := Ground.data }, { on := 3, ground := Ground.chain }], guard := none }) (v := ?_) rfl (by kernel_rfl) (by kernel_rfl) (by kernel_rfl) (fun _ _ _ h => h) (Or.inl ⟨by rfl, ?_⟩) hHeld ?_
  rotate_left
  · (intro w hSw; (try dsimp only at hSw); go_simp; first | done | with_reducible rfl)
  simp only [Act.put, List.setIfInBounds_toArray, List.set_cons_zero, List.set_cons_succ]
  refine wpAnyH_take (i := 11) (oi := { dst := some 129, op := Op.move (Operand.tmp 19), type := 31, pos := "top.go:243", after := #[{ on := 10, ground := Ground.guard }], guard := some (10, true) }) (v := ?_) rfl (by kernel_rfl) (by kernel_rfl) (by kernel_rfl) (fun _ _ _ h => h) (Or.inl ⟨by rfl, ?_⟩) hHeld ?_
  rotate_left
  · (intro w hSw; (try dsimp only at hSw); go_simp; first | done | with_reducible rfl)
  simp only [Act.put, List.setIfInBounds_toArray, List.set_cons_zero, List.set_cons_succ]
  refine wpAnyH_take (i := 12) (oi := { dst := some 130, op := Op.move (Operand.tmp 4), type := 3, pos := "top.go:243", after := #[{ on := 10, ground := Ground.guard }], guard := some (10, true) }) (v := ?_) rfl (by kernel_rfl) (by kernel_rfl) (by kernel_rfl) (fun _ _ _ h => h) (Or.inl ⟨by rfl, ?_⟩) hHeld ?_
  rotate_left
  · (intro w hSw; (try dsimp only at hSw); go_simp; first | done | with_reducible rfl)
  simp only [Act.put, List.setIfInBounds_toArray, List.set_cons_zero, List.set_cons_succ]
  refine wpAnyH_take (i := 13) (oi := { dst := some 131, op := Op.indexAddr 31 (Operand.tmp 129) (Operand.tmp 130), type := 0, pos := "top.go:243", after := #[{ on := 11, ground := Ground.data }, { on := 12, ground := Ground.data }, { on := 10, ground := Ground.guard }], guard := some (10, true) }) (v := ?_) rfl (by kernel_rfl) (by kernel_rfl) (by kernel_rfl) (fun _ _ _ h => h) (Or.inl ⟨by rfl, ?_⟩) hHeld ?_
  rotate_left
  · (intro w hSw; (try dsimp only at hSw); go_simp; first | done | with_reducible rfl)
  simp only [Act.put, List.setIfInBounds_toArray, List.set_cons_zero, List.set_cons_succ]
  refine wpAnyH_take (i := 14) (oi := { dst := some 132, op := Op.load 24 (Operand.tmp 131), type := 24, pos := "top.go:243", after := #[{ on := 13, ground := Ground.data }, { on := 10, ground := Ground.guard }], guard := some (10, true) }) (v := ?_) rfl (by kernel_rfl) (by kernel_rfl) (by kernel_rfl) (fun _ _ _ h => h) (Or.inl ⟨by rfl, ?_⟩) hHeld ?_
  rotate_left
  · (intro w hSw; (try dsimp only at hSw); go_simp; first | done | with_reducible rfl)
  simp only [Act.put, List.setIfInBounds_toArray, List.set_cons_zero, List.set_cons_succ]
  refine wpAnyH_take (i := 15) (oi := { dst := some 133, op := Op.call { callee := Callee.builtin Builtin.len, args := #[Operand.tmp 132], argTypes := #[24] }, type := 3, pos := "top.go:243", after := #[{ on := 14, ground := Ground.data }, { on := 10, ground := Ground.guard }], guard := some (10, true) }) (v := ?_) rfl (by kernel_rfl) (by kernel_rfl) (by kernel_rfl) (fun _ _ _ h => h) (Or.inl ⟨by rfl, ?_⟩) hHeld ?_
  rotate_left
  · (intro w hSw; (try dsimp only at hSw); go_simp; first | done | with_reducible rfl)
  simp only [Act.put, List.setIfInBounds_toArray, List.set_cons_zero, List.set_cons_succ]
  refine wpAnyH_take (i := 16) (oi := { dst := some 134, op := Op.binOp BinOp.eql 3 (Operand.tmp 133) (Operand.const (Value.int IntKind.i64 1)) 3, type := 4, pos := "top.go:243", after := #[{ on := 15, ground := Ground.data }, { on := 10, ground := Ground.guard }], guard := some (10, true) }) (v := ?_) rfl (by kernel_rfl) (by kernel_rfl) (by kernel_rfl) (fun _ _ _ h => h) (Or.inl ⟨by rfl, ?_⟩) hHeld ?_
  rotate_left
  · (intro w hSw; (try dsimp only at hSw); go_simp; first | done | with_reducible rfl)
  simp only [Act.put, List.setIfInBounds_toArray, List.set_cons_zero, List.set_cons_succ]
  refine wpAnyH_take (i := 17) (oi := { dst := some 135, op := Op.pick (Operand.tmp 128) (Operand.tmp 134) (Operand.const (Value.bool false)), type := 4, pos := "top.go:243", after := #[{ on := 10, ground := Ground.data }, { on := 16, ground := Ground.data }], guard := none }) (v := ?_) rfl (by kernel_rfl) (by kernel_rfl) (by kernel_rfl) (fun _ _ _ h => h) (Or.inl ⟨by rfl, ?_⟩) hHeld ?_
  rotate_left
  · (intro w hSw; (try dsimp only at hSw); go_simp; first | done | with_reducible rfl)
  simp only [Act.put, List.setIfInBounds_toArray, List.set_cons_zero, List.set_cons_succ]
  refine wpAnyH_take (i := 18) (oi := { dst := some 136, op := Op.move (Operand.tmp 135), type := 4, pos := "top.go:243", after := #[{ on := 17, ground := Ground.data }, { on := 10, ground := Ground.chain }], guard := none }) (v := ?_) rfl (by kernel_rfl) (by kernel_rfl) (by kernel_rfl) (fun _ _ _ h => h) (Or.inl ⟨by rfl, ?_⟩) hHeld ?_
  rotate_left
  · (intro w hSw; (try dsimp only at hSw); go_simp; first | done | with_reducible rfl)
  simp only [Act.put, List.setIfInBounds_toArray, List.set_cons_zero, List.set_cons_succ]
  refine wpAnyH_take (i := 19) (oi := { dst := some 137, op := Op.move (Operand.tmp 19), type := 31, pos := "top.go:243", after := #[{ on := 18, ground := Ground.guard }], guard := some (18, true) }) (v := ?_) rfl (by kernel_rfl) (by kernel_rfl) (by kernel_rfl) (fun _ _ _ h => h) (Or.inl ⟨by rfl, ?_⟩) hHeld ?_
  rotate_left
  · (intro w hSw; (try dsimp only at hSw); go_simp; first | done | with_reducible rfl)
  simp only [Act.put, List.setIfInBounds_toArray, List.set_cons_zero, List.set_cons_succ]
  refine wpAnyH_take (i := 20) (oi := { dst := some 138, op := Op.move (Operand.tmp 4), type := 3, pos := "top.go:243", after := #[{ on := 18, ground := Ground.guard }], guard := some (18, true) }) (v := ?_) rfl (by kernel_rfl) (by kernel_rfl) (by kernel_rfl) (fun _ _ _ h => h) (Or.inl ⟨by rfl, ?_⟩) hHeld ?_
  rotate_left
  · (intro w hSw; (try dsimp only at hSw); go_simp; first | done | with_reducible rfl)
  simp only [Act.put, List.setIfInBounds_toArray, List.set_cons_zero, List.set_cons_succ]
  refine wpAnyH_take (i := 21) (oi := { dst := some 139, op := Op.indexAddr 31 (Operand.tmp 137) (Operand.tmp 138), type := 0, pos := "top.go:243", after := #[{ on := 19, ground := Ground.data }, { on := 20, ground := Ground.data }, { on := 18, ground := Ground.guard }], guard := some (18, true) }) (v := ?_) rfl (by kernel_rfl) (by kernel_rfl) (by kernel_rfl) (fun _ _ _ h => h) (Or.inl ⟨by rfl, ?_⟩) hHeld ?_
  rotate_left
  · (intro w hSw; (try dsimp only at hSw); go_simp; first | done | with_reducible rfl)
  simp only [Act.put, List.setIfInBounds_toArray, List.set_cons_zero, List.set_cons_succ]
  refine wpAnyH_take (i := 22) (oi := { dst := some 140, op := Op.load 24 (Operand.tmp 139), type := 24, pos := "top.go:243", after := #[{ on := 21, ground := Ground.data }, { on := 18, ground := Ground.guard }], guard := some (18, true) }) (v := ?_) rfl (by kernel_rfl) (by kernel_rfl) (by kernel_rfl) (fun _ _ _ h => h) (Or.inl ⟨by rfl, ?_⟩) hHeld ?_
  rotate_left
  · (intro w hSw; (try dsimp only at hSw); go_simp; first | done | with_reducible rfl)
  simp only [Act.put, List.setIfInBounds_toArray, List.set_cons_zero, List.set_cons_succ]
  refine wpAnyH_take (i := 23) (oi := { dst := some 141, op := Op.indexAddr 24 (Operand.tmp 140) (Operand.const (Value.int IntKind.i64 0)), type := 0, pos := "top.go:243", after := #[{ on := 22, ground := Ground.data }, { on := 18, ground := Ground.guard }], guard := some (18, true) }) (v := ?_) rfl (by kernel_rfl) (by kernel_rfl) (by kernel_rfl) (fun _ _ _ h => h) (Or.inl ⟨by rfl, ?_⟩) hHeld ?_
  rotate_left
  · (intro w hSw; (try dsimp only at hSw); go_simp; first | done | with_reducible rfl)
  simp only [Act.put, List.setIfInBounds_toArray, List.set_cons_zero, List.set_cons_succ]
  refine wpAnyH_take (i := 24) (oi := { dst := some 142, op := Op.load 3 (Operand.tmp 141), type := 3, pos := "top.go:243", after := #[{ on := 23, ground := Ground.data }, { on := 18, ground := Ground.guard }], guard := some (18, true) }) (v := ?_) rfl (by kernel_rfl) (by kernel_rfl) (by kernel_rfl) (fun _ _ _ h => h) (Or.inl ⟨by rfl, ?_⟩) hHeld ?_
  rotate_left
  · (intro w hSw; (try dsimp only at hSw); go_simp; first | done | with_reducible rfl)
  simp only [Act.put, List.setIfInBounds_toArray, List.set_cons_zero, List.set_cons_succ]
  refine wpAnyH_take (i := 25) (oi := { dst := some 143, op := Op.move (Operand.tmp 1), type := 22, pos := "top.go:243", after := #[{ on := 18, ground := Ground.guard }], guard := some (18, true) }) (v := ?_) rfl (by kernel_rfl) (by kernel_rfl) (by kernel_rfl) (fun _ _ _ h => h) (Or.inl ⟨by rfl, ?_⟩) hHeld ?_
  rotate_left
  · (intro w hSw; (try dsimp only at hSw); go_simp; first | done | with_reducible rfl)
  simp only [Act.put, List.setIfInBounds_toArray, List.set_cons_zero, List.set_cons_succ]
  refine wpAnyH_take (i := 26) (oi := { dst := some 144, op := Op.move (Operand.tmp 2), type := 3, pos := "top.go:243", after := #[{ on := 18, ground := Ground.guard }], guard := some (18, true) }) (v := ?_) rfl (by kernel_rfl) (by kernel_rfl) (by kernel_rfl) (fun _ _ _ h => h) (Or.inl ⟨by rfl, ?_⟩) hHeld ?_
  rotate_left
  · (intro w hSw; (try dsimp only at hSw); go_simp; first | done | with_reducible rfl)
  simp only [Act.put, List.setIfInBounds_toArray, List.set_cons_zero, List.set_cons_succ]
  refine wpAnyH_take (i := 27) (oi := { dst := some 145, op := Op.indexAddr 22 (Operand.tmp 143) (Operand.tmp 144), type := 0, pos := "top.go:243", after := #[{ on := 25, ground := Ground.data }, { on := 26, ground := Ground.data }, { on := 18, ground := Ground.guard }], guard := some (18, true) }) (v := ?_) rfl (by kernel_rfl) (by kernel_rfl) (by kernel_rfl) (fun _ _ _ h => h) (Or.inl ⟨by rfl, ?_⟩) hHeld ?_
  rotate_left
  · (intro w hSw; (try dsimp only at hSw); go_simp; first | done | with_reducible rfl)
  simp only [Act.put, List.setIfInBounds_toArray, List.set_cons_zero, List.set_cons_succ]
  refine wpAnyH_take (i := 28) (oi := { dst := some 146, op := Op.fieldAddr 42 (Operand.tmp 145) 0, type := 0, pos := "top.go:243", after := #[{ on := 27, ground := Ground.data }, { on := 18, ground := Ground.guard }], guard := some (18, true) }) (v := ?_) rfl (by kernel_rfl) (by kernel_rfl) (by kernel_rfl) (fun _ _ _ h => h) (Or.inl ⟨by rfl, ?_⟩) hHeld ?_
  rotate_left
  · (intro w hSw; (try dsimp only at hSw); go_simp; first | done | with_reducible rfl)
  simp only [Act.put, List.setIfInBounds_toArray, List.set_cons_zero, List.set_cons_succ]
  refine wpAnyH_take (i := 29) (oi := { dst := some 147, op := Op.load 3 (Operand.tmp 146), type := 3, pos := "top.go:243", after := #[{ on := 28, ground := Ground.data }, { on := 18, ground := Ground.guard }], guard := some (18, true) }) (v := ?_) rfl (by kernel_rfl) (by kernel_rfl) (by kernel_rfl) (fun _ _ _ h => h) (Or.inl ⟨by rfl, ?_⟩) hHeld ?_
  rotate_left
  · (intro w hSw; (try dsimp only at hSw); go_simp; first | done | with_reducible rfl)
  simp only [Act.put, List.setIfInBounds_toArray, List.set_cons_zero, List.set_cons_succ]
  refine wpAnyH_take (i := 30) (oi := { dst := some 148, op := Op.binOp BinOp.eql 3 (Operand.tmp 142) (Operand.tmp 147) 3, type := 4, pos := "top.go:243", after := #[{ on := 24, ground := Ground.data }, { on := 29, ground := Ground.data }, { on := 18, ground := Ground.guard }], guard := some (18, true) }) (v := ?_) rfl (by kernel_rfl) (by kernel_rfl) (by kernel_rfl) (fun _ _ _ h => h) (Or.inl ⟨by rfl, ?_⟩) hHeld ?_
  rotate_left
  · (intro w hSw; (try dsimp only at hSw); go_simp; first | done | with_reducible rfl)
  simp only [Act.put, List.setIfInBounds_toArray, List.set_cons_zero, List.set_cons_succ]
  refine wpAnyH_take (i := 31) (oi := { dst := some 149, op := Op.move (Operand.tmp 148), type := 4, pos := "top.go:243", after := #[{ on := 30, ground := Ground.data }, { on := 18, ground := Ground.chain }, { on := 18, ground := Ground.guard }], guard := some (18, true) }) (v := ?_) rfl (by kernel_rfl) (by kernel_rfl) (by kernel_rfl) (fun _ _ _ h => h) (Or.inl ⟨by rfl, ?_⟩) hHeld ?_
  rotate_left
  · (intro w hSw; (try dsimp only at hSw); go_simp; first | done | with_reducible rfl)
  simp only [Act.put, List.setIfInBounds_toArray, List.set_cons_zero, List.set_cons_succ]
  refine wpAnyH_take (i := 32) (oi := { dst := some 150, op := Op.move (Operand.tmp 4), type := 3, pos := "top.go:243", after := #[{ on := 31, ground := Ground.guard }], guard := some (31, true) }) (v := undef) rfl (by kernel_rfl) (by kernel_rfl) (by kernel_rfl) (fun _ _ _ h => h) (Or.inr ⟨by rfl, rfl⟩) hHeld ?_
  simp only [Act.put, List.setIfInBounds_toArray, List.set_cons_zero, List.set_cons_succ]
  refine wpAnyH_take (i := 33) (oi := { dst := some 151, op := Op.move (Operand.tmp 1), type := 22, pos := "top.go:243", after := #[{ on := 31, ground := Ground.guard }], guard := some (31, true) }) (v := undef) rfl (by kernel_rfl) (by kernel_rfl) (by kernel_rfl) (fun _ _ _ h => h) (Or.inr ⟨by rfl, rfl⟩) hHeld ?_
  simp only [Act.put, List.setIfInBounds_toArray, List.set_cons_zero, List.set_cons_succ]
  refine wpAnyH_take (i := 34) (oi := { dst := some 152, op := Op.move (Operand.tmp 2), type := 3, pos := "top.go:243", after := #[{ on := 31, ground := Ground.guard }], guard := some (31, true) }) (v := undef) rfl (by kernel_rfl) (by kernel_rfl) (by kernel_rfl) (fun _ _ _ h => h) (Or.inr ⟨by rfl, rfl⟩) hHeld ?_
  simp only [Act.put, List.setIfInBounds_toArray, List.set_cons_zero, List.set_cons_succ]
  refine wpAnyH_take (i := 35) (oi := { dst := some 153, op := Op.indexAddr 22 (Operand.tmp 151) (Operand.tmp 152), type := 0, pos := "top.go:243", after := #[{ on := 33, ground := Ground.data }, { on := 34, ground := Ground.data }, { on := 31, ground := Ground.guard }], guard := some (31, true) }) (v := undef) rfl (by kernel_rfl) (by kernel_rfl) (by kernel_rfl) (fun _ _ _ h => h) (Or.inr ⟨by rfl, rfl⟩) hHeld ?_
  simp only [Act.put, List.setIfInBounds_toArray, List.set_cons_zero, List.set_cons_succ]
  refine wpAnyH_take (i := 36) (oi := { dst := some 154, op := Op.fieldAddr 42 (Operand.tmp 153) 1, type := 0, pos := "top.go:243", after := #[{ on := 35, ground := Ground.data }, { on := 31, ground := Ground.guard }], guard := some (31, true) }) (v := undef) rfl (by kernel_rfl) (by kernel_rfl) (by kernel_rfl) (fun _ _ _ h => h) (Or.inr ⟨by rfl, rfl⟩) hHeld ?_
  simp only [Act.put, List.setIfInBounds_toArray, List.set_cons_zero, List.set_cons_succ]
  refine wpAnyH_take (i := 37) (oi := { dst := some 155, op := Op.load 3 (Operand.tmp 154), type := 3, pos := "top.go:243", after := #[{ on := 36, ground := Ground.data }, { on := 31, ground := Ground.guard }], guard := some (31, true) }) (v := undef) rfl (by kernel_rfl) (by kernel_rfl) (by kernel_rfl) (fun _ _ _ h => h) (Or.inr ⟨by rfl, rfl⟩) hHeld ?_
  simp only [Act.put, List.setIfInBounds_toArray, List.set_cons_zero, List.set_cons_succ]
  refine wpAnyH_take (i := 38) (oi := { dst := some 156, op := Op.binOp BinOp.eql 3 (Operand.tmp 150) (Operand.tmp 155) 3, type := 4, pos := "top.go:243", after := #[{ on := 32, ground := Ground.data }, { on := 37, ground := Ground.data }, { on := 31, ground := Ground.guard }], guard := some (31, true) }) (v := undef) rfl (by kernel_rfl) (by kernel_rfl) (by kernel_rfl) (fun _ _ _ h => h) (Or.inr ⟨by rfl, rfl⟩) hHeld ?_
  simp only [Act.put, List.setIfInBounds_toArray, List.set_cons_zero, List.set_cons_succ]
  refine wpAnyH_take (i := 39) (oi := { dst := some 157, op := Op.pick (Operand.tmp 149) (Operand.tmp 156) (Operand.const (Value.bool false)), type := 4, pos := "top.go:243", after := #[{ on := 31, ground := Ground.data }, { on := 38, ground := Ground.data }, { on := 18, ground := Ground.guard }], guard := some (18, true) }) (v := ?_) rfl (by kernel_rfl) (by kernel_rfl) (by kernel_rfl) (fun _ _ _ h => h) (Or.inl ⟨by rfl, ?_⟩) hHeld ?_
  rotate_left
  · (intro w hSw; (try dsimp only at hSw); go_simp; first | done | with_reducible rfl)
  simp only [Act.put, List.setIfInBounds_toArray, List.set_cons_zero, List.set_cons_succ]
  refine wpAnyH_take (i := 40) (oi := { dst := some 158, op := Op.move (Operand.tmp 157), type := 4, pos := "top.go:243", after := #[{ on := 39, ground := Ground.data }, { on := 31, ground := Ground.chain }, { on := 18, ground := Ground.guard }], guard := some (18, true) }) (v := ?_) rfl (by kernel_rfl) (by kernel_rfl) (by kernel_rfl) (fun _ _ _ h => h) (Or.inl ⟨by rfl, ?_⟩) hHeld ?_
  rotate_left
  · (intro w hSw; (try dsimp only at hSw); go_simp; first | done | with_reducible rfl)
  simp only [Act.put, List.setIfInBounds_toArray, List.set_cons_zero, List.set_cons_succ]
  refine wpAnyH_take (i := 41) (oi := { dst := some 159, op := Op.move (Operand.tmp 19), type := 31, pos := "top.go:243", after := #[{ on := 40, ground := Ground.guard }], guard := some (40, false) }) (v := ?_) rfl (by kernel_rfl) (by kernel_rfl) (by kernel_rfl) (fun _ _ _ h => h) (Or.inl ⟨by rfl, ?_⟩) hHeld ?_
  rotate_left
  · (intro w hSw; (try dsimp only at hSw); go_simp; first | done | with_reducible rfl)
  simp only [Act.put, List.setIfInBounds_toArray, List.set_cons_zero, List.set_cons_succ]
  refine wpAnyH_take (i := 42) (oi := { dst := some 160, op := Op.move (Operand.tmp 4), type := 3, pos := "top.go:243", after := #[{ on := 40, ground := Ground.guard }], guard := some (40, false) }) (v := ?_) rfl (by kernel_rfl) (by kernel_rfl) (by kernel_rfl) (fun _ _ _ h => h) (Or.inl ⟨by rfl, ?_⟩) hHeld ?_
  rotate_left
  · (intro w hSw; (try dsimp only at hSw); go_simp; first | done | with_reducible rfl)
  simp only [Act.put, List.setIfInBounds_toArray, List.set_cons_zero, List.set_cons_succ]
  refine wpAnyH_take (i := 43) (oi := { dst := some 161, op := Op.indexAddr 31 (Operand.tmp 159) (Operand.tmp 160), type := 0, pos := "top.go:243", after := #[{ on := 41, ground := Ground.data }, { on := 42, ground := Ground.data }, { on := 40, ground := Ground.guard }], guard := some (40, false) }) (v := ?_) rfl (by kernel_rfl) (by kernel_rfl) (by kernel_rfl) (fun _ _ _ h => h) (Or.inl ⟨by rfl, ?_⟩) hHeld ?_
  rotate_left
  · (intro w hSw; (try dsimp only at hSw); go_simp; first | done | with_reducible rfl)
  simp only [Act.put, List.setIfInBounds_toArray, List.set_cons_zero, List.set_cons_succ]
  refine wpAnyH_take (i := 44) (oi := { dst := some 162, op := Op.load 24 (Operand.tmp 161), type := 24, pos := "top.go:243", after := #[{ on := 43, ground := Ground.data }, { on := 40, ground := Ground.guard }], guard := some (40, false) }) (v := ?_) rfl (by kernel_rfl) (by kernel_rfl) (by kernel_rfl) (fun _ _ _ h => h) (Or.inl ⟨by rfl, ?_⟩) hHeld ?_
  rotate_left
  · (intro w hSw; (try dsimp only at hSw); go_simp; first | done | with_reducible rfl)
  simp only [Act.put, List.setIfInBounds_toArray, List.set_cons_zero, List.set_cons_succ]
  refine wpAnyH_take (i := 45) (oi := { dst := some 163, op := Op.indexAddr 24 (Operand.tmp 162) (Operand.const (Value.int IntKind.i64 0)), type := 0, pos := "top.go:243", after := #[{ on := 44, ground := Ground.data }, { on := 40, ground := Ground.guard }], guard := some (40, false) }) (v := ?_) rfl (by kernel_rfl) (by kernel_rfl) (by kernel_rfl) (fun _ _ _ h => h) (Or.inl ⟨by rfl, ?_⟩) hHeld ?_
  rotate_left
  · (intro w hSw; (try dsimp only at hSw); go_simp; first | done | with_reducible rfl)
  simp only [Act.put, List.setIfInBounds_toArray, List.set_cons_zero, List.set_cons_succ]
  refine wpAnyH_take (i := 46) (oi := { dst := some 164, op := Op.load 3 (Operand.tmp 163), type := 3, pos := "top.go:243", after := #[{ on := 45, ground := Ground.data }, { on := 40, ground := Ground.guard }], guard := some (40, false) }) (v := ?_) rfl (by kernel_rfl) (by kernel_rfl) (by kernel_rfl) (fun _ _ _ h => h) (Or.inl ⟨by rfl, ?_⟩) hHeld ?_
  rotate_left
  · (intro w hSw; (try dsimp only at hSw); go_simp; first | done | with_reducible rfl)
  simp only [Act.put, List.setIfInBounds_toArray, List.set_cons_zero, List.set_cons_succ]
  refine wpAnyH_take (i := 47) (oi := { dst := some 165, op := Op.move (Operand.tmp 1), type := 22, pos := "top.go:243", after := #[{ on := 40, ground := Ground.guard }], guard := some (40, false) }) (v := ?_) rfl (by kernel_rfl) (by kernel_rfl) (by kernel_rfl) (fun _ _ _ h => h) (Or.inl ⟨by rfl, ?_⟩) hHeld ?_
  rotate_left
  · (intro w hSw; (try dsimp only at hSw); go_simp; first | done | with_reducible rfl)
  simp only [Act.put, List.setIfInBounds_toArray, List.set_cons_zero, List.set_cons_succ]
  refine wpAnyH_take (i := 48) (oi := { dst := some 166, op := Op.move (Operand.tmp 2), type := 3, pos := "top.go:243", after := #[{ on := 40, ground := Ground.guard }], guard := some (40, false) }) (v := ?_) rfl (by kernel_rfl) (by kernel_rfl) (by kernel_rfl) (fun _ _ _ h => h) (Or.inl ⟨by rfl, ?_⟩) hHeld ?_
  rotate_left
  · (intro w hSw; (try dsimp only at hSw); go_simp; first | done | with_reducible rfl)
  simp only [Act.put, List.setIfInBounds_toArray, List.set_cons_zero, List.set_cons_succ]
  refine wpAnyH_take (i := 49) (oi := { dst := some 167, op := Op.indexAddr 22 (Operand.tmp 165) (Operand.tmp 166), type := 0, pos := "top.go:243", after := #[{ on := 47, ground := Ground.data }, { on := 48, ground := Ground.data }, { on := 40, ground := Ground.guard }], guard := some (40, false) }) (v := ?_) rfl (by kernel_rfl) (by kernel_rfl) (by kernel_rfl) (fun _ _ _ h => h) (Or.inl ⟨by rfl, ?_⟩) hHeld ?_
  rotate_left
  · (intro w hSw; (try dsimp only at hSw); go_simp; first | done | with_reducible rfl)
  simp only [Act.put, List.setIfInBounds_toArray, List.set_cons_zero, List.set_cons_succ]
  refine wpAnyH_take (i := 50) (oi := { dst := some 168, op := Op.fieldAddr 42 (Operand.tmp 167) 1, type := 0, pos := "top.go:243", after := #[{ on := 49, ground := Ground.data }, { on := 40, ground := Ground.guard }], guard := some (40, false) }) (v := ?_) rfl (by kernel_rfl) (by kernel_rfl) (by kernel_rfl) (fun _ _ _ h => h) (Or.inl ⟨by rfl, ?_⟩) hHeld ?_
  rotate_left
  · (intro w hSw; (try dsimp only at hSw); go_simp; first | done | with_reducible rfl)
  simp only [Act.put, List.setIfInBounds_toArray, List.set_cons_zero, List.set_cons_succ]
  refine wpAnyH_take (i := 51) (oi := { dst := some 169, op := Op.load 3 (Operand.tmp 168), type := 3, pos := "top.go:243", after := #[{ on := 50, ground := Ground.data }, { on := 40, ground := Ground.guard }], guard := some (40, false) }) (v := ?_) rfl (by kernel_rfl) (by kernel_rfl) (by kernel_rfl) (fun _ _ _ h => h) (Or.inl ⟨by rfl, ?_⟩) hHeld ?_
  rotate_left
  · (intro w hSw; (try dsimp only at hSw); go_simp; first | done | with_reducible rfl)
  simp only [Act.put, List.setIfInBounds_toArray, List.set_cons_zero, List.set_cons_succ]
  refine wpAnyH_take (i := 52) (oi := { dst := some 170, op := Op.binOp BinOp.eql 3 (Operand.tmp 164) (Operand.tmp 169) 3, type := 4, pos := "top.go:243", after := #[{ on := 46, ground := Ground.data }, { on := 51, ground := Ground.data }, { on := 40, ground := Ground.guard }], guard := some (40, false) }) (v := ?_) rfl (by kernel_rfl) (by kernel_rfl) (by kernel_rfl) (fun _ _ _ h => h) (Or.inl ⟨by rfl, ?_⟩) hHeld ?_
  rotate_left
  · (intro w hSw; (try dsimp only at hSw); go_simp; first | done | with_reducible rfl)
  simp only [Act.put, List.setIfInBounds_toArray, List.set_cons_zero, List.set_cons_succ]
  refine wpAnyH_take (i := 53) (oi := { dst := some 171, op := Op.move (Operand.tmp 170), type := 4, pos := "top.go:243", after := #[{ on := 52, ground := Ground.data }, { on := 40, ground := Ground.chain }, { on := 40, ground := Ground.guard }], guard := some (40, false) }) (v := ?_) rfl (by kernel_rfl) (by kernel_rfl) (by kernel_rfl) (fun _ _ _ h => h) (Or.inl ⟨by rfl, ?_⟩) hHeld ?_
  rotate_left
  · (intro w hSw; (try dsimp only at hSw); go_simp; first | done | with_reducible rfl)
  simp only [Act.put, List.setIfInBounds_toArray, List.set_cons_zero, List.set_cons_succ]
  refine wpAnyH_take (i := 54) (oi := { dst := some 172, op := Op.move (Operand.tmp 4), type := 3, pos := "top.go:243", after := #[{ on := 53, ground := Ground.guard }], guard := some (53, true) }) (v := undef) rfl (by kernel_rfl) (by kernel_rfl) (by kernel_rfl) (fun _ _ _ h => h) (Or.inr ⟨by rfl, rfl⟩) hHeld ?_
  simp only [Act.put, List.setIfInBounds_toArray, List.set_cons_zero, List.set_cons_succ]
  refine wpAnyH_take (i := 55) (oi := { dst := some 173, op := Op.move (Operand.tmp 1), type := 22, pos := "top.go:243", after := #[{ on := 53, ground := Ground.guard }], guard := some (53, true) }) (v := undef) rfl (by kernel_rfl) (by kernel_rfl) (by kernel_rfl) (fun _ _ _ h => h) (Or.inr ⟨by rfl, rfl⟩) hHeld ?_
  simp only [Act.put, List.setIfInBounds_toArray, List.set_cons_zero, List.set_cons_succ]
  refine wpAnyH_take (i := 56) (oi := { dst := some 174, op := Op.move (Operand.tmp 2), type := 3, pos := "top.go:243", after := #[{ on := 53, ground := Ground.guard }], guard := some (53, true) }) (v := undef) rfl (by kernel_rfl) (by kernel_rfl) (by kernel_rfl) (fun _ _ _ h => h) (Or.inr ⟨by rfl, rfl⟩) hHeld ?_
  simp only [Act.put, List.setIfInBounds_toArray, List.set_cons_zero, List.set_cons_succ]
  refine wpAnyH_take (i := 57) (oi := { dst := some 175, op := Op.indexAddr 22 (Operand.tmp 173) (Operand.tmp 174), type := 0, pos := "top.go:243", after := #[{ on := 55, ground := Ground.data }, { on := 56, ground := Ground.data }, { on := 53, ground := Ground.guard }], guard := some (53, true) }) (v := undef) rfl (by kernel_rfl) (by kernel_rfl) (by kernel_rfl) (fun _ _ _ h => h) (Or.inr ⟨by rfl, rfl⟩) hHeld ?_
  simp only [Act.put, List.setIfInBounds_toArray, List.set_cons_zero, List.set_cons_succ]
  refine wpAnyH_take (i := 58) (oi := { dst := some 176, op := Op.fieldAddr 42 (Operand.tmp 175) 0, type := 0, pos := "top.go:243", after := #[{ on := 57, ground := Ground.data }, { on := 53, ground := Ground.guard }], guard := some (53, true) }) (v := undef) rfl (by kernel_rfl) (by kernel_rfl) (by kernel_rfl) (fun _ _ _ h => h) (Or.inr ⟨by rfl, rfl⟩) hHeld ?_
  simp only [Act.put, List.setIfInBounds_toArray, List.set_cons_zero, List.set_cons_succ]
  refine wpAnyH_take (i := 59) (oi := { dst := some 177, op := Op.load 3 (Operand.tmp 176), type := 3, pos := "top.go:243", after := #[{ on := 58, ground := Ground.data }, { on := 53, ground := Ground.guard }], guard := some (53, true) }) (v := undef) rfl (by kernel_rfl) (by kernel_rfl) (by kernel_rfl) (fun _ _ _ h => h) (Or.inr ⟨by rfl, rfl⟩) hHeld ?_
  simp only [Act.put, List.setIfInBounds_toArray, List.set_cons_zero, List.set_cons_succ]
  refine wpAnyH_take (i := 60) (oi := { dst := some 178, op := Op.binOp BinOp.eql 3 (Operand.tmp 172) (Operand.tmp 177) 3, type := 4, pos := "top.go:243", after := #[{ on := 54, ground := Ground.data }, { on := 59, ground := Ground.data }, { on := 53, ground := Ground.guard }], guard := some (53, true) }) (v := undef) rfl (by kernel_rfl) (by kernel_rfl) (by kernel_rfl) (fun _ _ _ h => h) (Or.inr ⟨by rfl, rfl⟩) hHeld ?_
  simp only [Act.put, List.setIfInBounds_toArray, List.set_cons_zero, List.set_cons_succ]
  refine wpAnyH_take (i := 61) (oi := { dst := some 179, op := Op.pick (Operand.tmp 171) (Operand.tmp 178) (Operand.const (Value.bool false)), type := 4, pos := "top.go:243", after := #[{ on := 53, ground := Ground.data }, { on := 60, ground := Ground.data }, { on := 40, ground := Ground.guard }], guard := some (40, false) }) (v := ?_) rfl (by kernel_rfl) (by kernel_rfl) (by kernel_rfl) (fun _ _ _ h => h) (Or.inl ⟨by rfl, ?_⟩) hHeld ?_
  rotate_left
  · (intro w hSw; (try dsimp only at hSw); go_simp; first | done | with_reducible rfl)
  simp only [Act.put, List.setIfInBounds_toArray, List.set_cons_zero, List.set_cons_succ]
  refine wpAnyH_take (i := 62) (oi := { dst := some 180, op := Op.pick (Operand.tmp 158) (Operand.const (Value.bool true)) (Operand.tmp 179), type := 4, pos := "top.go:243", after := #[{ on := 40, ground := Ground.data }, { on := 61, ground := Ground.data }, { on := 18, ground := Ground.guard }], guard := some (18, true) }) (v := ?_) rfl (by kernel_rfl) (by kernel_rfl) (by kernel_rfl) (fun _ _ _ h => h) (Or.inl ⟨by rfl, ?_⟩) hHeld ?_
  rotate_left
  · (intro w hSw; (try dsimp only at hSw); go_simp; first | done | with_reducible rfl)
  simp only [Act.put, List.setIfInBounds_toArray, List.set_cons_zero, List.set_cons_succ]
  refine wpAnyH_take (i := 63) (oi := { dst := some 181, op := Op.pick (Operand.tmp 136) (Operand.tmp 180) (Operand.const (Value.bool false)), type := 4, pos := "top.go:243", after := #[{ on := 18, ground := Ground.data }, { on := 62, ground := Ground.data }], guard := none }) (v := ?_) rfl (by kernel_rfl) (by kernel_rfl) (by kernel_rfl) (fun _ _ _ h => h) (Or.inl ⟨by rfl, ?_⟩) hHeld ?_
  rotate_left
  · (intro w hSw; (try dsimp only at hSw); go_simp; first | done | with_reducible rfl)
  simp only [Act.put, List.setIfInBounds_toArray, List.set_cons_zero, List.set_cons_succ]
  refine wpAnyH_take (i := 64) (oi := { dst := some 21, op := Op.assign (Operand.tmp 181), type := 4, pos := "top.go:243", after := #[{ on := 63, ground := Ground.data }, { on := 53, ground := Ground.chain }, { on := 0, ground := Ground.phase }, { on := 1, ground := Ground.phase }, { on := 2, ground := Ground.phase }, { on := 3, ground := Ground.phase }, { on := 4, ground := Ground.phase }, { on := 5, ground := Ground.phase }, { on := 6, ground := Ground.phase }, { on := 7, ground := Ground.phase }, { on := 8, ground := Ground.phase }, { on := 9, ground := Ground.phase }, { on := 10, ground := Ground.phase }, { on := 11, ground := Ground.phase }, { on := 12, ground := Ground.phase }, { on := 13, ground := Ground.phase }, { on := 14, ground := Ground.phase }, { on := 15, ground := Ground.phase }, { on := 16, ground := Ground.phase }, { on := 17, ground := Ground.phase }, { on := 18, ground := Ground.phase }, { on := 19, ground := Ground.phase }, { on := 20, ground := Ground.phase }, { on := 21, ground := Ground.phase }, { on := 22, ground := Ground.phase }, { on := 23, ground := Ground.phase }, { on := 24, ground := Ground.phase }, { on := 25, ground := Ground.phase }, { on := 26, ground := Ground.phase }, { on := 27, ground := Ground.phase }, { on := 28, ground := Ground.phase }, { on := 29, ground := Ground.phase }, { on := 30, ground := Ground.phase }, { on := 31, ground := Ground.phase }, { on := 32, ground := Ground.phase }, { on := 33, ground := Ground.phase }, { on := 34, ground := Ground.phase }, { on := 35, ground := Ground.phase }, { on := 36, ground := Ground.phase }, { on := 37, ground := Ground.phase }, { on := 38, ground := Ground.phase }, { on := 39, ground := Ground.phase }, { on := 40, ground := Ground.phase }, { on := 41, ground := Ground.phase }, { on := 42, ground := Ground.phase }, { on := 43, ground := Ground.phase }, { on := 44, ground := Ground.phase }, { on := 45, ground := Ground.phase }, { on := 46, ground := Ground.phase }, { on := 47, ground := Ground.phase }, { on := 48, ground := Ground.phase }, { on := 49, ground := Ground.phase }, { on := 50, ground := Ground.phase }, { on := 51, ground := Ground.phase }, { on := 52, ground := Ground.phase }, { on := 53, ground := Ground.phase }, { on := 54, ground := Ground.phase }, { on := 55, ground := Ground.phase }, { on := 56, ground := Ground.phase }, { on := 57, ground := Ground.phase }, { on := 58, ground := Ground.phase }, { on := 59, ground := Ground.phase }, { on := 60, ground := Ground.phase }, { on := 61, ground := Ground.phase }, { on := 62, ground := Ground.phase }, { on := 63, ground := Ground.phase }], guard := none }) (v := ?_) rfl (by kernel_rfl) (by kernel_rfl) (by kernel_rfl) (fun _ _ _ h => h) (Or.inl ⟨by rfl, ?_⟩) hHeld ?_
  rotate_left
  · (intro w hSw; (try dsimp only at hSw); go_simp; first | done | with_reducible rfl)
  simp only [Act.put, List.setIfInBounds_toArray, List.set_cons_zero, List.set_cons_succ]
  refine wpAnyH_done (by kernel_rfl) ?_ _
  clear hHeld
  go_wp2_with fail
  go_quiet (fail)
  go_wp2_with fail
  go_ret
  exact ⟨rfl, Below.drewN HZZ.out.drew _⟩
end Go.Proofs.Ytjgmehmhhplkaaa
