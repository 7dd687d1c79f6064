/-
  The document's own Learnt of a rib; what lay in memory stays.
-/
import Derived.Test.YtoocmogmocapoaaDoorRefAged
import Derived.Test.YtoocmogmocapoaaDoorRefLess
import Derived.Test.YtoocmogmocapoaaDoorRibSort
import Derived.Deep.RegionHeld3
import Derived.Deep.CutBlock
import Derived.Deep.CutRange
import Derived.LoopN
namespace Go.Proofs.YtoocmogmocapoaaDoor
open Go.RowKit Go.Lib RibP

theorem bodyPost_lt {fn : Func} {R : Ending → World → Prop} {a : Act} {W : World} {n : Nat} {now k : Int} {p : Option Addr} {m c : Nat} (hres : fn.results = #[.cell 10 29, .tmp 11]) (h2 : a.tmps[10]?.getD undef = .pointer (some ⟨n, 0, none⟩)) (h3 : a.tmps[11]?.getD undef = .int .i64 k)
    (hs : Box W n (.int .i64 now) (.slice p m c)) (hd : a.defers = []) (hR : R (.returned (.tuple #[.agg #[.int .i64 now, .slice p m c], .int .i64 k])) W) : bodyPost Tryd.prog fn R .ret a W := by
  obtain ⟨_, c0, c1, _, _⟩ := hs
  refine bodyPost_ret (v := .tuple #[.agg #[.int .i64 now, .slice p m c], .int .i64 k]) ?_ hd hR
  simp [results, hres, go_sem, h2, h3, c0, c1]
theorem held_c {w w1 : World} {b i : Nat} {u : Value} (h : w.cell? ⟨b, i, none⟩ = some u) (hb : Below w.heap.size w w1) : w1.cell? ⟨b, i, none⟩ = some u :=
  (hb.cell (p := ⟨b, i, none⟩) (World.block_lt_of_cell? _ _ h)).trans h
namespace RibP
section
variable {now0 : Int} {M : List Rt} {f : Int} {n : Nt} {m t : Int}
theorem learnE_near (h : ¬ (okT now0 t ∧ near f)) : learnE (now0, M) f n m t = 1 := by
  unfold learnE nearE
  rw [if_neg h, if_pos (by decide)]
theorem learnE_chk (h : okT now0 t ∧ near f) (h2 : PrefP.chk n.1 n.2 ≠ 0) : learnE (now0, M) f n m t = PrefP.chk n.1 n.2 := by
  unfold learnE nearE
  rw [if_pos h, if_neg (by simp), if_pos h2]
theorem learnE_met (h : okT now0 t ∧ near f) (h2 : PrefP.chk n.1 n.2 = 0) (h3 : ¬ (1 ≤ m ∧ m ≤ 16)) : learnE (now0, M) f n m t = 1 := by
  unfold learnE nearE metE
  rw [if_pos h, if_neg (by simp), if_neg (by simp [h2]), if_neg h3, if_pos (by decide)]
theorem learnE_full (h : okT now0 t ∧ near f) (h2 : PrefP.chk n.1 n.2 = 0) (h3 : 1 ≤ m ∧ m ≤ 16) (h4 : full ⟨⟨f, n, m⟩, t⟩ (age t M)) : learnE (now0, M) f n m t = 4 := by
  unfold learnE nearE metE
  rw [if_pos h, if_neg (by simp), if_neg (by simp [h2]), if_pos h3, if_neg (by simp), if_pos h4]
theorem learnE_ok (h : okT now0 t ∧ near f) (h2 : PrefP.chk n.1 n.2 = 0) (h3 : 1 ≤ m ∧ m ≤ 16) (h4 : ¬ full ⟨⟨f, n, m⟩, t⟩ (age t M)) : learnE (now0, M) f n m t = 0 := by
  unfold learnE nearE metE
  rw [if_pos h, if_neg (by simp), if_neg (by simp [h2]), if_pos h3, if_neg (by simp), if_neg h4]
end
end RibP
/-- What Learnt gives. -/
def LtTo (w : World) (now0 : Int) (M : List Rt) (f : Int) (n : Nt) (m t : Int) (r : Ending) (w' : World) : Prop :=
  ∃ (k now' : Int) (q : Option Addr) (len c : Nat), r = .returned (.tuple #[.agg #[.int .i64 now', .slice q len c], .int .i64 k]) ∧ k = learnE (now0, M) f n m t ∧ (k = 0 → now' = t ∧ ∃ M', LHeld w' w.heap.size (.slice q len c) M' ∧ M'.Perm (learn ⟨⟨f, n, m⟩, t⟩ (age t M)) ∧ Srtd M') ∧ Below w.heap.size w w'
section
variable {w w' : World} {now0 : Int} {M M' : List Rt} {f : Int} {n : Nt} {m t k now' : Int} {q : Option Addr} {len c : Nat}
theorem LtTo.bad (hk : k = learnE (now0, M) f n m t) (h0 : k ≠ 0) (hb : Below w.heap.size w w') : LtTo w now0 M f n m t (.returned (.tuple #[.agg #[.int .i64 now', .slice q len c], .int .i64 k])) w' :=
  ⟨k, now', q, len, c, rfl, hk, fun h => absurd h h0, hb⟩
theorem LtTo.good (hk : learnE (now0, M) f n m t = 0) (hM : LHeld w' w.heap.size (.slice q len c) M') (hp : M'.Perm (learn ⟨⟨f, n, m⟩, t⟩ (age t M))) (hs : Srtd M') (hb : Below w.heap.size w w') : LtTo w now0 M f n m t (.returned (.tuple #[.agg #[.int .i64 t, .slice q len c], .int .i64 0])) w' :=
  ⟨0, t, q, len, c, rfl, hk.symm, fun _ => ⟨rfl, M', hM, hp, hs⟩, hb⟩
end

theorem LHeld.cap {E : Type} [Inhabited E] [Cel E] {w : World} {base n c : Nat} {q : Option Addr} {L : List E} (h : LHeld w base (.slice q n c) L) : L.length ≤ c := by
  obtain ⟨_, _, hv, hc, _⟩ := h.arg
  injection hv with _ _ e
  subst e
  exact hc
theorem RibP.Srtd.learnt {M : List Rt} (h : Srtd M) {x : Rt} {k : Nat} (hs : sm x M[k]! = true) (hk : k < M.length) : Srtd (learn x M) := by
  unfold learn
  rw [if_pos (any_at x M k hk hs)]
  exact h.news x

set_option maxHeartbeats 16000000 in
set_option maxRecDepth 100000 in
theorem refLearnt_any (w : World) (now0 : Int) (v : Value) (M : List Rt) (f : Int) (a : Nat) (l m t : Int) (ha : a < 4294967296) (hlen : M.length ≤ 64) (h : LArg w v M) (hS : Srtd M) (hK : (keys M).Nodup) (hM : ∀ e ∈ M, e.h.m ≤ 16 ∧ 0 ≤ e.t ∧ e.t ≤ now0) :
    Calls Tryd.prog 6 #[.agg #[.int .i64 now0, v], .int .i64 f, .agg #[.int .u32 (a : Int), .int .i64 l], .int .i64 m, .int .i64 t] w (LtTo w now0 M f (a, l) m t) := by
  obtain ⟨pm, cm, rfl, _⟩ := id h
  have hB := (((Below.refl w.heap.size w).alloc (Nat.le_refl _) (.cells #[.int .i64 now0, .slice pm M.length cm] 29)).alloc (by simp) (.cells #[.int .u32 (a : Int), .int .i64 l] 35)).alloc (by simp; omega) (.cells #[.int .i64 0, .slice none 0 0] 29)
  have hX := ((Box.new w (.int .i64 now0) (.slice pm M.length cm) 29).alloc (.cells #[.int .u32 (a : Int), .int .i64 l] 35)).alloc (.cells #[.int .i64 0, .slice none 0 0] 29)
  have hN := (Box.new (w.alloc (.cells #[.int .i64 now0, .slice pm M.length cm] 29)) (.int .u32 (a : Int)) (.int .i64 l) 35).alloc (.cells #[.int .i64 0, .slice none 0 0] 29)
  have hY := Box.new ((w.alloc (.cells #[.int .i64 now0, .slice pm M.length cm] 29)).alloc (.cells #[.int .u32 (a : Int), .int .i64 l] 35)) (.int .i64 0) (.slice none 0 0) 29
  have hsz : w.heap.size + 3 ≤ (((w.alloc (.cells #[.int .i64 now0, .slice pm M.length cm] 29)).alloc (.cells #[.int .u32 (a : Int), .int .i64 l] 35)).alloc (.cells #[.int .i64 0, .slice none 0 0] 29)).heap.size := by simp
  simp only [World.size_alloc] at hX hN hY
  have X0 := Lib.hid hX; have N0 := Lib.hid hN; have Y0 := Lib.hid hY; have B0 := Lib.hid hB; have S0 := Lib.hid hsz; have L0 := Lib.hid (h.below hB)
  have HM := Lib.hid hM; have HS := Lib.hid hS; have HK := Lib.hid hK
  clear hX hN hY hB hsz h hM hS hK
  go_enter Tryd.func6, Tryd.ntmps6
  go_wp2_with fail
  generalize ((w.alloc (.cells #[.int .i64 now0, .slice pm M.length cm] 29)).alloc (.cells #[.int .u32 (a : Int), .int .i64 l] 35)).alloc (.cells #[.int .i64 0, .slice none 0 0] 29) = wA at X0 N0 Y0 B0 S0 L0 ⊢
  refine (timeFault_any wA now0 pm M.length cm f t M).mono ?_
  rintro r w1 ⟨rfl, hb1⟩
  have X1 := Lib.hid (X0.out.kept hb1); have N1 := Lib.hid (N0.out.kept hb1); have Y1 := Lib.hid (Y0.out.kept hb1); have L1 := Lib.hid (L0.out.below hb1)
  have B1 := Lib.hid (B0.out.trans (hb1.mono B0.out.size)); have S1 := Lib.hid (Nat.le_trans S0.out hb1.size)
  clear X0 N0 Y0 L0 B0 S0 hb1
  by_cases h1 : okT now0 t ∧ near f
  · rw [show nearE (now0, M) f t = 0 from if_pos h1]
    have H1 := Lib.hid h1
    clear h1
    have hN := N1.out
    obtain ⟨_, n0, n1, _, _⟩ := hN
    go_wp2_with fail
    refine (fault_any a l ha w1).mono ?_
    rintro r w2 ⟨rfl, hb2⟩
    clear n0 n1
    have X2 := Lib.hid (X1.out.kept hb2); have N2 := Lib.hid (N1.out.kept hb2); have Y2 := Lib.hid (Y1.out.kept hb2); have L2 := Lib.hid (L1.out.below hb2)
    have B2 := Lib.hid (B1.out.trans (hb2.mono B1.out.size)); have S2 := Lib.hid (Nat.le_trans S1.out hb2.size)
    clear X1 N1 Y1 L1 B1 S1 hb2
    by_cases h2 : PrefP.chk a l = 0
    · rw [h2]
      have H2 := Lib.hid h2
      clear h2
      by_cases h3 : 1 ≤ m ∧ m ≤ 16
      · have H3 := Lib.hid h3
        obtain ⟨m1, m2⟩ := h3
        have hX := X2.out
        obtain ⟨_, x0, x1, _, _⟩ := hX
        have HG := Lib.hid (refAged_any w2 now0 (.slice pm M.length cm) M t hlen L2.out (fun e he => ⟨(HM.out e he).1, (HM.out e he).2.1, Int.le_trans (HM.out e he).2.2 H1.out.1.1⟩) H1.out.1.2)
        have hl64 := Nat.le_trans (age_len t M) hlen
        have hka := (keys_age t M).nodup HK.out
        have hsa := HS.out.age t
        have hle : ∀ e ∈ age t M, e.h.m ≤ 16 := by
          intro e he
          unfold age at he
          obtain ⟨he, _⟩ := List.mem_filter.1 he
          obtain ⟨e', h1, rfl⟩ := List.mem_map.1 he
          have := (HM.out e' h1).1
          unfold ageR
          split
          · exact Int.le_refl _
          · exact this
        have HL64 := Lib.hid hl64; have HKA := Lib.hid hka; have HSA := Lib.hid hsa; have HLE := Lib.hid hle
        clear hl64 hka hsa hle
        go_wp2_with fail
        refine HG.out.mono ?_
        rintro r w3 ⟨v3, rfl, ho, hb3⟩
        clear HG x0 x1
        have SS2 := Lib.hid S2.out
        have X3 := Lib.hid (X2.out.kept hb3); have N3 := Lib.hid (N2.out.kept hb3); have Y3 := Lib.hid (Y2.out.kept hb3); have L3 := Lib.hid (L2.out.below hb3)
        have B3 := Lib.hid (B2.out.trans (hb3.mono B2.out.size)); have S3 := Lib.hid (Nat.le_trans S2.out hb3.size)
        clear X2 N2 Y2 L2 B2 S2 hb3
        have S2 := SS2
        clear SS2
        obtain ⟨A, hA⟩ : ∃ A, A = age t M := ⟨_, rfl⟩
        rw [← hA] at ho HKA HSA HL64 HLE
        have HAE := Lib.hid hA
        clear hA
        have hH := ho.held
        clear ho
        obtain ⟨q3, c3, rfl⟩ := hH.len
        have GLT := Lib.hid hH.lt
        have HC3 := Lib.hid hH.cap
        have hb4 := (Below.refl w3.heap.size w3).alloc (Nat.le_refl _) (.cells #[.int .i64 t, .slice q3 A.length c3] 29)
        have Z4 := Lib.hid (Box.new w3 (.int .i64 t) (.slice q3 A.length c3) 29)
        have G4 := Lib.hid (hH.below hb4)
        have SS3 := Lib.hid S3.out
        clear hH
        have X4 := Lib.hid (X3.out.kept hb4); have N4 := Lib.hid (N3.out.kept hb4); have Y4 := Lib.hid (Y3.out.kept hb4); have L4 := Lib.hid (L3.out.below hb4)
        have B4 := Lib.hid (B3.out.trans (hb4.mono B3.out.size)); have S4 := Lib.hid (Nat.le_trans S3.out hb4.size)
        clear X3 N3 Y3 L3 B3 S3 hb4
        go_wp2_with fail
        generalize w3.alloc (.cells #[.int .i64 t, .slice q3 A.length c3] 29) = w4 at Z4 G4 X4 N4 Y4 B4 S4 L4 ⊢
        obtain ⟨ba, hba⟩ : ∃ ba, ba = w3.heap.size := ⟨_, rfl⟩
        rw [← hba] at Z4 GLT SS3 ⊢
        clear hba
        go_loopw [13] (fun u wr => ∃ (k : Nat), u = .int .i64 k ∧ k ≤ A.length ∧ Hid (Below w4.heap.size w4 wr) ∧ Hid (∀ j, j < k → sm ⟨⟨f, (a, l), m⟩, t⟩ A[j]! = false)) (fun u _ => A.length - (RowKit.intOf u).toNat)
        case atStart => exact ⟨0, rfl, Nat.zero_le _, Lib.hid (Below.refl _ _), Lib.hid (fun j h => absurd h (by omega))⟩
        case round =>
          obtain ⟨k, rfl, hk, hB, hJ⟩ := hrel
          have X5 := Lib.hid (X4.out.kept hB.out); have N5 := Lib.hid (N4.out.kept hB.out); have Y5 := Lib.hid (Y4.out.kept hB.out); have Z5 := Lib.hid (Z4.out.kept hB.out); have G5 := Lib.hid (G4.out.below hB.out); have B5 := Lib.hid (B4.out.trans (hB.out.mono B4.out.size))
          have hZ := Z5.out
          obtain ⟨_, z0, z1, _, _⟩ := hZ
          have hl6 := HL64.out
          by_cases hkn : k < A.length
          · obtain ⟨g, hg⟩ := G5.out.here.2.1 k hkn
            subst hg
            obtain ⟨_, lg, sg, fg⟩ := G5.out.here.2.2 g rfl
            have GLT := Lib.hid (show w2.heap.size ≤ g ∧ g < ba from GLT.out g rfl)
            have GLT := Lib.hid (show w.heap.size + 3 ≤ g ∧ g < ba from ⟨Nat.le_trans S2.out GLT.out.1, GLT.out.2⟩)
            obtain ⟨b0, b1, b2, b3, b4⟩ := (sg k hkn).rt
            have a0 : wr.cell? ⟨g, 0 + k * 5, none⟩ = _ := b0
            have a1 : wr.cell? ⟨g, 0 + k * 5 + 1, none⟩ = _ := b1
            have a2 : wr.cell? ⟨g, 0 + k * 5 + 2, none⟩ = _ := b2
            have a3 : wr.cell? ⟨g, 0 + k * 5 + 3, none⟩ = _ := b3
            have a4 : wr.cell? ⟨g, 0 + k * 5 + 4, none⟩ = _ := b4
            simp only [Nat.zero_add] at a0 a1 a2 a3 a4
            have SG := Lib.hid (And.intro lg (And.intro sg fg))
            clear lg sg fg b0 b1 b2 b3 b4
            obtain ⟨e, he⟩ : ∃ e, e = A[k]! := ⟨_, rfl⟩
            rw [← he] at a0 a1 a2 a3 a4
            have HEK := Lib.hid he
            clear he
            obtain ⟨⟨fe, ⟨ae, le⟩, me⟩, te⟩ := e
            dsimp only at a0 a1 a2 a3 a4
            have hN := N5.out
            obtain ⟨_, n0, n1, _, _⟩ := hN
            by_cases h1 : fe = f
            · subst h1
              by_cases h2 : ae = a
              · subst h2
                by_cases h3 : le = l
                · subst h3
                  go_wp2_with fail
                  refine wp_region_held_drew (S := (fun w' => w'.cell? ⟨ba, 1, none⟩ = some (.slice (some ⟨g, 0, none⟩) A.length c3) ∧ w'.cell? ⟨g, k * 5, none⟩ = some (.int .i64 fe) ∧ w'.cell? ⟨g, k * 5 + 1, none⟩ = some (.int .u32 (ae : Int)) ∧ w'.cell? ⟨g, k * 5 + 2, none⟩ = some (.int .i64 le) ∧ w'.cell? ⟨w.heap.size + 1, 0, none⟩ = some (.int .u32 (ae : Int)) ∧ w'.cell? ⟨w.heap.size + 1, 1, none⟩ = some (.int .i64 le))) (by kernel_rfl) ⟨z1, a0, a1, a2, n0, n1⟩ (fun hHeld => ?_)
                  refine wpAnyH_take (i := 0) (oi := { dst := some 45, op := Op.fieldAddr 29 (Operand.tmp 12) 1, type := 0, pos := "rest.go:58", after := #[], guard := none }) (v := ?_) rfl (by kernel_rfl) (by kernel_rfl) (by kernel_rfl) (fun _ _ _ h => h) (Or.inl ⟨by rfl, ?_⟩) hHeld ?_
                  rotate_left
                  · (intro w hSw; (try dsimp only at hSw); go_simp; first | done | with_reducible rfl)
                  simp only [Act.put, List.setIfInBounds_toArray, List.set_cons_zero, List.set_cons_succ]
                  refine wpAnyH_take (i := 1) (oi := { dst := some 46, op := Op.load 27 (Operand.tmp 45), type := 27, pos := "rest.go:58", after := #[{ on := 0, ground := Ground.data }], guard := none }) (v := ?_) rfl (by kernel_rfl) (by kernel_rfl) (by kernel_rfl) (fun _ _ _ h => h) (Or.inl ⟨by rfl, ?_⟩) hHeld ?_
                  rotate_left
                  · (intro w hSw; (try dsimp only at hSw); go_simp; first | done | with_reducible rfl)
                  simp only [Act.put, List.setIfInBounds_toArray, List.set_cons_zero, List.set_cons_succ]
                  refine wpAnyH_take (i := 2) (oi := { dst := some 47, op := Op.move (Operand.tmp 13), type := 3, pos := "rest.go:58", after := #[], guard := none }) (v := ?_) rfl (by kernel_rfl) (by kernel_rfl) (by kernel_rfl) (fun _ _ _ h => h) (Or.inl ⟨by rfl, ?_⟩) hHeld ?_
                  rotate_left
                  · (intro w hSw; (try dsimp only at hSw); go_simp; first | done | with_reducible rfl)
                  simp only [Act.put, List.setIfInBounds_toArray, List.set_cons_zero, List.set_cons_succ]
                  refine wpAnyH_take (i := 3) (oi := { dst := some 48, op := Op.indexAddr 27 (Operand.tmp 46) (Operand.tmp 47), type := 0, pos := "rest.go:58", after := #[{ on := 1, ground := Ground.data }, { on := 2, ground := Ground.data }], guard := none }) (v := ?_) rfl (by kernel_rfl) (by kernel_rfl) (by kernel_rfl) (fun _ _ _ h => h) (Or.inl ⟨by rfl, ?_⟩) hHeld ?_
                  rotate_left
                  · (intro w hSw; (try dsimp only at hSw); go_simp; first | done | with_reducible rfl)
                  simp only [Act.put, List.setIfInBounds_toArray, List.set_cons_zero, List.set_cons_succ]
                  refine wpAnyH_take (i := 4) (oi := { dst := some 49, op := Op.fieldAddr 59 (Operand.tmp 48) 0, type := 0, pos := "rest.go:58", after := #[{ on := 3, ground := Ground.data }], guard := none }) (v := ?_) rfl (by kernel_rfl) (by kernel_rfl) (by kernel_rfl) (fun _ _ _ h => h) (Or.inl ⟨by rfl, ?_⟩) hHeld ?_
                  rotate_left
                  · (intro w hSw; (try dsimp only at hSw); go_simp; first | done | with_reducible rfl)
                  simp only [Act.put, List.setIfInBounds_toArray, List.set_cons_zero, List.set_cons_succ]
                  refine wpAnyH_take (i := 5) (oi := { dst := some 50, op := Op.fieldAddr 53 (Operand.tmp 49) 0, type := 0, pos := "rest.go:58", after := #[{ on := 4, ground := Ground.data }], guard := none }) (v := ?_) rfl (by kernel_rfl) (by kernel_rfl) (by kernel_rfl) (fun _ _ _ h => h) (Or.inl ⟨by rfl, ?_⟩) hHeld ?_
                  rotate_left
                  · (intro w hSw; (try dsimp only at hSw); go_simp; first | done | with_reducible rfl)
                  simp only [Act.put, List.setIfInBounds_toArray, List.set_cons_zero, List.set_cons_succ]
                  refine wpAnyH_take (i := 6) (oi := { dst := some 51, op := Op.load 3 (Operand.tmp 50), type := 3, pos := "rest.go:58", after := #[{ on := 5, ground := Ground.data }], guard := none }) (v := ?_) rfl (by kernel_rfl) (by kernel_rfl) (by kernel_rfl) (fun _ _ _ h => h) (Or.inl ⟨by rfl, ?_⟩) hHeld ?_
                  rotate_left
                  · (intro w hSw; (try dsimp only at hSw); go_simp; first | done | with_reducible rfl)
                  simp only [Act.put, List.setIfInBounds_toArray, List.set_cons_zero, List.set_cons_succ]
                  refine wpAnyH_take (i := 7) (oi := { dst := some 52, op := Op.move (Operand.tmp 1), type := 3, pos := "rest.go:58", after := #[], guard := none }) (v := ?_) rfl (by kernel_rfl) (by kernel_rfl) (by kernel_rfl) (fun _ _ _ h => h) (Or.inl ⟨by rfl, ?_⟩) hHeld ?_
                  rotate_left
                  · (intro w hSw; (try dsimp only at hSw); go_simp; first | done | with_reducible rfl)
                  simp only [Act.put, List.setIfInBounds_toArray, List.set_cons_zero, List.set_cons_succ]
                  refine wpAnyH_take (i := 8) (oi := { dst := some 53, op := Op.binOp BinOp.eql 3 (Operand.tmp 51) (Operand.tmp 52) 3, type := 4, pos := "rest.go:58", after := #[{ on := 6, ground := Ground.data }, { on := 7, ground := Ground.data }], guard := none }) (v := ?_) rfl (by kernel_rfl) (by kernel_rfl) (by kernel_rfl) (fun _ _ _ h => h) (Or.inl ⟨by rfl, ?_⟩) hHeld ?_
                  rotate_left
                  · (intro w hSw; (try dsimp only at hSw); go_simp; first | done | with_reducible rfl)
                  simp only [Act.put, List.setIfInBounds_toArray, List.set_cons_zero, List.set_cons_succ]
                  refine wpAnyH_take (i := 9) (oi := { dst := some 54, op := Op.move (Operand.tmp 53), type := 4, pos := "rest.go:58", after := #[{ on := 8, ground := Ground.data }], guard := none }) (v := ?_) rfl (by kernel_rfl) (by kernel_rfl) (by kernel_rfl) (fun _ _ _ h => h) (Or.inl ⟨by rfl, ?_⟩) hHeld ?_
                  rotate_left
                  · (intro w hSw; (try dsimp only at hSw); go_simp; first | done | with_reducible rfl)
                  simp only [Act.put, List.setIfInBounds_toArray, List.set_cons_zero, List.set_cons_succ]
                  refine wpAnyH_take (i := 10) (oi := { dst := some 55, op := Op.fieldAddr 29 (Operand.tmp 12) 1, type := 0, pos := "rest.go:58", after := #[{ on := 9, ground := Ground.guard }], guard := some (9, true) }) (v := ?_) rfl (by kernel_rfl) (by kernel_rfl) (by kernel_rfl) (fun _ _ _ h => h) (Or.inl ⟨by rfl, ?_⟩) hHeld ?_
                  rotate_left
                  · (intro w hSw; (try dsimp only at hSw); go_simp; first | done | with_reducible rfl)
                  simp only [Act.put, List.setIfInBounds_toArray, List.set_cons_zero, List.set_cons_succ]
                  refine wpAnyH_take (i := 11) (oi := { dst := some 56, op := Op.load 27 (Operand.tmp 55), type := 27, pos := "rest.go:58", after := #[{ on := 10, ground := Ground.data }, { on := 9, ground := Ground.guard }], guard := some (9, true) }) (v := ?_) rfl (by kernel_rfl) (by kernel_rfl) (by kernel_rfl) (fun _ _ _ h => h) (Or.inl ⟨by rfl, ?_⟩) hHeld ?_
                  rotate_left
                  · (intro w hSw; (try dsimp only at hSw); go_simp; first | done | with_reducible rfl)
                  simp only [Act.put, List.setIfInBounds_toArray, List.set_cons_zero, List.set_cons_succ]
                  refine wpAnyH_take (i := 12) (oi := { dst := some 57, op := Op.move (Operand.tmp 13), type := 3, pos := "rest.go:58", after := #[{ on := 9, ground := Ground.guard }], guard := some (9, true) }) (v := ?_) rfl (by kernel_rfl) (by kernel_rfl) (by kernel_rfl) (fun _ _ _ h => h) (Or.inl ⟨by rfl, ?_⟩) hHeld ?_
                  rotate_left
                  · (intro w hSw; (try dsimp only at hSw); go_simp; first | done | with_reducible rfl)
                  simp only [Act.put, List.setIfInBounds_toArray, List.set_cons_zero, List.set_cons_succ]
                  refine wpAnyH_take (i := 13) (oi := { dst := some 58, op := Op.indexAddr 27 (Operand.tmp 56) (Operand.tmp 57), type := 0, pos := "rest.go:58", after := #[{ on := 11, ground := Ground.data }, { on := 12, ground := Ground.data }, { on := 9, ground := Ground.guard }], guard := some (9, true) }) (v := ?_) rfl (by kernel_rfl) (by kernel_rfl) (by kernel_rfl) (fun _ _ _ h => h) (Or.inl ⟨by rfl, ?_⟩) hHeld ?_
                  rotate_left
                  · (intro w hSw; (try dsimp only at hSw); go_simp; first | done | with_reducible rfl)
                  simp only [Act.put, List.setIfInBounds_toArray, List.set_cons_zero, List.set_cons_succ]
                  refine wpAnyH_take (i := 14) (oi := { dst := some 59, op := Op.fieldAddr 59 (Operand.tmp 58) 0, type := 0, pos := "rest.go:58", after := #[{ on := 13, ground := Ground.data }, { on := 9, ground := Ground.guard }], guard := some (9, true) }) (v := ?_) rfl (by kernel_rfl) (by kernel_rfl) (by kernel_rfl) (fun _ _ _ h => h) (Or.inl ⟨by rfl, ?_⟩) hHeld ?_
                  rotate_left
                  · (intro w hSw; (try dsimp only at hSw); go_simp; first | done | with_reducible rfl)
                  simp only [Act.put, List.setIfInBounds_toArray, List.set_cons_zero, List.set_cons_succ]
                  refine wpAnyH_take (i := 15) (oi := { dst := some 60, op := Op.fieldAddr 53 (Operand.tmp 59) 1, type := 0, pos := "rest.go:58", after := #[{ on := 14, ground := Ground.data }, { on := 9, ground := Ground.guard }], guard := some (9, true) }) (v := ?_) rfl (by kernel_rfl) (by kernel_rfl) (by kernel_rfl) (fun _ _ _ h => h) (Or.inl ⟨by rfl, ?_⟩) hHeld ?_
                  rotate_left
                  · (intro w hSw; (try dsimp only at hSw); go_simp; first | done | with_reducible rfl)
                  simp only [Act.put, List.setIfInBounds_toArray, List.set_cons_zero, List.set_cons_succ]
                  refine wpAnyH_take (i := 16) (oi := { dst := some 61, op := Op.load 35 (Operand.tmp 60), type := 35, pos := "rest.go:58", after := #[{ on := 15, ground := Ground.data }, { on := 9, ground := Ground.guard }], guard := some (9, true) }) (v := ?_) rfl (by kernel_rfl) (by kernel_rfl) (by kernel_rfl) (fun _ _ _ h => h) (Or.inl ⟨by rfl, ?_⟩) hHeld ?_
                  rotate_left
                  · (intro w hSw; (try dsimp only at hSw); go_simp; first | done | with_reducible rfl)
                  simp only [Act.put, List.setIfInBounds_toArray, List.set_cons_zero, List.set_cons_succ]
                  refine wpAnyH_take (i := 17) (oi := { dst := some 62, op := Op.load 35 (Operand.tmp 7), type := 35, pos := "rest.go:58", after := #[{ on := 9, ground := Ground.guard }], guard := some (9, true) }) (v := ?_) rfl (by kernel_rfl) (by kernel_rfl) (by kernel_rfl) (fun _ _ _ h => h) (Or.inl ⟨by rfl, ?_⟩) hHeld ?_
                  rotate_left
                  · (intro w hSw; (try dsimp only at hSw); go_simp; first | done | with_reducible rfl)
                  simp only [Act.put, List.setIfInBounds_toArray, List.set_cons_zero, List.set_cons_succ]
                  refine wpAnyH_take (i := 18) (oi := { dst := some 63, op := Op.binOp BinOp.eql 35 (Operand.tmp 61) (Operand.tmp 62) 35, type := 4, pos := "rest.go:58", after := #[{ on := 16, ground := Ground.data }, { on := 17, ground := Ground.data }, { on := 9, ground := Ground.guard }], guard := some (9, true) }) (v := ?_) rfl (by kernel_rfl) (by kernel_rfl) (by kernel_rfl) (fun _ _ _ h => h) (Or.inl ⟨by rfl, ?_⟩) hHeld ?_
                  rotate_left
                  · (intro w hSw; (try dsimp only at hSw); go_simp; first | done | with_reducible rfl)
                  simp only [Act.put, List.setIfInBounds_toArray, List.set_cons_zero, List.set_cons_succ]
                  refine wpAnyH_take (i := 19) (oi := { dst := some 64, op := Op.pick (Operand.tmp 54) (Operand.tmp 63) (Operand.const (Value.bool false)), type := 4, pos := "rest.go:58", after := #[{ on := 9, ground := Ground.data }, { on := 18, ground := Ground.data }], guard := none }) (v := ?_) rfl (by kernel_rfl) (by kernel_rfl) (by kernel_rfl) (fun _ _ _ h => h) (Or.inl ⟨by rfl, ?_⟩) hHeld ?_
                  rotate_left
                  · (intro w hSw; (try dsimp only at hSw); go_simp; first | done | with_reducible rfl)
                  simp only [Act.put, List.setIfInBounds_toArray, List.set_cons_zero, List.set_cons_succ]
                  refine wpAnyH_done (by kernel_rfl) ?_ _
                  clear hHeld
                  have HSM := Lib.hid (show sm ⟨⟨fe, (ae, le), m⟩, t⟩ A[k]! = true by rw [← HEK.out]; exact decide_eq_true ⟨rfl, rfl⟩)
                  have HOK0 := Lib.hid (learnE_ok (M := M) (n := (ae, le)) H1.out H2.out H3.out (fun h => by rw [← HAE.out] at h; have := any_at _ A k hkn HSM.out; rw [h.1] at this; cases this))
                  have d0 : wr.drew.cell? ⟨g, k * 5, none⟩ = _ := a0
                  have d1 : wr.drew.cell? ⟨g, k * 5 + 1, none⟩ = _ := a1
                  have d2 : wr.drew.cell? ⟨g, k * 5 + 2, none⟩ = _ := a2
                  have d3 : wr.drew.cell? ⟨g, k * 5 + 3, none⟩ = _ := a3
                  have d4 : wr.drew.cell? ⟨g, k * 5 + 4, none⟩ = _ := a4
                  have YD : Hid (Box wr.drew (w.heap.size + 1 + 1) _ _) := Lib.hid (Y5.out.drewN 1)
                  have ND : Hid (Box wr.drew (w.heap.size + 1) _ _) := Lib.hid (N5.out.drewN 1)
                  have ZD : Hid (Box wr.drew ba _ _) := Lib.hid (Z5.out.drewN 1)
                  have SGD : Hid (g < wr.drew.heap.size ∧ LSeen wr.drew g 0 A ∧ ∀ o, wr.drew.frozen? ⟨g, o, none⟩ = false) := Lib.hid ⟨SG.out.1, SG.out.2.1.ofBlock rfl, SG.out.2.2⟩
                  have BD := Lib.hid B5.out.drew
                  clear a0 a1 a2 a3 a4 z0 z1 n0 n1 X5 N5 Y5 Z5 G5 SG B5
                  generalize wr.drew = wd at d0 d1 d2 d3 d4 YD ND ZD SGD BD ⊢
                  have hZ := ZD.out; have hY := YD.out; have hN := ND.out
                  obtain ⟨_, z0, z1, _, _⟩ := hZ
                  obtain ⟨_, y0, y1, fy0, fy1⟩ := hY
                  obtain ⟨_, n0, n1, _, _⟩ := hN
                  have e0 := SGD.out.2.2 (k * 5); have e1 := SGD.out.2.2 (k * 5 + 1); have e2 := SGD.out.2.2 (k * 5 + 2); have e3 := SGD.out.2.2 (k * 5 + 3); have e4 := SGD.out.2.2 (k * 5 + 4)
                  have ng1 : ¬ g = ba := by have := GLT.out; omega
                  have ng2 : ¬ ba = g := by have := GLT.out; omega
                  have ng3 : ¬ g = w.heap.size + 1 + 1 := by have := GLT.out; omega
                  have ng4 : ¬ w.heap.size + 1 + 1 = g := by have := GLT.out; omega
                  by_cases c1 : m < 16
                  · have HNB := Lib.hid (show ¬ (me = 16 ∧ m = 16) from fun h => by omega)
                    go_wp2_with fail
                    have KG := (((((Keep.setCell (fun x => x = g) wd g (k * 5) (.int .i64 fe) rfl).trans (Keep.setCell (fun x => x = g) _ g (k * 5 + 1) (.int .u32 (ae : Int)) rfl)).trans (Keep.setCell (fun x => x = g) _ g (k * 5 + 2) (.int .i64 le) rfl)).trans (Keep.setCell (fun x => x = g) _ g (k * 5 + 3) (.int .i64 m) rfl)).trans (Keep.setCell (fun x => x = g) _ g (k * 5 + 4) (.int .i64 t) rfl))
                    have hS5 := SGD.out.2.1.setRt k hkn ⟨⟨fe, (ae, le), m⟩, t⟩ rfl rfl
                    have hg3 := GLT.out
                    have Y6 := YD.out.ofBlock (KG.block (w.heap.size + 1 + 1) YD.out.lt (by omega)) KG.size
                    have KY := (Keep.setCell (fun x => x = w.heap.size + 1 + 1) (((((wd.setCell ⟨g, k * 5, none⟩ (.int .i64 fe)).setCell ⟨g, k * 5 + 1, none⟩ (.int .u32 (ae : Int))).setCell ⟨g, k * 5 + 2, none⟩ (.int .i64 le)).setCell ⟨g, k * 5 + 3, none⟩ (.int .i64 m)).setCell ⟨g, k * 5 + 4, none⟩ (.int .i64 t)) (w.heap.size + 1 + 1) 0 (.int .i64 t) rfl).trans (Keep.setCell (fun x => x = w.heap.size + 1 + 1) _ (w.heap.size + 1 + 1) 1 (.slice (some ⟨g, 0, none⟩) A.length c3) rfl)
                    have eb := KY.block g (Nat.lt_of_lt_of_le SGD.out.1 KG.size) (by omega)
                    have hLS := learn_set ⟨⟨fe, (ae, le), m⟩, t⟩ A k HKA.out hkn HSM.out (by rw [← HEK.out]; exact HNB.out)
                    refine bodyPost_lt Tryd.results6 rfl rfl (Y6.set _ _) rfl (LtTo.good HOK0.out (M' := A.set k ⟨⟨fe, (ae, le), m⟩, t⟩) (Or.inr ⟨g, c3, by rw [List.length_set], by omega, Nat.lt_of_lt_of_le (Nat.lt_of_lt_of_le SGD.out.1 KG.size) KY.size, by rw [List.length_set]; exact HC3.out, hS5.ofBlock eb, fun o => ?_⟩) (List.Perm.of_eq (by rw [← HAE.out]; exact hLS.symm)) (by rw [← hLS]; exact HSA.out.learnt HSM.out hkn) ((BD.out.trans (KG.below (fun b e => by omega) BD.out.size)).trans (KY.below (fun b e => by omega) (Nat.le_trans BD.out.size KG.size))))
                    exact (World.frozen?_of_block (w := _) (a := ⟨g, o, none⟩) eb).trans (by simp only [World.frozen?_setCell]; exact SGD.out.2.2 o)
                  · have HM16 := Lib.hid (show m = 16 by omega)
                    by_cases c2 : me < 16
                    · have HNB := Lib.hid (show ¬ (me = 16 ∧ m = 16) from fun h => by omega)
                      go_wp2_with fail
                      have KG := (((((Keep.setCell (fun x => x = g) wd g (k * 5) (.int .i64 fe) rfl).trans (Keep.setCell (fun x => x = g) _ g (k * 5 + 1) (.int .u32 (ae : Int)) rfl)).trans (Keep.setCell (fun x => x = g) _ g (k * 5 + 2) (.int .i64 le) rfl)).trans (Keep.setCell (fun x => x = g) _ g (k * 5 + 3) (.int .i64 m) rfl)).trans (Keep.setCell (fun x => x = g) _ g (k * 5 + 4) (.int .i64 t) rfl))
                      have hS5 := SGD.out.2.1.setRt k hkn ⟨⟨fe, (ae, le), m⟩, t⟩ rfl rfl
                      have hg3 := GLT.out
                      have Y6 := YD.out.ofBlock (KG.block (w.heap.size + 1 + 1) YD.out.lt (by omega)) KG.size
                      have KY := (Keep.setCell (fun x => x = w.heap.size + 1 + 1) (((((wd.setCell ⟨g, k * 5, none⟩ (.int .i64 fe)).setCell ⟨g, k * 5 + 1, none⟩ (.int .u32 (ae : Int))).setCell ⟨g, k * 5 + 2, none⟩ (.int .i64 le)).setCell ⟨g, k * 5 + 3, none⟩ (.int .i64 m)).setCell ⟨g, k * 5 + 4, none⟩ (.int .i64 t)) (w.heap.size + 1 + 1) 0 (.int .i64 t) rfl).trans (Keep.setCell (fun x => x = w.heap.size + 1 + 1) _ (w.heap.size + 1 + 1) 1 (.slice (some ⟨g, 0, none⟩) A.length c3) rfl)
                      have eb := KY.block g (Nat.lt_of_lt_of_le SGD.out.1 KG.size) (by omega)
                      have hLS := learn_set ⟨⟨fe, (ae, le), m⟩, t⟩ A k HKA.out hkn HSM.out (by rw [← HEK.out]; exact HNB.out)
                      refine bodyPost_lt Tryd.results6 rfl rfl (Y6.set _ _) rfl (LtTo.good HOK0.out (M' := A.set k ⟨⟨fe, (ae, le), m⟩, t⟩) (Or.inr ⟨g, c3, by rw [List.length_set], by omega, Nat.lt_of_lt_of_le (Nat.lt_of_lt_of_le SGD.out.1 KG.size) KY.size, by rw [List.length_set]; exact HC3.out, hS5.ofBlock eb, fun o => ?_⟩) (List.Perm.of_eq (by rw [← HAE.out]; exact hLS.symm)) (by rw [← hLS]; exact HSA.out.learnt HSM.out hkn) ((BD.out.trans (KG.below (fun b e => by omega) BD.out.size)).trans (KY.below (fun b e => by omega) (Nat.le_trans BD.out.size KG.size))))
                      exact (World.frozen?_of_block (w := _) (a := ⟨g, o, none⟩) eb).trans (by simp only [World.frozen?_setCell]; exact SGD.out.2.2 o)
                    · have HME := Lib.hid (show me = 16 by have := HLE.out A[k]! (by rw [getElem!_pos A k hkn]; exact List.getElem_mem hkn); rw [← HEK.out] at this; dsimp only at this; omega)
                      go_wp2_with fail
                      have KY := (Keep.setCell (fun x => x = w.heap.size + 1 + 1) wd (w.heap.size + 1 + 1) 0 (.int .i64 t) rfl).trans (Keep.setCell (fun x => x = w.heap.size + 1 + 1) _ (w.heap.size + 1 + 1) 1 (.slice (some ⟨g, 0, none⟩) A.length c3) rfl)
                      have hg3 := GLT.out
                      have eb := KY.block g SGD.out.1 (by omega)
                      have hLS := learn_same ⟨⟨fe, (ae, le), m⟩, t⟩ A k HKA.out hkn HSM.out (by rw [← HEK.out]; exact HME.out) HM16.out
                      refine bodyPost_lt Tryd.results6 rfl rfl (YD.out.set _ _) rfl (LtTo.good HOK0.out (M' := A) (Or.inr ⟨g, c3, rfl, by omega, Nat.lt_of_lt_of_le SGD.out.1 KY.size, HC3.out, SGD.out.2.1.ofBlock eb, fun o => ?_⟩) (List.Perm.of_eq (by rw [← HAE.out]; exact hLS.symm)) HSA.out (BD.out.trans (KY.below (fun b e => by omega) BD.out.size)))
                      exact (World.frozen?_of_block (w := wd) (a := ⟨g, o, none⟩) eb).trans (SGD.out.2.2 o)
                · have t1 : (le == l) = false := by simpa using h3
                  have HMISS := Lib.hid (show sm ⟨⟨fe, (ae, l), m⟩, t⟩ A[k]! = false by rw [← HEK.out]; exact decide_eq_false fun h => h3 (congrArg Prod.snd h.2))
                  clear h3
                  go_wp2_with fail
                  refine wp_region_held_drew (S := (fun w' => w'.cell? ⟨ba, 1, none⟩ = some (.slice (some ⟨g, 0, none⟩) A.length c3) ∧ w'.cell? ⟨g, k * 5, none⟩ = some (.int .i64 fe) ∧ w'.cell? ⟨g, k * 5 + 1, none⟩ = some (.int .u32 (ae : Int)) ∧ w'.cell? ⟨g, k * 5 + 2, none⟩ = some (.int .i64 le) ∧ w'.cell? ⟨w.heap.size + 1, 0, none⟩ = some (.int .u32 (ae : Int)) ∧ w'.cell? ⟨w.heap.size + 1, 1, none⟩ = some (.int .i64 l))) (by kernel_rfl) ⟨z1, a0, a1, a2, n0, n1⟩ (fun hHeld => ?_)
                  refine wpAnyH_take (i := 0) (oi := { dst := some 45, op := Op.fieldAddr 29 (Operand.tmp 12) 1, type := 0, pos := "rest.go:58", after := #[], guard := none }) (v := ?_) rfl (by kernel_rfl) (by kernel_rfl) (by kernel_rfl) (fun _ _ _ h => h) (Or.inl ⟨by rfl, ?_⟩) hHeld ?_
                  rotate_left
                  · (intro w hSw; (try dsimp only at hSw); go_simp; first | done | with_reducible rfl)
                  simp only [Act.put, List.setIfInBounds_toArray, List.set_cons_zero, List.set_cons_succ]
                  refine wpAnyH_take (i := 1) (oi := { dst := some 46, op := Op.load 27 (Operand.tmp 45), type := 27, pos := "rest.go:58", after := #[{ on := 0, ground := Ground.data }], guard := none }) (v := ?_) rfl (by kernel_rfl) (by kernel_rfl) (by kernel_rfl) (fun _ _ _ h => h) (Or.inl ⟨by rfl, ?_⟩) hHeld ?_
                  rotate_left
                  · (intro w hSw; (try dsimp only at hSw); go_simp; first | done | with_reducible rfl)
                  simp only [Act.put, List.setIfInBounds_toArray, List.set_cons_zero, List.set_cons_succ]
                  refine wpAnyH_take (i := 2) (oi := { dst := some 47, op := Op.move (Operand.tmp 13), type := 3, pos := "rest.go:58", after := #[], guard := none }) (v := ?_) rfl (by kernel_rfl) (by kernel_rfl) (by kernel_rfl) (fun _ _ _ h => h) (Or.inl ⟨by rfl, ?_⟩) hHeld ?_
                  rotate_left
                  · (intro w hSw; (try dsimp only at hSw); go_simp; first | done | with_reducible rfl)
                  simp only [Act.put, List.setIfInBounds_toArray, List.set_cons_zero, List.set_cons_succ]
                  refine wpAnyH_take (i := 3) (oi := { dst := some 48, op := Op.indexAddr 27 (Operand.tmp 46) (Operand.tmp 47), type := 0, pos := "rest.go:58", after := #[{ on := 1, ground := Ground.data }, { on := 2, ground := Ground.data }], guard := none }) (v := ?_) rfl (by kernel_rfl) (by kernel_rfl) (by kernel_rfl) (fun _ _ _ h => h) (Or.inl ⟨by rfl, ?_⟩) hHeld ?_
                  rotate_left
                  · (intro w hSw; (try dsimp only at hSw); go_simp; first | done | with_reducible rfl)
                  simp only [Act.put, List.setIfInBounds_toArray, List.set_cons_zero, List.set_cons_succ]
                  refine wpAnyH_take (i := 4) (oi := { dst := some 49, op := Op.fieldAddr 59 (Operand.tmp 48) 0, type := 0, pos := "rest.go:58", after := #[{ on := 3, ground := Ground.data }], guard := none }) (v := ?_) rfl (by kernel_rfl) (by kernel_rfl) (by kernel_rfl) (fun _ _ _ h => h) (Or.inl ⟨by rfl, ?_⟩) hHeld ?_
                  rotate_left
                  · (intro w hSw; (try dsimp only at hSw); go_simp; first | done | with_reducible rfl)
                  simp only [Act.put, List.setIfInBounds_toArray, List.set_cons_zero, List.set_cons_succ]
                  refine wpAnyH_take (i := 5) (oi := { dst := some 50, op := Op.fieldAddr 53 (Operand.tmp 49) 0, type := 0, pos := "rest.go:58", after := #[{ on := 4, ground := Ground.data }], guard := none }) (v := ?_) rfl (by kernel_rfl) (by kernel_rfl) (by kernel_rfl) (fun _ _ _ h => h) (Or.inl ⟨by rfl, ?_⟩) hHeld ?_
                  rotate_left
                  · (intro w hSw; (try dsimp only at hSw); go_simp; first | done | with_reducible rfl)
                  simp only [Act.put, List.setIfInBounds_toArray, List.set_cons_zero, List.set_cons_succ]
                  refine wpAnyH_take (i := 6) (oi := { dst := some 51, op := Op.load 3 (Operand.tmp 50), type := 3, pos := "rest.go:58", after := #[{ on := 5, ground := Ground.data }], guard := none }) (v := ?_) rfl (by kernel_rfl) (by kernel_rfl) (by kernel_rfl) (fun _ _ _ h => h) (Or.inl ⟨by rfl, ?_⟩) hHeld ?_
                  rotate_left
                  · (intro w hSw; (try dsimp only at hSw); go_simp; first | done | with_reducible rfl)
                  simp only [Act.put, List.setIfInBounds_toArray, List.set_cons_zero, List.set_cons_succ]
                  refine wpAnyH_take (i := 7) (oi := { dst := some 52, op := Op.move (Operand.tmp 1), type := 3, pos := "rest.go:58", after := #[], guard := none }) (v := ?_) rfl (by kernel_rfl) (by kernel_rfl) (by kernel_rfl) (fun _ _ _ h => h) (Or.inl ⟨by rfl, ?_⟩) hHeld ?_
                  rotate_left
                  · (intro w hSw; (try dsimp only at hSw); go_simp; first | done | with_reducible rfl)
                  simp only [Act.put, List.setIfInBounds_toArray, List.set_cons_zero, List.set_cons_succ]
                  refine wpAnyH_take (i := 8) (oi := { dst := some 53, op := Op.binOp BinOp.eql 3 (Operand.tmp 51) (Operand.tmp 52) 3, type := 4, pos := "rest.go:58", after := #[{ on := 6, ground := Ground.data }, { on := 7, ground := Ground.data }], guard := none }) (v := ?_) rfl (by kernel_rfl) (by kernel_rfl) (by kernel_rfl) (fun _ _ _ h => h) (Or.inl ⟨by rfl, ?_⟩) hHeld ?_
                  rotate_left
                  · (intro w hSw; (try dsimp only at hSw); go_simp; first | done | with_reducible rfl)
                  simp only [Act.put, List.setIfInBounds_toArray, List.set_cons_zero, List.set_cons_succ]
                  refine wpAnyH_take (i := 9) (oi := { dst := some 54, op := Op.move (Operand.tmp 53), type := 4, pos := "rest.go:58", after := #[{ on := 8, ground := Ground.data }], guard := none }) (v := ?_) rfl (by kernel_rfl) (by kernel_rfl) (by kernel_rfl) (fun _ _ _ h => h) (Or.inl ⟨by rfl, ?_⟩) hHeld ?_
                  rotate_left
                  · (intro w hSw; (try dsimp only at hSw); go_simp; first | done | with_reducible rfl)
                  simp only [Act.put, List.setIfInBounds_toArray, List.set_cons_zero, List.set_cons_succ]
                  refine wpAnyH_take (i := 10) (oi := { dst := some 55, op := Op.fieldAddr 29 (Operand.tmp 12) 1, type := 0, pos := "rest.go:58", after := #[{ on := 9, ground := Ground.guard }], guard := some (9, true) }) (v := ?_) rfl (by kernel_rfl) (by kernel_rfl) (by kernel_rfl) (fun _ _ _ h => h) (Or.inl ⟨by rfl, ?_⟩) hHeld ?_
                  rotate_left
                  · (intro w hSw; (try dsimp only at hSw); go_simp; first | done | with_reducible rfl)
                  simp only [Act.put, List.setIfInBounds_toArray, List.set_cons_zero, List.set_cons_succ]
                  refine wpAnyH_take (i := 11) (oi := { dst := some 56, op := Op.load 27 (Operand.tmp 55), type := 27, pos := "rest.go:58", after := #[{ on := 10, ground := Ground.data }, { on := 9, ground := Ground.guard }], guard := some (9, true) }) (v := ?_) rfl (by kernel_rfl) (by kernel_rfl) (by kernel_rfl) (fun _ _ _ h => h) (Or.inl ⟨by rfl, ?_⟩) hHeld ?_
                  rotate_left
                  · (intro w hSw; (try dsimp only at hSw); go_simp; first | done | with_reducible rfl)
                  simp only [Act.put, List.setIfInBounds_toArray, List.set_cons_zero, List.set_cons_succ]
                  refine wpAnyH_take (i := 12) (oi := { dst := some 57, op := Op.move (Operand.tmp 13), type := 3, pos := "rest.go:58", after := #[{ on := 9, ground := Ground.guard }], guard := some (9, true) }) (v := ?_) rfl (by kernel_rfl) (by kernel_rfl) (by kernel_rfl) (fun _ _ _ h => h) (Or.inl ⟨by rfl, ?_⟩) hHeld ?_
                  rotate_left
                  · (intro w hSw; (try dsimp only at hSw); go_simp; first | done | with_reducible rfl)
                  simp only [Act.put, List.setIfInBounds_toArray, List.set_cons_zero, List.set_cons_succ]
                  refine wpAnyH_take (i := 13) (oi := { dst := some 58, op := Op.indexAddr 27 (Operand.tmp 56) (Operand.tmp 57), type := 0, pos := "rest.go:58", after := #[{ on := 11, ground := Ground.data }, { on := 12, ground := Ground.data }, { on := 9, ground := Ground.guard }], guard := some (9, true) }) (v := ?_) rfl (by kernel_rfl) (by kernel_rfl) (by kernel_rfl) (fun _ _ _ h => h) (Or.inl ⟨by rfl, ?_⟩) hHeld ?_
                  rotate_left
                  · (intro w hSw; (try dsimp only at hSw); go_simp; first | done | with_reducible rfl)
                  simp only [Act.put, List.setIfInBounds_toArray, List.set_cons_zero, List.set_cons_succ]
                  refine wpAnyH_take (i := 14) (oi := { dst := some 59, op := Op.fieldAddr 59 (Operand.tmp 58) 0, type := 0, pos := "rest.go:58", after := #[{ on := 13, ground := Ground.data }, { on := 9, ground := Ground.guard }], guard := some (9, true) }) (v := ?_) rfl (by kernel_rfl) (by kernel_rfl) (by kernel_rfl) (fun _ _ _ h => h) (Or.inl ⟨by rfl, ?_⟩) hHeld ?_
                  rotate_left
                  · (intro w hSw; (try dsimp only at hSw); go_simp; first | done | with_reducible rfl)
                  simp only [Act.put, List.setIfInBounds_toArray, List.set_cons_zero, List.set_cons_succ]
                  refine wpAnyH_take (i := 15) (oi := { dst := some 60, op := Op.fieldAddr 53 (Operand.tmp 59) 1, type := 0, pos := "rest.go:58", after := #[{ on := 14, ground := Ground.data }, { on := 9, ground := Ground.guard }], guard := some (9, true) }) (v := ?_) rfl (by kernel_rfl) (by kernel_rfl) (by kernel_rfl) (fun _ _ _ h => h) (Or.inl ⟨by rfl, ?_⟩) hHeld ?_
                  rotate_left
                  · (intro w hSw; (try dsimp only at hSw); go_simp; first | done | with_reducible rfl)
                  simp only [Act.put, List.setIfInBounds_toArray, List.set_cons_zero, List.set_cons_succ]
                  refine wpAnyH_take (i := 16) (oi := { dst := some 61, op := Op.load 35 (Operand.tmp 60), type := 35, pos := "rest.go:58", after := #[{ on := 15, ground := Ground.data }, { on := 9, ground := Ground.guard }], guard := some (9, true) }) (v := ?_) rfl (by kernel_rfl) (by kernel_rfl) (by kernel_rfl) (fun _ _ _ h => h) (Or.inl ⟨by rfl, ?_⟩) hHeld ?_
                  rotate_left
                  · (intro w hSw; (try dsimp only at hSw); go_simp; first | done | with_reducible rfl)
                  simp only [Act.put, List.setIfInBounds_toArray, List.set_cons_zero, List.set_cons_succ]
                  refine wpAnyH_take (i := 17) (oi := { dst := some 62, op := Op.load 35 (Operand.tmp 7), type := 35, pos := "rest.go:58", after := #[{ on := 9, ground := Ground.guard }], guard := some (9, true) }) (v := ?_) rfl (by kernel_rfl) (by kernel_rfl) (by kernel_rfl) (fun _ _ _ h => h) (Or.inl ⟨by rfl, ?_⟩) hHeld ?_
                  rotate_left
                  · (intro w hSw; (try dsimp only at hSw); go_simp; first | done | with_reducible rfl)
                  simp only [Act.put, List.setIfInBounds_toArray, List.set_cons_zero, List.set_cons_succ]
                  refine wpAnyH_take (i := 18) (oi := { dst := some 63, op := Op.binOp BinOp.eql 35 (Operand.tmp 61) (Operand.tmp 62) 35, type := 4, pos := "rest.go:58", after := #[{ on := 16, ground := Ground.data }, { on := 17, ground := Ground.data }, { on := 9, ground := Ground.guard }], guard := some (9, true) }) (v := ?_) rfl (by kernel_rfl) (by kernel_rfl) (by kernel_rfl) (fun _ _ _ h => h) (Or.inl ⟨by rfl, ?_⟩) hHeld ?_
                  rotate_left
                  · (intro w hSw; (try dsimp only at hSw); go_simp; first | done | with_reducible rfl)
                  simp only [Act.put, List.setIfInBounds_toArray, List.set_cons_zero, List.set_cons_succ]
                  refine wpAnyH_take (i := 19) (oi := { dst := some 64, op := Op.pick (Operand.tmp 54) (Operand.tmp 63) (Operand.const (Value.bool false)), type := 4, pos := "rest.go:58", after := #[{ on := 9, ground := Ground.data }, { on := 18, ground := Ground.data }], guard := none }) (v := ?_) rfl (by kernel_rfl) (by kernel_rfl) (by kernel_rfl) (fun _ _ _ h => h) (Or.inl ⟨by rfl, ?_⟩) hHeld ?_
                  rotate_left
                  · (intro w hSw; (try dsimp only at hSw); go_simp; first | done | with_reducible rfl)
                  simp only [Act.put, List.setIfInBounds_toArray, List.set_cons_zero, List.set_cons_succ]
                  refine wpAnyH_done (by kernel_rfl) ?_ _
                  clear hHeld
                  go_wp2_with fail
                  go_roundw
                  case rel => exact ⟨k + 1, by go_num, by omega, Lib.hid hB.out.drew, Lib.hid fun j hj => (Nat.lt_succ_iff_lt_or_eq.1 hj).elim (hJ.out j) (fun e => e ▸ HMISS.out)⟩
                  case measure => simp [RowKit.intOf]; omega
              · have t1 : ((ae : Int) == (a : Int)) = false := by
                  have : ¬ (ae : Int) = a := by omega
                  simpa using this
                have HMISS := Lib.hid (show sm ⟨⟨fe, (a, l), m⟩, t⟩ A[k]! = false by rw [← HEK.out]; exact decide_eq_false fun h => h2 (congrArg Prod.fst h.2))
                clear h2
                go_wp2_with fail
                refine wp_region_held_drew (S := (fun w' => w'.cell? ⟨ba, 1, none⟩ = some (.slice (some ⟨g, 0, none⟩) A.length c3) ∧ w'.cell? ⟨g, k * 5, none⟩ = some (.int .i64 fe) ∧ w'.cell? ⟨g, k * 5 + 1, none⟩ = some (.int .u32 (ae : Int)) ∧ w'.cell? ⟨g, k * 5 + 2, none⟩ = some (.int .i64 le) ∧ w'.cell? ⟨w.heap.size + 1, 0, none⟩ = some (.int .u32 (a : Int)) ∧ w'.cell? ⟨w.heap.size + 1, 1, none⟩ = some (.int .i64 l))) (by kernel_rfl) ⟨z1, a0, a1, a2, n0, n1⟩ (fun hHeld => ?_)
                refine wpAnyH_take (i := 0) (oi := { dst := some 45, op := Op.fieldAddr 29 (Operand.tmp 12) 1, type := 0, pos := "rest.go:58", after := #[], guard := none }) (v := ?_) rfl (by kernel_rfl) (by kernel_rfl) (by kernel_rfl) (fun _ _ _ h => h) (Or.inl ⟨by rfl, ?_⟩) hHeld ?_
                rotate_left
                · (intro w hSw; (try dsimp only at hSw); go_simp; first | done | with_reducible rfl)
                simp only [Act.put, List.setIfInBounds_toArray, List.set_cons_zero, List.set_cons_succ]
                refine wpAnyH_take (i := 1) (oi := { dst := some 46, op := Op.load 27 (Operand.tmp 45), type := 27, pos := "rest.go:58", after := #[{ on := 0, ground := Ground.data }], guard := none }) (v := ?_) rfl (by kernel_rfl) (by kernel_rfl) (by kernel_rfl) (fun _ _ _ h => h) (Or.inl ⟨by rfl, ?_⟩) hHeld ?_
                rotate_left
                · (intro w hSw; (try dsimp only at hSw); go_simp; first | done | with_reducible rfl)
                simp only [Act.put, List.setIfInBounds_toArray, List.set_cons_zero, List.set_cons_succ]
                refine wpAnyH_take (i := 2) (oi := { dst := some 47, op := Op.move (Operand.tmp 13), type := 3, pos := "rest.go:58", after := #[], guard := none }) (v := ?_) rfl (by kernel_rfl) (by kernel_rfl) (by kernel_rfl) (fun _ _ _ h => h) (Or.inl ⟨by rfl, ?_⟩) hHeld ?_
                rotate_left
                · (intro w hSw; (try dsimp only at hSw); go_simp; first | done | with_reducible rfl)
                simp only [Act.put, List.setIfInBounds_toArray, List.set_cons_zero, List.set_cons_succ]
                refine wpAnyH_take (i := 3) (oi := { dst := some 48, op := Op.indexAddr 27 (Operand.tmp 46) (Operand.tmp 47), type := 0, pos := "rest.go:58", after := #[{ on := 1, ground := Ground.data }, { on := 2, ground := Ground.data }], guard := none }) (v := ?_) rfl (by kernel_rfl) (by kernel_rfl) (by kernel_rfl) (fun _ _ _ h => h) (Or.inl ⟨by rfl, ?_⟩) hHeld ?_
                rotate_left
                · (intro w hSw; (try dsimp only at hSw); go_simp; first | done | with_reducible rfl)
                simp only [Act.put, List.setIfInBounds_toArray, List.set_cons_zero, List.set_cons_succ]
                refine wpAnyH_take (i := 4) (oi := { dst := some 49, op := Op.fieldAddr 59 (Operand.tmp 48) 0, type := 0, pos := "rest.go:58", after := #[{ on := 3, ground := Ground.data }], guard := none }) (v := ?_) rfl (by kernel_rfl) (by kernel_rfl) (by kernel_rfl) (fun _ _ _ h => h) (Or.inl ⟨by rfl, ?_⟩) hHeld ?_
                rotate_left
                · (intro w hSw; (try dsimp only at hSw); go_simp; first | done | with_reducible rfl)
                simp only [Act.put, List.setIfInBounds_toArray, List.set_cons_zero, List.set_cons_succ]
                refine wpAnyH_take (i := 5) (oi := { dst := some 50, op := Op.fieldAddr 53 (Operand.tmp 49) 0, type := 0, pos := "rest.go:58", after := #[{ on := 4, ground := Ground.data }], guard := none }) (v := ?_) rfl (by kernel_rfl) (by kernel_rfl) (by kernel_rfl) (fun _ _ _ h => h) (Or.inl ⟨by rfl, ?_⟩) hHeld ?_
                rotate_left
                · (intro w hSw; (try dsimp only at hSw); go_simp; first | done | with_reducible rfl)
                simp only [Act.put, List.setIfInBounds_toArray, List.set_cons_zero, List.set_cons_succ]
                refine wpAnyH_take (i := 6) (oi := { dst := some 51, op := Op.load 3 (Operand.tmp 50), type := 3, pos := "rest.go:58", after := #[{ on := 5, ground := Ground.data }], guard := none }) (v := ?_) rfl (by kernel_rfl) (by kernel_rfl) (by kernel_rfl) (fun _ _ _ h => h) (Or.inl ⟨by rfl, ?_⟩) hHeld ?_
                rotate_left
                · (intro w hSw; (try dsimp only at hSw); go_simp; first | done | with_reducible rfl)
                simp only [Act.put, List.setIfInBounds_toArray, List.set_cons_zero, List.set_cons_succ]
                refine wpAnyH_take (i := 7) (oi := { dst := some 52, op := Op.move (Operand.tmp 1), type := 3, pos := "rest.go:58", after := #[], guard := none }) (v := ?_) rfl (by kernel_rfl) (by kernel_rfl) (by kernel_rfl) (fun _ _ _ h => h) (Or.inl ⟨by rfl, ?_⟩) hHeld ?_
                rotate_left
                · (intro w hSw; (try dsimp only at hSw); go_simp; first | done | with_reducible rfl)
                simp only [Act.put, List.setIfInBounds_toArray, List.set_cons_zero, List.set_cons_succ]
                refine wpAnyH_take (i := 8) (oi := { dst := some 53, op := Op.binOp BinOp.eql 3 (Operand.tmp 51) (Operand.tmp 52) 3, type := 4, pos := "rest.go:58", after := #[{ on := 6, ground := Ground.data }, { on := 7, ground := Ground.data }], guard := none }) (v := ?_) rfl (by kernel_rfl) (by kernel_rfl) (by kernel_rfl) (fun _ _ _ h => h) (Or.inl ⟨by rfl, ?_⟩) hHeld ?_
                rotate_left
                · (intro w hSw; (try dsimp only at hSw); go_simp; first | done | with_reducible rfl)
                simp only [Act.put, List.setIfInBounds_toArray, List.set_cons_zero, List.set_cons_succ]
                refine wpAnyH_take (i := 9) (oi := { dst := some 54, op := Op.move (Operand.tmp 53), type := 4, pos := "rest.go:58", after := #[{ on := 8, ground := Ground.data }], guard := none }) (v := ?_) rfl (by kernel_rfl) (by kernel_rfl) (by kernel_rfl) (fun _ _ _ h => h) (Or.inl ⟨by rfl, ?_⟩) hHeld ?_
                rotate_left
                · (intro w hSw; (try dsimp only at hSw); go_simp; first | done | with_reducible rfl)
                simp only [Act.put, List.setIfInBounds_toArray, List.set_cons_zero, List.set_cons_succ]
                refine wpAnyH_take (i := 10) (oi := { dst := some 55, op := Op.fieldAddr 29 (Operand.tmp 12) 1, type := 0, pos := "rest.go:58", after := #[{ on := 9, ground := Ground.guard }], guard := some (9, true) }) (v := ?_) rfl (by kernel_rfl) (by kernel_rfl) (by kernel_rfl) (fun _ _ _ h => h) (Or.inl ⟨by rfl, ?_⟩) hHeld ?_
                rotate_left
                · (intro w hSw; (try dsimp only at hSw); go_simp; first | done | with_reducible rfl)
                simp only [Act.put, List.setIfInBounds_toArray, List.set_cons_zero, List.set_cons_succ]
                refine wpAnyH_take (i := 11) (oi := { dst := some 56, op := Op.load 27 (Operand.tmp 55), type := 27, pos := "rest.go:58", after := #[{ on := 10, ground := Ground.data }, { on := 9, ground := Ground.guard }], guard := some (9, true) }) (v := ?_) rfl (by kernel_rfl) (by kernel_rfl) (by kernel_rfl) (fun _ _ _ h => h) (Or.inl ⟨by rfl, ?_⟩) hHeld ?_
                rotate_left
                · (intro w hSw; (try dsimp only at hSw); go_simp; first | done | with_reducible rfl)
                simp only [Act.put, List.setIfInBounds_toArray, List.set_cons_zero, List.set_cons_succ]
                refine wpAnyH_take (i := 12) (oi := { dst := some 57, op := Op.move (Operand.tmp 13), type := 3, pos := "rest.go:58", after := #[{ on := 9, ground := Ground.guard }], guard := some (9, true) }) (v := ?_) rfl (by kernel_rfl) (by kernel_rfl) (by kernel_rfl) (fun _ _ _ h => h) (Or.inl ⟨by rfl, ?_⟩) hHeld ?_
                rotate_left
                · (intro w hSw; (try dsimp only at hSw); go_simp; first | done | with_reducible rfl)
                simp only [Act.put, List.setIfInBounds_toArray, List.set_cons_zero, List.set_cons_succ]
                refine wpAnyH_take (i := 13) (oi := { dst := some 58, op := Op.indexAddr 27 (Operand.tmp 56) (Operand.tmp 57), type := 0, pos := "rest.go:58", after := #[{ on := 11, ground := Ground.data }, { on := 12, ground := Ground.data }, { on := 9, ground := Ground.guard }], guard := some (9, true) }) (v := ?_) rfl (by kernel_rfl) (by kernel_rfl) (by kernel_rfl) (fun _ _ _ h => h) (Or.inl ⟨by rfl, ?_⟩) hHeld ?_
                rotate_left
                · (intro w hSw; (try dsimp only at hSw); go_simp; first | done | with_reducible rfl)
                simp only [Act.put, List.setIfInBounds_toArray, List.set_cons_zero, List.set_cons_succ]
                refine wpAnyH_take (i := 14) (oi := { dst := some 59, op := Op.fieldAddr 59 (Operand.tmp 58) 0, type := 0, pos := "rest.go:58", after := #[{ on := 13, ground := Ground.data }, { on := 9, ground := Ground.guard }], guard := some (9, true) }) (v := ?_) rfl (by kernel_rfl) (by kernel_rfl) (by kernel_rfl) (fun _ _ _ h => h) (Or.inl ⟨by rfl, ?_⟩) hHeld ?_
                rotate_left
                · (intro w hSw; (try dsimp only at hSw); go_simp; first | done | with_reducible rfl)
                simp only [Act.put, List.setIfInBounds_toArray, List.set_cons_zero, List.set_cons_succ]
                refine wpAnyH_take (i := 15) (oi := { dst := some 60, op := Op.fieldAddr 53 (Operand.tmp 59) 1, type := 0, pos := "rest.go:58", after := #[{ on := 14, ground := Ground.data }, { on := 9, ground := Ground.guard }], guard := some (9, true) }) (v := ?_) rfl (by kernel_rfl) (by kernel_rfl) (by kernel_rfl) (fun _ _ _ h => h) (Or.inl ⟨by rfl, ?_⟩) hHeld ?_
                rotate_left
                · (intro w hSw; (try dsimp only at hSw); go_simp; first | done | with_reducible rfl)
                simp only [Act.put, List.setIfInBounds_toArray, List.set_cons_zero, List.set_cons_succ]
                refine wpAnyH_take (i := 16) (oi := { dst := some 61, op := Op.load 35 (Operand.tmp 60), type := 35, pos := "rest.go:58", after := #[{ on := 15, ground := Ground.data }, { on := 9, ground := Ground.guard }], guard := some (9, true) }) (v := ?_) rfl (by kernel_rfl) (by kernel_rfl) (by kernel_rfl) (fun _ _ _ h => h) (Or.inl ⟨by rfl, ?_⟩) hHeld ?_
                rotate_left
                · (intro w hSw; (try dsimp only at hSw); go_simp; first | done | with_reducible rfl)
                simp only [Act.put, List.setIfInBounds_toArray, List.set_cons_zero, List.set_cons_succ]
                refine wpAnyH_take (i := 17) (oi := { dst := some 62, op := Op.load 35 (Operand.tmp 7), type := 35, pos := "rest.go:58", after := #[{ on := 9, ground := Ground.guard }], guard := some (9, true) }) (v := ?_) rfl (by kernel_rfl) (by kernel_rfl) (by kernel_rfl) (fun _ _ _ h => h) (Or.inl ⟨by rfl, ?_⟩) hHeld ?_
                rotate_left
                · (intro w hSw; (try dsimp only at hSw); go_simp; first | done | with_reducible rfl)
                simp only [Act.put, List.setIfInBounds_toArray, List.set_cons_zero, List.set_cons_succ]
                refine wpAnyH_take (i := 18) (oi := { dst := some 63, op := Op.binOp BinOp.eql 35 (Operand.tmp 61) (Operand.tmp 62) 35, type := 4, pos := "rest.go:58", after := #[{ on := 16, ground := Ground.data }, { on := 17, ground := Ground.data }, { on := 9, ground := Ground.guard }], guard := some (9, true) }) (v := ?_) rfl (by kernel_rfl) (by kernel_rfl) (by kernel_rfl) (fun _ _ _ h => h) (Or.inl ⟨by rfl, ?_⟩) hHeld ?_
                rotate_left
                · (intro w hSw; (try dsimp only at hSw); go_simp; first | done | with_reducible rfl)
                simp only [Act.put, List.setIfInBounds_toArray, List.set_cons_zero, List.set_cons_succ]
                refine wpAnyH_take (i := 19) (oi := { dst := some 64, op := Op.pick (Operand.tmp 54) (Operand.tmp 63) (Operand.const (Value.bool false)), type := 4, pos := "rest.go:58", after := #[{ on := 9, ground := Ground.data }, { on := 18, ground := Ground.data }], guard := none }) (v := ?_) rfl (by kernel_rfl) (by kernel_rfl) (by kernel_rfl) (fun _ _ _ h => h) (Or.inl ⟨by rfl, ?_⟩) hHeld ?_
                rotate_left
                · (intro w hSw; (try dsimp only at hSw); go_simp; first | done | with_reducible rfl)
                simp only [Act.put, List.setIfInBounds_toArray, List.set_cons_zero, List.set_cons_succ]
                refine wpAnyH_done (by kernel_rfl) ?_ _
                clear hHeld
                go_wp2_with fail
                go_roundw
                case rel => exact ⟨k + 1, by go_num, by omega, Lib.hid hB.out.drew, Lib.hid fun j hj => (Nat.lt_succ_iff_lt_or_eq.1 hj).elim (hJ.out j) (fun e => e ▸ HMISS.out)⟩
                case measure => simp [RowKit.intOf]; omega
            · have t1 : (fe == f) = false := by simpa using h1
              have HMISS := Lib.hid (show sm ⟨⟨f, (a, l), m⟩, t⟩ A[k]! = false by rw [← HEK.out]; exact decide_eq_false fun h => h1 h.1)
              clear h1
              go_wp2_with fail
              refine wp_region_held_drew (S := (fun w' => w'.cell? ⟨ba, 1, none⟩ = some (.slice (some ⟨g, 0, none⟩) A.length c3) ∧ w'.cell? ⟨g, k * 5, none⟩ = some (.int .i64 fe) ∧ w'.cell? ⟨g, k * 5 + 1, none⟩ = some (.int .u32 (ae : Int)) ∧ w'.cell? ⟨g, k * 5 + 2, none⟩ = some (.int .i64 le) ∧ w'.cell? ⟨w.heap.size + 1, 0, none⟩ = some (.int .u32 (a : Int)) ∧ w'.cell? ⟨w.heap.size + 1, 1, none⟩ = some (.int .i64 l))) (by kernel_rfl) ⟨z1, a0, a1, a2, n0, n1⟩ (fun hHeld => ?_)
              refine wpAnyH_take (i := 0) (oi := { dst := some 45, op := Op.fieldAddr 29 (Operand.tmp 12) 1, type := 0, pos := "rest.go:58", after := #[], guard := none }) (v := ?_) rfl (by kernel_rfl) (by kernel_rfl) (by kernel_rfl) (fun _ _ _ h => h) (Or.inl ⟨by rfl, ?_⟩) hHeld ?_
              rotate_left
              · (intro w hSw; (try dsimp only at hSw); go_simp; first | done | with_reducible rfl)
              simp only [Act.put, List.setIfInBounds_toArray, List.set_cons_zero, List.set_cons_succ]
              refine wpAnyH_take (i := 1) (oi := { dst := some 46, op := Op.load 27 (Operand.tmp 45), type := 27, pos := "rest.go:58", after := #[{ on := 0, ground := Ground.data }], guard := none }) (v := ?_) rfl (by kernel_rfl) (by kernel_rfl) (by kernel_rfl) (fun _ _ _ h => h) (Or.inl ⟨by rfl, ?_⟩) hHeld ?_
              rotate_left
              · (intro w hSw; (try dsimp only at hSw); go_simp; first | done | with_reducible rfl)
              simp only [Act.put, List.setIfInBounds_toArray, List.set_cons_zero, List.set_cons_succ]
              refine wpAnyH_take (i := 2) (oi := { dst := some 47, op := Op.move (Operand.tmp 13), type := 3, pos := "rest.go:58", after := #[], guard := none }) (v := ?_) rfl (by kernel_rfl) (by kernel_rfl) (by kernel_rfl) (fun _ _ _ h => h) (Or.inl ⟨by rfl, ?_⟩) hHeld ?_
              rotate_left
              · (intro w hSw; (try dsimp only at hSw); go_simp; first | done | with_reducible rfl)
              simp only [Act.put, List.setIfInBounds_toArray, List.set_cons_zero, List.set_cons_succ]
              refine wpAnyH_take (i := 3) (oi := { dst := some 48, op := Op.indexAddr 27 (Operand.tmp 46) (Operand.tmp 47), type := 0, pos := "rest.go:58", after := #[{ on := 1, ground := Ground.data }, { on := 2, ground := Ground.data }], guard := none }) (v := ?_) rfl (by kernel_rfl) (by kernel_rfl) (by kernel_rfl) (fun _ _ _ h => h) (Or.inl ⟨by rfl, ?_⟩) hHeld ?_
              rotate_left
              · (intro w hSw; (try dsimp only at hSw); go_simp; first | done | with_reducible rfl)
              simp only [Act.put, List.setIfInBounds_toArray, List.set_cons_zero, List.set_cons_succ]
              refine wpAnyH_take (i := 4) (oi := { dst := some 49, op := Op.fieldAddr 59 (Operand.tmp 48) 0, type := 0, pos := "rest.go:58", after := #[{ on := 3, ground := Ground.data }], guard := none }) (v := ?_) rfl (by kernel_rfl) (by kernel_rfl) (by kernel_rfl) (fun _ _ _ h => h) (Or.inl ⟨by rfl, ?_⟩) hHeld ?_
              rotate_left
              · (intro w hSw; (try dsimp only at hSw); go_simp; first | done | with_reducible rfl)
              simp only [Act.put, List.setIfInBounds_toArray, List.set_cons_zero, List.set_cons_succ]
              refine wpAnyH_take (i := 5) (oi := { dst := some 50, op := Op.fieldAddr 53 (Operand.tmp 49) 0, type := 0, pos := "rest.go:58", after := #[{ on := 4, ground := Ground.data }], guard := none }) (v := ?_) rfl (by kernel_rfl) (by kernel_rfl) (by kernel_rfl) (fun _ _ _ h => h) (Or.inl ⟨by rfl, ?_⟩) hHeld ?_
              rotate_left
              · (intro w hSw; (try dsimp only at hSw); go_simp; first | done | with_reducible rfl)
              simp only [Act.put, List.setIfInBounds_toArray, List.set_cons_zero, List.set_cons_succ]
              refine wpAnyH_take (i := 6) (oi := { dst := some 51, op := Op.load 3 (Operand.tmp 50), type := 3, pos := "rest.go:58", after := #[{ on := 5, ground := Ground.data }], guard := none }) (v := ?_) rfl (by kernel_rfl) (by kernel_rfl) (by kernel_rfl) (fun _ _ _ h => h) (Or.inl ⟨by rfl, ?_⟩) hHeld ?_
              rotate_left
              · (intro w hSw; (try dsimp only at hSw); go_simp; first | done | with_reducible rfl)
              simp only [Act.put, List.setIfInBounds_toArray, List.set_cons_zero, List.set_cons_succ]
              refine wpAnyH_take (i := 7) (oi := { dst := some 52, op := Op.move (Operand.tmp 1), type := 3, pos := "rest.go:58", after := #[], guard := none }) (v := ?_) rfl (by kernel_rfl) (by kernel_rfl) (by kernel_rfl) (fun _ _ _ h => h) (Or.inl ⟨by rfl, ?_⟩) hHeld ?_
              rotate_left
              · (intro w hSw; (try dsimp only at hSw); go_simp; first | done | with_reducible rfl)
              simp only [Act.put, List.setIfInBounds_toArray, List.set_cons_zero, List.set_cons_succ]
              refine wpAnyH_take (i := 8) (oi := { dst := some 53, op := Op.binOp BinOp.eql 3 (Operand.tmp 51) (Operand.tmp 52) 3, type := 4, pos := "rest.go:58", after := #[{ on := 6, ground := Ground.data }, { on := 7, ground := Ground.data }], guard := none }) (v := ?_) rfl (by kernel_rfl) (by kernel_rfl) (by kernel_rfl) (fun _ _ _ h => h) (Or.inl ⟨by rfl, ?_⟩) hHeld ?_
              rotate_left
              · (intro w hSw; (try dsimp only at hSw); go_simp; first | done | with_reducible rfl)
              simp only [Act.put, List.setIfInBounds_toArray, List.set_cons_zero, List.set_cons_succ]
              refine wpAnyH_take (i := 9) (oi := { dst := some 54, op := Op.move (Operand.tmp 53), type := 4, pos := "rest.go:58", after := #[{ on := 8, ground := Ground.data }], guard := none }) (v := ?_) rfl (by kernel_rfl) (by kernel_rfl) (by kernel_rfl) (fun _ _ _ h => h) (Or.inl ⟨by rfl, ?_⟩) hHeld ?_
              rotate_left
              · (intro w hSw; (try dsimp only at hSw); go_simp; first | done | with_reducible rfl)
              simp only [Act.put, List.setIfInBounds_toArray, List.set_cons_zero, List.set_cons_succ]
              refine wpAnyH_take (i := 10) (oi := { dst := some 55, op := Op.fieldAddr 29 (Operand.tmp 12) 1, type := 0, pos := "rest.go:58", after := #[{ on := 9, ground := Ground.guard }], guard := some (9, true) }) (v := undef) rfl (by kernel_rfl) (by kernel_rfl) (by kernel_rfl) (fun _ _ _ h => h) (Or.inr ⟨by rfl, rfl⟩) hHeld ?_
              simp only [Act.put, List.setIfInBounds_toArray, List.set_cons_zero, List.set_cons_succ]
              refine wpAnyH_take (i := 11) (oi := { dst := some 56, op := Op.load 27 (Operand.tmp 55), type := 27, pos := "rest.go:58", after := #[{ on := 10, ground := Ground.data }, { on := 9, ground := Ground.guard }], guard := some (9, true) }) (v := undef) rfl (by kernel_rfl) (by kernel_rfl) (by kernel_rfl) (fun _ _ _ h => h) (Or.inr ⟨by rfl, rfl⟩) hHeld ?_
              simp only [Act.put, List.setIfInBounds_toArray, List.set_cons_zero, List.set_cons_succ]
              refine wpAnyH_take (i := 12) (oi := { dst := some 57, op := Op.move (Operand.tmp 13), type := 3, pos := "rest.go:58", after := #[{ on := 9, ground := Ground.guard }], guard := some (9, true) }) (v := undef) rfl (by kernel_rfl) (by kernel_rfl) (by kernel_rfl) (fun _ _ _ h => h) (Or.inr ⟨by rfl, rfl⟩) hHeld ?_
              simp only [Act.put, List.setIfInBounds_toArray, List.set_cons_zero, List.set_cons_succ]
              refine wpAnyH_take (i := 13) (oi := { dst := some 58, op := Op.indexAddr 27 (Operand.tmp 56) (Operand.tmp 57), type := 0, pos := "rest.go:58", after := #[{ on := 11, ground := Ground.data }, { on := 12, ground := Ground.data }, { on := 9, ground := Ground.guard }], guard := some (9, true) }) (v := undef) rfl (by kernel_rfl) (by kernel_rfl) (by kernel_rfl) (fun _ _ _ h => h) (Or.inr ⟨by rfl, rfl⟩) hHeld ?_
              simp only [Act.put, List.setIfInBounds_toArray, List.set_cons_zero, List.set_cons_succ]
              refine wpAnyH_take (i := 14) (oi := { dst := some 59, op := Op.fieldAddr 59 (Operand.tmp 58) 0, type := 0, pos := "rest.go:58", after := #[{ on := 13, ground := Ground.data }, { on := 9, ground := Ground.guard }], guard := some (9, true) }) (v := undef) rfl (by kernel_rfl) (by kernel_rfl) (by kernel_rfl) (fun _ _ _ h => h) (Or.inr ⟨by rfl, rfl⟩) hHeld ?_
              simp only [Act.put, List.setIfInBounds_toArray, List.set_cons_zero, List.set_cons_succ]
              refine wpAnyH_take (i := 15) (oi := { dst := some 60, op := Op.fieldAddr 53 (Operand.tmp 59) 1, type := 0, pos := "rest.go:58", after := #[{ on := 14, ground := Ground.data }, { on := 9, ground := Ground.guard }], guard := some (9, true) }) (v := undef) rfl (by kernel_rfl) (by kernel_rfl) (by kernel_rfl) (fun _ _ _ h => h) (Or.inr ⟨by rfl, rfl⟩) hHeld ?_
              simp only [Act.put, List.setIfInBounds_toArray, List.set_cons_zero, List.set_cons_succ]
              refine wpAnyH_take (i := 16) (oi := { dst := some 61, op := Op.load 35 (Operand.tmp 60), type := 35, pos := "rest.go:58", after := #[{ on := 15, ground := Ground.data }, { on := 9, ground := Ground.guard }], guard := some (9, true) }) (v := undef) rfl (by kernel_rfl) (by kernel_rfl) (by kernel_rfl) (fun _ _ _ h => h) (Or.inr ⟨by rfl, rfl⟩) hHeld ?_
              simp only [Act.put, List.setIfInBounds_toArray, List.set_cons_zero, List.set_cons_succ]
              refine wpAnyH_take (i := 17) (oi := { dst := some 62, op := Op.load 35 (Operand.tmp 7), type := 35, pos := "rest.go:58", after := #[{ on := 9, ground := Ground.guard }], guard := some (9, true) }) (v := undef) rfl (by kernel_rfl) (by kernel_rfl) (by kernel_rfl) (fun _ _ _ h => h) (Or.inr ⟨by rfl, rfl⟩) hHeld ?_
              simp only [Act.put, List.setIfInBounds_toArray, List.set_cons_zero, List.set_cons_succ]
              refine wpAnyH_take (i := 18) (oi := { dst := some 63, op := Op.binOp BinOp.eql 35 (Operand.tmp 61) (Operand.tmp 62) 35, type := 4, pos := "rest.go:58", after := #[{ on := 16, ground := Ground.data }, { on := 17, ground := Ground.data }, { on := 9, ground := Ground.guard }], guard := some (9, true) }) (v := undef) rfl (by kernel_rfl) (by kernel_rfl) (by kernel_rfl) (fun _ _ _ h => h) (Or.inr ⟨by rfl, rfl⟩) hHeld ?_
              simp only [Act.put, List.setIfInBounds_toArray, List.set_cons_zero, List.set_cons_succ]
              refine wpAnyH_take (i := 19) (oi := { dst := some 64, op := Op.pick (Operand.tmp 54) (Operand.tmp 63) (Operand.const (Value.bool false)), type := 4, pos := "rest.go:58", after := #[{ on := 9, ground := Ground.data }, { on := 18, ground := Ground.data }], guard := none }) (v := ?_) rfl (by kernel_rfl) (by kernel_rfl) (by kernel_rfl) (fun _ _ _ h => h) (Or.inl ⟨by rfl, ?_⟩) hHeld ?_
              rotate_left
              · (intro w hSw; (try dsimp only at hSw); go_simp; first | done | with_reducible rfl)
              simp only [Act.put, List.setIfInBounds_toArray, List.set_cons_zero, List.set_cons_succ]
              refine wpAnyH_done (by kernel_rfl) ?_ _
              clear hHeld
              go_wp2_with fail
              go_roundw
              case rel => exact ⟨k + 1, by go_num, by omega, Lib.hid hB.out.drew, Lib.hid fun j hj => (Nat.lt_succ_iff_lt_or_eq.1 hj).elim (hJ.out j) (fun e => e ▸ HMISS.out)⟩
              case measure => simp [RowKit.intOf]; omega
          · have hko : ¬ (k : Int) < A.length := by omega
            have HNO := Lib.hid (show A.any (sm ⟨⟨f, (a, l), m⟩, t⟩) = false by
              rw [List.any_eq_false]
              intro e he
              obtain ⟨i, hi, rfl⟩ := List.getElem_of_mem he
              have := hJ.out i (by omega)
              rw [getElem!_pos A i hi] at this
              rw [this]
              exact Bool.false_ne_true)
            clear hJ
            by_cases hm : m = 16
            · have t16 : (m == 16) = true := by rw [hm]; rfl
              have HM16 := Lib.hid hm
              have HOK0 := Lib.hid (learnE_ok (M := M) (n := (a, l)) H1.out H2.out H3.out (fun h => h.2.1 HM16.out))
              clear hm
              have hY := Y5.out
              obtain ⟨_, y0, y1, fy0, fy1⟩ := hY
              go_wp2_with fail
              have KY := (Keep.setCell (fun x => x = w.heap.size + 1 + 1) wr (w.heap.size + 1 + 1) 0 (.int .i64 t) rfl).trans (Keep.setCell (fun x => x = w.heap.size + 1 + 1) _ (w.heap.size + 1 + 1) 1 (.slice q3 A.length c3) rfl)
              have hLS := learn_none ⟨⟨f, (a, l), m⟩, t⟩ A HNO.out HM16.out
              exact bodyPost_lt Tryd.results6 rfl rfl (Y5.out.set _ _) rfl (LtTo.good HOK0.out (M' := A) ((G5.out.keep KY (fun g hg e => by have := (GLT.out g hg).1; have := S2.out; omega)).down (by have := S2.out; omega)) (List.Perm.of_eq (by rw [← HAE.out]; exact hLS.symm)) HSA.out (B5.out.trans (KY.below (fun b e => by omega) B5.out.size)))
            · have t16 : (m == 16) = false := by simpa using hm
              have HM16 := Lib.hid hm
              clear hm
              by_cases hf : 64 ≤ A.length
              · have hf' : (64 : Int) ≤ (A.length : Int) := by omega
                have HE := Lib.hid (learnE_full (M := M) (n := (a, l)) H1.out H2.out H3.out ⟨by rw [← HAE.out]; exact HNO.out, HM16.out, by rw [← HAE.out]; exact hf⟩)
                clear hf
                have hX := X5.out; have hY := Y5.out
                obtain ⟨_, x0, x1, _, _⟩ := hX
                obtain ⟨_, y0, y1, fy0, fy1⟩ := hY
                go_wp2_with fail
                have KK := (Keep.setCell (fun x => x = w.heap.size + 1 + 1) wr (w.heap.size + 1 + 1) 0 (.int .i64 now0) rfl).trans (Keep.setCell (fun x => x = w.heap.size + 1 + 1) _ (w.heap.size + 1 + 1) 1 (.slice pm M.length cm) rfl)
                exact bodyPost_lt Tryd.results6 rfl rfl (Y5.out.set _ _) rfl (LtTo.bad HE.out.symm (by omega) (B5.out.trans (KK.below (fun b e => by omega) B5.out.size)))
              · have hf' : ¬ (64 : Int) ≤ (A.length : Int) := by omega
                have HOK0 := Lib.hid (learnE_ok (M := M) (n := (a, l)) H1.out H2.out H3.out (fun h => hf (by have := h.2.2; rw [← HAE.out] at this; exact this)))
                clear hf
                obtain ⟨wo, hwo⟩ : ∃ wo, wo = wr := ⟨_, rfl⟩
                subst hwo
                go_upto_block 2 with fail
                go_cut [14, 15] from 96 to 143 (fun u v wc => ∃ (i : Nat), v = .int .i64 i ∧ i ≤ A.length ∧ Hid (Below wo.heap.size wo wc) ∧ Hid (LOwn 59 wc wo.heap.size u (A.take i)) ∧ Hid (∀ j, j < i → Hd.lt A[j]!.h (Rt.h ⟨⟨f, (a, l), m⟩, t⟩) = true) ∧ Hid (i < A.length → Hd.lt A[i]!.h (Rt.h ⟨⟨f, (a, l), m⟩, t⟩) = false))
                case first =>
                  go_wp2_with fail
                  go_loopw [14, 15] (fun u v wr => ∃ (i : Nat), v = .int .i64 i ∧ i ≤ A.length ∧ Hid (Below wo.heap.size wo wr) ∧ Hid (LOwn 59 wr wo.heap.size u (A.take i)) ∧ Hid (∀ j, j < i → Hd.lt A[j]!.h (Rt.h ⟨⟨f, (a, l), m⟩, t⟩) = true)) (fun _ v _ => A.length - (RowKit.intOf v).toNat)
                  case atStart => exact ⟨0, rfl, Nat.zero_le _, Lib.hid (Below.refl _ _), Lib.hid (LOwn.nil _ _ _), Lib.hid fun j h => absurd h (by omega)⟩
                  case round =>
                    obtain ⟨i, rfl, hi, hB, hO, HI⟩ := hrel
                    have hl6 := HL64.out
                    have Z6 := Lib.hid (Z5.out.kept hB.out); have N6 := Lib.hid (N5.out.kept hB.out); have G6 := Lib.hid (G5.out.below hB.out)
                    have hZ := Z6.out
                    obtain ⟨_, z0, z1, _, _⟩ := hZ
                    by_cases hin : i < A.length
                    · obtain ⟨g, hg⟩ := G6.out.here.2.1 i hin
                      subst hg
                      obtain ⟨_, lg, sg, _⟩ := G6.out.here.2.2 g rfl
                      obtain ⟨b0, b1, b2, b3, b4⟩ := (sg i hin).rt
                      have a0 : wr.cell? ⟨g, 0 + i * 5, none⟩ = _ := b0
                      have a1 : wr.cell? ⟨g, 0 + i * 5 + 1, none⟩ = _ := b1
                      have a2 : wr.cell? ⟨g, 0 + i * 5 + 2, none⟩ = _ := b2
                      have a3 : wr.cell? ⟨g, 0 + i * 5 + 3, none⟩ = _ := b3
                      have a4 : wr.cell? ⟨g, 0 + i * 5 + 4, none⟩ = _ := b4
                      simp only [Nat.zero_add] at a0 a1 a2 a3 a4
                      clear lg sg b0 b1 b2 b3 b4
                      obtain ⟨e, he⟩ : ∃ e, e = A[i]! := ⟨_, rfl⟩
                      rw [← he] at a0 a1 a2 a3 a4
                      have HEK := Lib.hid he
                      clear he
                      obtain ⟨⟨fe, ⟨ae, le⟩, me⟩, te⟩ := e
                      dsimp only at a0 a1 a2 a3 a4
                      have hN := N6.out
                      obtain ⟨_, n0, n1, _, _⟩ := hN
                      by_cases h1 : fe < f
                      · have HLT := Lib.hid (show Hd.lt A[i]!.h (Rt.h ⟨⟨f, (a, l), m⟩, t⟩) = true by rw [← HEK.out]; exact (Hd.lt_iff _ _).2 (Or.inl h1))
                        go_wp2_with fail
                        refine wp_region_held_drew (S := (fun w' => w'.cell? ⟨ba, 1, none⟩ = some (.slice (some ⟨g, 0, none⟩) A.length c3) ∧ w'.cell? ⟨g, i * 5, none⟩ = some (.int .i64 fe) ∧ w'.cell? ⟨g, i * 5 + 1, none⟩ = some (.int .u32 (ae : Int)) ∧ w'.cell? ⟨g, i * 5 + 2, none⟩ = some (.int .i64 le) ∧ w'.cell? ⟨w.heap.size + 1, 0, none⟩ = some (.int .u32 (a : Int)) ∧ w'.cell? ⟨w.heap.size + 1, 1, none⟩ = some (.int .i64 l))) (by kernel_rfl) ⟨z1, a0, a1, a2, n0, n1⟩ (fun hHeld => ?_)
                        refine wpAnyH_take (i := 0) (oi := { dst := some 96, op := Op.move (Operand.tmp 15), type := 3, pos := "rest.go:73", after := #[], guard := none }) (v := ?_) rfl (by kernel_rfl) (by kernel_rfl) (by kernel_rfl) (fun _ _ _ h => h) (Or.inl ⟨by rfl, ?_⟩) hHeld ?_
                        rotate_left
                        · (intro w hSw; (try dsimp only at hSw); go_simp; first | done | with_reducible rfl)
                        simp only [Act.put, List.setIfInBounds_toArray, List.set_cons_zero, List.set_cons_succ]
                        refine wpAnyH_take (i := 1) (oi := { dst := some 97, op := Op.fieldAddr 29 (Operand.tmp 12) 1, type := 0, pos := "rest.go:73", after := #[], guard := none }) (v := ?_) rfl (by kernel_rfl) (by kernel_rfl) (by kernel_rfl) (fun _ _ _ h => h) (Or.inl ⟨by rfl, ?_⟩) hHeld ?_
                        rotate_left
                        · (intro w hSw; (try dsimp only at hSw); go_simp; first | done | with_reducible rfl)
                        simp only [Act.put, List.setIfInBounds_toArray, List.set_cons_zero, List.set_cons_succ]
                        refine wpAnyH_take (i := 2) (oi := { dst := some 98, op := Op.load 27 (Operand.tmp 97), type := 27, pos := "rest.go:73", after := #[{ on := 1, ground := Ground.data }], guard := none }) (v := ?_) rfl (by kernel_rfl) (by kernel_rfl) (by kernel_rfl) (fun _ _ _ h => h) (Or.inl ⟨by rfl, ?_⟩) hHeld ?_
                        rotate_left
                        · (intro w hSw; (try dsimp only at hSw); go_simp; first | done | with_reducible rfl)
                        simp only [Act.put, List.setIfInBounds_toArray, List.set_cons_zero, List.set_cons_succ]
                        refine wpAnyH_take (i := 3) (oi := { dst := some 99, op := Op.call { callee := Callee.builtin Builtin.len, args := #[Operand.tmp 98], argTypes := #[27] }, type := 3, pos := "rest.go:73", after := #[{ on := 2, ground := Ground.data }], guard := none }) (v := ?_) rfl (by kernel_rfl) (by kernel_rfl) (by kernel_rfl) (fun _ _ _ h => h) (Or.inl ⟨by rfl, ?_⟩) hHeld ?_
                        rotate_left
                        · (intro w hSw; (try dsimp only at hSw); go_simp; first | done | with_reducible rfl)
                        simp only [Act.put, List.setIfInBounds_toArray, List.set_cons_zero, List.set_cons_succ]
                        refine wpAnyH_take (i := 4) (oi := { dst := some 100, op := Op.binOp BinOp.lss 3 (Operand.tmp 96) (Operand.tmp 99) 3, type := 4, pos := "rest.go:73", after := #[{ on := 0, ground := Ground.data }, { on := 3, ground := Ground.data }], guard := none }) (v := ?_) rfl (by kernel_rfl) (by kernel_rfl) (by kernel_rfl) (fun _ _ _ h => h) (Or.inl ⟨by rfl, ?_⟩) hHeld ?_
                        rotate_left
                        · (intro w hSw; (try dsimp only at hSw); go_simp; first | done | with_reducible rfl)
                        simp only [Act.put, List.setIfInBounds_toArray, List.set_cons_zero, List.set_cons_succ]
                        refine wpAnyH_take (i := 5) (oi := { dst := some 101, op := Op.move (Operand.tmp 100), type := 4, pos := "rest.go:73", after := #[{ on := 4, ground := Ground.data }], guard := none }) (v := ?_) rfl (by kernel_rfl) (by kernel_rfl) (by kernel_rfl) (fun _ _ _ h => h) (Or.inl ⟨by rfl, ?_⟩) hHeld ?_
                        rotate_left
                        · (intro w hSw; (try dsimp only at hSw); go_simp; first | done | with_reducible rfl)
                        simp only [Act.put, List.setIfInBounds_toArray, List.set_cons_zero, List.set_cons_succ]
                        refine wpAnyH_take (i := 6) (oi := { dst := some 102, op := Op.fieldAddr 29 (Operand.tmp 12) 1, type := 0, pos := "rest.go:73", after := #[{ on := 5, ground := Ground.guard }], guard := some (5, true) }) (v := ?_) rfl (by kernel_rfl) (by kernel_rfl) (by kernel_rfl) (fun _ _ _ h => h) (Or.inl ⟨by rfl, ?_⟩) hHeld ?_
                        rotate_left
                        · (intro w hSw; (try dsimp only at hSw); go_simp; first | done | with_reducible rfl)
                        simp only [Act.put, List.setIfInBounds_toArray, List.set_cons_zero, List.set_cons_succ]
                        refine wpAnyH_take (i := 7) (oi := { dst := some 103, op := Op.load 27 (Operand.tmp 102), type := 27, pos := "rest.go:73", after := #[{ on := 6, ground := Ground.data }, { on := 5, ground := Ground.guard }], guard := some (5, true) }) (v := ?_) rfl (by kernel_rfl) (by kernel_rfl) (by kernel_rfl) (fun _ _ _ h => h) (Or.inl ⟨by rfl, ?_⟩) hHeld ?_
                        rotate_left
                        · (intro w hSw; (try dsimp only at hSw); go_simp; first | done | with_reducible rfl)
                        simp only [Act.put, List.setIfInBounds_toArray, List.set_cons_zero, List.set_cons_succ]
                        refine wpAnyH_take (i := 8) (oi := { dst := some 104, op := Op.move (Operand.tmp 15), type := 3, pos := "rest.go:73", after := #[{ on := 5, ground := Ground.guard }], guard := some (5, true) }) (v := ?_) rfl (by kernel_rfl) (by kernel_rfl) (by kernel_rfl) (fun _ _ _ h => h) (Or.inl ⟨by rfl, ?_⟩) hHeld ?_
                        rotate_left
                        · (intro w hSw; (try dsimp only at hSw); go_simp; first | done | with_reducible rfl)
                        simp only [Act.put, List.setIfInBounds_toArray, List.set_cons_zero, List.set_cons_succ]
                        refine wpAnyH_take (i := 9) (oi := { dst := some 105, op := Op.indexAddr 27 (Operand.tmp 103) (Operand.tmp 104), type := 0, pos := "rest.go:73", after := #[{ on := 7, ground := Ground.data }, { on := 8, ground := Ground.data }, { on := 5, ground := Ground.guard }], guard := some (5, true) }) (v := ?_) rfl (by kernel_rfl) (by kernel_rfl) (by kernel_rfl) (fun _ _ _ h => h) (Or.inl ⟨by rfl, ?_⟩) hHeld ?_
                        rotate_left
                        · (intro w hSw; (try dsimp only at hSw); go_simp; first | done | with_reducible rfl)
                        simp only [Act.put, List.setIfInBounds_toArray, List.set_cons_zero, List.set_cons_succ]
                        refine wpAnyH_take (i := 10) (oi := { dst := some 106, op := Op.fieldAddr 59 (Operand.tmp 105) 0, type := 0, pos := "rest.go:73", after := #[{ on := 9, ground := Ground.data }, { on := 5, ground := Ground.guard }], guard := some (5, true) }) (v := ?_) rfl (by kernel_rfl) (by kernel_rfl) (by kernel_rfl) (fun _ _ _ h => h) (Or.inl ⟨by rfl, ?_⟩) hHeld ?_
                        rotate_left
                        · (intro w hSw; (try dsimp only at hSw); go_simp; first | done | with_reducible rfl)
                        simp only [Act.put, List.setIfInBounds_toArray, List.set_cons_zero, List.set_cons_succ]
                        refine wpAnyH_take (i := 11) (oi := { dst := some 107, op := Op.fieldAddr 53 (Operand.tmp 106) 0, type := 0, pos := "rest.go:73", after := #[{ on := 10, ground := Ground.data }, { on := 5, ground := Ground.guard }], guard := some (5, true) }) (v := ?_) rfl (by kernel_rfl) (by kernel_rfl) (by kernel_rfl) (fun _ _ _ h => h) (Or.inl ⟨by rfl, ?_⟩) hHeld ?_
                        rotate_left
                        · (intro w hSw; (try dsimp only at hSw); go_simp; first | done | with_reducible rfl)
                        simp only [Act.put, List.setIfInBounds_toArray, List.set_cons_zero, List.set_cons_succ]
                        refine wpAnyH_take (i := 12) (oi := { dst := some 108, op := Op.load 3 (Operand.tmp 107), type := 3, pos := "rest.go:73", after := #[{ on := 11, ground := Ground.data }, { on := 5, ground := Ground.guard }], guard := some (5, true) }) (v := ?_) rfl (by kernel_rfl) (by kernel_rfl) (by kernel_rfl) (fun _ _ _ h => h) (Or.inl ⟨by rfl, ?_⟩) hHeld ?_
                        rotate_left
                        · (intro w hSw; (try dsimp only at hSw); go_simp; first | done | with_reducible rfl)
                        simp only [Act.put, List.setIfInBounds_toArray, List.set_cons_zero, List.set_cons_succ]
                        refine wpAnyH_take (i := 13) (oi := { dst := some 109, op := Op.move (Operand.tmp 1), type := 3, pos := "rest.go:73", after := #[{ on := 5, ground := Ground.guard }], guard := some (5, true) }) (v := ?_) rfl (by kernel_rfl) (by kernel_rfl) (by kernel_rfl) (fun _ _ _ h => h) (Or.inl ⟨by rfl, ?_⟩) hHeld ?_
                        rotate_left
                        · (intro w hSw; (try dsimp only at hSw); go_simp; first | done | with_reducible rfl)
                        simp only [Act.put, List.setIfInBounds_toArray, List.set_cons_zero, List.set_cons_succ]
                        refine wpAnyH_take (i := 14) (oi := { dst := some 110, op := Op.binOp BinOp.lss 3 (Operand.tmp 108) (Operand.tmp 109) 3, type := 4, pos := "rest.go:73", after := #[{ on := 12, ground := Ground.data }, { on := 13, ground := Ground.data }, { on := 5, ground := Ground.guard }], guard := some (5, true) }) (v := ?_) rfl (by kernel_rfl) (by kernel_rfl) (by kernel_rfl) (fun _ _ _ h => h) (Or.inl ⟨by rfl, ?_⟩) hHeld ?_
                        rotate_left
                        · (intro w hSw; (try dsimp only at hSw); go_simp; first | done | with_reducible rfl)
                        simp only [Act.put, List.setIfInBounds_toArray, List.set_cons_zero, List.set_cons_succ]
                        refine wpAnyH_take (i := 15) (oi := { dst := some 111, op := Op.move (Operand.tmp 110), type := 4, pos := "rest.go:73", after := #[{ on := 14, ground := Ground.data }, { on := 5, ground := Ground.chain }, { on := 5, ground := Ground.guard }], guard := some (5, true) }) (v := ?_) rfl (by kernel_rfl) (by kernel_rfl) (by kernel_rfl) (fun _ _ _ h => h) (Or.inl ⟨by rfl, ?_⟩) hHeld ?_
                        rotate_left
                        · (intro w hSw; (try dsimp only at hSw); go_simp; first | done | with_reducible rfl)
                        simp only [Act.put, List.setIfInBounds_toArray, List.set_cons_zero, List.set_cons_succ]
                        refine wpAnyH_take (i := 16) (oi := { dst := some 112, op := Op.fieldAddr 29 (Operand.tmp 12) 1, type := 0, pos := "rest.go:73", after := #[{ on := 15, ground := Ground.guard }], guard := some (15, false) }) (v := undef) rfl (by kernel_rfl) (by kernel_rfl) (by kernel_rfl) (fun _ _ _ h => h) (Or.inr ⟨by rfl, rfl⟩) hHeld ?_
                        simp only [Act.put, List.setIfInBounds_toArray, List.set_cons_zero, List.set_cons_succ]
                        refine wpAnyH_take (i := 17) (oi := { dst := some 113, op := Op.load 27 (Operand.tmp 112), type := 27, pos := "rest.go:73", after := #[{ on := 16, ground := Ground.data }, { on := 15, ground := Ground.guard }], guard := some (15, false) }) (v := undef) rfl (by kernel_rfl) (by kernel_rfl) (by kernel_rfl) (fun _ _ _ h => h) (Or.inr ⟨by rfl, rfl⟩) hHeld ?_
                        simp only [Act.put, List.setIfInBounds_toArray, List.set_cons_zero, List.set_cons_succ]
                        refine wpAnyH_take (i := 18) (oi := { dst := some 114, op := Op.move (Operand.tmp 15), type := 3, pos := "rest.go:73", after := #[{ on := 15, ground := Ground.guard }], guard := some (15, false) }) (v := undef) rfl (by kernel_rfl) (by kernel_rfl) (by kernel_rfl) (fun _ _ _ h => h) (Or.inr ⟨by rfl, rfl⟩) hHeld ?_
                        simp only [Act.put, List.setIfInBounds_toArray, List.set_cons_zero, List.set_cons_succ]
                        refine wpAnyH_take (i := 19) (oi := { dst := some 115, op := Op.indexAddr 27 (Operand.tmp 113) (Operand.tmp 114), type := 0, pos := "rest.go:73", after := #[{ on := 17, ground := Ground.data }, { on := 18, ground := Ground.data }, { on := 15, ground := Ground.guard }], guard := some (15, false) }) (v := undef) rfl (by kernel_rfl) (by kernel_rfl) (by kernel_rfl) (fun _ _ _ h => h) (Or.inr ⟨by rfl, rfl⟩) hHeld ?_
                        simp only [Act.put, List.setIfInBounds_toArray, List.set_cons_zero, List.set_cons_succ]
                        refine wpAnyH_take (i := 20) (oi := { dst := some 116, op := Op.fieldAddr 59 (Operand.tmp 115) 0, type := 0, pos := "rest.go:73", after := #[{ on := 19, ground := Ground.data }, { on := 15, ground := Ground.guard }], guard := some (15, false) }) (v := undef) rfl (by kernel_rfl) (by kernel_rfl) (by kernel_rfl) (fun _ _ _ h => h) (Or.inr ⟨by rfl, rfl⟩) hHeld ?_
                        simp only [Act.put, List.setIfInBounds_toArray, List.set_cons_zero, List.set_cons_succ]
                        refine wpAnyH_take (i := 21) (oi := { dst := some 117, op := Op.fieldAddr 53 (Operand.tmp 116) 0, type := 0, pos := "rest.go:73", after := #[{ on := 20, ground := Ground.data }, { on := 15, ground := Ground.guard }], guard := some (15, false) }) (v := undef) rfl (by kernel_rfl) (by kernel_rfl) (by kernel_rfl) (fun _ _ _ h => h) (Or.inr ⟨by rfl, rfl⟩) hHeld ?_
                        simp only [Act.put, List.setIfInBounds_toArray, List.set_cons_zero, List.set_cons_succ]
                        refine wpAnyH_take (i := 22) (oi := { dst := some 118, op := Op.load 3 (Operand.tmp 117), type := 3, pos := "rest.go:73", after := #[{ on := 21, ground := Ground.data }, { on := 15, ground := Ground.guard }], guard := some (15, false) }) (v := undef) rfl (by kernel_rfl) (by kernel_rfl) (by kernel_rfl) (fun _ _ _ h => h) (Or.inr ⟨by rfl, rfl⟩) hHeld ?_
                        simp only [Act.put, List.setIfInBounds_toArray, List.set_cons_zero, List.set_cons_succ]
                        refine wpAnyH_take (i := 23) (oi := { dst := some 119, op := Op.move (Operand.tmp 1), type := 3, pos := "rest.go:73", after := #[{ on := 15, ground := Ground.guard }], guard := some (15, false) }) (v := undef) rfl (by kernel_rfl) (by kernel_rfl) (by kernel_rfl) (fun _ _ _ h => h) (Or.inr ⟨by rfl, rfl⟩) hHeld ?_
                        simp only [Act.put, List.setIfInBounds_toArray, List.set_cons_zero, List.set_cons_succ]
                        refine wpAnyH_take (i := 24) (oi := { dst := some 120, op := Op.binOp BinOp.eql 3 (Operand.tmp 118) (Operand.tmp 119) 3, type := 4, pos := "rest.go:73", after := #[{ on := 22, ground := Ground.data }, { on := 23, ground := Ground.data }, { on := 15, ground := Ground.guard }], guard := some (15, false) }) (v := undef) rfl (by kernel_rfl) (by kernel_rfl) (by kernel_rfl) (fun _ _ _ h => h) (Or.inr ⟨by rfl, rfl⟩) hHeld ?_
                        simp only [Act.put, List.setIfInBounds_toArray, List.set_cons_zero, List.set_cons_succ]
                        refine wpAnyH_take (i := 25) (oi := { dst := some 121, op := Op.move (Operand.tmp 120), type := 4, pos := "rest.go:73", after := #[{ on := 24, ground := Ground.data }, { on := 15, ground := Ground.chain }, { on := 15, ground := Ground.guard }], guard := some (15, false) }) (v := undef) rfl (by kernel_rfl) (by kernel_rfl) (by kernel_rfl) (fun _ _ _ h => h) (Or.inr ⟨by rfl, rfl⟩) hHeld ?_
                        simp only [Act.put, List.setIfInBounds_toArray, List.set_cons_zero, List.set_cons_succ]
                        refine wpAnyH_take (i := 26) (oi := { dst := some 122, op := Op.fieldAddr 29 (Operand.tmp 12) 1, type := 0, pos := "rest.go:73", after := #[{ on := 25, ground := Ground.guard }], guard := some (25, true) }) (v := undef) rfl (by kernel_rfl) (by kernel_rfl) (by kernel_rfl) (fun _ _ _ h => h) (Or.inr ⟨by rfl, rfl⟩) hHeld ?_
                        simp only [Act.put, List.setIfInBounds_toArray, List.set_cons_zero, List.set_cons_succ]
                        refine wpAnyH_take (i := 27) (oi := { dst := some 123, op := Op.load 27 (Operand.tmp 122), type := 27, pos := "rest.go:73", after := #[{ on := 26, ground := Ground.data }, { on := 25, ground := Ground.guard }], guard := some (25, true) }) (v := undef) rfl (by kernel_rfl) (by kernel_rfl) (by kernel_rfl) (fun _ _ _ h => h) (Or.inr ⟨by rfl, rfl⟩) hHeld ?_
                        simp only [Act.put, List.setIfInBounds_toArray, List.set_cons_zero, List.set_cons_succ]
                        refine wpAnyH_take (i := 28) (oi := { dst := some 124, op := Op.move (Operand.tmp 15), type := 3, pos := "rest.go:73", after := #[{ on := 25, ground := Ground.guard }], guard := some (25, true) }) (v := undef) rfl (by kernel_rfl) (by kernel_rfl) (by kernel_rfl) (fun _ _ _ h => h) (Or.inr ⟨by rfl, rfl⟩) hHeld ?_
                        simp only [Act.put, List.setIfInBounds_toArray, List.set_cons_zero, List.set_cons_succ]
                        refine wpAnyH_take (i := 29) (oi := { dst := some 125, op := Op.indexAddr 27 (Operand.tmp 123) (Operand.tmp 124), type := 0, pos := "rest.go:73", after := #[{ on := 27, ground := Ground.data }, { on := 28, ground := Ground.data }, { on := 25, ground := Ground.guard }], guard := some (25, true) }) (v := undef) rfl (by kernel_rfl) (by kernel_rfl) (by kernel_rfl) (fun _ _ _ h => h) (Or.inr ⟨by rfl, rfl⟩) hHeld ?_
                        simp only [Act.put, List.setIfInBounds_toArray, List.set_cons_zero, List.set_cons_succ]
                        refine wpAnyH_take (i := 30) (oi := { dst := some 126, op := Op.fieldAddr 59 (Operand.tmp 125) 0, type := 0, pos := "rest.go:73", after := #[{ on := 29, ground := Ground.data }, { on := 25, ground := Ground.guard }], guard := some (25, true) }) (v := undef) rfl (by kernel_rfl) (by kernel_rfl) (by kernel_rfl) (fun _ _ _ h => h) (Or.inr ⟨by rfl, rfl⟩) hHeld ?_
                        simp only [Act.put, List.setIfInBounds_toArray, List.set_cons_zero, List.set_cons_succ]
                        refine wpAnyH_take (i := 31) (oi := { dst := some 127, op := Op.fieldAddr 53 (Operand.tmp 126) 1, type := 0, pos := "rest.go:73", after := #[{ on := 30, ground := Ground.data }, { on := 25, ground := Ground.guard }], guard := some (25, true) }) (v := undef) rfl (by kernel_rfl) (by kernel_rfl) (by kernel_rfl) (fun _ _ _ h => h) (Or.inr ⟨by rfl, rfl⟩) hHeld ?_
                        simp only [Act.put, List.setIfInBounds_toArray, List.set_cons_zero, List.set_cons_succ]
                        refine wpAnyH_take (i := 32) (oi := { dst := some 128, op := Op.load 35 (Operand.tmp 127), type := 35, pos := "rest.go:73", after := #[{ on := 31, ground := Ground.data }, { on := 25, ground := Ground.guard }], guard := some (25, true) }) (v := undef) rfl (by kernel_rfl) (by kernel_rfl) (by kernel_rfl) (fun _ _ _ h => h) (Or.inr ⟨by rfl, rfl⟩) hHeld ?_
                        simp only [Act.put, List.setIfInBounds_toArray, List.set_cons_zero, List.set_cons_succ]
                        refine wpAnyH_take (i := 33) (oi := { dst := some 129, op := Op.load 35 (Operand.tmp 7), type := 35, pos := "rest.go:73", after := #[{ on := 25, ground := Ground.guard }], guard := some (25, true) }) (v := undef) rfl (by kernel_rfl) (by kernel_rfl) (by kernel_rfl) (fun _ _ _ h => h) (Or.inr ⟨by rfl, rfl⟩) hHeld ?_
                        simp only [Act.put, List.setIfInBounds_toArray, List.set_cons_zero, List.set_cons_succ]
                        refine wpAnyH_take (i := 34) (oi := { dst := some 130, op := Op.call { callee := Callee.value (Operand.func 20), args := #[Operand.tmp 128, Operand.tmp 129], argTypes := #[35, 35] }, type := 4, pos := "rest.go:73", after := #[{ on := 32, ground := Ground.data }, { on := 33, ground := Ground.data }, { on := 25, ground := Ground.chain }, { on := 25, ground := Ground.guard }], guard := some (25, true) }) (v := undef) rfl (by kernel_rfl) (by kernel_rfl) (by kernel_rfl) (fun _ _ _ h => h) (Or.inr ⟨by rfl, rfl⟩) hHeld ?_
                        simp only [Act.put, List.setIfInBounds_toArray, List.set_cons_zero, List.set_cons_succ]
                        refine wpAnyH_take (i := 35) (oi := { dst := some 131, op := Op.pick (Operand.tmp 121) (Operand.tmp 130) (Operand.const (Value.bool false)), type := 4, pos := "rest.go:73", after := #[{ on := 25, ground := Ground.data }, { on := 34, ground := Ground.data }, { on := 15, ground := Ground.guard }], guard := some (15, false) }) (v := undef) rfl (by kernel_rfl) (by kernel_rfl) (by kernel_rfl) (fun _ _ _ h => h) (Or.inr ⟨by rfl, rfl⟩) hHeld ?_
                        simp only [Act.put, List.setIfInBounds_toArray, List.set_cons_zero, List.set_cons_succ]
                        refine wpAnyH_take (i := 36) (oi := { dst := some 132, op := Op.pick (Operand.tmp 111) (Operand.const (Value.bool true)) (Operand.tmp 131), type := 4, pos := "rest.go:73", after := #[{ on := 15, ground := Ground.data }, { on := 35, ground := Ground.data }, { on := 5, ground := Ground.guard }], guard := some (5, true) }) (v := ?_) rfl (by kernel_rfl) (by kernel_rfl) (by kernel_rfl) (fun _ _ _ h => h) (Or.inl ⟨by rfl, ?_⟩) hHeld ?_
                        rotate_left
                        · (intro w hSw; (try dsimp only at hSw); go_simp; first | done | with_reducible rfl)
                        simp only [Act.put, List.setIfInBounds_toArray, List.set_cons_zero, List.set_cons_succ]
                        refine wpAnyH_take (i := 37) (oi := { dst := some 133, op := Op.pick (Operand.tmp 101) (Operand.tmp 132) (Operand.const (Value.bool false)), type := 4, pos := "rest.go:73", after := #[{ on := 5, ground := Ground.data }, { on := 36, ground := Ground.data }], guard := none }) (v := ?_) rfl (by kernel_rfl) (by kernel_rfl) (by kernel_rfl) (fun _ _ _ h => h) (Or.inl ⟨by rfl, ?_⟩) hHeld ?_
                        rotate_left
                        · (intro w hSw; (try dsimp only at hSw); go_simp; first | done | with_reducible rfl)
                        simp only [Act.put, List.setIfInBounds_toArray, List.set_cons_zero, List.set_cons_succ]
                        refine wpAnyH_done (by kernel_rfl) ?_ _
                        clear hHeld
                        have d0 : wr.drew.cell? ⟨g, i * 5, none⟩ = _ := a0
                        have d1 : wr.drew.cell? ⟨g, i * 5 + 1, none⟩ = _ := a1
                        have d2 : wr.drew.cell? ⟨g, i * 5 + 2, none⟩ = _ := a2
                        have d3 : wr.drew.cell? ⟨g, i * 5 + 3, none⟩ = _ := a3
                        have d4 : wr.drew.cell? ⟨g, i * 5 + 4, none⟩ = _ := a4
                        have z1' : wr.drew.cell? ⟨ba, 1, none⟩ = _ := z1
                        have BD := Lib.hid hB.out.drew
                        have OD := Lib.hid hO.out.drew
                        clear a0 a1 a2 a3 a4 z0 z1 n0 n1
                        generalize wr.drew = wd at d0 d1 d2 d3 d4 z1' BD OD ⊢
                        have O1 := Lib.hid (OD.out.keep ((Below.refl wd.heap.size wd).alloc (Nat.le_refl _) (.cells #[.int .i64 fe, .int .u32 (ae : Int), .int .i64 le, .int .i64 me, .int .i64 te] 59)))
                        go_wp2_with (at_builtin; refine wpList_plain rfl fun K' hK' => ?_; refine wp_append_L1 tyT _ _ rfl wo.heap.size _ (A.take i) ⟨⟨fe, (ae, le), me⟩, te⟩ wd.heap.size 1 rfl rfl O1.out (LAt.ofRt (by simp) (by simp) (by simp) (by simp) (by simp)) (by have := hl6; rw [List.length_take]; omega) (by have := hl6; rw [List.length_take]; simp only [maxLen]; omega) (by have := BD.out.size; simp; omega) ?qb)
                        case qb =>
                          intro v' w8 hO8 hA8
                          refine hK' _ _ ?_
                          have BB := (Below.refl wd.heap.size wd).alloc (Nat.le_refl _) (.cells #[.int .i64 fe, .int .u32 (ae : Int), .int .i64 le, .int .i64 me, .int .i64 te] 59)
                          have B8 := Lib.hid ((BD.out.trans (BB.mono BD.out.size)).trans (hA8.keep.below (fun b e => (O1.out.lt b e).1) (by have := BD.out.size; simp; omega)))
                          have O8 := Lib.hid (show LOwn 59 w8 wo.heap.size v' (A.take (i + 1)) by rw [take_more A i hin, ← HEK.out]; exact hO8)
                          clear hO8 hA8 BB
                          go_wp2_with fail
                          go_roundw
                          case rel => exact ⟨i + 1, by go_num, by omega, B8, O8, Lib.hid fun j hj => (Nat.lt_succ_iff_lt_or_eq.1 hj).elim (HI.out j) (fun e => e ▸ HLT.out)⟩
                          case measure => simp [RowKit.intOf]; omega
                      · by_cases h2 : fe = f
                        · subst h2
                          by_cases h3 : PrefP.less ae le a l = true
                          · have HLS := Lib.hid h3
                            have HLT := Lib.hid (show Hd.lt A[i]!.h (Rt.h ⟨⟨fe, (a, l), m⟩, t⟩) = true by rw [← HEK.out]; unfold Hd.lt; rw [if_pos rfl]; exact h3)
                            clear h3
                            go_wp2_with fail
                            refine wp_region_held_drew (S := (fun w' => w'.cell? ⟨ba, 1, none⟩ = some (.slice (some ⟨g, 0, none⟩) A.length c3) ∧ w'.cell? ⟨g, i * 5, none⟩ = some (.int .i64 fe) ∧ w'.cell? ⟨g, i * 5 + 1, none⟩ = some (.int .u32 (ae : Int)) ∧ w'.cell? ⟨g, i * 5 + 2, none⟩ = some (.int .i64 le) ∧ w'.cell? ⟨w.heap.size + 1, 0, none⟩ = some (.int .u32 (a : Int)) ∧ w'.cell? ⟨w.heap.size + 1, 1, none⟩ = some (.int .i64 l))) (by kernel_rfl) ⟨z1, a0, a1, a2, n0, n1⟩ (fun hHeld => ?_)
                            refine wpAnyH_take (i := 0) (oi := { dst := some 96, op := Op.move (Operand.tmp 15), type := 3, pos := "rest.go:73", after := #[], guard := none }) (v := ?_) rfl (by kernel_rfl) (by kernel_rfl) (by kernel_rfl) (fun _ _ _ h => h) (Or.inl ⟨by rfl, ?_⟩) hHeld ?_
                            rotate_left
                            · (intro w hSw; (try dsimp only at hSw); go_simp; first | done | with_reducible rfl)
                            simp only [Act.put, List.setIfInBounds_toArray, List.set_cons_zero, List.set_cons_succ]
                            refine wpAnyH_take (i := 1) (oi := { dst := some 97, op := Op.fieldAddr 29 (Operand.tmp 12) 1, type := 0, pos := "rest.go:73", after := #[], guard := none }) (v := ?_) rfl (by kernel_rfl) (by kernel_rfl) (by kernel_rfl) (fun _ _ _ h => h) (Or.inl ⟨by rfl, ?_⟩) hHeld ?_
                            rotate_left
                            · (intro w hSw; (try dsimp only at hSw); go_simp; first | done | with_reducible rfl)
                            simp only [Act.put, List.setIfInBounds_toArray, List.set_cons_zero, List.set_cons_succ]
                            refine wpAnyH_take (i := 2) (oi := { dst := some 98, op := Op.load 27 (Operand.tmp 97), type := 27, pos := "rest.go:73", after := #[{ on := 1, ground := Ground.data }], guard := none }) (v := ?_) rfl (by kernel_rfl) (by kernel_rfl) (by kernel_rfl) (fun _ _ _ h => h) (Or.inl ⟨by rfl, ?_⟩) hHeld ?_
                            rotate_left
                            · (intro w hSw; (try dsimp only at hSw); go_simp; first | done | with_reducible rfl)
                            simp only [Act.put, List.setIfInBounds_toArray, List.set_cons_zero, List.set_cons_succ]
                            refine wpAnyH_take (i := 3) (oi := { dst := some 99, op := Op.call { callee := Callee.builtin Builtin.len, args := #[Operand.tmp 98], argTypes := #[27] }, type := 3, pos := "rest.go:73", after := #[{ on := 2, ground := Ground.data }], guard := none }) (v := ?_) rfl (by kernel_rfl) (by kernel_rfl) (by kernel_rfl) (fun _ _ _ h => h) (Or.inl ⟨by rfl, ?_⟩) hHeld ?_
                            rotate_left
                            · (intro w hSw; (try dsimp only at hSw); go_simp; first | done | with_reducible rfl)
                            simp only [Act.put, List.setIfInBounds_toArray, List.set_cons_zero, List.set_cons_succ]
                            refine wpAnyH_take (i := 4) (oi := { dst := some 100, op := Op.binOp BinOp.lss 3 (Operand.tmp 96) (Operand.tmp 99) 3, type := 4, pos := "rest.go:73", after := #[{ on := 0, ground := Ground.data }, { on := 3, ground := Ground.data }], guard := none }) (v := ?_) rfl (by kernel_rfl) (by kernel_rfl) (by kernel_rfl) (fun _ _ _ h => h) (Or.inl ⟨by rfl, ?_⟩) hHeld ?_
                            rotate_left
                            · (intro w hSw; (try dsimp only at hSw); go_simp; first | done | with_reducible rfl)
                            simp only [Act.put, List.setIfInBounds_toArray, List.set_cons_zero, List.set_cons_succ]
                            refine wpAnyH_take (i := 5) (oi := { dst := some 101, op := Op.move (Operand.tmp 100), type := 4, pos := "rest.go:73", after := #[{ on := 4, ground := Ground.data }], guard := none }) (v := ?_) rfl (by kernel_rfl) (by kernel_rfl) (by kernel_rfl) (fun _ _ _ h => h) (Or.inl ⟨by rfl, ?_⟩) hHeld ?_
                            rotate_left
                            · (intro w hSw; (try dsimp only at hSw); go_simp; first | done | with_reducible rfl)
                            simp only [Act.put, List.setIfInBounds_toArray, List.set_cons_zero, List.set_cons_succ]
                            refine wpAnyH_take (i := 6) (oi := { dst := some 102, op := Op.fieldAddr 29 (Operand.tmp 12) 1, type := 0, pos := "rest.go:73", after := #[{ on := 5, ground := Ground.guard }], guard := some (5, true) }) (v := ?_) rfl (by kernel_rfl) (by kernel_rfl) (by kernel_rfl) (fun _ _ _ h => h) (Or.inl ⟨by rfl, ?_⟩) hHeld ?_
                            rotate_left
                            · (intro w hSw; (try dsimp only at hSw); go_simp; first | done | with_reducible rfl)
                            simp only [Act.put, List.setIfInBounds_toArray, List.set_cons_zero, List.set_cons_succ]
                            refine wpAnyH_take (i := 7) (oi := { dst := some 103, op := Op.load 27 (Operand.tmp 102), type := 27, pos := "rest.go:73", after := #[{ on := 6, ground := Ground.data }, { on := 5, ground := Ground.guard }], guard := some (5, true) }) (v := ?_) rfl (by kernel_rfl) (by kernel_rfl) (by kernel_rfl) (fun _ _ _ h => h) (Or.inl ⟨by rfl, ?_⟩) hHeld ?_
                            rotate_left
                            · (intro w hSw; (try dsimp only at hSw); go_simp; first | done | with_reducible rfl)
                            simp only [Act.put, List.setIfInBounds_toArray, List.set_cons_zero, List.set_cons_succ]
                            refine wpAnyH_take (i := 8) (oi := { dst := some 104, op := Op.move (Operand.tmp 15), type := 3, pos := "rest.go:73", after := #[{ on := 5, ground := Ground.guard }], guard := some (5, true) }) (v := ?_) rfl (by kernel_rfl) (by kernel_rfl) (by kernel_rfl) (fun _ _ _ h => h) (Or.inl ⟨by rfl, ?_⟩) hHeld ?_
                            rotate_left
                            · (intro w hSw; (try dsimp only at hSw); go_simp; first | done | with_reducible rfl)
                            simp only [Act.put, List.setIfInBounds_toArray, List.set_cons_zero, List.set_cons_succ]
                            refine wpAnyH_take (i := 9) (oi := { dst := some 105, op := Op.indexAddr 27 (Operand.tmp 103) (Operand.tmp 104), type := 0, pos := "rest.go:73", after := #[{ on := 7, ground := Ground.data }, { on := 8, ground := Ground.data }, { on := 5, ground := Ground.guard }], guard := some (5, true) }) (v := ?_) rfl (by kernel_rfl) (by kernel_rfl) (by kernel_rfl) (fun _ _ _ h => h) (Or.inl ⟨by rfl, ?_⟩) hHeld ?_
                            rotate_left
                            · (intro w hSw; (try dsimp only at hSw); go_simp; first | done | with_reducible rfl)
                            simp only [Act.put, List.setIfInBounds_toArray, List.set_cons_zero, List.set_cons_succ]
                            refine wpAnyH_take (i := 10) (oi := { dst := some 106, op := Op.fieldAddr 59 (Operand.tmp 105) 0, type := 0, pos := "rest.go:73", after := #[{ on := 9, ground := Ground.data }, { on := 5, ground := Ground.guard }], guard := some (5, true) }) (v := ?_) rfl (by kernel_rfl) (by kernel_rfl) (by kernel_rfl) (fun _ _ _ h => h) (Or.inl ⟨by rfl, ?_⟩) hHeld ?_
                            rotate_left
                            · (intro w hSw; (try dsimp only at hSw); go_simp; first | done | with_reducible rfl)
                            simp only [Act.put, List.setIfInBounds_toArray, List.set_cons_zero, List.set_cons_succ]
                            refine wpAnyH_take (i := 11) (oi := { dst := some 107, op := Op.fieldAddr 53 (Operand.tmp 106) 0, type := 0, pos := "rest.go:73", after := #[{ on := 10, ground := Ground.data }, { on := 5, ground := Ground.guard }], guard := some (5, true) }) (v := ?_) rfl (by kernel_rfl) (by kernel_rfl) (by kernel_rfl) (fun _ _ _ h => h) (Or.inl ⟨by rfl, ?_⟩) hHeld ?_
                            rotate_left
                            · (intro w hSw; (try dsimp only at hSw); go_simp; first | done | with_reducible rfl)
                            simp only [Act.put, List.setIfInBounds_toArray, List.set_cons_zero, List.set_cons_succ]
                            refine wpAnyH_take (i := 12) (oi := { dst := some 108, op := Op.load 3 (Operand.tmp 107), type := 3, pos := "rest.go:73", after := #[{ on := 11, ground := Ground.data }, { on := 5, ground := Ground.guard }], guard := some (5, true) }) (v := ?_) rfl (by kernel_rfl) (by kernel_rfl) (by kernel_rfl) (fun _ _ _ h => h) (Or.inl ⟨by rfl, ?_⟩) hHeld ?_
                            rotate_left
                            · (intro w hSw; (try dsimp only at hSw); go_simp; first | done | with_reducible rfl)
                            simp only [Act.put, List.setIfInBounds_toArray, List.set_cons_zero, List.set_cons_succ]
                            refine wpAnyH_take (i := 13) (oi := { dst := some 109, op := Op.move (Operand.tmp 1), type := 3, pos := "rest.go:73", after := #[{ on := 5, ground := Ground.guard }], guard := some (5, true) }) (v := ?_) rfl (by kernel_rfl) (by kernel_rfl) (by kernel_rfl) (fun _ _ _ h => h) (Or.inl ⟨by rfl, ?_⟩) hHeld ?_
                            rotate_left
                            · (intro w hSw; (try dsimp only at hSw); go_simp; first | done | with_reducible rfl)
                            simp only [Act.put, List.setIfInBounds_toArray, List.set_cons_zero, List.set_cons_succ]
                            refine wpAnyH_take (i := 14) (oi := { dst := some 110, op := Op.binOp BinOp.lss 3 (Operand.tmp 108) (Operand.tmp 109) 3, type := 4, pos := "rest.go:73", after := #[{ on := 12, ground := Ground.data }, { on := 13, ground := Ground.data }, { on := 5, ground := Ground.guard }], guard := some (5, true) }) (v := ?_) rfl (by kernel_rfl) (by kernel_rfl) (by kernel_rfl) (fun _ _ _ h => h) (Or.inl ⟨by rfl, ?_⟩) hHeld ?_
                            rotate_left
                            · (intro w hSw; (try dsimp only at hSw); go_simp; first | done | with_reducible rfl)
                            simp only [Act.put, List.setIfInBounds_toArray, List.set_cons_zero, List.set_cons_succ]
                            refine wpAnyH_take (i := 15) (oi := { dst := some 111, op := Op.move (Operand.tmp 110), type := 4, pos := "rest.go:73", after := #[{ on := 14, ground := Ground.data }, { on := 5, ground := Ground.chain }, { on := 5, ground := Ground.guard }], guard := some (5, true) }) (v := ?_) rfl (by kernel_rfl) (by kernel_rfl) (by kernel_rfl) (fun _ _ _ h => h) (Or.inl ⟨by rfl, ?_⟩) hHeld ?_
                            rotate_left
                            · (intro w hSw; (try dsimp only at hSw); go_simp; first | done | with_reducible rfl)
                            simp only [Act.put, List.setIfInBounds_toArray, List.set_cons_zero, List.set_cons_succ]
                            refine wpAnyH_take (i := 16) (oi := { dst := some 112, op := Op.fieldAddr 29 (Operand.tmp 12) 1, type := 0, pos := "rest.go:73", after := #[{ on := 15, ground := Ground.guard }], guard := some (15, false) }) (v := ?_) rfl (by kernel_rfl) (by kernel_rfl) (by kernel_rfl) (fun _ _ _ h => h) (Or.inl ⟨by rfl, ?_⟩) hHeld ?_
                            rotate_left
                            · (intro w hSw; (try dsimp only at hSw); go_simp; first | done | with_reducible rfl)
                            simp only [Act.put, List.setIfInBounds_toArray, List.set_cons_zero, List.set_cons_succ]
                            refine wpAnyH_take (i := 17) (oi := { dst := some 113, op := Op.load 27 (Operand.tmp 112), type := 27, pos := "rest.go:73", after := #[{ on := 16, ground := Ground.data }, { on := 15, ground := Ground.guard }], guard := some (15, false) }) (v := ?_) rfl (by kernel_rfl) (by kernel_rfl) (by kernel_rfl) (fun _ _ _ h => h) (Or.inl ⟨by rfl, ?_⟩) hHeld ?_
                            rotate_left
                            · (intro w hSw; (try dsimp only at hSw); go_simp; first | done | with_reducible rfl)
                            simp only [Act.put, List.setIfInBounds_toArray, List.set_cons_zero, List.set_cons_succ]
                            refine wpAnyH_take (i := 18) (oi := { dst := some 114, op := Op.move (Operand.tmp 15), type := 3, pos := "rest.go:73", after := #[{ on := 15, ground := Ground.guard }], guard := some (15, false) }) (v := ?_) rfl (by kernel_rfl) (by kernel_rfl) (by kernel_rfl) (fun _ _ _ h => h) (Or.inl ⟨by rfl, ?_⟩) hHeld ?_
                            rotate_left
                            · (intro w hSw; (try dsimp only at hSw); go_simp; first | done | with_reducible rfl)
                            simp only [Act.put, List.setIfInBounds_toArray, List.set_cons_zero, List.set_cons_succ]
                            refine wpAnyH_take (i := 19) (oi := { dst := some 115, op := Op.indexAddr 27 (Operand.tmp 113) (Operand.tmp 114), type := 0, pos := "rest.go:73", after := #[{ on := 17, ground := Ground.data }, { on := 18, ground := Ground.data }, { on := 15, ground := Ground.guard }], guard := some (15, false) }) (v := ?_) rfl (by kernel_rfl) (by kernel_rfl) (by kernel_rfl) (fun _ _ _ h => h) (Or.inl ⟨by rfl, ?_⟩) hHeld ?_
                            rotate_left
                            · (intro w hSw; (try dsimp only at hSw); go_simp; first | done | with_reducible rfl)
                            simp only [Act.put, List.setIfInBounds_toArray, List.set_cons_zero, List.set_cons_succ]
                            refine wpAnyH_take (i := 20) (oi := { dst := some 116, op := Op.fieldAddr 59 (Operand.tmp 115) 0, type := 0, pos := "rest.go:73", after := #[{ on := 19, ground := Ground.data }, { on := 15, ground := Ground.guard }], guard := some (15, false) }) (v := ?_) rfl (by kernel_rfl) (by kernel_rfl) (by kernel_rfl) (fun _ _ _ h => h) (Or.inl ⟨by rfl, ?_⟩) hHeld ?_
                            rotate_left
                            · (intro w hSw; (try dsimp only at hSw); go_simp; first | done | with_reducible rfl)
                            simp only [Act.put, List.setIfInBounds_toArray, List.set_cons_zero, List.set_cons_succ]
                            refine wpAnyH_take (i := 21) (oi := { dst := some 117, op := Op.fieldAddr 53 (Operand.tmp 116) 0, type := 0, pos := "rest.go:73", after := #[{ on := 20, ground := Ground.data }, { on := 15, ground := Ground.guard }], guard := some (15, false) }) (v := ?_) rfl (by kernel_rfl) (by kernel_rfl) (by kernel_rfl) (fun _ _ _ h => h) (Or.inl ⟨by rfl, ?_⟩) hHeld ?_
                            rotate_left
                            · (intro w hSw; (try dsimp only at hSw); go_simp; first | done | with_reducible rfl)
                            simp only [Act.put, List.setIfInBounds_toArray, List.set_cons_zero, List.set_cons_succ]
                            refine wpAnyH_take (i := 22) (oi := { dst := some 118, op := Op.load 3 (Operand.tmp 117), type := 3, pos := "rest.go:73", after := #[{ on := 21, ground := Ground.data }, { on := 15, ground := Ground.guard }], guard := some (15, false) }) (v := ?_) rfl (by kernel_rfl) (by kernel_rfl) (by kernel_rfl) (fun _ _ _ h => h) (Or.inl ⟨by rfl, ?_⟩) hHeld ?_
                            rotate_left
                            · (intro w hSw; (try dsimp only at hSw); go_simp; first | done | with_reducible rfl)
                            simp only [Act.put, List.setIfInBounds_toArray, List.set_cons_zero, List.set_cons_succ]
                            refine wpAnyH_take (i := 23) (oi := { dst := some 119, op := Op.move (Operand.tmp 1), type := 3, pos := "rest.go:73", after := #[{ on := 15, ground := Ground.guard }], guard := some (15, false) }) (v := ?_) rfl (by kernel_rfl) (by kernel_rfl) (by kernel_rfl) (fun _ _ _ h => h) (Or.inl ⟨by rfl, ?_⟩) hHeld ?_
                            rotate_left
                            · (intro w hSw; (try dsimp only at hSw); go_simp; first | done | with_reducible rfl)
                            simp only [Act.put, List.setIfInBounds_toArray, List.set_cons_zero, List.set_cons_succ]
                            refine wpAnyH_take (i := 24) (oi := { dst := some 120, op := Op.binOp BinOp.eql 3 (Operand.tmp 118) (Operand.tmp 119) 3, type := 4, pos := "rest.go:73", after := #[{ on := 22, ground := Ground.data }, { on := 23, ground := Ground.data }, { on := 15, ground := Ground.guard }], guard := some (15, false) }) (v := ?_) rfl (by kernel_rfl) (by kernel_rfl) (by kernel_rfl) (fun _ _ _ h => h) (Or.inl ⟨by rfl, ?_⟩) hHeld ?_
                            rotate_left
                            · (intro w hSw; (try dsimp only at hSw); go_simp; first | done | with_reducible rfl)
                            simp only [Act.put, List.setIfInBounds_toArray, List.set_cons_zero, List.set_cons_succ]
                            refine wpAnyH_take (i := 25) (oi := { dst := some 121, op := Op.move (Operand.tmp 120), type := 4, pos := "rest.go:73", after := #[{ on := 24, ground := Ground.data }, { on := 15, ground := Ground.chain }, { on := 15, ground := Ground.guard }], guard := some (15, false) }) (v := ?_) rfl (by kernel_rfl) (by kernel_rfl) (by kernel_rfl) (fun _ _ _ h => h) (Or.inl ⟨by rfl, ?_⟩) hHeld ?_
                            rotate_left
                            · (intro w hSw; (try dsimp only at hSw); go_simp; first | done | with_reducible rfl)
                            simp only [Act.put, List.setIfInBounds_toArray, List.set_cons_zero, List.set_cons_succ]
                            refine wpAnyH_take (i := 26) (oi := { dst := some 122, op := Op.fieldAddr 29 (Operand.tmp 12) 1, type := 0, pos := "rest.go:73", after := #[{ on := 25, ground := Ground.guard }], guard := some (25, true) }) (v := ?_) rfl (by kernel_rfl) (by kernel_rfl) (by kernel_rfl) (fun _ _ _ h => h) (Or.inl ⟨by rfl, ?_⟩) hHeld ?_
                            rotate_left
                            · (intro w hSw; (try dsimp only at hSw); go_simp; first | done | with_reducible rfl)
                            simp only [Act.put, List.setIfInBounds_toArray, List.set_cons_zero, List.set_cons_succ]
                            refine wpAnyH_take (i := 27) (oi := { dst := some 123, op := Op.load 27 (Operand.tmp 122), type := 27, pos := "rest.go:73", after := #[{ on := 26, ground := Ground.data }, { on := 25, ground := Ground.guard }], guard := some (25, true) }) (v := ?_) rfl (by kernel_rfl) (by kernel_rfl) (by kernel_rfl) (fun _ _ _ h => h) (Or.inl ⟨by rfl, ?_⟩) hHeld ?_
                            rotate_left
                            · (intro w hSw; (try dsimp only at hSw); go_simp; first | done | with_reducible rfl)
                            simp only [Act.put, List.setIfInBounds_toArray, List.set_cons_zero, List.set_cons_succ]
                            refine wpAnyH_take (i := 28) (oi := { dst := some 124, op := Op.move (Operand.tmp 15), type := 3, pos := "rest.go:73", after := #[{ on := 25, ground := Ground.guard }], guard := some (25, true) }) (v := ?_) rfl (by kernel_rfl) (by kernel_rfl) (by kernel_rfl) (fun _ _ _ h => h) (Or.inl ⟨by rfl, ?_⟩) hHeld ?_
                            rotate_left
                            · (intro w hSw; (try dsimp only at hSw); go_simp; first | done | with_reducible rfl)
                            simp only [Act.put, List.setIfInBounds_toArray, List.set_cons_zero, List.set_cons_succ]
                            refine wpAnyH_take (i := 29) (oi := { dst := some 125, op := Op.indexAddr 27 (Operand.tmp 123) (Operand.tmp 124), type := 0, pos := "rest.go:73", after := #[{ on := 27, ground := Ground.data }, { on := 28, ground := Ground.data }, { on := 25, ground := Ground.guard }], guard := some (25, true) }) (v := ?_) rfl (by kernel_rfl) (by kernel_rfl) (by kernel_rfl) (fun _ _ _ h => h) (Or.inl ⟨by rfl, ?_⟩) hHeld ?_
                            rotate_left
                            · (intro w hSw; (try dsimp only at hSw); go_simp; first | done | with_reducible rfl)
                            simp only [Act.put, List.setIfInBounds_toArray, List.set_cons_zero, List.set_cons_succ]
                            refine wpAnyH_take (i := 30) (oi := { dst := some 126, op := Op.fieldAddr 59 (Operand.tmp 125) 0, type := 0, pos := "rest.go:73", after := #[{ on := 29, ground := Ground.data }, { on := 25, ground := Ground.guard }], guard := some (25, true) }) (v := ?_) rfl (by kernel_rfl) (by kernel_rfl) (by kernel_rfl) (fun _ _ _ h => h) (Or.inl ⟨by rfl, ?_⟩) hHeld ?_
                            rotate_left
                            · (intro w hSw; (try dsimp only at hSw); go_simp; first | done | with_reducible rfl)
                            simp only [Act.put, List.setIfInBounds_toArray, List.set_cons_zero, List.set_cons_succ]
                            refine wpAnyH_take (i := 31) (oi := { dst := some 127, op := Op.fieldAddr 53 (Operand.tmp 126) 1, type := 0, pos := "rest.go:73", after := #[{ on := 30, ground := Ground.data }, { on := 25, ground := Ground.guard }], guard := some (25, true) }) (v := ?_) rfl (by kernel_rfl) (by kernel_rfl) (by kernel_rfl) (fun _ _ _ h => h) (Or.inl ⟨by rfl, ?_⟩) hHeld ?_
                            rotate_left
                            · (intro w hSw; (try dsimp only at hSw); go_simp; first | done | with_reducible rfl)
                            simp only [Act.put, List.setIfInBounds_toArray, List.set_cons_zero, List.set_cons_succ]
                            refine wpAnyH_take (i := 32) (oi := { dst := some 128, op := Op.load 35 (Operand.tmp 127), type := 35, pos := "rest.go:73", after := #[{ on := 31, ground := Ground.data }, { on := 25, ground := Ground.guard }], guard := some (25, true) }) (v := ?_) rfl (by kernel_rfl) (by kernel_rfl) (by kernel_rfl) (fun _ _ _ h => h) (Or.inl ⟨by rfl, ?_⟩) hHeld ?_
                            rotate_left
                            · (intro w hSw; (try dsimp only at hSw); go_simp; first | done | with_reducible rfl)
                            simp only [Act.put, List.setIfInBounds_toArray, List.set_cons_zero, List.set_cons_succ]
                            refine wpAnyH_take (i := 33) (oi := { dst := some 129, op := Op.load 35 (Operand.tmp 7), type := 35, pos := "rest.go:73", after := #[{ on := 25, ground := Ground.guard }], guard := some (25, true) }) (v := ?_) rfl (by kernel_rfl) (by kernel_rfl) (by kernel_rfl) (fun _ _ _ h => h) (Or.inl ⟨by rfl, ?_⟩) hHeld ?_
                            rotate_left
                            · (intro w hSw; (try dsimp only at hSw); go_simp; first | done | with_reducible rfl)
                            simp only [Act.put, List.setIfInBounds_toArray, List.set_cons_zero, List.set_cons_succ]
                            refine wpAnyH_ready (rs := [34]) (by kernel_rfl) (by simp) ?_
                            refine (AllReadyH.cons (o := { dst := some 130, op := Op.call { callee := Callee.value (Operand.func 20), args := #[Operand.tmp 128, Operand.tmp 129], argTypes := #[35, 35] }, type := 4, pos := "rest.go:73", after := #[{ on := 32, ground := Ground.data }, { on := 33, ground := Ground.data }, { on := 25, ground := Ground.chain }, { on := 25, ground := Ground.guard }], guard := some (25, true) }) rfl (fun K hK => ?_) AllReadyH.nil)
                            go_simp
                            go_at_call 20
                            refine (refLess_any ae le a l _).mono ?_
                            rintro e wd ⟨rfl, hb7⟩
                            have KK34 := And.intro (held_c hHeld.1 hb7) (And.intro (held_c hHeld.2.1 hb7) (And.intro (held_c hHeld.2.2.1 hb7) (And.intro (held_c hHeld.2.2.2.1 hb7) (And.intro (held_c hHeld.2.2.2.2.1 hb7) (held_c hHeld.2.2.2.2.2 hb7)))))
                            have d0 : wd.cell? ⟨g, i * 5, none⟩ = _ := held_c (w := wr.drew) a0 hb7
                            have d1 : wd.cell? ⟨g, i * 5 + 1, none⟩ = _ := held_c (w := wr.drew) a1 hb7
                            have d2 : wd.cell? ⟨g, i * 5 + 2, none⟩ = _ := held_c (w := wr.drew) a2 hb7
                            have d3 : wd.cell? ⟨g, i * 5 + 3, none⟩ = _ := held_c (w := wr.drew) a3 hb7
                            have d4 : wd.cell? ⟨g, i * 5 + 4, none⟩ = _ := held_c (w := wr.drew) a4 hb7
                            have z1' : wd.cell? ⟨ba, 1, none⟩ = _ := held_c (w := wr.drew) z1 hb7
                            have BD := Lib.hid (hB.out.drew.trans (hb7.mono hB.out.drew.size))
                            have OD := Lib.hid (hO.out.drew.keep hb7)
                            rw [HLS.out]
                            clear hHeld hb7 a0 a1 a2 a3 a4 z0 z1 n0 n1
                            go_wp2_with fail
                            refine hK.out _ _ KK34 (fun hHeld => ?_)
                            clear hK K
                            refine wpAnyH_take (i := 35) (oi := { dst := some 131, op := Op.pick (Operand.tmp 121) (Operand.tmp 130) (Operand.const (Value.bool false)), type := 4, pos := "rest.go:73", after := #[{ on := 25, ground := Ground.data }, { on := 34, ground := Ground.data }, { on := 15, ground := Ground.guard }], guard := some (15, false) }) (v := ?_) rfl (by kernel_rfl) (by kernel_rfl) (by kernel_rfl) (fun _ _ _ h => h) (Or.inl ⟨by rfl, ?_⟩) hHeld ?_
                            rotate_left
                            · (intro w hSw; (try dsimp only at hSw); go_simp; first | done | with_reducible rfl)
                            simp only [Act.put, List.setIfInBounds_toArray, List.set_cons_zero, List.set_cons_succ]
                            refine wpAnyH_take (i := 36) (oi := { dst := some 132, op := Op.pick (Operand.tmp 111) (Operand.const (Value.bool true)) (Operand.tmp 131), type := 4, pos := "rest.go:73", after := #[{ on := 15, ground := Ground.data }, { on := 35, ground := Ground.data }, { on := 5, ground := Ground.guard }], guard := some (5, true) }) (v := ?_) rfl (by kernel_rfl) (by kernel_rfl) (by kernel_rfl) (fun _ _ _ h => h) (Or.inl ⟨by rfl, ?_⟩) hHeld ?_
                            rotate_left
                            · (intro w hSw; (try dsimp only at hSw); go_simp; first | done | with_reducible rfl)
                            simp only [Act.put, List.setIfInBounds_toArray, List.set_cons_zero, List.set_cons_succ]
                            refine wpAnyH_take (i := 37) (oi := { dst := some 133, op := Op.pick (Operand.tmp 101) (Operand.tmp 132) (Operand.const (Value.bool false)), type := 4, pos := "rest.go:73", after := #[{ on := 5, ground := Ground.data }, { on := 36, ground := Ground.data }], guard := none }) (v := ?_) rfl (by kernel_rfl) (by kernel_rfl) (by kernel_rfl) (fun _ _ _ h => h) (Or.inl ⟨by rfl, ?_⟩) hHeld ?_
                            rotate_left
                            · (intro w hSw; (try dsimp only at hSw); go_simp; first | done | with_reducible rfl)
                            simp only [Act.put, List.setIfInBounds_toArray, List.set_cons_zero, List.set_cons_succ]
                            refine wpAnyH_done (by kernel_rfl) ?_ _
                            clear hHeld
                            have O1 := Lib.hid (OD.out.keep ((Below.refl wd.heap.size wd).alloc (Nat.le_refl _) (.cells #[.int .i64 fe, .int .u32 (ae : Int), .int .i64 le, .int .i64 me, .int .i64 te] 59)))
                            go_wp2_with (at_builtin; refine wpList_plain rfl fun K' hK' => ?_; refine wp_append_L1 tyT _ _ rfl wo.heap.size _ (A.take i) ⟨⟨fe, (ae, le), me⟩, te⟩ wd.heap.size 1 rfl rfl O1.out (LAt.ofRt (by simp) (by simp) (by simp) (by simp) (by simp)) (by have := hl6; rw [List.length_take]; omega) (by have := hl6; rw [List.length_take]; simp only [maxLen]; omega) (by have := BD.out.size; simp; omega) ?qc)
                            case qc =>
                              intro v' w8 hO8 hA8
                              refine hK' _ _ ?_
                              have BB := (Below.refl wd.heap.size wd).alloc (Nat.le_refl _) (.cells #[.int .i64 fe, .int .u32 (ae : Int), .int .i64 le, .int .i64 me, .int .i64 te] 59)
                              have B8 := Lib.hid ((BD.out.trans (BB.mono BD.out.size)).trans (hA8.keep.below (fun b e => (O1.out.lt b e).1) (by have := BD.out.size; simp; omega)))
                              have O8 := Lib.hid (show LOwn 59 w8 wo.heap.size v' (A.take (i + 1)) by rw [take_more A i hin, ← HEK.out]; exact hO8)
                              clear hO8 hA8 BB
                              go_wp2_with fail
                              go_roundw
                              case rel => exact ⟨i + 1, by go_num, by omega, B8, O8, Lib.hid fun j hj => (Nat.lt_succ_iff_lt_or_eq.1 hj).elim (HI.out j) (fun e => e ▸ HLT.out)⟩
                              case measure => simp [RowKit.intOf]; omega
                          · have h3' : PrefP.less ae le a l = false := by simpa using h3
                            have HLS := Lib.hid h3'
                            have HNL := Lib.hid (show i < A.length → Hd.lt A[i]!.h (Rt.h ⟨⟨fe, (a, l), m⟩, t⟩) = false from fun _ => by rw [← HEK.out]; unfold Hd.lt; rw [if_pos rfl]; exact h3')
                            clear h3 h3'
                            go_wp2_with fail
                            refine wp_region_held_drew (S := (fun w' => w'.cell? ⟨ba, 1, none⟩ = some (.slice (some ⟨g, 0, none⟩) A.length c3) ∧ w'.cell? ⟨g, i * 5, none⟩ = some (.int .i64 fe) ∧ w'.cell? ⟨g, i * 5 + 1, none⟩ = some (.int .u32 (ae : Int)) ∧ w'.cell? ⟨g, i * 5 + 2, none⟩ = some (.int .i64 le) ∧ w'.cell? ⟨w.heap.size + 1, 0, none⟩ = some (.int .u32 (a : Int)) ∧ w'.cell? ⟨w.heap.size + 1, 1, none⟩ = some (.int .i64 l))) (by kernel_rfl) ⟨z1, a0, a1, a2, n0, n1⟩ (fun hHeld => ?_)
                            refine wpAnyH_take (i := 0) (oi := { dst := some 96, op := Op.move (Operand.tmp 15), type := 3, pos := "rest.go:73", after := #[], guard := none }) (v := ?_) rfl (by kernel_rfl) (by kernel_rfl) (by kernel_rfl) (fun _ _ _ h => h) (Or.inl ⟨by rfl, ?_⟩) hHeld ?_
                            rotate_left
                            · (intro w hSw; (try dsimp only at hSw); go_simp; first | done | with_reducible rfl)
                            simp only [Act.put, List.setIfInBounds_toArray, List.set_cons_zero, List.set_cons_succ]
                            refine wpAnyH_take (i := 1) (oi := { dst := some 97, op := Op.fieldAddr 29 (Operand.tmp 12) 1, type := 0, pos := "rest.go:73", after := #[], guard := none }) (v := ?_) rfl (by kernel_rfl) (by kernel_rfl) (by kernel_rfl) (fun _ _ _ h => h) (Or.inl ⟨by rfl, ?_⟩) hHeld ?_
                            rotate_left
                            · (intro w hSw; (try dsimp only at hSw); go_simp; first | done | with_reducible rfl)
                            simp only [Act.put, List.setIfInBounds_toArray, List.set_cons_zero, List.set_cons_succ]
                            refine wpAnyH_take (i := 2) (oi := { dst := some 98, op := Op.load 27 (Operand.tmp 97), type := 27, pos := "rest.go:73", after := #[{ on := 1, ground := Ground.data }], guard := none }) (v := ?_) rfl (by kernel_rfl) (by kernel_rfl) (by kernel_rfl) (fun _ _ _ h => h) (Or.inl ⟨by rfl, ?_⟩) hHeld ?_
                            rotate_left
                            · (intro w hSw; (try dsimp only at hSw); go_simp; first | done | with_reducible rfl)
                            simp only [Act.put, List.setIfInBounds_toArray, List.set_cons_zero, List.set_cons_succ]
                            refine wpAnyH_take (i := 3) (oi := { dst := some 99, op := Op.call { callee := Callee.builtin Builtin.len, args := #[Operand.tmp 98], argTypes := #[27] }, type := 3, pos := "rest.go:73", after := #[{ on := 2, ground := Ground.data }], guard := none }) (v := ?_) rfl (by kernel_rfl) (by kernel_rfl) (by kernel_rfl) (fun _ _ _ h => h) (Or.inl ⟨by rfl, ?_⟩) hHeld ?_
                            rotate_left
                            · (intro w hSw; (try dsimp only at hSw); go_simp; first | done | with_reducible rfl)
                            simp only [Act.put, List.setIfInBounds_toArray, List.set_cons_zero, List.set_cons_succ]
                            refine wpAnyH_take (i := 4) (oi := { dst := some 100, op := Op.binOp BinOp.lss 3 (Operand.tmp 96) (Operand.tmp 99) 3, type := 4, pos := "rest.go:73", after := #[{ on := 0, ground := Ground.data }, { on := 3, ground := Ground.data }], guard := none }) (v := ?_) rfl (by kernel_rfl) (by kernel_rfl) (by kernel_rfl) (fun _ _ _ h => h) (Or.inl ⟨by rfl, ?_⟩) hHeld ?_
                            rotate_left
                            · (intro w hSw; (try dsimp only at hSw); go_simp; first | done | with_reducible rfl)
                            simp only [Act.put, List.setIfInBounds_toArray, List.set_cons_zero, List.set_cons_succ]
                            refine wpAnyH_take (i := 5) (oi := { dst := some 101, op := Op.move (Operand.tmp 100), type := 4, pos := "rest.go:73", after := #[{ on := 4, ground := Ground.data }], guard := none }) (v := ?_) rfl (by kernel_rfl) (by kernel_rfl) (by kernel_rfl) (fun _ _ _ h => h) (Or.inl ⟨by rfl, ?_⟩) hHeld ?_
                            rotate_left
                            · (intro w hSw; (try dsimp only at hSw); go_simp; first | done | with_reducible rfl)
                            simp only [Act.put, List.setIfInBounds_toArray, List.set_cons_zero, List.set_cons_succ]
                            refine wpAnyH_take (i := 6) (oi := { dst := some 102, op := Op.fieldAddr 29 (Operand.tmp 12) 1, type := 0, pos := "rest.go:73", after := #[{ on := 5, ground := Ground.guard }], guard := some (5, true) }) (v := ?_) rfl (by kernel_rfl) (by kernel_rfl) (by kernel_rfl) (fun _ _ _ h => h) (Or.inl ⟨by rfl, ?_⟩) hHeld ?_
                            rotate_left
                            · (intro w hSw; (try dsimp only at hSw); go_simp; first | done | with_reducible rfl)
                            simp only [Act.put, List.setIfInBounds_toArray, List.set_cons_zero, List.set_cons_succ]
                            refine wpAnyH_take (i := 7) (oi := { dst := some 103, op := Op.load 27 (Operand.tmp 102), type := 27, pos := "rest.go:73", after := #[{ on := 6, ground := Ground.data }, { on := 5, ground := Ground.guard }], guard := some (5, true) }) (v := ?_) rfl (by kernel_rfl) (by kernel_rfl) (by kernel_rfl) (fun _ _ _ h => h) (Or.inl ⟨by rfl, ?_⟩) hHeld ?_
                            rotate_left
                            · (intro w hSw; (try dsimp only at hSw); go_simp; first | done | with_reducible rfl)
                            simp only [Act.put, List.setIfInBounds_toArray, List.set_cons_zero, List.set_cons_succ]
                            refine wpAnyH_take (i := 8) (oi := { dst := some 104, op := Op.move (Operand.tmp 15), type := 3, pos := "rest.go:73", after := #[{ on := 5, ground := Ground.guard }], guard := some (5, true) }) (v := ?_) rfl (by kernel_rfl) (by kernel_rfl) (by kernel_rfl) (fun _ _ _ h => h) (Or.inl ⟨by rfl, ?_⟩) hHeld ?_
                            rotate_left
                            · (intro w hSw; (try dsimp only at hSw); go_simp; first | done | with_reducible rfl)
                            simp only [Act.put, List.setIfInBounds_toArray, List.set_cons_zero, List.set_cons_succ]
                            refine wpAnyH_take (i := 9) (oi := { dst := some 105, op := Op.indexAddr 27 (Operand.tmp 103) (Operand.tmp 104), type := 0, pos := "rest.go:73", after := #[{ on := 7, ground := Ground.data }, { on := 8, ground := Ground.data }, { on := 5, ground := Ground.guard }], guard := some (5, true) }) (v := ?_) rfl (by kernel_rfl) (by kernel_rfl) (by kernel_rfl) (fun _ _ _ h => h) (Or.inl ⟨by rfl, ?_⟩) hHeld ?_
                            rotate_left
                            · (intro w hSw; (try dsimp only at hSw); go_simp; first | done | with_reducible rfl)
                            simp only [Act.put, List.setIfInBounds_toArray, List.set_cons_zero, List.set_cons_succ]
                            refine wpAnyH_take (i := 10) (oi := { dst := some 106, op := Op.fieldAddr 59 (Operand.tmp 105) 0, type := 0, pos := "rest.go:73", after := #[{ on := 9, ground := Ground.data }, { on := 5, ground := Ground.guard }], guard := some (5, true) }) (v := ?_) rfl (by kernel_rfl) (by kernel_rfl) (by kernel_rfl) (fun _ _ _ h => h) (Or.inl ⟨by rfl, ?_⟩) hHeld ?_
                            rotate_left
                            · (intro w hSw; (try dsimp only at hSw); go_simp; first | done | with_reducible rfl)
                            simp only [Act.put, List.setIfInBounds_toArray, List.set_cons_zero, List.set_cons_succ]
                            refine wpAnyH_take (i := 11) (oi := { dst := some 107, op := Op.fieldAddr 53 (Operand.tmp 106) 0, type := 0, pos := "rest.go:73", after := #[{ on := 10, ground := Ground.data }, { on := 5, ground := Ground.guard }], guard := some (5, true) }) (v := ?_) rfl (by kernel_rfl) (by kernel_rfl) (by kernel_rfl) (fun _ _ _ h => h) (Or.inl ⟨by rfl, ?_⟩) hHeld ?_
                            rotate_left
                            · (intro w hSw; (try dsimp only at hSw); go_simp; first | done | with_reducible rfl)
                            simp only [Act.put, List.setIfInBounds_toArray, List.set_cons_zero, List.set_cons_succ]
                            refine wpAnyH_take (i := 12) (oi := { dst := some 108, op := Op.load 3 (Operand.tmp 107), type := 3, pos := "rest.go:73", after := #[{ on := 11, ground := Ground.data }, { on := 5, ground := Ground.guard }], guard := some (5, true) }) (v := ?_) rfl (by kernel_rfl) (by kernel_rfl) (by kernel_rfl) (fun _ _ _ h => h) (Or.inl ⟨by rfl, ?_⟩) hHeld ?_
                            rotate_left
                            · (intro w hSw; (try dsimp only at hSw); go_simp; first | done | with_reducible rfl)
                            simp only [Act.put, List.setIfInBounds_toArray, List.set_cons_zero, List.set_cons_succ]
                            refine wpAnyH_take (i := 13) (oi := { dst := some 109, op := Op.move (Operand.tmp 1), type := 3, pos := "rest.go:73", after := #[{ on := 5, ground := Ground.guard }], guard := some (5, true) }) (v := ?_) rfl (by kernel_rfl) (by kernel_rfl) (by kernel_rfl) (fun _ _ _ h => h) (Or.inl ⟨by rfl, ?_⟩) hHeld ?_
                            rotate_left
                            · (intro w hSw; (try dsimp only at hSw); go_simp; first | done | with_reducible rfl)
                            simp only [Act.put, List.setIfInBounds_toArray, List.set_cons_zero, List.set_cons_succ]
                            refine wpAnyH_take (i := 14) (oi := { dst := some 110, op := Op.binOp BinOp.lss 3 (Operand.tmp 108) (Operand.tmp 109) 3, type := 4, pos := "rest.go:73", after := #[{ on := 12, ground := Ground.data }, { on := 13, ground := Ground.data }, { on := 5, ground := Ground.guard }], guard := some (5, true) }) (v := ?_) rfl (by kernel_rfl) (by kernel_rfl) (by kernel_rfl) (fun _ _ _ h => h) (Or.inl ⟨by rfl, ?_⟩) hHeld ?_
                            rotate_left
                            · (intro w hSw; (try dsimp only at hSw); go_simp; first | done | with_reducible rfl)
                            simp only [Act.put, List.setIfInBounds_toArray, List.set_cons_zero, List.set_cons_succ]
                            refine wpAnyH_take (i := 15) (oi := { dst := some 111, op := Op.move (Operand.tmp 110), type := 4, pos := "rest.go:73", after := #[{ on := 14, ground := Ground.data }, { on := 5, ground := Ground.chain }, { on := 5, ground := Ground.guard }], guard := some (5, true) }) (v := ?_) rfl (by kernel_rfl) (by kernel_rfl) (by kernel_rfl) (fun _ _ _ h => h) (Or.inl ⟨by rfl, ?_⟩) hHeld ?_
                            rotate_left
                            · (intro w hSw; (try dsimp only at hSw); go_simp; first | done | with_reducible rfl)
                            simp only [Act.put, List.setIfInBounds_toArray, List.set_cons_zero, List.set_cons_succ]
                            refine wpAnyH_take (i := 16) (oi := { dst := some 112, op := Op.fieldAddr 29 (Operand.tmp 12) 1, type := 0, pos := "rest.go:73", after := #[{ on := 15, ground := Ground.guard }], guard := some (15, false) }) (v := ?_) rfl (by kernel_rfl) (by kernel_rfl) (by kernel_rfl) (fun _ _ _ h => h) (Or.inl ⟨by rfl, ?_⟩) hHeld ?_
                            rotate_left
                            · (intro w hSw; (try dsimp only at hSw); go_simp; first | done | with_reducible rfl)
                            simp only [Act.put, List.setIfInBounds_toArray, List.set_cons_zero, List.set_cons_succ]
                            refine wpAnyH_take (i := 17) (oi := { dst := some 113, op := Op.load 27 (Operand.tmp 112), type := 27, pos := "rest.go:73", after := #[{ on := 16, ground := Ground.data }, { on := 15, ground := Ground.guard }], guard := some (15, false) }) (v := ?_) rfl (by kernel_rfl) (by kernel_rfl) (by kernel_rfl) (fun _ _ _ h => h) (Or.inl ⟨by rfl, ?_⟩) hHeld ?_
                            rotate_left
                            · (intro w hSw; (try dsimp only at hSw); go_simp; first | done | with_reducible rfl)
                            simp only [Act.put, List.setIfInBounds_toArray, List.set_cons_zero, List.set_cons_succ]
                            refine wpAnyH_take (i := 18) (oi := { dst := some 114, op := Op.move (Operand.tmp 15), type := 3, pos := "rest.go:73", after := #[{ on := 15, ground := Ground.guard }], guard := some (15, false) }) (v := ?_) rfl (by kernel_rfl) (by kernel_rfl) (by kernel_rfl) (fun _ _ _ h => h) (Or.inl ⟨by rfl, ?_⟩) hHeld ?_
                            rotate_left
                            · (intro w hSw; (try dsimp only at hSw); go_simp; first | done | with_reducible rfl)
                            simp only [Act.put, List.setIfInBounds_toArray, List.set_cons_zero, List.set_cons_succ]
                            refine wpAnyH_take (i := 19) (oi := { dst := some 115, op := Op.indexAddr 27 (Operand.tmp 113) (Operand.tmp 114), type := 0, pos := "rest.go:73", after := #[{ on := 17, ground := Ground.data }, { on := 18, ground := Ground.data }, { on := 15, ground := Ground.guard }], guard := some (15, false) }) (v := ?_) rfl (by kernel_rfl) (by kernel_rfl) (by kernel_rfl) (fun _ _ _ h => h) (Or.inl ⟨by rfl, ?_⟩) hHeld ?_
                            rotate_left
                            · (intro w hSw; (try dsimp only at hSw); go_simp; first | done | with_reducible rfl)
                            simp only [Act.put, List.setIfInBounds_toArray, List.set_cons_zero, List.set_cons_succ]
                            refine wpAnyH_take (i := 20) (oi := { dst := some 116, op := Op.fieldAddr 59 (Operand.tmp 115) 0, type := 0, pos := "rest.go:73", after := #[{ on := 19, ground := Ground.data }, { on := 15, ground := Ground.guard }], guard := some (15, false) }) (v := ?_) rfl (by kernel_rfl) (by kernel_rfl) (by kernel_rfl) (fun _ _ _ h => h) (Or.inl ⟨by rfl, ?_⟩) hHeld ?_
                            rotate_left
                            · (intro w hSw; (try dsimp only at hSw); go_simp; first | done | with_reducible rfl)
                            simp only [Act.put, List.setIfInBounds_toArray, List.set_cons_zero, List.set_cons_succ]
                            refine wpAnyH_take (i := 21) (oi := { dst := some 117, op := Op.fieldAddr 53 (Operand.tmp 116) 0, type := 0, pos := "rest.go:73", after := #[{ on := 20, ground := Ground.data }, { on := 15, ground := Ground.guard }], guard := some (15, false) }) (v := ?_) rfl (by kernel_rfl) (by kernel_rfl) (by kernel_rfl) (fun _ _ _ h => h) (Or.inl ⟨by rfl, ?_⟩) hHeld ?_
                            rotate_left
                            · (intro w hSw; (try dsimp only at hSw); go_simp; first | done | with_reducible rfl)
                            simp only [Act.put, List.setIfInBounds_toArray, List.set_cons_zero, List.set_cons_succ]
                            refine wpAnyH_take (i := 22) (oi := { dst := some 118, op := Op.load 3 (Operand.tmp 117), type := 3, pos := "rest.go:73", after := #[{ on := 21, ground := Ground.data }, { on := 15, ground := Ground.guard }], guard := some (15, false) }) (v := ?_) rfl (by kernel_rfl) (by kernel_rfl) (by kernel_rfl) (fun _ _ _ h => h) (Or.inl ⟨by rfl, ?_⟩) hHeld ?_
                            rotate_left
                            · (intro w hSw; (try dsimp only at hSw); go_simp; first | done | with_reducible rfl)
                            simp only [Act.put, List.setIfInBounds_toArray, List.set_cons_zero, List.set_cons_succ]
                            refine wpAnyH_take (i := 23) (oi := { dst := some 119, op := Op.move (Operand.tmp 1), type := 3, pos := "rest.go:73", after := #[{ on := 15, ground := Ground.guard }], guard := some (15, false) }) (v := ?_) rfl (by kernel_rfl) (by kernel_rfl) (by kernel_rfl) (fun _ _ _ h => h) (Or.inl ⟨by rfl, ?_⟩) hHeld ?_
                            rotate_left
                            · (intro w hSw; (try dsimp only at hSw); go_simp; first | done | with_reducible rfl)
                            simp only [Act.put, List.setIfInBounds_toArray, List.set_cons_zero, List.set_cons_succ]
                            refine wpAnyH_take (i := 24) (oi := { dst := some 120, op := Op.binOp BinOp.eql 3 (Operand.tmp 118) (Operand.tmp 119) 3, type := 4, pos := "rest.go:73", after := #[{ on := 22, ground := Ground.data }, { on := 23, ground := Ground.data }, { on := 15, ground := Ground.guard }], guard := some (15, false) }) (v := ?_) rfl (by kernel_rfl) (by kernel_rfl) (by kernel_rfl) (fun _ _ _ h => h) (Or.inl ⟨by rfl, ?_⟩) hHeld ?_
                            rotate_left
                            · (intro w hSw; (try dsimp only at hSw); go_simp; first | done | with_reducible rfl)
                            simp only [Act.put, List.setIfInBounds_toArray, List.set_cons_zero, List.set_cons_succ]
                            refine wpAnyH_take (i := 25) (oi := { dst := some 121, op := Op.move (Operand.tmp 120), type := 4, pos := "rest.go:73", after := #[{ on := 24, ground := Ground.data }, { on := 15, ground := Ground.chain }, { on := 15, ground := Ground.guard }], guard := some (15, false) }) (v := ?_) rfl (by kernel_rfl) (by kernel_rfl) (by kernel_rfl) (fun _ _ _ h => h) (Or.inl ⟨by rfl, ?_⟩) hHeld ?_
                            rotate_left
                            · (intro w hSw; (try dsimp only at hSw); go_simp; first | done | with_reducible rfl)
                            simp only [Act.put, List.setIfInBounds_toArray, List.set_cons_zero, List.set_cons_succ]
                            refine wpAnyH_take (i := 26) (oi := { dst := some 122, op := Op.fieldAddr 29 (Operand.tmp 12) 1, type := 0, pos := "rest.go:73", after := #[{ on := 25, ground := Ground.guard }], guard := some (25, true) }) (v := ?_) rfl (by kernel_rfl) (by kernel_rfl) (by kernel_rfl) (fun _ _ _ h => h) (Or.inl ⟨by rfl, ?_⟩) hHeld ?_
                            rotate_left
                            · (intro w hSw; (try dsimp only at hSw); go_simp; first | done | with_reducible rfl)
                            simp only [Act.put, List.setIfInBounds_toArray, List.set_cons_zero, List.set_cons_succ]
                            refine wpAnyH_take (i := 27) (oi := { dst := some 123, op := Op.load 27 (Operand.tmp 122), type := 27, pos := "rest.go:73", after := #[{ on := 26, ground := Ground.data }, { on := 25, ground := Ground.guard }], guard := some (25, true) }) (v := ?_) rfl (by kernel_rfl) (by kernel_rfl) (by kernel_rfl) (fun _ _ _ h => h) (Or.inl ⟨by rfl, ?_⟩) hHeld ?_
                            rotate_left
                            · (intro w hSw; (try dsimp only at hSw); go_simp; first | done | with_reducible rfl)
                            simp only [Act.put, List.setIfInBounds_toArray, List.set_cons_zero, List.set_cons_succ]
                            refine wpAnyH_take (i := 28) (oi := { dst := some 124, op := Op.move (Operand.tmp 15), type := 3, pos := "rest.go:73", after := #[{ on := 25, ground := Ground.guard }], guard := some (25, true) }) (v := ?_) rfl (by kernel_rfl) (by kernel_rfl) (by kernel_rfl) (fun _ _ _ h => h) (Or.inl ⟨by rfl, ?_⟩) hHeld ?_
                            rotate_left
                            · (intro w hSw; (try dsimp only at hSw); go_simp; first | done | with_reducible rfl)
                            simp only [Act.put, List.setIfInBounds_toArray, List.set_cons_zero, List.set_cons_succ]
                            refine wpAnyH_take (i := 29) (oi := { dst := some 125, op := Op.indexAddr 27 (Operand.tmp 123) (Operand.tmp 124), type := 0, pos := "rest.go:73", after := #[{ on := 27, ground := Ground.data }, { on := 28, ground := Ground.data }, { on := 25, ground := Ground.guard }], guard := some (25, true) }) (v := ?_) rfl (by kernel_rfl) (by kernel_rfl) (by kernel_rfl) (fun _ _ _ h => h) (Or.inl ⟨by rfl, ?_⟩) hHeld ?_
                            rotate_left
                            · (intro w hSw; (try dsimp only at hSw); go_simp; first | done | with_reducible rfl)
                            simp only [Act.put, List.setIfInBounds_toArray, List.set_cons_zero, List.set_cons_succ]
                            refine wpAnyH_take (i := 30) (oi := { dst := some 126, op := Op.fieldAddr 59 (Operand.tmp 125) 0, type := 0, pos := "rest.go:73", after := #[{ on := 29, ground := Ground.data }, { on := 25, ground := Ground.guard }], guard := some (25, true) }) (v := ?_) rfl (by kernel_rfl) (by kernel_rfl) (by kernel_rfl) (fun _ _ _ h => h) (Or.inl ⟨by rfl, ?_⟩) hHeld ?_
                            rotate_left
                            · (intro w hSw; (try dsimp only at hSw); go_simp; first | done | with_reducible rfl)
                            simp only [Act.put, List.setIfInBounds_toArray, List.set_cons_zero, List.set_cons_succ]
                            refine wpAnyH_take (i := 31) (oi := { dst := some 127, op := Op.fieldAddr 53 (Operand.tmp 126) 1, type := 0, pos := "rest.go:73", after := #[{ on := 30, ground := Ground.data }, { on := 25, ground := Ground.guard }], guard := some (25, true) }) (v := ?_) rfl (by kernel_rfl) (by kernel_rfl) (by kernel_rfl) (fun _ _ _ h => h) (Or.inl ⟨by rfl, ?_⟩) hHeld ?_
                            rotate_left
                            · (intro w hSw; (try dsimp only at hSw); go_simp; first | done | with_reducible rfl)
                            simp only [Act.put, List.setIfInBounds_toArray, List.set_cons_zero, List.set_cons_succ]
                            refine wpAnyH_take (i := 32) (oi := { dst := some 128, op := Op.load 35 (Operand.tmp 127), type := 35, pos := "rest.go:73", after := #[{ on := 31, ground := Ground.data }, { on := 25, ground := Ground.guard }], guard := some (25, true) }) (v := ?_) rfl (by kernel_rfl) (by kernel_rfl) (by kernel_rfl) (fun _ _ _ h => h) (Or.inl ⟨by rfl, ?_⟩) hHeld ?_
                            rotate_left
                            · (intro w hSw; (try dsimp only at hSw); go_simp; first | done | with_reducible rfl)
                            simp only [Act.put, List.setIfInBounds_toArray, List.set_cons_zero, List.set_cons_succ]
                            refine wpAnyH_take (i := 33) (oi := { dst := some 129, op := Op.load 35 (Operand.tmp 7), type := 35, pos := "rest.go:73", after := #[{ on := 25, ground := Ground.guard }], guard := some (25, true) }) (v := ?_) rfl (by kernel_rfl) (by kernel_rfl) (by kernel_rfl) (fun _ _ _ h => h) (Or.inl ⟨by rfl, ?_⟩) hHeld ?_
                            rotate_left
                            · (intro w hSw; (try dsimp only at hSw); go_simp; first | done | with_reducible rfl)
                            simp only [Act.put, List.setIfInBounds_toArray, List.set_cons_zero, List.set_cons_succ]
                            refine wpAnyH_ready (rs := [34]) (by kernel_rfl) (by simp) ?_
                            refine (AllReadyH.cons (o := { dst := some 130, op := Op.call { callee := Callee.value (Operand.func 20), args := #[Operand.tmp 128, Operand.tmp 129], argTypes := #[35, 35] }, type := 4, pos := "rest.go:73", after := #[{ on := 32, ground := Ground.data }, { on := 33, ground := Ground.data }, { on := 25, ground := Ground.chain }, { on := 25, ground := Ground.guard }], guard := some (25, true) }) rfl (fun K hK => ?_) AllReadyH.nil)
                            go_simp
                            go_at_call 20
                            refine (refLess_any ae le a l _).mono ?_
                            rintro e wd ⟨rfl, hb7⟩
                            have KK34 := And.intro (held_c hHeld.1 hb7) (And.intro (held_c hHeld.2.1 hb7) (And.intro (held_c hHeld.2.2.1 hb7) (And.intro (held_c hHeld.2.2.2.1 hb7) (And.intro (held_c hHeld.2.2.2.2.1 hb7) (held_c hHeld.2.2.2.2.2 hb7)))))
                            have d0 : wd.cell? ⟨g, i * 5, none⟩ = _ := held_c (w := wr.drew) a0 hb7
                            have d1 : wd.cell? ⟨g, i * 5 + 1, none⟩ = _ := held_c (w := wr.drew) a1 hb7
                            have d2 : wd.cell? ⟨g, i * 5 + 2, none⟩ = _ := held_c (w := wr.drew) a2 hb7
                            have d3 : wd.cell? ⟨g, i * 5 + 3, none⟩ = _ := held_c (w := wr.drew) a3 hb7
                            have d4 : wd.cell? ⟨g, i * 5 + 4, none⟩ = _ := held_c (w := wr.drew) a4 hb7
                            have z1' : wd.cell? ⟨ba, 1, none⟩ = _ := held_c (w := wr.drew) z1 hb7
                            have BD := Lib.hid (hB.out.drew.trans (hb7.mono hB.out.drew.size))
                            have OD := Lib.hid (hO.out.drew.keep hb7)
                            rw [HLS.out]
                            clear hHeld hb7 a0 a1 a2 a3 a4 z0 z1 n0 n1
                            go_wp2_with fail
                            refine hK.out _ _ KK34 (fun hHeld => ?_)
                            clear hK K
                            refine wpAnyH_take (i := 35) (oi := { dst := some 131, op := Op.pick (Operand.tmp 121) (Operand.tmp 130) (Operand.const (Value.bool false)), type := 4, pos := "rest.go:73", after := #[{ on := 25, ground := Ground.data }, { on := 34, ground := Ground.data }, { on := 15, ground := Ground.guard }], guard := some (15, false) }) (v := ?_) rfl (by kernel_rfl) (by kernel_rfl) (by kernel_rfl) (fun _ _ _ h => h) (Or.inl ⟨by rfl, ?_⟩) hHeld ?_
                            rotate_left
                            · (intro w hSw; (try dsimp only at hSw); go_simp; first | done | with_reducible rfl)
                            simp only [Act.put, List.setIfInBounds_toArray, List.set_cons_zero, List.set_cons_succ]
                            refine wpAnyH_take (i := 36) (oi := { dst := some 132, op := Op.pick (Operand.tmp 111) (Operand.const (Value.bool true)) (Operand.tmp 131), type := 4, pos := "rest.go:73", after := #[{ on := 15, ground := Ground.data }, { on := 35, ground := Ground.data }, { on := 5, ground := Ground.guard }], guard := some (5, true) }) (v := ?_) rfl (by kernel_rfl) (by kernel_rfl) (by kernel_rfl) (fun _ _ _ h => h) (Or.inl ⟨by rfl, ?_⟩) hHeld ?_
                            rotate_left
                            · (intro w hSw; (try dsimp only at hSw); go_simp; first | done | with_reducible rfl)
                            simp only [Act.put, List.setIfInBounds_toArray, List.set_cons_zero, List.set_cons_succ]
                            refine wpAnyH_take (i := 37) (oi := { dst := some 133, op := Op.pick (Operand.tmp 101) (Operand.tmp 132) (Operand.const (Value.bool false)), type := 4, pos := "rest.go:73", after := #[{ on := 5, ground := Ground.data }, { on := 36, ground := Ground.data }], guard := none }) (v := ?_) rfl (by kernel_rfl) (by kernel_rfl) (by kernel_rfl) (fun _ _ _ h => h) (Or.inl ⟨by rfl, ?_⟩) hHeld ?_
                            rotate_left
                            · (intro w hSw; (try dsimp only at hSw); go_simp; first | done | with_reducible rfl)
                            simp only [Act.put, List.setIfInBounds_toArray, List.set_cons_zero, List.set_cons_succ]
                            refine wpAnyH_done (by kernel_rfl) ?_ _
                            clear hHeld
                            go_wp2_with fail
                            go_meet
                            case rel => exact ⟨i, by first | rfl | go_num, by omega, BD, OD, HI, HNL⟩
                        · have t1 : (fe == f) = false := by simpa using h2
                          have HNL := Lib.hid (show i < A.length → Hd.lt A[i]!.h (Rt.h ⟨⟨f, (a, l), m⟩, t⟩) = false from fun _ => by rw [← HEK.out]; exact (Hd.lt_not _ _).2 (fun h => h.elim h1 (fun h => h2 h.1)))
                          have t0 : decide (fe < f) = false := decide_eq_false h1
                          clear h1 h2
                          go_wp2_with fail
                          refine wp_region_held_drew (S := (fun w' => w'.cell? ⟨ba, 1, none⟩ = some (.slice (some ⟨g, 0, none⟩) A.length c3) ∧ w'.cell? ⟨g, i * 5, none⟩ = some (.int .i64 fe) ∧ w'.cell? ⟨g, i * 5 + 1, none⟩ = some (.int .u32 (ae : Int)) ∧ w'.cell? ⟨g, i * 5 + 2, none⟩ = some (.int .i64 le) ∧ w'.cell? ⟨w.heap.size + 1, 0, none⟩ = some (.int .u32 (a : Int)) ∧ w'.cell? ⟨w.heap.size + 1, 1, none⟩ = some (.int .i64 l))) (by kernel_rfl) ⟨z1, a0, a1, a2, n0, n1⟩ (fun hHeld => ?_)
                          refine wpAnyH_take (i := 0) (oi := { dst := some 96, op := Op.move (Operand.tmp 15), type := 3, pos := "rest.go:73", after := #[], guard := none }) (v := ?_) rfl (by kernel_rfl) (by kernel_rfl) (by kernel_rfl) (fun _ _ _ h => h) (Or.inl ⟨by rfl, ?_⟩) hHeld ?_
                          rotate_left
                          · (intro w hSw; (try dsimp only at hSw); go_simp; first | done | with_reducible rfl)
                          simp only [Act.put, List.setIfInBounds_toArray, List.set_cons_zero, List.set_cons_succ]
                          refine wpAnyH_take (i := 1) (oi := { dst := some 97, op := Op.fieldAddr 29 (Operand.tmp 12) 1, type := 0, pos := "rest.go:73", after := #[], guard := none }) (v := ?_) rfl (by kernel_rfl) (by kernel_rfl) (by kernel_rfl) (fun _ _ _ h => h) (Or.inl ⟨by rfl, ?_⟩) hHeld ?_
                          rotate_left
                          · (intro w hSw; (try dsimp only at hSw); go_simp; first | done | with_reducible rfl)
                          simp only [Act.put, List.setIfInBounds_toArray, List.set_cons_zero, List.set_cons_succ]
                          refine wpAnyH_take (i := 2) (oi := { dst := some 98, op := Op.load 27 (Operand.tmp 97), type := 27, pos := "rest.go:73", after := #[{ on := 1, ground := Ground.data }], guard := none }) (v := ?_) rfl (by kernel_rfl) (by kernel_rfl) (by kernel_rfl) (fun _ _ _ h => h) (Or.inl ⟨by rfl, ?_⟩) hHeld ?_
                          rotate_left
                          · (intro w hSw; (try dsimp only at hSw); go_simp; first | done | with_reducible rfl)
                          simp only [Act.put, List.setIfInBounds_toArray, List.set_cons_zero, List.set_cons_succ]
                          refine wpAnyH_take (i := 3) (oi := { dst := some 99, op := Op.call { callee := Callee.builtin Builtin.len, args := #[Operand.tmp 98], argTypes := #[27] }, type := 3, pos := "rest.go:73", after := #[{ on := 2, ground := Ground.data }], guard := none }) (v := ?_) rfl (by kernel_rfl) (by kernel_rfl) (by kernel_rfl) (fun _ _ _ h => h) (Or.inl ⟨by rfl, ?_⟩) hHeld ?_
                          rotate_left
                          · (intro w hSw; (try dsimp only at hSw); go_simp; first | done | with_reducible rfl)
                          simp only [Act.put, List.setIfInBounds_toArray, List.set_cons_zero, List.set_cons_succ]
                          refine wpAnyH_take (i := 4) (oi := { dst := some 100, op := Op.binOp BinOp.lss 3 (Operand.tmp 96) (Operand.tmp 99) 3, type := 4, pos := "rest.go:73", after := #[{ on := 0, ground := Ground.data }, { on := 3, ground := Ground.data }], guard := none }) (v := ?_) rfl (by kernel_rfl) (by kernel_rfl) (by kernel_rfl) (fun _ _ _ h => h) (Or.inl ⟨by rfl, ?_⟩) hHeld ?_
                          rotate_left
                          · (intro w hSw; (try dsimp only at hSw); go_simp; first | done | with_reducible rfl)
                          simp only [Act.put, List.setIfInBounds_toArray, List.set_cons_zero, List.set_cons_succ]
                          refine wpAnyH_take (i := 5) (oi := { dst := some 101, op := Op.move (Operand.tmp 100), type := 4, pos := "rest.go:73", after := #[{ on := 4, ground := Ground.data }], guard := none }) (v := ?_) rfl (by kernel_rfl) (by kernel_rfl) (by kernel_rfl) (fun _ _ _ h => h) (Or.inl ⟨by rfl, ?_⟩) hHeld ?_
                          rotate_left
                          · (intro w hSw; (try dsimp only at hSw); go_simp; first | done | with_reducible rfl)
                          simp only [Act.put, List.setIfInBounds_toArray, List.set_cons_zero, List.set_cons_succ]
                          refine wpAnyH_take (i := 6) (oi := { dst := some 102, op := Op.fieldAddr 29 (Operand.tmp 12) 1, type := 0, pos := "rest.go:73", after := #[{ on := 5, ground := Ground.guard }], guard := some (5, true) }) (v := ?_) rfl (by kernel_rfl) (by kernel_rfl) (by kernel_rfl) (fun _ _ _ h => h) (Or.inl ⟨by rfl, ?_⟩) hHeld ?_
                          rotate_left
                          · (intro w hSw; (try dsimp only at hSw); go_simp; first | done | with_reducible rfl)
                          simp only [Act.put, List.setIfInBounds_toArray, List.set_cons_zero, List.set_cons_succ]
                          refine wpAnyH_take (i := 7) (oi := { dst := some 103, op := Op.load 27 (Operand.tmp 102), type := 27, pos := "rest.go:73", after := #[{ on := 6, ground := Ground.data }, { on := 5, ground := Ground.guard }], guard := some (5, true) }) (v := ?_) rfl (by kernel_rfl) (by kernel_rfl) (by kernel_rfl) (fun _ _ _ h => h) (Or.inl ⟨by rfl, ?_⟩) hHeld ?_
                          rotate_left
                          · (intro w hSw; (try dsimp only at hSw); go_simp; first | done | with_reducible rfl)
                          simp only [Act.put, List.setIfInBounds_toArray, List.set_cons_zero, List.set_cons_succ]
                          refine wpAnyH_take (i := 8) (oi := { dst := some 104, op := Op.move (Operand.tmp 15), type := 3, pos := "rest.go:73", after := #[{ on := 5, ground := Ground.guard }], guard := some (5, true) }) (v := ?_) rfl (by kernel_rfl) (by kernel_rfl) (by kernel_rfl) (fun _ _ _ h => h) (Or.inl ⟨by rfl, ?_⟩) hHeld ?_
                          rotate_left
                          · (intro w hSw; (try dsimp only at hSw); go_simp; first | done | with_reducible rfl)
                          simp only [Act.put, List.setIfInBounds_toArray, List.set_cons_zero, List.set_cons_succ]
                          refine wpAnyH_take (i := 9) (oi := { dst := some 105, op := Op.indexAddr 27 (Operand.tmp 103) (Operand.tmp 104), type := 0, pos := "rest.go:73", after := #[{ on := 7, ground := Ground.data }, { on := 8, ground := Ground.data }, { on := 5, ground := Ground.guard }], guard := some (5, true) }) (v := ?_) rfl (by kernel_rfl) (by kernel_rfl) (by kernel_rfl) (fun _ _ _ h => h) (Or.inl ⟨by rfl, ?_⟩) hHeld ?_
                          rotate_left
                          · (intro w hSw; (try dsimp only at hSw); go_simp; first | done | with_reducible rfl)
                          simp only [Act.put, List.setIfInBounds_toArray, List.set_cons_zero, List.set_cons_succ]
                          refine wpAnyH_take (i := 10) (oi := { dst := some 106, op := Op.fieldAddr 59 (Operand.tmp 105) 0, type := 0, pos := "rest.go:73", after := #[{ on := 9, ground := Ground.data }, { on := 5, ground := Ground.guard }], guard := some (5, true) }) (v := ?_) rfl (by kernel_rfl) (by kernel_rfl) (by kernel_rfl) (fun _ _ _ h => h) (Or.inl ⟨by rfl, ?_⟩) hHeld ?_
                          rotate_left
                          · (intro w hSw; (try dsimp only at hSw); go_simp; first | done | with_reducible rfl)
                          simp only [Act.put, List.setIfInBounds_toArray, List.set_cons_zero, List.set_cons_succ]
                          refine wpAnyH_take (i := 11) (oi := { dst := some 107, op := Op.fieldAddr 53 (Operand.tmp 106) 0, type := 0, pos := "rest.go:73", after := #[{ on := 10, ground := Ground.data }, { on := 5, ground := Ground.guard }], guard := some (5, true) }) (v := ?_) rfl (by kernel_rfl) (by kernel_rfl) (by kernel_rfl) (fun _ _ _ h => h) (Or.inl ⟨by rfl, ?_⟩) hHeld ?_
                          rotate_left
                          · (intro w hSw; (try dsimp only at hSw); go_simp; first | done | with_reducible rfl)
                          simp only [Act.put, List.setIfInBounds_toArray, List.set_cons_zero, List.set_cons_succ]
                          refine wpAnyH_take (i := 12) (oi := { dst := some 108, op := Op.load 3 (Operand.tmp 107), type := 3, pos := "rest.go:73", after := #[{ on := 11, ground := Ground.data }, { on := 5, ground := Ground.guard }], guard := some (5, true) }) (v := ?_) rfl (by kernel_rfl) (by kernel_rfl) (by kernel_rfl) (fun _ _ _ h => h) (Or.inl ⟨by rfl, ?_⟩) hHeld ?_
                          rotate_left
                          · (intro w hSw; (try dsimp only at hSw); go_simp; first | done | with_reducible rfl)
                          simp only [Act.put, List.setIfInBounds_toArray, List.set_cons_zero, List.set_cons_succ]
                          refine wpAnyH_take (i := 13) (oi := { dst := some 109, op := Op.move (Operand.tmp 1), type := 3, pos := "rest.go:73", after := #[{ on := 5, ground := Ground.guard }], guard := some (5, true) }) (v := ?_) rfl (by kernel_rfl) (by kernel_rfl) (by kernel_rfl) (fun _ _ _ h => h) (Or.inl ⟨by rfl, ?_⟩) hHeld ?_
                          rotate_left
                          · (intro w hSw; (try dsimp only at hSw); go_simp; first | done | with_reducible rfl)
                          simp only [Act.put, List.setIfInBounds_toArray, List.set_cons_zero, List.set_cons_succ]
                          refine wpAnyH_take (i := 14) (oi := { dst := some 110, op := Op.binOp BinOp.lss 3 (Operand.tmp 108) (Operand.tmp 109) 3, type := 4, pos := "rest.go:73", after := #[{ on := 12, ground := Ground.data }, { on := 13, ground := Ground.data }, { on := 5, ground := Ground.guard }], guard := some (5, true) }) (v := ?_) rfl (by kernel_rfl) (by kernel_rfl) (by kernel_rfl) (fun _ _ _ h => h) (Or.inl ⟨by rfl, ?_⟩) hHeld ?_
                          rotate_left
                          · (intro w hSw; (try dsimp only at hSw); go_simp; first | done | with_reducible rfl)
                          simp only [Act.put, List.setIfInBounds_toArray, List.set_cons_zero, List.set_cons_succ]
                          refine wpAnyH_take (i := 15) (oi := { dst := some 111, op := Op.move (Operand.tmp 110), type := 4, pos := "rest.go:73", after := #[{ on := 14, ground := Ground.data }, { on := 5, ground := Ground.chain }, { on := 5, ground := Ground.guard }], guard := some (5, true) }) (v := ?_) rfl (by kernel_rfl) (by kernel_rfl) (by kernel_rfl) (fun _ _ _ h => h) (Or.inl ⟨by rfl, ?_⟩) hHeld ?_
                          rotate_left
                          · (intro w hSw; (try dsimp only at hSw); go_simp; first | done | with_reducible rfl)
                          simp only [Act.put, List.setIfInBounds_toArray, List.set_cons_zero, List.set_cons_succ]
                          refine wpAnyH_take (i := 16) (oi := { dst := some 112, op := Op.fieldAddr 29 (Operand.tmp 12) 1, type := 0, pos := "rest.go:73", after := #[{ on := 15, ground := Ground.guard }], guard := some (15, false) }) (v := ?_) rfl (by kernel_rfl) (by kernel_rfl) (by kernel_rfl) (fun _ _ _ h => h) (Or.inl ⟨by rfl, ?_⟩) hHeld ?_
                          rotate_left
                          · (intro w hSw; (try dsimp only at hSw); go_simp; first | done | with_reducible rfl)
                          simp only [Act.put, List.setIfInBounds_toArray, List.set_cons_zero, List.set_cons_succ]
                          refine wpAnyH_take (i := 17) (oi := { dst := some 113, op := Op.load 27 (Operand.tmp 112), type := 27, pos := "rest.go:73", after := #[{ on := 16, ground := Ground.data }, { on := 15, ground := Ground.guard }], guard := some (15, false) }) (v := ?_) rfl (by kernel_rfl) (by kernel_rfl) (by kernel_rfl) (fun _ _ _ h => h) (Or.inl ⟨by rfl, ?_⟩) hHeld ?_
                          rotate_left
                          · (intro w hSw; (try dsimp only at hSw); go_simp; first | done | with_reducible rfl)
                          simp only [Act.put, List.setIfInBounds_toArray, List.set_cons_zero, List.set_cons_succ]
                          refine wpAnyH_take (i := 18) (oi := { dst := some 114, op := Op.move (Operand.tmp 15), type := 3, pos := "rest.go:73", after := #[{ on := 15, ground := Ground.guard }], guard := some (15, false) }) (v := ?_) rfl (by kernel_rfl) (by kernel_rfl) (by kernel_rfl) (fun _ _ _ h => h) (Or.inl ⟨by rfl, ?_⟩) hHeld ?_
                          rotate_left
                          · (intro w hSw; (try dsimp only at hSw); go_simp; first | done | with_reducible rfl)
                          simp only [Act.put, List.setIfInBounds_toArray, List.set_cons_zero, List.set_cons_succ]
                          refine wpAnyH_take (i := 19) (oi := { dst := some 115, op := Op.indexAddr 27 (Operand.tmp 113) (Operand.tmp 114), type := 0, pos := "rest.go:73", after := #[{ on := 17, ground := Ground.data }, { on := 18, ground := Ground.data }, { on := 15, ground := Ground.guard }], guard := some (15, false) }) (v := ?_) rfl (by kernel_rfl) (by kernel_rfl) (by kernel_rfl) (fun _ _ _ h => h) (Or.inl ⟨by rfl, ?_⟩) hHeld ?_
                          rotate_left
                          · (intro w hSw; (try dsimp only at hSw); go_simp; first | done | with_reducible rfl)
                          simp only [Act.put, List.setIfInBounds_toArray, List.set_cons_zero, List.set_cons_succ]
                          refine wpAnyH_take (i := 20) (oi := { dst := some 116, op := Op.fieldAddr 59 (Operand.tmp 115) 0, type := 0, pos := "rest.go:73", after := #[{ on := 19, ground := Ground.data }, { on := 15, ground := Ground.guard }], guard := some (15, false) }) (v := ?_) rfl (by kernel_rfl) (by kernel_rfl) (by kernel_rfl) (fun _ _ _ h => h) (Or.inl ⟨by rfl, ?_⟩) hHeld ?_
                          rotate_left
                          · (intro w hSw; (try dsimp only at hSw); go_simp; first | done | with_reducible rfl)
                          simp only [Act.put, List.setIfInBounds_toArray, List.set_cons_zero, List.set_cons_succ]
                          refine wpAnyH_take (i := 21) (oi := { dst := some 117, op := Op.fieldAddr 53 (Operand.tmp 116) 0, type := 0, pos := "rest.go:73", after := #[{ on := 20, ground := Ground.data }, { on := 15, ground := Ground.guard }], guard := some (15, false) }) (v := ?_) rfl (by kernel_rfl) (by kernel_rfl) (by kernel_rfl) (fun _ _ _ h => h) (Or.inl ⟨by rfl, ?_⟩) hHeld ?_
                          rotate_left
                          · (intro w hSw; (try dsimp only at hSw); go_simp; first | done | with_reducible rfl)
                          simp only [Act.put, List.setIfInBounds_toArray, List.set_cons_zero, List.set_cons_succ]
                          refine wpAnyH_take (i := 22) (oi := { dst := some 118, op := Op.load 3 (Operand.tmp 117), type := 3, pos := "rest.go:73", after := #[{ on := 21, ground := Ground.data }, { on := 15, ground := Ground.guard }], guard := some (15, false) }) (v := ?_) rfl (by kernel_rfl) (by kernel_rfl) (by kernel_rfl) (fun _ _ _ h => h) (Or.inl ⟨by rfl, ?_⟩) hHeld ?_
                          rotate_left
                          · (intro w hSw; (try dsimp only at hSw); go_simp; first | done | with_reducible rfl)
                          simp only [Act.put, List.setIfInBounds_toArray, List.set_cons_zero, List.set_cons_succ]
                          refine wpAnyH_take (i := 23) (oi := { dst := some 119, op := Op.move (Operand.tmp 1), type := 3, pos := "rest.go:73", after := #[{ on := 15, ground := Ground.guard }], guard := some (15, false) }) (v := ?_) rfl (by kernel_rfl) (by kernel_rfl) (by kernel_rfl) (fun _ _ _ h => h) (Or.inl ⟨by rfl, ?_⟩) hHeld ?_
                          rotate_left
                          · (intro w hSw; (try dsimp only at hSw); go_simp; first | done | with_reducible rfl)
                          simp only [Act.put, List.setIfInBounds_toArray, List.set_cons_zero, List.set_cons_succ]
                          refine wpAnyH_take (i := 24) (oi := { dst := some 120, op := Op.binOp BinOp.eql 3 (Operand.tmp 118) (Operand.tmp 119) 3, type := 4, pos := "rest.go:73", after := #[{ on := 22, ground := Ground.data }, { on := 23, ground := Ground.data }, { on := 15, ground := Ground.guard }], guard := some (15, false) }) (v := ?_) rfl (by kernel_rfl) (by kernel_rfl) (by kernel_rfl) (fun _ _ _ h => h) (Or.inl ⟨by rfl, ?_⟩) hHeld ?_
                          rotate_left
                          · (intro w hSw; (try dsimp only at hSw); go_simp; first | done | with_reducible rfl)
                          simp only [Act.put, List.setIfInBounds_toArray, List.set_cons_zero, List.set_cons_succ]
                          refine wpAnyH_take (i := 25) (oi := { dst := some 121, op := Op.move (Operand.tmp 120), type := 4, pos := "rest.go:73", after := #[{ on := 24, ground := Ground.data }, { on := 15, ground := Ground.chain }, { on := 15, ground := Ground.guard }], guard := some (15, false) }) (v := ?_) rfl (by kernel_rfl) (by kernel_rfl) (by kernel_rfl) (fun _ _ _ h => h) (Or.inl ⟨by rfl, ?_⟩) hHeld ?_
                          rotate_left
                          · (intro w hSw; (try dsimp only at hSw); go_simp; first | done | with_reducible rfl)
                          simp only [Act.put, List.setIfInBounds_toArray, List.set_cons_zero, List.set_cons_succ]
                          refine wpAnyH_take (i := 26) (oi := { dst := some 122, op := Op.fieldAddr 29 (Operand.tmp 12) 1, type := 0, pos := "rest.go:73", after := #[{ on := 25, ground := Ground.guard }], guard := some (25, true) }) (v := undef) rfl (by kernel_rfl) (by kernel_rfl) (by kernel_rfl) (fun _ _ _ h => h) (Or.inr ⟨by rfl, rfl⟩) hHeld ?_
                          simp only [Act.put, List.setIfInBounds_toArray, List.set_cons_zero, List.set_cons_succ]
                          refine wpAnyH_take (i := 27) (oi := { dst := some 123, op := Op.load 27 (Operand.tmp 122), type := 27, pos := "rest.go:73", after := #[{ on := 26, ground := Ground.data }, { on := 25, ground := Ground.guard }], guard := some (25, true) }) (v := undef) rfl (by kernel_rfl) (by kernel_rfl) (by kernel_rfl) (fun _ _ _ h => h) (Or.inr ⟨by rfl, rfl⟩) hHeld ?_
                          simp only [Act.put, List.setIfInBounds_toArray, List.set_cons_zero, List.set_cons_succ]
                          refine wpAnyH_take (i := 28) (oi := { dst := some 124, op := Op.move (Operand.tmp 15), type := 3, pos := "rest.go:73", after := #[{ on := 25, ground := Ground.guard }], guard := some (25, true) }) (v := undef) rfl (by kernel_rfl) (by kernel_rfl) (by kernel_rfl) (fun _ _ _ h => h) (Or.inr ⟨by rfl, rfl⟩) hHeld ?_
                          simp only [Act.put, List.setIfInBounds_toArray, List.set_cons_zero, List.set_cons_succ]
                          refine wpAnyH_take (i := 29) (oi := { dst := some 125, op := Op.indexAddr 27 (Operand.tmp 123) (Operand.tmp 124), type := 0, pos := "rest.go:73", after := #[{ on := 27, ground := Ground.data }, { on := 28, ground := Ground.data }, { on := 25, ground := Ground.guard }], guard := some (25, true) }) (v := undef) rfl (by kernel_rfl) (by kernel_rfl) (by kernel_rfl) (fun _ _ _ h => h) (Or.inr ⟨by rfl, rfl⟩) hHeld ?_
                          simp only [Act.put, List.setIfInBounds_toArray, List.set_cons_zero, List.set_cons_succ]
                          refine wpAnyH_take (i := 30) (oi := { dst := some 126, op := Op.fieldAddr 59 (Operand.tmp 125) 0, type := 0, pos := "rest.go:73", after := #[{ on := 29, ground := Ground.data }, { on := 25, ground := Ground.guard }], guard := some (25, true) }) (v := undef) rfl (by kernel_rfl) (by kernel_rfl) (by kernel_rfl) (fun _ _ _ h => h) (Or.inr ⟨by rfl, rfl⟩) hHeld ?_
                          simp only [Act.put, List.setIfInBounds_toArray, List.set_cons_zero, List.set_cons_succ]
                          refine wpAnyH_take (i := 31) (oi := { dst := some 127, op := Op.fieldAddr 53 (Operand.tmp 126) 1, type := 0, pos := "rest.go:73", after := #[{ on := 30, ground := Ground.data }, { on := 25, ground := Ground.guard }], guard := some (25, true) }) (v := undef) rfl (by kernel_rfl) (by kernel_rfl) (by kernel_rfl) (fun _ _ _ h => h) (Or.inr ⟨by rfl, rfl⟩) hHeld ?_
                          simp only [Act.put, List.setIfInBounds_toArray, List.set_cons_zero, List.set_cons_succ]
                          refine wpAnyH_take (i := 32) (oi := { dst := some 128, op := Op.load 35 (Operand.tmp 127), type := 35, pos := "rest.go:73", after := #[{ on := 31, ground := Ground.data }, { on := 25, ground := Ground.guard }], guard := some (25, true) }) (v := undef) rfl (by kernel_rfl) (by kernel_rfl) (by kernel_rfl) (fun _ _ _ h => h) (Or.inr ⟨by rfl, rfl⟩) hHeld ?_
                          simp only [Act.put, List.setIfInBounds_toArray, List.set_cons_zero, List.set_cons_succ]
                          refine wpAnyH_take (i := 33) (oi := { dst := some 129, op := Op.load 35 (Operand.tmp 7), type := 35, pos := "rest.go:73", after := #[{ on := 25, ground := Ground.guard }], guard := some (25, true) }) (v := undef) rfl (by kernel_rfl) (by kernel_rfl) (by kernel_rfl) (fun _ _ _ h => h) (Or.inr ⟨by rfl, rfl⟩) hHeld ?_
                          simp only [Act.put, List.setIfInBounds_toArray, List.set_cons_zero, List.set_cons_succ]
                          refine wpAnyH_take (i := 34) (oi := { dst := some 130, op := Op.call { callee := Callee.value (Operand.func 20), args := #[Operand.tmp 128, Operand.tmp 129], argTypes := #[35, 35] }, type := 4, pos := "rest.go:73", after := #[{ on := 32, ground := Ground.data }, { on := 33, ground := Ground.data }, { on := 25, ground := Ground.chain }, { on := 25, ground := Ground.guard }], guard := some (25, true) }) (v := undef) rfl (by kernel_rfl) (by kernel_rfl) (by kernel_rfl) (fun _ _ _ h => h) (Or.inr ⟨by rfl, rfl⟩) hHeld ?_
                          simp only [Act.put, List.setIfInBounds_toArray, List.set_cons_zero, List.set_cons_succ]
                          refine wpAnyH_take (i := 35) (oi := { dst := some 131, op := Op.pick (Operand.tmp 121) (Operand.tmp 130) (Operand.const (Value.bool false)), type := 4, pos := "rest.go:73", after := #[{ on := 25, ground := Ground.data }, { on := 34, ground := Ground.data }, { on := 15, ground := Ground.guard }], guard := some (15, false) }) (v := ?_) rfl (by kernel_rfl) (by kernel_rfl) (by kernel_rfl) (fun _ _ _ h => h) (Or.inl ⟨by rfl, ?_⟩) hHeld ?_
                          rotate_left
                          · (intro w hSw; (try dsimp only at hSw); go_simp; first | done | with_reducible rfl)
                          simp only [Act.put, List.setIfInBounds_toArray, List.set_cons_zero, List.set_cons_succ]
                          refine wpAnyH_take (i := 36) (oi := { dst := some 132, op := Op.pick (Operand.tmp 111) (Operand.const (Value.bool true)) (Operand.tmp 131), type := 4, pos := "rest.go:73", after := #[{ on := 15, ground := Ground.data }, { on := 35, ground := Ground.data }, { on := 5, ground := Ground.guard }], guard := some (5, true) }) (v := ?_) rfl (by kernel_rfl) (by kernel_rfl) (by kernel_rfl) (fun _ _ _ h => h) (Or.inl ⟨by rfl, ?_⟩) hHeld ?_
                          rotate_left
                          · (intro w hSw; (try dsimp only at hSw); go_simp; first | done | with_reducible rfl)
                          simp only [Act.put, List.setIfInBounds_toArray, List.set_cons_zero, List.set_cons_succ]
                          refine wpAnyH_take (i := 37) (oi := { dst := some 133, op := Op.pick (Operand.tmp 101) (Operand.tmp 132) (Operand.const (Value.bool false)), type := 4, pos := "rest.go:73", after := #[{ on := 5, ground := Ground.data }, { on := 36, ground := Ground.data }], guard := none }) (v := ?_) rfl (by kernel_rfl) (by kernel_rfl) (by kernel_rfl) (fun _ _ _ h => h) (Or.inl ⟨by rfl, ?_⟩) hHeld ?_
                          rotate_left
                          · (intro w hSw; (try dsimp only at hSw); go_simp; first | done | with_reducible rfl)
                          simp only [Act.put, List.setIfInBounds_toArray, List.set_cons_zero, List.set_cons_succ]
                          refine wpAnyH_done (by kernel_rfl) ?_ _
                          clear hHeld
                          have d0 : wr.drew.cell? ⟨g, i * 5, none⟩ = _ := a0
                          have d1 : wr.drew.cell? ⟨g, i * 5 + 1, none⟩ = _ := a1
                          have d2 : wr.drew.cell? ⟨g, i * 5 + 2, none⟩ = _ := a2
                          have d3 : wr.drew.cell? ⟨g, i * 5 + 3, none⟩ = _ := a3
                          have d4 : wr.drew.cell? ⟨g, i * 5 + 4, none⟩ = _ := a4
                          have z1' : wr.drew.cell? ⟨ba, 1, none⟩ = _ := z1
                          have BD := Lib.hid hB.out.drew
                          have OD := Lib.hid hO.out.drew
                          clear a0 a1 a2 a3 a4 z0 z1 n0 n1
                          generalize wr.drew = wd at d0 d1 d2 d3 d4 z1' BD OD ⊢
                          go_wp2_with fail
                          go_meet
                          case rel => exact ⟨i, by first | rfl | go_num, by omega, BD, OD, HI, HNL⟩
                    · have hko : ¬ (i : Int) < A.length := by omega
                      have HNL := Lib.hid (show i < A.length → Hd.lt A[i]!.h (Rt.h ⟨⟨f, (a, l), m⟩, t⟩) = false from fun h => absurd h hin)
                      go_wp2_with fail
                      refine wp_region_held_drew (S := (fun w' => w'.cell? ⟨ba, 1, none⟩ = some (.slice q3 A.length c3))) (by kernel_rfl) z1 (fun hHeld => ?_)
                      refine wpAnyH_take (i := 0) (oi := { dst := some 96, op := Op.move (Operand.tmp 15), type := 3, pos := "rest.go:73", after := #[], guard := none }) (v := ?_) rfl (by kernel_rfl) (by kernel_rfl) (by kernel_rfl) (fun _ _ _ h => h) (Or.inl ⟨by rfl, ?_⟩) hHeld ?_
                      rotate_left
                      · (intro w hSw; (try dsimp only at hSw); go_simp; first | done | with_reducible rfl)
                      simp only [Act.put, List.setIfInBounds_toArray, List.set_cons_zero, List.set_cons_succ]
                      refine wpAnyH_take (i := 1) (oi := { dst := some 97, op := Op.fieldAddr 29 (Operand.tmp 12) 1, type := 0, pos := "rest.go:73", after := #[], guard := none }) (v := ?_) rfl (by kernel_rfl) (by kernel_rfl) (by kernel_rfl) (fun _ _ _ h => h) (Or.inl ⟨by rfl, ?_⟩) hHeld ?_
                      rotate_left
                      · (intro w hSw; (try dsimp only at hSw); go_simp; first | done | with_reducible rfl)
                      simp only [Act.put, List.setIfInBounds_toArray, List.set_cons_zero, List.set_cons_succ]
                      refine wpAnyH_take (i := 2) (oi := { dst := some 98, op := Op.load 27 (Operand.tmp 97), type := 27, pos := "rest.go:73", after := #[{ on := 1, ground := Ground.data }], guard := none }) (v := ?_) rfl (by kernel_rfl) (by kernel_rfl) (by kernel_rfl) (fun _ _ _ h => h) (Or.inl ⟨by rfl, ?_⟩) hHeld ?_
                      rotate_left
                      · (intro w hSw; (try dsimp only at hSw); go_simp; first | done | with_reducible rfl)
                      simp only [Act.put, List.setIfInBounds_toArray, List.set_cons_zero, List.set_cons_succ]
                      refine wpAnyH_take (i := 3) (oi := { dst := some 99, op := Op.call { callee := Callee.builtin Builtin.len, args := #[Operand.tmp 98], argTypes := #[27] }, type := 3, pos := "rest.go:73", after := #[{ on := 2, ground := Ground.data }], guard := none }) (v := ?_) rfl (by kernel_rfl) (by kernel_rfl) (by kernel_rfl) (fun _ _ _ h => h) (Or.inl ⟨by rfl, ?_⟩) hHeld ?_
                      rotate_left
                      · (intro w hSw; (try dsimp only at hSw); go_simp; first | done | with_reducible rfl)
                      simp only [Act.put, List.setIfInBounds_toArray, List.set_cons_zero, List.set_cons_succ]
                      refine wpAnyH_take (i := 4) (oi := { dst := some 100, op := Op.binOp BinOp.lss 3 (Operand.tmp 96) (Operand.tmp 99) 3, type := 4, pos := "rest.go:73", after := #[{ on := 0, ground := Ground.data }, { on := 3, ground := Ground.data }], guard := none }) (v := ?_) rfl (by kernel_rfl) (by kernel_rfl) (by kernel_rfl) (fun _ _ _ h => h) (Or.inl ⟨by rfl, ?_⟩) hHeld ?_
                      rotate_left
                      · (intro w hSw; (try dsimp only at hSw); go_simp; first | done | with_reducible rfl)
                      simp only [Act.put, List.setIfInBounds_toArray, List.set_cons_zero, List.set_cons_succ]
                      refine wpAnyH_take (i := 5) (oi := { dst := some 101, op := Op.move (Operand.tmp 100), type := 4, pos := "rest.go:73", after := #[{ on := 4, ground := Ground.data }], guard := none }) (v := ?_) rfl (by kernel_rfl) (by kernel_rfl) (by kernel_rfl) (fun _ _ _ h => h) (Or.inl ⟨by rfl, ?_⟩) hHeld ?_
                      rotate_left
                      · (intro w hSw; (try dsimp only at hSw); go_simp; first | done | with_reducible rfl)
                      simp only [Act.put, List.setIfInBounds_toArray, List.set_cons_zero, List.set_cons_succ]
                      refine wpAnyH_take (i := 6) (oi := { dst := some 102, op := Op.fieldAddr 29 (Operand.tmp 12) 1, type := 0, pos := "rest.go:73", after := #[{ on := 5, ground := Ground.guard }], guard := some (5, true) }) (v := undef) rfl (by kernel_rfl) (by kernel_rfl) (by kernel_rfl) (fun _ _ _ h => h) (Or.inr ⟨by rfl, rfl⟩) hHeld ?_
                      simp only [Act.put, List.setIfInBounds_toArray, List.set_cons_zero, List.set_cons_succ]
                      refine wpAnyH_take (i := 7) (oi := { dst := some 103, op := Op.load 27 (Operand.tmp 102), type := 27, pos := "rest.go:73", after := #[{ on := 6, ground := Ground.data }, { on := 5, ground := Ground.guard }], guard := some (5, true) }) (v := undef) rfl (by kernel_rfl) (by kernel_rfl) (by kernel_rfl) (fun _ _ _ h => h) (Or.inr ⟨by rfl, rfl⟩) hHeld ?_
                      simp only [Act.put, List.setIfInBounds_toArray, List.set_cons_zero, List.set_cons_succ]
                      refine wpAnyH_take (i := 8) (oi := { dst := some 104, op := Op.move (Operand.tmp 15), type := 3, pos := "rest.go:73", after := #[{ on := 5, ground := Ground.guard }], guard := some (5, true) }) (v := undef) rfl (by kernel_rfl) (by kernel_rfl) (by kernel_rfl) (fun _ _ _ h => h) (Or.inr ⟨by rfl, rfl⟩) hHeld ?_
                      simp only [Act.put, List.setIfInBounds_toArray, List.set_cons_zero, List.set_cons_succ]
                      refine wpAnyH_take (i := 9) (oi := { dst := some 105, op := Op.indexAddr 27 (Operand.tmp 103) (Operand.tmp 104), type := 0, pos := "rest.go:73", after := #[{ on := 7, ground := Ground.data }, { on := 8, ground := Ground.data }, { on := 5, ground := Ground.guard }], guard := some (5, true) }) (v := undef) rfl (by kernel_rfl) (by kernel_rfl) (by kernel_rfl) (fun _ _ _ h => h) (Or.inr ⟨by rfl, rfl⟩) hHeld ?_
                      simp only [Act.put, List.setIfInBounds_toArray, List.set_cons_zero, List.set_cons_succ]
                      refine wpAnyH_take (i := 10) (oi := { dst := some 106, op := Op.fieldAddr 59 (Operand.tmp 105) 0, type := 0, pos := "rest.go:73", after := #[{ on := 9, ground := Ground.data }, { on := 5, ground := Ground.guard }], guard := some (5, true) }) (v := undef) rfl (by kernel_rfl) (by kernel_rfl) (by kernel_rfl) (fun _ _ _ h => h) (Or.inr ⟨by rfl, rfl⟩) hHeld ?_
                      simp only [Act.put, List.setIfInBounds_toArray, List.set_cons_zero, List.set_cons_succ]
                      refine wpAnyH_take (i := 11) (oi := { dst := some 107, op := Op.fieldAddr 53 (Operand.tmp 106) 0, type := 0, pos := "rest.go:73", after := #[{ on := 10, ground := Ground.data }, { on := 5, ground := Ground.guard }], guard := some (5, true) }) (v := undef) rfl (by kernel_rfl) (by kernel_rfl) (by kernel_rfl) (fun _ _ _ h => h) (Or.inr ⟨by rfl, rfl⟩) hHeld ?_
                      simp only [Act.put, List.setIfInBounds_toArray, List.set_cons_zero, List.set_cons_succ]
                      refine wpAnyH_take (i := 12) (oi := { dst := some 108, op := Op.load 3 (Operand.tmp 107), type := 3, pos := "rest.go:73", after := #[{ on := 11, ground := Ground.data }, { on := 5, ground := Ground.guard }], guard := some (5, true) }) (v := undef) rfl (by kernel_rfl) (by kernel_rfl) (by kernel_rfl) (fun _ _ _ h => h) (Or.inr ⟨by rfl, rfl⟩) hHeld ?_
                      simp only [Act.put, List.setIfInBounds_toArray, List.set_cons_zero, List.set_cons_succ]
                      refine wpAnyH_take (i := 13) (oi := { dst := some 109, op := Op.move (Operand.tmp 1), type := 3, pos := "rest.go:73", after := #[{ on := 5, ground := Ground.guard }], guard := some (5, true) }) (v := undef) rfl (by kernel_rfl) (by kernel_rfl) (by kernel_rfl) (fun _ _ _ h => h) (Or.inr ⟨by rfl, rfl⟩) hHeld ?_
                      simp only [Act.put, List.setIfInBounds_toArray, List.set_cons_zero, List.set_cons_succ]
                      refine wpAnyH_take (i := 14) (oi := { dst := some 110, op := Op.binOp BinOp.lss 3 (Operand.tmp 108) (Operand.tmp 109) 3, type := 4, pos := "rest.go:73", after := #[{ on := 12, ground := Ground.data }, { on := 13, ground := Ground.data }, { on := 5, ground := Ground.guard }], guard := some (5, true) }) (v := undef) rfl (by kernel_rfl) (by kernel_rfl) (by kernel_rfl) (fun _ _ _ h => h) (Or.inr ⟨by rfl, rfl⟩) hHeld ?_
                      simp only [Act.put, List.setIfInBounds_toArray, List.set_cons_zero, List.set_cons_succ]
                      refine wpAnyH_take (i := 15) (oi := { dst := some 111, op := Op.move (Operand.tmp 110), type := 4, pos := "rest.go:73", after := #[{ on := 14, ground := Ground.data }, { on := 5, ground := Ground.chain }, { on := 5, ground := Ground.guard }], guard := some (5, true) }) (v := undef) rfl (by kernel_rfl) (by kernel_rfl) (by kernel_rfl) (fun _ _ _ h => h) (Or.inr ⟨by rfl, rfl⟩) hHeld ?_
                      simp only [Act.put, List.setIfInBounds_toArray, List.set_cons_zero, List.set_cons_succ]
                      refine wpAnyH_take (i := 16) (oi := { dst := some 112, op := Op.fieldAddr 29 (Operand.tmp 12) 1, type := 0, pos := "rest.go:73", after := #[{ on := 15, ground := Ground.guard }], guard := some (15, false) }) (v := undef) rfl (by kernel_rfl) (by kernel_rfl) (by kernel_rfl) (fun _ _ _ h => h) (Or.inr ⟨by rfl, rfl⟩) hHeld ?_
                      simp only [Act.put, List.setIfInBounds_toArray, List.set_cons_zero, List.set_cons_succ]
                      refine wpAnyH_take (i := 17) (oi := { dst := some 113, op := Op.load 27 (Operand.tmp 112), type := 27, pos := "rest.go:73", after := #[{ on := 16, ground := Ground.data }, { on := 15, ground := Ground.guard }], guard := some (15, false) }) (v := undef) rfl (by kernel_rfl) (by kernel_rfl) (by kernel_rfl) (fun _ _ _ h => h) (Or.inr ⟨by rfl, rfl⟩) hHeld ?_
                      simp only [Act.put, List.setIfInBounds_toArray, List.set_cons_zero, List.set_cons_succ]
                      refine wpAnyH_take (i := 18) (oi := { dst := some 114, op := Op.move (Operand.tmp 15), type := 3, pos := "rest.go:73", after := #[{ on := 15, ground := Ground.guard }], guard := some (15, false) }) (v := undef) rfl (by kernel_rfl) (by kernel_rfl) (by kernel_rfl) (fun _ _ _ h => h) (Or.inr ⟨by rfl, rfl⟩) hHeld ?_
                      simp only [Act.put, List.setIfInBounds_toArray, List.set_cons_zero, List.set_cons_succ]
                      refine wpAnyH_take (i := 19) (oi := { dst := some 115, op := Op.indexAddr 27 (Operand.tmp 113) (Operand.tmp 114), type := 0, pos := "rest.go:73", after := #[{ on := 17, ground := Ground.data }, { on := 18, ground := Ground.data }, { on := 15, ground := Ground.guard }], guard := some (15, false) }) (v := undef) rfl (by kernel_rfl) (by kernel_rfl) (by kernel_rfl) (fun _ _ _ h => h) (Or.inr ⟨by rfl, rfl⟩) hHeld ?_
                      simp only [Act.put, List.setIfInBounds_toArray, List.set_cons_zero, List.set_cons_succ]
                      refine wpAnyH_take (i := 20) (oi := { dst := some 116, op := Op.fieldAddr 59 (Operand.tmp 115) 0, type := 0, pos := "rest.go:73", after := #[{ on := 19, ground := Ground.data }, { on := 15, ground := Ground.guard }], guard := some (15, false) }) (v := undef) rfl (by kernel_rfl) (by kernel_rfl) (by kernel_rfl) (fun _ _ _ h => h) (Or.inr ⟨by rfl, rfl⟩) hHeld ?_
                      simp only [Act.put, List.setIfInBounds_toArray, List.set_cons_zero, List.set_cons_succ]
                      refine wpAnyH_take (i := 21) (oi := { dst := some 117, op := Op.fieldAddr 53 (Operand.tmp 116) 0, type := 0, pos := "rest.go:73", after := #[{ on := 20, ground := Ground.data }, { on := 15, ground := Ground.guard }], guard := some (15, false) }) (v := undef) rfl (by kernel_rfl) (by kernel_rfl) (by kernel_rfl) (fun _ _ _ h => h) (Or.inr ⟨by rfl, rfl⟩) hHeld ?_
                      simp only [Act.put, List.setIfInBounds_toArray, List.set_cons_zero, List.set_cons_succ]
                      refine wpAnyH_take (i := 22) (oi := { dst := some 118, op := Op.load 3 (Operand.tmp 117), type := 3, pos := "rest.go:73", after := #[{ on := 21, ground := Ground.data }, { on := 15, ground := Ground.guard }], guard := some (15, false) }) (v := undef) rfl (by kernel_rfl) (by kernel_rfl) (by kernel_rfl) (fun _ _ _ h => h) (Or.inr ⟨by rfl, rfl⟩) hHeld ?_
                      simp only [Act.put, List.setIfInBounds_toArray, List.set_cons_zero, List.set_cons_succ]
                      refine wpAnyH_take (i := 23) (oi := { dst := some 119, op := Op.move (Operand.tmp 1), type := 3, pos := "rest.go:73", after := #[{ on := 15, ground := Ground.guard }], guard := some (15, false) }) (v := undef) rfl (by kernel_rfl) (by kernel_rfl) (by kernel_rfl) (fun _ _ _ h => h) (Or.inr ⟨by rfl, rfl⟩) hHeld ?_
                      simp only [Act.put, List.setIfInBounds_toArray, List.set_cons_zero, List.set_cons_succ]
                      refine wpAnyH_take (i := 24) (oi := { dst := some 120, op := Op.binOp BinOp.eql 3 (Operand.tmp 118) (Operand.tmp 119) 3, type := 4, pos := "rest.go:73", after := #[{ on := 22, ground := Ground.data }, { on := 23, ground := Ground.data }, { on := 15, ground := Ground.guard }], guard := some (15, false) }) (v := undef) rfl (by kernel_rfl) (by kernel_rfl) (by kernel_rfl) (fun _ _ _ h => h) (Or.inr ⟨by rfl, rfl⟩) hHeld ?_
                      simp only [Act.put, List.setIfInBounds_toArray, List.set_cons_zero, List.set_cons_succ]
                      refine wpAnyH_take (i := 25) (oi := { dst := some 121, op := Op.move (Operand.tmp 120), type := 4, pos := "rest.go:73", after := #[{ on := 24, ground := Ground.data }, { on := 15, ground := Ground.chain }, { on := 15, ground := Ground.guard }], guard := some (15, false) }) (v := undef) rfl (by kernel_rfl) (by kernel_rfl) (by kernel_rfl) (fun _ _ _ h => h) (Or.inr ⟨by rfl, rfl⟩) hHeld ?_
                      simp only [Act.put, List.setIfInBounds_toArray, List.set_cons_zero, List.set_cons_succ]
                      refine wpAnyH_take (i := 26) (oi := { dst := some 122, op := Op.fieldAddr 29 (Operand.tmp 12) 1, type := 0, pos := "rest.go:73", after := #[{ on := 25, ground := Ground.guard }], guard := some (25, true) }) (v := undef) rfl (by kernel_rfl) (by kernel_rfl) (by kernel_rfl) (fun _ _ _ h => h) (Or.inr ⟨by rfl, rfl⟩) hHeld ?_
                      simp only [Act.put, List.setIfInBounds_toArray, List.set_cons_zero, List.set_cons_succ]
                      refine wpAnyH_take (i := 27) (oi := { dst := some 123, op := Op.load 27 (Operand.tmp 122), type := 27, pos := "rest.go:73", after := #[{ on := 26, ground := Ground.data }, { on := 25, ground := Ground.guard }], guard := some (25, true) }) (v := undef) rfl (by kernel_rfl) (by kernel_rfl) (by kernel_rfl) (fun _ _ _ h => h) (Or.inr ⟨by rfl, rfl⟩) hHeld ?_
                      simp only [Act.put, List.setIfInBounds_toArray, List.set_cons_zero, List.set_cons_succ]
                      refine wpAnyH_take (i := 28) (oi := { dst := some 124, op := Op.move (Operand.tmp 15), type := 3, pos := "rest.go:73", after := #[{ on := 25, ground := Ground.guard }], guard := some (25, true) }) (v := undef) rfl (by kernel_rfl) (by kernel_rfl) (by kernel_rfl) (fun _ _ _ h => h) (Or.inr ⟨by rfl, rfl⟩) hHeld ?_
                      simp only [Act.put, List.setIfInBounds_toArray, List.set_cons_zero, List.set_cons_succ]
                      refine wpAnyH_take (i := 29) (oi := { dst := some 125, op := Op.indexAddr 27 (Operand.tmp 123) (Operand.tmp 124), type := 0, pos := "rest.go:73", after := #[{ on := 27, ground := Ground.data }, { on := 28, ground := Ground.data }, { on := 25, ground := Ground.guard }], guard := some (25, true) }) (v := undef) rfl (by kernel_rfl) (by kernel_rfl) (by kernel_rfl) (fun _ _ _ h => h) (Or.inr ⟨by rfl, rfl⟩) hHeld ?_
                      simp only [Act.put, List.setIfInBounds_toArray, List.set_cons_zero, List.set_cons_succ]
                      refine wpAnyH_take (i := 30) (oi := { dst := some 126, op := Op.fieldAddr 59 (Operand.tmp 125) 0, type := 0, pos := "rest.go:73", after := #[{ on := 29, ground := Ground.data }, { on := 25, ground := Ground.guard }], guard := some (25, true) }) (v := undef) rfl (by kernel_rfl) (by kernel_rfl) (by kernel_rfl) (fun _ _ _ h => h) (Or.inr ⟨by rfl, rfl⟩) hHeld ?_
                      simp only [Act.put, List.setIfInBounds_toArray, List.set_cons_zero, List.set_cons_succ]
                      refine wpAnyH_take (i := 31) (oi := { dst := some 127, op := Op.fieldAddr 53 (Operand.tmp 126) 1, type := 0, pos := "rest.go:73", after := #[{ on := 30, ground := Ground.data }, { on := 25, ground := Ground.guard }], guard := some (25, true) }) (v := undef) rfl (by kernel_rfl) (by kernel_rfl) (by kernel_rfl) (fun _ _ _ h => h) (Or.inr ⟨by rfl, rfl⟩) hHeld ?_
                      simp only [Act.put, List.setIfInBounds_toArray, List.set_cons_zero, List.set_cons_succ]
                      refine wpAnyH_take (i := 32) (oi := { dst := some 128, op := Op.load 35 (Operand.tmp 127), type := 35, pos := "rest.go:73", after := #[{ on := 31, ground := Ground.data }, { on := 25, ground := Ground.guard }], guard := some (25, true) }) (v := undef) rfl (by kernel_rfl) (by kernel_rfl) (by kernel_rfl) (fun _ _ _ h => h) (Or.inr ⟨by rfl, rfl⟩) hHeld ?_
                      simp only [Act.put, List.setIfInBounds_toArray, List.set_cons_zero, List.set_cons_succ]
                      refine wpAnyH_take (i := 33) (oi := { dst := some 129, op := Op.load 35 (Operand.tmp 7), type := 35, pos := "rest.go:73", after := #[{ on := 25, ground := Ground.guard }], guard := some (25, true) }) (v := undef) rfl (by kernel_rfl) (by kernel_rfl) (by kernel_rfl) (fun _ _ _ h => h) (Or.inr ⟨by rfl, rfl⟩) hHeld ?_
                      simp only [Act.put, List.setIfInBounds_toArray, List.set_cons_zero, List.set_cons_succ]
                      refine wpAnyH_take (i := 34) (oi := { dst := some 130, op := Op.call { callee := Callee.value (Operand.func 20), args := #[Operand.tmp 128, Operand.tmp 129], argTypes := #[35, 35] }, type := 4, pos := "rest.go:73", after := #[{ on := 32, ground := Ground.data }, { on := 33, ground := Ground.data }, { on := 25, ground := Ground.chain }, { on := 25, ground := Ground.guard }], guard := some (25, true) }) (v := undef) rfl (by kernel_rfl) (by kernel_rfl) (by kernel_rfl) (fun _ _ _ h => h) (Or.inr ⟨by rfl, rfl⟩) hHeld ?_
                      simp only [Act.put, List.setIfInBounds_toArray, List.set_cons_zero, List.set_cons_succ]
                      refine wpAnyH_take (i := 35) (oi := { dst := some 131, op := Op.pick (Operand.tmp 121) (Operand.tmp 130) (Operand.const (Value.bool false)), type := 4, pos := "rest.go:73", after := #[{ on := 25, ground := Ground.data }, { on := 34, ground := Ground.data }, { on := 15, ground := Ground.guard }], guard := some (15, false) }) (v := undef) rfl (by kernel_rfl) (by kernel_rfl) (by kernel_rfl) (fun _ _ _ h => h) (Or.inr ⟨by rfl, rfl⟩) hHeld ?_
                      simp only [Act.put, List.setIfInBounds_toArray, List.set_cons_zero, List.set_cons_succ]
                      refine wpAnyH_take (i := 36) (oi := { dst := some 132, op := Op.pick (Operand.tmp 111) (Operand.const (Value.bool true)) (Operand.tmp 131), type := 4, pos := "rest.go:73", after := #[{ on := 15, ground := Ground.data }, { on := 35, ground := Ground.data }, { on := 5, ground := Ground.guard }], guard := some (5, true) }) (v := undef) rfl (by kernel_rfl) (by kernel_rfl) (by kernel_rfl) (fun _ _ _ h => h) (Or.inr ⟨by rfl, rfl⟩) hHeld ?_
                      simp only [Act.put, List.setIfInBounds_toArray, List.set_cons_zero, List.set_cons_succ]
                      refine wpAnyH_take (i := 37) (oi := { dst := some 133, op := Op.pick (Operand.tmp 101) (Operand.tmp 132) (Operand.const (Value.bool false)), type := 4, pos := "rest.go:73", after := #[{ on := 5, ground := Ground.data }, { on := 36, ground := Ground.data }], guard := none }) (v := ?_) rfl (by kernel_rfl) (by kernel_rfl) (by kernel_rfl) (fun _ _ _ h => h) (Or.inl ⟨by rfl, ?_⟩) hHeld ?_
                      rotate_left
                      · (intro w hSw; (try dsimp only at hSw); go_simp; first | done | with_reducible rfl)
                      simp only [Act.put, List.setIfInBounds_toArray, List.set_cons_zero, List.set_cons_succ]
                      refine wpAnyH_done (by kernel_rfl) ?_ _
                      clear hHeld
                      have BD := Lib.hid hB.out.drew
                      have OD := Lib.hid hO.out.drew
                      go_wp2_with fail
                      go_meet
                      case rel => exact ⟨i, by first | rfl | go_num, by omega, BD, OD, HI, HNL⟩
                case rest =>
                  obtain ⟨i, rfl, hi, hB2, hO2, hI2, hJ2⟩ := hcut
                  have hl6 := HL64.out
                  have X6 := Lib.hid (X5.out.kept hB2.out); have N6 := Lib.hid (N5.out.kept hB2.out); have Y6 := Lib.hid (Y5.out.kept hB2.out); have Z6 := Lib.hid (Z5.out.kept hB2.out); have G6 := Lib.hid (G5.out.below hB2.out); have B6 := Lib.hid (B5.out.trans (hB2.out.mono B5.out.size))
                  have hN := N6.out
                  obtain ⟨_, n0, n1, _, _⟩ := hN
                  have hlt := Lib.hid (show (A.take i).length ≤ 64 by rw [List.length_take]; omega)
                  have O1 := Lib.hid (hO2.out.keep ((Below.refl wc.heap.size wc).alloc (Nat.le_refl _) (.cells #[.int .i64 f, .int .u32 (a : Int), .int .i64 l, .int .i64 m, .int .i64 t] 59)))
                  go_wp2_with (at_builtin; refine wpList_plain rfl fun K' hK' => ?_; refine wp_append_L1 tyT _ _ rfl wo.heap.size _ (A.take i) ⟨⟨f, (a, l), m⟩, t⟩ wc.heap.size 1 rfl rfl O1.out (LAt.ofRt (by simp) (by simp) (by simp) (by simp) (by simp)) (by have := hlt.out; omega) (by have := hlt.out; simp only [maxLen]; omega) (by have := hB2.out.size; simp; omega) ?qe)
                  case qe =>
                    intro v8 w8 hO8 hA8
                    refine hK' _ _ ?_
                    have BB := (Below.refl wc.heap.size wc).alloc (Nat.le_refl _) (.cells #[.int .i64 f, .int .u32 (a : Int), .int .i64 l, .int .i64 m, .int .i64 t] 59)
                    have B8 := Lib.hid ((hB2.out.trans (BB.mono hB2.out.size)).trans (hA8.keep.below (fun b e => (O1.out.lt b e).1) (by have := hB2.out.size; simp; omega)))
                    have O8 := Lib.hid hO8
                    have Z8 := Lib.hid (Z5.out.kept B8.out); have Y8 := Lib.hid (Y5.out.kept B8.out); have G8 := Lib.hid (G5.out.below B8.out); have BZ := Lib.hid (B5.out.trans (B8.out.mono B5.out.size))
                    clear hO8 hA8 BB n0 n1
                    have hZ := Z8.out
                    obtain ⟨_, z0, z1, fz0, fz1⟩ := hZ
                    have hl2 := Lib.hid (show (A.take i ++ [(⟨⟨f, (a, l), m⟩, t⟩ : Rt)]).length + (A.drop i).length ≤ 65 by rw [List.length_append, List.length_take, List.length_drop]; simp only [List.length_cons, List.length_nil]; omega)
                    have HPI := Lib.hid (insert_perm (M := A) ⟨⟨f, (a, l), m⟩, t⟩ i)
                    have HSI := Lib.hid (HSA.out.insert ⟨⟨f, (a, l), m⟩, t⟩ i hi hI2.out hJ2.out HNO.out)
                    have hba := Lib.hid (And.intro Z5.out.lt Y5.out.lt)
                    have hA8 := Lib.hid O8.out.arg
                    have hgf := G8.out
                    clear X5 N5 Y5 Z5 G5 X6 N6 Y6 Z6 G6 hB2 hO2 hI2 hJ2 O1
                    obtain ⟨l8, hl8⟩ : ∃ l8, l8 = (A.take i ++ [(⟨⟨f, (a, l), m⟩, t⟩ : Rt)]).length := ⟨_, rfl⟩
                    obtain ⟨q8, n8, hv8, _, _⟩ := hA8.out
                    rw [← hl8] at hv8
                    have HL8 := Lib.hid hl8
                    clear hl8
                    subst hv8
                    have hii : (i : Int) ≤ (A.length : Int) := by omega
                    have hcap := HC3.out
                    rcases q3 with _ | ⟨g, o, pth⟩
                    · have HV := Lib.hid (show LArg w8 (.slice none (A.length - i) (c3 - i)) (A.drop i) by
                        rcases hgf with ⟨_, hn⟩ | ⟨_, _, hv, _⟩
                        · rw [hn]; exact ⟨none, c3 - i, by simp, by simp, Or.inl (by simp)⟩
                        · injection hv with e; cases e)
                      clear hgf
                      go_wp2_with (at_builtin; refine wpList_plain rfl fun K' hK' => ?_; refine wp_append_L tyT _ _ rfl wo.heap.size (.slice q8 l8 n8) (.slice none (A.length - i) (c3 - i)) (A.take i ++ [⟨⟨f, (a, l), m⟩, t⟩]) (A.drop i) rfl rfl O8.out HV.out (by have := hl2.out; omega) (by have := hl2.out; simp only [maxLen]; omega) (by have := B8.out.size; exact this) ?qt1)
                      case qt1 =>
                        intro v9 w9 hO9 hA9
                        refine hK' _ _ ?_
                        have B9 := Lib.hid (B8.out.trans (hA9.keep.below (fun b e => (O8.out.lt b e).1) B8.out.size))
                        have O9 := Lib.hid (show LOwn 59 w9 wo.heap.size v9 (A.take i ++ [⟨⟨f, (a, l), m⟩, t⟩] ++ A.drop i) by rw [List.append_assoc]; exact hO9)
                        have Z9 := Lib.hid (Z8.out.ofBlock (hA9.keep.block ba Z8.out.lt (fun e => by have := (O8.out.lt _ e).1; have := hba.out; omega)) hA9.keep.size)
                        have Y9 := Lib.hid (Y8.out.ofBlock (hA9.keep.block (w.heap.size + 1 + 1) Y8.out.lt (fun e => by have := (O8.out.lt _ e).1; have := hba.out; omega)) hA9.keep.size)
                        obtain ⟨q9, l9, n9, hv9⟩ : ∃ q l n, v9 = .slice q l n := by
                          obtain ⟨q, n, h, _, _⟩ := hO9.arg
                          exact ⟨q, _, n, h⟩
                        clear hO9 hA9 z0 z1 fz0 fz1 Z8 Y8
                        subst hv9
                        have hZ := Z9.out; have hY := Y9.out
                        obtain ⟨_, z0, z1, fz0, fz1⟩ := hZ
                        obtain ⟨_, y0, y1, fy0, fy1⟩ := hY
                        have ng3 : ¬ ba = w.heap.size + 1 + 1 := by have := SS3.out; omega
                        have ng4 : ¬ w.heap.size + 1 + 1 = ba := by have := SS3.out; omega
                        go_wp2_with fail
                        have KZ := Keep.setCell (fun x => x = ba) w9 ba 1 (.slice q9 l9 n9) rfl
                        have Y10 := Y9.out.ofBlock (KZ.block _ Y9.out.lt ng4) KZ.size
                        have KY := (Keep.setCell (fun x => x = w.heap.size + 1 + 1) (w9.setCell ⟨ba, 1, none⟩ (.slice q9 l9 n9)) (w.heap.size + 1 + 1) 0 (.int .i64 t) rfl).trans (Keep.setCell (fun x => x = w.heap.size + 1 + 1) _ (w.heap.size + 1 + 1) 1 (.slice q9 l9 n9) rfl)
                        have hLS := learn_more ⟨⟨f, (a, l), m⟩, t⟩ A HNO.out HM16.out
                        refine bodyPost_lt Tryd.results6 rfl rfl (Y10.set _ _) rfl (LtTo.good HOK0.out (M' := A.take i ++ [⟨⟨f, (a, l), m⟩, t⟩] ++ A.drop i) (((O9.out.held.keep KZ (fun g hg e => by have := (O9.out.lt g hg).1; have := hba.out; omega)).keep KY (fun g hg e => by have := (O9.out.lt g hg).1; have := hba.out; omega)).down (by have := B5.out.size; omega)) (by rw [← HAE.out, hLS]; exact HPI.out) HSI.out ?_)
                        exact ((B5.out.trans (B9.out.mono B5.out.size)).trans (KZ.below (fun b e => by have := SS3.out; omega) (by have := B5.out.size; have := B9.out.size; omega))).trans (KY.below (fun b e => by omega) (by have := B5.out.size; have := B9.out.size; have := KZ.size; omega))
                    · obtain ⟨hgl, hgs, ho, hp⟩ : g < w8.heap.size ∧ LSeen w8 g 0 A ∧ o = 0 ∧ pth = none := by
                        rcases hgf with ⟨hv, _⟩ | ⟨_, _, hv, _, hgl, _, hgs, _⟩
                        · injection hv with e; cases e
                        · injection hv with e _ _
                          injection e with e
                          injection e with e1 e2 e3
                          subst e1
                          exact ⟨hgl, hgs, e2, e3⟩
                      subst ho; subst hp
                      by_cases hci : c3 = i
                      · have hdr : A.drop i = [] := List.drop_eq_nil_of_le (by omega)
                        have HV := Lib.hid (show LArg w8 (.slice (some ⟨g, 0, none⟩) (A.length - i) 0) (A.drop i) from ⟨_, 0, by rw [List.length_drop], by rw [hdr]; exact Nat.zero_le _, Or.inl hdr⟩)
                        clear hgf hgl hgs hdr
                        go_wp2_with (at_builtin; refine wpList_plain rfl fun K' hK' => ?_; refine wp_append_L tyT _ _ rfl wo.heap.size (.slice q8 l8 n8) (.slice (some ⟨g, 0, none⟩) (A.length - i) 0) (A.take i ++ [⟨⟨f, (a, l), m⟩, t⟩]) (A.drop i) rfl rfl O8.out HV.out (by have := hl2.out; omega) (by have := hl2.out; simp only [maxLen]; omega) (by have := B8.out.size; exact this) ?qt2)
                        case qt2 =>
                          intro v9 w9 hO9 hA9
                          refine hK' _ _ ?_
                          have B9 := Lib.hid (B8.out.trans (hA9.keep.below (fun b e => (O8.out.lt b e).1) B8.out.size))
                          have O9 := Lib.hid (show LOwn 59 w9 wo.heap.size v9 (A.take i ++ [⟨⟨f, (a, l), m⟩, t⟩] ++ A.drop i) by rw [List.append_assoc]; exact hO9)
                          have Z9 := Lib.hid (Z8.out.ofBlock (hA9.keep.block ba Z8.out.lt (fun e => by have := (O8.out.lt _ e).1; have := hba.out; omega)) hA9.keep.size)
                          have Y9 := Lib.hid (Y8.out.ofBlock (hA9.keep.block (w.heap.size + 1 + 1) Y8.out.lt (fun e => by have := (O8.out.lt _ e).1; have := hba.out; omega)) hA9.keep.size)
                          obtain ⟨q9, l9, n9, hv9⟩ : ∃ q l n, v9 = .slice q l n := by
                            obtain ⟨q, n, h, _, _⟩ := hO9.arg
                            exact ⟨q, _, n, h⟩
                          clear hO9 hA9 z0 z1 fz0 fz1 Z8 Y8
                          subst hv9
                          have hZ := Z9.out; have hY := Y9.out
                          obtain ⟨_, z0, z1, fz0, fz1⟩ := hZ
                          obtain ⟨_, y0, y1, fy0, fy1⟩ := hY
                          have ng3 : ¬ ba = w.heap.size + 1 + 1 := by have := SS3.out; omega
                          have ng4 : ¬ w.heap.size + 1 + 1 = ba := by have := SS3.out; omega
                          go_wp2_with fail
                          have KZ := Keep.setCell (fun x => x = ba) w9 ba 1 (.slice q9 l9 n9) rfl
                          have Y10 := Y9.out.ofBlock (KZ.block _ Y9.out.lt ng4) KZ.size
                          have KY := (Keep.setCell (fun x => x = w.heap.size + 1 + 1) (w9.setCell ⟨ba, 1, none⟩ (.slice q9 l9 n9)) (w.heap.size + 1 + 1) 0 (.int .i64 t) rfl).trans (Keep.setCell (fun x => x = w.heap.size + 1 + 1) _ (w.heap.size + 1 + 1) 1 (.slice q9 l9 n9) rfl)
                          have hLS := learn_more ⟨⟨f, (a, l), m⟩, t⟩ A HNO.out HM16.out
                          refine bodyPost_lt Tryd.results6 rfl rfl (Y10.set _ _) rfl (LtTo.good HOK0.out (M' := A.take i ++ [⟨⟨f, (a, l), m⟩, t⟩] ++ A.drop i) (((O9.out.held.keep KZ (fun g hg e => by have := (O9.out.lt g hg).1; have := hba.out; omega)).keep KY (fun g hg e => by have := (O9.out.lt g hg).1; have := hba.out; omega)).down (by have := B5.out.size; omega)) (by rw [← HAE.out, hLS]; exact HPI.out) HSI.out ?_)
                          exact ((B5.out.trans (B9.out.mono B5.out.size)).trans (KZ.below (fun b e => by have := SS3.out; omega) (by have := B5.out.size; have := B9.out.size; omega))).trans (KY.below (fun b e => by omega) (by have := B5.out.size; have := B9.out.size; have := KZ.size; omega))
                      · have HV := Lib.hid (show LArg w8 (.slice (some ⟨g, i * 5, none⟩) (A.length - i) (c3 - i)) (A.drop i) from ⟨_, c3 - i, by rw [List.length_drop], by rw [List.length_drop]; omega, Or.inr ⟨g, _, rfl, hgl, (by have := hgs.drop i hi; rwa [Nat.zero_add] at this)⟩⟩)
                        clear hgf hgl hgs
                        go_wp2_with (at_builtin; refine wpList_plain rfl fun K' hK' => ?_; refine wp_append_L tyT _ _ rfl wo.heap.size (.slice q8 l8 n8) (.slice (some ⟨g, i * 5, none⟩) (A.length - i) (c3 - i)) (A.take i ++ [⟨⟨f, (a, l), m⟩, t⟩]) (A.drop i) rfl rfl O8.out HV.out (by have := hl2.out; omega) (by have := hl2.out; simp only [maxLen]; omega) (by have := B8.out.size; exact this) ?qt3)
                        case qt3 =>
                          intro v9 w9 hO9 hA9
                          refine hK' _ _ ?_
                          have B9 := Lib.hid (B8.out.trans (hA9.keep.below (fun b e => (O8.out.lt b e).1) B8.out.size))
                          have O9 := Lib.hid (show LOwn 59 w9 wo.heap.size v9 (A.take i ++ [⟨⟨f, (a, l), m⟩, t⟩] ++ A.drop i) by rw [List.append_assoc]; exact hO9)
                          have Z9 := Lib.hid (Z8.out.ofBlock (hA9.keep.block ba Z8.out.lt (fun e => by have := (O8.out.lt _ e).1; have := hba.out; omega)) hA9.keep.size)
                          have Y9 := Lib.hid (Y8.out.ofBlock (hA9.keep.block (w.heap.size + 1 + 1) Y8.out.lt (fun e => by have := (O8.out.lt _ e).1; have := hba.out; omega)) hA9.keep.size)
                          obtain ⟨q9, l9, n9, hv9⟩ : ∃ q l n, v9 = .slice q l n := by
                            obtain ⟨q, n, h, _, _⟩ := hO9.arg
                            exact ⟨q, _, n, h⟩
                          clear hO9 hA9 z0 z1 fz0 fz1 Z8 Y8
                          subst hv9
                          have hZ := Z9.out; have hY := Y9.out
                          obtain ⟨_, z0, z1, fz0, fz1⟩ := hZ
                          obtain ⟨_, y0, y1, fy0, fy1⟩ := hY
                          have ng3 : ¬ ba = w.heap.size + 1 + 1 := by have := SS3.out; omega
                          have ng4 : ¬ w.heap.size + 1 + 1 = ba := by have := SS3.out; omega
                          go_wp2_with fail
                          have KZ := Keep.setCell (fun x => x = ba) w9 ba 1 (.slice q9 l9 n9) rfl
                          have Y10 := Y9.out.ofBlock (KZ.block _ Y9.out.lt ng4) KZ.size
                          have KY := (Keep.setCell (fun x => x = w.heap.size + 1 + 1) (w9.setCell ⟨ba, 1, none⟩ (.slice q9 l9 n9)) (w.heap.size + 1 + 1) 0 (.int .i64 t) rfl).trans (Keep.setCell (fun x => x = w.heap.size + 1 + 1) _ (w.heap.size + 1 + 1) 1 (.slice q9 l9 n9) rfl)
                          have hLS := learn_more ⟨⟨f, (a, l), m⟩, t⟩ A HNO.out HM16.out
                          refine bodyPost_lt Tryd.results6 rfl rfl (Y10.set _ _) rfl (LtTo.good HOK0.out (M' := A.take i ++ [⟨⟨f, (a, l), m⟩, t⟩] ++ A.drop i) (((O9.out.held.keep KZ (fun g hg e => by have := (O9.out.lt g hg).1; have := hba.out; omega)).keep KY (fun g hg e => by have := (O9.out.lt g hg).1; have := hba.out; omega)).down (by have := B5.out.size; omega)) (by rw [← HAE.out, hLS]; exact HPI.out) HSI.out ?_)
                          exact ((B5.out.trans (B9.out.mono B5.out.size)).trans (KZ.below (fun b e => by have := SS3.out; omega) (by have := B5.out.size; have := B9.out.size; omega))).trans (KY.below (fun b e => by omega) (by have := B5.out.size; have := B9.out.size; have := KZ.size; omega))
      · have HE := Lib.hid (learnE_met (M := M) (n := (a, l)) H1.out H2.out h3)
        by_cases hm : m < 1
        · clear h3
          have hX := X2.out; have hY := Y2.out
          obtain ⟨_, x0, x1, _, _⟩ := hX
          obtain ⟨_, y0, y1, fy0, fy1⟩ := hY
          go_wp2_with fail
          have KK := (Keep.setCell (fun x => x = w.heap.size + 1 + 1) w2 (w.heap.size + 1 + 1) 0 (.int .i64 now0) rfl).trans (Keep.setCell (fun x => x = w.heap.size + 1 + 1) _ (w.heap.size + 1 + 1) 1 (.slice pm M.length cm) rfl)
          exact bodyPost_lt Tryd.results6 rfl rfl (Y2.out.set _ _) rfl (LtTo.bad HE.out.symm (by omega) (B2.out.trans (KK.below (fun b e => by omega) B2.out.size)))
        · have hm2 : 16 < m := by omega
          clear h3
          have hX := X2.out; have hY := Y2.out
          obtain ⟨_, x0, x1, _, _⟩ := hX
          obtain ⟨_, y0, y1, fy0, fy1⟩ := hY
          go_wp2_with fail
          have KK := (Keep.setCell (fun x => x = w.heap.size + 1 + 1) w2 (w.heap.size + 1 + 1) 0 (.int .i64 now0) rfl).trans (Keep.setCell (fun x => x = w.heap.size + 1 + 1) _ (w.heap.size + 1 + 1) 1 (.slice pm M.length cm) rfl)
          exact bodyPost_lt Tryd.results6 rfl rfl (Y2.out.set _ _) rfl (LtTo.bad HE.out.symm (by omega) (B2.out.trans (KK.below (fun b e => by omega) B2.out.size)))
    · have HE := Lib.hid (learnE_chk (M := M) (n := (a, l)) (m := m) H1.out h2)
      obtain ⟨kc, hkc⟩ : ∃ kc, kc = PrefP.chk a l := ⟨_, rfl⟩
      rw [← hkc] at HE h2 ⊢
      have HC := Lib.hid hkc
      have HNE := Lib.hid h2
      have t2 : (kc != 0) = true := by rw [bne_iff_ne]; exact h2
      clear hkc h2
      have hN := N2.out
      obtain ⟨_, n0, n1, _, _⟩ := hN
      go_wp2_with fail
      have XD := Lib.hid (X2.out.drewN 1); have ND := Lib.hid (N2.out.drewN 1); have YD := Lib.hid (Y2.out.drewN 1); have BD := Lib.hid (B2.out.drew)
      clear n0 n1 X2 N2 Y2 L2 B2
      refine wp_region_held_drew (S := (fun w' => w'.cell? ⟨w.heap.size, 0, none⟩ = some (.int .i64 now0) ∧ w'.cell? ⟨w.heap.size, 1, none⟩ = some (.slice pm M.length cm) ∧ w'.cell? ⟨w.heap.size + 1, 0, none⟩ = some (.int .u32 (a : Int)) ∧ w'.cell? ⟨w.heap.size + 1, 1, none⟩ = some (.int .i64 l))) (by kernel_rfl) ⟨XD.out.c0, XD.out.c1, ND.out.c0, ND.out.c1⟩ (fun hHeld => ?_)
      refine wpAnyH_take (i := 0) (oi := { dst := some 25, op := Op.load 29 (Operand.tmp 5), type := 29, pos := "rest.go:51", after := #[], guard := none }) (v := ?_) rfl (by kernel_rfl) (by kernel_rfl) (by kernel_rfl) (fun _ _ _ h => h) (Or.inl ⟨by rfl, ?_⟩) hHeld ?_
      rotate_left
      · (intro w hSw; (try dsimp only at hSw); go_simp; first | done | with_reducible rfl)
      simp only [Act.put, List.setIfInBounds_toArray, List.set_cons_zero, List.set_cons_succ]
      refine wpAnyH_take (i := 1) (oi := { dst := some 26, op := Op.load 35 (Operand.tmp 7), type := 35, pos := "rest.go:51", after := #[], guard := none }) (v := ?_) rfl (by kernel_rfl) (by kernel_rfl) (by kernel_rfl) (fun _ _ _ h => h) (Or.inl ⟨by rfl, ?_⟩) hHeld ?_
      rotate_left
      · (intro w hSw; (try dsimp only at hSw); go_simp; first | done | with_reducible rfl)
      simp only [Act.put, List.setIfInBounds_toArray, List.set_cons_zero, List.set_cons_succ]
      refine wpAnyH_ready (rs := [2]) (by kernel_rfl) (by simp) ?_
      refine (AllReadyH.cons (o := { dst := some 27, op := Op.call { callee := Callee.value (Operand.func 19), args := #[Operand.tmp 26], argTypes := #[35] }, type := 30, pos := "rest.go:51", after := #[{ on := 1, ground := Ground.data }], guard := none }) rfl (fun K hK => ?_) AllReadyH.nil)
      go_simp
      go_at_call 19
      refine (fault_any a l ha _).mono ?_
      rintro e w5 ⟨rfl, hb5⟩
      rw [← HC.out]
      have X5 := Lib.hid (XD.out.kept hb5); have N5 := Lib.hid (ND.out.kept hb5); have Y5 := Lib.hid (YD.out.kept hb5); have B5 := Lib.hid (BD.out.trans (hb5.mono BD.out.size))
      have KK2 := And.intro X5.out.c0 (And.intro X5.out.c1 (And.intro N5.out.c0 N5.out.c1))
      have hY5 := Y5.out
      obtain ⟨_, y0, y1, fy0, fy1⟩ := hY5
      clear hHeld hb5
      go_wp2_with fail
      refine hK.out _ _ KK2 (fun hHeld => ?_)
      clear hK K
      refine wpAnyH_ready (rs := [3]) (by kernel_rfl) (by simp) ?_
      refine (AllReadyH.cons (o := { dst := none, op := Op.store 29 (Operand.tmp 10) (Operand.tmp 25), type := 0, pos := "rest.go:51", after := #[{ on := 0, ground := Ground.data }, { on := 2, ground := Ground.chain }, { on := 0, ground := Ground.phase }, { on := 1, ground := Ground.textOnly Departure.lateStores }, { on := 2, ground := Ground.textOnly Departure.lateStoresUnsure }], guard := none }) rfl (fun K hK => ?_) AllReadyH.nil)
      go_simp
      go_wp2_with fail
      have KS := Lib.hid ((Keep.setCell (fun x => x = w.heap.size + 1 + 1) w5 (w.heap.size + 1 + 1) 0 (.int .i64 now0) rfl).trans (Keep.setCell (fun x => x = w.heap.size + 1 + 1) _ (w.heap.size + 1 + 1) 1 (.slice pm M.length cm) rfl))
      have h1 := X5.out.ofBlock (KS.out.block w.heap.size X5.out.lt (by omega)) KS.out.size
      have h2 := N5.out.ofBlock (KS.out.block (w.heap.size + 1) N5.out.lt (by omega)) KS.out.size
      have KK3 := And.intro h1.c0 (And.intro h1.c1 (And.intro h2.c0 h2.c1))
      clear h1 h2
      clear y0 y1 fy0 fy1 hHeld
      refine hK.out _ _ KK3 (fun hHeld => ?_)
      clear hK K
      refine wpAnyH_take (i := 4) (oi := { dst := some 11, op := Op.assign (Operand.tmp 27), type := 30, pos := "rest.go:51", after := #[{ on := 2, ground := Ground.data }, { on := 3, ground := Ground.chain }, { on := 0, ground := Ground.phase }, { on := 1, ground := Ground.phase }, { on := 2, ground := Ground.phase }, { on := 3, ground := Ground.phase }], guard := none }) (v := ?_) rfl (by kernel_rfl) (by kernel_rfl) (by kernel_rfl) (fun _ _ _ h => h) (Or.inl ⟨by rfl, ?_⟩) hHeld ?_
      rotate_left
      · (intro w hSw; (try dsimp only at hSw); go_simp; first | done | with_reducible rfl)
      simp only [Act.put, List.setIfInBounds_toArray, List.set_cons_zero, List.set_cons_succ]
      refine wpAnyH_done (by kernel_rfl) ?_ _
      clear hHeld
      go_wp2_with fail
      exact bodyPost_lt Tryd.results6 rfl rfl (Y5.out.set _ _) rfl (LtTo.bad HE.out.symm HNE.out (B5.out.trans (KS.out.below (fun b e => by omega) B5.out.size)))
  · rw [show nearE (now0, M) f t = 1 from if_neg h1]
    have HE := Lib.hid (learnE_near (M := M) (n := (a, l)) (m := m) h1)
    clear h1
    have hX := X1.out; have hY := Y1.out
    obtain ⟨_, x0, x1, _, _⟩ := hX
    obtain ⟨_, y0, y1, fy0, fy1⟩ := hY
    go_wp2_with fail
    have KK := (Keep.setCell (fun x => x = w.heap.size + 1 + 1) w1 (w.heap.size + 1 + 1) 0 (.int .i64 now0) rfl).trans (Keep.setCell (fun x => x = w.heap.size + 1 + 1) _ (w.heap.size + 1 + 1) 1 (.slice pm M.length cm) rfl)
    exact bodyPost_lt Tryd.results6 rfl rfl (Y1.out.set _ _) rfl (LtTo.bad HE.out.symm (by omega) (B1.out.trans (KK.below (fun b e => by omega) B1.out.size)))
end Go.Proofs.YtoocmogmocapoaaDoor
