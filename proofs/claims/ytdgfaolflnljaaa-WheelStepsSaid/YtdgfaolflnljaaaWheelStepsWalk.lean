/-
  The law WheelSteps at every ids, times and two ticks: it tells true; what lay in memory stays.
-/
import Derived.Test.YtdgfaolflnljaaaWheelTwo
import Derived.Test.YtdgfaolflnljaaaWheelFact
import Derived.Deep.RegionHeld3
import Derived.BigQuiet
namespace Go.Proofs.Ytdgfaolflnljaaa
open Go.RowKit Go.Lib WheelP

set_option maxHeartbeats 8000000 in
set_option maxRecDepth 100000 in
theorem steps_all (w : World) (v1 v2 : Value) (l1 l2 : List Int) (a1 : ArgI w v1 l1) (a2 : ArgI w v2 l2) (x y : Nat) (hx : okT 0 x) (hy : okT x y) (hlen : l1.length * 8 ≤ 140737488355328) :
    Calls Try.prog 4 #[v1, v2, .int .i64 x, .int .i64 y] w fun e w' => e = .returned (.bool true) ∧ Below w.heap.size w w' := by
  obtain ⟨p1, c1, rfl, a1⟩ := a1
  obtain ⟨p2, c2, rfl, a2⟩ := a2
  have H1 : Hid (∀ i, i < l1.length → ∃ b off, p1 = some ⟨b, off, none⟩ ∧ b < w.heap.size ∧ SeenI w b off l1) := Lib.hid (by
    intro i hi
    rcases a1 with rfl | h
    · simp at hi
    · exact h)
  have H2 : Hid (∀ i, i < l2.length → ∃ b off, p2 = some ⟨b, off, none⟩ ∧ b < w.heap.size ∧ SeenI w b off l2) := Lib.hid (by
    intro i hi
    rcases a2 with rfl | h
    · simp at hi
    · exact h)
  clear a1 a2
  obtain ⟨n1, hn1⟩ : ∃ n1, l1.length = n1 := ⟨_, rfl⟩
  obtain ⟨n2, hn2⟩ : ∃ n2, l2.length = n2 := ⟨_, rfl⟩
  rw [hn1] at H1 hlen ⊢
  rw [hn2] at H2 ⊢
  have HL1 := Lib.hid hn1
  have HL2 := Lib.hid hn2
  clear hn1 hn2
  go_enter Try.func4, Try.ntmps4
  go_wp2_with fail
  refine (wheeled_any w).mono ?_
  rintro e w1 ⟨rfl, hb1⟩
  have HN := Lib.hid (new_one w w1 hb1)
  clear hb1
  go_wp2_with fail
  refine HN.out.mono ?_
  rintro e w2 ⟨rfl, h2⟩
  have HN2 := Lib.hid (new_two w w2 _ 0 _ h2)
  clear h2 HN
  go_wp2_with fail
  refine HN2.out.mono ?_
  rintro e w3 ⟨rfl, h3⟩
  have HT0 := Lib.hid h3
  clear h3 HN2
  generalize w1.heap.size = p at HT0 ⊢
  generalize w2.heap.size = q at HT0 ⊢
  go_wp2_with fail
  go_loopw [12] (fun v12 wr => ∃ k : Nat, v12 = .int .i64 k ∧ k ≤ n1 ∧ ∃ f, Hid (TwoW w wr p q 0 f 0 f)) (fun v12 _ => n1 + 1 - (intOf v12).toNat)
  case atStart => exact ⟨0, rfl, Nat.zero_le _, _, HT0⟩
  case round =>
    clear HT0
    obtain ⟨k, rfl, hk, f, HT⟩ := hrel
    by_cases t1 : k < n1
    · have u1 : (k : Int) < (n1 : Int) := by omega
      by_cases t2 : k < n2
      · have u2 : (k : Int) < (n2 : Int) := by omega
        obtain ⟨b1, o1, rfl, hb1, hs1⟩ := H1.out k t1
        obtain ⟨b2, o2, rfl, hb2, hs2⟩ := H2.out k t2
        have HS := Lib.hid (fun V (hb : Below w.heap.size w V) => And.intro ((hs1.below hb hb1) k (by rw [HL1.out]; exact t1)) ((hs2.below hb hb2) k (by rw [HL2.out]; exact t2)))
        obtain ⟨s1, s2⟩ := HS.out wr HT.out.bel
        clear hs1 hs2 hb1 hb2
        generalize l1[k]! = i at s1 s2 HS
        generalize l2[k]! = z at s1 s2 HS
        go_wp2_with fail
        refine wp_region_held_drew (S := (fun V => V.cell? ⟨b1, o1 + k, none⟩ = some (.int .i64 i) ∧ V.cell? ⟨b2, o2 + k, none⟩ = some (.int .i64 z))) (by kernel_rfl) ⟨s1, s2⟩ (fun hHeld => ?_)
        refine wpAnyH_take (i := 0) (oi := { dst := some 45, op := Op.move (Operand.tmp 10), type := 24, pos := "ways.go:820", after := #[], guard := none }) (v := ?_) rfl (by kernel_rfl) (by kernel_rfl) (by kernel_rfl) (fun _ _ _ h => h) (Or.inl ⟨by rfl, ?_⟩) hHeld ?_
        rotate_left
        · (intro w hSw; (try dsimp only at hSw); go_simp; first | done | with_reducible rfl)
        simp only [Act.put, List.setIfInBounds_toArray, List.set_cons_zero, List.set_cons_succ]
        refine wpAnyH_take (i := 1) (oi := { dst := some 46, op := Op.move (Operand.tmp 0), type := 22, pos := "ways.go:820", after := #[], guard := none }) (v := ?_) rfl (by kernel_rfl) (by kernel_rfl) (by kernel_rfl) (fun _ _ _ h => h) (Or.inl ⟨by rfl, ?_⟩) hHeld ?_
        rotate_left
        · (intro w hSw; (try dsimp only at hSw); go_simp; first | done | with_reducible rfl)
        simp only [Act.put, List.setIfInBounds_toArray, List.set_cons_zero, List.set_cons_succ]
        refine wpAnyH_take (i := 2) (oi := { dst := some 47, op := Op.move (Operand.tmp 12), type := 3, pos := "ways.go:820", after := #[], guard := none }) (v := ?_) rfl (by kernel_rfl) (by kernel_rfl) (by kernel_rfl) (fun _ _ _ h => h) (Or.inl ⟨by rfl, ?_⟩) hHeld ?_
        rotate_left
        · (intro w hSw; (try dsimp only at hSw); go_simp; first | done | with_reducible rfl)
        simp only [Act.put, List.setIfInBounds_toArray, List.set_cons_zero, List.set_cons_succ]
        refine wpAnyH_take (i := 3) (oi := { dst := some 48, op := Op.indexAddr 22 (Operand.tmp 46) (Operand.tmp 47), type := 0, pos := "ways.go:820", after := #[{ on := 1, ground := Ground.data }, { on := 2, ground := Ground.data }], guard := none }) (v := ?_) rfl (by kernel_rfl) (by kernel_rfl) (by kernel_rfl) (fun _ _ _ h => h) (Or.inl ⟨by rfl, ?_⟩) hHeld ?_
        rotate_left
        · (intro w hSw; (try dsimp only at hSw); go_simp; first | done | with_reducible rfl)
        simp only [Act.put, List.setIfInBounds_toArray, List.set_cons_zero, List.set_cons_succ]
        refine wpAnyH_take (i := 4) (oi := { dst := some 49, op := Op.load 3 (Operand.tmp 48), type := 3, pos := "ways.go:820", after := #[{ on := 3, ground := Ground.data }], guard := none }) (v := ?_) rfl (by kernel_rfl) (by kernel_rfl) (by kernel_rfl) (fun _ _ _ h => h) (Or.inl ⟨by rfl, ?_⟩) hHeld ?_
        rotate_left
        · (intro w hSw; (try dsimp only at hSw); go_simp; first | done | with_reducible rfl)
        simp only [Act.put, List.setIfInBounds_toArray, List.set_cons_zero, List.set_cons_succ]
        refine wpAnyH_take (i := 5) (oi := { dst := some 50, op := Op.move (Operand.tmp 1), type := 22, pos := "ways.go:820", after := #[], guard := none }) (v := ?_) rfl (by kernel_rfl) (by kernel_rfl) (by kernel_rfl) (fun _ _ _ h => h) (Or.inl ⟨by rfl, ?_⟩) hHeld ?_
        rotate_left
        · (intro w hSw; (try dsimp only at hSw); go_simp; first | done | with_reducible rfl)
        simp only [Act.put, List.setIfInBounds_toArray, List.set_cons_zero, List.set_cons_succ]
        refine wpAnyH_take (i := 6) (oi := { dst := some 51, op := Op.move (Operand.tmp 12), type := 3, pos := "ways.go:820", after := #[], guard := none }) (v := ?_) rfl (by kernel_rfl) (by kernel_rfl) (by kernel_rfl) (fun _ _ _ h => h) (Or.inl ⟨by rfl, ?_⟩) hHeld ?_
        rotate_left
        · (intro w hSw; (try dsimp only at hSw); go_simp; first | done | with_reducible rfl)
        simp only [Act.put, List.setIfInBounds_toArray, List.set_cons_zero, List.set_cons_succ]
        refine wpAnyH_take (i := 7) (oi := { dst := some 52, op := Op.indexAddr 22 (Operand.tmp 50) (Operand.tmp 51), type := 0, pos := "ways.go:820", after := #[{ on := 5, ground := Ground.data }, { on := 6, ground := Ground.data }], guard := none }) (v := ?_) rfl (by kernel_rfl) (by kernel_rfl) (by kernel_rfl) (fun _ _ _ h => h) (Or.inl ⟨by rfl, ?_⟩) hHeld ?_
        rotate_left
        · (intro w hSw; (try dsimp only at hSw); go_simp; first | done | with_reducible rfl)
        simp only [Act.put, List.setIfInBounds_toArray, List.set_cons_zero, List.set_cons_succ]
        refine wpAnyH_take (i := 8) (oi := { dst := some 53, op := Op.load 3 (Operand.tmp 52), type := 3, pos := "ways.go:820", after := #[{ on := 7, ground := Ground.data }], guard := none }) (v := ?_) rfl (by kernel_rfl) (by kernel_rfl) (by kernel_rfl) (fun _ _ _ h => h) (Or.inl ⟨by rfl, ?_⟩) hHeld ?_
        rotate_left
        · (intro w hSw; (try dsimp only at hSw); go_simp; first | done | with_reducible rfl)
        simp only [Act.put, List.setIfInBounds_toArray, List.set_cons_zero, List.set_cons_succ]
        refine wpAnyH_ready (rs := [9]) (by kernel_rfl) (by simp) ?_
        refine AllReadyH.cons (o := { dst := some 54, op := Op.call { callee := Callee.value (Operand.func 8), args := #[Operand.tmp 45, Operand.tmp 49, Operand.tmp 53], argTypes := #[24, 3, 3] }, type := 28, pos := "ways.go:820", after := #[{ on := 0, ground := Ground.data }, { on := 4, ground := Ground.data }, { on := 8, ground := Ground.data }], guard := none }) rfl (fun K hK => ?_) AllReadyH.nil
        go_simp
        go_at_call 8
        obtain ⟨ma, hwa, hsa⟩ := (HT.out.below (Below.refl _ wr).drew).step
        refine (set_stp hwa i z).mono ?_
        rintro e wa ⟨rfl, sta⟩
        have hta := hsa _ _ _ sta
        have HTa := Lib.hid hta.swap
        have KK0 := HS.out wa hta.bel
        clear hHeld hta sta hsa hwa HT
        obtain ⟨ra, hra⟩ : ∃ ra, ra = setV 0 i z := ⟨_, rfl⟩
        rw [← hra]
        clear hra
        go_wp2_with fail
        refine hK.out _ _ KK0 (fun hHeld => ?_)
        clear hK K
        refine wpAnyH_done (by kernel_rfl) ?_ _
        clear s1 s2 hHeld
        obtain ⟨s1, s2⟩ := HS.out wa HTa.out.bel
        go_wp2_with fail
        refine wp_region_held_drew (S := (fun V => V.cell? ⟨b1, o1 + k, none⟩ = some (.int .i64 i) ∧ V.cell? ⟨b2, o2 + k, none⟩ = some (.int .i64 z))) (by kernel_rfl) ⟨s1, s2⟩ (fun hHeld => ?_)
        refine wpAnyH_take (i := 0) (oi := { dst := some 55, op := Op.move (Operand.tmp 11), type := 24, pos := "ways.go:821", after := #[], guard := none }) (v := ?_) rfl (by kernel_rfl) (by kernel_rfl) (by kernel_rfl) (fun _ _ _ h => h) (Or.inl ⟨by rfl, ?_⟩) hHeld ?_
        rotate_left
        · (intro w hSw; (try dsimp only at hSw); go_simp; first | done | with_reducible rfl)
        simp only [Act.put, List.setIfInBounds_toArray, List.set_cons_zero, List.set_cons_succ]
        refine wpAnyH_take (i := 1) (oi := { dst := some 56, op := Op.move (Operand.tmp 0), type := 22, pos := "ways.go:821", after := #[], guard := none }) (v := ?_) rfl (by kernel_rfl) (by kernel_rfl) (by kernel_rfl) (fun _ _ _ h => h) (Or.inl ⟨by rfl, ?_⟩) hHeld ?_
        rotate_left
        · (intro w hSw; (try dsimp only at hSw); go_simp; first | done | with_reducible rfl)
        simp only [Act.put, List.setIfInBounds_toArray, List.set_cons_zero, List.set_cons_succ]
        refine wpAnyH_take (i := 2) (oi := { dst := some 57, op := Op.move (Operand.tmp 12), type := 3, pos := "ways.go:821", after := #[], guard := none }) (v := ?_) rfl (by kernel_rfl) (by kernel_rfl) (by kernel_rfl) (fun _ _ _ h => h) (Or.inl ⟨by rfl, ?_⟩) hHeld ?_
        rotate_left
        · (intro w hSw; (try dsimp only at hSw); go_simp; first | done | with_reducible rfl)
        simp only [Act.put, List.setIfInBounds_toArray, List.set_cons_zero, List.set_cons_succ]
        refine wpAnyH_take (i := 3) (oi := { dst := some 58, op := Op.indexAddr 22 (Operand.tmp 56) (Operand.tmp 57), type := 0, pos := "ways.go:821", after := #[{ on := 1, ground := Ground.data }, { on := 2, ground := Ground.data }], guard := none }) (v := ?_) rfl (by kernel_rfl) (by kernel_rfl) (by kernel_rfl) (fun _ _ _ h => h) (Or.inl ⟨by rfl, ?_⟩) hHeld ?_
        rotate_left
        · (intro w hSw; (try dsimp only at hSw); go_simp; first | done | with_reducible rfl)
        simp only [Act.put, List.setIfInBounds_toArray, List.set_cons_zero, List.set_cons_succ]
        refine wpAnyH_take (i := 4) (oi := { dst := some 59, op := Op.load 3 (Operand.tmp 58), type := 3, pos := "ways.go:821", after := #[{ on := 3, ground := Ground.data }], guard := none }) (v := ?_) rfl (by kernel_rfl) (by kernel_rfl) (by kernel_rfl) (fun _ _ _ h => h) (Or.inl ⟨by rfl, ?_⟩) hHeld ?_
        rotate_left
        · (intro w hSw; (try dsimp only at hSw); go_simp; first | done | with_reducible rfl)
        simp only [Act.put, List.setIfInBounds_toArray, List.set_cons_zero, List.set_cons_succ]
        refine wpAnyH_take (i := 5) (oi := { dst := some 60, op := Op.move (Operand.tmp 1), type := 22, pos := "ways.go:821", after := #[], guard := none }) (v := ?_) rfl (by kernel_rfl) (by kernel_rfl) (by kernel_rfl) (fun _ _ _ h => h) (Or.inl ⟨by rfl, ?_⟩) hHeld ?_
        rotate_left
        · (intro w hSw; (try dsimp only at hSw); go_simp; first | done | with_reducible rfl)
        simp only [Act.put, List.setIfInBounds_toArray, List.set_cons_zero, List.set_cons_succ]
        refine wpAnyH_take (i := 6) (oi := { dst := some 61, op := Op.move (Operand.tmp 12), type := 3, pos := "ways.go:821", after := #[], guard := none }) (v := ?_) rfl (by kernel_rfl) (by kernel_rfl) (by kernel_rfl) (fun _ _ _ h => h) (Or.inl ⟨by rfl, ?_⟩) hHeld ?_
        rotate_left
        · (intro w hSw; (try dsimp only at hSw); go_simp; first | done | with_reducible rfl)
        simp only [Act.put, List.setIfInBounds_toArray, List.set_cons_zero, List.set_cons_succ]
        refine wpAnyH_take (i := 7) (oi := { dst := some 62, op := Op.indexAddr 22 (Operand.tmp 60) (Operand.tmp 61), type := 0, pos := "ways.go:821", after := #[{ on := 5, ground := Ground.data }, { on := 6, ground := Ground.data }], guard := none }) (v := ?_) rfl (by kernel_rfl) (by kernel_rfl) (by kernel_rfl) (fun _ _ _ h => h) (Or.inl ⟨by rfl, ?_⟩) hHeld ?_
        rotate_left
        · (intro w hSw; (try dsimp only at hSw); go_simp; first | done | with_reducible rfl)
        simp only [Act.put, List.setIfInBounds_toArray, List.set_cons_zero, List.set_cons_succ]
        refine wpAnyH_take (i := 8) (oi := { dst := some 63, op := Op.load 3 (Operand.tmp 62), type := 3, pos := "ways.go:821", after := #[{ on := 7, ground := Ground.data }], guard := none }) (v := ?_) rfl (by kernel_rfl) (by kernel_rfl) (by kernel_rfl) (fun _ _ _ h => h) (Or.inl ⟨by rfl, ?_⟩) hHeld ?_
        rotate_left
        · (intro w hSw; (try dsimp only at hSw); go_simp; first | done | with_reducible rfl)
        simp only [Act.put, List.setIfInBounds_toArray, List.set_cons_zero, List.set_cons_succ]
        refine wpAnyH_ready (rs := [9]) (by kernel_rfl) (by simp) ?_
        refine AllReadyH.cons (o := { dst := some 64, op := Op.call { callee := Callee.value (Operand.func 8), args := #[Operand.tmp 55, Operand.tmp 59, Operand.tmp 63], argTypes := #[24, 3, 3] }, type := 28, pos := "ways.go:821", after := #[{ on := 0, ground := Ground.data }, { on := 4, ground := Ground.data }, { on := 8, ground := Ground.data }], guard := none }) rfl (fun K hK => ?_) AllReadyH.nil
        go_simp
        go_at_call 8
        obtain ⟨mb, hwb, hsb⟩ := (HTa.out.below (Below.refl _ wa).drew).step
        refine (set_stp hwb i z).mono ?_
        rintro e wb ⟨rfl, stb⟩
        have htb := hsb _ _ _ stb
        have HTb := Lib.hid htb.swap
        have KK0 := HS.out wb htb.bel
        clear hHeld htb stb hsb hwb HTa
        obtain ⟨rb, hrb⟩ : ∃ rb, rb = setV 0 i z := ⟨_, rfl⟩
        rw [← hrb]
        clear hrb
        go_wp2_with fail
        refine hK.out _ _ KK0 (fun hHeld => ?_)
        clear hK K
        refine wpAnyH_done (by kernel_rfl) ?_ _
        clear s1 s2 hHeld
        go_wp2_with fail
        go_roundw
        case rel => exact ⟨k + 1, by go_num, by omega, _, HTb⟩
        case measure => simp [intOf]; omega
      · have u2 : ¬ (k : Int) < (n2 : Int) := by omega
        obtain ⟨m1, m2, hM⟩ := TwoM.of HT.out
        have HN : Hid (w.heap.size ≤ wr.heap.size) := Lib.hid HT.out.bel.size
        obtain ⟨N, hNe⟩ : ∃ N, N = wr.heap.size := ⟨_, rfl⟩
        rw [← hNe] at hM HN
        have HM := Lib.hid hM
        clear hM HT hNe H1 H2 HL1 HL2
        have HC11 := Lib.hid (HM.out.tick x hx)
        go_wp2_with fail
        refine HC11.out.mono ?_
        rintro e w11 ⟨v11, L11, rfl, hd11, ho11, hm11, hk11⟩
        have HD11 := Lib.hid hd11
        have HO11 := Lib.hid ho11
        clear HM HC11
        have HM := Lib.hid hm11
        clear hd11 ho11 hm11 hk11
        have HC12 := Lib.hid (HM.out.tick y hy)
        go_wp2_with fail
        refine HC12.out.mono ?_
        rintro e w12 ⟨v12, L12, rfl, hd12, ho12, hm12, hk12⟩
        have HD12 := Lib.hid hd12
        have HO12 := Lib.hid ho12
        clear HM HC12
        have HM := Lib.hid hm12
        have HP11 := Lib.hid (hk12 _ _ HO11.out)
        clear HO11
        have HO11 := HP11
        clear HP11
        clear hd12 ho12 hm12 hk12
        have HC13 := Lib.hid (HM.out.swap.tick y ⟨by have := hx.1; have := hy.1; omega, hy.2⟩)
        go_wp2_with fail
        refine HC13.out.mono ?_
        rintro e w13 ⟨v13, L13, rfl, hd13, ho13, hm13, hk13⟩
        have HD13 := Lib.hid hd13
        have HO13 := Lib.hid ho13
        clear HM HC13
        have HM := Lib.hid hm13.swap
        have HP11 := Lib.hid (hk13 _ _ HO11.out)
        clear HO11
        have HO11 := HP11
        clear HP11
        have HP12 := Lib.hid (hk13 _ _ HO12.out)
        clear HO12
        have HO12 := HP12
        clear HP12
        clear hd13 ho13 hm13 hk13
        have HSame := Lib.hid (show zsD L11 ++ zsD L12 = zsD L13 by rw [due_two (by have := hy.1; omega) HD11.out HD12.out HD13.out, zsD_app])
        have HRest := Lib.hid (cnt_congr fun k _ => rest_two f (show x ≤ y by have := hy.1; omega) k)
        have HOE := Lib.hid (OwnI.empty w13)
        have HB0 := Lib.hid ((Below.refl w13.heap.size w13).alloc (Nat.le_refl _) (.cells #[] 3))
        have HL11 := Lib.hid (due_len HD11.out)
        have HL12 := Lib.hid (due_len HD12.out)
        have HL13 := Lib.hid (due_len HD13.out)
        have HA1 := Lib.hid (HO11.out.keep HB0.out)
        clear HD11 HD12 HD13
        go_wp2_with (first
          | (at_builtin; refine wpl_copyI rfl _ _ rfl w13.heap.size _ _ (zsD L11) rfl rfl HOE.out HA1.out.arg (by rw [zsD_len]; have := HL11.out; omega) (by simp) ?_; intro v14 w14 hO14 hb14; have HO14 := Lib.hid hO14; have HB14 := Lib.hid (HB0.out.trans hb14); have HC2 := Lib.hid (HO12.out.keep (HB0.out.trans hb14)); clear hO14 hb14)
          | (at_builtin; refine wpl_append_listI rfl _ _ rfl w13.heap.size _ _ (zsD L11) (zsD L12) rfl rfl HO14.out HC2.out.arg (by rw [zsD_len, zsD_len]; have := HL11.out; have := HL12.out; omega) HB14.out.size ?_; intro v15 w15 hO15 hg15; have HO15 := Lib.hid hO15; have HB15 := Lib.hid (HB14.out.trans ((Below.refl w13.heap.size w14).grown hg15 HB14.out.size HO14.out.past)); have HI := Lib.hid (sameInts_any w15 _ _ _ _ (by rw [List.length_append, zsD_len, zsD_len]; have := HL11.out; have := HL12.out; omega) hO15.arg (HO13.out.keep HB15.out).arg); clear hO15 hg15))
        refine HI.out.mono ?_
        rintro e w16 ⟨rfl, hb16⟩
        have HM16 := Lib.hid (HM.out.lower ((HB15.out.trans (hb16.mono HB15.out.size)).mono HM.out.up) HN.out)
        clear hb16 HM HI HO11 HO12 HO13 HO14 HO15 HC2 HA1 HOE HB0 HB14 HB15
        rw [decide_eq_true HSame.out]
        have HLa := Lib.hid HM16.out.len
        have HLb := Lib.hid HM16.out.swap.len
        rw [HRest.out] at HLa
        generalize cnt (rest f y) = ca at HLa HLb
        have tca : ((ca : Int) == (ca : Int)) = true := by simp
        go_wp2_with fail
        refine HLa.out.mono ?_
        rintro e w17 ⟨rfl, rfl⟩
        go_wp2_with fail
        refine HLb.out.mono ?_
        rintro e w18 ⟨rfl, rfl⟩
        have HB := Lib.hid HM16.out.bel
        clear HM16 HLa HLb
        go_wp2_with fail
        go_ret
        exact ⟨rfl, HB.out⟩
    · have u1 : ¬ (k : Int) < (n1 : Int) := by omega
      obtain ⟨m1, m2, hM⟩ := TwoM.of HT.out
      have HN : Hid (w.heap.size ≤ wr.heap.size) := Lib.hid HT.out.bel.size
      obtain ⟨N, hNe⟩ : ∃ N, N = wr.heap.size := ⟨_, rfl⟩
      rw [← hNe] at hM HN
      have HM := Lib.hid hM
      clear hM HT hNe H1 H2 HL1 HL2
      have HC11 := Lib.hid (HM.out.tick x hx)
      go_wp2_with fail
      refine HC11.out.mono ?_
      rintro e w11 ⟨v11, L11, rfl, hd11, ho11, hm11, hk11⟩
      have HD11 := Lib.hid hd11
      have HO11 := Lib.hid ho11
      clear HM HC11
      have HM := Lib.hid hm11
      clear hd11 ho11 hm11 hk11
      have HC12 := Lib.hid (HM.out.tick y hy)
      go_wp2_with fail
      refine HC12.out.mono ?_
      rintro e w12 ⟨v12, L12, rfl, hd12, ho12, hm12, hk12⟩
      have HD12 := Lib.hid hd12
      have HO12 := Lib.hid ho12
      clear HM HC12
      have HM := Lib.hid hm12
      have HP11 := Lib.hid (hk12 _ _ HO11.out)
      clear HO11
      have HO11 := HP11
      clear HP11
      clear hd12 ho12 hm12 hk12
      have HC13 := Lib.hid (HM.out.swap.tick y ⟨by have := hx.1; have := hy.1; omega, hy.2⟩)
      go_wp2_with fail
      refine HC13.out.mono ?_
      rintro e w13 ⟨v13, L13, rfl, hd13, ho13, hm13, hk13⟩
      have HD13 := Lib.hid hd13
      have HO13 := Lib.hid ho13
      clear HM HC13
      have HM := Lib.hid hm13.swap
      have HP11 := Lib.hid (hk13 _ _ HO11.out)
      clear HO11
      have HO11 := HP11
      clear HP11
      have HP12 := Lib.hid (hk13 _ _ HO12.out)
      clear HO12
      have HO12 := HP12
      clear HP12
      clear hd13 ho13 hm13 hk13
      have HSame := Lib.hid (show zsD L11 ++ zsD L12 = zsD L13 by rw [due_two (by have := hy.1; omega) HD11.out HD12.out HD13.out, zsD_app])
      have HRest := Lib.hid (cnt_congr fun k _ => rest_two f (show x ≤ y by have := hy.1; omega) k)
      have HOE := Lib.hid (OwnI.empty w13)
      have HB0 := Lib.hid ((Below.refl w13.heap.size w13).alloc (Nat.le_refl _) (.cells #[] 3))
      have HL11 := Lib.hid (due_len HD11.out)
      have HL12 := Lib.hid (due_len HD12.out)
      have HL13 := Lib.hid (due_len HD13.out)
      have HA1 := Lib.hid (HO11.out.keep HB0.out)
      clear HD11 HD12 HD13
      go_wp2_with (first
        | (at_builtin; refine wpl_copyI rfl _ _ rfl w13.heap.size _ _ (zsD L11) rfl rfl HOE.out HA1.out.arg (by rw [zsD_len]; have := HL11.out; omega) (by simp) ?_; intro v14 w14 hO14 hb14; have HO14 := Lib.hid hO14; have HB14 := Lib.hid (HB0.out.trans hb14); have HC2 := Lib.hid (HO12.out.keep (HB0.out.trans hb14)); clear hO14 hb14)
        | (at_builtin; refine wpl_append_listI rfl _ _ rfl w13.heap.size _ _ (zsD L11) (zsD L12) rfl rfl HO14.out HC2.out.arg (by rw [zsD_len, zsD_len]; have := HL11.out; have := HL12.out; omega) HB14.out.size ?_; intro v15 w15 hO15 hg15; have HO15 := Lib.hid hO15; have HB15 := Lib.hid (HB14.out.trans ((Below.refl w13.heap.size w14).grown hg15 HB14.out.size HO14.out.past)); have HI := Lib.hid (sameInts_any w15 _ _ _ _ (by rw [List.length_append, zsD_len, zsD_len]; have := HL11.out; have := HL12.out; omega) hO15.arg (HO13.out.keep HB15.out).arg); clear hO15 hg15))
      refine HI.out.mono ?_
      rintro e w16 ⟨rfl, hb16⟩
      have HM16 := Lib.hid (HM.out.lower ((HB15.out.trans (hb16.mono HB15.out.size)).mono HM.out.up) HN.out)
      clear hb16 HM HI HO11 HO12 HO13 HO14 HO15 HC2 HA1 HOE HB0 HB14 HB15
      rw [decide_eq_true HSame.out]
      have HLa := Lib.hid HM16.out.len
      have HLb := Lib.hid HM16.out.swap.len
      rw [HRest.out] at HLa
      generalize cnt (rest f y) = ca at HLa HLb
      have tca : ((ca : Int) == (ca : Int)) = true := by simp
      go_wp2_with fail
      refine HLa.out.mono ?_
      rintro e w17 ⟨rfl, rfl⟩
      go_wp2_with fail
      refine HLb.out.mono ?_
      rintro e w18 ⟨rfl, rfl⟩
      have HB := Lib.hid HM16.out.bel
      clear HM16 HLa HLb
      go_wp2_with fail
      go_ret
      exact ⟨rfl, HB.out⟩

set_option maxHeartbeats 8000000 in
set_option maxRecDepth 100000 in
theorem steps_b1 (w : World) (v1 v2 : Value) (l1 l2 : List Int) (a1 : ArgI w v1 l1) (a2 : ArgI w v2 l2) (x : Int) (y : Nat) (hx : ¬ okT 0 x) (hy : okT 0 y) (hlen : l1.length * 8 ≤ 140737488355328) :
    Calls Try.prog 4 #[v1, v2, .int .i64 x, .int .i64 y] w fun e w' => e = .returned (.bool true) ∧ Below w.heap.size w w' := by
  obtain ⟨p1, c1, rfl, a1⟩ := a1
  obtain ⟨p2, c2, rfl, a2⟩ := a2
  have H1 : Hid (∀ i, i < l1.length → ∃ b off, p1 = some ⟨b, off, none⟩ ∧ b < w.heap.size ∧ SeenI w b off l1) := Lib.hid (by
    intro i hi
    rcases a1 with rfl | h
    · simp at hi
    · exact h)
  have H2 : Hid (∀ i, i < l2.length → ∃ b off, p2 = some ⟨b, off, none⟩ ∧ b < w.heap.size ∧ SeenI w b off l2) := Lib.hid (by
    intro i hi
    rcases a2 with rfl | h
    · simp at hi
    · exact h)
  clear a1 a2
  obtain ⟨n1, hn1⟩ : ∃ n1, l1.length = n1 := ⟨_, rfl⟩
  obtain ⟨n2, hn2⟩ : ∃ n2, l2.length = n2 := ⟨_, rfl⟩
  rw [hn1] at H1 hlen ⊢
  rw [hn2] at H2 ⊢
  have HL1 := Lib.hid hn1
  have HL2 := Lib.hid hn2
  clear hn1 hn2
  go_enter Try.func4, Try.ntmps4
  go_wp2_with fail
  refine (wheeled_any w).mono ?_
  rintro e w1 ⟨rfl, hb1⟩
  have HN := Lib.hid (new_one w w1 hb1)
  clear hb1
  go_wp2_with fail
  refine HN.out.mono ?_
  rintro e w2 ⟨rfl, h2⟩
  have HN2 := Lib.hid (new_two w w2 _ 0 _ h2)
  clear h2 HN
  go_wp2_with fail
  refine HN2.out.mono ?_
  rintro e w3 ⟨rfl, h3⟩
  have HT0 := Lib.hid h3
  clear h3 HN2
  generalize w1.heap.size = p at HT0 ⊢
  generalize w2.heap.size = q at HT0 ⊢
  go_wp2_with fail
  go_loopw [12] (fun v12 wr => ∃ k : Nat, v12 = .int .i64 k ∧ k ≤ n1 ∧ ∃ f, Hid (TwoW w wr p q 0 f 0 f)) (fun v12 _ => n1 + 1 - (intOf v12).toNat)
  case atStart => exact ⟨0, rfl, Nat.zero_le _, _, HT0⟩
  case round =>
    clear HT0
    obtain ⟨k, rfl, hk, f, HT⟩ := hrel
    by_cases t1 : k < n1
    · have u1 : (k : Int) < (n1 : Int) := by omega
      by_cases t2 : k < n2
      · have u2 : (k : Int) < (n2 : Int) := by omega
        obtain ⟨b1, o1, rfl, hb1, hs1⟩ := H1.out k t1
        obtain ⟨b2, o2, rfl, hb2, hs2⟩ := H2.out k t2
        have HS := Lib.hid (fun V (hb : Below w.heap.size w V) => And.intro ((hs1.below hb hb1) k (by rw [HL1.out]; exact t1)) ((hs2.below hb hb2) k (by rw [HL2.out]; exact t2)))
        obtain ⟨s1, s2⟩ := HS.out wr HT.out.bel
        clear hs1 hs2 hb1 hb2
        generalize l1[k]! = i at s1 s2 HS
        generalize l2[k]! = z at s1 s2 HS
        go_wp2_with fail
        refine wp_region_held_drew (S := (fun V => V.cell? ⟨b1, o1 + k, none⟩ = some (.int .i64 i) ∧ V.cell? ⟨b2, o2 + k, none⟩ = some (.int .i64 z))) (by kernel_rfl) ⟨s1, s2⟩ (fun hHeld => ?_)
        refine wpAnyH_take (i := 0) (oi := { dst := some 45, op := Op.move (Operand.tmp 10), type := 24, pos := "ways.go:820", after := #[], guard := none }) (v := ?_) rfl (by kernel_rfl) (by kernel_rfl) (by kernel_rfl) (fun _ _ _ h => h) (Or.inl ⟨by rfl, ?_⟩) hHeld ?_
        rotate_left
        · (intro w hSw; (try dsimp only at hSw); go_simp; first | done | with_reducible rfl)
        simp only [Act.put, List.setIfInBounds_toArray, List.set_cons_zero, List.set_cons_succ]
        refine wpAnyH_take (i := 1) (oi := { dst := some 46, op := Op.move (Operand.tmp 0), type := 22, pos := "ways.go:820", after := #[], guard := none }) (v := ?_) rfl (by kernel_rfl) (by kernel_rfl) (by kernel_rfl) (fun _ _ _ h => h) (Or.inl ⟨by rfl, ?_⟩) hHeld ?_
        rotate_left
        · (intro w hSw; (try dsimp only at hSw); go_simp; first | done | with_reducible rfl)
        simp only [Act.put, List.setIfInBounds_toArray, List.set_cons_zero, List.set_cons_succ]
        refine wpAnyH_take (i := 2) (oi := { dst := some 47, op := Op.move (Operand.tmp 12), type := 3, pos := "ways.go:820", after := #[], guard := none }) (v := ?_) rfl (by kernel_rfl) (by kernel_rfl) (by kernel_rfl) (fun _ _ _ h => h) (Or.inl ⟨by rfl, ?_⟩) hHeld ?_
        rotate_left
        · (intro w hSw; (try dsimp only at hSw); go_simp; first | done | with_reducible rfl)
        simp only [Act.put, List.setIfInBounds_toArray, List.set_cons_zero, List.set_cons_succ]
        refine wpAnyH_take (i := 3) (oi := { dst := some 48, op := Op.indexAddr 22 (Operand.tmp 46) (Operand.tmp 47), type := 0, pos := "ways.go:820", after := #[{ on := 1, ground := Ground.data }, { on := 2, ground := Ground.data }], guard := none }) (v := ?_) rfl (by kernel_rfl) (by kernel_rfl) (by kernel_rfl) (fun _ _ _ h => h) (Or.inl ⟨by rfl, ?_⟩) hHeld ?_
        rotate_left
        · (intro w hSw; (try dsimp only at hSw); go_simp; first | done | with_reducible rfl)
        simp only [Act.put, List.setIfInBounds_toArray, List.set_cons_zero, List.set_cons_succ]
        refine wpAnyH_take (i := 4) (oi := { dst := some 49, op := Op.load 3 (Operand.tmp 48), type := 3, pos := "ways.go:820", after := #[{ on := 3, ground := Ground.data }], guard := none }) (v := ?_) rfl (by kernel_rfl) (by kernel_rfl) (by kernel_rfl) (fun _ _ _ h => h) (Or.inl ⟨by rfl, ?_⟩) hHeld ?_
        rotate_left
        · (intro w hSw; (try dsimp only at hSw); go_simp; first | done | with_reducible rfl)
        simp only [Act.put, List.setIfInBounds_toArray, List.set_cons_zero, List.set_cons_succ]
        refine wpAnyH_take (i := 5) (oi := { dst := some 50, op := Op.move (Operand.tmp 1), type := 22, pos := "ways.go:820", after := #[], guard := none }) (v := ?_) rfl (by kernel_rfl) (by kernel_rfl) (by kernel_rfl) (fun _ _ _ h => h) (Or.inl ⟨by rfl, ?_⟩) hHeld ?_
        rotate_left
        · (intro w hSw; (try dsimp only at hSw); go_simp; first | done | with_reducible rfl)
        simp only [Act.put, List.setIfInBounds_toArray, List.set_cons_zero, List.set_cons_succ]
        refine wpAnyH_take (i := 6) (oi := { dst := some 51, op := Op.move (Operand.tmp 12), type := 3, pos := "ways.go:820", after := #[], guard := none }) (v := ?_) rfl (by kernel_rfl) (by kernel_rfl) (by kernel_rfl) (fun _ _ _ h => h) (Or.inl ⟨by rfl, ?_⟩) hHeld ?_
        rotate_left
        · (intro w hSw; (try dsimp only at hSw); go_simp; first | done | with_reducible rfl)
        simp only [Act.put, List.setIfInBounds_toArray, List.set_cons_zero, List.set_cons_succ]
        refine wpAnyH_take (i := 7) (oi := { dst := some 52, op := Op.indexAddr 22 (Operand.tmp 50) (Operand.tmp 51), type := 0, pos := "ways.go:820", after := #[{ on := 5, ground := Ground.data }, { on := 6, ground := Ground.data }], guard := none }) (v := ?_) rfl (by kernel_rfl) (by kernel_rfl) (by kernel_rfl) (fun _ _ _ h => h) (Or.inl ⟨by rfl, ?_⟩) hHeld ?_
        rotate_left
        · (intro w hSw; (try dsimp only at hSw); go_simp; first | done | with_reducible rfl)
        simp only [Act.put, List.setIfInBounds_toArray, List.set_cons_zero, List.set_cons_succ]
        refine wpAnyH_take (i := 8) (oi := { dst := some 53, op := Op.load 3 (Operand.tmp 52), type := 3, pos := "ways.go:820", after := #[{ on := 7, ground := Ground.data }], guard := none }) (v := ?_) rfl (by kernel_rfl) (by kernel_rfl) (by kernel_rfl) (fun _ _ _ h => h) (Or.inl ⟨by rfl, ?_⟩) hHeld ?_
        rotate_left
        · (intro w hSw; (try dsimp only at hSw); go_simp; first | done | with_reducible rfl)
        simp only [Act.put, List.setIfInBounds_toArray, List.set_cons_zero, List.set_cons_succ]
        refine wpAnyH_ready (rs := [9]) (by kernel_rfl) (by simp) ?_
        refine AllReadyH.cons (o := { dst := some 54, op := Op.call { callee := Callee.value (Operand.func 8), args := #[Operand.tmp 45, Operand.tmp 49, Operand.tmp 53], argTypes := #[24, 3, 3] }, type := 28, pos := "ways.go:820", after := #[{ on := 0, ground := Ground.data }, { on := 4, ground := Ground.data }, { on := 8, ground := Ground.data }], guard := none }) rfl (fun K hK => ?_) AllReadyH.nil
        go_simp
        go_at_call 8
        obtain ⟨ma, hwa, hsa⟩ := (HT.out.below (Below.refl _ wr).drew).step
        refine (set_stp hwa i z).mono ?_
        rintro e wa ⟨rfl, sta⟩
        have hta := hsa _ _ _ sta
        have HTa := Lib.hid hta.swap
        have KK0 := HS.out wa hta.bel
        clear hHeld hta sta hsa hwa HT
        obtain ⟨ra, hra⟩ : ∃ ra, ra = setV 0 i z := ⟨_, rfl⟩
        rw [← hra]
        clear hra
        go_wp2_with fail
        refine hK.out _ _ KK0 (fun hHeld => ?_)
        clear hK K
        refine wpAnyH_done (by kernel_rfl) ?_ _
        clear s1 s2 hHeld
        obtain ⟨s1, s2⟩ := HS.out wa HTa.out.bel
        go_wp2_with fail
        refine wp_region_held_drew (S := (fun V => V.cell? ⟨b1, o1 + k, none⟩ = some (.int .i64 i) ∧ V.cell? ⟨b2, o2 + k, none⟩ = some (.int .i64 z))) (by kernel_rfl) ⟨s1, s2⟩ (fun hHeld => ?_)
        refine wpAnyH_take (i := 0) (oi := { dst := some 55, op := Op.move (Operand.tmp 11), type := 24, pos := "ways.go:821", after := #[], guard := none }) (v := ?_) rfl (by kernel_rfl) (by kernel_rfl) (by kernel_rfl) (fun _ _ _ h => h) (Or.inl ⟨by rfl, ?_⟩) hHeld ?_
        rotate_left
        · (intro w hSw; (try dsimp only at hSw); go_simp; first | done | with_reducible rfl)
        simp only [Act.put, List.setIfInBounds_toArray, List.set_cons_zero, List.set_cons_succ]
        refine wpAnyH_take (i := 1) (oi := { dst := some 56, op := Op.move (Operand.tmp 0), type := 22, pos := "ways.go:821", after := #[], guard := none }) (v := ?_) rfl (by kernel_rfl) (by kernel_rfl) (by kernel_rfl) (fun _ _ _ h => h) (Or.inl ⟨by rfl, ?_⟩) hHeld ?_
        rotate_left
        · (intro w hSw; (try dsimp only at hSw); go_simp; first | done | with_reducible rfl)
        simp only [Act.put, List.setIfInBounds_toArray, List.set_cons_zero, List.set_cons_succ]
        refine wpAnyH_take (i := 2) (oi := { dst := some 57, op := Op.move (Operand.tmp 12), type := 3, pos := "ways.go:821", after := #[], guard := none }) (v := ?_) rfl (by kernel_rfl) (by kernel_rfl) (by kernel_rfl) (fun _ _ _ h => h) (Or.inl ⟨by rfl, ?_⟩) hHeld ?_
        rotate_left
        · (intro w hSw; (try dsimp only at hSw); go_simp; first | done | with_reducible rfl)
        simp only [Act.put, List.setIfInBounds_toArray, List.set_cons_zero, List.set_cons_succ]
        refine wpAnyH_take (i := 3) (oi := { dst := some 58, op := Op.indexAddr 22 (Operand.tmp 56) (Operand.tmp 57), type := 0, pos := "ways.go:821", after := #[{ on := 1, ground := Ground.data }, { on := 2, ground := Ground.data }], guard := none }) (v := ?_) rfl (by kernel_rfl) (by kernel_rfl) (by kernel_rfl) (fun _ _ _ h => h) (Or.inl ⟨by rfl, ?_⟩) hHeld ?_
        rotate_left
        · (intro w hSw; (try dsimp only at hSw); go_simp; first | done | with_reducible rfl)
        simp only [Act.put, List.setIfInBounds_toArray, List.set_cons_zero, List.set_cons_succ]
        refine wpAnyH_take (i := 4) (oi := { dst := some 59, op := Op.load 3 (Operand.tmp 58), type := 3, pos := "ways.go:821", after := #[{ on := 3, ground := Ground.data }], guard := none }) (v := ?_) rfl (by kernel_rfl) (by kernel_rfl) (by kernel_rfl) (fun _ _ _ h => h) (Or.inl ⟨by rfl, ?_⟩) hHeld ?_
        rotate_left
        · (intro w hSw; (try dsimp only at hSw); go_simp; first | done | with_reducible rfl)
        simp only [Act.put, List.setIfInBounds_toArray, List.set_cons_zero, List.set_cons_succ]
        refine wpAnyH_take (i := 5) (oi := { dst := some 60, op := Op.move (Operand.tmp 1), type := 22, pos := "ways.go:821", after := #[], guard := none }) (v := ?_) rfl (by kernel_rfl) (by kernel_rfl) (by kernel_rfl) (fun _ _ _ h => h) (Or.inl ⟨by rfl, ?_⟩) hHeld ?_
        rotate_left
        · (intro w hSw; (try dsimp only at hSw); go_simp; first | done | with_reducible rfl)
        simp only [Act.put, List.setIfInBounds_toArray, List.set_cons_zero, List.set_cons_succ]
        refine wpAnyH_take (i := 6) (oi := { dst := some 61, op := Op.move (Operand.tmp 12), type := 3, pos := "ways.go:821", after := #[], guard := none }) (v := ?_) rfl (by kernel_rfl) (by kernel_rfl) (by kernel_rfl) (fun _ _ _ h => h) (Or.inl ⟨by rfl, ?_⟩) hHeld ?_
        rotate_left
        · (intro w hSw; (try dsimp only at hSw); go_simp; first | done | with_reducible rfl)
        simp only [Act.put, List.setIfInBounds_toArray, List.set_cons_zero, List.set_cons_succ]
        refine wpAnyH_take (i := 7) (oi := { dst := some 62, op := Op.indexAddr 22 (Operand.tmp 60) (Operand.tmp 61), type := 0, pos := "ways.go:821", after := #[{ on := 5, ground := Ground.data }, { on := 6, ground := Ground.data }], guard := none }) (v := ?_) rfl (by kernel_rfl) (by kernel_rfl) (by kernel_rfl) (fun _ _ _ h => h) (Or.inl ⟨by rfl, ?_⟩) hHeld ?_
        rotate_left
        · (intro w hSw; (try dsimp only at hSw); go_simp; first | done | with_reducible rfl)
        simp only [Act.put, List.setIfInBounds_toArray, List.set_cons_zero, List.set_cons_succ]
        refine wpAnyH_take (i := 8) (oi := { dst := some 63, op := Op.load 3 (Operand.tmp 62), type := 3, pos := "ways.go:821", after := #[{ on := 7, ground := Ground.data }], guard := none }) (v := ?_) rfl (by kernel_rfl) (by kernel_rfl) (by kernel_rfl) (fun _ _ _ h => h) (Or.inl ⟨by rfl, ?_⟩) hHeld ?_
        rotate_left
        · (intro w hSw; (try dsimp only at hSw); go_simp; first | done | with_reducible rfl)
        simp only [Act.put, List.setIfInBounds_toArray, List.set_cons_zero, List.set_cons_succ]
        refine wpAnyH_ready (rs := [9]) (by kernel_rfl) (by simp) ?_
        refine AllReadyH.cons (o := { dst := some 64, op := Op.call { callee := Callee.value (Operand.func 8), args := #[Operand.tmp 55, Operand.tmp 59, Operand.tmp 63], argTypes := #[24, 3, 3] }, type := 28, pos := "ways.go:821", after := #[{ on := 0, ground := Ground.data }, { on := 4, ground := Ground.data }, { on := 8, ground := Ground.data }], guard := none }) rfl (fun K hK => ?_) AllReadyH.nil
        go_simp
        go_at_call 8
        obtain ⟨mb, hwb, hsb⟩ := (HTa.out.below (Below.refl _ wa).drew).step
        refine (set_stp hwb i z).mono ?_
        rintro e wb ⟨rfl, stb⟩
        have htb := hsb _ _ _ stb
        have HTb := Lib.hid htb.swap
        have KK0 := HS.out wb htb.bel
        clear hHeld htb stb hsb hwb HTa
        obtain ⟨rb, hrb⟩ : ∃ rb, rb = setV 0 i z := ⟨_, rfl⟩
        rw [← hrb]
        clear hrb
        go_wp2_with fail
        refine hK.out _ _ KK0 (fun hHeld => ?_)
        clear hK K
        refine wpAnyH_done (by kernel_rfl) ?_ _
        clear s1 s2 hHeld
        go_wp2_with fail
        go_roundw
        case rel => exact ⟨k + 1, by go_num, by omega, _, HTb⟩
        case measure => simp [intOf]; omega
      · have u2 : ¬ (k : Int) < (n2 : Int) := by omega
        obtain ⟨m1, m2, hM⟩ := TwoM.of HT.out
        have HN : Hid (w.heap.size ≤ wr.heap.size) := Lib.hid HT.out.bel.size
        obtain ⟨N, hNe⟩ : ∃ N, N = wr.heap.size := ⟨_, rfl⟩
        rw [← hNe] at hM HN
        have HM := Lib.hid hM
        clear hM HT hNe H1 H2 HL1 HL2
        have HC11 := Lib.hid (HM.out.bad x hx)
        go_wp2_with fail
        refine HC11.out.mono ?_
        rintro e w11 ⟨rfl, rfl⟩
        clear HC11
        have HC12 := Lib.hid (HM.out.tick y hy)
        go_wp2_with fail
        refine HC12.out.mono ?_
        rintro e w12 ⟨v12, L12, rfl, hd12, ho12, hm12, hk12⟩
        have HD12 := Lib.hid hd12
        have HO12 := Lib.hid ho12
        clear HM HC12
        have HM := Lib.hid hm12
        clear hd12 ho12 hm12 hk12
        have HC13 := Lib.hid (HM.out.swap.tick y hy)
        go_wp2_with fail
        refine HC13.out.mono ?_
        rintro e w13 ⟨v13, L13, rfl, hd13, ho13, hm13, hk13⟩
        have HD13 := Lib.hid hd13
        have HO13 := Lib.hid ho13
        clear HM HC13
        have HM := Lib.hid hm13.swap
        have HP12 := Lib.hid (hk13 _ _ HO12.out)
        clear HO12
        have HO12 := HP12
        clear HP12
        clear hd13 ho13 hm13 hk13
        have HB := Lib.hid HM.out.bel
        clear HM
        rcases (show (x : Int) < 0 ∨ (¬ (x : Int) < 0 ∧ (y : Int) < (x : Int)) ∨ (¬ (x : Int) < 0 ∧ ¬ (y : Int) < (x : Int) ∧ (y : Int) > 1099511627776) by unfold okT at hx hy; omega) with t | ⟨t, t3⟩ | ⟨t, t3, t4⟩
        · go_wp2_with fail
          go_ret
          exact ⟨rfl, HB.out⟩
        · go_wp2_with fail
          go_ret
          exact ⟨rfl, HB.out⟩
        · go_wp2_with fail
          go_ret
          exact ⟨rfl, HB.out⟩
    · have u1 : ¬ (k : Int) < (n1 : Int) := by omega
      obtain ⟨m1, m2, hM⟩ := TwoM.of HT.out
      have HN : Hid (w.heap.size ≤ wr.heap.size) := Lib.hid HT.out.bel.size
      obtain ⟨N, hNe⟩ : ∃ N, N = wr.heap.size := ⟨_, rfl⟩
      rw [← hNe] at hM HN
      have HM := Lib.hid hM
      clear hM HT hNe H1 H2 HL1 HL2
      have HC11 := Lib.hid (HM.out.bad x hx)
      go_wp2_with fail
      refine HC11.out.mono ?_
      rintro e w11 ⟨rfl, rfl⟩
      clear HC11
      have HC12 := Lib.hid (HM.out.tick y hy)
      go_wp2_with fail
      refine HC12.out.mono ?_
      rintro e w12 ⟨v12, L12, rfl, hd12, ho12, hm12, hk12⟩
      have HD12 := Lib.hid hd12
      have HO12 := Lib.hid ho12
      clear HM HC12
      have HM := Lib.hid hm12
      clear hd12 ho12 hm12 hk12
      have HC13 := Lib.hid (HM.out.swap.tick y hy)
      go_wp2_with fail
      refine HC13.out.mono ?_
      rintro e w13 ⟨v13, L13, rfl, hd13, ho13, hm13, hk13⟩
      have HD13 := Lib.hid hd13
      have HO13 := Lib.hid ho13
      clear HM HC13
      have HM := Lib.hid hm13.swap
      have HP12 := Lib.hid (hk13 _ _ HO12.out)
      clear HO12
      have HO12 := HP12
      clear HP12
      clear hd13 ho13 hm13 hk13
      have HB := Lib.hid HM.out.bel
      clear HM
      rcases (show (x : Int) < 0 ∨ (¬ (x : Int) < 0 ∧ (y : Int) < (x : Int)) ∨ (¬ (x : Int) < 0 ∧ ¬ (y : Int) < (x : Int) ∧ (y : Int) > 1099511627776) by unfold okT at hx hy; omega) with t | ⟨t, t3⟩ | ⟨t, t3, t4⟩
      · go_wp2_with fail
        go_ret
        exact ⟨rfl, HB.out⟩
      · go_wp2_with fail
        go_ret
        exact ⟨rfl, HB.out⟩
      · go_wp2_with fail
        go_ret
        exact ⟨rfl, HB.out⟩

set_option maxHeartbeats 8000000 in
set_option maxRecDepth 100000 in
theorem steps_b2 (w : World) (v1 v2 : Value) (l1 l2 : List Int) (a1 : ArgI w v1 l1) (a2 : ArgI w v2 l2) (x y : Int) (hx : ¬ okT 0 x) (hy : ¬ okT 0 y) (hlen : l1.length * 8 ≤ 140737488355328) :
    Calls Try.prog 4 #[v1, v2, .int .i64 x, .int .i64 y] w fun e w' => e = .returned (.bool true) ∧ Below w.heap.size w w' := by
  obtain ⟨p1, c1, rfl, a1⟩ := a1
  obtain ⟨p2, c2, rfl, a2⟩ := a2
  have H1 : Hid (∀ i, i < l1.length → ∃ b off, p1 = some ⟨b, off, none⟩ ∧ b < w.heap.size ∧ SeenI w b off l1) := Lib.hid (by
    intro i hi
    rcases a1 with rfl | h
    · simp at hi
    · exact h)
  have H2 : Hid (∀ i, i < l2.length → ∃ b off, p2 = some ⟨b, off, none⟩ ∧ b < w.heap.size ∧ SeenI w b off l2) := Lib.hid (by
    intro i hi
    rcases a2 with rfl | h
    · simp at hi
    · exact h)
  clear a1 a2
  obtain ⟨n1, hn1⟩ : ∃ n1, l1.length = n1 := ⟨_, rfl⟩
  obtain ⟨n2, hn2⟩ : ∃ n2, l2.length = n2 := ⟨_, rfl⟩
  rw [hn1] at H1 hlen ⊢
  rw [hn2] at H2 ⊢
  have HL1 := Lib.hid hn1
  have HL2 := Lib.hid hn2
  clear hn1 hn2
  go_enter Try.func4, Try.ntmps4
  go_wp2_with fail
  refine (wheeled_any w).mono ?_
  rintro e w1 ⟨rfl, hb1⟩
  have HN := Lib.hid (new_one w w1 hb1)
  clear hb1
  go_wp2_with fail
  refine HN.out.mono ?_
  rintro e w2 ⟨rfl, h2⟩
  have HN2 := Lib.hid (new_two w w2 _ 0 _ h2)
  clear h2 HN
  go_wp2_with fail
  refine HN2.out.mono ?_
  rintro e w3 ⟨rfl, h3⟩
  have HT0 := Lib.hid h3
  clear h3 HN2
  generalize w1.heap.size = p at HT0 ⊢
  generalize w2.heap.size = q at HT0 ⊢
  go_wp2_with fail
  go_loopw [12] (fun v12 wr => ∃ k : Nat, v12 = .int .i64 k ∧ k ≤ n1 ∧ ∃ f, Hid (TwoW w wr p q 0 f 0 f)) (fun v12 _ => n1 + 1 - (intOf v12).toNat)
  case atStart => exact ⟨0, rfl, Nat.zero_le _, _, HT0⟩
  case round =>
    clear HT0
    obtain ⟨k, rfl, hk, f, HT⟩ := hrel
    by_cases t1 : k < n1
    · have u1 : (k : Int) < (n1 : Int) := by omega
      by_cases t2 : k < n2
      · have u2 : (k : Int) < (n2 : Int) := by omega
        obtain ⟨b1, o1, rfl, hb1, hs1⟩ := H1.out k t1
        obtain ⟨b2, o2, rfl, hb2, hs2⟩ := H2.out k t2
        have HS := Lib.hid (fun V (hb : Below w.heap.size w V) => And.intro ((hs1.below hb hb1) k (by rw [HL1.out]; exact t1)) ((hs2.below hb hb2) k (by rw [HL2.out]; exact t2)))
        obtain ⟨s1, s2⟩ := HS.out wr HT.out.bel
        clear hs1 hs2 hb1 hb2
        generalize l1[k]! = i at s1 s2 HS
        generalize l2[k]! = z at s1 s2 HS
        go_wp2_with fail
        refine wp_region_held_drew (S := (fun V => V.cell? ⟨b1, o1 + k, none⟩ = some (.int .i64 i) ∧ V.cell? ⟨b2, o2 + k, none⟩ = some (.int .i64 z))) (by kernel_rfl) ⟨s1, s2⟩ (fun hHeld => ?_)
        refine wpAnyH_take (i := 0) (oi := { dst := some 45, op := Op.move (Operand.tmp 10), type := 24, pos := "ways.go:820", after := #[], guard := none }) (v := ?_) rfl (by kernel_rfl) (by kernel_rfl) (by kernel_rfl) (fun _ _ _ h => h) (Or.inl ⟨by rfl, ?_⟩) hHeld ?_
        rotate_left
        · (intro w hSw; (try dsimp only at hSw); go_simp; first | done | with_reducible rfl)
        simp only [Act.put, List.setIfInBounds_toArray, List.set_cons_zero, List.set_cons_succ]
        refine wpAnyH_take (i := 1) (oi := { dst := some 46, op := Op.move (Operand.tmp 0), type := 22, pos := "ways.go:820", after := #[], guard := none }) (v := ?_) rfl (by kernel_rfl) (by kernel_rfl) (by kernel_rfl) (fun _ _ _ h => h) (Or.inl ⟨by rfl, ?_⟩) hHeld ?_
        rotate_left
        · (intro w hSw; (try dsimp only at hSw); go_simp; first | done | with_reducible rfl)
        simp only [Act.put, List.setIfInBounds_toArray, List.set_cons_zero, List.set_cons_succ]
        refine wpAnyH_take (i := 2) (oi := { dst := some 47, op := Op.move (Operand.tmp 12), type := 3, pos := "ways.go:820", after := #[], guard := none }) (v := ?_) rfl (by kernel_rfl) (by kernel_rfl) (by kernel_rfl) (fun _ _ _ h => h) (Or.inl ⟨by rfl, ?_⟩) hHeld ?_
        rotate_left
        · (intro w hSw; (try dsimp only at hSw); go_simp; first | done | with_reducible rfl)
        simp only [Act.put, List.setIfInBounds_toArray, List.set_cons_zero, List.set_cons_succ]
        refine wpAnyH_take (i := 3) (oi := { dst := some 48, op := Op.indexAddr 22 (Operand.tmp 46) (Operand.tmp 47), type := 0, pos := "ways.go:820", after := #[{ on := 1, ground := Ground.data }, { on := 2, ground := Ground.data }], guard := none }) (v := ?_) rfl (by kernel_rfl) (by kernel_rfl) (by kernel_rfl) (fun _ _ _ h => h) (Or.inl ⟨by rfl, ?_⟩) hHeld ?_
        rotate_left
        · (intro w hSw; (try dsimp only at hSw); go_simp; first | done | with_reducible rfl)
        simp only [Act.put, List.setIfInBounds_toArray, List.set_cons_zero, List.set_cons_succ]
        refine wpAnyH_take (i := 4) (oi := { dst := some 49, op := Op.load 3 (Operand.tmp 48), type := 3, pos := "ways.go:820", after := #[{ on := 3, ground := Ground.data }], guard := none }) (v := ?_) rfl (by kernel_rfl) (by kernel_rfl) (by kernel_rfl) (fun _ _ _ h => h) (Or.inl ⟨by rfl, ?_⟩) hHeld ?_
        rotate_left
        · (intro w hSw; (try dsimp only at hSw); go_simp; first | done | with_reducible rfl)
        simp only [Act.put, List.setIfInBounds_toArray, List.set_cons_zero, List.set_cons_succ]
        refine wpAnyH_take (i := 5) (oi := { dst := some 50, op := Op.move (Operand.tmp 1), type := 22, pos := "ways.go:820", after := #[], guard := none }) (v := ?_) rfl (by kernel_rfl) (by kernel_rfl) (by kernel_rfl) (fun _ _ _ h => h) (Or.inl ⟨by rfl, ?_⟩) hHeld ?_
        rotate_left
        · (intro w hSw; (try dsimp only at hSw); go_simp; first | done | with_reducible rfl)
        simp only [Act.put, List.setIfInBounds_toArray, List.set_cons_zero, List.set_cons_succ]
        refine wpAnyH_take (i := 6) (oi := { dst := some 51, op := Op.move (Operand.tmp 12), type := 3, pos := "ways.go:820", after := #[], guard := none }) (v := ?_) rfl (by kernel_rfl) (by kernel_rfl) (by kernel_rfl) (fun _ _ _ h => h) (Or.inl ⟨by rfl, ?_⟩) hHeld ?_
        rotate_left
        · (intro w hSw; (try dsimp only at hSw); go_simp; first | done | with_reducible rfl)
        simp only [Act.put, List.setIfInBounds_toArray, List.set_cons_zero, List.set_cons_succ]
        refine wpAnyH_take (i := 7) (oi := { dst := some 52, op := Op.indexAddr 22 (Operand.tmp 50) (Operand.tmp 51), type := 0, pos := "ways.go:820", after := #[{ on := 5, ground := Ground.data }, { on := 6, ground := Ground.data }], guard := none }) (v := ?_) rfl (by kernel_rfl) (by kernel_rfl) (by kernel_rfl) (fun _ _ _ h => h) (Or.inl ⟨by rfl, ?_⟩) hHeld ?_
        rotate_left
        · (intro w hSw; (try dsimp only at hSw); go_simp; first | done | with_reducible rfl)
        simp only [Act.put, List.setIfInBounds_toArray, List.set_cons_zero, List.set_cons_succ]
        refine wpAnyH_take (i := 8) (oi := { dst := some 53, op := Op.load 3 (Operand.tmp 52), type := 3, pos := "ways.go:820", after := #[{ on := 7, ground := Ground.data }], guard := none }) (v := ?_) rfl (by kernel_rfl) (by kernel_rfl) (by kernel_rfl) (fun _ _ _ h => h) (Or.inl ⟨by rfl, ?_⟩) hHeld ?_
        rotate_left
        · (intro w hSw; (try dsimp only at hSw); go_simp; first | done | with_reducible rfl)
        simp only [Act.put, List.setIfInBounds_toArray, List.set_cons_zero, List.set_cons_succ]
        refine wpAnyH_ready (rs := [9]) (by kernel_rfl) (by simp) ?_
        refine AllReadyH.cons (o := { dst := some 54, op := Op.call { callee := Callee.value (Operand.func 8), args := #[Operand.tmp 45, Operand.tmp 49, Operand.tmp 53], argTypes := #[24, 3, 3] }, type := 28, pos := "ways.go:820", after := #[{ on := 0, ground := Ground.data }, { on := 4, ground := Ground.data }, { on := 8, ground := Ground.data }], guard := none }) rfl (fun K hK => ?_) AllReadyH.nil
        go_simp
        go_at_call 8
        obtain ⟨ma, hwa, hsa⟩ := (HT.out.below (Below.refl _ wr).drew).step
        refine (set_stp hwa i z).mono ?_
        rintro e wa ⟨rfl, sta⟩
        have hta := hsa _ _ _ sta
        have HTa := Lib.hid hta.swap
        have KK0 := HS.out wa hta.bel
        clear hHeld hta sta hsa hwa HT
        obtain ⟨ra, hra⟩ : ∃ ra, ra = setV 0 i z := ⟨_, rfl⟩
        rw [← hra]
        clear hra
        go_wp2_with fail
        refine hK.out _ _ KK0 (fun hHeld => ?_)
        clear hK K
        refine wpAnyH_done (by kernel_rfl) ?_ _
        clear s1 s2 hHeld
        obtain ⟨s1, s2⟩ := HS.out wa HTa.out.bel
        go_wp2_with fail
        refine wp_region_held_drew (S := (fun V => V.cell? ⟨b1, o1 + k, none⟩ = some (.int .i64 i) ∧ V.cell? ⟨b2, o2 + k, none⟩ = some (.int .i64 z))) (by kernel_rfl) ⟨s1, s2⟩ (fun hHeld => ?_)
        refine wpAnyH_take (i := 0) (oi := { dst := some 55, op := Op.move (Operand.tmp 11), type := 24, pos := "ways.go:821", after := #[], guard := none }) (v := ?_) rfl (by kernel_rfl) (by kernel_rfl) (by kernel_rfl) (fun _ _ _ h => h) (Or.inl ⟨by rfl, ?_⟩) hHeld ?_
        rotate_left
        · (intro w hSw; (try dsimp only at hSw); go_simp; first | done | with_reducible rfl)
        simp only [Act.put, List.setIfInBounds_toArray, List.set_cons_zero, List.set_cons_succ]
        refine wpAnyH_take (i := 1) (oi := { dst := some 56, op := Op.move (Operand.tmp 0), type := 22, pos := "ways.go:821", after := #[], guard := none }) (v := ?_) rfl (by kernel_rfl) (by kernel_rfl) (by kernel_rfl) (fun _ _ _ h => h) (Or.inl ⟨by rfl, ?_⟩) hHeld ?_
        rotate_left
        · (intro w hSw; (try dsimp only at hSw); go_simp; first | done | with_reducible rfl)
        simp only [Act.put, List.setIfInBounds_toArray, List.set_cons_zero, List.set_cons_succ]
        refine wpAnyH_take (i := 2) (oi := { dst := some 57, op := Op.move (Operand.tmp 12), type := 3, pos := "ways.go:821", after := #[], guard := none }) (v := ?_) rfl (by kernel_rfl) (by kernel_rfl) (by kernel_rfl) (fun _ _ _ h => h) (Or.inl ⟨by rfl, ?_⟩) hHeld ?_
        rotate_left
        · (intro w hSw; (try dsimp only at hSw); go_simp; first | done | with_reducible rfl)
        simp only [Act.put, List.setIfInBounds_toArray, List.set_cons_zero, List.set_cons_succ]
        refine wpAnyH_take (i := 3) (oi := { dst := some 58, op := Op.indexAddr 22 (Operand.tmp 56) (Operand.tmp 57), type := 0, pos := "ways.go:821", after := #[{ on := 1, ground := Ground.data }, { on := 2, ground := Ground.data }], guard := none }) (v := ?_) rfl (by kernel_rfl) (by kernel_rfl) (by kernel_rfl) (fun _ _ _ h => h) (Or.inl ⟨by rfl, ?_⟩) hHeld ?_
        rotate_left
        · (intro w hSw; (try dsimp only at hSw); go_simp; first | done | with_reducible rfl)
        simp only [Act.put, List.setIfInBounds_toArray, List.set_cons_zero, List.set_cons_succ]
        refine wpAnyH_take (i := 4) (oi := { dst := some 59, op := Op.load 3 (Operand.tmp 58), type := 3, pos := "ways.go:821", after := #[{ on := 3, ground := Ground.data }], guard := none }) (v := ?_) rfl (by kernel_rfl) (by kernel_rfl) (by kernel_rfl) (fun _ _ _ h => h) (Or.inl ⟨by rfl, ?_⟩) hHeld ?_
        rotate_left
        · (intro w hSw; (try dsimp only at hSw); go_simp; first | done | with_reducible rfl)
        simp only [Act.put, List.setIfInBounds_toArray, List.set_cons_zero, List.set_cons_succ]
        refine wpAnyH_take (i := 5) (oi := { dst := some 60, op := Op.move (Operand.tmp 1), type := 22, pos := "ways.go:821", after := #[], guard := none }) (v := ?_) rfl (by kernel_rfl) (by kernel_rfl) (by kernel_rfl) (fun _ _ _ h => h) (Or.inl ⟨by rfl, ?_⟩) hHeld ?_
        rotate_left
        · (intro w hSw; (try dsimp only at hSw); go_simp; first | done | with_reducible rfl)
        simp only [Act.put, List.setIfInBounds_toArray, List.set_cons_zero, List.set_cons_succ]
        refine wpAnyH_take (i := 6) (oi := { dst := some 61, op := Op.move (Operand.tmp 12), type := 3, pos := "ways.go:821", after := #[], guard := none }) (v := ?_) rfl (by kernel_rfl) (by kernel_rfl) (by kernel_rfl) (fun _ _ _ h => h) (Or.inl ⟨by rfl, ?_⟩) hHeld ?_
        rotate_left
        · (intro w hSw; (try dsimp only at hSw); go_simp; first | done | with_reducible rfl)
        simp only [Act.put, List.setIfInBounds_toArray, List.set_cons_zero, List.set_cons_succ]
        refine wpAnyH_take (i := 7) (oi := { dst := some 62, op := Op.indexAddr 22 (Operand.tmp 60) (Operand.tmp 61), type := 0, pos := "ways.go:821", after := #[{ on := 5, ground := Ground.data }, { on := 6, ground := Ground.data }], guard := none }) (v := ?_) rfl (by kernel_rfl) (by kernel_rfl) (by kernel_rfl) (fun _ _ _ h => h) (Or.inl ⟨by rfl, ?_⟩) hHeld ?_
        rotate_left
        · (intro w hSw; (try dsimp only at hSw); go_simp; first | done | with_reducible rfl)
        simp only [Act.put, List.setIfInBounds_toArray, List.set_cons_zero, List.set_cons_succ]
        refine wpAnyH_take (i := 8) (oi := { dst := some 63, op := Op.load 3 (Operand.tmp 62), type := 3, pos := "ways.go:821", after := #[{ on := 7, ground := Ground.data }], guard := none }) (v := ?_) rfl (by kernel_rfl) (by kernel_rfl) (by kernel_rfl) (fun _ _ _ h => h) (Or.inl ⟨by rfl, ?_⟩) hHeld ?_
        rotate_left
        · (intro w hSw; (try dsimp only at hSw); go_simp; first | done | with_reducible rfl)
        simp only [Act.put, List.setIfInBounds_toArray, List.set_cons_zero, List.set_cons_succ]
        refine wpAnyH_ready (rs := [9]) (by kernel_rfl) (by simp) ?_
        refine AllReadyH.cons (o := { dst := some 64, op := Op.call { callee := Callee.value (Operand.func 8), args := #[Operand.tmp 55, Operand.tmp 59, Operand.tmp 63], argTypes := #[24, 3, 3] }, type := 28, pos := "ways.go:821", after := #[{ on := 0, ground := Ground.data }, { on := 4, ground := Ground.data }, { on := 8, ground := Ground.data }], guard := none }) rfl (fun K hK => ?_) AllReadyH.nil
        go_simp
        go_at_call 8
        obtain ⟨mb, hwb, hsb⟩ := (HTa.out.below (Below.refl _ wa).drew).step
        refine (set_stp hwb i z).mono ?_
        rintro e wb ⟨rfl, stb⟩
        have htb := hsb _ _ _ stb
        have HTb := Lib.hid htb.swap
        have KK0 := HS.out wb htb.bel
        clear hHeld htb stb hsb hwb HTa
        obtain ⟨rb, hrb⟩ : ∃ rb, rb = setV 0 i z := ⟨_, rfl⟩
        rw [← hrb]
        clear hrb
        go_wp2_with fail
        refine hK.out _ _ KK0 (fun hHeld => ?_)
        clear hK K
        refine wpAnyH_done (by kernel_rfl) ?_ _
        clear s1 s2 hHeld
        go_wp2_with fail
        go_roundw
        case rel => exact ⟨k + 1, by go_num, by omega, _, HTb⟩
        case measure => simp [intOf]; omega
      · have u2 : ¬ (k : Int) < (n2 : Int) := by omega
        obtain ⟨m1, m2, hM⟩ := TwoM.of HT.out
        have HN : Hid (w.heap.size ≤ wr.heap.size) := Lib.hid HT.out.bel.size
        obtain ⟨N, hNe⟩ : ∃ N, N = wr.heap.size := ⟨_, rfl⟩
        rw [← hNe] at hM HN
        have HM := Lib.hid hM
        clear hM HT hNe H1 H2 HL1 HL2
        have HC11 := Lib.hid (HM.out.bad x hx)
        go_wp2_with fail
        refine HC11.out.mono ?_
        rintro e w11 ⟨rfl, rfl⟩
        clear HC11
        have HC12 := Lib.hid (HM.out.bad y hy)
        go_wp2_with fail
        refine HC12.out.mono ?_
        rintro e w12 ⟨rfl, rfl⟩
        clear HC12
        have HC13 := Lib.hid (HM.out.swap.bad y hy)
        go_wp2_with fail
        refine HC13.out.mono ?_
        rintro e w13 ⟨rfl, rfl⟩
        clear HC13
        have HB := Lib.hid HM.out.bel
        clear HM
        rcases (show (x : Int) < 0 ∨ (¬ (x : Int) < 0 ∧ (y : Int) < (x : Int)) ∨ (¬ (x : Int) < 0 ∧ ¬ (y : Int) < (x : Int) ∧ (y : Int) > 1099511627776) by unfold okT at hx hy; omega) with t | ⟨t, t3⟩ | ⟨t, t3, t4⟩
        · go_wp2_with fail
          go_ret
          exact ⟨rfl, HB.out⟩
        · go_wp2_with fail
          go_ret
          exact ⟨rfl, HB.out⟩
        · go_wp2_with fail
          go_ret
          exact ⟨rfl, HB.out⟩
    · have u1 : ¬ (k : Int) < (n1 : Int) := by omega
      obtain ⟨m1, m2, hM⟩ := TwoM.of HT.out
      have HN : Hid (w.heap.size ≤ wr.heap.size) := Lib.hid HT.out.bel.size
      obtain ⟨N, hNe⟩ : ∃ N, N = wr.heap.size := ⟨_, rfl⟩
      rw [← hNe] at hM HN
      have HM := Lib.hid hM
      clear hM HT hNe H1 H2 HL1 HL2
      have HC11 := Lib.hid (HM.out.bad x hx)
      go_wp2_with fail
      refine HC11.out.mono ?_
      rintro e w11 ⟨rfl, rfl⟩
      clear HC11
      have HC12 := Lib.hid (HM.out.bad y hy)
      go_wp2_with fail
      refine HC12.out.mono ?_
      rintro e w12 ⟨rfl, rfl⟩
      clear HC12
      have HC13 := Lib.hid (HM.out.swap.bad y hy)
      go_wp2_with fail
      refine HC13.out.mono ?_
      rintro e w13 ⟨rfl, rfl⟩
      clear HC13
      have HB := Lib.hid HM.out.bel
      clear HM
      rcases (show (x : Int) < 0 ∨ (¬ (x : Int) < 0 ∧ (y : Int) < (x : Int)) ∨ (¬ (x : Int) < 0 ∧ ¬ (y : Int) < (x : Int) ∧ (y : Int) > 1099511627776) by unfold okT at hx hy; omega) with t | ⟨t, t3⟩ | ⟨t, t3, t4⟩
      · go_wp2_with fail
        go_ret
        exact ⟨rfl, HB.out⟩
      · go_wp2_with fail
        go_ret
        exact ⟨rfl, HB.out⟩
      · go_wp2_with fail
        go_ret
        exact ⟨rfl, HB.out⟩

set_option maxHeartbeats 8000000 in
set_option maxRecDepth 100000 in
theorem steps_c1 (w : World) (v1 v2 : Value) (l1 l2 : List Int) (a1 : ArgI w v1 l1) (a2 : ArgI w v2 l2) (x y : Nat) (hx : okT 0 x) (hy : ¬ okT x y) (hy0 : okT 0 y) (hlen : l1.length * 8 ≤ 140737488355328) :
    Calls Try.prog 4 #[v1, v2, .int .i64 x, .int .i64 y] w fun e w' => e = .returned (.bool true) ∧ Below w.heap.size w w' := by
  obtain ⟨p1, c1, rfl, a1⟩ := a1
  obtain ⟨p2, c2, rfl, a2⟩ := a2
  have H1 : Hid (∀ i, i < l1.length → ∃ b off, p1 = some ⟨b, off, none⟩ ∧ b < w.heap.size ∧ SeenI w b off l1) := Lib.hid (by
    intro i hi
    rcases a1 with rfl | h
    · simp at hi
    · exact h)
  have H2 : Hid (∀ i, i < l2.length → ∃ b off, p2 = some ⟨b, off, none⟩ ∧ b < w.heap.size ∧ SeenI w b off l2) := Lib.hid (by
    intro i hi
    rcases a2 with rfl | h
    · simp at hi
    · exact h)
  clear a1 a2
  obtain ⟨n1, hn1⟩ : ∃ n1, l1.length = n1 := ⟨_, rfl⟩
  obtain ⟨n2, hn2⟩ : ∃ n2, l2.length = n2 := ⟨_, rfl⟩
  rw [hn1] at H1 hlen ⊢
  rw [hn2] at H2 ⊢
  have HL1 := Lib.hid hn1
  have HL2 := Lib.hid hn2
  clear hn1 hn2
  go_enter Try.func4, Try.ntmps4
  go_wp2_with fail
  refine (wheeled_any w).mono ?_
  rintro e w1 ⟨rfl, hb1⟩
  have HN := Lib.hid (new_one w w1 hb1)
  clear hb1
  go_wp2_with fail
  refine HN.out.mono ?_
  rintro e w2 ⟨rfl, h2⟩
  have HN2 := Lib.hid (new_two w w2 _ 0 _ h2)
  clear h2 HN
  go_wp2_with fail
  refine HN2.out.mono ?_
  rintro e w3 ⟨rfl, h3⟩
  have HT0 := Lib.hid h3
  clear h3 HN2
  generalize w1.heap.size = p at HT0 ⊢
  generalize w2.heap.size = q at HT0 ⊢
  go_wp2_with fail
  go_loopw [12] (fun v12 wr => ∃ k : Nat, v12 = .int .i64 k ∧ k ≤ n1 ∧ ∃ f, Hid (TwoW w wr p q 0 f 0 f)) (fun v12 _ => n1 + 1 - (intOf v12).toNat)
  case atStart => exact ⟨0, rfl, Nat.zero_le _, _, HT0⟩
  case round =>
    clear HT0
    obtain ⟨k, rfl, hk, f, HT⟩ := hrel
    by_cases t1 : k < n1
    · have u1 : (k : Int) < (n1 : Int) := by omega
      by_cases t2 : k < n2
      · have u2 : (k : Int) < (n2 : Int) := by omega
        obtain ⟨b1, o1, rfl, hb1, hs1⟩ := H1.out k t1
        obtain ⟨b2, o2, rfl, hb2, hs2⟩ := H2.out k t2
        have HS := Lib.hid (fun V (hb : Below w.heap.size w V) => And.intro ((hs1.below hb hb1) k (by rw [HL1.out]; exact t1)) ((hs2.below hb hb2) k (by rw [HL2.out]; exact t2)))
        obtain ⟨s1, s2⟩ := HS.out wr HT.out.bel
        clear hs1 hs2 hb1 hb2
        generalize l1[k]! = i at s1 s2 HS
        generalize l2[k]! = z at s1 s2 HS
        go_wp2_with fail
        refine wp_region_held_drew (S := (fun V => V.cell? ⟨b1, o1 + k, none⟩ = some (.int .i64 i) ∧ V.cell? ⟨b2, o2 + k, none⟩ = some (.int .i64 z))) (by kernel_rfl) ⟨s1, s2⟩ (fun hHeld => ?_)
        refine wpAnyH_take (i := 0) (oi := { dst := some 45, op := Op.move (Operand.tmp 10), type := 24, pos := "ways.go:820", after := #[], guard := none }) (v := ?_) rfl (by kernel_rfl) (by kernel_rfl) (by kernel_rfl) (fun _ _ _ h => h) (Or.inl ⟨by rfl, ?_⟩) hHeld ?_
        rotate_left
        · (intro w hSw; (try dsimp only at hSw); go_simp; first | done | with_reducible rfl)
        simp only [Act.put, List.setIfInBounds_toArray, List.set_cons_zero, List.set_cons_succ]
        refine wpAnyH_take (i := 1) (oi := { dst := some 46, op := Op.move (Operand.tmp 0), type := 22, pos := "ways.go:820", after := #[], guard := none }) (v := ?_) rfl (by kernel_rfl) (by kernel_rfl) (by kernel_rfl) (fun _ _ _ h => h) (Or.inl ⟨by rfl, ?_⟩) hHeld ?_
        rotate_left
        · (intro w hSw; (try dsimp only at hSw); go_simp; first | done | with_reducible rfl)
        simp only [Act.put, List.setIfInBounds_toArray, List.set_cons_zero, List.set_cons_succ]
        refine wpAnyH_take (i := 2) (oi := { dst := some 47, op := Op.move (Operand.tmp 12), type := 3, pos := "ways.go:820", after := #[], guard := none }) (v := ?_) rfl (by kernel_rfl) (by kernel_rfl) (by kernel_rfl) (fun _ _ _ h => h) (Or.inl ⟨by rfl, ?_⟩) hHeld ?_
        rotate_left
        · (intro w hSw; (try dsimp only at hSw); go_simp; first | done | with_reducible rfl)
        simp only [Act.put, List.setIfInBounds_toArray, List.set_cons_zero, List.set_cons_succ]
        refine wpAnyH_take (i := 3) (oi := { dst := some 48, op := Op.indexAddr 22 (Operand.tmp 46) (Operand.tmp 47), type := 0, pos := "ways.go:820", after := #[{ on := 1, ground := Ground.data }, { on := 2, ground := Ground.data }], guard := none }) (v := ?_) rfl (by kernel_rfl) (by kernel_rfl) (by kernel_rfl) (fun _ _ _ h => h) (Or.inl ⟨by rfl, ?_⟩) hHeld ?_
        rotate_left
        · (intro w hSw; (try dsimp only at hSw); go_simp; first | done | with_reducible rfl)
        simp only [Act.put, List.setIfInBounds_toArray, List.set_cons_zero, List.set_cons_succ]
        refine wpAnyH_take (i := 4) (oi := { dst := some 49, op := Op.load 3 (Operand.tmp 48), type := 3, pos := "ways.go:820", after := #[{ on := 3, ground := Ground.data }], guard := none }) (v := ?_) rfl (by kernel_rfl) (by kernel_rfl) (by kernel_rfl) (fun _ _ _ h => h) (Or.inl ⟨by rfl, ?_⟩) hHeld ?_
        rotate_left
        · (intro w hSw; (try dsimp only at hSw); go_simp; first | done | with_reducible rfl)
        simp only [Act.put, List.setIfInBounds_toArray, List.set_cons_zero, List.set_cons_succ]
        refine wpAnyH_take (i := 5) (oi := { dst := some 50, op := Op.move (Operand.tmp 1), type := 22, pos := "ways.go:820", after := #[], guard := none }) (v := ?_) rfl (by kernel_rfl) (by kernel_rfl) (by kernel_rfl) (fun _ _ _ h => h) (Or.inl ⟨by rfl, ?_⟩) hHeld ?_
        rotate_left
        · (intro w hSw; (try dsimp only at hSw); go_simp; first | done | with_reducible rfl)
        simp only [Act.put, List.setIfInBounds_toArray, List.set_cons_zero, List.set_cons_succ]
        refine wpAnyH_take (i := 6) (oi := { dst := some 51, op := Op.move (Operand.tmp 12), type := 3, pos := "ways.go:820", after := #[], guard := none }) (v := ?_) rfl (by kernel_rfl) (by kernel_rfl) (by kernel_rfl) (fun _ _ _ h => h) (Or.inl ⟨by rfl, ?_⟩) hHeld ?_
        rotate_left
        · (intro w hSw; (try dsimp only at hSw); go_simp; first | done | with_reducible rfl)
        simp only [Act.put, List.setIfInBounds_toArray, List.set_cons_zero, List.set_cons_succ]
        refine wpAnyH_take (i := 7) (oi := { dst := some 52, op := Op.indexAddr 22 (Operand.tmp 50) (Operand.tmp 51), type := 0, pos := "ways.go:820", after := #[{ on := 5, ground := Ground.data }, { on := 6, ground := Ground.data }], guard := none }) (v := ?_) rfl (by kernel_rfl) (by kernel_rfl) (by kernel_rfl) (fun _ _ _ h => h) (Or.inl ⟨by rfl, ?_⟩) hHeld ?_
        rotate_left
        · (intro w hSw; (try dsimp only at hSw); go_simp; first | done | with_reducible rfl)
        simp only [Act.put, List.setIfInBounds_toArray, List.set_cons_zero, List.set_cons_succ]
        refine wpAnyH_take (i := 8) (oi := { dst := some 53, op := Op.load 3 (Operand.tmp 52), type := 3, pos := "ways.go:820", after := #[{ on := 7, ground := Ground.data }], guard := none }) (v := ?_) rfl (by kernel_rfl) (by kernel_rfl) (by kernel_rfl) (fun _ _ _ h => h) (Or.inl ⟨by rfl, ?_⟩) hHeld ?_
        rotate_left
        · (intro w hSw; (try dsimp only at hSw); go_simp; first | done | with_reducible rfl)
        simp only [Act.put, List.setIfInBounds_toArray, List.set_cons_zero, List.set_cons_succ]
        refine wpAnyH_ready (rs := [9]) (by kernel_rfl) (by simp) ?_
        refine AllReadyH.cons (o := { dst := some 54, op := Op.call { callee := Callee.value (Operand.func 8), args := #[Operand.tmp 45, Operand.tmp 49, Operand.tmp 53], argTypes := #[24, 3, 3] }, type := 28, pos := "ways.go:820", after := #[{ on := 0, ground := Ground.data }, { on := 4, ground := Ground.data }, { on := 8, ground := Ground.data }], guard := none }) rfl (fun K hK => ?_) AllReadyH.nil
        go_simp
        go_at_call 8
        obtain ⟨ma, hwa, hsa⟩ := (HT.out.below (Below.refl _ wr).drew).step
        refine (set_stp hwa i z).mono ?_
        rintro e wa ⟨rfl, sta⟩
        have hta := hsa _ _ _ sta
        have HTa := Lib.hid hta.swap
        have KK0 := HS.out wa hta.bel
        clear hHeld hta sta hsa hwa HT
        obtain ⟨ra, hra⟩ : ∃ ra, ra = setV 0 i z := ⟨_, rfl⟩
        rw [← hra]
        clear hra
        go_wp2_with fail
        refine hK.out _ _ KK0 (fun hHeld => ?_)
        clear hK K
        refine wpAnyH_done (by kernel_rfl) ?_ _
        clear s1 s2 hHeld
        obtain ⟨s1, s2⟩ := HS.out wa HTa.out.bel
        go_wp2_with fail
        refine wp_region_held_drew (S := (fun V => V.cell? ⟨b1, o1 + k, none⟩ = some (.int .i64 i) ∧ V.cell? ⟨b2, o2 + k, none⟩ = some (.int .i64 z))) (by kernel_rfl) ⟨s1, s2⟩ (fun hHeld => ?_)
        refine wpAnyH_take (i := 0) (oi := { dst := some 55, op := Op.move (Operand.tmp 11), type := 24, pos := "ways.go:821", after := #[], guard := none }) (v := ?_) rfl (by kernel_rfl) (by kernel_rfl) (by kernel_rfl) (fun _ _ _ h => h) (Or.inl ⟨by rfl, ?_⟩) hHeld ?_
        rotate_left
        · (intro w hSw; (try dsimp only at hSw); go_simp; first | done | with_reducible rfl)
        simp only [Act.put, List.setIfInBounds_toArray, List.set_cons_zero, List.set_cons_succ]
        refine wpAnyH_take (i := 1) (oi := { dst := some 56, op := Op.move (Operand.tmp 0), type := 22, pos := "ways.go:821", after := #[], guard := none }) (v := ?_) rfl (by kernel_rfl) (by kernel_rfl) (by kernel_rfl) (fun _ _ _ h => h) (Or.inl ⟨by rfl, ?_⟩) hHeld ?_
        rotate_left
        · (intro w hSw; (try dsimp only at hSw); go_simp; first | done | with_reducible rfl)
        simp only [Act.put, List.setIfInBounds_toArray, List.set_cons_zero, List.set_cons_succ]
        refine wpAnyH_take (i := 2) (oi := { dst := some 57, op := Op.move (Operand.tmp 12), type := 3, pos := "ways.go:821", after := #[], guard := none }) (v := ?_) rfl (by kernel_rfl) (by kernel_rfl) (by kernel_rfl) (fun _ _ _ h => h) (Or.inl ⟨by rfl, ?_⟩) hHeld ?_
        rotate_left
        · (intro w hSw; (try dsimp only at hSw); go_simp; first | done | with_reducible rfl)
        simp only [Act.put, List.setIfInBounds_toArray, List.set_cons_zero, List.set_cons_succ]
        refine wpAnyH_take (i := 3) (oi := { dst := some 58, op := Op.indexAddr 22 (Operand.tmp 56) (Operand.tmp 57), type := 0, pos := "ways.go:821", after := #[{ on := 1, ground := Ground.data }, { on := 2, ground := Ground.data }], guard := none }) (v := ?_) rfl (by kernel_rfl) (by kernel_rfl) (by kernel_rfl) (fun _ _ _ h => h) (Or.inl ⟨by rfl, ?_⟩) hHeld ?_
        rotate_left
        · (intro w hSw; (try dsimp only at hSw); go_simp; first | done | with_reducible rfl)
        simp only [Act.put, List.setIfInBounds_toArray, List.set_cons_zero, List.set_cons_succ]
        refine wpAnyH_take (i := 4) (oi := { dst := some 59, op := Op.load 3 (Operand.tmp 58), type := 3, pos := "ways.go:821", after := #[{ on := 3, ground := Ground.data }], guard := none }) (v := ?_) rfl (by kernel_rfl) (by kernel_rfl) (by kernel_rfl) (fun _ _ _ h => h) (Or.inl ⟨by rfl, ?_⟩) hHeld ?_
        rotate_left
        · (intro w hSw; (try dsimp only at hSw); go_simp; first | done | with_reducible rfl)
        simp only [Act.put, List.setIfInBounds_toArray, List.set_cons_zero, List.set_cons_succ]
        refine wpAnyH_take (i := 5) (oi := { dst := some 60, op := Op.move (Operand.tmp 1), type := 22, pos := "ways.go:821", after := #[], guard := none }) (v := ?_) rfl (by kernel_rfl) (by kernel_rfl) (by kernel_rfl) (fun _ _ _ h => h) (Or.inl ⟨by rfl, ?_⟩) hHeld ?_
        rotate_left
        · (intro w hSw; (try dsimp only at hSw); go_simp; first | done | with_reducible rfl)
        simp only [Act.put, List.setIfInBounds_toArray, List.set_cons_zero, List.set_cons_succ]
        refine wpAnyH_take (i := 6) (oi := { dst := some 61, op := Op.move (Operand.tmp 12), type := 3, pos := "ways.go:821", after := #[], guard := none }) (v := ?_) rfl (by kernel_rfl) (by kernel_rfl) (by kernel_rfl) (fun _ _ _ h => h) (Or.inl ⟨by rfl, ?_⟩) hHeld ?_
        rotate_left
        · (intro w hSw; (try dsimp only at hSw); go_simp; first | done | with_reducible rfl)
        simp only [Act.put, List.setIfInBounds_toArray, List.set_cons_zero, List.set_cons_succ]
        refine wpAnyH_take (i := 7) (oi := { dst := some 62, op := Op.indexAddr 22 (Operand.tmp 60) (Operand.tmp 61), type := 0, pos := "ways.go:821", after := #[{ on := 5, ground := Ground.data }, { on := 6, ground := Ground.data }], guard := none }) (v := ?_) rfl (by kernel_rfl) (by kernel_rfl) (by kernel_rfl) (fun _ _ _ h => h) (Or.inl ⟨by rfl, ?_⟩) hHeld ?_
        rotate_left
        · (intro w hSw; (try dsimp only at hSw); go_simp; first | done | with_reducible rfl)
        simp only [Act.put, List.setIfInBounds_toArray, List.set_cons_zero, List.set_cons_succ]
        refine wpAnyH_take (i := 8) (oi := { dst := some 63, op := Op.load 3 (Operand.tmp 62), type := 3, pos := "ways.go:821", after := #[{ on := 7, ground := Ground.data }], guard := none }) (v := ?_) rfl (by kernel_rfl) (by kernel_rfl) (by kernel_rfl) (fun _ _ _ h => h) (Or.inl ⟨by rfl, ?_⟩) hHeld ?_
        rotate_left
        · (intro w hSw; (try dsimp only at hSw); go_simp; first | done | with_reducible rfl)
        simp only [Act.put, List.setIfInBounds_toArray, List.set_cons_zero, List.set_cons_succ]
        refine wpAnyH_ready (rs := [9]) (by kernel_rfl) (by simp) ?_
        refine AllReadyH.cons (o := { dst := some 64, op := Op.call { callee := Callee.value (Operand.func 8), args := #[Operand.tmp 55, Operand.tmp 59, Operand.tmp 63], argTypes := #[24, 3, 3] }, type := 28, pos := "ways.go:821", after := #[{ on := 0, ground := Ground.data }, { on := 4, ground := Ground.data }, { on := 8, ground := Ground.data }], guard := none }) rfl (fun K hK => ?_) AllReadyH.nil
        go_simp
        go_at_call 8
        obtain ⟨mb, hwb, hsb⟩ := (HTa.out.below (Below.refl _ wa).drew).step
        refine (set_stp hwb i z).mono ?_
        rintro e wb ⟨rfl, stb⟩
        have htb := hsb _ _ _ stb
        have HTb := Lib.hid htb.swap
        have KK0 := HS.out wb htb.bel
        clear hHeld htb stb hsb hwb HTa
        obtain ⟨rb, hrb⟩ : ∃ rb, rb = setV 0 i z := ⟨_, rfl⟩
        rw [← hrb]
        clear hrb
        go_wp2_with fail
        refine hK.out _ _ KK0 (fun hHeld => ?_)
        clear hK K
        refine wpAnyH_done (by kernel_rfl) ?_ _
        clear s1 s2 hHeld
        go_wp2_with fail
        go_roundw
        case rel => exact ⟨k + 1, by go_num, by omega, _, HTb⟩
        case measure => simp [intOf]; omega
      · have u2 : ¬ (k : Int) < (n2 : Int) := by omega
        obtain ⟨m1, m2, hM⟩ := TwoM.of HT.out
        have HN : Hid (w.heap.size ≤ wr.heap.size) := Lib.hid HT.out.bel.size
        obtain ⟨N, hNe⟩ : ∃ N, N = wr.heap.size := ⟨_, rfl⟩
        rw [← hNe] at hM HN
        have HM := Lib.hid hM
        clear hM HT hNe H1 H2 HL1 HL2
        have HC11 := Lib.hid (HM.out.tick x hx)
        go_wp2_with fail
        refine HC11.out.mono ?_
        rintro e w11 ⟨v11, L11, rfl, hd11, ho11, hm11, hk11⟩
        have HD11 := Lib.hid hd11
        have HO11 := Lib.hid ho11
        clear HM HC11
        have HM := Lib.hid hm11
        clear hd11 ho11 hm11 hk11
        have HC12 := Lib.hid (HM.out.bad y hy)
        go_wp2_with fail
        refine HC12.out.mono ?_
        rintro e w12 ⟨rfl, rfl⟩
        clear HC12
        have HC13 := Lib.hid (HM.out.swap.tick y hy0)
        go_wp2_with fail
        refine HC13.out.mono ?_
        rintro e w13 ⟨v13, L13, rfl, hd13, ho13, hm13, hk13⟩
        have HD13 := Lib.hid hd13
        have HO13 := Lib.hid ho13
        clear HM HC13
        have HM := Lib.hid hm13.swap
        clear hd13 ho13 hm13 hk13
        have HB := Lib.hid HM.out.bel
        clear HM
        rcases (show (x : Int) < 0 ∨ (¬ (x : Int) < 0 ∧ (y : Int) < (x : Int)) ∨ (¬ (x : Int) < 0 ∧ ¬ (y : Int) < (x : Int) ∧ (y : Int) > 1099511627776) by unfold okT at hx hy hy0; omega) with t | ⟨t, t3⟩ | ⟨t, t3, t4⟩
        · go_wp2_with fail
          go_ret
          exact ⟨rfl, HB.out⟩
        · go_wp2_with fail
          go_ret
          exact ⟨rfl, HB.out⟩
        · go_wp2_with fail
          go_ret
          exact ⟨rfl, HB.out⟩
    · have u1 : ¬ (k : Int) < (n1 : Int) := by omega
      obtain ⟨m1, m2, hM⟩ := TwoM.of HT.out
      have HN : Hid (w.heap.size ≤ wr.heap.size) := Lib.hid HT.out.bel.size
      obtain ⟨N, hNe⟩ : ∃ N, N = wr.heap.size := ⟨_, rfl⟩
      rw [← hNe] at hM HN
      have HM := Lib.hid hM
      clear hM HT hNe H1 H2 HL1 HL2
      have HC11 := Lib.hid (HM.out.tick x hx)
      go_wp2_with fail
      refine HC11.out.mono ?_
      rintro e w11 ⟨v11, L11, rfl, hd11, ho11, hm11, hk11⟩
      have HD11 := Lib.hid hd11
      have HO11 := Lib.hid ho11
      clear HM HC11
      have HM := Lib.hid hm11
      clear hd11 ho11 hm11 hk11
      have HC12 := Lib.hid (HM.out.bad y hy)
      go_wp2_with fail
      refine HC12.out.mono ?_
      rintro e w12 ⟨rfl, rfl⟩
      clear HC12
      have HC13 := Lib.hid (HM.out.swap.tick y hy0)
      go_wp2_with fail
      refine HC13.out.mono ?_
      rintro e w13 ⟨v13, L13, rfl, hd13, ho13, hm13, hk13⟩
      have HD13 := Lib.hid hd13
      have HO13 := Lib.hid ho13
      clear HM HC13
      have HM := Lib.hid hm13.swap
      clear hd13 ho13 hm13 hk13
      have HB := Lib.hid HM.out.bel
      clear HM
      rcases (show (x : Int) < 0 ∨ (¬ (x : Int) < 0 ∧ (y : Int) < (x : Int)) ∨ (¬ (x : Int) < 0 ∧ ¬ (y : Int) < (x : Int) ∧ (y : Int) > 1099511627776) by unfold okT at hx hy hy0; omega) with t | ⟨t, t3⟩ | ⟨t, t3, t4⟩
      · go_wp2_with fail
        go_ret
        exact ⟨rfl, HB.out⟩
      · go_wp2_with fail
        go_ret
        exact ⟨rfl, HB.out⟩
      · go_wp2_with fail
        go_ret
        exact ⟨rfl, HB.out⟩

set_option maxHeartbeats 8000000 in
set_option maxRecDepth 100000 in
theorem steps_c2 (w : World) (v1 v2 : Value) (l1 l2 : List Int) (a1 : ArgI w v1 l1) (a2 : ArgI w v2 l2) (x : Nat) (y : Int) (hx : okT 0 x) (hy : ¬ okT x y) (hy0 : ¬ okT 0 y) (hlen : l1.length * 8 ≤ 140737488355328) :
    Calls Try.prog 4 #[v1, v2, .int .i64 x, .int .i64 y] w fun e w' => e = .returned (.bool true) ∧ Below w.heap.size w w' := by
  obtain ⟨p1, c1, rfl, a1⟩ := a1
  obtain ⟨p2, c2, rfl, a2⟩ := a2
  have H1 : Hid (∀ i, i < l1.length → ∃ b off, p1 = some ⟨b, off, none⟩ ∧ b < w.heap.size ∧ SeenI w b off l1) := Lib.hid (by
    intro i hi
    rcases a1 with rfl | h
    · simp at hi
    · exact h)
  have H2 : Hid (∀ i, i < l2.length → ∃ b off, p2 = some ⟨b, off, none⟩ ∧ b < w.heap.size ∧ SeenI w b off l2) := Lib.hid (by
    intro i hi
    rcases a2 with rfl | h
    · simp at hi
    · exact h)
  clear a1 a2
  obtain ⟨n1, hn1⟩ : ∃ n1, l1.length = n1 := ⟨_, rfl⟩
  obtain ⟨n2, hn2⟩ : ∃ n2, l2.length = n2 := ⟨_, rfl⟩
  rw [hn1] at H1 hlen ⊢
  rw [hn2] at H2 ⊢
  have HL1 := Lib.hid hn1
  have HL2 := Lib.hid hn2
  clear hn1 hn2
  go_enter Try.func4, Try.ntmps4
  go_wp2_with fail
  refine (wheeled_any w).mono ?_
  rintro e w1 ⟨rfl, hb1⟩
  have HN := Lib.hid (new_one w w1 hb1)
  clear hb1
  go_wp2_with fail
  refine HN.out.mono ?_
  rintro e w2 ⟨rfl, h2⟩
  have HN2 := Lib.hid (new_two w w2 _ 0 _ h2)
  clear h2 HN
  go_wp2_with fail
  refine HN2.out.mono ?_
  rintro e w3 ⟨rfl, h3⟩
  have HT0 := Lib.hid h3
  clear h3 HN2
  generalize w1.heap.size = p at HT0 ⊢
  generalize w2.heap.size = q at HT0 ⊢
  go_wp2_with fail
  go_loopw [12] (fun v12 wr => ∃ k : Nat, v12 = .int .i64 k ∧ k ≤ n1 ∧ ∃ f, Hid (TwoW w wr p q 0 f 0 f)) (fun v12 _ => n1 + 1 - (intOf v12).toNat)
  case atStart => exact ⟨0, rfl, Nat.zero_le _, _, HT0⟩
  case round =>
    clear HT0
    obtain ⟨k, rfl, hk, f, HT⟩ := hrel
    by_cases t1 : k < n1
    · have u1 : (k : Int) < (n1 : Int) := by omega
      by_cases t2 : k < n2
      · have u2 : (k : Int) < (n2 : Int) := by omega
        obtain ⟨b1, o1, rfl, hb1, hs1⟩ := H1.out k t1
        obtain ⟨b2, o2, rfl, hb2, hs2⟩ := H2.out k t2
        have HS := Lib.hid (fun V (hb : Below w.heap.size w V) => And.intro ((hs1.below hb hb1) k (by rw [HL1.out]; exact t1)) ((hs2.below hb hb2) k (by rw [HL2.out]; exact t2)))
        obtain ⟨s1, s2⟩ := HS.out wr HT.out.bel
        clear hs1 hs2 hb1 hb2
        generalize l1[k]! = i at s1 s2 HS
        generalize l2[k]! = z at s1 s2 HS
        go_wp2_with fail
        refine wp_region_held_drew (S := (fun V => V.cell? ⟨b1, o1 + k, none⟩ = some (.int .i64 i) ∧ V.cell? ⟨b2, o2 + k, none⟩ = some (.int .i64 z))) (by kernel_rfl) ⟨s1, s2⟩ (fun hHeld => ?_)
        refine wpAnyH_take (i := 0) (oi := { dst := some 45, op := Op.move (Operand.tmp 10), type := 24, pos := "ways.go:820", after := #[], guard := none }) (v := ?_) rfl (by kernel_rfl) (by kernel_rfl) (by kernel_rfl) (fun _ _ _ h => h) (Or.inl ⟨by rfl, ?_⟩) hHeld ?_
        rotate_left
        · (intro w hSw; (try dsimp only at hSw); go_simp; first | done | with_reducible rfl)
        simp only [Act.put, List.setIfInBounds_toArray, List.set_cons_zero, List.set_cons_succ]
        refine wpAnyH_take (i := 1) (oi := { dst := some 46, op := Op.move (Operand.tmp 0), type := 22, pos := "ways.go:820", after := #[], guard := none }) (v := ?_) rfl (by kernel_rfl) (by kernel_rfl) (by kernel_rfl) (fun _ _ _ h => h) (Or.inl ⟨by rfl, ?_⟩) hHeld ?_
        rotate_left
        · (intro w hSw; (try dsimp only at hSw); go_simp; first | done | with_reducible rfl)
        simp only [Act.put, List.setIfInBounds_toArray, List.set_cons_zero, List.set_cons_succ]
        refine wpAnyH_take (i := 2) (oi := { dst := some 47, op := Op.move (Operand.tmp 12), type := 3, pos := "ways.go:820", after := #[], guard := none }) (v := ?_) rfl (by kernel_rfl) (by kernel_rfl) (by kernel_rfl) (fun _ _ _ h => h) (Or.inl ⟨by rfl, ?_⟩) hHeld ?_
        rotate_left
        · (intro w hSw; (try dsimp only at hSw); go_simp; first | done | with_reducible rfl)
        simp only [Act.put, List.setIfInBounds_toArray, List.set_cons_zero, List.set_cons_succ]
        refine wpAnyH_take (i := 3) (oi := { dst := some 48, op := Op.indexAddr 22 (Operand.tmp 46) (Operand.tmp 47), type := 0, pos := "ways.go:820", after := #[{ on := 1, ground := Ground.data }, { on := 2, ground := Ground.data }], guard := none }) (v := ?_) rfl (by kernel_rfl) (by kernel_rfl) (by kernel_rfl) (fun _ _ _ h => h) (Or.inl ⟨by rfl, ?_⟩) hHeld ?_
        rotate_left
        · (intro w hSw; (try dsimp only at hSw); go_simp; first | done | with_reducible rfl)
        simp only [Act.put, List.setIfInBounds_toArray, List.set_cons_zero, List.set_cons_succ]
        refine wpAnyH_take (i := 4) (oi := { dst := some 49, op := Op.load 3 (Operand.tmp 48), type := 3, pos := "ways.go:820", after := #[{ on := 3, ground := Ground.data }], guard := none }) (v := ?_) rfl (by kernel_rfl) (by kernel_rfl) (by kernel_rfl) (fun _ _ _ h => h) (Or.inl ⟨by rfl, ?_⟩) hHeld ?_
        rotate_left
        · (intro w hSw; (try dsimp only at hSw); go_simp; first | done | with_reducible rfl)
        simp only [Act.put, List.setIfInBounds_toArray, List.set_cons_zero, List.set_cons_succ]
        refine wpAnyH_take (i := 5) (oi := { dst := some 50, op := Op.move (Operand.tmp 1), type := 22, pos := "ways.go:820", after := #[], guard := none }) (v := ?_) rfl (by kernel_rfl) (by kernel_rfl) (by kernel_rfl) (fun _ _ _ h => h) (Or.inl ⟨by rfl, ?_⟩) hHeld ?_
        rotate_left
        · (intro w hSw; (try dsimp only at hSw); go_simp; first | done | with_reducible rfl)
        simp only [Act.put, List.setIfInBounds_toArray, List.set_cons_zero, List.set_cons_succ]
        refine wpAnyH_take (i := 6) (oi := { dst := some 51, op := Op.move (Operand.tmp 12), type := 3, pos := "ways.go:820", after := #[], guard := none }) (v := ?_) rfl (by kernel_rfl) (by kernel_rfl) (by kernel_rfl) (fun _ _ _ h => h) (Or.inl ⟨by rfl, ?_⟩) hHeld ?_
        rotate_left
        · (intro w hSw; (try dsimp only at hSw); go_simp; first | done | with_reducible rfl)
        simp only [Act.put, List.setIfInBounds_toArray, List.set_cons_zero, List.set_cons_succ]
        refine wpAnyH_take (i := 7) (oi := { dst := some 52, op := Op.indexAddr 22 (Operand.tmp 50) (Operand.tmp 51), type := 0, pos := "ways.go:820", after := #[{ on := 5, ground := Ground.data }, { on := 6, ground := Ground.data }], guard := none }) (v := ?_) rfl (by kernel_rfl) (by kernel_rfl) (by kernel_rfl) (fun _ _ _ h => h) (Or.inl ⟨by rfl, ?_⟩) hHeld ?_
        rotate_left
        · (intro w hSw; (try dsimp only at hSw); go_simp; first | done | with_reducible rfl)
        simp only [Act.put, List.setIfInBounds_toArray, List.set_cons_zero, List.set_cons_succ]
        refine wpAnyH_take (i := 8) (oi := { dst := some 53, op := Op.load 3 (Operand.tmp 52), type := 3, pos := "ways.go:820", after := #[{ on := 7, ground := Ground.data }], guard := none }) (v := ?_) rfl (by kernel_rfl) (by kernel_rfl) (by kernel_rfl) (fun _ _ _ h => h) (Or.inl ⟨by rfl, ?_⟩) hHeld ?_
        rotate_left
        · (intro w hSw; (try dsimp only at hSw); go_simp; first | done | with_reducible rfl)
        simp only [Act.put, List.setIfInBounds_toArray, List.set_cons_zero, List.set_cons_succ]
        refine wpAnyH_ready (rs := [9]) (by kernel_rfl) (by simp) ?_
        refine AllReadyH.cons (o := { dst := some 54, op := Op.call { callee := Callee.value (Operand.func 8), args := #[Operand.tmp 45, Operand.tmp 49, Operand.tmp 53], argTypes := #[24, 3, 3] }, type := 28, pos := "ways.go:820", after := #[{ on := 0, ground := Ground.data }, { on := 4, ground := Ground.data }, { on := 8, ground := Ground.data }], guard := none }) rfl (fun K hK => ?_) AllReadyH.nil
        go_simp
        go_at_call 8
        obtain ⟨ma, hwa, hsa⟩ := (HT.out.below (Below.refl _ wr).drew).step
        refine (set_stp hwa i z).mono ?_
        rintro e wa ⟨rfl, sta⟩
        have hta := hsa _ _ _ sta
        have HTa := Lib.hid hta.swap
        have KK0 := HS.out wa hta.bel
        clear hHeld hta sta hsa hwa HT
        obtain ⟨ra, hra⟩ : ∃ ra, ra = setV 0 i z := ⟨_, rfl⟩
        rw [← hra]
        clear hra
        go_wp2_with fail
        refine hK.out _ _ KK0 (fun hHeld => ?_)
        clear hK K
        refine wpAnyH_done (by kernel_rfl) ?_ _
        clear s1 s2 hHeld
        obtain ⟨s1, s2⟩ := HS.out wa HTa.out.bel
        go_wp2_with fail
        refine wp_region_held_drew (S := (fun V => V.cell? ⟨b1, o1 + k, none⟩ = some (.int .i64 i) ∧ V.cell? ⟨b2, o2 + k, none⟩ = some (.int .i64 z))) (by kernel_rfl) ⟨s1, s2⟩ (fun hHeld => ?_)
        refine wpAnyH_take (i := 0) (oi := { dst := some 55, op := Op.move (Operand.tmp 11), type := 24, pos := "ways.go:821", after := #[], guard := none }) (v := ?_) rfl (by kernel_rfl) (by kernel_rfl) (by kernel_rfl) (fun _ _ _ h => h) (Or.inl ⟨by rfl, ?_⟩) hHeld ?_
        rotate_left
        · (intro w hSw; (try dsimp only at hSw); go_simp; first | done | with_reducible rfl)
        simp only [Act.put, List.setIfInBounds_toArray, List.set_cons_zero, List.set_cons_succ]
        refine wpAnyH_take (i := 1) (oi := { dst := some 56, op := Op.move (Operand.tmp 0), type := 22, pos := "ways.go:821", after := #[], guard := none }) (v := ?_) rfl (by kernel_rfl) (by kernel_rfl) (by kernel_rfl) (fun _ _ _ h => h) (Or.inl ⟨by rfl, ?_⟩) hHeld ?_
        rotate_left
        · (intro w hSw; (try dsimp only at hSw); go_simp; first | done | with_reducible rfl)
        simp only [Act.put, List.setIfInBounds_toArray, List.set_cons_zero, List.set_cons_succ]
        refine wpAnyH_take (i := 2) (oi := { dst := some 57, op := Op.move (Operand.tmp 12), type := 3, pos := "ways.go:821", after := #[], guard := none }) (v := ?_) rfl (by kernel_rfl) (by kernel_rfl) (by kernel_rfl) (fun _ _ _ h => h) (Or.inl ⟨by rfl, ?_⟩) hHeld ?_
        rotate_left
        · (intro w hSw; (try dsimp only at hSw); go_simp; first | done | with_reducible rfl)
        simp only [Act.put, List.setIfInBounds_toArray, List.set_cons_zero, List.set_cons_succ]
        refine wpAnyH_take (i := 3) (oi := { dst := some 58, op := Op.indexAddr 22 (Operand.tmp 56) (Operand.tmp 57), type := 0, pos := "ways.go:821", after := #[{ on := 1, ground := Ground.data }, { on := 2, ground := Ground.data }], guard := none }) (v := ?_) rfl (by kernel_rfl) (by kernel_rfl) (by kernel_rfl) (fun _ _ _ h => h) (Or.inl ⟨by rfl, ?_⟩) hHeld ?_
        rotate_left
        · (intro w hSw; (try dsimp only at hSw); go_simp; first | done | with_reducible rfl)
        simp only [Act.put, List.setIfInBounds_toArray, List.set_cons_zero, List.set_cons_succ]
        refine wpAnyH_take (i := 4) (oi := { dst := some 59, op := Op.load 3 (Operand.tmp 58), type := 3, pos := "ways.go:821", after := #[{ on := 3, ground := Ground.data }], guard := none }) (v := ?_) rfl (by kernel_rfl) (by kernel_rfl) (by kernel_rfl) (fun _ _ _ h => h) (Or.inl ⟨by rfl, ?_⟩) hHeld ?_
        rotate_left
        · (intro w hSw; (try dsimp only at hSw); go_simp; first | done | with_reducible rfl)
        simp only [Act.put, List.setIfInBounds_toArray, List.set_cons_zero, List.set_cons_succ]
        refine wpAnyH_take (i := 5) (oi := { dst := some 60, op := Op.move (Operand.tmp 1), type := 22, pos := "ways.go:821", after := #[], guard := none }) (v := ?_) rfl (by kernel_rfl) (by kernel_rfl) (by kernel_rfl) (fun _ _ _ h => h) (Or.inl ⟨by rfl, ?_⟩) hHeld ?_
        rotate_left
        · (intro w hSw; (try dsimp only at hSw); go_simp; first | done | with_reducible rfl)
        simp only [Act.put, List.setIfInBounds_toArray, List.set_cons_zero, List.set_cons_succ]
        refine wpAnyH_take (i := 6) (oi := { dst := some 61, op := Op.move (Operand.tmp 12), type := 3, pos := "ways.go:821", after := #[], guard := none }) (v := ?_) rfl (by kernel_rfl) (by kernel_rfl) (by kernel_rfl) (fun _ _ _ h => h) (Or.inl ⟨by rfl, ?_⟩) hHeld ?_
        rotate_left
        · (intro w hSw; (try dsimp only at hSw); go_simp; first | done | with_reducible rfl)
        simp only [Act.put, List.setIfInBounds_toArray, List.set_cons_zero, List.set_cons_succ]
        refine wpAnyH_take (i := 7) (oi := { dst := some 62, op := Op.indexAddr 22 (Operand.tmp 60) (Operand.tmp 61), type := 0, pos := "ways.go:821", after := #[{ on := 5, ground := Ground.data }, { on := 6, ground := Ground.data }], guard := none }) (v := ?_) rfl (by kernel_rfl) (by kernel_rfl) (by kernel_rfl) (fun _ _ _ h => h) (Or.inl ⟨by rfl, ?_⟩) hHeld ?_
        rotate_left
        · (intro w hSw; (try dsimp only at hSw); go_simp; first | done | with_reducible rfl)
        simp only [Act.put, List.setIfInBounds_toArray, List.set_cons_zero, List.set_cons_succ]
        refine wpAnyH_take (i := 8) (oi := { dst := some 63, op := Op.load 3 (Operand.tmp 62), type := 3, pos := "ways.go:821", after := #[{ on := 7, ground := Ground.data }], guard := none }) (v := ?_) rfl (by kernel_rfl) (by kernel_rfl) (by kernel_rfl) (fun _ _ _ h => h) (Or.inl ⟨by rfl, ?_⟩) hHeld ?_
        rotate_left
        · (intro w hSw; (try dsimp only at hSw); go_simp; first | done | with_reducible rfl)
        simp only [Act.put, List.setIfInBounds_toArray, List.set_cons_zero, List.set_cons_succ]
        refine wpAnyH_ready (rs := [9]) (by kernel_rfl) (by simp) ?_
        refine AllReadyH.cons (o := { dst := some 64, op := Op.call { callee := Callee.value (Operand.func 8), args := #[Operand.tmp 55, Operand.tmp 59, Operand.tmp 63], argTypes := #[24, 3, 3] }, type := 28, pos := "ways.go:821", after := #[{ on := 0, ground := Ground.data }, { on := 4, ground := Ground.data }, { on := 8, ground := Ground.data }], guard := none }) rfl (fun K hK => ?_) AllReadyH.nil
        go_simp
        go_at_call 8
        obtain ⟨mb, hwb, hsb⟩ := (HTa.out.below (Below.refl _ wa).drew).step
        refine (set_stp hwb i z).mono ?_
        rintro e wb ⟨rfl, stb⟩
        have htb := hsb _ _ _ stb
        have HTb := Lib.hid htb.swap
        have KK0 := HS.out wb htb.bel
        clear hHeld htb stb hsb hwb HTa
        obtain ⟨rb, hrb⟩ : ∃ rb, rb = setV 0 i z := ⟨_, rfl⟩
        rw [← hrb]
        clear hrb
        go_wp2_with fail
        refine hK.out _ _ KK0 (fun hHeld => ?_)
        clear hK K
        refine wpAnyH_done (by kernel_rfl) ?_ _
        clear s1 s2 hHeld
        go_wp2_with fail
        go_roundw
        case rel => exact ⟨k + 1, by go_num, by omega, _, HTb⟩
        case measure => simp [intOf]; omega
      · have u2 : ¬ (k : Int) < (n2 : Int) := by omega
        obtain ⟨m1, m2, hM⟩ := TwoM.of HT.out
        have HN : Hid (w.heap.size ≤ wr.heap.size) := Lib.hid HT.out.bel.size
        obtain ⟨N, hNe⟩ : ∃ N, N = wr.heap.size := ⟨_, rfl⟩
        rw [← hNe] at hM HN
        have HM := Lib.hid hM
        clear hM HT hNe H1 H2 HL1 HL2
        have HC11 := Lib.hid (HM.out.tick x hx)
        go_wp2_with fail
        refine HC11.out.mono ?_
        rintro e w11 ⟨v11, L11, rfl, hd11, ho11, hm11, hk11⟩
        have HD11 := Lib.hid hd11
        have HO11 := Lib.hid ho11
        clear HM HC11
        have HM := Lib.hid hm11
        clear hd11 ho11 hm11 hk11
        have HC12 := Lib.hid (HM.out.bad y hy)
        go_wp2_with fail
        refine HC12.out.mono ?_
        rintro e w12 ⟨rfl, rfl⟩
        clear HC12
        have HC13 := Lib.hid (HM.out.swap.bad y hy0)
        go_wp2_with fail
        refine HC13.out.mono ?_
        rintro e w13 ⟨rfl, rfl⟩
        clear HC13
        have HB := Lib.hid HM.out.bel
        clear HM
        rcases (show (x : Int) < 0 ∨ (¬ (x : Int) < 0 ∧ (y : Int) < (x : Int)) ∨ (¬ (x : Int) < 0 ∧ ¬ (y : Int) < (x : Int) ∧ (y : Int) > 1099511627776) by unfold okT at hx hy hy0; omega) with t | ⟨t, t3⟩ | ⟨t, t3, t4⟩
        · go_wp2_with fail
          go_ret
          exact ⟨rfl, HB.out⟩
        · go_wp2_with fail
          go_ret
          exact ⟨rfl, HB.out⟩
        · go_wp2_with fail
          go_ret
          exact ⟨rfl, HB.out⟩
    · have u1 : ¬ (k : Int) < (n1 : Int) := by omega
      obtain ⟨m1, m2, hM⟩ := TwoM.of HT.out
      have HN : Hid (w.heap.size ≤ wr.heap.size) := Lib.hid HT.out.bel.size
      obtain ⟨N, hNe⟩ : ∃ N, N = wr.heap.size := ⟨_, rfl⟩
      rw [← hNe] at hM HN
      have HM := Lib.hid hM
      clear hM HT hNe H1 H2 HL1 HL2
      have HC11 := Lib.hid (HM.out.tick x hx)
      go_wp2_with fail
      refine HC11.out.mono ?_
      rintro e w11 ⟨v11, L11, rfl, hd11, ho11, hm11, hk11⟩
      have HD11 := Lib.hid hd11
      have HO11 := Lib.hid ho11
      clear HM HC11
      have HM := Lib.hid hm11
      clear hd11 ho11 hm11 hk11
      have HC12 := Lib.hid (HM.out.bad y hy)
      go_wp2_with fail
      refine HC12.out.mono ?_
      rintro e w12 ⟨rfl, rfl⟩
      clear HC12
      have HC13 := Lib.hid (HM.out.swap.bad y hy0)
      go_wp2_with fail
      refine HC13.out.mono ?_
      rintro e w13 ⟨rfl, rfl⟩
      clear HC13
      have HB := Lib.hid HM.out.bel
      clear HM
      rcases (show (x : Int) < 0 ∨ (¬ (x : Int) < 0 ∧ (y : Int) < (x : Int)) ∨ (¬ (x : Int) < 0 ∧ ¬ (y : Int) < (x : Int) ∧ (y : Int) > 1099511627776) by unfold okT at hx hy hy0; omega) with t | ⟨t, t3⟩ | ⟨t, t3, t4⟩
      · go_wp2_with fail
        go_ret
        exact ⟨rfl, HB.out⟩
      · go_wp2_with fail
        go_ret
        exact ⟨rfl, HB.out⟩
      · go_wp2_with fail
        go_ret
        exact ⟨rfl, HB.out⟩

set_option maxRecDepth 100000 in
theorem wheelSteps_walk (w : World) (v1 v2 : Value) (l1 l2 : List Int) (a1 : ArgI w v1 l1) (a2 : ArgI w v2 l2) (x y : Int) (hlen : l1.length * 8 ≤ 140737488355328) :
    Calls Try.prog 4 #[v1, v2, .int .i64 x, .int .i64 y] w fun e w' => e = .returned (.bool true) ∧ Below w.heap.size w w' := by
  by_cases hx : okT 0 x
  · obtain ⟨a, rfl⟩ : ∃ a : Nat, x = a := ⟨x.toNat, by have := hx.1; omega⟩
    by_cases hy0 : okT 0 y
    · obtain ⟨b, rfl⟩ : ∃ b : Nat, y = b := ⟨y.toNat, by have := hy0.1; omega⟩
      by_cases hy : okT a b
      · exact steps_all w v1 v2 l1 l2 a1 a2 a b hx hy hlen
      · exact steps_c1 w v1 v2 l1 l2 a1 a2 a b hx hy hy0 hlen
    · exact steps_c2 w v1 v2 l1 l2 a1 a2 a y hx (fun h => hy0 ⟨by have := h.1; omega, h.2⟩) hy0 hlen
  · by_cases hy : okT 0 y
    · obtain ⟨b, rfl⟩ : ∃ b : Nat, y = b := ⟨y.toNat, by have := hy.1; omega⟩
      exact steps_b1 w v1 v2 l1 l2 a1 a2 x b hx hy hlen
    · exact steps_b2 w v1 v2 l1 l2 a1 a2 x y hx hy hlen
end Go.Proofs.Ytdgfaolflnljaaa
