/-
  The law WheelClears at every ids, times, id and two times: it tells true; what lay in memory stays. Condition: the library's variable errors.errorType is as its text lays it.
-/
import Derived.Test.YtdgfaolflnljaaaDoorWheelTwo
import Derived.Test.YtdgfaolflnljaaaDoorWheelFact
import Derived.Test.YtdgfaolflnljaaaDoorWheelClear
import Derived.Test.YtdgfaolflnljaaaDoorErrTwo
import Derived.Test.YtdgfaolflnljaaaDoorRefIn
import Derived.Deep.RegionHeld3
import Derived.BigQuiet
namespace Go.Proofs.YtdgfaolflnljaaaDoor
open Go.RowKit Go.Lib WheelP

theorem clear_stp {w : World} {p now : Nat} {m : Nat → Option Nat} {f : Nat → Nat} (h : Whl w p m now f) (k : Nat) (hk : k < 64) :
    Calls Tryd.prog 10 #[.pointer (some ⟨p, 0, none⟩), .int .i64 k] w fun e w' => e = .returned (if 0 < f k then .nilIface else eV 2) ∧ Stp w w' p m now (upd f k 0) := by
  refine (wClear_ok w p m now f h k hk).mono ?_
  rintro e w' ⟨rfl, a1, a2⟩
  exact ⟨rfl, m, a1, a2, fun _ hb => Or.inl hb⟩
namespace WheelP
theorem upd_gone (k : Nat) : upd (upd (fun _ => 0) 3 5) 3 0 k = 0 := by
  by_cases e : k = 3
  · rw [e, upd_at]
  · rw [upd_ne _ _ _ _ e, upd_ne _ _ _ _ e]
theorem upd_back {f : Nat → Nat} {a z : Nat} (h : f a = 0) (k : Nat) : upd (upd f a z) a 0 k = f k := by
  by_cases e : k = a
  · rw [e, upd_at, h]
  · rw [upd_ne _ _ _ _ e, upd_ne _ _ _ _ e]
theorem not_told {f : Nat → Nat} {x a : Nat} {L : List Du} (h : Due f x L) (ha : f a = 0) : ¬ (a : Int) ∈ zsD L := by
  intro hm
  unfold zsD at hm
  obtain ⟨p, hp, e⟩ := List.mem_map.1 hm
  obtain ⟨_, h2, _⟩ := (h.mem p).1 hp
  have : p.1 = a := by omega
  rw [this, ha] at h2
  omega
end WheelP
theorem putW_keep {f : Nat → Nat} {i z id : Int} (hi : ¬ i = id) (h : ∀ a : Nat, id = (a : Int) → f a = 0) : ∀ a : Nat, id = (a : Int) → putW f 0 i z a = 0 := by
  intro a ha
  unfold putW
  by_cases hk : okS 0 i z
  · rw [if_pos hk, upd_ne _ _ _ _ (fun e => hi (by have := hk.1; omega))]
    exact h a ha
  · rw [if_neg hk]
    exact h a ha

set_option maxHeartbeats 16000000 in
set_option maxRecDepth 100000 in
theorem wheelClears_walk (w : World) (v1 v2 : Value) (l1 l2 : List Int) (a1 : ArgI w v1 l1) (a2 : ArgI w v2 l2) (id at_ x : Int) (hlen : l1.length * 8 ≤ 140737488355328) (hE : ErrType w) :
    Calls Tryd.prog 4 #[v1, v2, .int .i64 id, .int .i64 at_, .int .i64 x] w fun e w' => e = .returned (.bool true) ∧ Below w.heap.size w w' := by
  obtain ⟨p1, c1, rfl, a1⟩ := a1
  obtain ⟨p2, c2, rfl, a2⟩ := a2
  have H1 : Hid (∀ i, i < l1.length → ∃ b off, p1 = some ⟨b, off, none⟩ ∧ b < w.heap.size ∧ SeenI w b off l1) := Lib.hid (by
    intro i hi
    rcases a1 with rfl | h
    · simp at hi
    · exact h)
  have H2 : Hid (∀ i, i < l2.length → ∃ b off, p2 = some ⟨b, off, none⟩ ∧ b < w.heap.size ∧ SeenI w b off l2) := Lib.hid (by
    intro i hi
    rcases a2 with rfl | h
    · simp at hi
    · exact h)
  clear a1 a2
  have HE := Lib.hid hE
  clear hE
  obtain ⟨n1, hn1⟩ : ∃ n1, l1.length = n1 := ⟨_, rfl⟩
  obtain ⟨n2, hn2⟩ : ∃ n2, l2.length = n2 := ⟨_, rfl⟩
  rw [hn1] at H1 hlen ⊢
  rw [hn2] at H2 ⊢
  have HL1 := Lib.hid hn1
  have HL2 := Lib.hid hn2
  clear hn1 hn2
  have HN := Lib.hid (new_one w w (Below.refl _ _))
  go_enter Tryd.func4, Tryd.ntmps4
  go_wp2_with fail
  refine HN.out.mono ?_
  rintro e w2 ⟨rfl, h2⟩
  have HN2 := Lib.hid (new_two w w2 _ 0 _ h2)
  clear h2 HN
  obtain ⟨p, hp⟩ : ∃ p, p = w.heap.size := ⟨_, rfl⟩
  have HPE := Lib.hid hp
  rw [← hp] at HN2
  rw [show (Value.pointer (some ⟨w.heap.size, 0, none⟩)) = Value.pointer (some ⟨p, 0, none⟩) by rw [hp]]
  clear hp
  go_wp2_with fail
  refine HN2.out.mono ?_
  rintro e w3 ⟨rfl, h3⟩
  obtain ⟨ma, hwa, hsa⟩ := h3.step
  have hS := set_stp hwa 3 5
  rw [setV_35, putW_35] at hS
  have HS := Lib.hid hS
  have HST := Lib.hid hsa
  clear h3 hS hwa hsa HN2
  generalize w2.heap.size = q at HS HST ⊢
  go_wp2_with fail
  refine HS.out.mono ?_
  rintro e w4 ⟨rfl, st⟩
  have h4 := HST.out _ _ _ st
  clear st HS HST
  obtain ⟨mb, hwb, hsb⟩ := h4.step
  have hC := clear_stp hwb 3 (by omega)
  rw [if_pos (by rw [upd_at]; omega)] at hC
  have HC := Lib.hid hC
  have HST := Lib.hid hsb
  clear h4 hC hwb hsb
  rw [show (((3 : Nat) : Int)) = 3 from rfl] at HC
  go_wp2_with fail
  refine HC.out.mono ?_
  rintro e w5 ⟨rfl, st⟩
  have h5 := (HST.out _ _ _ st).congr (g1 := fun _ => 0) (g2 := fun _ => 0) (fun k _ => upd_gone k) (fun _ _ => rfl)
  clear st HC HST
  obtain ⟨mc, hwc, _⟩ := h5.step
  have hL := wLen_any w5 p mc 0 _ hwc
  rw [show cnt (fun _ => 0) = 0 by decide] at hL
  have HLn := Lib.hid hL
  have HT0 := Lib.hid h5
  clear hwc hL h5
  rw [show (((0 : Nat) : Int)) = 0 from rfl] at HLn
  go_wp2_with fail
  refine HLn.out.mono ?_
  rintro e w6 ⟨rfl, rfl⟩
  clear HLn
  go_wp2_with fail
  go_loopw [13] (fun v13 wr => ∃ k : Nat, v13 = .int .i64 k ∧ k ≤ n1 ∧ ∃ f, Hid (TwoW w wr p q 0 f 0 f) ∧ Hid (∀ a : Nat, id = (a : Int) → f a = 0)) (fun v13 _ => n1 + 1 - (intOf v13).toNat)
  case atStart => exact ⟨0, rfl, Nat.zero_le _, _, HT0, Lib.hid fun _ _ => rfl⟩
  case round =>
    clear HT0
    obtain ⟨k, rfl, hk, f, HT, HZ⟩ := hrel
    by_cases t1 : k < n1
    · have u1 : (k : Int) < (n1 : Int) := by omega
      by_cases t2 : k < n2
      · have u2 : (k : Int) < (n2 : Int) := by omega
        obtain ⟨b1, o1, rfl, hb1, hs1⟩ := H1.out k t1
        obtain ⟨b2, o2, rfl, hb2, hs2⟩ := H2.out k t2
        have HS := Lib.hid (fun V (hb : Below w.heap.size w V) => And.intro ((hs1.below hb hb1) k (by rw [HL1.out]; exact t1)) ((hs2.below hb hb2) k (by rw [HL2.out]; exact t2)))
        obtain ⟨s1, s2⟩ := HS.out wr HT.out.bel
        clear hs1 hs2 hb1 hb2
        generalize l1[k]! = i at s1 s2 HS
        generalize l2[k]! = z at s1 s2 HS
        by_cases hii : i = id
        · have ti : (i != id) = false := by simpa using hii
          clear hii HS
          go_wp2_with fail
          go_roundw
          case rel => exact ⟨k + 1, by go_num, by omega, _, HT, HZ⟩
          case measure => simp [intOf]; omega
        · have ti : (i != id) = true := by simpa using hii
          have HZ2 := Lib.hid (putW_keep (z := z) hii HZ.out)
          clear hii HZ
          go_wp2_with fail
          refine wp_region_held_drew (S := (fun V => V.cell? ⟨b1, o1 + k, none⟩ = some (.int .i64 i) ∧ V.cell? ⟨b2, o2 + k, none⟩ = some (.int .i64 z))) (by kernel_rfl) ⟨s1, s2⟩ (fun hHeld => ?_)
          refine wpAnyH_take (i := 0) (oi := { dst := some 61, op := Op.move (Operand.tmp 11), type := 24, pos := "still.go:172", after := #[], guard := none }) (v := ?_) rfl (by kernel_rfl) (by kernel_rfl) (by kernel_rfl) (fun _ _ _ h => h) (Or.inl ⟨by rfl, ?_⟩) hHeld ?_
          rotate_left
          · (intro w hSw; (try dsimp only at hSw); go_simp; first | done | with_reducible rfl)
          simp only [Act.put, List.setIfInBounds_toArray, List.set_cons_zero, List.set_cons_succ]
          refine wpAnyH_take (i := 1) (oi := { dst := some 62, op := Op.move (Operand.tmp 0), type := 22, pos := "still.go:172", after := #[], guard := none }) (v := ?_) rfl (by kernel_rfl) (by kernel_rfl) (by kernel_rfl) (fun _ _ _ h => h) (Or.inl ⟨by rfl, ?_⟩) hHeld ?_
          rotate_left
          · (intro w hSw; (try dsimp only at hSw); go_simp; first | done | with_reducible rfl)
          simp only [Act.put, List.setIfInBounds_toArray, List.set_cons_zero, List.set_cons_succ]
          refine wpAnyH_take (i := 2) (oi := { dst := some 63, op := Op.move (Operand.tmp 13), type := 3, pos := "still.go:172", after := #[], guard := none }) (v := ?_) rfl (by kernel_rfl) (by kernel_rfl) (by kernel_rfl) (fun _ _ _ h => h) (Or.inl ⟨by rfl, ?_⟩) hHeld ?_
          rotate_left
          · (intro w hSw; (try dsimp only at hSw); go_simp; first | done | with_reducible rfl)
          simp only [Act.put, List.setIfInBounds_toArray, List.set_cons_zero, List.set_cons_succ]
          refine wpAnyH_take (i := 3) (oi := { dst := some 64, op := Op.indexAddr 22 (Operand.tmp 62) (Operand.tmp 63), type := 0, pos := "still.go:172", after := #[{ on := 1, ground := Ground.data }, { on := 2, ground := Ground.data }], guard := none }) (v := ?_) rfl (by kernel_rfl) (by kernel_rfl) (by kernel_rfl) (fun _ _ _ h => h) (Or.inl ⟨by rfl, ?_⟩) hHeld ?_
          rotate_left
          · (intro w hSw; (try dsimp only at hSw); go_simp; first | done | with_reducible rfl)
          simp only [Act.put, List.setIfInBounds_toArray, List.set_cons_zero, List.set_cons_succ]
          refine wpAnyH_take (i := 4) (oi := { dst := some 65, op := Op.load 3 (Operand.tmp 64), type := 3, pos := "still.go:172", after := #[{ on := 3, ground := Ground.data }], guard := none }) (v := ?_) rfl (by kernel_rfl) (by kernel_rfl) (by kernel_rfl) (fun _ _ _ h => h) (Or.inl ⟨by rfl, ?_⟩) hHeld ?_
          rotate_left
          · (intro w hSw; (try dsimp only at hSw); go_simp; first | done | with_reducible rfl)
          simp only [Act.put, List.setIfInBounds_toArray, List.set_cons_zero, List.set_cons_succ]
          refine wpAnyH_take (i := 5) (oi := { dst := some 66, op := Op.move (Operand.tmp 1), type := 22, pos := "still.go:172", after := #[], guard := none }) (v := ?_) rfl (by kernel_rfl) (by kernel_rfl) (by kernel_rfl) (fun _ _ _ h => h) (Or.inl ⟨by rfl, ?_⟩) hHeld ?_
          rotate_left
          · (intro w hSw; (try dsimp only at hSw); go_simp; first | done | with_reducible rfl)
          simp only [Act.put, List.setIfInBounds_toArray, List.set_cons_zero, List.set_cons_succ]
          refine wpAnyH_take (i := 6) (oi := { dst := some 67, op := Op.move (Operand.tmp 13), type := 3, pos := "still.go:172", after := #[], guard := none }) (v := ?_) rfl (by kernel_rfl) (by kernel_rfl) (by kernel_rfl) (fun _ _ _ h => h) (Or.inl ⟨by rfl, ?_⟩) hHeld ?_
          rotate_left
          · (intro w hSw; (try dsimp only at hSw); go_simp; first | done | with_reducible rfl)
          simp only [Act.put, List.setIfInBounds_toArray, List.set_cons_zero, List.set_cons_succ]
          refine wpAnyH_take (i := 7) (oi := { dst := some 68, op := Op.indexAddr 22 (Operand.tmp 66) (Operand.tmp 67), type := 0, pos := "still.go:172", after := #[{ on := 5, ground := Ground.data }, { on := 6, ground := Ground.data }], guard := none }) (v := ?_) rfl (by kernel_rfl) (by kernel_rfl) (by kernel_rfl) (fun _ _ _ h => h) (Or.inl ⟨by rfl, ?_⟩) hHeld ?_
          rotate_left
          · (intro w hSw; (try dsimp only at hSw); go_simp; first | done | with_reducible rfl)
          simp only [Act.put, List.setIfInBounds_toArray, List.set_cons_zero, List.set_cons_succ]
          refine wpAnyH_take (i := 8) (oi := { dst := some 69, op := Op.load 3 (Operand.tmp 68), type := 3, pos := "still.go:172", after := #[{ on := 7, ground := Ground.data }], guard := none }) (v := ?_) rfl (by kernel_rfl) (by kernel_rfl) (by kernel_rfl) (fun _ _ _ h => h) (Or.inl ⟨by rfl, ?_⟩) hHeld ?_
          rotate_left
          · (intro w hSw; (try dsimp only at hSw); go_simp; first | done | with_reducible rfl)
          simp only [Act.put, List.setIfInBounds_toArray, List.set_cons_zero, List.set_cons_succ]
          refine wpAnyH_ready (rs := [9]) (by kernel_rfl) (by simp) ?_
          refine AllReadyH.cons (o := { dst := some 70, op := Op.call { callee := Callee.value (Operand.func 9), args := #[Operand.tmp 61, Operand.tmp 65, Operand.tmp 69], argTypes := #[24, 3, 3] }, type := 30, pos := "still.go:172", after := #[{ on := 0, ground := Ground.data }, { on := 4, ground := Ground.data }, { on := 8, ground := Ground.data }], guard := none }) rfl (fun K hK => ?_) AllReadyH.nil
          go_simp
          go_at_call 9
          obtain ⟨mwa, hwwa, hswa⟩ := (HT.out.below (Below.refl _ wr).drew).step
          refine (set_stp hwwa i z).mono ?_
          rintro e wa ⟨rfl, stwa⟩
          have htwa := hswa _ _ _ stwa
          have HTa := Lib.hid htwa.swap
          have KK0 := HS.out wa htwa.bel
          clear hHeld htwa stwa hswa hwwa HT
          obtain ⟨rwa, hrwa⟩ : ∃ rwa, rwa = setV 0 i z := ⟨_, rfl⟩
          rw [← hrwa]
          clear hrwa
          go_wp2_with fail
          refine hK.out _ _ KK0 (fun hHeld => ?_)
          clear hK K
          refine wpAnyH_done (by kernel_rfl) ?_ _
          clear s1 s2 hHeld
          obtain ⟨s1, s2⟩ := HS.out wa HTa.out.bel
          go_wp2_with fail
          refine wp_region_held_drew (S := (fun V => V.cell? ⟨b1, o1 + k, none⟩ = some (.int .i64 i) ∧ V.cell? ⟨b2, o2 + k, none⟩ = some (.int .i64 z))) (by kernel_rfl) ⟨s1, s2⟩ (fun hHeld => ?_)
          refine wpAnyH_take (i := 0) (oi := { dst := some 71, op := Op.move (Operand.tmp 12), type := 24, pos := "still.go:173", after := #[], guard := none }) (v := ?_) rfl (by kernel_rfl) (by kernel_rfl) (by kernel_rfl) (fun _ _ _ h => h) (Or.inl ⟨by rfl, ?_⟩) hHeld ?_
          rotate_left
          · (intro w hSw; (try dsimp only at hSw); go_simp; first | done | with_reducible rfl)
          simp only [Act.put, List.setIfInBounds_toArray, List.set_cons_zero, List.set_cons_succ]
          refine wpAnyH_take (i := 1) (oi := { dst := some 72, op := Op.move (Operand.tmp 0), type := 22, pos := "still.go:173", after := #[], guard := none }) (v := ?_) rfl (by kernel_rfl) (by kernel_rfl) (by kernel_rfl) (fun _ _ _ h => h) (Or.inl ⟨by rfl, ?_⟩) hHeld ?_
          rotate_left
          · (intro w hSw; (try dsimp only at hSw); go_simp; first | done | with_reducible rfl)
          simp only [Act.put, List.setIfInBounds_toArray, List.set_cons_zero, List.set_cons_succ]
          refine wpAnyH_take (i := 2) (oi := { dst := some 73, op := Op.move (Operand.tmp 13), type := 3, pos := "still.go:173", after := #[], guard := none }) (v := ?_) rfl (by kernel_rfl) (by kernel_rfl) (by kernel_rfl) (fun _ _ _ h => h) (Or.inl ⟨by rfl, ?_⟩) hHeld ?_
          rotate_left
          · (intro w hSw; (try dsimp only at hSw); go_simp; first | done | with_reducible rfl)
          simp only [Act.put, List.setIfInBounds_toArray, List.set_cons_zero, List.set_cons_succ]
          refine wpAnyH_take (i := 3) (oi := { dst := some 74, op := Op.indexAddr 22 (Operand.tmp 72) (Operand.tmp 73), type := 0, pos := "still.go:173", after := #[{ on := 1, ground := Ground.data }, { on := 2, ground := Ground.data }], guard := none }) (v := ?_) rfl (by kernel_rfl) (by kernel_rfl) (by kernel_rfl) (fun _ _ _ h => h) (Or.inl ⟨by rfl, ?_⟩) hHeld ?_
          rotate_left
          · (intro w hSw; (try dsimp only at hSw); go_simp; first | done | with_reducible rfl)
          simp only [Act.put, List.setIfInBounds_toArray, List.set_cons_zero, List.set_cons_succ]
          refine wpAnyH_take (i := 4) (oi := { dst := some 75, op := Op.load 3 (Operand.tmp 74), type := 3, pos := "still.go:173", after := #[{ on := 3, ground := Ground.data }], guard := none }) (v := ?_) rfl (by kernel_rfl) (by kernel_rfl) (by kernel_rfl) (fun _ _ _ h => h) (Or.inl ⟨by rfl, ?_⟩) hHeld ?_
          rotate_left
          · (intro w hSw; (try dsimp only at hSw); go_simp; first | done | with_reducible rfl)
          simp only [Act.put, List.setIfInBounds_toArray, List.set_cons_zero, List.set_cons_succ]
          refine wpAnyH_take (i := 5) (oi := { dst := some 76, op := Op.move (Operand.tmp 1), type := 22, pos := "still.go:173", after := #[], guard := none }) (v := ?_) rfl (by kernel_rfl) (by kernel_rfl) (by kernel_rfl) (fun _ _ _ h => h) (Or.inl ⟨by rfl, ?_⟩) hHeld ?_
          rotate_left
          · (intro w hSw; (try dsimp only at hSw); go_simp; first | done | with_reducible rfl)
          simp only [Act.put, List.setIfInBounds_toArray, List.set_cons_zero, List.set_cons_succ]
          refine wpAnyH_take (i := 6) (oi := { dst := some 77, op := Op.move (Operand.tmp 13), type := 3, pos := "still.go:173", after := #[], guard := none }) (v := ?_) rfl (by kernel_rfl) (by kernel_rfl) (by kernel_rfl) (fun _ _ _ h => h) (Or.inl ⟨by rfl, ?_⟩) hHeld ?_
          rotate_left
          · (intro w hSw; (try dsimp only at hSw); go_simp; first | done | with_reducible rfl)
          simp only [Act.put, List.setIfInBounds_toArray, List.set_cons_zero, List.set_cons_succ]
          refine wpAnyH_take (i := 7) (oi := { dst := some 78, op := Op.indexAddr 22 (Operand.tmp 76) (Operand.tmp 77), type := 0, pos := "still.go:173", after := #[{ on := 5, ground := Ground.data }, { on := 6, ground := Ground.data }], guard := none }) (v := ?_) rfl (by kernel_rfl) (by kernel_rfl) (by kernel_rfl) (fun _ _ _ h => h) (Or.inl ⟨by rfl, ?_⟩) hHeld ?_
          rotate_left
          · (intro w hSw; (try dsimp only at hSw); go_simp; first | done | with_reducible rfl)
          simp only [Act.put, List.setIfInBounds_toArray, List.set_cons_zero, List.set_cons_succ]
          refine wpAnyH_take (i := 8) (oi := { dst := some 79, op := Op.load 3 (Operand.tmp 78), type := 3, pos := "still.go:173", after := #[{ on := 7, ground := Ground.data }], guard := none }) (v := ?_) rfl (by kernel_rfl) (by kernel_rfl) (by kernel_rfl) (fun _ _ _ h => h) (Or.inl ⟨by rfl, ?_⟩) hHeld ?_
          rotate_left
          · (intro w hSw; (try dsimp only at hSw); go_simp; first | done | with_reducible rfl)
          simp only [Act.put, List.setIfInBounds_toArray, List.set_cons_zero, List.set_cons_succ]
          refine wpAnyH_ready (rs := [9]) (by kernel_rfl) (by simp) ?_
          refine AllReadyH.cons (o := { dst := some 80, op := Op.call { callee := Callee.value (Operand.func 9), args := #[Operand.tmp 71, Operand.tmp 75, Operand.tmp 79], argTypes := #[24, 3, 3] }, type := 30, pos := "still.go:173", after := #[{ on := 0, ground := Ground.data }, { on := 4, ground := Ground.data }, { on := 8, ground := Ground.data }], guard := none }) rfl (fun K hK => ?_) AllReadyH.nil
          go_simp
          go_at_call 9
          obtain ⟨mwb, hwwb, hswb⟩ := (HTa.out.below (Below.refl _ wa).drew).step
          refine (set_stp hwwb i z).mono ?_
          rintro e wb ⟨rfl, stwb⟩
          have htwb := hswb _ _ _ stwb
          have HTb := Lib.hid htwb.swap
          have KK0 := HS.out wb htwb.bel
          clear hHeld htwb stwb hswb hwwb HTa
          obtain ⟨rwb, hrwb⟩ : ∃ rwb, rwb = setV 0 i z := ⟨_, rfl⟩
          rw [← hrwb]
          clear hrwb
          go_wp2_with fail
          refine hK.out _ _ KK0 (fun hHeld => ?_)
          clear hK K
          refine wpAnyH_done (by kernel_rfl) ?_ _
          clear s1 s2 hHeld
          go_wp2_with fail
          go_roundw
          case rel => exact ⟨k + 1, by go_num, by omega, _, HTb, HZ2⟩
          case measure => simp [intOf]; omega
      · have u2 : ¬ (k : Int) < (n2 : Int) := by omega
        clear H1 H2 HL1 HL2
        obtain ⟨md, hwd, hsd⟩ := HT.out.step
        have hS := set_stp hwd id at_
        have HST := Lib.hid hsd
        clear hwd hsd
        by_cases hok : okS 0 id at_
        · rw [show setV 0 id at_ = .nilIface from if_pos hok] at hS
          obtain ⟨a, rfl⟩ : ∃ a : Nat, id = a := ⟨id.toNat, by have := hok.1; omega⟩
          obtain ⟨z, rfl⟩ : ∃ z : Nat, at_ = z := ⟨at_.toNat, by have := hok.2.2.1; omega⟩
          have ha : a < 64 := by have := hok.2.1; omega
          have hz : 0 < z := by have := hok.2.2.1; omega
          rw [putW_yes _ _ _ _ hok] at hS
          have HS := Lib.hid hS
          have hfa := HZ.out a rfl
          clear hS hok HT HZ
          go_wp2_with fail
          refine HS.out.mono ?_
          rintro e w7 ⟨rfl, st⟩
          have h7 := HST.out _ _ _ st
          clear st HS HST
          obtain ⟨me, hwe, hse⟩ := h7.step
          have hC := clear_stp hwe a ha
          rw [if_pos (by rw [upd_at]; exact hz)] at hC
          have HC := Lib.hid hC
          have HST := Lib.hid hse
          clear h7 hC hwe hse
          go_wp2_with fail
          refine HC.out.mono ?_
          rintro e w8 ⟨rfl, st⟩
          have h8 := (HST.out _ _ _ st).congr (g1 := f) (g2 := f) (fun k _ => upd_back hfa k) (fun _ _ => rfl)
          clear st HC HST
          obtain ⟨m1, m2, hM⟩ := TwoM.of h8
          obtain ⟨N, hN⟩ : ∃ N, N = w8.heap.size := ⟨_, rfl⟩
          rw [← hN] at hM
          have HNle := Lib.hid (show w.heap.size ≤ N by rw [hN]; exact h8.bel.size)
          have HM := Lib.hid hM
          clear hM hN h8
          by_cases hx : okT 0 x
          · obtain ⟨y, rfl⟩ : ∃ y : Nat, x = y := ⟨x.toNat, by have := hx.1; omega⟩
            have HC1 := Lib.hid (HM.out.tick y hx)
            go_wp2_with fail
            refine HC1.out.mono ?_
            rintro e w9 ⟨v9, L9, rfl, hd9, ho9, hm9, _⟩
            have HD9 := Lib.hid hd9
            have HO9 := Lib.hid ho9
            have HM2 := Lib.hid hm9.swap
            clear HM HC1 hd9 ho9 hm9
            have HC2 := Lib.hid (HM2.out.tick y hx)
            go_wp2_with fail
            refine HC2.out.mono ?_
            rintro e w10 ⟨v10, L10, rfl, hd10, ho10, hm10, hk10⟩
            obtain rfl := HD9.out.one hd10
            have HO9b := Lib.hid (hk10 _ _ HO9.out)
            have HO10 := Lib.hid ho10
            have HM3 := Lib.hid hm10
            have HLen := Lib.hid (due_len hd10)
            clear HM2 HC2 hd10 ho10 hm10 hk10 HO9
            have HTo := Lib.hid (sameTold_any 0 0 w10 (HE.out.below HM3.out.bel))
            rw [show errV 0 = Value.nilIface from rfl, show ((0 : Int) == 0) = true from rfl] at HTo
            go_wp2_with fail
            refine HTo.out.mono ?_
            rintro e w11 ⟨rfl, hb11⟩
            have HM4 := Lib.hid (HM3.out.below hb11)
            have HOa := Lib.hid (HO9b.out.keep hb11)
            have HOb := Lib.hid (HO10.out.keep hb11)
            clear HM3 HO9b HO10 hb11 HTo
            have HI := Lib.hid (sameInts_any w11 _ _ _ _ (by rw [zsD_len]; have := HLen.out; omega) HOa.out.arg HOb.out.arg)
            rw [decide_eq_true rfl] at HI
            go_wp2_with fail
            refine HI.out.mono ?_
            rintro e w12 ⟨rfl, hb12⟩
            have HM5 := Lib.hid (HM4.out.below hb12)
            have HOc := Lib.hid (HOa.out.keep hb12)
            clear HM4 HOa HOb hb12 HI
            have HLa := Lib.hid HM5.out.len
            have HLb := Lib.hid HM5.out.swap.len
            have hIn := refIn_any w12 _ _ (a : Int) (by rw [zsD_len]; have := HLen.out; omega) HOc.out.arg
            rw [decide_eq_false (not_told HD9.out hfa)] at hIn
            have HIn := Lib.hid hIn
            clear hIn HD9 HOc
            generalize cnt (rest f y) = ca at HLa HLb
            have tca : ((ca : Int) == (ca : Int)) = true := by simp
            go_wp2_with fail
            refine HLb.out.mono ?_
            rintro e w13 ⟨rfl, rfl⟩
            go_wp2_with fail
            refine HLa.out.mono ?_
            rintro e w14 ⟨rfl, rfl⟩
            go_wp2_with fail
            refine HIn.out.mono ?_
            rintro e w15 ⟨rfl, rfl⟩
            have HB := Lib.hid HM5.out.bel
            clear HM5 HLa HLb HIn
            go_wp2_with fail
            go_ret
            exact ⟨rfl, HB.out⟩
          · have HC1 := Lib.hid (HM.out.bad x hx)
            have HC2 := Lib.hid (HM.out.swap.bad x hx)
            go_wp2_with fail
            refine HC1.out.mono ?_
            rintro e w9 ⟨rfl, rfl⟩
            go_wp2_with fail
            refine HC2.out.mono ?_
            rintro e w10 ⟨rfl, rfl⟩
            clear HC1 HC2
            have HTo := Lib.hid (sameTold_any 1 1 w8 (HE.out.below HM.out.bel))
            rw [show errV 1 = eV 1 from rfl, show ((1 : Int) == 1) = true from rfl] at HTo
            go_wp2_with fail
            refine HTo.out.mono ?_
            rintro e w11 ⟨rfl, hb11⟩
            have HM4 := Lib.hid (HM.out.below hb11)
            clear HM hb11 HTo
            go_wp2_with fail
            refine (sameInts_none w11 none none 0 0).mono ?_
            rintro e w12 ⟨rfl, hb12⟩
            have HM5 := Lib.hid (HM4.out.below hb12)
            clear HM4 hb12
            have HLa := Lib.hid HM5.out.len
            have HLb := Lib.hid HM5.out.swap.len
            have hIn := refIn_any w12 (.slice none 0 0) [] (a : Int) (by simp) ⟨none, 0, rfl, Or.inl rfl⟩
            rw [decide_eq_false (by simp)] at hIn
            have HIn := Lib.hid hIn
            clear hIn
            generalize cnt f = ca at HLa HLb
            have tca : ((ca : Int) == (ca : Int)) = true := by simp
            go_wp2_with fail
            refine HLa.out.mono ?_
            rintro e w13 ⟨rfl, rfl⟩
            go_wp2_with fail
            refine HLb.out.mono ?_
            rintro e w14 ⟨rfl, rfl⟩
            go_wp2_with fail
            refine HIn.out.mono ?_
            rintro e w15 ⟨rfl, rfl⟩
            have HB := Lib.hid HM5.out.bel
            clear HM5 HLa HLb HIn
            go_wp2_with fail
            go_ret
            exact ⟨rfl, HB.out⟩
        · rw [show setV 0 id at_ = eV 1 from if_neg hok] at hS
          have HS := Lib.hid hS
          clear hS HT HZ
          go_wp2_with fail
          refine HS.out.mono ?_
          rintro e w7 ⟨rfl, st⟩
          have h7 := HST.out _ _ _ st
          have HB := Lib.hid h7.bel
          clear st HS HST h7
          rcases (show id < 0 ∨ (¬ id < 0 ∧ id ≥ 64) ∨ (¬ id < 0 ∧ ¬ id ≥ 64 ∧ at_ < 1) ∨ (¬ id < 0 ∧ ¬ id ≥ 64 ∧ ¬ at_ < 1 ∧ at_ > 1099511627776) by unfold okS at hok; omega) with t | ⟨t, t3⟩ | ⟨t, t3, t4⟩ | ⟨t, t3, t4, t5⟩
          · go_wp2_with fail
            go_ret
            exact ⟨rfl, HB.out⟩
          · go_wp2_with fail
            go_ret
            exact ⟨rfl, HB.out⟩
          · go_wp2_with fail
            go_ret
            exact ⟨rfl, HB.out⟩
          · go_wp2_with fail
            go_ret
            exact ⟨rfl, HB.out⟩
    · have u1 : ¬ (k : Int) < (n1 : Int) := by omega
      clear H1 H2 HL1 HL2
      obtain ⟨md, hwd, hsd⟩ := HT.out.step
      have hS := set_stp hwd id at_
      have HST := Lib.hid hsd
      clear hwd hsd
      by_cases hok : okS 0 id at_
      · rw [show setV 0 id at_ = .nilIface from if_pos hok] at hS
        obtain ⟨a, rfl⟩ : ∃ a : Nat, id = a := ⟨id.toNat, by have := hok.1; omega⟩
        obtain ⟨z, rfl⟩ : ∃ z : Nat, at_ = z := ⟨at_.toNat, by have := hok.2.2.1; omega⟩
        have ha : a < 64 := by have := hok.2.1; omega
        have hz : 0 < z := by have := hok.2.2.1; omega
        rw [putW_yes _ _ _ _ hok] at hS
        have HS := Lib.hid hS
        have hfa := HZ.out a rfl
        clear hS hok HT HZ
        go_wp2_with fail
        refine HS.out.mono ?_
        rintro e w7 ⟨rfl, st⟩
        have h7 := HST.out _ _ _ st
        clear st HS HST
        obtain ⟨me, hwe, hse⟩ := h7.step
        have hC := clear_stp hwe a ha
        rw [if_pos (by rw [upd_at]; exact hz)] at hC
        have HC := Lib.hid hC
        have HST := Lib.hid hse
        clear h7 hC hwe hse
        go_wp2_with fail
        refine HC.out.mono ?_
        rintro e w8 ⟨rfl, st⟩
        have h8 := (HST.out _ _ _ st).congr (g1 := f) (g2 := f) (fun k _ => upd_back hfa k) (fun _ _ => rfl)
        clear st HC HST
        obtain ⟨m1, m2, hM⟩ := TwoM.of h8
        obtain ⟨N, hN⟩ : ∃ N, N = w8.heap.size := ⟨_, rfl⟩
        rw [← hN] at hM
        have HNle := Lib.hid (show w.heap.size ≤ N by rw [hN]; exact h8.bel.size)
        have HM := Lib.hid hM
        clear hM hN h8
        by_cases hx : okT 0 x
        · obtain ⟨y, rfl⟩ : ∃ y : Nat, x = y := ⟨x.toNat, by have := hx.1; omega⟩
          have HC1 := Lib.hid (HM.out.tick y hx)
          go_wp2_with fail
          refine HC1.out.mono ?_
          rintro e w9 ⟨v9, L9, rfl, hd9, ho9, hm9, _⟩
          have HD9 := Lib.hid hd9
          have HO9 := Lib.hid ho9
          have HM2 := Lib.hid hm9.swap
          clear HM HC1 hd9 ho9 hm9
          have HC2 := Lib.hid (HM2.out.tick y hx)
          go_wp2_with fail
          refine HC2.out.mono ?_
          rintro e w10 ⟨v10, L10, rfl, hd10, ho10, hm10, hk10⟩
          obtain rfl := HD9.out.one hd10
          have HO9b := Lib.hid (hk10 _ _ HO9.out)
          have HO10 := Lib.hid ho10
          have HM3 := Lib.hid hm10
          have HLen := Lib.hid (due_len hd10)
          clear HM2 HC2 hd10 ho10 hm10 hk10 HO9
          have HTo := Lib.hid (sameTold_any 0 0 w10 (HE.out.below HM3.out.bel))
          rw [show errV 0 = Value.nilIface from rfl, show ((0 : Int) == 0) = true from rfl] at HTo
          go_wp2_with fail
          refine HTo.out.mono ?_
          rintro e w11 ⟨rfl, hb11⟩
          have HM4 := Lib.hid (HM3.out.below hb11)
          have HOa := Lib.hid (HO9b.out.keep hb11)
          have HOb := Lib.hid (HO10.out.keep hb11)
          clear HM3 HO9b HO10 hb11 HTo
          have HI := Lib.hid (sameInts_any w11 _ _ _ _ (by rw [zsD_len]; have := HLen.out; omega) HOa.out.arg HOb.out.arg)
          rw [decide_eq_true rfl] at HI
          go_wp2_with fail
          refine HI.out.mono ?_
          rintro e w12 ⟨rfl, hb12⟩
          have HM5 := Lib.hid (HM4.out.below hb12)
          have HOc := Lib.hid (HOa.out.keep hb12)
          clear HM4 HOa HOb hb12 HI
          have HLa := Lib.hid HM5.out.len
          have HLb := Lib.hid HM5.out.swap.len
          have hIn := refIn_any w12 _ _ (a : Int) (by rw [zsD_len]; have := HLen.out; omega) HOc.out.arg
          rw [decide_eq_false (not_told HD9.out hfa)] at hIn
          have HIn := Lib.hid hIn
          clear hIn HD9 HOc
          generalize cnt (rest f y) = ca at HLa HLb
          have tca : ((ca : Int) == (ca : Int)) = true := by simp
          go_wp2_with fail
          refine HLb.out.mono ?_
          rintro e w13 ⟨rfl, rfl⟩
          go_wp2_with fail
          refine HLa.out.mono ?_
          rintro e w14 ⟨rfl, rfl⟩
          go_wp2_with fail
          refine HIn.out.mono ?_
          rintro e w15 ⟨rfl, rfl⟩
          have HB := Lib.hid HM5.out.bel
          clear HM5 HLa HLb HIn
          go_wp2_with fail
          go_ret
          exact ⟨rfl, HB.out⟩
        · have HC1 := Lib.hid (HM.out.bad x hx)
          have HC2 := Lib.hid (HM.out.swap.bad x hx)
          go_wp2_with fail
          refine HC1.out.mono ?_
          rintro e w9 ⟨rfl, rfl⟩
          go_wp2_with fail
          refine HC2.out.mono ?_
          rintro e w10 ⟨rfl, rfl⟩
          clear HC1 HC2
          have HTo := Lib.hid (sameTold_any 1 1 w8 (HE.out.below HM.out.bel))
          rw [show errV 1 = eV 1 from rfl, show ((1 : Int) == 1) = true from rfl] at HTo
          go_wp2_with fail
          refine HTo.out.mono ?_
          rintro e w11 ⟨rfl, hb11⟩
          have HM4 := Lib.hid (HM.out.below hb11)
          clear HM hb11 HTo
          go_wp2_with fail
          refine (sameInts_none w11 none none 0 0).mono ?_
          rintro e w12 ⟨rfl, hb12⟩
          have HM5 := Lib.hid (HM4.out.below hb12)
          clear HM4 hb12
          have HLa := Lib.hid HM5.out.len
          have HLb := Lib.hid HM5.out.swap.len
          have hIn := refIn_any w12 (.slice none 0 0) [] (a : Int) (by simp) ⟨none, 0, rfl, Or.inl rfl⟩
          rw [decide_eq_false (by simp)] at hIn
          have HIn := Lib.hid hIn
          clear hIn
          generalize cnt f = ca at HLa HLb
          have tca : ((ca : Int) == (ca : Int)) = true := by simp
          go_wp2_with fail
          refine HLa.out.mono ?_
          rintro e w13 ⟨rfl, rfl⟩
          go_wp2_with fail
          refine HLb.out.mono ?_
          rintro e w14 ⟨rfl, rfl⟩
          go_wp2_with fail
          refine HIn.out.mono ?_
          rintro e w15 ⟨rfl, rfl⟩
          have HB := Lib.hid HM5.out.bel
          clear HM5 HLa HLb HIn
          go_wp2_with fail
          go_ret
          exact ⟨rfl, HB.out⟩
      · rw [show setV 0 id at_ = eV 1 from if_neg hok] at hS
        have HS := Lib.hid hS
        clear hS HT HZ
        go_wp2_with fail
        refine HS.out.mono ?_
        rintro e w7 ⟨rfl, st⟩
        have h7 := HST.out _ _ _ st
        have HB := Lib.hid h7.bel
        clear st HS HST h7
        rcases (show id < 0 ∨ (¬ id < 0 ∧ id ≥ 64) ∨ (¬ id < 0 ∧ ¬ id ≥ 64 ∧ at_ < 1) ∨ (¬ id < 0 ∧ ¬ id ≥ 64 ∧ ¬ at_ < 1 ∧ at_ > 1099511627776) by unfold okS at hok; omega) with t | ⟨t, t3⟩ | ⟨t, t3, t4⟩ | ⟨t, t3, t4, t5⟩
        · go_wp2_with fail
          go_ret
          exact ⟨rfl, HB.out⟩
        · go_wp2_with fail
          go_ret
          exact ⟨rfl, HB.out⟩
        · go_wp2_with fail
          go_ret
          exact ⟨rfl, HB.out⟩
        · go_wp2_with fail
          go_ret
          exact ⟨rfl, HB.out⟩
end Go.Proofs.YtdgfaolflnljaaaDoor
