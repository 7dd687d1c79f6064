/-
  The statement TrieOrder's function answers true at every list and every address; what lay in memory stays. Condition: the library's variable errors.errorType is as its text lays it.
-/
import Derived.Test.YtbdmfcnlfmnmdaaDoorTriePut
import Derived.Test.YtbdmfcnlfmnmdaaDoorTrieDrop
import Derived.Test.YtbdmfcnlfmnmdaaDoorTrieFind
import Derived.Test.YtbdmfcnlfmnmdaaDoorTrieList
import Derived.Test.YtbdmfcnlfmnmdaaDoorSameNets
import Derived.Test.YtbdmfcnlfmnmdaaDoorErrTwo
import Derived.Test.YtbdmfcnlfmnmdaaDoorRefPlaces
namespace Go.Proofs.YtbdmfcnlfmnmdaaDoor
open Go.RowKit

theorem nodup_len {l : List Nt} : ∀ {m : List Nt}, l.Nodup → (∀ n ∈ l, n ∈ m) → l.length ≤ m.length := by
  induction l with
  | nil => intro m _ _; simp
  | cons x r ih =>
    intro m hn hs
    have hx : x ∈ m := hs x (by simp)
    obtain ⟨h1, h2⟩ := List.nodup_cons.1 hn
    have h3 := ih (m := m.erase x) h2 (fun n hn' => (List.mem_erase_of_ne (fun e => h1 (by rw [← e]; exact hn'))).2 (hs n (by simp [hn'])))
    rw [List.length_erase_of_mem hx] at h3
    have := List.length_pos_of_mem hx
    simp only [List.length_cons]
    omega
/-- What a table holds into which the networks of X were put, each with its place in l. -/
def Puts (l X : List Nt) (f : Nt → Option Int) : Prop := ∀ n : Nt, f n = if n ∈ X ∧ PrefP.chk n.1 n.2 = 0 then some (plc l n) else none
theorem Puts.congr {l X Y : List Nt} {f : Nt → Option Int} (h : Puts l X f) (e : ∀ n, n ∈ X ↔ n ∈ Y) : Puts l Y f := fun n => by rw [h n]; simp only [e n]
theorem Puts.same {l X Y : List Nt} {f g : Nt → Option Int} (h : Puts l X f) (k : Puts l Y g) (e : ∀ n, n ∈ X ↔ n ∈ Y) (n : Nt) : f n = g n := by rw [h n, k n]; simp only [e n]
theorem Puts.step {w : World} {S : Nat → Prop} {tb : Nat} {f : Nt → Option Int} {L l X : List Nt} {x : Nt} (hT : Tab w S tb f L) (hl : l.length ≤ 64) (hX : ∀ n ∈ X, n ∈ l) (hx : x ∈ l) (h : Puts l X f) : Puts l (x :: X) (putF f L x (plc l x)) := by
  intro n
  unfold putF putE
  by_cases hk : PrefP.chk x.1 x.2 = 0
  · have h64 : ¬ (f x = none ∧ 64 ≤ L.length) := by
      rintro ⟨h1, h2⟩
      have hn : (x :: L).Nodup := List.nodup_cons.2 ⟨fun e => by
        obtain ⟨z, hz⟩ := (hT.mem x).1 e
        rw [h1] at hz; exact absurd hz (by simp), rises_nodup hT.rises⟩
      have := nodup_len (m := l) hn (fun m hm => by
        rcases List.mem_cons.1 hm with rfl | hm
        · exact hx
        · obtain ⟨z, hz⟩ := (hT.mem m).1 hm
          rw [h m] at hz
          by_cases c : m ∈ X ∧ PrefP.chk m.1 m.2 = 0
          · exact hX m c.1
          · rw [if_neg c] at hz; exact absurd hz (by simp))
      simp only [List.length_cons] at this
      omega
    rw [if_pos hk, if_neg h64, if_pos rfl]
    unfold setF
    by_cases e : n = x
    · subst e
      rw [if_pos rfl, if_pos ⟨by simp, hk⟩]
    · rw [if_neg e, h n]
      simp [e]
  · rw [if_neg hk, if_neg hk, h n]
    by_cases e : n = x
    · subst e
      rw [if_neg (fun c => hk c.2), if_neg (fun c => hk c.2)]
    · simp [e]
theorem zero_chk0 : PrefP.chk 0 0 = 0 := by decide +kernel
/-- One put and dropped again. -/
theorem put_drop_none : ∀ n, dropF (setF (fun _ => none) ((0, 0) : Nt) (some 3)) ((0, 0) : Nt) n = none := by
  intro n
  have hE : getE (setF (fun _ => none) ((0, 0) : Nt) (some 3)) ((0, 0) : Nt) = 0 := by unfold getE; rw [if_pos zero_chk0, setF_same, if_neg (by simp)]
  unfold dropF
  rw [if_pos hE]
  unfold setF
  by_cases e : n = ((0, 0) : Nt)
  · rw [if_pos e]
  · rw [if_neg e, if_neg e]
theorem get_zero : getE (setF (fun _ => none) ((0, 0) : Nt) (some 3)) ((0, 0) : Nt) = 0 := by unfold getE; rw [if_pos zero_chk0, setF_same, if_neg (by simp)]
theorem put_zero0 : putE (fun _ => none) [] ((0, 0) : Nt) = 0 := by unfold putE; rw [if_pos zero_chk0, if_neg (by simp)]

set_option maxHeartbeats 4000000 in
set_option maxRecDepth 100000 in
theorem trieOrder_walk (w : World) (v : Value) (l : List Nt) (a : Nat) (hl : l.length * 16 ≤ 140737488355328) (ha : a < 4294967296) (h : Arg w v l) (hok : ∀ x ∈ l, x.1 < 4294967296) (he : ErrType w) :
    Calls Tryd.prog 5 #[v, .int .u32 a] w fun e w' => e = .returned (.bool true) ∧ Below w.heap.size w w' := by
  obtain ⟨p, c, rfl, h⟩ := h
  have HA := Lib.hid h; have HOK := Lib.hid hok; have HE := Lib.hid he
  clear h hok he
  go_enter Tryd.func5, Tryd.ntmps5
  go_wp2_with fail
  refine (new_tab w).mono ?_
  rintro e w1 ⟨rfl, T1, b1⟩
  have HT1 := Lib.hid T1; have HB1 := Lib.hid b1
  clear T1 b1
  go_wp2_with fail
  refine (new_tab w1).mono ?_
  rintro e w2 ⟨rfl, T2, b2⟩
  have HS2 := Lib.hid (HT1.out.below b2); have HT2 := Lib.hid T2; have HB2 := Lib.hid (Below.two HB1.out b2); have hs12 : w.heap.size < w1.heap.size := HT1.out.lt _ rfl
  clear T2 b2
  go_wp2_with fail
  refine (put_any w2 _ w.heap.size _ [] ((0, 0) : Nt) 3 (by decide) HS2.out).mono ?_
  rintro e w3 ⟨rfl, ⟨L3, T3⟩, K3⟩
  rw [put_zero0, errV_zero]
  have hF : putF (fun _ => none) [] ((0, 0) : Nt) 3 = setF (fun _ => none) ((0, 0) : Nt) (some 3) := if_pos put_zero0
  rw [hF] at T3
  have HS3 := Lib.hid T3; have HT3 := Lib.hid (HT2.out.keep K3 (fun b h1 h2 => by omega)); have HB3 := Lib.hid (HB2.out.trans (K3.below (fun b hb => by omega) HB2.out.size))
  have HD3 : Hid (∀ b, plus (fun b => b = w.heap.size) w2 w3 b → ¬ b = w1.heap.size) := Lib.hid (by
    intro b hb
    have := HT2.out.lt _ rfl
    rcases hb with hb | hb <;> omega)
  have HG3 := Lib.hid (show ∀ b, plus (fun b => b = w.heap.size) w2 w3 b → w.heap.size ≤ b from plus_ge (fun b hb => by omega) HB2.out.size)
  clear T3 K3 hF
  go_wp2_with fail
  refine (drop_any w3 _ w.heap.size _ L3 ((0, 0) : Nt) (by decide) HS3.out).mono ?_
  rintro e w4 ⟨rfl, ⟨L4, T4⟩, K4⟩
  rw [get_zero, errV_zero]
  have HS4 := Lib.hid T4; have HT4 := Lib.hid (HT3.out.keep K4 (fun b h1 h2 => HD3.out b h2 h1)); have HB4 := Lib.hid (HB3.out.trans (K4.below HG3.out HB3.out.size))
  have HP4 := Lib.hid (show Puts l [] (dropF (setF (fun _ => none) ((0, 0) : Nt) (some 3)) ((0, 0) : Nt)) from fun n => by rw [put_drop_none n]; simp)
  have HQ4 := Lib.hid (show Puts l [] (fun _ => none) from fun n => by simp)
  clear T4 K4 HS3 HT3 HB3 HS2 HT2 HB2 HT1 HB1
  generalize plus (fun b => b = w.heap.size) w2 w3 = S4 at *
  generalize dropF (setF (fun _ => none) ((0, 0) : Nt) (some 3)) ((0, 0) : Nt) = f4 at *
  by_cases h64 : 64 < l.length
  · have t64 : (64 : Int) < (l.length : Int) := by omega
    go_wp2_with fail
    go_ret
    exact ⟨by simp, HB4.out⟩
  · have t64 : ¬ (64 : Int) < (l.length : Int) := by omega
    go_wp2_with fail
    go_loopw [7] (fun s7 wr => ∃ (k : Nat) (S S' : Nat → Prop) (fs ft : Nt → Option Int) (Ls Lt : List Nt), s7 = .int .i64 k ∧ k ≤ l.length ∧ Hid (Tab wr S w.heap.size fs Ls) ∧ Hid (Tab wr S' w1.heap.size ft Lt) ∧ Hid (∀ b, S b → ¬ S' b) ∧ Hid (∀ b, S b → w.heap.size ≤ b) ∧ Hid (∀ b, S' b → w.heap.size ≤ b) ∧ Hid (Puts l (l.take k) fs) ∧ Hid (Puts l (l.drop (l.length - k)) ft) ∧ Hid (Below w.heap.size w wr)) (fun s7 _ => l.length - (RowKit.intOf s7).toNat)
    case atStart => exact ⟨0, S4, _, f4, _, L4, [], rfl, Nat.zero_le _, HS4, HT4, HD3, HG3, Lib.hid fun b hb => by omega, Lib.hid (HP4.out.congr (by simp)), Lib.hid (HQ4.out.congr (by simp)), HB4⟩
    case round =>
      clear HS4 HT4 HD3 HG3 HP4 HQ4 HB4
      obtain ⟨k, S, S', fs, ft, Ls, Lt, rfl, hk, Ts, Tt, HD, HS, HS', HP, HQ, HB⟩ := hrel
      by_cases hkn : k < l.length
      · obtain ⟨b, off, hp, hlt, hs⟩ : ∃ b off, p = some ⟨b, off, none⟩ ∧ b < w.heap.size ∧ Seen w b off l := by
          rcases HA.out with h | h
          · rw [h] at hkn; simp at hkn
          · exact h
        subst hp
        obtain ⟨j, hj⟩ : ∃ j : Nat, j = l.length - 1 - k := ⟨_, rfl⟩
        have hjn : j < l.length := by omega
        have hji : (l.length : Int) - 1 - (k : Int) = (j : Int) := by omega
        have HSN := Lib.hid hs
        obtain ⟨m, hm⟩ : ∃ m, l[k]! = m := ⟨_, rfl⟩
        obtain ⟨y, hy⟩ : ∃ y, l[j]! = y := ⟨_, rfl⟩
        have hmin : m ∈ l := by rw [← hm, getElem!_pos l k hkn]; exact List.getElem_mem hkn
        have hyin : y ∈ l := by rw [← hy, getElem!_pos l j hjn]; exact List.getElem_mem hjn
        have hxm : m.1 < 4294967296 := HOK.out _ hmin
        have hxy : y.1 < 4294967296 := HOK.out _ hyin
        have s0 : wr.cell? ⟨b, off + k * 2, none⟩ = some (.int .u32 (m.1 : Int)) := by have := (hs.below HB.out hlt).c0 k hkn; rwa [hm] at this
        have s1 : wr.cell? ⟨b, off + k * 2 + 1, none⟩ = some (.int .i64 m.2) := by have := (hs.below HB.out hlt).c1 k hkn; rwa [hm] at this
        have Hm := Lib.hid hm; have Hy := Lib.hid hy; have HMI := Lib.hid hmin; have HYI := Lib.hid hyin; have HJ := Lib.hid hj
        have HPs := Lib.hid (show Puts l (l.take (k + 1)) (putF fs Ls m (plc l m)) from (Puts.step Ts.out (by omega) (fun n hn => List.mem_of_mem_take hn) hmin HP.out).congr fun n => by
          have e : l.take (k + 1) = l.take k ++ [m] := by
            rw [List.take_add_one, List.getElem?_eq_getElem hkn, ← hm, getElem!_pos l k hkn]; rfl
          rw [e]; simp [or_comm])
        have HPt := Lib.hid (show Puts l (l.drop (l.length - (k + 1))) (putF ft Lt y (plc l y)) from (Puts.step Tt.out (by omega) (fun n hn => List.mem_of_mem_drop hn) hyin HQ.out).congr fun n => by
          have e : l.drop (l.length - (k + 1)) = y :: l.drop (l.length - k) := by
            rw [show l.length - (k + 1) = j by omega, drop_at l j hjn, hy, show j + 1 = l.length - k by omega]
          rw [e])
        clear hs hm hy hmin hyin HP HQ hj
        go_wp2_with fail
        refine wp_region_held_drew (S := (fun w' => w'.cell? ⟨b, off + k * 2, none⟩ = some (.int .u32 (m.1 : Int)) ∧ w'.cell? ⟨b, off + k * 2 + 1, none⟩ = some (.int .i64 m.2))) (by kernel_rfl) ⟨s0, s1⟩ (fun hHeld => ?_)
        refine wpAnyH_take (i := 0) (oi := { dst := some 60, op := Op.move (Operand.tmp 5), type := 25, pos := "still.go:58", after := #[], guard := none }) (v := ?_) rfl (by kernel_rfl) (by kernel_rfl) (by kernel_rfl) (fun _ _ _ h => h) (Or.inl ⟨by rfl, ?_⟩) hHeld ?_
        rotate_left
        · (intro w hSw; (try dsimp only at hSw); go_simp; first | done | with_reducible rfl)
        simp only [Act.put, List.setIfInBounds_toArray, List.set_cons_zero, List.set_cons_succ]
        refine wpAnyH_take (i := 1) (oi := { dst := some 61, op := Op.move (Operand.tmp 0), type := 22, pos := "still.go:58", after := #[], guard := none }) (v := ?_) rfl (by kernel_rfl) (by kernel_rfl) (by kernel_rfl) (fun _ _ _ h => h) (Or.inl ⟨by rfl, ?_⟩) hHeld ?_
        rotate_left
        · (intro w hSw; (try dsimp only at hSw); go_simp; first | done | with_reducible rfl)
        simp only [Act.put, List.setIfInBounds_toArray, List.set_cons_zero, List.set_cons_succ]
        refine wpAnyH_take (i := 2) (oi := { dst := some 62, op := Op.move (Operand.tmp 7), type := 3, pos := "still.go:58", after := #[], guard := none }) (v := ?_) rfl (by kernel_rfl) (by kernel_rfl) (by kernel_rfl) (fun _ _ _ h => h) (Or.inl ⟨by rfl, ?_⟩) hHeld ?_
        rotate_left
        · (intro w hSw; (try dsimp only at hSw); go_simp; first | done | with_reducible rfl)
        simp only [Act.put, List.setIfInBounds_toArray, List.set_cons_zero, List.set_cons_succ]
        refine wpAnyH_take (i := 3) (oi := { dst := some 63, op := Op.indexAddr 22 (Operand.tmp 61) (Operand.tmp 62), type := 0, pos := "still.go:58", after := #[{ on := 1, ground := Ground.data }, { on := 2, ground := Ground.data }], guard := none }) (v := ?_) rfl (by kernel_rfl) (by kernel_rfl) (by kernel_rfl) (fun _ _ _ h => h) (Or.inl ⟨by rfl, ?_⟩) hHeld ?_
        rotate_left
        · (intro w hSw; (try dsimp only at hSw); go_simp; first | done | with_reducible rfl)
        simp only [Act.put, List.setIfInBounds_toArray, List.set_cons_zero, List.set_cons_succ]
        refine wpAnyH_take (i := 4) (oi := { dst := some 64, op := Op.load 32 (Operand.tmp 63), type := 32, pos := "still.go:58", after := #[{ on := 3, ground := Ground.data }], guard := none }) (v := ?_) rfl (by kernel_rfl) (by kernel_rfl) (by kernel_rfl) (fun _ _ _ h => h) (Or.inl ⟨by rfl, ?_⟩) hHeld ?_
        rotate_left
        · (intro w hSw; (try dsimp only at hSw); go_simp; first | done | with_reducible rfl)
        simp only [Act.put, List.setIfInBounds_toArray, List.set_cons_zero, List.set_cons_succ]
        refine wpAnyH_take (i := 5) (oi := { dst := some 65, op := Op.move (Operand.tmp 0), type := 22, pos := "still.go:58", after := #[], guard := none }) (v := ?_) rfl (by kernel_rfl) (by kernel_rfl) (by kernel_rfl) (fun _ _ _ h => h) (Or.inl ⟨by rfl, ?_⟩) hHeld ?_
        rotate_left
        · (intro w hSw; (try dsimp only at hSw); go_simp; first | done | with_reducible rfl)
        simp only [Act.put, List.setIfInBounds_toArray, List.set_cons_zero, List.set_cons_succ]
        refine wpAnyH_take (i := 6) (oi := { dst := some 66, op := Op.move (Operand.tmp 0), type := 22, pos := "still.go:58", after := #[], guard := none }) (v := ?_) rfl (by kernel_rfl) (by kernel_rfl) (by kernel_rfl) (fun _ _ _ h => h) (Or.inl ⟨by rfl, ?_⟩) hHeld ?_
        rotate_left
        · (intro w hSw; (try dsimp only at hSw); go_simp; first | done | with_reducible rfl)
        simp only [Act.put, List.setIfInBounds_toArray, List.set_cons_zero, List.set_cons_succ]
        refine wpAnyH_take (i := 7) (oi := { dst := some 67, op := Op.move (Operand.tmp 7), type := 3, pos := "still.go:58", after := #[], guard := none }) (v := ?_) rfl (by kernel_rfl) (by kernel_rfl) (by kernel_rfl) (fun _ _ _ h => h) (Or.inl ⟨by rfl, ?_⟩) hHeld ?_
        rotate_left
        · (intro w hSw; (try dsimp only at hSw); go_simp; first | done | with_reducible rfl)
        simp only [Act.put, List.setIfInBounds_toArray, List.set_cons_zero, List.set_cons_succ]
        refine wpAnyH_take (i := 8) (oi := { dst := some 68, op := Op.indexAddr 22 (Operand.tmp 66) (Operand.tmp 67), type := 0, pos := "still.go:58", after := #[{ on := 6, ground := Ground.data }, { on := 7, ground := Ground.data }], guard := none }) (v := ?_) rfl (by kernel_rfl) (by kernel_rfl) (by kernel_rfl) (fun _ _ _ h => h) (Or.inl ⟨by rfl, ?_⟩) hHeld ?_
        rotate_left
        · (intro w hSw; (try dsimp only at hSw); go_simp; first | done | with_reducible rfl)
        simp only [Act.put, List.setIfInBounds_toArray, List.set_cons_zero, List.set_cons_succ]
        refine wpAnyH_take (i := 9) (oi := { dst := some 69, op := Op.load 32 (Operand.tmp 68), type := 32, pos := "still.go:58", after := #[{ on := 8, ground := Ground.data }], guard := none }) (v := ?_) rfl (by kernel_rfl) (by kernel_rfl) (by kernel_rfl) (fun _ _ _ h => h) (Or.inl ⟨by rfl, ?_⟩) hHeld ?_
        rotate_left
        · (intro w hSw; (try dsimp only at hSw); go_simp; first | done | with_reducible rfl)
        simp only [Act.put, List.setIfInBounds_toArray, List.set_cons_zero, List.set_cons_succ]
        refine wpAnyH_ready (rs := [10]) (by kernel_rfl) (by simp) ?_
        refine AllReadyH.cons (o := { dst := some 70, op := Op.call { callee := Callee.value (Operand.func 9), args := #[Operand.tmp 65, Operand.tmp 69], argTypes := #[22, 32] }, type := 3, pos := "still.go:58", after := #[{ on := 5, ground := Ground.data }, { on := 9, ground := Ground.data }], guard := none }) rfl (fun K hK => ?_) AllReadyH.nil
        go_simp
        go_at_call 9
        refine (places_some wr.drew b off c l m (by omega) (Nat.lt_of_lt_of_le hlt (HB.out.size)) (HSN.out.below HB.out.drew hlt)).mono ?_
        rintro e wra ⟨rfl, ba⟩
        have HBa := Lib.hid ((HB.out.drew).trans (ba.mono HB.out.size))
        have Tsa := Lib.hid ((Ts.out.below ((Below.refl _ _).drew)).below ba); have Tta := Lib.hid ((Tt.out.below ((Below.refl _ _).drew)).below ba)
        have KK0 : wra.cell? ⟨b, off + k * 2, none⟩ = some (.int .u32 (m.1 : Int)) ∧ wra.cell? ⟨b, off + k * 2 + 1, none⟩ = some (.int .i64 m.2) := by
          have sw := HSN.out.below HBa.out hlt
          have e0 := sw.c0 k (by omega)
          have e1 := sw.c1 k (by omega)
          rw [Hm.out] at e0 e1
          exact ⟨e0, e1⟩
        clear hHeld ba
        go_wp2_with fail
        refine hK.out _ _ KK0 (fun hHeld => ?_)
        clear hK K
        refine wpAnyH_ready (rs := [11]) (by kernel_rfl) (by simp) ?_
        refine AllReadyH.cons (o := { dst := some 71, op := Op.call { callee := Callee.value (Operand.func 13), args := #[Operand.tmp 60, Operand.tmp 64, Operand.tmp 70], argTypes := #[25, 32, 3] }, type := 35, pos := "still.go:58", after := #[{ on := 0, ground := Ground.data }, { on := 4, ground := Ground.data }, { on := 10, ground := Ground.data }, { on := 10, ground := Ground.chain }], guard := none }) rfl (fun K hK => ?_) AllReadyH.nil
        go_simp
        go_at_call 13
        refine (put_any wra S w.heap.size fs Ls m (plc l m) hxm Tsa.out).mono ?_
        rintro e wrb ⟨rfl, ⟨L5, T5⟩, K5⟩
        have HBb := Lib.hid (HBa.out.trans (K5.below HS.out HBa.out.size))
        have HT5 := Lib.hid T5; have Ttb := Lib.hid (Tta.out.keep K5 (fun b h1 h2 => HD.out b h2 h1))
        have KK1 : wrb.cell? ⟨b, off + k * 2, none⟩ = some (.int .u32 (m.1 : Int)) ∧ wrb.cell? ⟨b, off + k * 2 + 1, none⟩ = some (.int .i64 m.2) := by
          have sw := HSN.out.below HBb.out hlt
          have e0 := sw.c0 k (by omega)
          have e1 := sw.c1 k (by omega)
          rw [Hm.out] at e0 e1
          exact ⟨e0, e1⟩
        clear hHeld T5 K5
        go_wp2_with fail
        refine hK.out _ _ KK1 (fun hHeld => ?_)
        clear hK K
        refine wpAnyH_done (by kernel_rfl) ?_ _
        clear hHeld s0 s1
        have HDs := Lib.hid (show ∀ b, plus S wra wrb b → ¬ S' b from fun b h1 h2 => by
          rcases h1 with h1 | h1
          · exact HD.out b h1 h2
          · have := Tta.out.lt b h2; omega)
        have HSs := Lib.hid (show ∀ b, plus S wra wrb b → w.heap.size ≤ b from plus_ge HS.out HBa.out.size)
        have s0 : wrb.cell? ⟨b, off + j * 2, none⟩ = some (.int .u32 (y.1 : Int)) := by have := (HSN.out.below HBb.out hlt).c0 j hjn; rwa [Hy.out] at this
        have s1 : wrb.cell? ⟨b, off + j * 2 + 1, none⟩ = some (.int .i64 y.2) := by have := (HSN.out.below HBb.out hlt).c1 j hjn; rwa [Hy.out] at this
        go_wp2_with fail
        refine wp_region_held_drew (S := (fun w' => w'.cell? ⟨b, off + j * 2, none⟩ = some (.int .u32 (y.1 : Int)) ∧ w'.cell? ⟨b, off + j * 2 + 1, none⟩ = some (.int .i64 y.2))) (by kernel_rfl) ⟨s0, s1⟩ (fun hHeld => ?_)
        refine wpAnyH_take (i := 0) (oi := { dst := some 72, op := Op.move (Operand.tmp 6), type := 25, pos := "still.go:59", after := #[], guard := none }) (v := ?_) rfl (by kernel_rfl) (by kernel_rfl) (by kernel_rfl) (fun _ _ _ h => h) (Or.inl ⟨by rfl, ?_⟩) hHeld ?_
        rotate_left
        · (intro w hSw; (try dsimp only at hSw); go_simp; first | done | with_reducible rfl)
        simp only [Act.put, List.setIfInBounds_toArray, List.set_cons_zero, List.set_cons_succ]
        refine wpAnyH_take (i := 1) (oi := { dst := some 73, op := Op.move (Operand.tmp 0), type := 22, pos := "still.go:59", after := #[], guard := none }) (v := ?_) rfl (by kernel_rfl) (by kernel_rfl) (by kernel_rfl) (fun _ _ _ h => h) (Or.inl ⟨by rfl, ?_⟩) hHeld ?_
        rotate_left
        · (intro w hSw; (try dsimp only at hSw); go_simp; first | done | with_reducible rfl)
        simp only [Act.put, List.setIfInBounds_toArray, List.set_cons_zero, List.set_cons_succ]
        refine wpAnyH_take (i := 2) (oi := { dst := some 74, op := Op.move (Operand.tmp 8), type := 3, pos := "still.go:59", after := #[], guard := none }) (v := ?_) rfl (by kernel_rfl) (by kernel_rfl) (by kernel_rfl) (fun _ _ _ h => h) (Or.inl ⟨by rfl, ?_⟩) hHeld ?_
        rotate_left
        · (intro w hSw; (try dsimp only at hSw); go_simp; first | done | with_reducible rfl)
        simp only [Act.put, List.setIfInBounds_toArray, List.set_cons_zero, List.set_cons_succ]
        refine wpAnyH_take (i := 3) (oi := { dst := some 75, op := Op.indexAddr 22 (Operand.tmp 73) (Operand.tmp 74), type := 0, pos := "still.go:59", after := #[{ on := 1, ground := Ground.data }, { on := 2, ground := Ground.data }], guard := none }) (v := ?_) rfl (by kernel_rfl) (by kernel_rfl) (by kernel_rfl) (fun _ _ _ h => h) (Or.inl ⟨by rfl, ?_⟩) hHeld ?_
        rotate_left
        · (intro w hSw; (try dsimp only at hSw); go_simp; first | done | with_reducible rfl)
        simp only [Act.put, List.setIfInBounds_toArray, List.set_cons_zero, List.set_cons_succ]
        refine wpAnyH_take (i := 4) (oi := { dst := some 76, op := Op.load 32 (Operand.tmp 75), type := 32, pos := "still.go:59", after := #[{ on := 3, ground := Ground.data }], guard := none }) (v := ?_) rfl (by kernel_rfl) (by kernel_rfl) (by kernel_rfl) (fun _ _ _ h => h) (Or.inl ⟨by rfl, ?_⟩) hHeld ?_
        rotate_left
        · (intro w hSw; (try dsimp only at hSw); go_simp; first | done | with_reducible rfl)
        simp only [Act.put, List.setIfInBounds_toArray, List.set_cons_zero, List.set_cons_succ]
        refine wpAnyH_take (i := 5) (oi := { dst := some 77, op := Op.move (Operand.tmp 0), type := 22, pos := "still.go:59", after := #[], guard := none }) (v := ?_) rfl (by kernel_rfl) (by kernel_rfl) (by kernel_rfl) (fun _ _ _ h => h) (Or.inl ⟨by rfl, ?_⟩) hHeld ?_
        rotate_left
        · (intro w hSw; (try dsimp only at hSw); go_simp; first | done | with_reducible rfl)
        simp only [Act.put, List.setIfInBounds_toArray, List.set_cons_zero, List.set_cons_succ]
        refine wpAnyH_take (i := 6) (oi := { dst := some 78, op := Op.move (Operand.tmp 0), type := 22, pos := "still.go:59", after := #[], guard := none }) (v := ?_) rfl (by kernel_rfl) (by kernel_rfl) (by kernel_rfl) (fun _ _ _ h => h) (Or.inl ⟨by rfl, ?_⟩) hHeld ?_
        rotate_left
        · (intro w hSw; (try dsimp only at hSw); go_simp; first | done | with_reducible rfl)
        simp only [Act.put, List.setIfInBounds_toArray, List.set_cons_zero, List.set_cons_succ]
        refine wpAnyH_take (i := 7) (oi := { dst := some 79, op := Op.move (Operand.tmp 8), type := 3, pos := "still.go:59", after := #[], guard := none }) (v := ?_) rfl (by kernel_rfl) (by kernel_rfl) (by kernel_rfl) (fun _ _ _ h => h) (Or.inl ⟨by rfl, ?_⟩) hHeld ?_
        rotate_left
        · (intro w hSw; (try dsimp only at hSw); go_simp; first | done | with_reducible rfl)
        simp only [Act.put, List.setIfInBounds_toArray, List.set_cons_zero, List.set_cons_succ]
        refine wpAnyH_take (i := 8) (oi := { dst := some 80, op := Op.indexAddr 22 (Operand.tmp 78) (Operand.tmp 79), type := 0, pos := "still.go:59", after := #[{ on := 6, ground := Ground.data }, { on := 7, ground := Ground.data }], guard := none }) (v := ?_) rfl (by kernel_rfl) (by kernel_rfl) (by kernel_rfl) (fun _ _ _ h => h) (Or.inl ⟨by rfl, ?_⟩) hHeld ?_
        rotate_left
        · (intro w hSw; (try dsimp only at hSw); go_simp; first | done | with_reducible rfl)
        simp only [Act.put, List.setIfInBounds_toArray, List.set_cons_zero, List.set_cons_succ]
        refine wpAnyH_take (i := 9) (oi := { dst := some 81, op := Op.load 32 (Operand.tmp 80), type := 32, pos := "still.go:59", after := #[{ on := 8, ground := Ground.data }], guard := none }) (v := ?_) rfl (by kernel_rfl) (by kernel_rfl) (by kernel_rfl) (fun _ _ _ h => h) (Or.inl ⟨by rfl, ?_⟩) hHeld ?_
        rotate_left
        · (intro w hSw; (try dsimp only at hSw); go_simp; first | done | with_reducible rfl)
        simp only [Act.put, List.setIfInBounds_toArray, List.set_cons_zero, List.set_cons_succ]
        refine wpAnyH_ready (rs := [10]) (by kernel_rfl) (by simp) ?_
        refine AllReadyH.cons (o := { dst := some 82, op := Op.call { callee := Callee.value (Operand.func 9), args := #[Operand.tmp 77, Operand.tmp 81], argTypes := #[22, 32] }, type := 3, pos := "still.go:59", after := #[{ on := 5, ground := Ground.data }, { on := 9, ground := Ground.data }], guard := none }) rfl (fun K hK => ?_) AllReadyH.nil
        go_simp
        go_at_call 9
        refine (places_some wrb.drew b off c l y (by omega) (Nat.lt_of_lt_of_le hlt (HBb.out.size)) (HSN.out.below HBb.out.drew hlt)).mono ?_
        rintro e wrba ⟨rfl, ba⟩
        have HBba := Lib.hid ((HBb.out.drew).trans (ba.mono HBb.out.size))
        have Ttba := Lib.hid ((Ttb.out.below ((Below.refl _ _).drew)).below ba); have HT5a := Lib.hid ((HT5.out.below ((Below.refl _ _).drew)).below ba)
        have KK0 : wrba.cell? ⟨b, off + j * 2, none⟩ = some (.int .u32 (y.1 : Int)) ∧ wrba.cell? ⟨b, off + j * 2 + 1, none⟩ = some (.int .i64 y.2) := by
          have sw := HSN.out.below HBba.out hlt
          have e0 := sw.c0 j (by omega)
          have e1 := sw.c1 j (by omega)
          rw [Hy.out] at e0 e1
          exact ⟨e0, e1⟩
        clear hHeld ba
        go_wp2_with fail
        refine hK.out _ _ KK0 (fun hHeld => ?_)
        clear hK K
        refine wpAnyH_ready (rs := [11]) (by kernel_rfl) (by simp) ?_
        refine AllReadyH.cons (o := { dst := some 83, op := Op.call { callee := Callee.value (Operand.func 13), args := #[Operand.tmp 72, Operand.tmp 76, Operand.tmp 82], argTypes := #[25, 32, 3] }, type := 35, pos := "still.go:59", after := #[{ on := 0, ground := Ground.data }, { on := 4, ground := Ground.data }, { on := 10, ground := Ground.data }, { on := 10, ground := Ground.chain }], guard := none }) rfl (fun K hK => ?_) AllReadyH.nil
        go_simp
        go_at_call 13
        refine (put_any wrba S' w1.heap.size ft Lt y (plc l y) hxy Ttba.out).mono ?_
        rintro e wrbb ⟨rfl, ⟨L6, T6⟩, K6⟩
        have HBbb := Lib.hid (HBba.out.trans (K6.below HS'.out HBba.out.size))
        have HT6 := Lib.hid T6; have HT5b := Lib.hid (HT5a.out.keep K6 (fun b h1 h2 => HDs.out b h1 h2))
        have KK1 : wrbb.cell? ⟨b, off + j * 2, none⟩ = some (.int .u32 (y.1 : Int)) ∧ wrbb.cell? ⟨b, off + j * 2 + 1, none⟩ = some (.int .i64 y.2) := by
          have sw := HSN.out.below HBbb.out hlt
          have e0 := sw.c0 j (by omega)
          have e1 := sw.c1 j (by omega)
          rw [Hy.out] at e0 e1
          exact ⟨e0, e1⟩
        clear hHeld T6 K6
        go_wp2_with fail
        refine hK.out _ _ KK1 (fun hHeld => ?_)
        clear hK K
        refine wpAnyH_done (by kernel_rfl) ?_ _
        clear hHeld s0 s1
        go_wp2_with fail
        go_roundw
        case rel =>
          refine ⟨k + 1, _, _, _, _, L5, L6, by go_num, by omega, HT5b, HT6, Lib.hid ?_, HSs, Lib.hid (plus_ge HS'.out HBba.out.size), HPs, HPt, HBbb⟩
          intro b h1 h2
          rcases h2 with h2 | h2
          · exact HDs.out b h1 h2
          · have := HT5a.out.lt b h1; omega
        case measure => simp [RowKit.intOf]; omega
      · obtain rfl : k = l.length := by omega
        have heq : ∀ n, fs n = ft n := HP.out.same HQ.out (by simp)
        have HEQ := Lib.hid heq
        clear heq HP HQ
        have hfew := Ts.out.few
        go_wp2_with fail
        refine (find_any wr S w.heap.size fs Ls a ha Ts.out).mono ?_
        rintro e w6 ⟨q, rfl, hF, b6⟩
        rw [foundV_eq]
        have HF := Lib.hid hF
        have T6 := Lib.hid (Ts.out.below b6); have U6 := Lib.hid (Tt.out.below b6); have B6 := Lib.hid (Below.two HB.out b6)
        clear hF b6
        have X6 := Box.new w6 (.int .u32 ((fN q a).1 : Int)) (.int .i64 (fN q a).2) 32
        have b7 : Below w6.heap.size w6 (w6.alloc (.cells #[.int .u32 ((fN q a).1 : Int), .int .i64 (fN q a).2] 32)) := (Below.refl _ _).alloc (Nat.le_refl _) _
        go_wp2_with fail
        generalize w6.alloc (.cells #[.int .u32 ((fN q a).1 : Int), .int .i64 (fN q a).2] 32) = w7 at *
        have T7 := Lib.hid (T6.out.below b7); have U7 := Lib.hid (U6.out.below b7); have B7 := Lib.hid (Below.two B6.out b7); have X7 := Lib.hid X6
        clear X6 b7 T6 U6 B6
        refine (find_any w7 S' w1.heap.size ft Lt a ha U7.out).mono ?_
        rintro e w8 ⟨q', rfl, hF', b8⟩
        obtain rfl : q' = q := hF'.only (fun n => (HEQ.out n).symm) HF.out
        rw [foundV_eq]
        have T8 := Lib.hid (T7.out.below b8); have U8 := Lib.hid (U7.out.below b8); have B8 := Lib.hid (Below.two B7.out b8); have X8 := Lib.hid (X7.out.kept b8)
        clear hF' b8
        have Y8 := Box.new w8 (.int .u32 ((fN q' a).1 : Int)) (.int .i64 (fN q' a).2) 32
        have b9 : Below w8.heap.size w8 (w8.alloc (.cells #[.int .u32 ((fN q' a).1 : Int), .int .i64 (fN q' a).2] 32)) := (Below.refl _ _).alloc (Nat.le_refl _) _
        go_wp2_with fail
        generalize w8.alloc (.cells #[.int .u32 ((fN q' a).1 : Int), .int .i64 (fN q' a).2] 32) = w9 at *
        have T9 := Lib.hid (T8.out.below b9); have U9 := Lib.hid (U8.out.below b9); have B9 := Lib.hid (Below.two B8.out b9); have X9 := Lib.hid (X8.out.kept b9); have Y9 := Lib.hid Y8
        clear Y8 b9 T8 U8 B8 X8
        refine (sameTold_any (fE q') (fE q') w9 (HE.out.below B9.out)).mono ?_
        rintro e w10 ⟨rfl, b10⟩
        rw [beq_self_eq_true]
        have T10 := Lib.hid (T9.out.below b10); have U10 := Lib.hid (U9.out.below b10); have B10 := Lib.hid (Below.two B9.out b10); have X10 := Lib.hid (X9.out.kept b10); have Y10 := Lib.hid (Y9.out.kept b10)
        clear b10
        go_wp2_with fail
        refine (list_any w10 S w.heap.size fs Ls T10.out).mono ?_
        rintro e w11 ⟨v11, rfl, o11, b11⟩
        have U11 := Lib.hid (U10.out.below b11); have B11 := Lib.hid (Below.two B10.out b11); have X11 := Lib.hid (X10.out.kept b11); have Y11 := Lib.hid (Y10.out.kept b11); have O11 := Lib.hid o11
        clear o11 b11
        go_wp2_with fail
        refine (list_any w11 S' w1.heap.size ft Lt U11.out).mono ?_
        rintro e w12 ⟨v12, rfl, o12, b12⟩
        have hLL : Ls = Lt := T10.out.only U11.out HEQ.out
        subst hLL
        have B12 := Lib.hid (Below.two B11.out b12); have X12 := Lib.hid (X11.out.kept b12); have Y12 := Lib.hid (Y11.out.kept b12); have O12 := Lib.hid (O11.out.keep b12); have P12 := Lib.hid o12
        clear o12 b12
        go_wp2_with fail
        refine (sameNets_any w12 v11 v12 Ls Ls (by omega) O12.out.arg P12.out.arg).mono ?_
        rintro e w13 ⟨rfl, b13⟩
        rw [decide_eq_true rfl]
        have B13 := Lib.hid (Below.two B12.out b13)
        obtain ⟨lx, x0, x1, _, _⟩ := X12.out.kept b13
        obtain ⟨ly, y0, y1, _, _⟩ := Y12.out.kept b13
        clear b13
        go_wp2_with fail
        go_ret
        exact ⟨by simp, B13.out⟩
end Go.Proofs.YtbdmfcnlfmnmdaaDoor
