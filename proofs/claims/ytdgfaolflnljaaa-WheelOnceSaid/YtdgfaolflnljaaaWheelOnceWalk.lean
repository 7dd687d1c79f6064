/-
  The law WheelOnce at every ids, times and ticks: it tells true; what lay in memory stays.
-/
import Derived.Test.YtdgfaolflnljaaaWheelFact
import Derived.Deep.RegionHeld3
import Derived.BigQuiet
namespace Go.Proofs.Ytdgfaolflnljaaa
open Go.RowKit Go.Lib WheelP

theorem zsD_len (L : List Du) : (zsD L).length = L.length := by simp [zsD]
theorem zsD_at (L : List Du) (t : Nat) (h : t < L.length) : (zsD L)[t]! = (L[t]!.1 : Int) := by
  rw [getElem!_pos _ t (by rw [zsD_len]; exact h), getElem!_pos L t h]
  simp [zsD]
theorem OwnI.stayK {w w1 : World} {S : Nat → Prop} {base : Nat} {v : Value} {l : List Int} (h : OwnI w base v l) (hk : Keep S w w1) (hs : ∀ q, base ≤ q → ¬ S q) : OwnI w1 base v l := by
  obtain ⟨h1, h2⟩ := h
  refine ⟨h1, ?_⟩
  rcases h2 with h2 | ⟨g, cap, cur, hv, hg0, hg, rest⟩
  · exact Or.inl h2
  · exact Or.inr ⟨g, cap, cur, hv, hg0, by rw [hk.block g (Array.getElem?_eq_some_iff.1 hg).1 (hs g hg0)]; exact hg, rest⟩
theorem own_at {w : World} {base n : Nat} {pl : Option Addr} {cl : Nat} {L : List Du} (h : OwnI w base (.slice pl n cl) (zsD L)) (t : Nat) (ht : t < L.length) : ∃ b off, pl = some ⟨b, off, none⟩ ∧ w.cell? ⟨b, off + t, none⟩ = some (.int .i64 (L[t]!.1 : Int)) := by
  obtain ⟨p', c', hv, h2⟩ := h.arg
  injection hv with e1 _ _
  subst e1
  rcases h2 with e | ⟨b, off, hp, _, hs⟩
  · have := congrArg List.length e
    rw [zsD_len] at this
    simp at this
    rw [this] at ht
    simp at ht
  · exact ⟨b, off, hp, by rw [hs t (by rw [zsD_len]; exact ht), zsD_at L t ht]⟩
namespace WheelP
theorem Due.at {f : Nat → Nat} {x : Nat} {L : List Du} (h : Due f x L) (t : Nat) (ht : t < L.length) : L[t]!.1 < 64 ∧ 0 < f L[t]!.1 ∧ f L[t]!.1 ≤ x ∧ L[t]!.2 = f L[t]!.1 ∧ L[t]! ∈ L := by
  have hm : L[t]! ∈ L := by rw [getElem!_pos L t ht]; exact List.getElem_mem ht
  obtain ⟨a, b, c, d⟩ := (h.mem _).1 hm
  exact ⟨a, b, c, d, hm⟩
/-- Some struck, one by one. -/
def zap (f : Nat → Nat) (L : List Du) : Nat → Nat := L.foldl (fun g p => upd g p.1 0) f
theorem zap_take (f : Nat → Nat) (L : List Du) (t : Nat) (h : t < L.length) : upd (zap f (L.take t)) L[t]!.1 0 = zap f (L.take (t + 1)) := by
  unfold zap
  rw [List.take_add_one, List.foldl_append, List.getElem?_eq_getElem h, getElem!_pos L t h]
  rfl
theorem zap_out {L : List Du} : ∀ {f : Nat → Nat} {k : Nat}, (∀ p ∈ L, p.1 ≠ k) → zap f L k = f k := by
  induction L with
  | nil => intro f k _; rfl
  | cons a r ih =>
    intro f k h
    have h2 := ih (f := upd f a.1 0) (k := k) fun p hp => h p (by simp [hp])
    have h3 : zap f (a :: r) = zap (upd f a.1 0) r := rfl
    rw [h3, h2, upd_ne _ _ _ _ (fun e => h a (by simp) e.symm)]
theorem zap_in {L : List Du} : ∀ {f : Nat → Nat} {k : Nat}, (f k = 0 ∨ ∃ p ∈ L, p.1 = k) → zap f L k = 0 := by
  induction L with
  | nil =>
    intro f k h
    rcases h with h | ⟨p, hp, _⟩
    · exact h
    · simp at hp
  | cons a r ih =>
    intro f k h
    have h3 : zap f (a :: r) = zap (upd f a.1 0) r := rfl
    rw [h3]
    refine ih ?_
    by_cases e : k = a.1
    · exact Or.inl (by rw [e, upd_at])
    · rcases h with h | ⟨p, hp, h⟩
      · exact Or.inl (by rw [upd_ne _ _ _ _ e]; exact h)
      · rcases List.mem_cons.1 hp with c | c
        · exact absurd (by rw [← h, c]) e
        · exact Or.inr ⟨p, c, h⟩
theorem zap_new {f : Nat → Nat} {x : Nat} {L : List Du} (h : Due f x L) (t : Nat) (ht : t < L.length) : zap f (L.take t) L[t]!.1 = f L[t]!.1 := by
  refine zap_out fun p hp e => ?_
  obtain ⟨i, hi, rfl⟩ := List.getElem_of_mem hp
  have hi2 : i < t := by rw [List.length_take] at hi; omega
  have hlt := List.pairwise_iff_getElem.1 h.ord i t (by omega) ht hi2
  rw [List.getElem_take] at e
  obtain ⟨_, _, _, e1⟩ := (h.mem _).1 (List.getElem_mem (show i < L.length by omega))
  obtain ⟨_, _, _, e2⟩ := (h.mem _).1 (List.getElem_mem ht)
  rw [getElem!_pos L t ht] at e
  unfold ltD at hlt
  rw [e1, e2, e] at hlt
  omega
theorem zap_all {f : Nat → Nat} {x : Nat} {L : List Du} (h : Due f x L) (k : Nat) (hk : k < 64) : zap f L k = rest f x k := by
  unfold rest
  by_cases c : f k ≤ x
  · rw [if_pos c]
    refine zap_in ?_
    by_cases c0 : f k = 0
    · exact Or.inl c0
    · exact Or.inr ⟨(k, f k), (h.mem _).2 ⟨hk, by show 0 < f k; omega, c, rfl⟩, rfl⟩
  · rw [if_neg c]
    refine zap_out fun p hp e => ?_
    obtain ⟨_, _, a3, _⟩ := (h.mem p).1 hp
    rw [e] at a3
    exact c a3
end WheelP

set_option maxHeartbeats 8000000 in
set_option maxRecDepth 100000 in
theorem wheelOnce_walk (w : World) (v1 v2 v3 : Value) (l1 l2 l3 : List Int) (a1 : ArgI w v1 l1) (a2 : ArgI w v2 l2) (a3 : ArgI w v3 l3) (hlen : l1.length * 8 ≤ 140737488355328) (hlen3 : l3.length * 8 ≤ 140737488355328) :
    Calls Try.prog 3 #[v1, v2, v3] w fun e w' => e = .returned (.bool true) ∧ Below w.heap.size w w' := by
  obtain ⟨p1, c1, rfl, a1⟩ := a1
  obtain ⟨p2, c2, rfl, a2⟩ := a2
  obtain ⟨p3, c3, rfl, a3⟩ := a3
  have H1 : Hid (∀ i, i < l1.length → ∃ b off, p1 = some ⟨b, off, none⟩ ∧ b < w.heap.size ∧ SeenI w b off l1) := Lib.hid (by
    intro i hi
    rcases a1 with rfl | h
    · simp at hi
    · exact h)
  have H2 : Hid (∀ i, i < l2.length → ∃ b off, p2 = some ⟨b, off, none⟩ ∧ b < w.heap.size ∧ SeenI w b off l2) := Lib.hid (by
    intro i hi
    rcases a2 with rfl | h
    · simp at hi
    · exact h)
  have H3 : Hid (∀ i, i < l3.length → ∃ b off, p3 = some ⟨b, off, none⟩ ∧ b < w.heap.size ∧ SeenI w b off l3) := Lib.hid (by
    intro i hi
    rcases a3 with rfl | h
    · simp at hi
    · exact h)
  clear a1 a2 a3
  obtain ⟨n1, hn1⟩ : ∃ n1, l1.length = n1 := ⟨_, rfl⟩
  obtain ⟨n2, hn2⟩ : ∃ n2, l2.length = n2 := ⟨_, rfl⟩
  obtain ⟨n3, hn3⟩ : ∃ n3, l3.length = n3 := ⟨_, rfl⟩
  rw [hn1] at H1 hlen ⊢
  rw [hn2] at H2 ⊢
  rw [hn3] at H3 hlen3 ⊢
  have HL1 := Lib.hid hn1
  have HL2 := Lib.hid hn2
  have HL3 := Lib.hid hn3
  clear hn1 hn2 hn3
  go_enter Try.func3, Try.ntmps3
  go_wp2_with fail
  refine (wheeled_any w).mono ?_
  rintro e w1 ⟨rfl, hb1⟩
  have HN := Lib.hid (new_one w w1 hb1)
  clear hb1
  go_wp2_with fail
  refine HN.out.mono ?_
  rintro e w2 ⟨rfl, h2⟩
  have HO := Lib.hid h2
  clear h2 HN
  generalize w1.heap.size = p at HO ⊢
  go_wp2_with fail
  refine (repeat64_any w2).mono ?_
  rintro e w3 ⟨u, rfl, hu, hb3⟩
  obtain ⟨c, cap, rfl, hrow⟩ := row_made HO.out hu hb3
  have HR0 := Lib.hid hrow
  clear hu hb3 hrow HO
  go_wp2_with fail
  go_loopw [10] (fun v10 wr => ∃ k : Nat, v10 = .int .i64 k ∧ k ≤ n1 ∧ ∃ f, Hid (RowW w wr p 0 f c f)) (fun v10 _ => n1 + 1 - (intOf v10).toNat)
  case atStart => exact ⟨0, rfl, Nat.zero_le _, _, HR0⟩
  case round =>
    clear HR0
    obtain ⟨k, rfl, hk, f, HR⟩ := hrel
    by_cases t1 : k < n1
    · have u1 : (k : Int) < (n1 : Int) := by omega
      by_cases t2 : k < n2
      · have u2 : (k : Int) < (n2 : Int) := by omega
        obtain ⟨b1, o1, rfl, hb1, hs1⟩ := H1.out k t1
        obtain ⟨b2, o2, rfl, hb2, hs2⟩ := H2.out k t2
        have HS := Lib.hid (fun V (hb : Below w.heap.size w V) => And.intro ((hs1.below hb hb1) k (by rw [HL1.out]; exact t1)) ((hs2.below hb hb2) k (by rw [HL2.out]; exact t2)))
        obtain ⟨s1, s2⟩ := HS.out wr HR.out.bel
        clear hs1 hs2 hb1 hb2
        generalize l1[k]! = i at s1 s2 HS
        generalize l2[k]! = x at s1 s2 HS
        by_cases hok : okS 0 i x
        · obtain ⟨a, rfl⟩ : ∃ a : Nat, i = a := ⟨i.toNat, by have := hok.1; omega⟩
          obtain ⟨z, rfl⟩ : ∃ z : Nat, x = z := ⟨x.toNat, by have := hok.2.2.1; omega⟩
          have ha : a < 64 := by have := hok.2.1; omega
          have ha2 : (a : Int) < 64 := by omega
          go_wp2_with fail
          refine wp_region_held_drew (S := (fun V => V.cell? ⟨b1, o1 + k, none⟩ = some (.int .i64 (a : Int)) ∧ V.cell? ⟨b2, o2 + k, none⟩ = some (.int .i64 (z : Int)))) (by kernel_rfl) ⟨s1, s2⟩ (fun hHeld => ?_)
          refine wpAnyH_take (i := 0) (oi := { dst := some 38, op := Op.move (Operand.tmp 8), type := 24, pos := "ways.go:785", after := #[], guard := none }) (v := ?_) rfl (by kernel_rfl) (by kernel_rfl) (by kernel_rfl) (fun _ _ _ h => h) (Or.inl ⟨by rfl, ?_⟩) hHeld ?_
          rotate_left
          · (intro w hSw; (try dsimp only at hSw); go_simp; first | done | with_reducible rfl)
          simp only [Act.put, List.setIfInBounds_toArray, List.set_cons_zero, List.set_cons_succ]
          refine wpAnyH_take (i := 1) (oi := { dst := some 39, op := Op.move (Operand.tmp 0), type := 22, pos := "ways.go:785", after := #[], guard := none }) (v := ?_) rfl (by kernel_rfl) (by kernel_rfl) (by kernel_rfl) (fun _ _ _ h => h) (Or.inl ⟨by rfl, ?_⟩) hHeld ?_
          rotate_left
          · (intro w hSw; (try dsimp only at hSw); go_simp; first | done | with_reducible rfl)
          simp only [Act.put, List.setIfInBounds_toArray, List.set_cons_zero, List.set_cons_succ]
          refine wpAnyH_take (i := 2) (oi := { dst := some 40, op := Op.move (Operand.tmp 10), type := 3, pos := "ways.go:785", after := #[], guard := none }) (v := ?_) rfl (by kernel_rfl) (by kernel_rfl) (by kernel_rfl) (fun _ _ _ h => h) (Or.inl ⟨by rfl, ?_⟩) hHeld ?_
          rotate_left
          · (intro w hSw; (try dsimp only at hSw); go_simp; first | done | with_reducible rfl)
          simp only [Act.put, List.setIfInBounds_toArray, List.set_cons_zero, List.set_cons_succ]
          refine wpAnyH_take (i := 3) (oi := { dst := some 41, op := Op.indexAddr 22 (Operand.tmp 39) (Operand.tmp 40), type := 0, pos := "ways.go:785", after := #[{ on := 1, ground := Ground.data }, { on := 2, ground := Ground.data }], guard := none }) (v := ?_) rfl (by kernel_rfl) (by kernel_rfl) (by kernel_rfl) (fun _ _ _ h => h) (Or.inl ⟨by rfl, ?_⟩) hHeld ?_
          rotate_left
          · (intro w hSw; (try dsimp only at hSw); go_simp; first | done | with_reducible rfl)
          simp only [Act.put, List.setIfInBounds_toArray, List.set_cons_zero, List.set_cons_succ]
          refine wpAnyH_take (i := 4) (oi := { dst := some 42, op := Op.load 3 (Operand.tmp 41), type := 3, pos := "ways.go:785", after := #[{ on := 3, ground := Ground.data }], guard := none }) (v := ?_) rfl (by kernel_rfl) (by kernel_rfl) (by kernel_rfl) (fun _ _ _ h => h) (Or.inl ⟨by rfl, ?_⟩) hHeld ?_
          rotate_left
          · (intro w hSw; (try dsimp only at hSw); go_simp; first | done | with_reducible rfl)
          simp only [Act.put, List.setIfInBounds_toArray, List.set_cons_zero, List.set_cons_succ]
          refine wpAnyH_take (i := 5) (oi := { dst := some 43, op := Op.move (Operand.tmp 1), type := 22, pos := "ways.go:785", after := #[], guard := none }) (v := ?_) rfl (by kernel_rfl) (by kernel_rfl) (by kernel_rfl) (fun _ _ _ h => h) (Or.inl ⟨by rfl, ?_⟩) hHeld ?_
          rotate_left
          · (intro w hSw; (try dsimp only at hSw); go_simp; first | done | with_reducible rfl)
          simp only [Act.put, List.setIfInBounds_toArray, List.set_cons_zero, List.set_cons_succ]
          refine wpAnyH_take (i := 6) (oi := { dst := some 44, op := Op.move (Operand.tmp 10), type := 3, pos := "ways.go:785", after := #[], guard := none }) (v := ?_) rfl (by kernel_rfl) (by kernel_rfl) (by kernel_rfl) (fun _ _ _ h => h) (Or.inl ⟨by rfl, ?_⟩) hHeld ?_
          rotate_left
          · (intro w hSw; (try dsimp only at hSw); go_simp; first | done | with_reducible rfl)
          simp only [Act.put, List.setIfInBounds_toArray, List.set_cons_zero, List.set_cons_succ]
          refine wpAnyH_take (i := 7) (oi := { dst := some 45, op := Op.indexAddr 22 (Operand.tmp 43) (Operand.tmp 44), type := 0, pos := "ways.go:785", after := #[{ on := 5, ground := Ground.data }, { on := 6, ground := Ground.data }], guard := none }) (v := ?_) rfl (by kernel_rfl) (by kernel_rfl) (by kernel_rfl) (fun _ _ _ h => h) (Or.inl ⟨by rfl, ?_⟩) hHeld ?_
          rotate_left
          · (intro w hSw; (try dsimp only at hSw); go_simp; first | done | with_reducible rfl)
          simp only [Act.put, List.setIfInBounds_toArray, List.set_cons_zero, List.set_cons_succ]
          refine wpAnyH_take (i := 8) (oi := { dst := some 46, op := Op.load 3 (Operand.tmp 45), type := 3, pos := "ways.go:785", after := #[{ on := 7, ground := Ground.data }], guard := none }) (v := ?_) rfl (by kernel_rfl) (by kernel_rfl) (by kernel_rfl) (fun _ _ _ h => h) (Or.inl ⟨by rfl, ?_⟩) hHeld ?_
          rotate_left
          · (intro w hSw; (try dsimp only at hSw); go_simp; first | done | with_reducible rfl)
          simp only [Act.put, List.setIfInBounds_toArray, List.set_cons_zero, List.set_cons_succ]
          refine wpAnyH_ready (rs := [9]) (by kernel_rfl) (by simp) ?_
          refine AllReadyH.cons (o := { dst := some 47, op := Op.call { callee := Callee.value (Operand.func 8), args := #[Operand.tmp 38, Operand.tmp 42, Operand.tmp 46], argTypes := #[24, 3, 3] }, type := 28, pos := "ways.go:785", after := #[{ on := 0, ground := Ground.data }, { on := 4, ground := Ground.data }, { on := 8, ground := Ground.data }], guard := none }) rfl (fun K hK => ?_) AllReadyH.nil
          go_simp
          go_at_call 8
          obtain ⟨ma, hwa, hsa⟩ := (HR.out.below (Below.refl _ wr).drew).step
          refine (set_stp hwa a z).mono ?_
          rintro e wa ⟨rfl, sta⟩
          have hta := hsa _ _ _ sta
          rw [putW_yes _ _ _ _ hok] at hta
          have HRa := Lib.hid hta
          have KK0 := HS.out wa hta.bel
          clear hHeld hta sta hsa hwa HR
          rw [show setV 0 a z = .nilIface from if_pos hok]
          go_wp2_with fail
          refine hK.out _ _ KK0 (fun hHeld => ?_)
          clear hK K
          refine wpAnyH_take (i := 10) (oi := { dst := some 48, op := Op.binOp BinOp.eql 28 (Operand.tmp 47) (Operand.const Value.nilIface) 28, type := 4, pos := "ways.go:785", after := #[{ on := 9, ground := Ground.data }], guard := none }) (v := ?_) rfl (by kernel_rfl) (by kernel_rfl) (by kernel_rfl) (fun _ _ _ h => h) (Or.inl ⟨by rfl, ?_⟩) hHeld ?_
          rotate_left
          · (intro w hSw; (try dsimp only at hSw); go_simp; first | done | with_reducible rfl)
          simp only [Act.put, List.setIfInBounds_toArray, List.set_cons_zero, List.set_cons_succ]
          refine wpAnyH_done (by kernel_rfl) ?_ _
          clear s1 s2 hHeld hok
          obtain ⟨s1, s2⟩ := HS.out wa HRa.out.bel
          have cv := HRa.out.vec.c a ha
          have fv := HRa.out.vec.f a
          have HP := Lib.hid ((HRa.out.below (Below.refl _ wa).drew).put a z)
          clear HRa
          go_wp2_with fail
          go_region
          go_wp2_with fail
          go_roundw
          case rel => exact ⟨k + 1, by go_num, by omega, _, HP⟩
          case measure => simp [intOf]; omega
        · go_wp2_with fail
          refine wp_region_held_drew (S := (fun V => V.cell? ⟨b1, o1 + k, none⟩ = some (.int .i64 i) ∧ V.cell? ⟨b2, o2 + k, none⟩ = some (.int .i64 x))) (by kernel_rfl) ⟨s1, s2⟩ (fun hHeld => ?_)
          refine wpAnyH_take (i := 0) (oi := { dst := some 38, op := Op.move (Operand.tmp 8), type := 24, pos := "ways.go:785", after := #[], guard := none }) (v := ?_) rfl (by kernel_rfl) (by kernel_rfl) (by kernel_rfl) (fun _ _ _ h => h) (Or.inl ⟨by rfl, ?_⟩) hHeld ?_
          rotate_left
          · (intro w hSw; (try dsimp only at hSw); go_simp; first | done | with_reducible rfl)
          simp only [Act.put, List.setIfInBounds_toArray, List.set_cons_zero, List.set_cons_succ]
          refine wpAnyH_take (i := 1) (oi := { dst := some 39, op := Op.move (Operand.tmp 0), type := 22, pos := "ways.go:785", after := #[], guard := none }) (v := ?_) rfl (by kernel_rfl) (by kernel_rfl) (by kernel_rfl) (fun _ _ _ h => h) (Or.inl ⟨by rfl, ?_⟩) hHeld ?_
          rotate_left
          · (intro w hSw; (try dsimp only at hSw); go_simp; first | done | with_reducible rfl)
          simp only [Act.put, List.setIfInBounds_toArray, List.set_cons_zero, List.set_cons_succ]
          refine wpAnyH_take (i := 2) (oi := { dst := some 40, op := Op.move (Operand.tmp 10), type := 3, pos := "ways.go:785", after := #[], guard := none }) (v := ?_) rfl (by kernel_rfl) (by kernel_rfl) (by kernel_rfl) (fun _ _ _ h => h) (Or.inl ⟨by rfl, ?_⟩) hHeld ?_
          rotate_left
          · (intro w hSw; (try dsimp only at hSw); go_simp; first | done | with_reducible rfl)
          simp only [Act.put, List.setIfInBounds_toArray, List.set_cons_zero, List.set_cons_succ]
          refine wpAnyH_take (i := 3) (oi := { dst := some 41, op := Op.indexAddr 22 (Operand.tmp 39) (Operand.tmp 40), type := 0, pos := "ways.go:785", after := #[{ on := 1, ground := Ground.data }, { on := 2, ground := Ground.data }], guard := none }) (v := ?_) rfl (by kernel_rfl) (by kernel_rfl) (by kernel_rfl) (fun _ _ _ h => h) (Or.inl ⟨by rfl, ?_⟩) hHeld ?_
          rotate_left
          · (intro w hSw; (try dsimp only at hSw); go_simp; first | done | with_reducible rfl)
          simp only [Act.put, List.setIfInBounds_toArray, List.set_cons_zero, List.set_cons_succ]
          refine wpAnyH_take (i := 4) (oi := { dst := some 42, op := Op.load 3 (Operand.tmp 41), type := 3, pos := "ways.go:785", after := #[{ on := 3, ground := Ground.data }], guard := none }) (v := ?_) rfl (by kernel_rfl) (by kernel_rfl) (by kernel_rfl) (fun _ _ _ h => h) (Or.inl ⟨by rfl, ?_⟩) hHeld ?_
          rotate_left
          · (intro w hSw; (try dsimp only at hSw); go_simp; first | done | with_reducible rfl)
          simp only [Act.put, List.setIfInBounds_toArray, List.set_cons_zero, List.set_cons_succ]
          refine wpAnyH_take (i := 5) (oi := { dst := some 43, op := Op.move (Operand.tmp 1), type := 22, pos := "ways.go:785", after := #[], guard := none }) (v := ?_) rfl (by kernel_rfl) (by kernel_rfl) (by kernel_rfl) (fun _ _ _ h => h) (Or.inl ⟨by rfl, ?_⟩) hHeld ?_
          rotate_left
          · (intro w hSw; (try dsimp only at hSw); go_simp; first | done | with_reducible rfl)
          simp only [Act.put, List.setIfInBounds_toArray, List.set_cons_zero, List.set_cons_succ]
          refine wpAnyH_take (i := 6) (oi := { dst := some 44, op := Op.move (Operand.tmp 10), type := 3, pos := "ways.go:785", after := #[], guard := none }) (v := ?_) rfl (by kernel_rfl) (by kernel_rfl) (by kernel_rfl) (fun _ _ _ h => h) (Or.inl ⟨by rfl, ?_⟩) hHeld ?_
          rotate_left
          · (intro w hSw; (try dsimp only at hSw); go_simp; first | done | with_reducible rfl)
          simp only [Act.put, List.setIfInBounds_toArray, List.set_cons_zero, List.set_cons_succ]
          refine wpAnyH_take (i := 7) (oi := { dst := some 45, op := Op.indexAddr 22 (Operand.tmp 43) (Operand.tmp 44), type := 0, pos := "ways.go:785", after := #[{ on := 5, ground := Ground.data }, { on := 6, ground := Ground.data }], guard := none }) (v := ?_) rfl (by kernel_rfl) (by kernel_rfl) (by kernel_rfl) (fun _ _ _ h => h) (Or.inl ⟨by rfl, ?_⟩) hHeld ?_
          rotate_left
          · (intro w hSw; (try dsimp only at hSw); go_simp; first | done | with_reducible rfl)
          simp only [Act.put, List.setIfInBounds_toArray, List.set_cons_zero, List.set_cons_succ]
          refine wpAnyH_take (i := 8) (oi := { dst := some 46, op := Op.load 3 (Operand.tmp 45), type := 3, pos := "ways.go:785", after := #[{ on := 7, ground := Ground.data }], guard := none }) (v := ?_) rfl (by kernel_rfl) (by kernel_rfl) (by kernel_rfl) (fun _ _ _ h => h) (Or.inl ⟨by rfl, ?_⟩) hHeld ?_
          rotate_left
          · (intro w hSw; (try dsimp only at hSw); go_simp; first | done | with_reducible rfl)
          simp only [Act.put, List.setIfInBounds_toArray, List.set_cons_zero, List.set_cons_succ]
          refine wpAnyH_ready (rs := [9]) (by kernel_rfl) (by simp) ?_
          refine AllReadyH.cons (o := { dst := some 47, op := Op.call { callee := Callee.value (Operand.func 8), args := #[Operand.tmp 38, Operand.tmp 42, Operand.tmp 46], argTypes := #[24, 3, 3] }, type := 28, pos := "ways.go:785", after := #[{ on := 0, ground := Ground.data }, { on := 4, ground := Ground.data }, { on := 8, ground := Ground.data }], guard := none }) rfl (fun K hK => ?_) AllReadyH.nil
          go_simp
          go_at_call 8
          obtain ⟨ma, hwa, hsa⟩ := (HR.out.below (Below.refl _ wr).drew).step
          refine (set_stp hwa i x).mono ?_
          rintro e wa ⟨rfl, sta⟩
          have hta := hsa _ _ _ sta
          rw [putW_no _ _ _ _ hok] at hta
          have HRa := Lib.hid hta
          have KK0 := HS.out wa hta.bel
          clear hHeld hta sta hsa hwa HR
          rw [show setV 0 i x = eV 1 from if_neg hok]
          go_wp2_with fail
          refine hK.out _ _ KK0 (fun hHeld => ?_)
          clear hK K
          refine wpAnyH_take (i := 10) (oi := { dst := some 48, op := Op.binOp BinOp.eql 28 (Operand.tmp 47) (Operand.const Value.nilIface) 28, type := 4, pos := "ways.go:785", after := #[{ on := 9, ground := Ground.data }], guard := none }) (v := ?_) rfl (by kernel_rfl) (by kernel_rfl) (by kernel_rfl) (fun _ _ _ h => h) (Or.inl ⟨by rfl, ?_⟩) hHeld ?_
          rotate_left
          · (intro w hSw; (try dsimp only at hSw); go_simp; first | done | with_reducible rfl)
          simp only [Act.put, List.setIfInBounds_toArray, List.set_cons_zero, List.set_cons_succ]
          refine wpAnyH_done (by kernel_rfl) ?_ _
          clear s1 s2 hHeld hok
          go_wp2_with fail
          go_roundw
          case rel => exact ⟨k + 1, by go_num, by omega, _, HRa⟩
          case measure => simp [intOf]; omega
      · have u2 : ¬ (k : Int) < (n2 : Int) := by omega
        clear H1 H2 HL1 HL2
        go_wp2_with fail
        go_loopw [11, 12] (fun v11 v12 wr => ∃ a last : Nat, v12 = .int .i64 a ∧ v11 = .int .i64 last ∧ a ≤ n3 ∧ ∃ f, Hid (RowW w wr p last f c f)) (fun _ v12 _ => n3 + 1 - (intOf v12).toNat)
        case atStart => exact ⟨0, 0, rfl, rfl, Nat.zero_le _, _, HR⟩
        case round =>
          clear HR
          obtain ⟨a, last, rfl, rfl, ha, g, HR⟩ := hrel
          by_cases t3 : a < n3
          · have u3 : (a : Int) < (n3 : Int) := by omega
            obtain ⟨b3, o3, rfl, hb3, hs3⟩ := H3.out a t3
            have HS := Lib.hid (fun V (hb : Below w.heap.size w V) => (hs3.below hb hb3) a (by rw [HL3.out]; exact t3))
            have s3 := HS.out wr HR.out.bel
            clear hs3 hb3
            generalize l3[a]! = x at s3 HS
            by_cases hok : okT last x
            · obtain ⟨z, rfl⟩ : ∃ z : Nat, x = z := ⟨x.toNat, by have := hok.1; omega⟩
              have hlz : last ≤ z := by have := hok.1; omega
              obtain ⟨m, hw, hst⟩ := HR.out.step
              have HT := Lib.hid (tick_stp hw z hok)
              have HST := Lib.hid hst
              have HCN := Lib.hid HR.out.vec.lt
              have HLate := Lib.hid HR.out.late
              clear hw hst HR hok
              go_wp2_with fail
              refine HT.out.mono ?_
              rintro e w4 ⟨v, L, rfl, hd, ho, st⟩
              have hr4 := HST.out _ _ _ st
              clear st HST HT s3
              obtain ⟨pl, cl, rfl, _⟩ := id ho.arg
              rw [zsD_len] at *
              have hLl := due_len hd
              have HD := Lib.hid hd
              obtain ⟨N, hN⟩ : ∃ N, N = wr.heap.size := ⟨_, rfl⟩
              rw [← hN] at ho HCN
              clear hN
              have HQ0 := Lib.hid (And.intro hr4 ho)
              clear hd hr4 ho
              go_wp2_with fail
              go_loopw [15] (fun v15 wr => ∃ t : Nat, v15 = .int .i64 t ∧ t ≤ L.length ∧ Hid (RowW w wr p z (rest g z) c (zap g (L.take t)) ∧ OwnI wr N (.slice pl L.length cl) (zsD L))) (fun v15 _ => L.length + 1 - (intOf v15).toNat)
              case atStart => exact ⟨0, rfl, Nat.zero_le _, HQ0⟩
              case round =>
                clear HQ0
                obtain ⟨t, rfl, ht, HQ⟩ := hrel
                by_cases tl : t < L.length
                · have ul : (t : Int) < (L.length : Int) := by omega
                  obtain ⟨bl, ol, hpl, s0⟩ := own_at HQ.out.2 t tl
                  obtain ⟨y1, y2, y3, y4, y5⟩ := HD.out.at t tl
                  subst hpl
                  have HZ := Lib.hid (zap_take g L t tl)
                  have hdv : zap g (L.take t) L[t]!.1 = g L[t]!.1 := zap_new HD.out t tl
                  have cv := HQ.out.1.vec.c _ y1
                  have fv := HQ.out.1.vec.f L[t]!.1
                  rw [hdv] at cv
                  have s3 := HS.out wr HQ.out.1.bel
                  have hlt := HLate.out _ y1
                  clear hdv
                  generalize L[t]!.1 = y at *
                  have hgl : last < g y := by omega
                  clear hlt y4 y5
                  generalize g y = gy at *
                  have q1 : ((y : Int) < 0) = False := by simp
                  have q2 : ((y : Int) ≥ 64) = False := by simp; omega
                  have q3 : ((gy : Int) == 0) = false := by
                    have : ¬ (gy : Int) = 0 := by omega
                    simpa using this
                  have q4 : ((gy : Int) > (z : Int)) = False := by simp; omega
                  have q5 : ((gy : Int) ≤ (last : Int)) = False := by simp; omega
                  have q6 : (y : Int) < 64 := by omega
                  go_wp2_with fail
                  go_quiet (fail)
                  go_wp2_with fail
                  go_roundw
                  case rel => exact ⟨t + 1, by go_num, by omega, Lib.hid ⟨by rw [← HZ.out]; exact (HQ.out.1.below (Below.drewN (Below.refl _ _) _)).put y 0, HQ.out.2.stayK (Keep.trans (Keep.of (Below.drewN (Below.refl _ _) _)) (Keep.setCell (fun b => b = c) _ c y _ rfl)) (fun q hq e => by have := HCN.out; omega)⟩⟩
                  case measure => simp [intOf]; omega
                · have ul : ¬ (t : Int) < (L.length : Int) := by omega
                  have HF : Hid (RowW w wr p z (rest g z) c (rest g z)) := Lib.hid (by
                    have h1 := HQ.out.1
                    rw [List.take_of_length_le (by omega)] at h1
                    exact h1.congr (fun _ _ => rfl) (fun k hk => zap_all HD.out k hk))
                  have s3 := HS.out wr HF.out.bel
                  clear HQ HLate HD
                  go_wp2_with fail
                  go_loopw [16] (fun v16 wr => ∃ k2 : Nat, v16 = .int .i64 k2 ∧ k2 ≤ 64 ∧ Hid (RowW w wr p z (rest g z) c (rest g z))) (fun v16 _ => 65 - (intOf v16).toNat)
                  case atStart => exact ⟨0, rfl, Nat.zero_le _, HF⟩
                  case round =>
                    clear HF s3
                    obtain ⟨k2, rfl, hk2, HF⟩ := hrel
                    by_cases t4 : k2 < 64
                    · have u4 : (k2 : Int) < 64 := by omega
                      have cv := HF.out.vec.c k2 t4
                      have hl := HF.out.late k2 t4
                      generalize rest g z k2 = d at cv hl
                      by_cases hd0 : 0 < d
                      · have q1 : (d : Int) > 0 := by omega
                        have q2 : ¬ (d : Int) ≤ (z : Int) := by omega
                        clear hl
                        go_wp2_with fail
                        go_roundw
                        case rel => exact ⟨k2 + 1, by go_num, by omega, HF⟩
                        case measure => simp [intOf]; omega
                      · have q1 : ¬ (d : Int) > 0 := by omega
                        clear hl
                        go_wp2_with fail
                        go_roundw
                        case rel => exact ⟨k2 + 1, by go_num, by omega, HF⟩
                        case measure => simp [intOf]; omega
                    · have u4 : ¬ (k2 : Int) < 64 := by omega
                      go_wp2_with fail
                      go_roundw
                      case rel => exact ⟨a + 1, z, by go_num, rfl, by omega, _, HF⟩
                      case measure => simp [intOf]; omega
            · obtain ⟨m, hw, _⟩ := HR.out.step
              have HT := Lib.hid (tick_bad hw x hok)
              clear hw
              go_wp2_with fail
              refine HT.out.mono ?_
              rintro e w4 ⟨rfl, rfl⟩
              go_wp2_with fail
              go_roundw
              case rel => exact ⟨a + 1, last, by go_num, rfl, by omega, _, HR⟩
              case measure => simp [intOf]; omega
          · have u3 : ¬ (a : Int) < (n3 : Int) := by omega
            have HB := Lib.hid HR.out.bel
            clear HR
            go_wp2_with fail
            go_ret
            exact ⟨rfl, HB.out⟩
    · have u1 : ¬ (k : Int) < (n1 : Int) := by omega
      clear H1 H2 HL1 HL2
      go_wp2_with fail
      go_loopw [11, 12] (fun v11 v12 wr => ∃ a last : Nat, v12 = .int .i64 a ∧ v11 = .int .i64 last ∧ a ≤ n3 ∧ ∃ f, Hid (RowW w wr p last f c f)) (fun _ v12 _ => n3 + 1 - (intOf v12).toNat)
      case atStart => exact ⟨0, 0, rfl, rfl, Nat.zero_le _, _, HR⟩
      case round =>
        clear HR
        obtain ⟨a, last, rfl, rfl, ha, g, HR⟩ := hrel
        by_cases t3 : a < n3
        · have u3 : (a : Int) < (n3 : Int) := by omega
          obtain ⟨b3, o3, rfl, hb3, hs3⟩ := H3.out a t3
          have HS := Lib.hid (fun V (hb : Below w.heap.size w V) => (hs3.below hb hb3) a (by rw [HL3.out]; exact t3))
          have s3 := HS.out wr HR.out.bel
          clear hs3 hb3
          generalize l3[a]! = x at s3 HS
          by_cases hok : okT last x
          · obtain ⟨z, rfl⟩ : ∃ z : Nat, x = z := ⟨x.toNat, by have := hok.1; omega⟩
            have hlz : last ≤ z := by have := hok.1; omega
            obtain ⟨m, hw, hst⟩ := HR.out.step
            have HT := Lib.hid (tick_stp hw z hok)
            have HST := Lib.hid hst
            have HCN := Lib.hid HR.out.vec.lt
            have HLate := Lib.hid HR.out.late
            clear hw hst HR hok
            go_wp2_with fail
            refine HT.out.mono ?_
            rintro e w4 ⟨v, L, rfl, hd, ho, st⟩
            have hr4 := HST.out _ _ _ st
            clear st HST HT s3
            obtain ⟨pl, cl, rfl, _⟩ := id ho.arg
            rw [zsD_len] at *
            have hLl := due_len hd
            have HD := Lib.hid hd
            obtain ⟨N, hN⟩ : ∃ N, N = wr.heap.size := ⟨_, rfl⟩
            rw [← hN] at ho HCN
            clear hN
            have HQ0 := Lib.hid (And.intro hr4 ho)
            clear hd hr4 ho
            go_wp2_with fail
            go_loopw [15] (fun v15 wr => ∃ t : Nat, v15 = .int .i64 t ∧ t ≤ L.length ∧ Hid (RowW w wr p z (rest g z) c (zap g (L.take t)) ∧ OwnI wr N (.slice pl L.length cl) (zsD L))) (fun v15 _ => L.length + 1 - (intOf v15).toNat)
            case atStart => exact ⟨0, rfl, Nat.zero_le _, HQ0⟩
            case round =>
              clear HQ0
              obtain ⟨t, rfl, ht, HQ⟩ := hrel
              by_cases tl : t < L.length
              · have ul : (t : Int) < (L.length : Int) := by omega
                obtain ⟨bl, ol, hpl, s0⟩ := own_at HQ.out.2 t tl
                obtain ⟨y1, y2, y3, y4, y5⟩ := HD.out.at t tl
                subst hpl
                have HZ := Lib.hid (zap_take g L t tl)
                have hdv : zap g (L.take t) L[t]!.1 = g L[t]!.1 := zap_new HD.out t tl
                have cv := HQ.out.1.vec.c _ y1
                have fv := HQ.out.1.vec.f L[t]!.1
                rw [hdv] at cv
                have s3 := HS.out wr HQ.out.1.bel
                have hlt := HLate.out _ y1
                clear hdv
                generalize L[t]!.1 = y at *
                have hgl : last < g y := by omega
                clear hlt y4 y5
                generalize g y = gy at *
                have q1 : ((y : Int) < 0) = False := by simp
                have q2 : ((y : Int) ≥ 64) = False := by simp; omega
                have q3 : ((gy : Int) == 0) = false := by
                  have : ¬ (gy : Int) = 0 := by omega
                  simpa using this
                have q4 : ((gy : Int) > (z : Int)) = False := by simp; omega
                have q5 : ((gy : Int) ≤ (last : Int)) = False := by simp; omega
                have q6 : (y : Int) < 64 := by omega
                go_wp2_with fail
                go_quiet (fail)
                go_wp2_with fail
                go_roundw
                case rel => exact ⟨t + 1, by go_num, by omega, Lib.hid ⟨by rw [← HZ.out]; exact (HQ.out.1.below (Below.drewN (Below.refl _ _) _)).put y 0, HQ.out.2.stayK (Keep.trans (Keep.of (Below.drewN (Below.refl _ _) _)) (Keep.setCell (fun b => b = c) _ c y _ rfl)) (fun q hq e => by have := HCN.out; omega)⟩⟩
                case measure => simp [intOf]; omega
              · have ul : ¬ (t : Int) < (L.length : Int) := by omega
                have HF : Hid (RowW w wr p z (rest g z) c (rest g z)) := Lib.hid (by
                  have h1 := HQ.out.1
                  rw [List.take_of_length_le (by omega)] at h1
                  exact h1.congr (fun _ _ => rfl) (fun k hk => zap_all HD.out k hk))
                have s3 := HS.out wr HF.out.bel
                clear HQ HLate HD
                go_wp2_with fail
                go_loopw [16] (fun v16 wr => ∃ k2 : Nat, v16 = .int .i64 k2 ∧ k2 ≤ 64 ∧ Hid (RowW w wr p z (rest g z) c (rest g z))) (fun v16 _ => 65 - (intOf v16).toNat)
                case atStart => exact ⟨0, rfl, Nat.zero_le _, HF⟩
                case round =>
                  clear HF s3
                  obtain ⟨k2, rfl, hk2, HF⟩ := hrel
                  by_cases t4 : k2 < 64
                  · have u4 : (k2 : Int) < 64 := by omega
                    have cv := HF.out.vec.c k2 t4
                    have hl := HF.out.late k2 t4
                    generalize rest g z k2 = d at cv hl
                    by_cases hd0 : 0 < d
                    · have q1 : (d : Int) > 0 := by omega
                      have q2 : ¬ (d : Int) ≤ (z : Int) := by omega
                      clear hl
                      go_wp2_with fail
                      go_roundw
                      case rel => exact ⟨k2 + 1, by go_num, by omega, HF⟩
                      case measure => simp [intOf]; omega
                    · have q1 : ¬ (d : Int) > 0 := by omega
                      clear hl
                      go_wp2_with fail
                      go_roundw
                      case rel => exact ⟨k2 + 1, by go_num, by omega, HF⟩
                      case measure => simp [intOf]; omega
                  · have u4 : ¬ (k2 : Int) < 64 := by omega
                    go_wp2_with fail
                    go_roundw
                    case rel => exact ⟨a + 1, z, by go_num, rfl, by omega, _, HF⟩
                    case measure => simp [intOf]; omega
          · obtain ⟨m, hw, _⟩ := HR.out.step
            have HT := Lib.hid (tick_bad hw x hok)
            clear hw
            go_wp2_with fail
            refine HT.out.mono ?_
            rintro e w4 ⟨rfl, rfl⟩
            go_wp2_with fail
            go_roundw
            case rel => exact ⟨a + 1, last, by go_num, rfl, by omega, _, HR⟩
            case measure => simp [intOf]; omega
        · have u3 : ¬ (a : Int) < (n3 : Int) := by omega
          have HB := Lib.hid HR.out.bel
          clear HR
          go_wp2_with fail
          go_ret
          exact ⟨rfl, HB.out⟩
end Go.Proofs.Ytdgfaolflnljaaa
