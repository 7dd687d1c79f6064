/-
  (*trie.Table).Find at every table and every address; what lay in memory stays.
-/
import Derived.Test.YtbdmfcnlfmnmdaaDoorTrieTab
namespace Go.Proofs.YtbdmfcnlfmnmdaaDoor
open Go.RowKit

/-- The deepest of the first k nodes on the way of an address whose network is there. -/
def Tm.deep (M : Tm) (a : Nat) : Nat → Option (Nat × Nd)
  | 0 => none
  | k + 1 => match M.look (PrefP.cut a k) k with
    | some x => some (k, x)
    | none => Tm.deep M a k
theorem Tm.deep_hit {M : Tm} {a k : Nat} {x : Nd} (h : M (PrefP.cut a k) k = some x) (hu : x.u = true) : M.deep a (k + 1) = some (k, x) := by
  rw [Tm.deep, Tm.look_some h hu]
theorem Tm.deep_miss {M : Tm} {a k : Nat} {x : Nd} (h : M (PrefP.cut a k) k = some x) (hu : x.u = false) : M.deep a (k + 1) = M.deep a k := by
  rw [Tm.deep, Tm.look_off h hu]
theorem Tm.deep_none {M : Tm} (hok : M.Ok) {a k : Nat} (hk : k ≤ 32) (h : M (PrefP.cut a k) k = none) : ∀ j, k + j ≤ 33 → M.deep a (k + j) = M.deep a k
  | 0, _ => rfl
  | j + 1, hj => by
    have e : M (PrefP.cut a (k + j)) (k + j) = none := by
      cases e : M (PrefP.cut a (k + j)) (k + j) with
      | none => rfl
      | some y =>
        obtain ⟨z, hz⟩ := hok.anc j _ k y e
        rw [PrefP.cut_cut a (k + j) k (by omega) (by omega) (by omega), h] at hz
        exact absurd hz (by simp)
    rw [← Nat.add_assoc, Tm.deep, Tm.look_none e]
    exact Tm.deep_none hok hk h j (by omega)
theorem Tm.deep_some {M : Tm} {a : Nat} : ∀ {k j : Nat} {x : Nd}, M.deep a k = some (j, x) → j < k ∧ M (PrefP.cut a j) j = some x ∧ x.u = true ∧ ∀ i, j < i → i < k → M.look (PrefP.cut a i) i = none
  | 0, j, x, h => by simp [Tm.deep] at h
  | k + 1, j, x, h => by
    rw [Tm.deep] at h
    cases e : M.look (PrefP.cut a k) k with
    | some y =>
      rw [e] at h
      simp only [Option.some.injEq, Prod.mk.injEq] at h
      obtain ⟨rfl, rfl⟩ := h
      have := look_is e
      exact ⟨by omega, this.1, this.2, fun i h1 h2 => by omega⟩
    | none =>
      rw [e] at h
      obtain ⟨h1, h2, h3, h4⟩ := Tm.deep_some (k := k) h
      refine ⟨by omega, h2, h3, fun i i1 i2 => ?_⟩
      by_cases ei : i = k
      · subst ei; exact e
      · exact h4 i i1 (by omega)
theorem Tm.deep_all {M : Tm} {a : Nat} : ∀ {k : Nat}, M.deep a k = none → ∀ i, i < k → M.look (PrefP.cut a i) i = none
  | 0, _, i, hi => by omega
  | k + 1, h, i, hi => by
    rw [Tm.deep] at h
    cases e : M.look (PrefP.cut a k) k with
    | some y => rw [e] at h; exact absurd h (by simp)
    | none =>
      rw [e] at h
      by_cases ei : i = k
      · subst ei; exact e
      · exact Tm.deep_all (k := k) h i (by omega)
/-- Where the way goes on. -/
def Tm.way (M : Tm) (a k : Nat) : Option Nd := if k ≤ 32 then M (PrefP.cut a k) k else none
theorem Tm.way_next {M : Tm} (hok : M.Ok) (a k : Nat) (hk : k ≤ 32) (x : Nd) : nc M (PrefP.cut a k) k x (TrieP.bt a k) = pt (M.way a (k + 1)) := by
  rw [nc_kid _ _ _ _ _ (TrieP.bt_lt a k)]
  unfold Tm.way
  by_cases h : k < 32
  · rw [if_pos (by omega), TrieP.step a k h]
  · rw [if_neg (by omega), hok.none _ _ (by omega)]
def Tm.told (o : Option (Nat × Nd)) (a : Nat) : Value := match o with
  | none => .tuple #[.agg #[.int .u32 0, .int .i64 0], .int .i64 0, .iface 29 (.int .i64 2)]
  | some (j, x) => .tuple #[.agg #[.int .u32 (PrefP.cut a j : Int), .int .i64 j], .int .i64 x.v, .nilIface]

set_option maxHeartbeats 4000000 in
set_option maxRecDepth 100000 in
theorem find_tri (w : World) (M : Tm) (tb : Nat) (c : Int) (a : Nat) (ha : a < 4294967296) (h : Tri w M tb c) :
    Calls Tryd.prog 17 #[.pointer (some ⟨tb, 0, none⟩), .int .u32 a] w fun e w' => e = .returned (Tm.told (M.deep a 33) a) ∧ Below w.heap.size w w' := by
  have N0 := Box.new w (.int .u32 0) (.int .i64 0) 32
  have B0 : Below w.heap.size w (w.alloc (.cells #[.int .u32 0, .int .i64 0] 32)) := (Below.refl _ _).alloc (Nat.le_refl _) _
  have HT := Lib.hid h; have HN := Lib.hid N0; have HB := Lib.hid B0
  obtain ⟨x0, r1, r2⟩ := h.root
  have HR := Lib.hid (show pt (M.way a 0) = .pointer (some ⟨tb, 0, none⟩) by unfold Tm.way; rw [if_pos (by omega), PrefP.cut_zero, r1, pt_some, r2])
  clear h N0 B0 r1 r2
  generalize hR : Tm.told (M.deep a 33) a = R
  have HE := Lib.hid hR; clear hR
  go_enter Tryd.func17, Tryd.ntmps17
  go_wp2_with fail
  go_loopw [7, 8, 9, 10] (fun s7 s8 s9 s10 wr => ∃ (k : Nat), s10 = .int .i64 k ∧ k ≤ 33 ∧ Hid (s9 = pt (M.way a k)) ∧ Hid (s7 = pt ((M.deep a k).map fun p => p.2)) ∧ Hid (s8 = .int .i64 (((M.deep a k).map fun p => p.1).getD 0 : Nat)) ∧ Hid (Box wr w.heap.size (.int .u32 0) (.int .i64 0)) ∧ Hid (Below w.heap.size w wr)) (fun _ _ _ s10 _ => 33 - (intOf s10).toNat)
  case atStart => exact ⟨0, rfl, by omega, Lib.hid HR.out.symm, Lib.hid rfl, Lib.hid rfl, HN, HB⟩
  case round =>
    obtain ⟨k, rfl, hk, HP, H7, H8, HBx, HBl⟩ := hrel
    have hp := HP.out
    cases hM : M.way a k with
    | none =>
      rw [hM, pt_none] at hp
      subst hp
      have hE := HE.out
      have hd : M.deep a 33 = M.deep a k := by
        by_cases h32 : k ≤ 32
        · unfold Tm.way at hM
          rw [if_pos h32] at hM
          have := Tm.deep_none HT.out.ok h32 hM (33 - k) (by omega)
          rw [show k + (33 - k) = 33 by omega] at this
          exact this
        · obtain rfl : k = 33 := by omega
          rfl
      rw [hd] at hE
      have h7 := H7.out
      have h8 := H8.out
      obtain ⟨l1, c0, c1, f0, f1⟩ := HBx.out
      cases hD : M.deep a k with
      | none =>
        rw [hD] at hE h7 h8
        subst h7
        have HE' := Lib.hid hE
        clear hE HE hD hd hM HP H7 H8 h8
        simp only [Option.map_none, pt_none]
        go_wp2_with fail
        rw [← HE'.out]
        exact bodyPost_ret (v := Tm.told none a) (by simp [Tm.told, results, Tryd.results17, go_sem, c0, c1]) rfl ⟨rfl, (HBl.out.setCell (by simp) _).setCell (by simp) _⟩
      | some p =>
        obtain ⟨j, x⟩ := p
        rw [hD] at hE h7 h8
        obtain ⟨hj, hx, hu, hlast⟩ := Tm.deep_some hD
        simp only [Option.map_some, Option.getD_some, pt_some] at h7 h8
        subst h7 h8
        have d3 : wr.cell? ⟨x.b, 3, none⟩ = some (.int .i64 x.v) := (HT.out.below HBl.out).cell _ _ _ hx 3 (by decide)
        have hne : x.b ≠ w.heap.size := by
          have := HT.out.lt _ _ _ hx
          omega
        have HNE := Lib.hid hne
        have HE' := Lib.hid hE
        have hand := PrefP.cut_int a j ha
        clear hE HE hD hd hM HP H7 H8 hx hu hlast
        go_wp2_with fail
        refine (mask_yes j (by omega) _).mono ?_
        rintro e w1 ⟨rfl, rfl⟩
        go_wp2_with fail
        have d3' : ∀ (u v : Value), ((wr.setCell ⟨w.heap.size, 0, none⟩ u).setCell ⟨w.heap.size, 1, none⟩ v).cell? ⟨x.b, 3, none⟩ = some (.int .i64 x.v) := fun u v =>
          (World.cell?_setCell_other _ _ _ _ (by intro e; simp only [Addr.mk.injEq] at e; exact hne e.1.symm)).trans ((World.cell?_setCell_other _ _ _ _ (by intro e; simp only [Addr.mk.injEq] at e; exact hne e.1.symm)).trans d3)
        go_region
        go_wp2_with fail
        rw [← HE'.out]
        exact bodyPost_ret (v := Tm.told (some (j, x)) a) (by simp [Tm.told, results, Tryd.results17, go_sem, c0, c1]) rfl ⟨rfl, ((HBl.out.setCell (by simp) _).setCell (by simp) _).drew⟩
    | some x =>
      rw [hM, pt_some] at hp
      subst hp
      have h32 : k ≤ 32 := by
        unfold Tm.way at hM
        split at hM
        · assumption
        · exact absurd hM (by simp)
      unfold Tm.way at hM
      rw [if_pos h32] at hM
      have hT := HT.out.below HBl.out
      have d0 := hT.cell _ _ _ hM (TrieP.bt a k) (by have := TrieP.bt_lt a k; omega)
      rw [Tm.way_next hT.ok a k h32] at d0
      have d2 : wr.cell? ⟨x.b, 2, none⟩ = some (.bool x.u) := hT.cell _ _ _ hM 2 (by decide)
      obtain ⟨q, hq⟩ := pt_pointer (M.way a (k + 1))
      rw [hq] at d0
      have HQ := Lib.hid hq
      have hlt' : (TrieP.bt a k : Int) < 2 := by have := TrieP.bt_lt a k; omega
      cases hu : x.u with
      | true =>
        have HD := Lib.hid (Tm.deep_hit hM hu)
        rw [hu] at d2
        clear HP hM hT hq hu H7 H8
        go_wp2_with fail
        go_quiet (first | (go_at_call 31; exact Calls.quiet_of_same (bit_any a k (by omega) _)))
        go_wp2_with fail
        go_roundw
        case rel => exact ⟨k + 1, by go_num, by omega, Lib.hid HQ.out.symm, Lib.hid (by rw [HD.out]; rfl), Lib.hid (by rw [HD.out]; rfl), Lib.hid (HBx.out.drewN _), Lib.hid (Below.drewN HBl.out _)⟩
        case measure => simp [intOf]; omega
      | false =>
        have HD := Lib.hid (Tm.deep_miss hM hu)
        rw [hu] at d2
        clear HP hM hT hq hu
        go_wp2_with fail
        go_quiet (first | (go_at_call 31; exact Calls.quiet_of_same (bit_any a k (by omega) _)))
        go_wp2_with fail
        go_roundw
        case rel => exact ⟨k + 1, by go_num, by omega, Lib.hid HQ.out.symm, Lib.hid (by rw [HD.out]; exact H7.out), Lib.hid (by rw [HD.out]; exact H8.out), Lib.hid (HBx.out.drewN _), Lib.hid (Below.drewN HBl.out _)⟩
        case measure => simp [intOf]; omega

/-- What is found: none, or the longest network that has the address, and its number. -/
def Fnd (f : Nt → Option Int) (a : Nat) : Option (Nat × Int) → Prop
  | none => ∀ n : Nt, PrefP.has n.1 n.2 a = true → f n = none
  | some (k, z) => k ≤ 32 ∧ f (PrefP.cut a k, (k : Int)) = some z ∧ ∀ n : Nt, PrefP.has n.1 n.2 a = true → f n ≠ none → n.2 ≤ (k : Int)
def foundV (o : Option (Nat × Int)) (a : Nat) : Value := match o with
  | none => .tuple #[.agg #[.int .u32 0, .int .i64 0], .int .i64 0, .iface 29 (.int .i64 2)]
  | some (k, z) => .tuple #[.agg #[.int .u32 (PrefP.cut a k : Int), .int .i64 k], .int .i64 z, .nilIface]
/-- What is told of it: the network, the number, the error. -/
def fN (o : Option (Nat × Int)) (a : Nat) : Nt := match o with
  | none => (0, 0)
  | some (k, _) => (PrefP.cut a k, (k : Int))
def fZ (o : Option (Nat × Int)) : Int := match o with
  | none => 0
  | some (_, z) => z
def fE (o : Option (Nat × Int)) : Int := match o with
  | none => 2
  | some _ => 0
theorem foundV_eq (o : Option (Nat × Int)) (a : Nat) : foundV o a = .tuple #[.agg #[.int .u32 ((fN o a).1 : Int), .int .i64 (fN o a).2], .int .i64 (fZ o), errV (fE o)] := by
  cases o with
  | none => rfl
  | some p => rfl
/-- There is but one such. -/
theorem Fnd.only {f g : Nt → Option Int} {a : Nat} {o p : Option (Nat × Int)} (hfg : ∀ n, f n = g n) (h1 : Fnd f a o) (h2 : Fnd g a p) : o = p := by
  have has : ∀ k : Nat, k ≤ 32 → PrefP.has (PrefP.cut a k) (k : Int) a = true := fun k hk => (PrefP.has_iff _ _ _).2 ⟨k, rfl, hk, rfl⟩
  match o, p with
  | none, none => rfl
  | none, some (k, z) =>
    have := h1 (PrefP.cut a k, (k : Int)) (has k h2.1)
    rw [hfg, h2.2.1] at this
    exact absurd this (by simp)
  | some (k, z), none =>
    have := h2 (PrefP.cut a k, (k : Int)) (has k h1.1)
    rw [← hfg, h1.2.1] at this
    exact absurd this (by simp)
  | some (k, z), some (k', z') =>
    have e1 := h1.2.2 (PrefP.cut a k', (k' : Int)) (has k' h2.1) (by rw [hfg, h2.2.1]; simp)
    have e2 := h2.2.2 (PrefP.cut a k, (k : Int)) (has k h1.1) (by rw [← hfg, h1.2.1]; simp)
    simp only at e1 e2
    obtain rfl : k = k' := by omega
    have := h1.2.1
    rw [hfg, h2.2.1] at this
    rw [Option.some.inj this]
theorem find_any (w : World) (S : Nat → Prop) (tb : Nat) (f : Nt → Option Int) (L : List Nt) (a : Nat) (ha : a < 4294967296) (h : Tab w S tb f L) :
    Calls Tryd.prog 17 #[.pointer (some ⟨tb, 0, none⟩), .int .u32 a] w fun e w' => ∃ o, e = .returned (foundV o a) ∧ Fnd f a o ∧ Below w.heap.size w w' := by
  obtain ⟨_, M, h1, _, _, _, h5⟩ := h
  refine (find_tri w M tb L.length a ha h1).mono ?_
  rintro e w' ⟨rfl, hb⟩
  have hl : ∀ n : Nt, PrefP.has n.1 n.2 a = true → ∃ k : Nat, k ≤ 32 ∧ n.2 = (k : Int) ∧ f n = (M.look (PrefP.cut a k) k).map fun x => x.v := by
    intro n hn
    obtain ⟨k, h6, h7, h8⟩ := (PrefP.has_iff _ _ _).1 hn
    refine ⟨k, h7, h6, ?_⟩
    rw [h5 n, ← look_val]
    congr 1
    exact Prod.ext h8.symm h6
  cases hd : M.deep a 33 with
  | none =>
    refine ⟨none, rfl, fun n hn => ?_, hb⟩
    obtain ⟨k, hk, _, e⟩ := hl n hn
    rw [e, Tm.deep_all hd k (by omega)]; rfl
  | some p =>
    obtain ⟨j, x⟩ := p
    obtain ⟨q1, q2, q3, q4⟩ := Tm.deep_some hd
    refine ⟨some (j, x.v), rfl, ⟨by omega, ?_, fun n hn hne => ?_⟩, hb⟩
    · rw [h5, look_val, Tm.look_some q2 q3]; rfl
    · obtain ⟨k, hk, e1, e⟩ := hl n hn
      rw [e1]
      refine Int.ofNat_le.2 (Nat.le_of_not_lt fun hjk => hne ?_)
      rw [e, q4 k hjk (by omega)]; rfl
end Go.Proofs.YtbdmfcnlfmnmdaaDoor
