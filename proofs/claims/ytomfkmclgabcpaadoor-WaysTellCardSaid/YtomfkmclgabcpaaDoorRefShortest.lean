/-
  The document's Shortest at every number of nodes, links and two numbers: rows of the call's own; what lay in memory stays.
-/
import Derived.Test.YtomfkmclgabcpaaDoorWaysPlain
import Derived.Test.YtomfkmclgabcpaaDoorRefCost
import Derived.Test.YtomfkmclgabcpaaDoorRowsOwn
import Derived.Test.YtomfkmclgabcpaaDoorDrewN
import Derived.Test.YtomfkmclgabcpaaDoorRoom
import Derived.Test.YtomfkmclgabcpaaDoorIntApp
import Derived.Deep.RegionHeld3
import Derived.BigQuiet
namespace Go.Proofs.YtomfkmclgabcpaaDoor
open Go.RowKit Go.Lib

/-- The rows of ways. -/
def zz (L : List (List Nat)) : List (List Int) := L.map WaysP.zs
theorem zz_len (L : List (List Nat)) : (zz L).length = L.length := List.length_map _
theorem zz_app (L M : List (List Nat)) : zz (L ++ M) = zz L ++ zz M := List.map_append
theorem zz_at (L : List (List Nat)) (i : Nat) (h : i < L.length) : (zz L)[i]! = WaysP.zs L[i]! := by
  rw [getElem!_pos _ i (by rw [zz_len]; exact h), getElem!_pos L i h]; simp [zz]
theorem shTo_le {R : Nat → Nat → List (List Nat)} {C : MatP.T} {a d B : Nat} : ∀ m, (∀ k, k < m → k ≠ a → C a k ≤ d → (R (d - C a k) k).length ≤ B) → (WaysP.shTo R C a d m).length ≤ (if a < m then m - 1 else m) * B
  | 0, _ => by simp [WaysP.shTo]
  | m + 1, h => by
    have h1 := shTo_le m fun k hk => h k (by omega)
    rw [WaysP.shTo, List.length_append]
    by_cases g : m = a ∨ C a m = 16 ∨ d < C a m
    · rw [if_pos g, List.length_nil, Nat.add_zero]
      refine Nat.le_trans h1 (Nat.mul_le_mul_right _ ?_)
      by_cases e1 : a < m
      · rw [if_pos e1, if_pos (by omega)]; omega
      · by_cases e2 : a < m + 1
        · rw [if_neg e1, if_pos e2]; omega
        · rw [if_neg e1, if_neg e2]; omega
    · rw [if_neg g, List.length_map]
      have h2 := h m (by omega) (by omega) (by omega)
      have h3 : (if a < m + 1 then m + 1 - 1 else m + 1) = (if a < m then m - 1 else m) + 1 := by
        by_cases e1 : a < m
        · rw [if_pos e1, if_pos (by omega)]; omega
        · rw [if_neg e1, if_neg (by omega)]
      rw [h3, Nat.add_mul, Nat.one_mul]
      omega
/-- So few ways there are. -/
theorem sh_le {n : Nat} {C : MatP.T} (hC : BellP.Cost C) (h8 : n ≤ 8) (b : Nat) : ∀ f d a, a < n → d < f → (WaysP.sh n C b f d a).length ≤ 7 ^ d
  | 0, _, _, _, h => by omega
  | f + 1, d, a, ha, h => by
    rw [WaysP.sh]
    by_cases h0 : a = b ∧ d = 0
    · rw [if_pos h0]; exact Nat.pow_pos (by omega)
    · rw [if_neg h0]
      cases d with
      | zero =>
        have : WaysP.shTo (WaysP.sh n C b f) C a 0 n = [] := by
          refine List.eq_nil_iff_forall_not_mem.2 fun p hp => ?_
          obtain ⟨k, q, h1, h2, _, h4, _⟩ := (WaysP.mem_shTo _ C a 0 p n).1 hp
          have := hC.off a k (Ne.symm h2)
          omega
        rw [this]; simp
      | succ d =>
        have h1 := shTo_le (R := WaysP.sh n C b f) (C := C) (a := a) (d := d + 1) (B := 7 ^ d) n fun k hk hka hc => by
          have := hC.off a k (Ne.symm hka)
          exact Nat.le_trans (sh_le hC h8 b f _ k hk (by omega)) (Nat.pow_le_pow_right (by omega) (by omega))
        rw [if_pos ha] at h1
        refine Nat.le_trans h1 ?_
        rw [Nat.pow_succ, Nat.mul_comm]
        exact Nat.mul_le_mul_left _ (by omega)
/-- Nor are there more on the way. -/
theorem shTo_bd {n : Nat} {C : MatP.T} (hC : BellP.Cost C) (h8 : n ≤ 8) (b f d a k : Nat) (ha : a < n) (hd : d < f + 1) (h15 : d ≤ 15) (h0 : ¬ (a = b ∧ d = 0)) (hk : k ≤ n) : (WaysP.shTo (WaysP.sh n C b f) C a d k).length ≤ 4747561509943 := by
  have h1 := sh_le hC h8 b (f + 1) d a ha hd
  rw [WaysP.sh, if_neg h0] at h1
  have h2 : ∀ j, (WaysP.shTo (WaysP.sh n C b f) C a d k).length ≤ (WaysP.shTo (WaysP.sh n C b f) C a d (k + j)).length := by
    intro j
    induction j with
    | zero => exact Nat.le_refl _
    | succ j ih => rw [show k + (j + 1) = k + j + 1 by omega, WaysP.shTo, List.length_append]; omega
  have h3 := h2 (n - k)
  rw [show k + (n - k) = n by omega] at h3
  have h4 : 7 ^ d ≤ 7 ^ 15 := Nat.pow_le_pow_right (by omega) h15
  have h5 : 7 ^ 15 = 4747561509943 := by decide +kernel
  omega

set_option maxHeartbeats 1000000 in
set_option maxRecDepth 100000 in
theorem shortest_own (w : World) (n : Int) (t : Nat) (v : Value) :
    Calls Tryd.prog 9 #[.int .i64 n, v, .int .i64 t, .int .i64 t, .int .i64 0] w fun e w' => ∃ u, e = .returned u ∧ OwnR w' w.heap.size u [[(t : Int)]] ∧ Below w.heap.size w w' := by
  have HO := Lib.hid (OwnI.one w w.heap.size t (Nat.le_refl _))
  have HB := Lib.hid ((Below.refl w.heap.size w).alloc (Nat.le_refl _) (.cells #[.int .i64 t] 3))
  have HO2 := Lib.hid (OwnR.one (w.alloc (.cells #[.int .i64 t] 3)) w.heap.size _ [(t : Int)] HB.out.size HO.out)
  rw [show (w.alloc (.cells #[.int .i64 t] 3)).heap.size = w.heap.size + 1 by simp] at HO2
  have HB2 := Lib.hid (HB.out.alloc HB.out.size (.cells #[.slice (some ⟨w.heap.size, 0, none⟩) 1 1] 23))
  go_enter Tryd.func9, Tryd.ntmps9
  go_wp2_with fail
  go_ret
  exact ⟨_, rfl, HO2.out, HB2.out⟩
/-- What is told of a call of Shortest. -/
def Shorts (m t f : Nat) (l : List Lk) (v : Value) : Prop := ∀ w a d, ArgK w v l → a < m → d < f → d ≤ 15 → Calls Tryd.prog 9 #[.int .i64 m, v, .int .i64 a, .int .i64 t, .int .i64 d] w fun e w' => ∃ u, e = .returned u ∧ OwnR w' w.heap.size u (zz (WaysP.sh m (BellP.ct l) t f d a)) ∧ Below w.heap.size w w'
set_option maxHeartbeats 2000000 in
set_option maxRecDepth 100000 in
theorem shortest_s1 (w : World) (m t f a d : Nat) (v : Value) (l : List Lk) (hn : l.length < 4611686018427387904) (hr : Right m l) (h8 : m ≤ 8) (h : ArgK w v l) (ha : a < m) (ht : t < m) (hd : d < f + 1) (h15 : d ≤ 15) (h0 : ¬ a = t) (hI : Shorts m t f l v) :
    Calls Tryd.prog 9 #[.int .i64 m, v, .int .i64 a, .int .i64 t, .int .i64 d] w fun e w' => ∃ u, e = .returned u ∧ OwnR w' w.heap.size u (zz (WaysP.sh m (BellP.ct l) t (f + 1) d a)) ∧ Below w.heap.size w w' := by
  have HI := Lib.hid hI
  have HL := Lib.hid h
  have HK := Lib.hid (BellP.ct_cost hr)
  have HI0 := Lib.hid (fun i j => BellP.ct_int hr i j)
  have E : Hid (WaysP.sh m (BellP.ct l) t (f + 1) d a = WaysP.shTo (WaysP.sh m (BellP.ct l) t f) (BellP.ct l) a d m) := Lib.hid (by rw [WaysP.sh, if_neg (fun e => h0 e.1)])
  have HBd := Lib.hid (fun k (hk : k ≤ m) => shTo_bd HK.out h8 t f d a k ha hd h15 (fun e => h0 e.1) hk)
  clear h hI hr
  have t0 : ((a : Int) == (t : Int)) = false := by
    have : ¬ (a : Int) = t := by omega
    simpa using this
  clear h0
  go_enter Tryd.func9, Tryd.ntmps9
  go_wp2_with fail
  go_loopw [11, 12] (fun o x wr => ∃ k : Nat, x = .int .i64 k ∧ k ≤ m ∧ Hid (OwnR wr w.heap.size o (zz (WaysP.shTo (WaysP.sh m (BellP.ct l) t f) (BellP.ct l) a d k))) ∧ Hid (Below w.heap.size w wr)) (fun _ x _ => m - (RowKit.intOf x).toNat)
  case atStart => exact ⟨0, rfl, Nat.zero_le _, Lib.hid (OwnR.nil _ _), Lib.hid (Below.refl _ _)⟩
  case round =>
    obtain ⟨k, rfl, hk, HO, HB⟩ := hrel
    by_cases hkm : k < m
    · have HCO := Lib.hid (costOf_any wr v l a k hn (HL.out.below HB.out))
      rw [← HI0.out a k] at HCO
      have HEk : Hid (WaysP.shTo (WaysP.sh m (BellP.ct l) t f) (BellP.ct l) a d (k + 1) = WaysP.shTo (WaysP.sh m (BellP.ct l) t f) (BellP.ct l) a d k ++ (if k = a ∨ BellP.ct l a k = 16 ∨ d < BellP.ct l a k then [] else (WaysP.sh m (BellP.ct l) t f (d - BellP.ct l a k) k).map fun p => a :: p)) := Lib.hid rfl
      have HBD := Lib.hid (HBd.out (k + 1) (by omega))
      have hcd := HK.out.bd a k
      have hoff := HK.out.off a k
      by_cases hgo : k = a ∨ BellP.ct l a k = 16 ∨ d < BellP.ct l a k
      · have HE : Hid (WaysP.shTo (WaysP.sh m (BellP.ct l) t f) (BellP.ct l) a d (k + 1) = WaysP.shTo (WaysP.sh m (BellP.ct l) t f) (BellP.ct l) a d k) := Lib.hid (by rw [HEk.out, if_pos hgo, List.append_nil])
        clear HEk HBD hoff
        generalize BellP.ct l a k = c at HCO hgo hcd
        go_wp2_with fail
        refine HCO.out.mono ?_
        rintro e wz ⟨rfl, rfl⟩
        by_cases h1 : k = a
        · subst h1
          go_wp2_with fail
          go_roundw
          case rel => exact ⟨k + 1, by go_num, by omega, Lib.hid (by rw [HE.out]; exact HO.out), HB⟩
          case measure => simp [RowKit.intOf]; omega
        · have t1 : ((k : Int) == (a : Int)) = false := by
            have : ¬ (k : Int) = a := by omega
            simpa using this
          by_cases h2 : c = 16
          · subst h2
            go_wp2_with fail
            go_roundw
            case rel => exact ⟨k + 1, by go_num, by omega, Lib.hid (by rw [HE.out]; exact HO.out), HB⟩
            case measure => simp [RowKit.intOf]; omega
          · have t2 : ((c : Int) == 16) = false := by
              have : ¬ (c : Int) = 16 := by omega
              simpa using this
            have t3 : (c : Int) > (d : Int) := by omega
            clear hgo h1 h2
            go_wp2_with fail
            go_roundw
            case rel => exact ⟨k + 1, by go_num, by omega, Lib.hid (by rw [HE.out]; exact HO.out), HB⟩
            case measure => simp [RowKit.intOf]; omega
      · rw [if_neg hgo] at HEk
        have t1 : ((k : Int) == (a : Int)) = false := by
          have : ¬ (k : Int) = a := by omega
          simpa using this
        have hc1 := hoff (fun e => hgo (Or.inl e.symm))
        obtain ⟨e, he⟩ : ∃ e, d - BellP.ct l a k = e := ⟨_, rfl⟩
        rw [he] at HEk
        generalize BellP.ct l a k = c at HCO hgo hcd hc1 he
        have t2 : ((c : Int) == 16) = false := by
          have : ¬ (c : Int) = 16 := by omega
          simpa using this
        have t3 : ¬ (c : Int) > (d : Int) := by omega
        have t4 : (d : Int) - (c : Int) = (e : Int) := by omega
        have HQ := Lib.hid (fun q (hq : q ∈ WaysP.sh m (BellP.ct l) t f e k) => (WaysP.mem_sh HK.out ht f e k q hkm (by omega)).1 hq)
        have HR := Lib.hid (HI.out wr k e (HL.out.below HB.out) hkm (by omega) (by omega))
        have he15 : e ≤ 15 := by omega
        rw [HEk.out, List.length_append, List.length_map] at HBD
        generalize WaysP.sh m (BellP.ct l) t f e k = R at HEk HQ HR HBD
        clear hgo he hoff hcd hc1
        go_wp2_with fail
        refine HCO.out.mono ?_
        rintro e0 wz ⟨rfl, rfl⟩
        go_wp2_with fail
        refine HR.out.mono ?_
        rintro e1 w3 ⟨u3, rfl, hO3, hb3⟩
        obtain ⟨S0, HS0⟩ : ∃ s, Hid (s = wr.heap.size) := ⟨_, Lib.hid rfl⟩
        have HO3 := Lib.hid (HO.out.keep hb3)
        have HB3 := Lib.hid (Below.two HB.out hb3)
        have HSS : Hid (S0 ≤ w3.heap.size) := Lib.hid (by rw [HS0.out]; exact hb3.size)
        rw [← HS0.out] at hO3
        obtain ⟨vs0, _, ho0, _⟩ := HO.out
        have HOB := Lib.hid (fun g hg => Or.inl (b := w3.heap.size ≤ g) (show g < S0 by rw [HS0.out]; exact (World.ownsRow.lt ho0 g hg).2))
        obtain ⟨p3, c3, rfl, _⟩ := hO3.arg
        rw [zz_len] at hO3 ⊢
        have HM := Lib.hid hO3
        clear hO3 hb3 HCO HR t1 t2 t3 t4 HO HB HS0 ho0
        go_wp2_with fail
        go_loopw [11, 15] (fun o y w4 => ∃ i : Nat, y = .int .i64 i ∧ i ≤ R.length ∧ Hid (OwnR w4 w.heap.size o (zz (WaysP.shTo (WaysP.sh m (BellP.ct l) t f) (BellP.ct l) a d k ++ (R.take i).map fun p => a :: p))) ∧ Hid (Below w.heap.size w w4) ∧ Hid (w3.heap.size ≤ w4.heap.size ∧ (∀ g, S0 ≤ g → g < w3.heap.size → w4.heap[g]? = w3.heap[g]?) ∧ ∀ g, o.ownBlock = some g → g < S0 ∨ w3.heap.size ≤ g)) (fun _ y _ => R.length - (RowKit.intOf y).toNat)
        case atStart => exact ⟨0, rfl, Nat.zero_le _, by rw [List.take_zero, List.map_nil, List.append_nil]; exact HO3, HB3, Lib.hid ⟨Nat.le_refl _, fun _ _ _ => rfl, HOB.out⟩⟩
        case round =>
          obtain ⟨i, rfl, hi, HO, HB, HG⟩ := hrel
          by_cases hin : i < R.length
          · obtain ⟨w4, HW4⟩ : ∃ w4, w4 = wr := ⟨_, rfl⟩
            subst HW4
            have hw4 := HB.out.size
            have hRl : R.length ≤ 4747561509943 := by have := HBD.out; omega
            have B1 := (Below.refl w4.heap.size w4).alloc (Nat.le_refl _) (.cells #[.int .i64 a] 3)
            obtain ⟨_, _, e0, hs⟩ := ((HM.out.frame HG.out.2.1).keep B1).arg
            injection e0 with e1 e2 e3
            clear e2
            subst e1 e3
            rcases hs with e | ⟨bm, om, rfl, hbm, hS⟩
            · have := congrArg List.length e
              rw [zz_len] at this
              rw [this] at hin
              exact absurd hin (by simp)
            · obtain ⟨qv, a0, hq⟩ := hS i (by rw [zz_len]; exact hin)
              rw [zz_at R i hin] at hq
              have hT : (R.take (i + 1)) = R.take i ++ [R[i]!] := by
                rw [getElem!_pos R i hin, List.take_add_one, List.getElem?_eq_getElem hin]; rfl
              have hql := (HQ.out R[i]! (by rw [getElem!_pos R i hin]; exact List.getElem_mem hin)).short HK.out
              have HT := Lib.hid (show zz (WaysP.shTo (WaysP.sh m (BellP.ct l) t f) (BellP.ct l) a d k ++ (R.take (i + 1)).map fun p => a :: p) = zz (WaysP.shTo (WaysP.sh m (BellP.ct l) t f) (BellP.ct l) a d k ++ (R.take i).map fun p => a :: p) ++ [(a : Int) :: WaysP.zs R[i]!] by
                rw [hT, List.map_append, ← List.append_assoc, zz_app]; rfl)
              have HN : Hid ((zz (WaysP.shTo (WaysP.sh m (BellP.ct l) t f) (BellP.ct l) a d k ++ (R.take i).map fun p => a :: p)).length ≤ 4747561509943) := Lib.hid (by
                have := HBD.out
                rw [zz_len, List.length_append, List.length_map, List.length_take]; omega)
              obtain ⟨pq, cq, rfl, _⟩ := id hq
              have HQv := Lib.hid hq
              have hzl : (WaysP.zs R[i]!).length ≤ 17 := by rw [WaysP.zs_len]; omega
              clear hS hq hT hql hbm
              generalize WaysP.zs R[i]! = q at a0 HT HQv hzl
              generalize zz (WaysP.shTo (WaysP.sh m (BellP.ct l) t f) (BellP.ct l) a d k ++ (R.take i).map fun p => a :: p) = M at HO HT HN
              have OO := Lib.hid (OwnI.one w4 w.heap.size a hw4)
              have HB1 := Lib.hid B1
              clear B1
              go_wp2_with (at_builtin; first | (refine wpl_append_listI rfl _ _ rfl w.heap.size _ _ [(a : Int)] q rfl rfl OO.out HQv.out (by simp; omega) (Nat.le_trans hw4 (by simp)) ?_; intro v5 w5 hO5 hg5; have hO5 : OwnI w5 w.heap.size v5 ((a : Int) :: q) := hO5; obtain ⟨p5, c5, rfl, _⟩ := id hO5.arg; rw [List.length_cons] at hO5 ⊢; have HB5 := Lib.hid (HB1.out.grown hg5 (by simp) (fun g hg => by have := Option.some.inj (show some w4.heap.size = some g from hg); omega)); clear hg5; have HB6 := Lib.hid (HB5.out.alloc HB5.out.size (.cells #[.slice p5 (q.length + 1) c5] 23)); have HO6 := Lib.hid (HO.out.keep HB6.out); have HR6 := Lib.hid (hO5.keep ((Below.refl w5.heap.size w5).alloc (Nat.le_refl _) (.cells #[.slice p5 (q.length + 1) c5] 23))); clear hO5) | (refine wpl_append_newR rfl _ _ rfl w.heap.size _ M _ ((a : Int) :: q) w5.heap.size 1 rfl rfl HO6.out HR6.out (by simp) (by have := HN.out; omega) (Nat.le_trans hw4 HB6.out.size) ?_; intro v7 w7 hO7 hg7 hn7))
              have hpast := HO.out.past
              have g6 := HB6.out.size
              have g7 := hg7.size
              obtain ⟨h1, h2, h3⟩ := HG.out
              go_roundw
              case rel =>
                refine ⟨i + 1, by go_num, by omega, Lib.hid (by rw [HT.out]; exact hO7), Lib.hid ((Below.two HB.out HB6.out).grown hg7 (Nat.le_trans hw4 g6) hpast), Lib.hid ⟨Nat.le_trans h1 (Nat.le_trans g6 g7), fun g q1 q2 => ?_, fun g hg => ?_⟩⟩
                · rw [hg7.block g (Nat.lt_of_lt_of_le q2 (Nat.le_trans h1 g6)) (fun e => by have := h3 g e.symm; omega), HB6.out.block g (by omega)]
                  exact h2 g q1 q2
                · rcases hn7 with e | e
                  · rw [e] at hg; exact h3 g hg
                  · rw [e] at hg
                    have := Option.some.inj hg
                    exact Or.inr (by rw [← this]; exact Nat.le_trans h1 g6)
              case measure => simp [RowKit.intOf]; omega
          · obtain rfl : i = R.length := by omega
            rw [List.take_length] at HO
            go_wp2_with fail
            go_roundw
            case rel => exact ⟨k + 1, by go_num, by omega, Lib.hid (by rw [HEk.out]; exact HO.out), HB⟩
            case measure => simp [RowKit.intOf]; omega
    · obtain rfl : k = m := by omega
      go_wp2_with fail
      go_ret
      exact ⟨_, rfl, by rw [E.out]; exact HO.out, HB.out⟩
set_option maxHeartbeats 2000000 in
set_option maxRecDepth 100000 in
theorem shortest_s2 (w : World) (m t f d : Nat) (v : Value) (l : List Lk) (hn : l.length < 4611686018427387904) (hr : Right m l) (h8 : m ≤ 8) (h : ArgK w v l) (ht : t < m) (hd : d < f + 1) (h15 : d ≤ 15) (h0 : ¬ d = 0) (hI : Shorts m t f l v) :
    Calls Tryd.prog 9 #[.int .i64 m, v, .int .i64 t, .int .i64 t, .int .i64 d] w fun e w' => ∃ u, e = .returned u ∧ OwnR w' w.heap.size u (zz (WaysP.sh m (BellP.ct l) t (f + 1) d t)) ∧ Below w.heap.size w w' := by
  have HI := Lib.hid hI
  have HL := Lib.hid h
  have HK := Lib.hid (BellP.ct_cost hr)
  have HI0 := Lib.hid (fun i j => BellP.ct_int hr i j)
  have E : Hid (WaysP.sh m (BellP.ct l) t (f + 1) d t = WaysP.shTo (WaysP.sh m (BellP.ct l) t f) (BellP.ct l) t d m) := Lib.hid (by rw [WaysP.sh, if_neg (fun e => h0 e.2)])
  have HBd := Lib.hid (fun k (hk : k ≤ m) => shTo_bd HK.out h8 t f d t k ht hd h15 (fun e => h0 e.2) hk)
  clear h hI hr
  have t0 : ((d : Int) == 0) = false := by
    have : ¬ (d : Int) = 0 := by omega
    simpa using this
  clear h0
  go_enter Tryd.func9, Tryd.ntmps9
  go_wp2_with fail
  go_loopw [11, 12] (fun o x wr => ∃ k : Nat, x = .int .i64 k ∧ k ≤ m ∧ Hid (OwnR wr w.heap.size o (zz (WaysP.shTo (WaysP.sh m (BellP.ct l) t f) (BellP.ct l) t d k))) ∧ Hid (Below w.heap.size w wr)) (fun _ x _ => m - (RowKit.intOf x).toNat)
  case atStart => exact ⟨0, rfl, Nat.zero_le _, Lib.hid (OwnR.nil _ _), Lib.hid (Below.refl _ _)⟩
  case round =>
    obtain ⟨k, rfl, hk, HO, HB⟩ := hrel
    by_cases hkm : k < m
    · have HCO := Lib.hid (costOf_any wr v l t k hn (HL.out.below HB.out))
      rw [← HI0.out t k] at HCO
      have HEk : Hid (WaysP.shTo (WaysP.sh m (BellP.ct l) t f) (BellP.ct l) t d (k + 1) = WaysP.shTo (WaysP.sh m (BellP.ct l) t f) (BellP.ct l) t d k ++ (if k = t ∨ BellP.ct l t k = 16 ∨ d < BellP.ct l t k then [] else (WaysP.sh m (BellP.ct l) t f (d - BellP.ct l t k) k).map fun p => t :: p)) := Lib.hid rfl
      have HBD := Lib.hid (HBd.out (k + 1) (by omega))
      have hcd := HK.out.bd t k
      have hoff := HK.out.off t k
      by_cases hgo : k = t ∨ BellP.ct l t k = 16 ∨ d < BellP.ct l t k
      · have HE : Hid (WaysP.shTo (WaysP.sh m (BellP.ct l) t f) (BellP.ct l) t d (k + 1) = WaysP.shTo (WaysP.sh m (BellP.ct l) t f) (BellP.ct l) t d k) := Lib.hid (by rw [HEk.out, if_pos hgo, List.append_nil])
        clear HEk HBD hoff
        generalize BellP.ct l t k = c at HCO hgo hcd
        go_wp2_with fail
        refine HCO.out.mono ?_
        rintro e wz ⟨rfl, rfl⟩
        by_cases h1 : k = t
        · subst h1
          go_wp2_with fail
          go_roundw
          case rel => exact ⟨k + 1, by go_num, by omega, Lib.hid (by rw [HE.out]; exact HO.out), HB⟩
          case measure => simp [RowKit.intOf]; omega
        · have t1 : ((k : Int) == (t : Int)) = false := by
            have : ¬ (k : Int) = t := by omega
            simpa using this
          by_cases h2 : c = 16
          · subst h2
            go_wp2_with fail
            go_roundw
            case rel => exact ⟨k + 1, by go_num, by omega, Lib.hid (by rw [HE.out]; exact HO.out), HB⟩
            case measure => simp [RowKit.intOf]; omega
          · have t2 : ((c : Int) == 16) = false := by
              have : ¬ (c : Int) = 16 := by omega
              simpa using this
            have t3 : (c : Int) > (d : Int) := by omega
            clear hgo h1 h2
            go_wp2_with fail
            go_roundw
            case rel => exact ⟨k + 1, by go_num, by omega, Lib.hid (by rw [HE.out]; exact HO.out), HB⟩
            case measure => simp [RowKit.intOf]; omega
      · rw [if_neg hgo] at HEk
        have t1 : ((k : Int) == (t : Int)) = false := by
          have : ¬ (k : Int) = t := by omega
          simpa using this
        have hc1 := hoff (fun e => hgo (Or.inl e.symm))
        obtain ⟨e, he⟩ : ∃ e, d - BellP.ct l t k = e := ⟨_, rfl⟩
        rw [he] at HEk
        generalize BellP.ct l t k = c at HCO hgo hcd hc1 he
        have t2 : ((c : Int) == 16) = false := by
          have : ¬ (c : Int) = 16 := by omega
          simpa using this
        have t3 : ¬ (c : Int) > (d : Int) := by omega
        have t4 : (d : Int) - (c : Int) = (e : Int) := by omega
        have HQ := Lib.hid (fun q (hq : q ∈ WaysP.sh m (BellP.ct l) t f e k) => (WaysP.mem_sh HK.out ht f e k q hkm (by omega)).1 hq)
        have HR := Lib.hid (HI.out wr k e (HL.out.below HB.out) hkm (by omega) (by omega))
        have he15 : e ≤ 15 := by omega
        rw [HEk.out, List.length_append, List.length_map] at HBD
        generalize WaysP.sh m (BellP.ct l) t f e k = R at HEk HQ HR HBD
        clear hgo he hoff hcd hc1
        go_wp2_with fail
        refine HCO.out.mono ?_
        rintro e0 wz ⟨rfl, rfl⟩
        go_wp2_with fail
        refine HR.out.mono ?_
        rintro e1 w3 ⟨u3, rfl, hO3, hb3⟩
        obtain ⟨S0, HS0⟩ : ∃ s, Hid (s = wr.heap.size) := ⟨_, Lib.hid rfl⟩
        have HO3 := Lib.hid (HO.out.keep hb3)
        have HB3 := Lib.hid (Below.two HB.out hb3)
        have HSS : Hid (S0 ≤ w3.heap.size) := Lib.hid (by rw [HS0.out]; exact hb3.size)
        rw [← HS0.out] at hO3
        obtain ⟨vs0, _, ho0, _⟩ := HO.out
        have HOB := Lib.hid (fun g hg => Or.inl (b := w3.heap.size ≤ g) (show g < S0 by rw [HS0.out]; exact (World.ownsRow.lt ho0 g hg).2))
        obtain ⟨p3, c3, rfl, _⟩ := hO3.arg
        rw [zz_len] at hO3 ⊢
        have HM := Lib.hid hO3
        clear hO3 hb3 HCO HR t1 t2 t3 t4 HO HB HS0 ho0
        go_wp2_with fail
        go_loopw [11, 15] (fun o y w4 => ∃ i : Nat, y = .int .i64 i ∧ i ≤ R.length ∧ Hid (OwnR w4 w.heap.size o (zz (WaysP.shTo (WaysP.sh m (BellP.ct l) t f) (BellP.ct l) t d k ++ (R.take i).map fun p => t :: p))) ∧ Hid (Below w.heap.size w w4) ∧ Hid (w3.heap.size ≤ w4.heap.size ∧ (∀ g, S0 ≤ g → g < w3.heap.size → w4.heap[g]? = w3.heap[g]?) ∧ ∀ g, o.ownBlock = some g → g < S0 ∨ w3.heap.size ≤ g)) (fun _ y _ => R.length - (RowKit.intOf y).toNat)
        case atStart => exact ⟨0, rfl, Nat.zero_le _, by rw [List.take_zero, List.map_nil, List.append_nil]; exact HO3, HB3, Lib.hid ⟨Nat.le_refl _, fun _ _ _ => rfl, HOB.out⟩⟩
        case round =>
          obtain ⟨i, rfl, hi, HO, HB, HG⟩ := hrel
          by_cases hin : i < R.length
          · obtain ⟨w4, HW4⟩ : ∃ w4, w4 = wr := ⟨_, rfl⟩
            subst HW4
            have hw4 := HB.out.size
            have hRl : R.length ≤ 4747561509943 := by have := HBD.out; omega
            have B1 := (Below.refl w4.heap.size w4).alloc (Nat.le_refl _) (.cells #[.int .i64 t] 3)
            obtain ⟨_, _, e0, hs⟩ := ((HM.out.frame HG.out.2.1).keep B1).arg
            injection e0 with e1 e2 e3
            clear e2
            subst e1 e3
            rcases hs with e | ⟨bm, om, rfl, hbm, hS⟩
            · have := congrArg List.length e
              rw [zz_len] at this
              rw [this] at hin
              exact absurd hin (by simp)
            · obtain ⟨qv, a0, hq⟩ := hS i (by rw [zz_len]; exact hin)
              rw [zz_at R i hin] at hq
              have hT : (R.take (i + 1)) = R.take i ++ [R[i]!] := by
                rw [getElem!_pos R i hin, List.take_add_one, List.getElem?_eq_getElem hin]; rfl
              have hql := (HQ.out R[i]! (by rw [getElem!_pos R i hin]; exact List.getElem_mem hin)).short HK.out
              have HT := Lib.hid (show zz (WaysP.shTo (WaysP.sh m (BellP.ct l) t f) (BellP.ct l) t d k ++ (R.take (i + 1)).map fun p => t :: p) = zz (WaysP.shTo (WaysP.sh m (BellP.ct l) t f) (BellP.ct l) t d k ++ (R.take i).map fun p => t :: p) ++ [(t : Int) :: WaysP.zs R[i]!] by
                rw [hT, List.map_append, ← List.append_assoc, zz_app]; rfl)
              have HN : Hid ((zz (WaysP.shTo (WaysP.sh m (BellP.ct l) t f) (BellP.ct l) t d k ++ (R.take i).map fun p => t :: p)).length ≤ 4747561509943) := Lib.hid (by
                have := HBD.out
                rw [zz_len, List.length_append, List.length_map, List.length_take]; omega)
              obtain ⟨pq, cq, rfl, _⟩ := id hq
              have HQv := Lib.hid hq
              have hzl : (WaysP.zs R[i]!).length ≤ 17 := by rw [WaysP.zs_len]; omega
              clear hS hq hT hql hbm
              generalize WaysP.zs R[i]! = q at a0 HT HQv hzl
              generalize zz (WaysP.shTo (WaysP.sh m (BellP.ct l) t f) (BellP.ct l) t d k ++ (R.take i).map fun p => t :: p) = M at HO HT HN
              have OO := Lib.hid (OwnI.one w4 w.heap.size t hw4)
              have HB1 := Lib.hid B1
              clear B1
              go_wp2_with (at_builtin; first | (refine wpl_append_listI rfl _ _ rfl w.heap.size _ _ [(t : Int)] q rfl rfl OO.out HQv.out (by simp; omega) (Nat.le_trans hw4 (by simp)) ?_; intro v5 w5 hO5 hg5; have hO5 : OwnI w5 w.heap.size v5 ((t : Int) :: q) := hO5; obtain ⟨p5, c5, rfl, _⟩ := id hO5.arg; rw [List.length_cons] at hO5 ⊢; have HB5 := Lib.hid (HB1.out.grown hg5 (by simp) (fun g hg => by have := Option.some.inj (show some w4.heap.size = some g from hg); omega)); clear hg5; have HB6 := Lib.hid (HB5.out.alloc HB5.out.size (.cells #[.slice p5 (q.length + 1) c5] 23)); have HO6 := Lib.hid (HO.out.keep HB6.out); have HR6 := Lib.hid (hO5.keep ((Below.refl w5.heap.size w5).alloc (Nat.le_refl _) (.cells #[.slice p5 (q.length + 1) c5] 23))); clear hO5) | (refine wpl_append_newR rfl _ _ rfl w.heap.size _ M _ ((t : Int) :: q) w5.heap.size 1 rfl rfl HO6.out HR6.out (by simp) (by have := HN.out; omega) (Nat.le_trans hw4 HB6.out.size) ?_; intro v7 w7 hO7 hg7 hn7))
              have hpast := HO.out.past
              have g6 := HB6.out.size
              have g7 := hg7.size
              obtain ⟨h1, h2, h3⟩ := HG.out
              go_roundw
              case rel =>
                refine ⟨i + 1, by go_num, by omega, Lib.hid (by rw [HT.out]; exact hO7), Lib.hid ((Below.two HB.out HB6.out).grown hg7 (Nat.le_trans hw4 g6) hpast), Lib.hid ⟨Nat.le_trans h1 (Nat.le_trans g6 g7), fun g q1 q2 => ?_, fun g hg => ?_⟩⟩
                · rw [hg7.block g (Nat.lt_of_lt_of_le q2 (Nat.le_trans h1 g6)) (fun e => by have := h3 g e.symm; omega), HB6.out.block g (by omega)]
                  exact h2 g q1 q2
                · rcases hn7 with e | e
                  · rw [e] at hg; exact h3 g hg
                  · rw [e] at hg
                    have := Option.some.inj hg
                    exact Or.inr (by rw [← this]; exact Nat.le_trans h1 g6)
              case measure => simp [RowKit.intOf]; omega
          · obtain rfl : i = R.length := by omega
            rw [List.take_length] at HO
            go_wp2_with fail
            go_roundw
            case rel => exact ⟨k + 1, by go_num, by omega, Lib.hid (by rw [HEk.out]; exact HO.out), HB⟩
            case measure => simp [RowKit.intOf]; omega
    · obtain rfl : k = m := by omega
      go_wp2_with fail
      go_ret
      exact ⟨_, rfl, by rw [E.out]; exact HO.out, HB.out⟩
/-- waywardenref1.Shortest. -/
theorem shortest_any (m t : Nat) (v : Value) (l : List Lk) (hn : l.length < 4611686018427387904) (hr : Right m l) (h8 : m ≤ 8) (ht : t < m) : ∀ f, Shorts m t f l v
  | 0 => fun _ _ _ _ _ h => by omega
  | f + 1 => fun w a d h ha hd h15 => by
    by_cases e : a = t
    · subst e
      by_cases e2 : d = 0
      · subst e2
        have E : zz (WaysP.sh m (BellP.ct l) a (f + 1) 0 a) = [[(a : Int)]] := by rw [WaysP.sh, if_pos ⟨rfl, rfl⟩]; rfl
        rw [E]
        exact shortest_own w m a v
      · exact shortest_s2 w m a f d v l hn hr h8 h ha hd h15 e2 (shortest_any m a v l hn hr h8 ht f)
    · exact shortest_s1 w m t f a d v l hn hr h8 h ha ht hd h15 e (shortest_any m t v l hn hr h8 ht f)
end Go.Proofs.YtomfkmclgabcpaaDoor
