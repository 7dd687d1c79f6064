/-
  The law SpfUps at every number of nodes, every links and two nodes: it tells true; what lay in memory stays.
-/
import Derived.Test.YtjgmehmhhplkaaaSpfNearest
import Derived.Test.YtjgmehmhhplkaaaSpfLists
import Derived.Test.YtjgmehmhhplkaaaRefCost
import Derived.Deep.QuietTactic
import Derived.BigQuiet
namespace Go.Proofs.Ytjgmehmhhplkaaa
open Go.RowKit Go.Lib

set_option maxHeartbeats 2000000 in
set_option maxRecDepth 100000 in
theorem spfUps_1 (w : World) (n a i : Int) (v : Value) (l : List Lk) (hn : l.length < 4611686018427387904) (h : ArgK w v l) (hg : spfBad n l a ≠ 0) :
    Calls Try.prog 5 #[.int .i64 n, v, .int .i64 a, .int .i64 i] w fun e w' => e = .returned (.bool true) ∧ Below w.heap.size w w' := by
  have HL := Lib.hid (h)
  have HR := Lib.hid (fun w1 (h1 : ArgK w1 v l) => far_bad w1 n a v l hn h1 hg)
  have HU := Lib.hid (fun w1 (h1 : ArgK w1 v l) => ups_bad w1 n a v l hn h1 hg)
  rw [spf_err hg] at HR HU
  clear h
  generalize spfBad n l a = q at HR HU hg
  have HZZ : Hid (Below w.heap.size w w) := Lib.hid (Below.refl _ _)
  go_enter Try.func5, Try.ntmps5
  go_wp2_with fail
  refine (nearest_any w).mono ?_
  rintro e w1 ⟨rfl, hb1⟩
  have HL' := Lib.hid (HL.out.below hb1)
  have HZZ' := Lib.hid (Below.two HZZ.out hb1)
  clear hb1 HZZ HL
  have HZZ := HZZ'
  clear HZZ'
  have HL := HL'
  clear HL'
  go_wp2_with fail
  refine (HU.out _ HL.out).mono ?_
  rintro e w2 ⟨rfl, hb2⟩
  have HL' := Lib.hid (HL.out.below hb2)
  have HZZ' := Lib.hid (Below.two HZZ.out hb2)
  clear hb2 HZZ HL
  have HZZ := HZZ'
  clear HZZ'
  have HL := HL'
  clear HL'
  go_wp2_with fail
  refine (HR.out _ HL.out).mono ?_
  rintro e w3 ⟨rfl, hb3⟩
  have HL' := Lib.hid (HL.out.below hb3)
  have HZZ' := Lib.hid (Below.two HZZ.out hb3)
  clear hb3 HZZ HL
  have HZZ := HZZ'
  clear HZZ'
  have HL := HL'
  clear HL'
  go_wp2_with fail
  go_quiet (fail)
  go_wp2_with fail
  go_ret
  exact ⟨rfl, Below.drewN HZZ.out _⟩
set_option maxHeartbeats 2000000 in
set_option maxRecDepth 100000 in
theorem spfUps_2 (w : World) (m t : Nat) (i : Int) (v : Value) (l : List Lk) (hn : l.length < 4611686018427387904) (h : ArgK w v l) (hg : gBad m l = 0) (ht : t < m) (hc : i < 0 ∨ (m : Int) ≤ i) :
    Calls Try.prog 5 #[.int .i64 m, v, .int .i64 t, .int .i64 i] w fun e w' => e = .returned (.bool true) ∧ Below w.heap.size w w' := by
  have HL := Lib.hid (h)
  have hR := ((gBad_zero m l).1 hg).2
  have hm := ((gBad_zero m l).1 hg).1
  have HK := Lib.hid (BellP.ct_cost hR)
  have HI := Lib.hid (fun i j => BellP.ct_int hR i j)
  have HS := Lib.hid (SpfP.ct_sym l)
  clear h hR
  have HZZ : Hid (Below w.heap.size w w) := Lib.hid (Below.refl _ _)
  go_enter Try.func5, Try.ntmps5
  go_wp2_with fail
  refine (nearest_any w).mono ?_
  rintro e w1 ⟨rfl, hb1⟩
  have HL' := Lib.hid (HL.out.below hb1)
  have HZZ' := Lib.hid (Below.two HZZ.out hb1)
  clear hb1 HZZ HL
  have HZZ := HZZ'
  clear HZZ'
  have HL := HL'
  clear HL'
  go_wp2_with fail
  refine (ups_ok w1 m t v l hn HL.out hg ht).mono ?_
  rintro e w2 ⟨u, vs, rfl, hT, hb2⟩
  have HL' := Lib.hid (HL.out.below hb2)
  have HZZ' := Lib.hid (Below.two HZZ.out hb2)
  have HT := Lib.hid (hT)
  clear hb2 HZZ HL
  have HZZ := HZZ'
  clear HZZ'
  have HL := HL'
  clear HL'
  clear hT
  go_wp2_with fail
  refine (far_ok w2 m t v l hn HL.out hg ht).mono ?_
  rintro e w3 ⟨f1, _, rfl, hV, hb3⟩
  have HL' := Lib.hid (HL.out.below hb3)
  have HT' := Lib.hid (HT.out.keep hb3)
  have HZZ' := Lib.hid (Below.two HZZ.out hb3)
  have HX := Lib.hid (hV)
  clear hb3 HZZ HL HT
  have HZZ := HZZ'
  clear HZZ'
  have HL := HL'
  clear HL'
  have HT := HT'
  clear HT'
  clear hV
  rcases hc with hc | hc
  · go_wp2_with fail
    go_quiet (fail)
    go_wp2_with fail
    go_ret
    exact ⟨rfl, Below.drewN HZZ.out _⟩
  · have h0 : ¬ i < 0 := by omega
    have h2 : i ≥ (m : Int) := by omega
    clear hc
    go_wp2_with fail
    go_quiet (fail)
    go_wp2_with fail
    go_ret
    exact ⟨rfl, Below.drewN HZZ.out _⟩
set_option maxHeartbeats 2000000 in
set_option maxRecDepth 100000 in
theorem spfUps_3 (w : World) (m t : Nat) (i : Nat) (v : Value) (l : List Lk) (hn : l.length < 4611686018427387904) (h : ArgK w v l) (hg : gBad m l = 0) (ht : t < m) (hi : i < m) :
    Calls Try.prog 5 #[.int .i64 m, v, .int .i64 t, .int .i64 i] w fun e w' => e = .returned (.bool true) ∧ Below w.heap.size w w' := by
  have HL := Lib.hid (h)
  have hR := ((gBad_zero m l).1 hg).2
  have hm := ((gBad_zero m l).1 hg).1
  have HK := Lib.hid (BellP.ct_cost hR)
  have HI := Lib.hid (fun i j => BellP.ct_int hR i j)
  have HS := Lib.hid (SpfP.ct_sym l)
  clear h hR
  have HZZ : Hid (Below w.heap.size w w) := Lib.hid (Below.refl _ _)
  go_enter Try.func5, Try.ntmps5
  go_wp2_with fail
  refine (nearest_any w).mono ?_
  rintro e w1 ⟨rfl, hb1⟩
  have HL' := Lib.hid (HL.out.below hb1)
  have HZZ' := Lib.hid (Below.two HZZ.out hb1)
  clear hb1 HZZ HL
  have HZZ := HZZ'
  clear HZZ'
  have HL := HL'
  clear HL'
  go_wp2_with fail
  refine (ups_ok w1 m t v l hn HL.out hg ht).mono ?_
  rintro e w2 ⟨u, vs, rfl, hT, hb2⟩
  have HL' := Lib.hid (HL.out.below hb2)
  have HZZ' := Lib.hid (Below.two HZZ.out hb2)
  have HT := Lib.hid (hT)
  clear hb2 HZZ HL
  have HZZ := HZZ'
  clear HZZ'
  have HL := HL'
  clear HL'
  clear hT
  go_wp2_with fail
  refine (far_ok w2 m t v l hn HL.out hg ht).mono ?_
  rintro e w3 ⟨f1, _, rfl, hV, hb3⟩
  have HL' := Lib.hid (HL.out.below hb3)
  have HT' := Lib.hid (HT.out.keep hb3)
  have HZZ' := Lib.hid (Below.two HZZ.out hb3)
  have HX := Lib.hid (hV)
  clear hb3 HZZ HL HT
  have HZZ := HZZ'
  clear HZZ'
  have HL := HL'
  clear HL'
  have HT := HT'
  clear HT'
  clear hV
  have h0 : ¬ (i : Int) < 0 := by omega
  have h2 : ¬ (i : Int) ≥ (m : Int) := by omega
  have ci := HT.out.c i hi
  have ui := HT.out.lt
  have fi := HX.out.c i hi
  have HSome := Lib.hid (SpfP.ups_some HK.out ht i hi)
  have hbd := BellP.far_bd m (BellP.ct l) t i
  have HMem := Lib.hid (fun x => SpfP.mem_upsTo m (BellP.ct l) t i x m)
  have hlen := SpfP.upsTo_len m (BellP.ct l) t i m
  obtain ⟨p, c, hv, hp⟩ := (HT.out.o i hi).arg
  rw [hv] at ci
  clear HT hv
  have hbi : ∀ j, SpfP.isUp m (BellP.ct l) t i j = true → j ≠ i ∧ BellP.far m (BellP.ct l) t i < 16 ∧ BellP.far m (BellP.ct l) t j + BellP.ct l i j = BellP.far m (BellP.ct l) t i := fun j h => (SpfP.isUp_iff m (BellP.ct l) t i j).1 h
  have HBi := Lib.hid hbi
  clear hbi
  have hF : SpfP.upsTo m (BellP.ct l) t i m = SpfP.ups m (BellP.ct l) t i := rfl
  rw [hF] at hlen
  have HMem : Hid (∀ x, x ∈ SpfP.ups m (BellP.ct l) t i ↔ ∃ j : Nat, j < m ∧ x = j ∧ SpfP.isUp m (BellP.ct l) t i j = true) := HMem
  clear hF
  generalize SpfP.ups m (BellP.ct l) t i = F at ci HSome HMem hlen hp
  rcases hp with e | ⟨b, off, rfl, hb, hs⟩
  · subst e
    have hd : ¬ (i ≠ t ∧ BellP.far m (BellP.ct l) t i < 16) := fun h => HSome.out.2 h rfl
    generalize BellP.far m (BellP.ct l) t i = y at fi hd hbd HBi
    go_wp2_with fail
    go_loopw [14] (fun x wr => x = .int .i64 0 ∧ wr = w3) (fun _ _ => 0)
    case atStart => exact ⟨rfl, rfl⟩
    case round =>
      obtain ⟨rfl, rfl⟩ := hrel
      go_wp2_with fail
      by_cases hit : i = t
      · subst hit
        go_quiet (fail)
        go_wp2_with fail
        go_ret
        exact ⟨rfl, Below.drewN HZZ.out _⟩
      · have t1 : ((i : Int) != (t : Int)) = true := by
          have : ¬ (i : Int) = t := by omega
          simpa using this
        have t2 : ¬ (y : Int) < 16 := by
          have : ¬ y < 16 := fun h => hd ⟨hit, h⟩
          omega
        go_quiet (fail)
        go_wp2_with fail
        go_ret
        exact ⟨rfl, Below.drewN HZZ.out _⟩
  · have e0 : F = [] ∨ F ≠ [] := by
      by_cases h : F = []
      · exact Or.inl h
      · exact Or.inr h
    have hFl : F = [] → ¬ (i ≠ t ∧ BellP.far m (BellP.ct l) t i < 16) := fun e h => HSome.out.2 h e
    have hFs : F ≠ [] → i ≠ t ∧ BellP.far m (BellP.ct l) t i < 16 := fun e => HSome.out.1 e
    have HF0 := Lib.hid hFl; have HF1 := Lib.hid hFs; have HE := Lib.hid e0
    have HCI := Lib.hid ci; have HSN := Lib.hid hs
    clear hFl hFs e0 hs
    have d0 : decide ((i : Int) < 0) = false := by simp
    have d1 : decide (m ≤ i) = false := by simpa using hi
    go_wp2_with fail
    clear ci
    (try simp only [d0, d1, Bool.or_false, Bool.or_self])
    clear d0 d1
    go_loopw [14] (fun x wr => ∃ k : Nat, x = .int .i64 k ∧ k ≤ F.length ∧ Hid (Below w3.heap.size w3 wr)) (fun x _ => F.length - (RowKit.intOf x).toNat)
    case atStart => exact ⟨0, rfl, Nat.zero_le _, Lib.hid (Below.refl _ _)⟩
    case round =>
      obtain ⟨k, rfl, hk, hB⟩ := hrel
      have ci := (hB.out.cell (p := ⟨u, i, none⟩) ui).trans HCI.out
      by_cases hkn : k < F.length
      · have ck := (hB.out.cell (p := ⟨b, off + k, none⟩) hb).trans (HSN.out k hkn)
        obtain ⟨j, hj, hjk, hup⟩ := (HMem.out F[k]!).1 (by rw [getElem!_pos F k hkn]; exact List.getElem_mem hkn)
        rw [hjk] at ck
        obtain ⟨hji, hd16, hsum⟩ := HBi.out j hup
        have HCO := Lib.hid (costOf_any wr v l j i hn (HL.out.below hB.out))
        have hcj : costG l (j : Int) (i : Int) = (BellP.ct l i j : Int) := by rw [← HI.out j i, HS.out j i]
        rw [hcj] at HCO
        have hoff := HK.out.off i j (Ne.symm hji)
        have HV := HX.out.keep hB.out
        have vj := HV.c j hj
        have vi := HV.c i hi
        clear HV hjk hcj hup
        generalize BellP.far m (BellP.ct l) t j = x at vj hsum
        generalize hy : BellP.far m (BellP.ct l) t i = y at vi hsum hd16
        generalize BellP.ct l i j = cc at hsum hoff HCO
        clear fi hbd hy
        go_wp2_with fail
        refine HCO.out.mono ?_
        rintro e wz ⟨rfl, rfl⟩
        have t1 : ((cc : Int) == 0) = false := by
          have : ¬ (cc : Int) = 0 := by omega
          simpa using this
        have t2 : ((cc : Int) == 16) = false := by
          have : ¬ (cc : Int) = 16 := by omega
          simpa using this
        have t3 : (x : Int) + (cc : Int) = (y : Int) := by omega
        clear HCO hsum hoff
        go_wp2_with fail
        go_quiet (fail)
        go_wp2_with fail
        go_roundw
        case rel => exact ⟨k + 1, by go_num, by omega, Lib.hid (Below.drewN hB.out _)⟩
        case measure => simp [RowKit.intOf]; omega
      · obtain rfl : k = F.length := by omega
        have vi := (HX.out.keep hB.out).c i hi
        clear fi
        go_wp2_with fail
        rcases HE.out with hz | hz
        · have hd := HF0.out hz
          have hzl : F.length = 0 := by rw [hz]; rfl
          by_cases hit : i = t
          · subst hit
            have t0 : ¬ (F.length : Int) > 0 := by omega
            go_quiet (fail)
            go_wp2_with fail
            go_ret
            exact ⟨rfl, Below.drewN (Below.two HZZ.out hB.out) _⟩
          · have t0 : ¬ (F.length : Int) > 0 := by omega
            have t1 : ((i : Int) != (t : Int)) = true := by
              have : ¬ (i : Int) = t := by omega
              simpa using this
            have hd : ¬ BellP.far m (BellP.ct l) t i < 16 := fun h => hd ⟨hit, h⟩
            generalize BellP.far m (BellP.ct l) t i = y at vi hd
            have t2 : ¬ (y : Int) < 16 := by omega
            go_quiet (fail)
            go_wp2_with fail
            go_ret
            exact ⟨rfl, Below.drewN (Below.two HZZ.out hB.out) _⟩
        · obtain ⟨hit, hlt⟩ := HF1.out hz
          have hzl : 0 < F.length := by
            cases F with
            | nil => exact absurd rfl hz
            | cons x r => simp
          have t0 : (F.length : Int) > 0 := by omega
          have t1 : ((i : Int) != (t : Int)) = true := by
            have : ¬ (i : Int) = t := by omega
            simpa using this
          generalize BellP.far m (BellP.ct l) t i = y at vi hlt
          have t2 : (y : Int) < 16 := by omega
          go_quiet (fail)
          go_wp2_with fail
          go_ret
          exact ⟨rfl, Below.drewN (Below.two HZZ.out hB.out) _⟩
theorem spfUps_walk (w : World) (n a i : Int) (v : Value) (l : List Lk) (hn : l.length < 4611686018427387904) (h : ArgK w v l) :
    Calls Try.prog 5 #[.int .i64 n, v, .int .i64 a, .int .i64 i] w fun e w' => e = .returned (.bool true) ∧ Below w.heap.size w w' := by
  by_cases h1 : spfBad n l a = 0
  · obtain ⟨m, t, rfl, rfl, _, _, ht, hg, hr⟩ := spf_nat h1
    by_cases h3 : i < 0 ∨ (m : Int) ≤ i
    · exact spfUps_2 w m t i v l hn h hg ht h3
    · obtain ⟨z, rfl⟩ : ∃ z : Nat, i = z := ⟨i.toNat, by omega⟩
      exact spfUps_3 w m t z v l hn h hg ht (by omega)
  · exact spfUps_1 w n a i v l hn h h1
end Go.Proofs.Ytjgmehmhhplkaaa
