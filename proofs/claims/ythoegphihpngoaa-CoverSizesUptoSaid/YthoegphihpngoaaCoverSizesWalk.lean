/-
  The statement CoverSizes' function answers true at every two lists that together take no more than 2^47 bytes; what lay in memory stays.
-/
import Derived.Test.YthoegphihpngoaaCoverSize
import Derived.Test.YthoegphihpngoaaCoverFact
namespace Go.Proofs.Ythoegphihpngoaa
open Go.RowKit Go.Lib

/-- What lies at an address that a list may have: its cells, in any world that keeps it. -/
theorem Arg.cells {w : World} {v : Value} {l : List Nt} (h : Arg w v l) : (v = .slice none 0 0 ∨ ∃ c, v = .slice none 0 c ∧ l = []) ∨ ∃ a c, v = .slice (some a) l.length c ∧ ∀ j u, (cellsL l)[j]? = some u → w.cell? (a.add j) = some u := by
  obtain ⟨p, c, rfl, h⟩ := h
  rcases h with rfl | ⟨b, off, rfl, _, hs⟩
  · cases p with
    | none => exact Or.inl (Or.inr ⟨c, rfl, rfl⟩)
    | some a => exact Or.inr ⟨a, c, rfl, fun j u hu => by simp [cellsL] at hu⟩
  · exact Or.inr ⟨_, c, rfl, fun j u hu => by rw [Addr.add_lit]; exact hs.cells j u hu⟩

theorem argCell {w w1 : World} {a : Addr} {u : Value} (hb : Below w.heap.size w w1) (h : w.cell? a = some u) : w1.cell? a = some u :=
  (hb.cell (p := a) (World.block_lt_of_cell? _ _ h)).trans h

set_option maxHeartbeats 8000000 in
set_option maxRecDepth 100000 in
theorem coverSizes_walk (w : World) (p p' : Option Addr) (c c' : Nat) (l m : List Nt) (h : Arg w (.slice p l.length c) l) (h' : Arg w (.slice p' m.length c') m) (hn : (l.length + m.length) * 16 ≤ 140737488355328) (hok : ∀ x ∈ l, x.1 < 4294967296) (hok' : ∀ x ∈ m, x.1 < 4294967296) :
    Calls Try.prog 5 #[.slice p l.length c, .slice p' m.length c'] w fun e w' => e = .returned (.bool true) ∧ Below w.heap.size w w' := by
  have HA := Lib.hid h; have HA' := Lib.hid h'; have HOK := Lib.hid hok; have HOK' := Lib.hid hok'
  clear h h' hok hok'
  have hi : Try.prog.info? 30 = some infoN := by kernel_rfl
  obtain ⟨z, hz⟩ : ∃ z, infoN.zero = some z ∧ z.cells.size = 2 := ⟨.agg #[.int .u32 0, .int .i64 0], by kernel_rfl, by kernel_rfl⟩
  have hby : infoN.bytes = 16 := by kernel_rfl
  go_enter Try.func5, Try.ntmps5
  go_wp2_with fail
  refine (covered_any w).mono ?_
  rintro e w1 ⟨rfl, b1⟩
  go_wp2_with fail
  refine (size_any w1 _ l (HA.out.below b1) (by omega) HOK.out).mono ?_
  rintro e w2 ⟨rfl, b2⟩
  have b02 := Below.two b1 b2
  go_wp2_with fail
  refine (size_any w2 _ m (HA'.out.below b02) (by omega) HOK'.out).mono ?_
  rintro e w3 ⟨rfl, b3⟩
  have b03 := Below.two b02 b3
  have hlm : (l ++ m).length = l.length + m.length := List.length_append
  go_upto_region 4 with fail
  go_cut [10, 11] from 12 to 92 (fun s10 s11 wc => s10 = .int .i64 (sizeE (l ++ m) : Int) ∧ s11 = errV (badL (l ++ m)) ∧ Hid (Below w.heap.size w wc))
  case first =>
    have el : p = none → l = [] := fun e => by
      obtain ⟨q, c0, e1, h1 | ⟨_, _, h1, _⟩⟩ := HA.out
      · exact h1
      · rw [e, h1] at e1; simp at e1
    have em : p' = none → m = [] := fun e => by
      obtain ⟨q, c0, e1, h1 | ⟨_, _, h1, _⟩⟩ := HA'.out
      · exact h1
      · rw [e, h1] at e1; simp at e1
    have EL := Lib.hid el; have EM := Lib.hid em
    clear el em
    have cl : ∀ a, p = some a → ∀ j u, (cellsL l)[j]? = some u → w3.cell? (a.add j) = some u := fun a e => by
      rcases (HA.out.below b03).cells with (e1 | ⟨_, e1, _⟩) | ⟨a1, c1, e1, h1⟩
      · rw [e] at e1; simp at e1
      · rw [e] at e1; simp at e1
      · rw [e] at e1; simp at e1; rw [e1.1]; exact h1
    have cm : ∀ a, p' = some a → ∀ j u, (cellsL m)[j]? = some u → w3.cell? (a.add j) = some u := fun a e => by
      rcases (HA'.out.below b03).cells with (e1 | ⟨_, e1, _⟩) | ⟨a1, c1, e1, h1⟩
      · rw [e] at e1; simp at e1
      · rw [e] at e1; simp at e1
      · rw [e] at e1; simp at e1; rw [e1.1]; exact h1
    have CL := Lib.hid cl; have CM := Lib.hid cm
    clear cl cm
    have M0 : Below w3.heap.size w3 (w3.alloc (.cells #[] 30)) := (Below.refl _ w3).alloc (Nat.le_refl _) _
    cases p with
    | none =>
      have e0 := EL.out rfl
      subst e0
      cases p' with
      | none =>
        have e1 := EM.out rfl
        subst e1
        have BB := M0
        have AA : Arg (w3.alloc (.cells #[] 30)) (.slice (some ⟨w3.heap.size, 0, none⟩) 0 0) (([] : List Nt) ++ []) := ⟨_, 0, rfl, Or.inl rfl⟩
        go_wp2_with fail
        refine (size_any _ _ (([] : List Nt) ++ []) AA (by first | (simp; done) | (simp; omega)) (by
          intro x hx
          rw [List.mem_append] at hx
          rcases hx with hx | hx
          · exact HOK.out x hx
          · exact HOK'.out x hx)).mono ?_
        rintro e w9 ⟨rfl, b9⟩
        go_wp2_with fail
        go_meet
        case rel => exact ⟨by first | rfl | simp, by first | rfl | simp, Lib.hid (Below.two b03 (Below.two BB b9))⟩
      | some a' =>
        go_wp2_with (at_builtin; refine wpList_append_own _ rfl _ _ 22 rfl w3.heap.size 30 infoN z 2 16 (by kernel_rfl) hi hz.1 infoN_size hby hz.2 (by omega) _ 0 ([]) rfl (World.ownsRow_made w3 #[] 0 (Nat.le_refl _) (Nat.zero_le _) (by simp)) a' m.length c' (cellsL m) rfl ?qx3c1 ?qx3c2 ?qx3c3 ?qx3c4 ?qx3c5 ?qx3c6 ?_)
        case qx3c1 => exact cellsL_len m
        case qx3c2 => exact fun j u hj => Lib.cell?_alloc_some _ (CM.out a' rfl j u hj)
        case qx3c3 => exact cellsL_one m
        case qx3c4 => simp only [maxLen]; omega
        case qx3c5 => omega
        try (case qx3c6 => simp)
        intro x3 w_x3 hown_x3 hgrow_x3 hnil_x3
        have BB : Below w3.heap.size w3 w_x3 := M0.grown hgrow_x3 (by simp) (by intro k hk; simp [Value.ownBlock] at hk; omega)
        have AA : Arg w_x3 x3 (([] : List Nt) ++ m) := by
          have o : Own w_x3 w3.heap.size x3 m := by simpa [Own] using hown_x3
          exact o.arg
        clear hown_x3 hgrow_x3 hnil_x3
        go_wp2_with fail
        refine (size_any _ _ (([] : List Nt) ++ m) AA (by first | (simp; done) | (simp; omega)) (by
          intro x hx
          rw [List.mem_append] at hx
          rcases hx with hx | hx
          · exact HOK.out x hx
          · exact HOK'.out x hx)).mono ?_
        rintro e w9 ⟨rfl, b9⟩
        go_wp2_with fail
        go_meet
        case rel => exact ⟨by first | rfl | simp, by first | rfl | simp, Lib.hid (Below.two b03 (Below.two BB b9))⟩
    | some a =>
      cases p' with
      | none =>
        have e1 := EM.out rfl
        subst e1
        go_wp2_with (at_builtin; refine wpList_append_own _ rfl _ _ 22 rfl w3.heap.size 30 infoN z 2 16 (by kernel_rfl) hi hz.1 infoN_size hby hz.2 (by omega) _ 0 ([]) rfl (World.ownsRow_made w3 #[] 0 (Nat.le_refl _) (Nat.zero_le _) (by simp)) a l.length c (cellsL l) rfl ?qx1c1 ?qx1c2 ?qx1c3 ?qx1c4 ?qx1c5 ?qx1c6 ?_)
        case qx1c1 => exact cellsL_len l
        case qx1c2 => exact fun j u hj => Lib.cell?_alloc_some _ (CL.out a rfl j u hj)
        case qx1c3 => exact cellsL_one l
        case qx1c4 => simp only [maxLen]; omega
        case qx1c5 => omega
        try (case qx1c6 => simp)
        intro x1 w_x1 hown_x1 hgrow_x1 hnil_x1
        have BB : Below w3.heap.size w3 w_x1 := M0.grown hgrow_x1 (by simp) (by intro k hk; simp [Value.ownBlock] at hk; omega)
        have o : Own w_x1 w3.heap.size x1 l := by simpa [Own] using hown_x1
        have AA : Arg w_x1 x1 (l ++ []) := by rw [List.append_nil]; exact o.arg
        obtain ⟨_, ⟨e5, _⟩ | ⟨g, cap, cs, e5, _⟩⟩ := o
        · exact absurd e5 (by simpa using hnil_x1)
        subst e5
        clear hown_x1 hgrow_x1 hnil_x1
        go_wp2_with fail
        refine (size_any _ _ (l ++ []) AA (by first | (simp; done) | (simp; omega)) (by
          intro x hx
          rw [List.mem_append] at hx
          rcases hx with hx | hx
          · exact HOK.out x hx
          · exact HOK'.out x hx)).mono ?_
        rintro e w9 ⟨rfl, b9⟩
        go_wp2_with fail
        go_meet
        case rel => exact ⟨by first | rfl | simp, by first | rfl | simp, Lib.hid (Below.two b03 (Below.two BB b9))⟩
      | some a' =>
        go_wp2_with (at_builtin; refine wpList_append_own _ rfl _ _ 22 rfl w3.heap.size 30 infoN z 2 16 (by kernel_rfl) hi hz.1 infoN_size hby hz.2 (by omega) _ 0 ([]) rfl (World.ownsRow_made w3 #[] 0 (Nat.le_refl _) (Nat.zero_le _) (by simp)) a l.length c (cellsL l) rfl ?qx1c1 ?qx1c2 ?qx1c3 ?qx1c4 ?qx1c5 ?qx1c6 ?_)
        case qx1c1 => exact cellsL_len l
        case qx1c2 => exact fun j u hj => Lib.cell?_alloc_some _ (CL.out a rfl j u hj)
        case qx1c3 => exact cellsL_one l
        case qx1c4 => simp only [maxLen]; omega
        case qx1c5 => omega
        try (case qx1c6 => simp)
        intro x1 w_x1 hown_x1 hgrow_x1 hnil_x1
        have B1 : Below w3.heap.size w3 w_x1 := M0.grown hgrow_x1 (by simp) (by intro k hk; simp [Value.ownBlock] at hk; omega)
        have o1 : w_x1.ownsRow w3.heap.size 30 2 x1 l.length (cellsL l) := by simpa using hown_x1
        clear hown_x1 hgrow_x1 hnil_x1
        go_wp2_with (at_builtin; refine wpList_append_own _ rfl _ _ 22 rfl w3.heap.size 30 infoN z 2 16 (by kernel_rfl) hi hz.1 infoN_size hby hz.2 (by omega) _ l.length (cellsL l) rfl o1 a' m.length c' (cellsL m) rfl ?qx2c1 ?qx2c2 ?qx2c3 ?qx2c4 ?qx2c5 ?qx2c6 ?_)
        case qx2c1 => exact cellsL_len m
        case qx2c2 => exact fun j u hj => argCell B1 (CM.out a' rfl j u hj)
        case qx2c3 => exact cellsL_one m
        case qx2c4 => simp only [maxLen]; omega
        case qx2c5 => omega
        try (case qx2c6 => exact B1.size)
        intro x2 w_x2 hown_x2 hgrow_x2 hnil_x2
        have BB : Below w3.heap.size w3 w_x2 := B1.grown hgrow_x2 B1.size (fun q hq => (o1.lt q hq).1)
        have AA : Arg w_x2 x2 (l ++ m) := by
          have o : Own w_x2 w3.heap.size x2 (l ++ m) := by unfold Own; rw [List.length_append, cellsL_app]; exact hown_x2
          exact o.arg
        clear hown_x2 hgrow_x2 hnil_x2
        go_wp2_with fail
        refine (size_any _ _ (l ++ m) AA (by first | (simp; done) | (simp; omega)) (by
          intro x hx
          rw [List.mem_append] at hx
          rcases hx with hx | hx
          · exact HOK.out x hx
          · exact HOK'.out x hx)).mono ?_
        rintro e w9 ⟨rfl, b9⟩
        go_wp2_with fail
        go_meet
        case rel => exact ⟨by first | rfl | simp, by first | rfl | simp, Lib.hid (Below.two b03 (Below.two BB b9))⟩
  case rest =>
    obtain ⟨rfl, rfl, HB⟩ := hcut
    have nz : ∀ k : Int, k ≠ 0 → errV k = .iface 47 (.int .i64 k) := fun k h => if_neg h
    by_cases q1 : badL l = 0
    · by_cases q2 : badL m = 0
      · have z1 := (badL_zero l).1 q1
        have z2 := (badL_zero m).1 q2
        have lV : ∀ x ∈ l, x.V := fun x hx => ⟨HOK.out x hx, z1.1 x hx⟩
        have mV : ∀ x ∈ m, x.V := fun x hx => ⟨HOK'.out x hx, z2.1 x hx⟩
        have eA : sizeE l = sumSz (cov l) := if_pos q1
        have eB : sizeE m = sumSz (cov m) := if_pos q2
        by_cases q3 : badL (l ++ m) = 0
        · have eC : sizeE (l ++ m) = sumSz (cov (l ++ m)) := if_pos q3
          obtain ⟨s1, s2, s3, s4⟩ := sizes l m lV mV
          have s5 := size_le l lV
          have s6 := size_le m mV
          rw [q1, q2, q3, eA, eB, eC, show errV 0 = Value.nilIface from rfl]
          clear nz eA eB eC q1 q2 q3 z2 mV
          by_cases h1 : l.length = 1
          · obtain ⟨x, rfl⟩ := List.length_eq_one_iff.1 h1
            have xV := lV x (by simp)
            have e1 := size_one x xV
            obtain ⟨n, hx2, hn32, esz, _⟩ := xV.len
            rw [esz] at e1
            obtain ⟨b, off, rfl, hb, hs⟩ : ∃ b off, p = some ⟨b, off, none⟩ ∧ b < w.heap.size ∧ Seen w b off [x] := by
              obtain ⟨q, c0, e2, h2 | ⟨b, off, h2, h3, h4⟩⟩ := HA.out
              · simp at h2
              · simp only [Value.slice.injEq] at e2
                exact ⟨b, off, by rw [e2.1, h2], h3, h4⟩
            have cx : wc.cell? ⟨b, off + 1, none⟩ = some (.int .i64 (n : Int)) := by
              have := (hs.below HB.out hb).c1 0 (by simp)
              simpa [Nt.v1, hx2] using this
            have hneg : ¬ (32 - (n : Int) < 0) := by omega
            obtain ⟨A, hA⟩ : ∃ A : Nat, A = 2 ^ (32 - n) := ⟨_, rfl⟩
            rw [e1, ← hA] at s1 s2 s5
            rw [e1, ← hA]
            have HZ : Hid (wrap64 ((2 : Int) ^ (32 - n)) = (A : Int)) := Lib.hid (by
              have e2 : ((2 : Int) ^ (32 - n)) = ((2 ^ (32 - n) : Nat) : Int) := by rw [Int.natCast_pow]; rfl
              rw [e2, ← hA]
              exact w64 _ (by omega) (by omega))
            clear e1 esz xV lV z1 hs hA
            generalize sumSz (cov ([x] ++ m)) = C at s1 s2 s3 s4 ⊢
            generalize sumSz (cov m) = B at s1 s3 s6 ⊢
            go_wp2_with fail
            all_goals
              rw [HZ.out]
              go_ret
              exact ⟨by simp, HB.out⟩
          · have t1 : ((l.length : Int) != 1) = true := by
              have : ¬ (l.length : Int) = 1 := by omega
              simpa using this
            generalize sumSz (cov (l ++ m)) = C at s1 s2 s3 s4 ⊢
            generalize sumSz (cov m) = B at s1 s3 s6 ⊢
            generalize sumSz (cov l) = A at s1 s2 s5 ⊢
            go_wp2_with fail
            go_ret
            exact ⟨rfl, HB.out⟩
        · have h64 : 64 < l.length + m.length := by
            rcases Nat.lt_or_ge 64 (l.length + m.length) with h | h
            · exact h
            · refine absurd ((badL_zero (l ++ m)).2 ⟨fun x hx => ?_, by rw [hlm]; exact h⟩) q3
              rw [List.mem_append] at hx
              rcases hx with hx | hx
              · exact z1.1 x hx
              · exact z2.1 x hx
          rw [q1, q2, nz _ q3, show errV 0 = Value.nilIface from rfl]
          clear nz
          have h64z : (64 : Int) < (l.length : Int) + (m.length : Int) := by omega
          generalize badL (l ++ m) = q
          generalize sizeE l = A
          generalize sizeE m = B
          generalize sizeE (l ++ m) = C
          go_wp2_with fail
          go_ret
          exact ⟨rfl, HB.out⟩
      · rw [q1, nz _ q2, show errV 0 = Value.nilIface from rfl]
        clear nz
        generalize badL m = q
        generalize sizeE l = A
        generalize sizeE m = B
        generalize sizeE (l ++ m) = C
        generalize errV (badL (l ++ m)) = E
        go_wp2_with fail
        go_ret
        exact ⟨rfl, HB.out⟩
    · rw [nz _ q1]
      clear nz
      generalize badL l = q
      generalize sizeE l = A
      generalize sizeE m = B
      generalize sizeE (l ++ m) = C
      generalize errV (badL (l ++ m)) = E
      generalize errV (badL m) = E2
      go_wp2_with fail
      go_ret
      exact ⟨rfl, HB.out⟩
end Go.Proofs.Ythoegphihpngoaa
