/-
  The statement CoverSame's function answers true at every list and every address; what lay in memory stays.
-/
import Derived.Test.YthoegphihpngoaaCoverFact
import Derived.Test.YthoegphihpngoaaCoverHas
namespace Go.Proofs.Ythoegphihpngoaa
open Go.RowKit Go.Lib

set_option maxHeartbeats 1000000 in
theorem coverSame_bad (w : World) (v : Value) (l : List Nt) (a : Nat) (h : Arg w v l) (hn : l.length < 4611686018427387904) (hok : ∀ x ∈ l, x.1 < 4294967296) (hb : badL l ≠ 0) :
    Calls Try.prog 3 #[v, .int .u32 (a : Int)] w fun e w' => e = .returned (.bool true) ∧ Below w.heap.size w w' := by
  have HA := Lib.hid h; have HOK := Lib.hid hok
  clear h hok
  have HB := Lib.hid hb; clear hb
  go_enter Try.func3, Try.ntmps3
  go_wp2_with fail
  refine (covered_any w).mono ?_
  rintro e w1 ⟨rfl, b1⟩
  go_wp2_with fail
  refine (cover_bad w1 v l (HA.out.below b1) hn HOK.out HB.out).mono ?_
  rintro e w2 ⟨rfl, b2⟩
  have hE : errV (badL l) = .iface 47 (.int .i64 (badL l)) := if_neg HB.out
  rw [hE]
  clear hE
  generalize badL l = q
  go_wp2_with fail
  go_ret
  exact ⟨rfl, Below.two b1 b2⟩

set_option maxHeartbeats 8000000 in
set_option maxRecDepth 100000 in
theorem coverSame_ok (w : World) (v : Value) (l : List Nt) (a : Nat) (ha : a < 4294967296) (h : Arg w v l) (hok : ∀ x ∈ l, x.1 < 4294967296) (hb : badL l = 0) :
    Calls Try.prog 3 #[v, .int .u32 (a : Int)] w fun e w' => e = .returned (.bool true) ∧ Below w.heap.size w w' := by
  have h0 := (badL_zero l).1 hb
  have lV : ∀ x ∈ l, x.V := fun x hx => ⟨hok x hx, h0.1 x hx⟩
  have hl64 := h0.2
  have hG := cov_good l lV
  have hcl : (cov l).length ≤ l.length := cov_len l
  have hany := Lib.hid (cov_any l lV a ha)
  have HA := Lib.hid h
  have HC := Lib.hid (fun w h => cover_ok w v l h h0.2 lV)
  have HR : Hid (∀ w u, Arg w u l.reverse → Calls Try.prog 8 #[u] w fun e w' => ∃ v', e = .returned (.tuple #[v', .nilIface]) ∧ Own w' w.heap.size v' (cov l) ∧ Below w.heap.size w w') := Lib.hid fun w u hu => by
    have := cover_ok w u l.reverse hu (by simpa using h0.2) (fun x hx => lV x (by simpa using hx))
    rwa [show cov l.reverse = cov l by unfold cov; rw [srt_congr (List.reverse_perm l)]] at this
  have HD : Hid (∀ w u, Arg w u (cov l) → Calls Try.prog 8 #[u] w fun e w' => ∃ v', e = .returned (.tuple #[v', .nilIface]) ∧ Own w' w.heap.size v' (cov l) ∧ Below w.heap.size w w') := Lib.hid fun w u hu => by
    have := cover_ok w u (cov l) hu (by omega) hG.1
    rwa [cov_same (cov l) hG] at this
  have hi : Try.prog.info? 30 = some infoN := by kernel_rfl
  obtain ⟨z, hz⟩ : ∃ z, infoN.zero = some z ∧ z.cells.size = 2 := ⟨.agg #[.int .u32 0, .int .i64 0], by kernel_rfl, by kernel_rfl⟩
  have hby : infoN.bytes = 16 := by kernel_rfl
  clear h hok lV h0 hb hG
  generalize cov l = c at hcl hany HC HR HD
  go_enter Try.func3, Try.ntmps3
  go_wp2_with fail
  refine (covered_any w).mono ?_
  rintro e w1 ⟨rfl, b1⟩
  go_wp2_with fail
  refine (HC.out w1 (HA.out.below b1)).mono ?_
  rintro e w2 ⟨v2, rfl, o2, b2⟩
  have A2 := Lib.hid o2.arg; clear o2 HC
  have b02 := Below.two b1 b2
  obtain ⟨p2, c2, rfl, _⟩ := A2.out
  obtain ⟨p, cc, rfl, hcase⟩ := HA.out
  have HCA := Lib.hid hcase; clear hcase
  clear b1 b2
  go_wp2_with fail
  go_loopw [9, 8] (fun vi vb wr => ∃ (k : Nat), vi = .int .i64 ((k : Int) - 1) ∧ k ≤ l.length ∧ Hid (Own wr w2.heap.size vb (l.drop k).reverse) ∧ Hid (Below w2.heap.size w2 wr)) (fun vi _ _ => (intOf vi + 1).toNat)
  case atStart => exact ⟨l.length, rfl, Nat.le_refl _, Lib.hid (by rw [List.drop_eq_nil_of_le (Nat.le_refl _)]; exact World.ownsRow_nil w2 w2.heap.size 30 2), Lib.hid (Below.refl _ _)⟩
  case round =>
    obtain ⟨k, rfl, hk, HO, HB⟩ := hrel
    cases k with
    | zero =>
      rw [List.drop_zero] at HO
      have A3 := Lib.hid HO.out.arg
      clear HO
      go_wp2_with fail
      refine (HD.out wr _ (A2.out.below HB.out)).mono ?_
      rintro e w3 ⟨v3, rfl, o3, b3⟩
      have A4 := Lib.hid o3.arg; clear o3
      go_wp2_with fail
      refine (HR.out w3 _ (A3.out.below b3)).mono ?_
      rintro e w4 ⟨v4, rfl, o4, b4⟩
      have A5 := Lib.hid o4.arg; clear o4
      have g4 := Below.two HB.out (Below.two b3 b4)
      go_wp2_with fail
      refine (sameNets_any w4 v3 _ c c (by omega) (A4.out.below b4) (A2.out.below g4)).mono ?_
      rintro e w5 ⟨rfl, b5⟩
      rw [decide_eq_true rfl]
      have g5 := Below.two g4 b5
      go_wp2_with fail
      refine (sameNets_any w5 v4 _ c c (by omega) (A5.out.below b5) (A2.out.below g5)).mono ?_
      rintro e w6 ⟨rfl, b6⟩
      rw [decide_eq_true rfl]
      have g6 := Below.two g5 b6
      go_wp2_with fail
      refine (hasL_any w6 _ a c ha (by omega) (A2.out.below g6)).mono ?_
      rintro e w7 ⟨rfl, b7⟩
      rw [hany.out]
      have g7 := Below.two b02 (Below.two g6 b7)
      go_wp2_with fail
      refine (hasL_any w7 _ a l ha (by omega) (HA.out.below g7)).mono ?_
      rintro e w8 ⟨rfl, b8⟩
      have g8 := Below.two g7 b8
      generalize anyHas l a = q
      cases q
      · go_wp2_with fail
        go_ret
        exact ⟨rfl, g8⟩
      · go_wp2_with fail
        go_ret
        exact ⟨rfl, g8⟩
    | succ k =>
      rw [show ((k + 1 : Nat) : Int) - 1 = (k : Int) by omega]
      have hkn : k < l.length := by omega
      obtain ⟨g, off, rfl, hg, hseen⟩ : ∃ b off, p = some ⟨b, off, none⟩ ∧ b < w.heap.size ∧ Seen w b off l := by
        rcases HCA.out with e | e
        · rw [e] at hkn; simp at hkn
        · exact e
      have g0 := Below.two b02 HB.out
      have SS := hseen.below g0 hg
      have s0 : wr.cell? ⟨g, off + k * 2, none⟩ = some (.int .u32 (l[k]!.1 : Int)) := SS.c0 k hkn
      have s1 : wr.cell? ⟨g, off + k * 2 + 1, none⟩ = some (.int .i64 l[k]!.2) := SS.c1 k hkn
      have hd := Lib.hid (drop_at l k hkn)
      clear SS hseen
      generalize l[k]! = x at s0 s1 hd
      have hbase : w2.heap.size ≤ wr.heap.size := HB.out.size
      have hln : ((l.drop (k + 1)).reverse).length ≤ 64 := by simp; omega
      go_wp2_with (at_builtin; refine wpList_append_own _ rfl _ _ 22 rfl w2.heap.size 30 infoN z 2 16 (by kernel_rfl) hi hz.1 infoN_size hby hz.2 (by omega) _ (l.drop (k + 1)).reverse.length (cellsL (l.drop (k + 1)).reverse) rfl ?q0 ⟨wr.heap.size, 0, none⟩ 1 1 [Nt.v0 x, Nt.v1 x] rfl rfl ?q1 ?q2 ?q3 ?q4 ?q5 ?_)
      case q0 => exact Own.keep HO.out ((Below.refl _ wr).alloc (Nat.le_refl _) _)
      case q1 =>
        intro j u hj
        have NB := Box.new wr (.int .u32 (x.1 : Int)) (.int .i64 x.2) 30
        match j, hj with
        | 0, hj => simp at hj; subst hj; exact NB.c0
        | 1, hj => simp at hj; subst hj; exact NB.c1
      case q2 => intro u hu; simp [Nt.v0, Nt.v1] at hu; rcases hu with rfl | rfl <;> rfl
      case q3 => simp only [maxLen]; omega
      case q4 => omega
      case q5 => simp; omega
      intro v' w' hown hgrow _
      have bel : Below w2.heap.size wr w' := ((Below.refl _ wr).alloc hbase _).grown hgrow (by simp; omega) (fun q hq => (HO.out.lt q hq).1)
      have own2 : Own w' w2.heap.size v' (l.drop k).reverse := by
        rw [hd.out, List.reverse_cons]
        unfold Own
        rw [List.length_append, cellsL_app, List.length_reverse, List.length_drop]
        exact hown
      have O2 := Lib.hid own2
      clear own2 hown hgrow s0 s1
      go_wp2_with fail
      go_roundw
      case rel => exact ⟨k, rfl, by omega, O2, Lib.hid (HB.out.trans bel)⟩
      case measure => simp [intOf]
/-- The statement's function at every list. -/
theorem coverSame_walk (w : World) (v : Value) (l : List Nt) (a : Nat) (ha : a < 4294967296) (h : Arg w v l) (hn : l.length < 4611686018427387904) (hok : ∀ x ∈ l, x.1 < 4294967296) :
    Calls Try.prog 3 #[v, .int .u32 (a : Int)] w fun e w' => e = .returned (.bool true) ∧ Below w.heap.size w w' := by
  by_cases hb : badL l = 0
  · exact coverSame_ok w v l a ha h hok hb
  · exact coverSame_bad w v l a h hn hok hb
end Go.Proofs.Ythoegphihpngoaa
