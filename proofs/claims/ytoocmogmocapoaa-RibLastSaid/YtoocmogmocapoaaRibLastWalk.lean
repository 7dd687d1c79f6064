/-
  The law RibLast at every input.
-/
import Derived.Test.YtoocmogmocapoaaRibFact
import Derived.Test.YtoocmogmocapoaaIntList
import Derived.StillTailTactics
import Derived.LoopN
namespace Go.Proofs.Ytoocmogmocapoaa
open Go.RowKit Go.Lib RibP

theorem learn00 : learnE (0, []) 1 (0, 0) 5 0 = 0 := by decide +kernel
theorem learn00S : learnS (0, []) 1 (0, 0) 5 0 = (0, [⟨⟨1, (0, 0), 5⟩, 0⟩]) := by
  unfold learnS
  rw [if_pos learn00]
  rfl
namespace RibP
/-- What has been told by one neighbour of one network at one time. -/
def Lst (f : Int) (n : Nt) (last : Int) (some : Bool) (s : St) : Prop := (s.2 = [] ∧ some = false) ∨ (s = (7, [⟨⟨f, n, last⟩, 7⟩]) ∧ some = true)
theorem Lst.step {f : Int} {n : Nt} {last m : Int} {b : Bool} {s : St} (h : Lst f n last b s) (he : learnE s f n m 7 = 0) : Lst f n m (b || decide (m < 16)) (learnS s f n m 7) := by
  obtain ⟨_, _, ⟨_, hm⟩, _⟩ := learnE_zero he
  unfold learnS
  rw [if_pos he]
  rcases h with ⟨h1, rfl⟩ | ⟨rfl, rfl⟩
  · rw [h1, show age 7 [] = [] from rfl]
    by_cases h2 : m = 16
    · refine Or.inl ⟨(learn_none ⟨⟨f, n, m⟩, 7⟩ [] rfl h2 : learn ⟨⟨f, n, m⟩, 7⟩ [] = []), ?_⟩
      rw [h2]; rfl
    · refine Or.inr ⟨congrArg (Prod.mk 7) (learn_more _ _ rfl h2), ?_⟩
      rw [decide_eq_true (by omega : m < 16)]; rfl
  · refine Or.inr ⟨?_, Bool.true_or _⟩
    refine congrArg (Prod.mk 7) ?_
    have ha : age 7 [⟨⟨f, n, last⟩, 7⟩] = [⟨⟨f, n, last⟩, 7⟩] := by
      unfold age
      have e1 : ageR 7 ⟨⟨f, n, last⟩, 7⟩ = ⟨⟨f, n, last⟩, 7⟩ := by unfold ageR; rw [if_neg (fun h => by have := h.2; simp only at this; omega)]
      rw [List.map_cons, List.map_nil, e1, List.filter_cons, List.filter_nil]
      exact if_pos (decide_eq_true (Or.inr (by simp only; omega)))
    show learn _ (age 7 [⟨⟨f, n, last⟩, 7⟩]) = _
    rw [ha]
    have hs : sm ⟨⟨f, n, m⟩, 7⟩ ⟨⟨f, n, last⟩, 7⟩ = true := (sm_iff _ _).2 rfl
    unfold learn
    rw [if_pos (by rw [List.any_cons, hs]; rfl)]
    simp only [List.map_cons, List.map_nil]
    unfold news
    by_cases h2 : last = 16 ∧ m = 16
    · rw [if_neg (fun h => h.2 h2), h2.1, h2.2]
    · rw [if_pos ⟨hs, h2⟩]
end RibP

set_option maxHeartbeats 8000000 in
set_option maxRecDepth 100000 in
theorem ribLast_walk (w : World) (f : Int) (a : Nat) (l : Int) (v : Value) (ms : List Int) (ha : a < 4294967296) (hlen : ms.length * 8 ≤ 140737488351232) (hv : ArgI w v ms) :
    Calls Try.prog 6 #[.int .i64 f, .agg #[.int .u32 (a : Int), .int .i64 l], v] w fun e w' => e = .returned (.bool true) ∧ Below w.heap.size w w' := by
  have HX := Lib.hid (Box.new w (.int .u32 (a : Int)) (.int .i64 l) 24)
  have hA := (Below.refl w.heap.size w).alloc (Nat.le_refl _) (.cells #[.int .u32 (a : Int), .int .i64 l] 24)
  have HA := Lib.hid hA
  have HM := Lib.hid (hv.below hA)
  have HN := Lib.hid fun w' h => new_oneB (w.alloc (.cells #[.int .u32 (a : Int), .int .i64 l] 24)) w' h
  have HN0 := Lib.hid (Below.refl (w.alloc (.cells #[.int .u32 (a : Int), .int .i64 l] 24)).heap.size (w.alloc (.cells #[.int .u32 (a : Int), .int .i64 l] 24)))
  have HL := Lib.hid ha
  obtain ⟨pm, cm, rfl, _⟩ := id hv
  clear hv hA ha
  go_enter Try.func6, Try.ntmps6
  go_wp2_with fail
  generalize w.alloc (.cells #[.int .u32 (a : Int), .int .i64 l] 24) = wA at HX HA HM HN HN0 ⊢
  refine (HN.out _ HN0.out).mono ?_
  rintro e w1 ⟨rfl, h1⟩
  have hl := one_learn h1 1 0 0 5 0 (by omega)
  rw [learn00, learn00S, show errV 0 = .nilIface from rfl, show (((0 : Nat) : Int)) = 0 from rfl] at hl
  have HF := Lib.hid hl
  clear h1 hl
  go_wp2_with fail
  refine HF.out.mono ?_
  rintro e w2 ⟨rfl, h2⟩
  have H2 := Lib.hid h2
  clear h2 HF
  go_wp2_with fail
  refine (one_list H2.out).mono ?_
  rintro e w3 ⟨v3, H, rfl, hT, hH, hb3⟩
  obtain rfl := hT.single
  obtain ⟨g3, c3, rfl, _⟩ := hH.first
  have HB3 := Lib.hid ((H2.out.below hb3).bel)
  clear hT hH hb3
  go_wp2_with fail
  refine (HN.out _ HB3.out).mono ?_
  rintro e w4 ⟨rfl, h4⟩
  have H4 := Lib.hid h4
  clear h4 HN HN0
  go_wp2_with fail
  go_loopw [8, 9, 10] (fun u8 u9 u10 wr => ∃ (k : Nat) (last : Int) (b : Bool) (s : St), u8 = .int .i64 last ∧ u9 = .bool b ∧ u10 = .int .i64 k ∧ k ≤ ms.length ∧ Hid (Lst f (a, l) last b s) ∧ Hid (OneB wA wr w3.heap.size s)) (fun _ _ v _ => ms.length - (RowKit.intOf v).toNat)
  case atStart => exact ⟨0, 0, false, (0, []), rfl, rfl, rfl, Nat.zero_le _, Lib.hid (Or.inl ⟨rfl, rfl⟩), H4⟩
  case round =>
    obtain ⟨k, last, b, s, rfl, rfl, rfl, hk, hJ, hO⟩ := hrel
    by_cases hkn : k < ms.length
    · have hM := HM.out.below hO.out.bel
      obtain ⟨_, _, hvv, hM2⟩ := hM
      injection hvv with e1 _ e3
      subst e1
      subst e3
      rcases hM2 with hnil | ⟨bm, om, rfl, hml, hs⟩
      · rw [hnil] at hkn; simp at hkn
      · have m0 := hs k hkn
        obtain ⟨_, n0, n1, _, _⟩ := HX.out.kept hO.out.bel
        have MM := Lib.hid hs
        have ML := Lib.hid hml
        have EM := Lib.hid (show ∀ m, m = ms[k]! → ms[k]! = m from fun m h => h.symm)
        have HS5 := Lib.hid (And.intro hml hs)
        obtain ⟨m, hm⟩ : ∃ m, m = ms[k]! := ⟨_, rfl⟩
        rw [← hm] at m0
        have HME := Lib.hid hm
        clear hm hs hml EM MM ML
        have hB := Lib.hid ((Below.refl wr.heap.size wr).drew)
        by_cases he : learnE s f (a, l) m 7 = 0
        · have hl := one_learn (hO.out.below hB.out) f a l m 7 HL.out
          rw [he, show errV 0 = .nilIface from rfl] at hl
          have HLL := Lib.hid hl
          have HJ := Lib.hid (hJ.out.step he)
          clear hl he
          go_wp2_with fail
          go_still_tail 7, (by kernel_rfl)
          change wpList _ _ _ _ _ wr.drew
          generalize wr.drew = w5 at HLL hB ⊢
          go_wp2_with fail
          refine HLL.out.mono ?_
          rintro e w6 ⟨rfl, h6⟩
          have H6 := Lib.hid h6
          have m6 : w6.cell? ⟨bm, om + k, none⟩ = some (.int .i64 m) := by
            have hM := HM.out.below H6.out.bel
            obtain ⟨_, _, hvv, hM2⟩ := hM
            injection hvv with e1 _ _
            rcases hM2 with hnil | ⟨bm', om', e2, _, hs⟩
            · rw [hnil] at hkn; simp at hkn
            · rw [e2] at e1
              injection e1 with e1
              injection e1 with e3 e4 _
              have := hs k hkn
              rw [← e3, ← e4, ← HME.out] at this
              exact this
          clear h6 m0 n0 n1
          cases b with
          | true =>
            go_wp2_with fail
            go_roundw
            case rel => exact ⟨k + 1, m, true, _, rfl, rfl, by go_num, by omega, Lib.hid (by have := HJ.out; rwa [Bool.true_or] at this), H6⟩
            case measure => simp [RowKit.intOf]; omega
          | false =>
            go_wp2_with fail
            go_roundw
            case rel => exact ⟨k + 1, m, decide (m < 16), _, rfl, rfl, by go_num, by omega, Lib.hid (by have := HJ.out; rwa [Bool.false_or] at this), H6⟩
            case measure => simp [RowKit.intOf]; omega
        · have hl := one_learn (hO.out.below hB.out) f a l m 7 HL.out
          rw [show errV (learnE s f (a, l) m 7) = .iface 59 (.int .i64 (learnE s f (a, l) m 7)) from if_neg he, show learnS s f (a, l) m 7 = s from if_neg he] at hl
          have HLL := Lib.hid hl
          generalize learnE s f (a, l) m 7 = ke at HLL
          clear hl he
          go_wp2_with fail
          go_still_tail 7, (by kernel_rfl)
          change wpList _ _ _ _ _ wr.drew
          generalize wr.drew = w5 at HLL hB ⊢
          go_wp2_with fail
          refine HLL.out.mono ?_
          rintro e w6 ⟨rfl, h6⟩
          have H6 := Lib.hid h6
          clear h6 m0 n0 n1
          go_wp2_with fail
          go_roundw
          case rel => exact ⟨k + 1, last, b, s, rfl, rfl, by go_num, by omega, hJ, H6⟩
          case measure => simp [RowKit.intOf]; omega
    · go_wp2_with fail
      refine (one_list hO.out).mono ?_
      rintro e w7 ⟨v7, H, rfl, hT, hH, hb7⟩
      have HB7 := Lib.hid ((hO.out.below hb7).bel)
      have HE := Lib.hid (HA.out.trans (HB7.out.mono HA.out.size))
      rcases hJ.out with ⟨hn, rfl⟩ | ⟨rfl, rfl⟩
      · rw [hn] at hT
        obtain rfl := hT.none
        obtain ⟨q, c, rfl⟩ := hH.len
        clear hT hH hb7 hn
        simp only [List.length_nil]
        go_wp2_with fail
        go_ret
        exact ⟨rfl, HE.out⟩
      · obtain rfl := hT.single
        obtain ⟨g, c, rfl, _, _, c0, c1, c2, c3⟩ := hH.first
        obtain ⟨_, n0, n1, _, _⟩ := HX.out.kept HB7.out
        clear hT hH hb7
        dsimp only at c0 c1 c2 c3
        go_wp2_with fail
        go_still (by kernel_rfl)
        go_wp2_with fail
        go_ret
        exact ⟨rfl, HE.out.drew⟩
end Go.Proofs.Ytoocmogmocapoaa
