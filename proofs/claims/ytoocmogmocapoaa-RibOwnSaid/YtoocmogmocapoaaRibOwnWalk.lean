/-
  The law RibOwn at every input.
-/
import Derived.Test.YtoocmogmocapoaaRibFact
import Derived.Test.YtoocmogmocapoaaSameHeard
import Derived.Test.YtoocmogmocapoaaListAt
import Derived.StillTailTactics
import Derived.Deep.CutBlock
import Derived.Deep.CutRange
import Derived.LoopN
namespace Go.Proofs.Ytoocmogmocapoaa
open Go.RowKit Go.Lib RibP

/-- An empty list that is written out. -/
theorem LOwn.empty {E : Type} [Cel E] (T : TypeId) (w : World) : LOwn T (w.alloc (.cells #[] T)) w.heap.size (.slice (some ⟨w.heap.size, 0, none⟩) 0 0) ([] : List E) := by
  have := World.ownsRow_made (e := T) (size := Cel.k E) w #[] 0 (Nat.le_refl _) (Nat.zero_le _) (by simp)
  simpa [LOwn, cellsOf] using this
theorem own00 : learnE (0, []) 1 (0, 0) 5 0 = 0 := by decide +kernel
theorem own00S : learnS (0, []) 1 (0, 0) 5 0 = (0, [⟨⟨1, (0, 0), 5⟩, 0⟩]) := by
  unfold learnS
  rw [if_pos own00]
  rfl

set_option maxHeartbeats 8000000 in
set_option maxRecDepth 100000 in
theorem ribOwn_walk (w : World) (v0 v1 v2 : Value) (fs : List Int) (ns : List Nt) (ms : List Int) (x : Int) (hlen : fs.length * 8 ≤ 140737488351232) (h0 : ArgI w v0 fs) (h1 : Arg w v1 ns) (h2 : ArgI w v2 ms) (hok : ∀ x ∈ ns, x.1 < 4294967296) :
    Calls Try.prog 7 #[v0, v1, v2, .int .i64 x] w fun e w' => e = .returned (.bool true) ∧ Below w.heap.size w w' := by
  obtain ⟨p0, q0, rfl, _⟩ := id h0
  obtain ⟨p1, q1, rfl, _⟩ := id h1
  obtain ⟨p2, q2, rfl, _⟩ := id h2
  have HA0 := Lib.hid h0; have HA1 := Lib.hid h1; have HA2 := Lib.hid h2; have HOK := Lib.hid hok
  have HN := Lib.hid (new_oneB w w (Below.refl _ _))
  clear h0 h1 h2 hok
  go_enter Try.func7, Try.ntmps7
  go_wp2_with fail
  refine HN.out.mono ?_
  rintro e w1 ⟨rfl, h1⟩
  have hl := one_learn h1 1 0 0 5 0 (by omega)
  rw [own00, own00S, show errV 0 = .nilIface from rfl, show (((0 : Nat) : Int)) = 0 from rfl] at hl
  have HF := Lib.hid hl
  clear h1 hl HN
  generalize w.heap.size = p at HF ⊢
  go_wp2_with fail
  refine HF.out.mono ?_
  rintro e w2 ⟨rfl, h2⟩
  have H2 := Lib.hid h2
  clear h2 HF
  go_wp2_with fail
  refine (one_list H2.out).mono ?_
  rintro e w3 ⟨v3, H, rfl, hT, hH, hb3⟩
  obtain rfl := hT.single
  obtain ⟨g3, c3, rfl, _⟩ := hH.first
  have H3 := Lib.hid (H2.out.below hb3)
  clear hT hH hb3
  go_upto_block 0 with fail
  go_cut [10] from 30 to 61 (fun _ wc => ∃ s : St, s.1 = 0 ∧ Hid (OneB w wc p s))
  case first =>
    go_wp2_with fail
    go_loopw [10] (fun u wr => ∃ (k : Nat) (s : St), u = .int .i64 k ∧ k ≤ fs.length ∧ s.1 = 0 ∧ Hid (OneB w wr p s)) (fun v _ => fs.length - (RowKit.intOf v).toNat)
    case atStart => exact ⟨0, _, rfl, Nat.zero_le _, rfl, H3⟩
    case round =>
      obtain ⟨k, s, rfl, hk, hs0, hO⟩ := hrel
      by_cases k0 : k < fs.length
      · by_cases k1 : k < ns.length
        · by_cases k2 : k < ms.length
          · obtain ⟨b0, o0, rfl, L0, c0⟩ := HA0.out.at k k0
            obtain ⟨b1, o1, rfl, L1, c1, c2⟩ := HA1.out.at k k1
            obtain ⟨b2, o2, rfl, L2, c3⟩ := HA2.out.at k k2
            have hok := Lib.hid (HOK.out ns[k]! (by rw [getElem!_pos ns k k1]; exact List.getElem_mem k1))
            generalize fs[k]! = f at c0
            generalize ns[k]! = n at c1 c2 hok
            generalize ms[k]! = m at c3
            have B := Lib.hid hO.out.bel
            have i0 := (B.out.cell (p := ⟨b0, o0 + k, none⟩) L0).trans c0
            have i1 := (B.out.cell (p := ⟨b1, o1 + k * 2, none⟩) L1).trans c1
            have i2 := (B.out.cell (p := ⟨b1, o1 + k * 2 + 1, none⟩) L1).trans c2
            have i3 := (B.out.cell (p := ⟨b2, o2 + k, none⟩) L2).trans c3
            clear c0 c1 c2 c3
            dsimp only [Nt.v0, Nt.v1] at i1 i2
            have HLL := Lib.hid (one_learn (hO.out.below ((Below.refl wr.heap.size wr).drew)) f n.1 n.2 m 0 hok.out)
            have HE := Lib.hid (learnS_zero s f (n.1, n.2) m hs0)
            generalize learnS s f (n.1, n.2) m 0 = s' at HLL HE
            go_wp2_with fail
            go_still_tail 13, (by kernel_rfl)
            change wpList _ _ _ _ _ wr.drew
            generalize wr.drew = w5 at HLL ⊢
            go_wp2_with fail
            refine HLL.out.mono ?_
            rintro e w6 ⟨rfl, h6⟩
            have hO6 := Lib.hid h6
            clear h6 i0 i1 i2 i3 HLL
            go_wp2_with fail
            go_roundw
            case rel => exact ⟨k + 1, s', by go_num, by omega, HE.out, hO6⟩
            case measure => simp [RowKit.intOf]; omega
          · go_wp2_with fail
            go_meet
            case rel => exact ⟨s, hs0, hO⟩
        · go_wp2_with fail
          go_meet
          case rel => exact ⟨s, hs0, hO⟩
      · go_wp2_with fail
        go_meet
        case rel => exact ⟨s, hs0, hO⟩
  case rest =>
    obtain ⟨s, hs0, hO⟩ := hcut
    clear H3
    have B0 := Lib.hid (hO.out.below ((Below.refl wc.heap.size wc).alloc (Nat.le_refl _) (.cells #[] 35)))
    have E0 := Lib.hid (LOwn.empty (E := Hd) 35 wc)
    go_wp2_with fail
    refine (one_list B0.out).mono ?_
    rintro e w5 ⟨v5, H, rfl, hT, hH, hb5⟩
    have O5 := Lib.hid (B0.out.below hb5)
    have E5 := Lib.hid (E0.out.keep hb5)
    have T5 := Lib.hid hT
    have A5 := Lib.hid hH.arg
    have hl64 := Lib.hid (show H.length ≤ 64 by rw [hT.len]; have := hO.out.ex; obtain ⟨_, r, _⟩ := this; exact r.good.len)
    have HB5 := Lib.hid hb5
    have hsz5 := Lib.hid (show wc.heap.size ≤ w5.heap.size by have := hb5.size; simp at this; omega)
    obtain ⟨q5, n5, rfl⟩ := hH.len
    clear hT hH hb5
    go_wp2_with (at_builtin; refine wpList_plain rfl fun K' hK' => ?_; refine wp_append_L tyH _ _ rfl wc.heap.size _ _ [] H rfl rfl E5.out A5.out (by have := hl64.out; simp only [List.length_nil]; omega) (by have := hl64.out; simp only [List.length_nil, maxLen]; omega) hsz5.out ?_; intro v6 w6 hO6 hA6; refine hK' _ _ ?_)
    rw [List.nil_append] at hO6
    have BB : Below wc.heap.size wc w6 := (((Below.refl wc.heap.size wc).alloc (Nat.le_refl _) (.cells #[] 35)).trans (HB5.out.mono (by simp))).trans (hA6.below (fun j hj => by cases hj; exact Nat.le_refl _) hsz5.out)
    have H6 := Lib.hid (hO.out.below BB)
    have W6 := Lib.hid hO6
    obtain ⟨q6, n6, rfl, _⟩ := hO6.arg
    clear hO6 hA6 BB
    refine (one_list H6.out).mono ?_
    rintro e w9 ⟨v9, X, rfl, hX, gX, hb9⟩
    obtain rfl : H = X := T5.out.one (by have := H6.out.ex; obtain ⟨_, r, _⟩ := this; exact r.good.keys) (List.Perm.refl _) hX
    have G9 := Lib.hid gX
    have B9 := Lib.hid hb9
    obtain ⟨q9, n9, rfl⟩ := gX.len
    have GH := Lib.hid gX.here
    clear hX gX hb9
    go_wp2_with fail
    go_loopw [13] (fun u wr => ∃ (k : Nat) (L : List Hd), u = .int .i64 k ∧ k ≤ H.length ∧ L.length = H.length ∧ Hid (Below w6.heap.size w6 wr) ∧ Hid (∀ g, q9 = some ⟨g, 0, none⟩ → g < wr.heap.size ∧ LSeen wr g 0 L ∧ ∀ o, wr.frozen? ⟨g, o, none⟩ = false)) (fun v _ => H.length - (RowKit.intOf v).toNat)
    case atStart => exact ⟨0, H, rfl, Nat.zero_le _, rfl, B9, Lib.hid fun g hg => (GH.out.2.2 g hg).2⟩
    case round =>
      obtain ⟨k, L, rfl, hk, hLl, hB, hS⟩ := hrel
      by_cases hkn : k < H.length
      · obtain ⟨g, hg⟩ := GH.out.2.1 k hkn
        obtain ⟨g1, g2, g3⟩ := hS.out g hg
        have hg9 := Lib.hid (GH.out.2.2 g hg)
        subst hg
        have hkL : k < L.length := by rw [hLl]; exact hkn
        obtain ⟨c0, c1, c2, c3⟩ := (g2 k hkL).hd
        have a3 : wr.cell? ⟨g, 0 + k * 4 + 3, none⟩ = _ := c3
        have f3 := g3 (0 + k * 4 + 3)
        rw [Nat.zero_add] at a3 f3
        have HS := Lib.hid (And.intro g1 (And.intro g2 g3))
        have HC := Lib.hid (And.intro c0 (And.intro c1 (And.intro c2 c3)))
        have HLL := Lib.hid hLl
        clear c0 c1 c2 c3 g1 g2 g3 hkL hLl
        have hl6 := hl64.out
        go_wp2_with fail
        go_roundw
        case rel =>
          refine ⟨k + 1, L.set k ⟨L[k]!.f, L[k]!.n, x⟩, by go_num, by omega, by rw [List.length_set]; exact HLL.out, Lib.hid (hB.out.setCell (p := ⟨g, k * 4 + 3, none⟩) hg9.out.1 _), Lib.hid fun g' hg' => ?_⟩
          injection hg' with hg'
          injection hg' with hg' _ _
          subst hg'
          refine ⟨by simp [World.setCell]; exact HS.out.1, ?_, fun o => by rw [World.frozen?_setCell]; exact HS.out.2.2 o⟩
          refine HS.out.2.1.set k _ ?_ fun o ho => ?_
          · obtain ⟨c0, c1, c2, c3⟩ := HC.out
            have e : 0 + k * Cel.k Hd = k * 4 := by rw [Nat.zero_add]; rfl
            rw [e] at c0 c1 c2 c3 ⊢
            refine LAt.ofHd ?_ ?_ ?_ ?_
            · rw [set_at (k * 4 + 3) (.int .i64 x) c0, if_neg (by omega)]
            · rw [set_at (k * 4 + 3) (.int .i64 x) c1, if_neg (by omega)]
            · rw [set_at (k * 4 + 3) (.int .i64 x) c2, if_neg (by omega)]
            · rw [set_at (k * 4 + 3) (.int .i64 x) c3, if_pos rfl]
          · have ho' : o < 0 + k * 4 ∨ 0 + k * 4 + 4 ≤ o := ho
            exact World.cell?_setCell_other _ _ _ _ (fun e => by have := congrArg Addr.off e; simp only at this; omega)
        case measure => simp [RowKit.intOf]; omega
      · have H11 := Lib.hid (H6.out.below hB.out)
        go_wp2_with fail
        refine (one_list H11.out).mono ?_
        rintro e w12 ⟨v12, Y, rfl, hY, gY, hb12⟩
        obtain rfl : H = Y := T5.out.one (by have := H6.out.ex; obtain ⟨_, r, _⟩ := this; exact r.good.keys) (List.Perm.refl _) hY
        have H12 := Lib.hid (H11.out.below hb12)
        have HS := Lib.hid (sameHeard_any w12 v12 _ H H (by have := hl64.out; omega) gY.arg (W6.out.keep (hB.out.trans (hb12.mono hB.out.size))).arg)
        obtain ⟨q12, n12, rfl⟩ := gY.len
        clear hY gY hb12
        go_wp2_with fail
        refine HS.out.mono ?_
        rintro e w13 ⟨rfl, hb13⟩
        have HE := Lib.hid (H12.out.bel.trans (hb13.mono H12.out.bel.size))
        clear hb13
        simp only [decide_true]
        go_wp2_with fail
        go_ret
        exact ⟨rfl, HE.out⟩
end Go.Proofs.Ytoocmogmocapoaa
