/-
  spf.distances on rows of costs: how far each node is, whichever pair the queue gives first.
-/
import Derived.Test.YtomfkmclgabcpaaSpfState
import Derived.Test.YtomfkmclgabcpaaRepeat
import Derived.Test.YtomfkmclgabcpaaDist
namespace Go.Proofs.Ytomfkmclgabcpaa
open Go.RowKit Go.Lib
open SpfP (upd tot Fall Mid Sym)

set_option maxHeartbeats 4000000 in
set_option maxRecDepth 100000 in
theorem distances_any (w : World) (g n fr : Nat) (C : MatP.T) (h1 : 1 ≤ n) (h8 : n ≤ 8) (hfr : fr < n) (hC : BellP.Cost C) (hS : Sym C) (hG : Grid w g n n (fun i j => (C i j : Int))) :
    Calls Try.prog 16 #[.slice (some ⟨g, 0, none⟩) n n, .int .i64 fr] w fun e w' => ∃ f, w.heap.size ≤ f ∧ e = .returned (.slice (some ⟨f, 0, none⟩) n n) ∧ Vec w' f n (fun i => (BellP.far n C fr i : Int)) ∧ Below w.heap.size w w' := by
  have HG := Lib.hid hG; have HC := Lib.hid hC; have HS := Lib.hid hS
  have HF0 := Lib.hid (Fall.start hC hfr)
  clear hG hC hS
  go_enter Try.func16, Try.ntmps16
  go_wp2_with fail
  refine (repeat_any _ 16 w.heap.size n h1 h8 (by simp) (by simp)).mono ?_
  rintro e w1 ⟨f, hf, rfl, hv, hb⟩
  have HB1 := Lib.hid (((Below.refl w.heap.size w).alloc (Nat.le_refl _) _).trans (hb.mono (by simp)))
  have hf1 : w.heap.size ≤ f := by simp at hf; omega
  have c0 := hv.c fr hfr
  have f0 := hv.f fr
  have HV1 := Lib.hid hv
  clear hv hb hf
  go_wp2_with fail
  have S0 := St.start (fr := fr) HV1.out HB1.out hf1 h8
  refine (heapPush_at _ (w1.heap.size + 1) w1.heap.size 0 fr 0 [] S0.que (by simp)).mono ?_
  rintro e w2 ⟨rfl, gq, cap, L, hq, hl, hm, hk, hg⟩
  have HS2 := Lib.hid (S0.turn hq hk hg (by have := SpfP.tot_le (d := BellP.st fr) n (fun i _ => BellP.st_bd fr i); simp at hl; omega))
  have HF2 := Lib.hid (HF0.out.perm (L' := L) fun e => by rw [hm e]; simp)
  clear S0 hq hl hm hk hg HF0 HB1 HV1 c0 f0
  generalize w1.heap.size + 1 = q at HS2 ⊢
  clear hf1
  go_wp2_with fail
  go_loopw [27] (fun _ wr => ∃ gq cap d L, Hid (St w wr f q n gq cap d L) ∧ Hid (Fall n C fr d L)) (fun _ wr => left wr f q n)
  case atStart => exact ⟨gq, cap, _, L, HS2, HF2⟩
  case round =>
    clear HS2 HF2
    obtain ⟨gq, cap, d, L, HT, HF⟩ := hrel
    have cq := HT.out.que.cq
    have hm0 := Lib.hid HT.out.left
    cases L with
    | nil =>
      go_wp2_with fail
      refine (qLen_any wr _ _ _).mono ?_
      rintro e w3 ⟨rfl, rfl⟩
      go_wp2_with fail
      go_ret
      exact ⟨f, HT.out.hf, rfl, HT.out.vec.congr fun i hi => by rw [HF.out.far HS.out i hi], HT.out.bel⟩
    | cons x r =>
      have hxr : (x :: r).length = r.length + 1 := rfl
      generalize hL : x :: r = L at HT HF cq hm0 hxr
      clear hL
      generalize hn : r.length = m at hxr
      rw [hxr] at cq
      have HN := Lib.hid hxr
      have hm257 : m + 1 ≤ 257 := by have := HT.out.len; omega
      clear hxr hn
      go_wp2_with fail
      refine (qLen_any wr _ _ _).mono ?_
      rintro e w3 ⟨rfl, rfl⟩
      go_wp2_with fail
      refine (heapPop_at w3 q gq cap m L HT.out.que HN.out (by have := HN.out; omega)).mono ?_
      rintro e w4 ⟨v, s, L4, rfl, hq, hl, hmm, hk⟩
      have HF4 := Lib.hid (HF.out.perm (L' := (v, s) :: L4) fun e => by rw [hmm e]; simp)
      have few := HT.out.few
      have HM0 : Hid (2 * tot d n + L4.length + 1 = left w3 f q n) := Lib.hid (by rw [hm0.out, HN.out, hl]; omega)
      have HT4 := Lib.hid (HT.out.turn hq hk (Or.inl rfl) (by have := HN.out; omega))
      obtain ⟨hvn, hds, hs15⟩ := HF4.out.q (v, s) (by simp)
      have HDS := Lib.hid hds
      have cv := HT4.out.vec.c v hvn
      have ha := fun w => assert_rc (.agg #[.int .i64 (v : Int), .int .i64 (s : Int)]) w
      have a0 : ∀ W : World, (W.alloc (.cells #[.int .i64 (v : Int), .int .i64 (s : Int)] 57)).cell? ⟨W.heap.size, 0, none⟩ = some (.int .i64 (v : Int)) := fun W => by simp
      clear hq hl hmm hk few cq hm0 HN hds
      have HT5 := Lib.hid (HT4.out.below ((Below.refl w4.heap.size w4).alloc (Nat.le_refl _) (.cells #[.int .i64 (v : Int), .int .i64 (s : Int)] 57)))
      have HB5 := Lib.hid (Box.new w4 (.int .i64 (v : Int)) (.int .i64 (s : Int)) 57)
      have hqa : q < w4.heap.size := HT4.out.que.lq
      have hga : gq < w4.heap.size := HT4.out.que.row.lt
      clear a0 cv HT4
      go_wp2_with fail
      generalize w4.alloc (.cells #[.int .i64 (v : Int), .int .i64 (s : Int)] 57) = w5 at HT5 HB5 ⊢
      generalize w4.heap.size = a at HB5 hqa hga ⊢
      clear ha
      have cv := HT5.out.vec.c v hvn
      have b0 := HB5.out.c0
      have b1 := HB5.out.c1
      by_cases hcmp : d v < s
      · have HF5 := Lib.hid (HF4.out.skip hcmp)
        have t : (s : Int) > (d v : Int) := by omega
        go_region
        go_wp2_with fail
        go_roundw
        case rel => exact ⟨gq, cap, d, L4, Lib.hid HT5.out.drew, HF5⟩
        case measure => rw [← HM0.out, HT5.out.drew.left]; omega
      · have HF5 := Lib.hid (HF4.out.take hcmp)
        have t : ¬ (s : Int) > (d v : Int) := by omega
        go_region
        have HT6 := Lib.hid HT5.out.drew
        have HB6 : Hid (Box w5.drew a (.int .i64 (v : Int)) (.int .i64 (s : Int))) := Lib.hid ⟨HB5.out.lt, HB5.out.c0, HB5.out.c1, HB5.out.f0, HB5.out.f1⟩
        have HG6 := Lib.hid (HG.out.below HT6.out.bel HG.out.lt)
        generalize w5.drew = w6 at HT6 HB6 HG6 ⊢
        have o6 := HG6.out.o v hvn
        clear cv b0 b1 HT5 HB5 t
        have b0 := HB6.out.c0
        have b1 := HB6.out.c1
        have hfq := HT6.out.fq
        have HM6 := Lib.hid (Nat.le_of_eq HM0.out)
        have HN6 : Hid (gq ≠ a) := Lib.hid (by omega)
        clear HF4 HDS hcmp HM0 HF
        go_wp2_with fail
        go_loopw [50] (fun x wi => ∃ k : Nat, ∃ gqi capi di Li, x = .int .i64 k ∧ k ≤ n ∧ Hid (St w wi f q n gqi capi di Li) ∧ Hid (Mid n C fr v s k di Li) ∧ Hid (Box wi a (.int .i64 (v : Int)) (.int .i64 (s : Int))) ∧ Hid (gqi ≠ a) ∧ Hid (2 * tot di n + Li.length + 1 ≤ left w3 f q n)) (fun x _ => n - (RowKit.intOf x).toNat)
        case atStart => exact ⟨0, gq, cap, d, L4, rfl, Nat.zero_le _, HT6, HF5, HB6, HN6, HM6⟩
        case round =>
          clear HT6 HF5 HB6 HN6 HM6 HG6 o6 b0 b1 HT hga
          obtain ⟨k, gqi, capi, di, Li, rfl, hk, HTi, HFi, HBi, HNi, HMi⟩ := hrel
          by_cases hkn : k < n
          · have HGi := Lib.hid (HG.out.below HTi.out.bel HG.out.lt)
            have ei := HGi.out.e v hvn k hkn
            have b1 := HBi.out.c1
            have HA := Lib.hid (add_yes s (C v k) (by omega) (HC.out.bd v k))
            generalize hc : C v k = c at ei HA
            generalize hz : DistP.add s c = z at HA
            have HZ : Hid (DistP.add s (C v k) = z) := Lib.hid (by rw [hc]; exact hz)
            clear hc hz
            go_wp2_with fail
            refine (HA.out _).mono ?_
            rintro e w7 ⟨rfl, hb7⟩
            have HT7 := Lib.hid (HTi.out.below hb7)
            have HB7 := Lib.hid (HBi.out.kept hb7)
            have cf := HT7.out.vec.c k hkn
            have ff := HT7.out.vec.f k
            clear hb7 HTi HBi HA ei b1 HGi
            by_cases hlt : z < di k
            · have t : (z : Int) < (di k : Int) := by omega
              have HP := Lib.hid fun (Li' : List Rc) (hp : ∀ e, e ∈ Li' ↔ e = (k, z) ∨ e ∈ Li) => HFi.out.near HC.out HS.out hfr (L' := Li') hkn (by rw [HZ.out]; exact hlt) (by rw [HZ.out]; exact hp)
              have hT := SpfP.tot_upd di k z n hkn
              have few := HT7.out.few
              have HT8 := Lib.hid (HT7.out.put k z (by omega))
              have HB8 := Lib.hid (HB7.out.still (Keep.setCell (fun b => b = f) w7 f k (.int .i64 (z : Int)) rfl) (by omega))
              have HT257 := Lib.hid few
              have HTot := Lib.hid hT
              clear few hT
              go_wp2_with fail
              refine (heapPush_at _ q gqi capi k z Li HT8.out.que (by have := HT8.out.len; omega)).mono ?_
              rintro e w9 ⟨rfl, g9, cap9, L9, hq, hl, hmm, hk9, hg9⟩
              have hne : g9 ≠ a := by
                rcases hg9 with e | e
                · rw [e]; exact HNi.out
                · have := HB8.out.lt
                  omega
              have HT9 := Lib.hid (HT8.out.turn hq hk9 hg9 (by have := HT257.out; have := HTot.out; omega))
              have HB9 := Lib.hid (HB8.out.still hk9 (fun e => by
                rcases e with e | e
                · omega
                · exact HNi.out e.symm))
              have HN9 := Lib.hid hne
              have HF9 := Lib.hid (HP.out L9 hmm)
              rw [HZ.out] at HF9
              have HM9 : Hid (2 * tot (upd di k z) n + L9.length + 1 ≤ left w3 f q n) := Lib.hid (by have := HMi.out; have := HTot.out; omega)
              clear hq hl hmm hk9 hg9 hne HT8 HB8
              go_wp2_with fail
              go_roundw
              case rel => exact ⟨k + 1, g9, cap9, _, L9, by go_num, by omega, HT9, HF9, HB9, HN9, HM9⟩
              case measure => simp [RowKit.intOf]; omega
            · have t : ¬ (z : Int) < (di k : Int) := by omega
              have HF8 := Lib.hid (HFi.out.stay hkn (by rw [HZ.out]; exact hlt))
              go_wp2_with fail
              go_roundw
              case rel => exact ⟨k + 1, gqi, capi, di, Li, by go_num, by omega, HT7, HF8, HB7, HNi, HMi⟩
              case measure => simp [RowKit.intOf]; omega
          · obtain rfl : k = n := by omega
            go_wp2_with fail
            go_roundw
            case rel => exact ⟨gqi, capi, di, Li, HTi, Lib.hid HFi.out.back⟩
            case measure => rw [HTi.out.left]; have := HMi.out; omega
end Go.Proofs.Ytomfkmclgabcpaa
