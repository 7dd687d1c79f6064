/-
  (*trie.Table).Put at every table, every network and every number.
-/
import Derived.Test.YtbdmfcnlfmnmdaaDoorTrieGet
namespace Go.Proofs.YtbdmfcnlfmnmdaaDoor
open Go.RowKit

set_option maxHeartbeats 1000000 in
set_option maxRecDepth 100000 in
theorem put_bad (w : World) (tb : Nat) (a : Nat) (z v : Int) (ha : a < 4294967296) (h : PrefP.chk a z ≠ 0) :
    Calls Tryd.prog 13 #[.pointer (some ⟨tb, 0, none⟩), .agg #[.int .u32 a, .int .i64 z], .int .i64 v] w fun e w' => e = .returned (.iface 29 (.int .i64 (PrefP.chk a z))) ∧ Below w.heap.size w w' := by
  have HC := Lib.hid (check1_any a z ha)
  have HE := Lib.hid (errV_pos h)
  clear h
  generalize PrefP.chk a z = k at HC HE ⊢
  go_enter Tryd.func13, Tryd.ntmps13
  go_wp2_with fail
  refine (HC.out _).mono ?_
  rintro e w1 ⟨rfl, hb⟩
  rw [HE.out]
  have hB := (box1 hb).2
  clear hb
  go_wp2_with fail
  go_ret
  exact ⟨rfl, hB⟩

set_option maxHeartbeats 1000000 in
set_option maxRecDepth 100000 in
theorem put_old (w : World) (M : Tm) (tb : Nat) (c : Int) (a n : Nat) (v : Int) (x : Nd) (ha : a < 4294967296) (hn : n ≤ 32) (hc : PrefP.cut a n = a) (h : Tri w M tb c) (hl : M.look a n = some x) :
    Calls Tryd.prog 13 #[.pointer (some ⟨tb, 0, none⟩), .agg #[.int .u32 a, .int .i64 n], .int .i64 v] w fun e w' => e = .returned .nilIface ∧ Tri w' (M.upd a n (some ⟨x.b, x.u, v⟩)) tb c ∧ Keep M.Bl w w' := by
  have HC := Lib.hid (check_ok a n ha hn hc); have HT := Lib.hid h; have HCC := Lib.hid hc
  have HL := Lib.hid hl
  clear h hc hl
  go_enter Tryd.func13, Tryd.ntmps13
  go_wp2_with fail
  refine (HC.out _).mono ?_
  rintro e w1 ⟨rfl, hb⟩
  obtain ⟨⟨l1, c0, c1, f0, f1⟩, hB⟩ := box1 hb; clear hb
  go_wp2_with fail
  refine (lookup_any w1 M tb c a n hn HCC.out (HT.out.below hB)).mono ?_
  rintro e w2 ⟨rfl, hb2⟩
  rw [HL.out, pt_some]
  have T2 := Lib.hid ((HT.out.below hB).below hb2)
  have d3 : w2.cell? ⟨x.b, 3, none⟩ = some (.int .i64 x.v) := T2.out.cell _ _ _ (look_is HL.out).1 3 (by decide)
  have e3 := T2.out.free _ _ _ (look_is HL.out).1 3
  go_wp2_with fail
  go_ret
  exact ⟨rfl, T2.out.setV (look_is HL.out).1 v, (Keep.of (Below.two hB hb2)).trans (Keep.setCell _ _ _ _ _ ⟨a, n, x, (look_is HL.out).1, rfl⟩)⟩

set_option maxHeartbeats 1000000 in
set_option maxRecDepth 100000 in
theorem put_full (w : World) (M : Tm) (tb : Nat) (c : Int) (a n : Nat) (v : Int) (ha : a < 4294967296) (hn : n ≤ 32) (hc : PrefP.cut a n = a) (h : Tri w M tb c) (hl : M.look a n = none) (h64 : 64 ≤ c) :
    Calls Tryd.prog 13 #[.pointer (some ⟨tb, 0, none⟩), .agg #[.int .u32 a, .int .i64 n], .int .i64 v] w fun e w' => e = .returned (.iface 29 (.int .i64 4)) ∧ Below w.heap.size w w' := by
  have HC := Lib.hid (check_ok a n ha hn hc); have HT := Lib.hid h; have HCC := Lib.hid hc
  have HL := Lib.hid hl
  clear h hc hl
  go_enter Tryd.func13, Tryd.ntmps13
  go_wp2_with fail
  refine (HC.out _).mono ?_
  rintro e w1 ⟨rfl, hb⟩
  obtain ⟨⟨l1, c0, c1, f0, f1⟩, hB⟩ := box1 hb; clear hb
  go_wp2_with fail
  refine (lookup_any w1 M tb c a n hn HCC.out (HT.out.below hB)).mono ?_
  rintro e w2 ⟨rfl, hb2⟩
  rw [HL.out, pt_none]
  have d4 := ((HT.out.below hB).below hb2).cnt
  go_wp2_with fail
  go_ret
  exact ⟨rfl, Below.two hB hb2⟩

set_option maxHeartbeats 2000000 in
set_option maxRecDepth 100000 in
theorem put_new (w : World) (M : Tm) (tb : Nat) (c : Int) (a n : Nat) (v : Int) (ha : a < 4294967296) (hn : n ≤ 32) (hc : PrefP.cut a n = a) (h : Tri w M tb c) (hl : M.look a n = none) (h0 : 0 ≤ c) (h64 : c < 64) :
    Calls Tryd.prog 13 #[.pointer (some ⟨tb, 0, none⟩), .agg #[.int .u32 a, .int .i64 n], .int .i64 v] w fun e w' => e = .returned .nilIface ∧ (∃ M' x, Grew w.heap.size M M' ∧ M' a n = some x ∧ Tri w' (M'.upd a n (some ⟨x.b, true, v⟩)) tb (c + 1)) ∧ Keep M.Bl w w' := by
  have HC := Lib.hid (check_ok a n ha hn hc); have HT := Lib.hid h; have HCC := Lib.hid hc
  have HL := Lib.hid hl
  clear h hc hl
  go_enter Tryd.func13, Tryd.ntmps13
  go_wp2_with fail
  refine (HC.out _).mono ?_
  rintro e w1 ⟨rfl, hb⟩
  obtain ⟨⟨l1, c0, c1, f0, f1⟩, hB⟩ := box1 hb; clear hb
  go_wp2_with fail
  refine (lookup_any w1 M tb c a n hn HCC.out (HT.out.below hB)).mono ?_
  rintro e w2 ⟨rfl, hb2⟩
  rw [HL.out, pt_none]
  have d4 := ((HT.out.below hB).below hb2).cnt
  have c02 : w2.cell? ⟨w.heap.size, 0, none⟩ = some (.int .u32 a) := (hb2.cell (p := ⟨w.heap.size, 0, none⟩) l1).trans c0
  have c12 : w2.cell? ⟨w.heap.size, 1, none⟩ = some (.int .i64 n) := (hb2.cell (p := ⟨w.heap.size, 1, none⟩) l1).trans c1
  clear c0 c1
  go_wp2_with fail
  refine (grow_any w2 M tb c a n hn HCC.out ((HT.out.below hB).below hb2)).mono ?_
  rintro e w3 ⟨M', x, rfl, hx, hT3, hG, hK⟩
  have T3 := Lib.hid hT3; have HX := Lib.hid hx; have HG := Lib.hid hG; have HK := Lib.hid hK
  have q2 : w3.cell? ⟨x.b, 2, none⟩ = some (.bool x.u) := hT3.cell _ _ _ hx 2 (by decide)
  have q3 : w3.cell? ⟨x.b, 3, none⟩ = some (.int .i64 x.v) := hT3.cell _ _ _ hx 3 (by decide)
  have e2 := hT3.free _ _ _ hx 2
  have e3 := hT3.free _ _ _ hx 3
  obtain ⟨r, hr, hrb⟩ := hT3.root
  have e4 := hT3.free _ _ _ hr 4
  rw [hrb] at e4
  have q4 := hT3.cnt
  have rb : M'.Bl tb := hT3.rootB
  have RB := Lib.hid rb
  clear hT3 hx hG hK hr hrb rb d4
  go_wp2_with fail
  go_ret
  have hle := (Below.two hB hb2).size
  refine ⟨rfl, ⟨M', x, ?_, HX.out, (T3.out.setUV HX.out true v).count (c + 1)⟩, ?_⟩
  · intro a' d'
    rcases HG.out a' d' with h1 | ⟨h1, y, h2, h3, h4⟩
    · exact Or.inl h1
    · exact Or.inr ⟨h1, y, h2, h3, by omega⟩
  · have K3 : Keep M.Bl w w3 := (Keep.of (Below.two hB hb2)).trans HK.out
    have nb : ∀ b, M'.Bl b → M.Bl b ∨ w.heap.size ≤ b := by
      intro b hb
      rcases HG.out.bl b hb with h1 | h1
      · exact Or.inl h1
      · exact Or.inr (by omega)
    have bx : M'.Bl x.b := ⟨a, n, x, HX.out, rfl⟩
    exact ((K3.then (Keep.setCell M'.Bl _ _ _ _ bx) nb).then (Keep.setCell M'.Bl _ _ _ _ bx) nb).then (Keep.setCell M'.Bl _ _ _ _ RB.out) nb

/-- Put: the error, and the table behind it. -/
theorem put_any (w : World) (S : Nat → Prop) (tb : Nat) (f : Nt → Option Int) (L : List Nt) (x : Nt) (v : Int) (hx : x.1 < 4294967296) (h : Tab w S tb f L) :
    Calls Tryd.prog 13 #[.pointer (some ⟨tb, 0, none⟩), .agg #[.int .u32 x.1, .int .i64 x.2], .int .i64 v] w fun e w' => e = .returned (errV (putE f L x)) ∧ (∃ L', Tab w' (plus S w w') tb (putF f L x v) L') ∧ Keep S w w' := by
  obtain ⟨a, z⟩ := x
  have hT := h
  obtain ⟨h64L, M, h1, h2, h3, h4, h5⟩ := h
  -- a table that stays
  have stay : ∀ w', Below w.heap.size w w' → Tab w' (plus S w w') tb f L := fun w' hb => by
    exact ⟨h64L, M, h1.below hb, fun b hb => Or.inl (h2 b hb), fun b hb' => plus_lt h3 hb.size b hb', h4, h5⟩
  by_cases hk : PrefP.chk a z = 0
  · obtain ⟨n, rfl, hn, hc⟩ := PrefP.chk_zero a z hk
    have hv := look_val M a n
    have hf : f (a, (n : Int)) = (M.look a n).map fun x => x.v := by rw [h5, hv]
    cases hl : M.look a n with
    | some x =>
      rw [hl] at hf
      have hE : putE f L (a, (n : Int)) = 0 := by unfold putE; simp [hk, hf]
      refine (put_old w M tb L.length a n v x hx hn hc h1 hl).mono ?_
      rintro e w' ⟨rfl, T', K'⟩
      have hv' : ∀ m, putF f L (a, (n : Int)) v m = (M.upd a n (some ⟨x.b, x.u, v⟩)).val m := fun m => by
        rw [val_upd]
        unfold putF
        rw [if_pos hE]
        simp only [(look_is hl).2, if_true]
        unfold setF
        rw [h5 m]
      have hlen : (M.upd a n (some ⟨x.b, x.u, v⟩)).list.length = L.length := by
          refine same_len (rises_nodup hT.rises) (rises_nodup (Tm.list_rises T'.ok)) fun m => ?_
          rw [Tm.list_mem T'.ok, hT.mem, ← hv' m]
          unfold putF
          rw [if_pos hE]
          unfold setF
          by_cases em : m = (a, (n : Int))
          · rw [if_pos em, em, hf]; simp
          · rw [if_neg em]
      refine ⟨by rw [hE]; rfl, ⟨(M.upd a n (some ⟨x.b, x.u, v⟩)).list, by rw [hlen]; exact h64L, _, ?_, ?_, ?_, rfl, hv'⟩, K'.mono h2⟩
      · rw [hlen]; exact T'
      · rintro b ⟨a', d', y, hy, rfl⟩
        refine Or.inl (h2 _ ?_)
        unfold Tm.upd at hy
        split at hy
        · obtain rfl := Option.some.inj hy
          exact ⟨a, n, x, (look_is hl).1, rfl⟩
        · exact ⟨a', d', y, hy, rfl⟩
      · exact plus_lt h3 K'.size
    | none =>
      rw [hl] at hf
      have hf : f (a, (n : Int)) = none := hf
      by_cases h64 : 64 ≤ L.length
      · have hE : putE f L (a, (n : Int)) = 4 := by unfold putE; simp [hk, hf, h64]
        have hF : putF f L (a, (n : Int)) v = f := by unfold putF; rw [hE, if_neg (by decide)]
        refine (put_full w M tb L.length a n v hx hn hc h1 hl (by omega)).mono ?_
        rintro e w' ⟨rfl, hb⟩
        rw [hE, hF]
        exact ⟨rfl, ⟨L, stay w' hb⟩, Keep.of hb⟩
      · have hE : putE f L (a, (n : Int)) = 0 := by unfold putE; simp [hk, h64]
        refine (put_new w M tb L.length a n v hx hn hc h1 hl (by omega) (by omega)).mono ?_
        rintro e w' ⟨rfl, ⟨M', x, hG, hx', T'⟩, K'⟩
        have hv' : ∀ m, putF f L (a, (n : Int)) v m = (M'.upd a n (some ⟨x.b, true, v⟩)).val m := fun m => by
          rw [val_upd]
          unfold putF
          rw [if_pos hE]
          simp only [if_true]
          unfold setF
          rw [h5 m, hG.val m]
        have hlen : (M'.upd a n (some ⟨x.b, true, v⟩)).list.length = L.length + 1 := by
            refine more_len (x := (a, (n : Int))) (rises_nodup hT.rises) (rises_nodup (Tm.list_rises T'.ok)) ?_ fun m => ?_
            · rw [hT.mem, hf]; simp
            · rw [Tm.list_mem T'.ok, hT.mem, ← hv' m]
              unfold putF
              rw [if_pos hE]
              unfold setF
              by_cases em : m = (a, (n : Int))
              · rw [if_pos em]; simp [em]
              · rw [if_neg em]; simp [em]
        refine ⟨by rw [hE]; rfl, ⟨(M'.upd a n (some ⟨x.b, true, v⟩)).list, by rw [hlen]; omega, _, ?_, ?_, ?_, rfl, hv'⟩, K'.mono h2⟩
        · rw [hlen]; exact T'
        · rintro b ⟨a', d', y, hy, rfl⟩
          have hbl : M'.Bl y.b := by
            unfold Tm.upd at hy
            split at hy
            · obtain rfl := Option.some.inj hy
              exact ⟨a, n, x, hx', rfl⟩
            · exact ⟨a', d', y, hy, rfl⟩
          rcases hG.bl _ hbl with h6 | h6
          · exact Or.inl (h2 _ h6)
          · exact Or.inr ⟨h6, T'.lt _ _ _ hy⟩
        · exact plus_lt h3 K'.size
  · have hE : putE f L (a, z) = PrefP.chk a z := by unfold putE; simp [hk]
    have hF : putF f L (a, z) v = f := by unfold putF; rw [hE, if_neg hk]
    refine (put_bad w tb a z v hx hk).mono ?_
    rintro e w' ⟨rfl, hb⟩
    rw [hE, hF, errV_pos hk]
    exact ⟨rfl, ⟨L, stay w' hb⟩, Keep.of hb⟩
end Go.Proofs.YtbdmfcnlfmnmdaaDoor
