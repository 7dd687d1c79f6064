/-
  The statement TrieDrops' function answers true at every list, every network and every address; what lay in memory stays. Condition: the library's variable errors.errorType is as its text lays it.
-/
import Derived.Test.YtbdmfcnlfmnmdaaDoorTriePut
import Derived.Test.YtbdmfcnlfmnmdaaDoorTrieDrop
import Derived.Test.YtbdmfcnlfmnmdaaDoorTrieFind
import Derived.Test.YtbdmfcnlfmnmdaaDoorTrieList
import Derived.Test.YtbdmfcnlfmnmdaaDoorSameNets
import Derived.Test.YtbdmfcnlfmnmdaaDoorErrTwo
namespace Go.Proofs.YtbdmfcnlfmnmdaaDoor
open Go.RowKit

/-- The four ways of a network that is put into a table: none; there; no room; new. -/
theorem put_ways (f : Nt → Option Int) (L : List Nt) (n : Nt) (hL : L.length ≤ 64) :
    (∃ k, k ≠ 0 ∧ PrefP.chk n.1 n.2 = k ∧ getE f n = k ∧ putE f L n = k) ∨ (PrefP.chk n.1 n.2 = 0 ∧ getE f n = 0 ∧ putE f L n = 0) ∨
    (PrefP.chk n.1 n.2 = 0 ∧ getE f n = 2 ∧ putE f L n = 4 ∧ L.length = 64) ∨ (PrefP.chk n.1 n.2 = 0 ∧ f n = none ∧ getE f n = 2 ∧ putE f L n = 0) := by
  unfold getE putE
  by_cases hk : PrefP.chk n.1 n.2 = 0
  · rw [if_pos hk, if_pos hk]
    cases hf : f n with
    | some z => exact Or.inr (Or.inl ⟨hk, by simp, by simp⟩)
    | none =>
      by_cases h64 : 64 ≤ L.length
      · exact Or.inr (Or.inr (Or.inl ⟨hk, by simp, by simp [h64], by omega⟩))
      · exact Or.inr (Or.inr (Or.inr ⟨hk, rfl, by simp, by simp [h64]⟩))
  · rw [if_neg hk, if_neg hk]
    exact Or.inl ⟨_, hk, rfl, rfl, rfl⟩

set_option maxHeartbeats 4000000 in
set_option maxRecDepth 100000 in
theorem trieDrops_walk (w : World) (v : Value) (l : List Nt) (n : Nt) (a : Nat) (hl : l.length * 16 ≤ 140737488355328) (hn : n.1 < 4294967296) (ha : a < 4294967296) (h : Arg w v l) (hok : ∀ x ∈ l, x.1 < 4294967296) (he : ErrType w) :
    Calls Tryd.prog 4 #[v, .agg #[.int .u32 n.1, .int .i64 n.2], .int .u32 a] w fun e w' => e = .returned (.bool true) ∧ Below w.heap.size w w' := by
  obtain ⟨p, c, rfl, h⟩ := h
  have HA := Lib.hid h; have HOK := Lib.hid hok; have HE := Lib.hid he
  have N0 := Box.new w (.int .u32 n.1) (.int .i64 n.2) 32
  have B0 : Below w.heap.size w (w.alloc (.cells #[.int .u32 n.1, .int .i64 n.2] 32)) := (Below.refl _ _).alloc (Nat.le_refl _) _
  have HN0 := Lib.hid N0; have HB0 := Lib.hid B0
  clear h hok he N0 B0
  go_enter Tryd.func4, Tryd.ntmps4
  go_wp2_with fail
  generalize w.alloc (.cells #[.int .u32 n.1, .int .i64 n.2] 32) = W0 at *
  refine (new_tab W0).mono ?_
  rintro e w1 ⟨rfl, T1, b1⟩
  have HT3 := Lib.hid T1; have HB3 := Lib.hid b1
  clear T1 b1
  go_wp2_with fail
  go_loopw [8] (fun s8 wr => ∃ (k : Nat) (S : Nat → Prop) (f : Nt → Option Int) (L : List Nt), s8 = .int .i64 k ∧ k ≤ l.length ∧ Hid (Tab wr S W0.heap.size f L) ∧ Hid (Below W0.heap.size W0 wr) ∧ Hid (∀ b, S b → W0.heap.size ≤ b)) (fun s8 _ => l.length - (RowKit.intOf s8).toNat)
  case atStart => exact ⟨0, _, _, [], rfl, Nat.zero_le _, HT3, HB3, Lib.hid fun b hb => by omega⟩
  case round =>
    clear HT3 HB3
    obtain ⟨k, S, f, L, rfl, hk, HT, HB, HS⟩ := hrel
    by_cases hkn : k < l.length
    · obtain ⟨b, off, hp, hlt, hs⟩ : ∃ b off, p = some ⟨b, off, none⟩ ∧ b < w.heap.size ∧ Seen w b off l := by
        rcases HA.out with h | h
        · rw [h] at hkn; simp at hkn
        · exact h
      subst hp
      have sw := (hs.below HB0.out hlt).below HB.out (Nat.lt_of_lt_of_le hlt HB0.out.size)
      have s0 : wr.cell? ⟨b, off + k * 2, none⟩ = some (.int .u32 (l[k]!.1 : Int)) := sw.c0 k hkn
      have s1 : wr.cell? ⟨b, off + k * 2 + 1, none⟩ = some (.int .i64 l[k]!.2) := sw.c1 k hkn
      have hx : l[k]!.1 < 4294967296 := HOK.out _ (by rw [getElem!_pos l k hkn]; exact List.getElem_mem hkn)
      generalize l[k]! = m at s0 s1 hx
      clear sw hs
      go_wp2_with fail
      refine (put_any wr S W0.heap.size f L m k hx HT.out).mono ?_
      rintro e w4 ⟨rfl, ⟨L4, T4⟩, K4⟩
      go_wp2_with fail
      go_roundw
      case rel => exact ⟨k + 1, _, _, L4, by go_num, by omega, Lib.hid T4, Lib.hid (HB.out.trans (K4.below HS.out HB.out.size)), Lib.hid (plus_ge HS.out HB.out.size)⟩
      case measure => simp [RowKit.intOf]; omega
    · clear HA HOK
      go_wp2_with fail
      refine (list_any wr S W0.heap.size f L HT.out).mono ?_
      rintro e w5 ⟨v5, rfl, o5, b5⟩
      have HSlt := Lib.hid HT.out.lt
      have T5 := Lib.hid (HT.out.below b5); have B5b := Lib.hid b5; have B5 := Lib.hid (Below.two HB.out b5); have O5 := Lib.hid o5
      have hfew := HT.out.few
      clear o5 b5 HT
      go_wp2_with fail
      refine (find_any w5 S W0.heap.size f L a ha T5.out).mono ?_
      rintro e w6 ⟨q, rfl, hF, b6⟩
      rw [foundV_eq]
      have HF := Lib.hid hF
      have T6 := Lib.hid (T5.out.below b6); have B6 := Lib.hid (Below.two B5.out b6); have O6 := Lib.hid (O5.out.keep b6)
      have sz6 : wr.heap.size ≤ w6.heap.size := by have := B5b.out.size; have := b6.size; omega
      clear hF b6 T5 B5 O5 B5b
      have X6 := Box.new w6 (.int .u32 ((fN q a).1 : Int)) (.int .i64 (fN q a).2) 32
      have b7 : Below w6.heap.size w6 (w6.alloc (.cells #[.int .u32 ((fN q a).1 : Int), .int .i64 (fN q a).2] 32)) := (Below.refl _ _).alloc (Nat.le_refl _) _
      have c0 := (HN0.out.kept (Below.two B6.out b7)).c0
      have c1 := (HN0.out.kept (Below.two B6.out b7)).c1
      go_wp2_with fail
      generalize w6.alloc (.cells #[.int .u32 ((fN q a).1 : Int), .int .i64 (fN q a).2] 32) = W7 at *
      have T7 := Lib.hid (T6.out.below b7); have B7 := Lib.hid (Below.two B6.out b7); have X7 := Lib.hid X6; have O7 := Lib.hid (O6.out.keep b7); have N7 := Lib.hid (HN0.out.kept (Below.two B6.out b7))
      clear X6 b7 T6 B6 O6
      rcases put_ways f L n hfew with hw | hw | hw | hw
      · obtain ⟨k, hk, hC, hG, hP⟩ := hw
        refine (get_any W7 S W0.heap.size f L n hn T7.out).mono ?_
        rintro e w8 ⟨rfl, b8⟩
        rw [hG]
        have T8 := Lib.hid (T7.out.below b8); have B8 := Lib.hid (Below.two B7.out b8); have X8 := Lib.hid (X7.out.kept b8); have O8 := Lib.hid (O7.out.keep b8); have N8 := Lib.hid (N7.out.kept b8)
        clear b8 hG c0 c1
        rw [errV_pos hk]
        have c0 := N8.out.c0
        have c1 := N8.out.c1
        go_wp2_with fail
        refine (put_any w8 S W0.heap.size f L n 9 hn T8.out).mono ?_
        rintro e w9 ⟨rfl, ⟨L9, T9⟩, K9⟩
        have hnS : ¬ S w.heap.size := fun e => by have := HS.out _ e; have := HN0.out.lt; omega
        have N9 := Lib.hid (N8.out.keepS K9 hnS); have B9 := Lib.hid (B8.out.trans (K9.below HS.out B8.out.size))
        clear c0 c1
        have c0 := N9.out.c0
        have c1 := N9.out.c1
        rw [hP, errV_pos hk]
        clear T9 K9
        go_wp2_with fail
        refine (check1_any n.1 n.2 hn _).mono ?_
        rintro e w10 ⟨rfl, b10⟩
        rw [hC, errV_pos hk]
        go_wp2_with fail
        go_ret
        exact ⟨by simp, HB0.out.trans ((Below.two B9.out b10).mono HB0.out.size)⟩
      · obtain ⟨hC, hG, hP⟩ := hw
        refine (get_any W7 S W0.heap.size f L n hn T7.out).mono ?_
        rintro e w8 ⟨rfl, b8⟩
        rw [hG]
        have T8 := Lib.hid (T7.out.below b8); have B8 := Lib.hid (Below.two B7.out b8); have X8 := Lib.hid (X7.out.kept b8); have O8 := Lib.hid (O7.out.keep b8); have N8 := Lib.hid (N7.out.kept b8)
        clear b8 hG c0 c1
        rw [errV_zero, if_pos rfl]
        have c0 := N8.out.c0
        have c1 := N8.out.c1
        go_wp2_with fail
        refine (put_any w8 S W0.heap.size f L n 9 hn T8.out).mono ?_
        rintro e w9 ⟨rfl, ⟨L9, T9⟩, K9⟩
        have hnS : ¬ S w.heap.size := fun e => by have := HS.out _ e; have := HN0.out.lt; omega
        have N9 := Lib.hid (N8.out.keepS K9 hnS); have B9 := Lib.hid (B8.out.trans (K9.below HS.out B8.out.size))
        clear c0 c1
        have c0 := N9.out.c0
        have c1 := N9.out.c1
        rw [hP, errV_zero]
        clear T9 K9
        go_wp2_with fail
        refine (check1_any n.1 n.2 hn _).mono ?_
        rintro e w10 ⟨rfl, b10⟩
        rw [hC, errV_zero]
        go_wp2_with fail
        go_ret
        exact ⟨by simp, HB0.out.trans ((Below.two B9.out b10).mono HB0.out.size)⟩
      · obtain ⟨hC, hG, hP, hL⟩ := hw
        refine (get_any W7 S W0.heap.size f L n hn T7.out).mono ?_
        rintro e w8 ⟨rfl, b8⟩
        rw [hG]
        have T8 := Lib.hid (T7.out.below b8); have B8 := Lib.hid (Below.two B7.out b8); have X8 := Lib.hid (X7.out.kept b8); have O8 := Lib.hid (O7.out.keep b8); have N8 := Lib.hid (N7.out.kept b8)
        clear b8 hG c0 c1
        rw [show errV 2 = .iface 29 (.int .i64 2) from rfl, if_neg (by decide)]
        have c0 := N8.out.c0
        have c1 := N8.out.c1
        go_wp2_with fail
        refine (put_any w8 S W0.heap.size f L n 9 hn T8.out).mono ?_
        rintro e w9 ⟨rfl, ⟨L9, T9⟩, K9⟩
        have hnS : ¬ S w.heap.size := fun e => by have := HS.out _ e; have := HN0.out.lt; omega
        have N9 := Lib.hid (N8.out.keepS K9 hnS); have B9 := Lib.hid (B8.out.trans (K9.below HS.out B8.out.size))
        clear c0 c1
        have c0 := N9.out.c0
        have c1 := N9.out.c1
        rw [hP, show errV 4 = .iface 29 (.int .i64 4) from rfl]
        clear T9 K9
        go_wp2_with fail
        refine (check1_any n.1 n.2 hn _).mono ?_
        rintro e w10 ⟨rfl, b10⟩
        rw [hC, errV_zero]
        obtain ⟨p5, c5, rfl, _⟩ := O8.out.arg
        go_wp2_with fail
        go_ret
        exact ⟨by simp, HB0.out.trans ((Below.two B9.out b10).mono HB0.out.size)⟩
      · obtain ⟨hC, hf0, hG, hP⟩ := hw
        refine (get_any W7 S W0.heap.size f L n hn T7.out).mono ?_
        rintro e w8 ⟨rfl, b8⟩
        rw [hG]
        have T8 := Lib.hid (T7.out.below b8); have B8 := Lib.hid (Below.two B7.out b8); have X8 := Lib.hid (X7.out.kept b8); have O8 := Lib.hid (O7.out.keep b8); have N8 := Lib.hid (N7.out.kept b8)
        clear b8 hG c0 c1
        rw [show errV 2 = .iface 29 (.int .i64 2) from rfl, if_neg (by decide)]
        have c0 := N8.out.c0
        have c1 := N8.out.c1
        go_wp2_with fail
        refine (put_any w8 S W0.heap.size f L n 9 hn T8.out).mono ?_
        rintro e w9 ⟨rfl, ⟨L9, T9⟩, K9⟩
        have hnS : ¬ S w.heap.size := fun e => by have := HS.out _ e; have := HN0.out.lt; omega
        have N9 := Lib.hid (N8.out.keepS K9 hnS); have B9 := Lib.hid (B8.out.trans (K9.below HS.out B8.out.size))
        clear c0 c1
        have c0 := N9.out.c0
        have c1 := N9.out.c1
        have hF9 : putF f L n 9 = setF f n (some 9) := if_pos hP
        rw [hF9] at T9
        rw [hP, errV_zero]
        have X9 := Lib.hid (X8.out.keepS K9 (fun e => by have := HSlt.out _ e; omega)); have O9 := Lib.hid (O8.out.keepS K9 HSlt.out)
        have HT9 := Lib.hid T9; have HK9 := Lib.hid K9
        have hG9 : getE (setF f n (some 9)) n = 0 := by unfold getE; rw [if_pos hC, setF_same, if_neg (by simp)]
        have HS9 := Lib.hid (show ∀ b, plus S w8 w9 b → W0.heap.size ≤ b from plus_ge HS.out B8.out.size)
        have HX9 := Lib.hid (show ¬ plus S w8 w9 w6.heap.size from plus_not (fun e => by have := HSlt.out _ e; omega) X8.out.lt)
        have HO9 : Hid (∀ b, wr.heap.size ≤ b → b < w8.heap.size → ¬ plus S w8 w9 b) := Lib.hid fun b h1 h2 => plus_not (fun e => by have := HSlt.out _ e; omega) h2
        clear T9 K9 hF9
        go_wp2_with fail
        refine (drop_any w9 _ W0.heap.size _ L9 n hn HT9.out).mono ?_
        rintro e w10 ⟨rfl, ⟨L10, T10⟩, K10⟩
        rw [hG9, errV_zero]
        have hd : ∀ m, dropF (setF f n (some 9)) n m = f m := by
          intro m
          unfold dropF
          rw [if_pos hG9]
          unfold setF
          by_cases e : m = n
          · rw [if_pos e, e, hf0]
          · rw [if_neg e, if_neg e]
        have hL10 : L10 = L := T10.only T8.out hd
        subst hL10
        have O10 : Hid (Own w10 wr.heap.size v5 L10) := Lib.hid (by
          obtain ⟨h1, h2⟩ := O9.out
          refine ⟨h1, ?_⟩
          rcases h2 with h2 | ⟨g, cap, cur, hv, hg0, hg, rest⟩
          · exact Or.inl h2
          · refine Or.inr ⟨g, cap, cur, hv, hg0, ?_, rest⟩
            obtain ⟨_, h8⟩ := O8.out
            have hg8 : g < w8.heap.size := by
              rcases h8 with ⟨h8, _⟩ | ⟨g8, cap8, cur8, hv8, _, hg8, _⟩
              · rw [hv] at h8; simp at h8
              · rw [hv] at hv8
                have e : g = g8 := by simp at hv8; exact hv8.1
                rw [e]; exact (Array.getElem?_eq_some_iff.1 hg8).1
            rw [K10.block g (Array.getElem?_eq_some_iff.1 hg).1 (HO9.out g hg0 hg8)]
            exact hg)
        have X10 := Lib.hid (X9.out.keepS K10 HX9.out)
        have B10 := Lib.hid (B9.out.trans (K10.below HS9.out B9.out.size))
        have HT10 := Lib.hid T10; have HD := Lib.hid hd
        clear T10 K10 hd hG9 c0 c1
        go_wp2_with fail
        refine (find_any w10 _ W0.heap.size _ L10 a ha HT10.out).mono ?_
        rintro e w11 ⟨q', rfl, hF', b11⟩
        obtain rfl : q' = q := hF'.only HD.out HF.out
        rw [foundV_eq]
        have T11 := Lib.hid (HT10.out.below b11); have B11 := Lib.hid (Below.two B10.out b11); have X11 := Lib.hid (X10.out.kept b11); have O11 := Lib.hid (O10.out.keep b11)
        clear hF' b11
        go_wp2_with fail
        have Y12 := Box.new w11 (.int .u32 ((fN q' a).1 : Int)) (.int .i64 (fN q' a).2) 32
        have b12 : Below w11.heap.size w11 (w11.alloc (.cells #[.int .u32 ((fN q' a).1 : Int), .int .i64 (fN q' a).2] 32)) := (Below.refl _ _).alloc (Nat.le_refl _) _
        generalize w11.alloc (.cells #[.int .u32 ((fN q' a).1 : Int), .int .i64 (fN q' a).2] 32) = w12 at *
        have T12 := Lib.hid (T11.out.below b12); have B12 := Lib.hid (Below.two B11.out b12); have X12 := Lib.hid (X11.out.kept b12); have O12 := Lib.hid (O11.out.keep b12); have HY12 := Lib.hid Y12
        clear Y12 b12
        refine (sameTold_any (fE q') (fE q') w12 (HE.out.below (HB0.out.trans (B12.out.mono HB0.out.size)))).mono ?_
        rintro e w13 ⟨rfl, b13⟩
        rw [beq_self_eq_true]
        have T13 := Lib.hid (T12.out.below b13); have B13 := Lib.hid (Below.two B12.out b13); have X13 := Lib.hid (X12.out.kept b13); have O13 := Lib.hid (O12.out.keep b13); have Y13 := Lib.hid (HY12.out.kept b13)
        clear b13
        go_wp2_with fail
        refine (list_any w13 _ W0.heap.size _ L10 T13.out).mono ?_
        rintro e w14 ⟨v14, rfl, o14, b14⟩
        have B14 := Lib.hid (Below.two B13.out b14); have X14 := Lib.hid (X13.out.kept b14); have O14 := Lib.hid (O13.out.keep b14); have Y14 := Lib.hid (Y13.out.kept b14); have OL := Lib.hid o14
        clear b14 o14
        go_wp2_with fail
        refine (sameNets_any w14 v14 v5 L10 L10 (by omega) OL.out.arg O14.out.arg).mono ?_
        rintro e w15 ⟨rfl, b15⟩
        rw [decide_eq_true rfl]
        have B15 := Lib.hid (Below.two B14.out b15)
        obtain ⟨lx, x0, x1, _, _⟩ := X14.out.kept b15
        obtain ⟨ly, y0, y1, _, _⟩ := Y14.out.kept b15
        clear b15
        go_wp2_with fail
        go_ret
        exact ⟨by simp, HB0.out.trans (B15.out.mono HB0.out.size)⟩
end Go.Proofs.YtbdmfcnlfmnmdaaDoor
