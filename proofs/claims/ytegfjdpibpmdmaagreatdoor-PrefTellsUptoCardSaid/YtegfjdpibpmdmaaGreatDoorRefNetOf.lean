/-
  The document's own answer NetOf at every text of at most 2^40 bytes: the network whose text it is, or none; what lay in memory stays.
-/
import Derived.Test.YtegfjdpibpmdmaaGreatDoorRefAddr
import Derived.Test.YtegfjdpibpmdmaaGreatDoorRefNet
import Derived.Test.YtegfjdpibpmdmaaGreatDoorPrefParse
namespace Go.Proofs.YtegfjdpibpmdmaaGreatDoor
open Go.RowKit

theorem addrOf_yes (s : ByteArray) (n : Nat) (w : World) (hs : s.size ≤ 1099511627776) (h : AddrP.parse s.data.toList = some n) :
    Calls Tryz.prog 28 #[.string s] w fun e w' => e = .returned (.tuple #[.int .u32 n, .bool true]) ∧ Below w.heap.size w w' := by
  refine (addrOf_any s w hs).mono ?_
  rintro e w' ⟨he, hb⟩
  rw [h] at he
  exact ⟨he, hb⟩
theorem addrOf_no (s : ByteArray) (w : World) (hs : s.size ≤ 1099511627776) (h : AddrP.parse s.data.toList = none) :
    Calls Tryz.prog 28 #[.string s] w fun e w' => e = .returned (.tuple #[.int .u32 0, .bool false]) ∧ Below w.heap.size w w' := by
  refine (addrOf_any s w hs).mono ?_
  rintro e w' ⟨he, hb⟩
  rw [h] at he
  exact ⟨he, hb⟩
theorem whole_is (s : ByteArray) (z : Int) (w : World) (h : WholeP.whole s.data.toList = z) :
    Calls Tryz.prog 29 #[.string s] w fun e w' => e = .returned (.int .i64 z) ∧ Below w.heap.size w w' := by
  refine (whole_any s w).mono ?_
  rintro e w' ⟨he, hb⟩
  rw [h] at he
  exact ⟨he, hb⟩

/-! ### What a text's pieces tell -/
theorem PrefP.whole_fin : ∀ n : Fin 33, WholeP.whole (AddrP.dig n.val) = (n.val : Int) := by decide +kernel
theorem PrefP.cutAll_text (a n : Nat) (hn : n ≤ 32) : CutP.cutAll 47 (PrefP.text a n) = [AddrP.text a, AddrP.dig n] := by
  unfold CutP.cutAll PrefP.text
  obtain ⟨k, hk⟩ : ∃ k, (AddrP.text a ++ 47 :: AddrP.dig n).length = k + 1 := ⟨(AddrP.text a).length + (AddrP.dig n).length, by simp; omega⟩
  rw [hk, CutP.cut_hit 47 k _ _ (AddrP.text_noslash a), CutP.cut_miss 47 k _ (AddrP.dig_noslash n (by omega))]
theorem PrefP.cutAll_two (l p q : List UInt8) (h : CutP.cutAll 47 l = [p, q]) : l = p ++ 47 :: q := by
  unfold CutP.cutAll at h
  cases hl : l.length with
  | zero =>
    have : l = [] := List.length_eq_zero_iff.1 hl
    subst this
    have h2 := CutP.cut_le 47 0 []
    rw [show ([] : List UInt8).length = 0 from rfl] at h
    rw [h] at h2
    simp at h2
  | succ k =>
    rw [hl] at h
    obtain ⟨t, rfl, ht⟩ := CutP.cut_back 47 k l p [q] h (by simp)
    rw [CutP.cut_last 47 k t q ht]
theorem WholeP.whole_dig (l : List UInt8) (n : Nat) (hn : n ≤ 32) (h : WholeP.whole l = (n : Int)) : AddrP.dig n = l := by
  unfold WholeP.whole at h
  by_cases hok : WholeP.ok l = true
  · rw [if_pos hok] at h
    have hnum : AddrP.num l = n := by omega
    unfold WholeP.ok at hok
    rw [Bool.and_eq_true] at hok
    have e := eq_of_beq hok.2
    rw [hnum, AddrP.dig_eq n (by omega)] at e
    exact e
  · rw [if_neg hok] at h
    omega
theorem PrefP.is_of (l p q : List UInt8) (a n : Nat) (h : CutP.cutAll 47 l = [p, q]) (hp : AddrP.parse p = some a) (hq : WholeP.whole q = (n : Int)) (hn : n ≤ 32) (hc : PrefP.cut a n = a) : PrefP.Is l a n := by
  obtain ⟨ha, ht⟩ := AddrP.text_parse hp
  refine ⟨ha, hn, hc, ?_⟩
  unfold PrefP.text
  rw [ht, WholeP.whole_dig q n hn hq, PrefP.cutAll_two l p q h]

/-! ### The walks -/
/-- The two pieces in memory. -/
def TwoCells (w : World) (g : Nat) (p q : ByteArray) : Prop := g < w.heap.size ∧ w.cell? ⟨g, 0, none⟩ = some (.string p) ∧ w.cell? ⟨g, 1, none⟩ = some (.string q)
theorem TwoCells.kept {w w1 : World} {g : Nat} {p q : ByteArray} (h : TwoCells w g p q) (hb : Below w.heap.size w w1) : TwoCells w1 g p q :=
  ⟨Nat.lt_of_lt_of_le h.1 hb.size, (hb.cell (p := ⟨g, 0, none⟩) h.1).trans h.2.1, (hb.cell (p := ⟨g, 1, none⟩) h.1).trans h.2.2⟩
/-- What Cut tells of a text with one slash. -/
def CutTwo (s p q : ByteArray) : Prop := ∀ w, Calls Tryz.prog 27 #[.string s, .int .u8 47] w fun e w' => ∃ g cap, e = .returned (.slice (some ⟨g, 0, none⟩) 2 cap) ∧ TwoCells w' g p q ∧ Below w.heap.size w w'
/-- What Cut tells of a text with none, or with more. -/
def CutOther (s : ByteArray) : Prop := ∀ w, Calls Tryz.prog 27 #[.string s, .int .u8 47] w fun e w' => ∃ g n cap, e = .returned (.slice (some ⟨g, 0, none⟩) n cap) ∧ n ≠ 2 ∧ Below w.heap.size w w'

theorem cut_cases (s : ByteArray) (hs : s.size ≤ 1099511627776) : CutOther s ∧ (∀ p q, CutP.cutAll 47 s.data.toList ≠ [p, q]) ∨ ∃ p q : ByteArray, CutTwo s p q ∧ CutP.cutAll 47 s.data.toList = [p.data.toList, q.data.toList] := by
  by_cases h2 : (CutP.cutAll 47 s.data.toList).length = 2
  · right
    obtain ⟨x, y, hxy⟩ : ∃ x y, CutP.cutAll 47 s.data.toList = [x, y] := by
      match hl : CutP.cutAll 47 s.data.toList with
      | [x, y] => exact ⟨x, y, rfl⟩
      | [] => rw [hl] at h2; simp at h2
      | [_] => rw [hl] at h2; simp at h2
      | _ :: _ :: _ :: _ => rw [hl] at h2; simp at h2
    refine ⟨⟨x.toArray⟩, ⟨y.toArray⟩, fun w => ?_, by simpa using hxy⟩
    refine (cut_any s 47 47 rfl w hs).mono ?_
    rintro e w1 ⟨v, ps, rfl, hm, hown, hb1⟩
    have hlen : ps.length = 2 := by
      have e : ps.length = (CutP.cutAll 47 s.data.toList).length := by rw [← hm, List.length_map]
      omega
    obtain ⟨g, cap, rfl⟩ := Go.Joins.ownsRow_form hown (by omega)
    have hg := (hown.lt g rfl).2
    have hcells := RefP.cells hm hown
    rw [hlen] at hcells ⊢
    obtain ⟨p, hp, hpd⟩ := hcells 0 (by omega)
    obtain ⟨q, hq, hqd⟩ := hcells 1 (by omega)
    rw [hxy] at hpd hqd
    have ep : p.data.toList = x := (List.cons.inj hpd).1.symm
    have eq : q.data.toList = y := (List.cons.inj hqd).1.symm
    rw [PrefP.bytes_eq ep] at hp
    rw [PrefP.bytes_eq eq] at hq
    exact ⟨g, cap, rfl, ⟨hg, hp, hq⟩, hb1⟩
  · left
    refine ⟨fun w => ?_, fun p q e => h2 (by rw [e]; rfl)⟩
    refine (cut_any s 47 47 rfl w hs).mono ?_
    rintro e w1 ⟨v, ps, rfl, hm, hown, hb1⟩
    have e : ps.length = (CutP.cutAll 47 s.data.toList).length := by rw [← hm, List.length_map]
    have hpos : 0 < ps.length := by
      have := CutP.cut_pos 47 s.data.toList.length s.data.toList
      unfold CutP.cutAll at e
      omega
    obtain ⟨g, cap, rfl⟩ := Go.Joins.ownsRow_form hown hpos
    exact ⟨g, ps.length, cap, rfl, by omega, hb1⟩
set_option maxHeartbeats 1000000 in
theorem netOf_other (s : ByteArray) (w : World) (hc : CutOther s) :
    Calls Tryz.prog 8 #[.string s] w fun e w' => e = .returned (.tuple #[.agg #[.int .u32 0, .int .i64 0], .bool false]) ∧ Below w.heap.size w w' := by
  have HC := Lib.hid hc; clear hc
  go_enter Tryz.func8, Tryz.ntmps8
  go_wp2_with fail
  refine (HC.out _).mono ?_
  rintro e w1 ⟨g, n, cap, rfl, hn, hb⟩
  obtain ⟨⟨l1, c0, c1, f0, f1⟩, hB⟩ := box1 hb; clear hb
  have ht : ((n : Int) == 2) = false := by
    have : ¬ ((n : Int) = 2) := by omega
    simpa using this
  clear hn
  go_wp2_with fail
  exact bodyPost_ret (v := .tuple #[.agg #[.int .u32 0, .int .i64 0], .bool false]) (by simp [results, Tryz.results8, go_sem, c0, c1]) rfl ⟨rfl, (hB.setCell (by simp) _).setCell (by simp) _⟩

set_option maxHeartbeats 1000000 in
theorem netOf_a (s p q : ByteArray) (w : World) (hps : p.size ≤ 1099511627776) (hc : CutTwo s p q) (hp : AddrP.parse p.data.toList = none) (z : Int) (hq : WholeP.whole q.data.toList = z) :
    Calls Tryz.prog 8 #[.string s] w fun e w' => e = .returned (.tuple #[.agg #[.int .u32 0, .int .i64 0], .bool false]) ∧ Below w.heap.size w w' := by
  have HC := Lib.hid hc; clear hc
  have HA := Lib.hid (fun w => addrOf_no p w hps hp); clear hp
  have HQ := Lib.hid (fun w => whole_is q z w hq); clear hq
  go_enter Tryz.func8, Tryz.ntmps8
  go_wp2_with fail
  refine (HC.out _).mono ?_
  rintro e w1 ⟨g, cap, rfl, T1, hb⟩
  obtain ⟨B1, H1⟩ := box1 hb; clear hb
  have D1 := Lib.hid B1; clear B1
  have HT1 := Lib.hid T1
  obtain ⟨lg, t0, t1⟩ := T1
  go_wp2_with fail
  refine (HA.out _).mono ?_
  rintro e w2 ⟨rfl, hb2⟩
  have D2 := Lib.hid (D1.out.kept hb2)
  have H2 := Below.two H1 hb2
  have T2 := HT1.out.kept hb2
  clear D1 H1 hb2 HT1 lg t0 t1
  obtain ⟨lg, t0, t1⟩ := T2
  go_wp2_with fail
  refine (HQ.out _).mono ?_
  rintro e w3 ⟨rfl, hb3⟩
  have D3 := Lib.hid (D2.out.kept hb3)
  have H3 := Below.two H2 hb3
  clear D2 H2 hb3 lg t0 t1
  obtain ⟨l1, c0, c1, f0, f1⟩ := D3.out
  have H4 := H3
  go_wp2_with fail
  exact bodyPost_ret (v := .tuple #[.agg #[.int .u32 0, .int .i64 0], .bool false]) (by simp [results, Tryz.results8, go_sem, c0, c1, l1]) rfl ⟨rfl, ((H4.setCell (by simp) _).setCell (by simp) _).alloc (by have := H4.size; simp; omega) _⟩

set_option maxHeartbeats 1000000 in
theorem netOf_b (s p q : ByteArray) (w : World) (hps : p.size ≤ 1099511627776) (hc : CutTwo s p q) (a : Nat) (hp : AddrP.parse p.data.toList = some a) (z : Int) (hq : WholeP.whole q.data.toList = z) (hz : z < 0) :
    Calls Tryz.prog 8 #[.string s] w fun e w' => e = .returned (.tuple #[.agg #[.int .u32 0, .int .i64 0], .bool false]) ∧ Below w.heap.size w w' := by
  have HC := Lib.hid hc; clear hc
  have HA := Lib.hid (fun w => addrOf_yes p a w hps hp); clear hp
  have HQ := Lib.hid (fun w => whole_is q z w hq); clear hq
  go_enter Tryz.func8, Tryz.ntmps8
  go_wp2_with fail
  refine (HC.out _).mono ?_
  rintro e w1 ⟨g, cap, rfl, T1, hb⟩
  obtain ⟨B1, H1⟩ := box1 hb; clear hb
  have D1 := Lib.hid B1; clear B1
  have HT1 := Lib.hid T1
  obtain ⟨lg, t0, t1⟩ := T1
  go_wp2_with fail
  refine (HA.out _).mono ?_
  rintro e w2 ⟨rfl, hb2⟩
  have D2 := Lib.hid (D1.out.kept hb2)
  have H2 := Below.two H1 hb2
  have T2 := HT1.out.kept hb2
  clear D1 H1 hb2 HT1 lg t0 t1
  obtain ⟨lg, t0, t1⟩ := T2
  go_wp2_with fail
  refine (HQ.out _).mono ?_
  rintro e w3 ⟨rfl, hb3⟩
  have D3 := Lib.hid (D2.out.kept hb3)
  have H3 := Below.two H2 hb3
  clear D2 H2 hb3 lg t0 t1
  obtain ⟨l1, c0, c1, f0, f1⟩ := D3.out
  have H4 := H3
  go_wp2_with fail
  exact bodyPost_ret (v := .tuple #[.agg #[.int .u32 0, .int .i64 0], .bool false]) (by simp [results, Tryz.results8, go_sem, c0, c1, l1]) rfl ⟨rfl, ((H4.setCell (by simp) _).setCell (by simp) _).alloc (by have := H4.size; simp; omega) _⟩

set_option maxHeartbeats 1000000 in
theorem netOf_c (s p q : ByteArray) (w : World) (hps : p.size ≤ 1099511627776) (hc : CutTwo s p q) (a : Nat) (hp : AddrP.parse p.data.toList = some a) (z k : Int) (hq : WholeP.whole q.data.toList = z) (hz : ¬ z < 0) (hk : (k != 0) = true) (hf : ∀ w, Calls Tryz.prog 5 #[.agg #[.int .u32 a, .int .i64 z]] w fun e w' => e = .returned (.int .i64 k) ∧ Below w.heap.size w w') :
    Calls Tryz.prog 8 #[.string s] w fun e w' => e = .returned (.tuple #[.agg #[.int .u32 0, .int .i64 0], .bool false]) ∧ Below w.heap.size w w' := by
  have HC := Lib.hid hc; clear hc
  have HA := Lib.hid (fun w => addrOf_yes p a w hps hp); clear hp
  have HF := Lib.hid hf; clear hf
  have HQ := Lib.hid (fun w => whole_is q z w hq); clear hq
  go_enter Tryz.func8, Tryz.ntmps8
  go_wp2_with fail
  refine (HC.out _).mono ?_
  rintro e w1 ⟨g, cap, rfl, T1, hb⟩
  obtain ⟨B1, H1⟩ := box1 hb; clear hb
  have D1 := Lib.hid B1; clear B1
  have HT1 := Lib.hid T1
  obtain ⟨lg, t0, t1⟩ := T1
  go_wp2_with fail
  refine (HA.out _).mono ?_
  rintro e w2 ⟨rfl, hb2⟩
  have D2 := Lib.hid (D1.out.kept hb2)
  have H2 := Below.two H1 hb2
  have T2 := HT1.out.kept hb2
  clear D1 H1 hb2 HT1 lg t0 t1
  obtain ⟨lg, t0, t1⟩ := T2
  go_wp2_with fail
  refine (HQ.out _).mono ?_
  rintro e w3 ⟨rfl, hb3⟩
  have D3 := Lib.hid (D2.out.kept hb3)
  have H3 := Below.two H2 hb3
  clear D2 H2 hb3 lg t0 t1
  go_wp2_with fail
  refine (HF.out _).mono ?_
  rintro e w4 ⟨rfl, hb4⟩
  obtain ⟨ln, n0, n1, _, _⟩ := (box1 hb4).1
  obtain ⟨l1, c0, c1, f0, f1⟩ := (D3.out.alloc _).kept hb4
  have H4 := Below.two (H3.alloc H3.size _) hb4
  go_wp2_with fail
  exact bodyPost_ret (v := .tuple #[.agg #[.int .u32 0, .int .i64 0], .bool false]) (by simp [results, Tryz.results8, go_sem, c0, c1]) rfl ⟨rfl, (H4.setCell (by simp) _).setCell (by simp) _⟩

set_option maxHeartbeats 1000000 in
theorem netOf_d (s p q : ByteArray) (w : World) (hps : p.size ≤ 1099511627776) (hc : CutTwo s p q) (a n : Nat) (hp : AddrP.parse p.data.toList = some a) (hq : WholeP.whole q.data.toList = (n : Int)) (hf : ∀ w, Calls Tryz.prog 5 #[.agg #[.int .u32 a, .int .i64 n]] w fun e w' => e = .returned (.int .i64 0) ∧ Below w.heap.size w w') :
    Calls Tryz.prog 8 #[.string s] w fun e w' => e = .returned (.tuple #[.agg #[.int .u32 a, .int .i64 n], .bool true]) ∧ Below w.heap.size w w' := by
  have HC := Lib.hid hc; clear hc
  have HA := Lib.hid (fun w => addrOf_yes p a w hps hp); clear hp
  have HF := Lib.hid hf; clear hf
  have hz : ¬ ((n : Int) < 0) := by omega
  have HQ := Lib.hid (fun w => whole_is q (n : Int) w hq); clear hq
  go_enter Tryz.func8, Tryz.ntmps8
  go_wp2_with fail
  refine (HC.out _).mono ?_
  rintro e w1 ⟨g, cap, rfl, T1, hb⟩
  obtain ⟨B1, H1⟩ := box1 hb; clear hb
  have D1 := Lib.hid B1; clear B1
  have HT1 := Lib.hid T1
  obtain ⟨lg, t0, t1⟩ := T1
  go_wp2_with fail
  refine (HA.out _).mono ?_
  rintro e w2 ⟨rfl, hb2⟩
  have D2 := Lib.hid (D1.out.kept hb2)
  have H2 := Below.two H1 hb2
  have T2 := HT1.out.kept hb2
  clear D1 H1 hb2 HT1 lg t0 t1
  obtain ⟨lg, t0, t1⟩ := T2
  go_wp2_with fail
  refine (HQ.out _).mono ?_
  rintro e w3 ⟨rfl, hb3⟩
  have D3 := Lib.hid (D2.out.kept hb3)
  have H3 := Below.two H2 hb3
  clear D2 H2 hb3 lg t0 t1
  go_wp2_with fail
  refine (HF.out _).mono ?_
  rintro e w4 ⟨rfl, hb4⟩
  obtain ⟨ln, n0, n1, _, _⟩ := (box1 hb4).1
  obtain ⟨l1, c0, c1, f0, f1⟩ := (D3.out.alloc _).kept hb4
  have H4 := Below.two (H3.alloc H3.size _) hb4
  go_wp2_with fail
  exact bodyPost_ret (v := .tuple #[.agg #[.int .u32 a, .int .i64 n], .bool true]) (by simp [results, Tryz.results8, go_sem, c0, c1]) rfl ⟨rfl, (H4.setCell (by simp) _).setCell (by simp) _⟩

theorem netOf_is (s : ByteArray) (a n : Nat) (w : World) (h : PrefP.Is s.data.toList a n) :
    Calls Tryz.prog 8 #[.string s] w fun e w' => e = .returned (.tuple #[.agg #[.int .u32 a, .int .i64 n], .bool true]) ∧ Below w.heap.size w w' := by
  obtain ⟨ha, hn, hc, ht⟩ := h
  have hl := PrefP.text_len a n hn (AddrP.text_len a)
  have hs : s.size ≤ 19 := by rw [PrefP.size_len, ← ht]; exact hl
  have hcut := PrefP.cutAll_text a n hn
  rw [ht] at hcut
  rcases cut_cases s (by omega) with ⟨_, hno⟩ | ⟨p, q, hC, hpq⟩
  · exact absurd hcut (hno _ _)
  · rw [hcut] at hpq
    have ep : AddrP.text a = p.data.toList := (List.cons.inj hpq).1
    have eq : AddrP.dig n = q.data.toList := (List.cons.inj (List.cons.inj hpq).2).1
    have hps : p.size ≤ 1099511627776 := by
      have := AddrP.text_len a
      rw [PrefP.size_len, ← ep]; omega
    exact netOf_d s p q w hps hC a n (by rw [← ep]; exact AddrP.parse_text a ha) (by rw [← eq]; exact PrefP.whole_fin ⟨n, by omega⟩) (fault_ok a n ha hn hc)

theorem netOf_not (s : ByteArray) (w : World) (hs : s.size ≤ 1099511627776) (h : ∀ a n, ¬ PrefP.Is s.data.toList a n) :
    Calls Tryz.prog 8 #[.string s] w fun e w' => e = .returned (.tuple #[.agg #[.int .u32 0, .int .i64 0], .bool false]) ∧ Below w.heap.size w w' := by
  rcases cut_cases s hs with ⟨hC, _⟩ | ⟨p, q, hC, hpq⟩
  · exact netOf_other s w hC
  · have hps : p.size ≤ 1099511627776 := by
      have e := PrefP.cutAll_two _ _ _ hpq
      have e2 : s.size = p.size + 1 + q.size := by
        rw [PrefP.size_len, PrefP.size_len p, PrefP.size_len q, e, List.length_append, List.length_cons]; omega
      omega
    cases hp : AddrP.parse p.data.toList with
    | none => exact netOf_a s p q w hps hC hp _ rfl
    | some a =>
      have ha := (AddrP.text_parse hp).1
      by_cases hz : WholeP.whole q.data.toList < 0
      · exact netOf_b s p q w hps hC a hp _ rfl hz
      · rcases PrefP.chk_cases a (WholeP.whole q.data.toList) with ⟨h1, _⟩ | ⟨n, e, hn, hc, _⟩ | ⟨n, e, hn, hc, _⟩
        · exact netOf_c s p q w hps hC a hp _ 1 rfl hz rfl (fault_range a _ h1)
        · exact netOf_c s p q w hps hC a hp _ 3 rfl hz rfl (by rw [e]; exact fault_form a n ha hn hc)
        · exact absurd (PrefP.is_of _ _ _ a n hpq hp e hn hc) (h a n)
end Go.Proofs.YtegfjdpibpmdmaaGreatDoor
