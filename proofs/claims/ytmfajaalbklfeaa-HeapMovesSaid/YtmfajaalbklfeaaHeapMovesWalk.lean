/-
  The law HeapMoves at every list of keys, every thing and two keys: it tells true; what lay in memory stays.
-/
import Derived.Test.YtmfajaalbklfeaaHeapTwo
import Derived.Test.YtmfajaalbklfeaaIntList
namespace Go.Proofs.Ytmfajaalbklfeaa
open Go.RowKit Go.Lib HeapP

/-- The keys as a list tells them. -/
def keyL (l : List Int) : Nat → Int := fun a => l[a]!
theorem erase_mem {R : List Nat} (h : R.Nodup) (x b : Nat) : b ∈ R.erase x ↔ b ∈ R ∧ b ≠ x := by
  rw [h.mem_erase_iff, and_comm]
theorem erase_len {R : List Nat} {x m : Nat} (hx : x ∈ R) (h : R.length = m + 1) : (R.erase x).length = m := by
  rw [List.length_erase_of_mem hx]; omega
/-- The first of some things is one. -/
theorem first_one {ky : Nat → Int} {M : Nat → Prop} {x y : Nat} (hx : M x) (hy : M y) (h1 : ∀ b, M b → ¬ lt ky b x) (h2 : ∀ b, M b → ¬ lt ky b y) : x = y := by
  by_cases e : x = y
  · exact e
  · exact absurd (lt_other (Ne.symm e) (h1 y hy)) (h2 x hx)

set_option maxHeartbeats 2000000 in
set_option maxRecDepth 100000 in
/-- More things than a heap may have. -/
theorem heapMoves_far (w : World) (p : Option Addr) (n c : Nat) (i x y : Int) (h : 5000 < n) :
    Calls Try.prog 4 #[.slice p n c, .int .i64 i, .int .i64 x, .int .i64 y] w fun e w' => e = .returned (.bool true) ∧ Below w.heap.size w w' := by
  have HN := Lib.hid fun w1 => new_bad w1 (n : Int) (Or.inr (by omega))
  go_enter Try.func4, Try.ntmps4
  go_wp2_with fail
  refine (heaped_any w).mono ?_
  rintro e w1 ⟨rfl, hb1⟩
  have HB := Lib.hid hb1
  clear hb1
  go_wp2_with fail
  refine (HN.out w1).mono ?_
  rintro e w2 ⟨rfl, rfl⟩
  go_wp2_with fail
  refine (HN.out w1).mono ?_
  rintro e w2 ⟨rfl, rfl⟩
  go_wp2_with fail
  go_ret
  exact ⟨rfl, HB.out⟩

set_option maxHeartbeats 4000000 in
set_option maxRecDepth 100000 in
/-- No such thing, or more things than the law asks of. -/
theorem heapMoves_mid (w : World) (p : Option Addr) (n c : Nat) (i x y : Int) (h5 : n ≤ 5000) (h : i < 0 ∨ (n : Int) ≤ i ∨ 200 < n) :
    Calls Try.prog 4 #[.slice p n c, .int .i64 i, .int .i64 x, .int .i64 y] w fun e w' => e = .returned (.bool true) ∧ Below w.heap.size w w' := by
  have HN := Lib.hid fun w1 (hb : Below w.heap.size w w1) => new_one w w1 n n h5 rfl hb
  have HN2 := Lib.hid fun (w1 : World) (q : Nat) (h : One w w1 q n (fun _ => 0) (fun _ => False)) => new_two w w1 q n _ _ n h h5 rfl
  by_cases t1 : i < 0
  · clear h
    go_enter Try.func4, Try.ntmps4
    go_wp2_with fail
    refine (heaped_any w).mono ?_
    rintro e w1 ⟨rfl, hb1⟩
    have HN1 := Lib.hid (HN.out w1 hb1)
    clear HN hb1
    go_wp2_with fail
    refine HN1.out.mono ?_
    rintro e w2 ⟨q, rfl, ho⟩
    have HT := Lib.hid (HN2.out w2 q ho)
    clear ho HN1 HN2
    go_wp2_with fail
    refine HT.out.mono ?_
    rintro e w3 ⟨r, rfl, ht⟩
    have HB := Lib.hid ht.bel
    clear ht
    go_wp2_with fail
    go_ret
    exact ⟨rfl, HB.out⟩
  · by_cases t2 : i ≥ (n : Int)
    · clear h
      go_enter Try.func4, Try.ntmps4
      go_wp2_with fail
      refine (heaped_any w).mono ?_
      rintro e w1 ⟨rfl, hb1⟩
      have HN1 := Lib.hid (HN.out w1 hb1)
      clear HN hb1
      go_wp2_with fail
      refine HN1.out.mono ?_
      rintro e w2 ⟨q, rfl, ho⟩
      have HT := Lib.hid (HN2.out w2 q ho)
      clear ho HN1 HN2
      go_wp2_with fail
      refine HT.out.mono ?_
      rintro e w3 ⟨r, rfl, ht⟩
      have HB := Lib.hid ht.bel
      clear ht
      go_wp2_with fail
      go_ret
      exact ⟨rfl, HB.out⟩
    · have t3 : (n : Int) > 200 := by omega
      clear h
      go_enter Try.func4, Try.ntmps4
      go_wp2_with fail
      refine (heaped_any w).mono ?_
      rintro e w1 ⟨rfl, hb1⟩
      have HN1 := Lib.hid (HN.out w1 hb1)
      clear HN hb1
      go_wp2_with fail
      refine HN1.out.mono ?_
      rintro e w2 ⟨q, rfl, ho⟩
      have HT := Lib.hid (HN2.out w2 q ho)
      clear ho HN1 HN2
      go_wp2_with fail
      refine HT.out.mono ?_
      rintro e w3 ⟨r, rfl, ht⟩
      have HB := Lib.hid ht.bel
      clear ht
      go_wp2_with fail
      go_ret
      exact ⟨rfl, HB.out⟩

set_option maxHeartbeats 4000000 in
set_option maxRecDepth 100000 in
theorem heapMoves_near (w : World) (v : Value) (l : List Int) (a : Nat) (x y : Int) (h : ArgI w v l) (h2 : l.length ≤ 200) (ha : a < l.length) :
    Calls Try.prog 4 #[v, .int .i64 a, .int .i64 x, .int .i64 y] w fun e w' => e = .returned (.bool true) ∧ Below w.heap.size w w' := by
  obtain ⟨p, c, rfl, hl⟩ := h
  obtain ⟨b, off, rfl, hbw, hS⟩ : ∃ b off, p = some ⟨b, off, none⟩ ∧ b < w.heap.size ∧ SeenI w b off l := by
    rcases hl with rfl | h
    · simp at ha
    · exact h
  have HS := Lib.hid fun (w1 : World) (hb : Below w.heap.size w w1) (k : Nat) (hk : k < l.length) => (hb.cell (p := ⟨b, off + k, none⟩) hbw).trans (hS k hk)
  clear hl hS
  have HN := Lib.hid fun w1 (hb : Below w.heap.size w w1) => new_one w w1 l.length l.length (by omega) rfl hb
  have HN2 := Lib.hid fun (w1 : World) (q : Nat) (h : One w w1 q l.length (fun _ => 0) (fun _ => False)) => new_two w w1 q l.length _ _ l.length h (by omega) rfl
  obtain ⟨n, hn⟩ : ∃ n, l.length = n := ⟨_, rfl⟩
  rw [hn] at HN HN2 HS h2 ha ⊢
  clear hn
  have t : ¬ (n : Int) > 200 := by omega
  have t1 : ¬ (a : Int) < 0 := by omega
  have t2 : ¬ (a : Int) ≥ (n : Int) := by omega
  go_enter Try.func4, Try.ntmps4
  go_wp2_with fail
  refine (heaped_any w).mono ?_
  rintro e w1 ⟨rfl, hb1⟩
  have HN1 := Lib.hid (HN.out w1 hb1)
  clear HN hb1
  go_wp2_with fail
  refine HN1.out.mono ?_
  rintro e w2 ⟨q, rfl, ho⟩
  have HT0 := Lib.hid (HN2.out w2 q ho)
  clear ho HN1 HN2
  go_wp2_with fail
  refine HT0.out.mono ?_
  rintro e w3 ⟨r, rfl, ht⟩
  have HT := Lib.hid ht
  clear ht HT0
  go_wp2_with fail
  have d1 : decide ((a : Int) < 0) = false := decide_eq_false (by omega)
  have d2 : decide (n ≤ a) = false := decide_eq_false (by omega)
  have d3 : decide (200 < (n : Int)) = false := decide_eq_false (by omega)
  simp only [d1, d2, d3, Bool.or_self]
  go_loopw [14] (fun z wr => ∃ (k : Nat), z = .int .i64 k ∧ k ≤ n ∧ ∃ ky kz, Hid (Two w wr q r n ky kz (fun b => b < k) (fun b => b < k ∧ b ≠ a)) ∧ Hid (∀ b, b < k → ky b = keyL l b ∧ (b ≠ a → kz b = keyL l b))) (fun z _ => n - (RowKit.intOf z).toNat)
  case atStart => exact ⟨0, rfl, Nat.zero_le _, _, _, Lib.hid (HT.out.congr (fun _ _ => rfl) (fun _ _ => rfl) (fun b => ⟨fun c => c.elim, fun c => by omega⟩) fun b => ⟨fun c => c.elim, fun c => by omega⟩), Lib.hid fun b hb => by omega⟩
  case round =>
    clear HT
    obtain ⟨k, rfl, hk, ky, kz, HT, HE⟩ := hrel
    by_cases hkn : k < n
    · have ck := HS.out wr HT.out.bel k hkn
      have e1 : keyL l k = l[k]! := rfl
      rw [← e1] at ck
      have HP := Lib.hid (HT.out.put k k (keyL l k) hkn rfl)
      have e3 : (k : Int) < (n : Int) := by omega
      clear e1
      obtain ⟨u, hu⟩ : ∃ u, keyL l k = u := ⟨_, rfl⟩
      have HU := Lib.hid hu
      rw [hu] at ck HP
      clear hu HT
      by_cases hka : k = a
      · subst hka
        have e4 : ((k : Int) != (k : Int)) = false := by simp
        go_wp2_with fail
        refine HP.out.mono ?_
        rintro e w4 ⟨rfl, ht⟩
        have HT4 : Hid (Two w w4 q r n (putK ky k u) kz (fun b => b < k + 1) (fun b => b < k + 1 ∧ b ≠ k)) := Lib.hid (ht.congr (fun _ _ => rfl) (fun _ _ => rfl) (fun b => by omega) fun b => by omega)
        have HE4 : Hid (∀ b, b < k + 1 → putK ky k u b = keyL l b ∧ (b ≠ k → kz b = keyL l b)) := Lib.hid fun b hb => by
          by_cases e : b = k
          · exact ⟨by rw [e, putK_at, HU.out], fun c => absurd e c⟩
          · rw [putK_ne _ _ _ _ e]; exact HE.out b (by omega)
        clear ht HP ck
        go_wp2_with fail
        go_roundw
        case rel => exact ⟨k + 1, by go_num, by omega, _, _, HT4, HE4⟩
        case measure => simp [RowKit.intOf]; omega
      · have e4 : ((k : Int) != (a : Int)) = true := by
          have : ¬ (k : Int) = (a : Int) := by omega
          simpa using this
        go_wp2_with fail
        refine HP.out.mono ?_
        rintro e w4 ⟨rfl, ht⟩
        have ck4 := HS.out w4 ht.bel k hkn
        have e1 : keyL l k = l[k]! := rfl
        rw [← e1, HU.out] at ck4
        have HP4 := Lib.hid (ht.swap.put k k u hkn rfl)
        clear ht HP ck e1
        go_wp2_with fail
        refine HP4.out.mono ?_
        rintro e w5 ⟨rfl, ht⟩
        have HT5 : Hid (Two w w5 q r n (putK ky k u) (putK kz k u) (fun b => b < k + 1) (fun b => b < k + 1 ∧ b ≠ a)) := Lib.hid (ht.swap.congr (fun _ _ => rfl) (fun _ _ => rfl) (fun b => by omega) fun b => by omega)
        have HE5 : Hid (∀ b, b < k + 1 → putK ky k u b = keyL l b ∧ (b ≠ a → putK kz k u b = keyL l b)) := Lib.hid fun b hb => by
          by_cases e : b = k
          · rw [e, putK_at, putK_at, HU.out]; exact ⟨rfl, fun _ => rfl⟩
          · rw [putK_ne _ _ _ _ e, putK_ne _ _ _ _ e]; exact HE.out b (by omega)
        clear ht HP4 ck4
        go_wp2_with fail
        go_roundw
        case rel => exact ⟨k + 1, by go_num, by omega, _, _, HT5, HE5⟩
        case measure => simp [RowKit.intOf]; omega
    · obtain rfl : k = n := by omega
      have HP1 := Lib.hid (HT.out.put a a x ha rfl)
      clear HT
      go_wp2_with fail
      refine HP1.out.mono ?_
      rintro e w4 ⟨rfl, ht⟩
      have HP2 := Lib.hid (ht.put a a y ha rfl)
      clear ht HP1
      go_wp2_with fail
      refine HP2.out.mono ?_
      rintro e w5 ⟨rfl, ht⟩
      have HP3 := Lib.hid (ht.swap.put a a y ha rfl)
      clear ht HP2
      go_wp2_with fail
      refine HP3.out.mono ?_
      rintro e w6 ⟨rfl, ht⟩
      have HT6 : Hid (Two w w6 q r k (putK (keyL l) a y) (putK (keyL l) a y) (fun b => b ∈ List.range k) (fun b => b ∈ List.range k)) := Lib.hid (ht.swap.congr (fun b hb => by
        by_cases e : b = a
        · rw [e, putK_at, putK_at]
        · rw [putK_ne _ _ _ _ e, putK_ne _ _ _ _ e, putK_ne _ _ _ _ e]; exact (HE.out b hb).1) (fun b hb => by
        by_cases e : b = a
        · rw [e, putK_at, putK_at]
        · rw [putK_ne _ _ _ _ e, putK_ne _ _ _ _ e]; exact (HE.out b hb).2 e) (fun b => by rw [List.mem_range]; omega) fun b => by rw [List.mem_range]; omega)
      clear ht HP3 HE
      generalize putK (keyL l) a y = K at HT6
      go_wp2_with fail
      go_loopw [15] (fun z wr => ∃ (s : Nat) (R : List Nat), z = .int .i64 s ∧ s ≤ k ∧ Hid (Two w wr q r k K K (fun b => b ∈ R) (fun b => b ∈ R)) ∧ Hid (R.Nodup ∧ R.length + s = k)) (fun z _ => k - (RowKit.intOf z).toNat)
      case atStart => exact ⟨0, List.range k, rfl, Nat.zero_le _, HT6, Lib.hid ⟨List.nodup_range, by simp⟩⟩
      case round =>
        clear HT6
        obtain ⟨s, R, rfl, hs, HT, HR⟩ := hrel
        by_cases hsn : s < k
        · have hne : R ≠ [] := by
            intro e
            have := HR.out.2
            rw [e] at this
            simp at this
            omega
          obtain ⟨a0, ha0⟩ := List.exists_mem_of_ne_nil R hne
          have HM := Lib.hid (HT.out.min a0 ha0)
          have HA0 := Lib.hid ha0
          clear hne ha0 HT
          go_wp2_with fail
          refine HM.out.mono ?_
          rintro e w7 ⟨x1, rfl, hx1, hmin1, ht⟩
          have HM2 := Lib.hid (ht.swap.min a0 HA0.out)
          have HX1 := Lib.hid (And.intro hx1 hmin1)
          clear ht HM hx1 hmin1
          go_wp2_with fail
          refine HM2.out.mono ?_
          rintro e w8 ⟨x2, rfl, hx2, hmin2, ht⟩
          obtain rfl := first_one HX1.out.1 hx2 HX1.out.2 hmin2
          have HD := Lib.hid (ht.swap.drop x1 x1 hx2 rfl)
          have HX := Lib.hid hx2
          clear ht HM2 hx2 hmin2 HX1
          generalize K x1 = u
          go_wp2_with fail
          refine HD.out.mono ?_
          rintro e w9 ⟨rfl, ht⟩
          have HD2 := Lib.hid (ht.swap.drop x1 x1 HX.out rfl)
          clear ht HD
          go_wp2_with fail
          refine HD2.out.mono ?_
          rintro e w10 ⟨rfl, ht⟩
          have HT10 : Hid (Two w w10 q r k K K (fun b => b ∈ R.erase x1) (fun b => b ∈ R.erase x1)) := Lib.hid (ht.swap.congr (fun _ _ => rfl) (fun _ _ => rfl) (fun b => (erase_mem HR.out.1 x1 b).symm) fun b => (erase_mem HR.out.1 x1 b).symm)
          have HR10 : Hid ((R.erase x1).Nodup ∧ (R.erase x1).length + (s + 1) = k) := Lib.hid ⟨HR.out.1.erase x1, by
            have := erase_len (m := R.length - 1) HX.out (by have := List.length_pos_of_mem HX.out; omega)
            have := List.length_pos_of_mem HX.out
            have := HR.out.2
            omega⟩
          clear ht HD2
          go_wp2_with fail
          go_roundw
          case rel => exact ⟨s + 1, _, by go_num, by omega, HT10, HR10⟩
          case measure => simp [RowKit.intOf]; omega
        · obtain rfl : s = k := by omega
          have h0 : R.length = 0 := by have := HR.out.2; omega
          have HL1 : Hid (Calls Try.prog 10 #[.pointer (some ⟨q, 0, none⟩)] wr fun e w' => e = .returned (.int .i64 0) ∧ wr = w') := Lib.hid (by
            have := HT.out.len R HR.out.1 (fun _ => Iff.rfl)
            rw [h0] at this
            exact this)
          have HL2 : Hid (Calls Try.prog 10 #[.pointer (some ⟨r, 0, none⟩)] wr fun e w' => e = .returned (.int .i64 0) ∧ wr = w') := Lib.hid (by
            have := HT.out.swap.len R HR.out.1 (fun _ => Iff.rfl)
            rw [h0] at this
            exact this)
          have HB := Lib.hid HT.out.bel
          clear HT HR h0
          go_wp2_with fail
          refine HL1.out.mono ?_
          rintro e w7 ⟨rfl, rfl⟩
          go_wp2_with fail
          refine HL2.out.mono ?_
          rintro e w8 ⟨rfl, rfl⟩
          go_wp2_with fail
          go_ret
          exact ⟨rfl, HB.out⟩

/-- At every list of keys, every thing and two keys. -/
theorem heapMoves_walk (w : World) (v : Value) (l : List Int) (h : ArgI w v l) (i x y : Int) :
    Calls Try.prog 4 #[v, .int .i64 i, .int .i64 x, .int .i64 y] w fun e w' => e = .returned (.bool true) ∧ Below w.heap.size w w' := by
  by_cases h5 : l.length ≤ 5000
  · by_cases hm : i < 0 ∨ (l.length : Int) ≤ i ∨ 200 < l.length
    · obtain ⟨p, c, rfl, _⟩ := h
      exact heapMoves_mid w p _ c i x y h5 hm
    · obtain ⟨a, rfl⟩ := Int.eq_ofNat_of_zero_le (a := i) (by omega)
      exact heapMoves_near w v l a x y h (by omega) (by omega)
  · obtain ⟨p, c, rfl, _⟩ := h
    exact heapMoves_far w p _ c i x y (by omega)
end Go.Proofs.Ytmfajaalbklfeaa
