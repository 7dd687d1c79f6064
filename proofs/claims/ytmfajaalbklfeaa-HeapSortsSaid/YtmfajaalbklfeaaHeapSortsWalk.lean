/-
  The law HeapSorts at every list of keys: it tells true; what lay in memory stays.
-/
import Derived.Test.YtmfajaalbklfeaaHeapUse
import Derived.Test.YtmfajaalbklfeaaIntList
namespace Go.Proofs.Ytmfajaalbklfeaa
open Go.RowKit Go.Lib HeapP

/-- The keys as a list tells them. -/
def keyL (l : List Int) : Nat → Int := fun a => l[a]!
/-- What is left of some things, none twice. -/
theorem erase_mem {R : List Nat} (h : R.Nodup) (x b : Nat) : b ∈ R.erase x ↔ b ∈ R ∧ b ≠ x := by
  rw [h.mem_erase_iff, and_comm]
theorem erase_len {R : List Nat} {x m : Nat} (hx : x ∈ R) (h : R.length = m + 1) : (R.erase x).length = m := by
  rw [List.length_erase_of_mem hx]; omega

set_option maxHeartbeats 2000000 in
set_option maxRecDepth 100000 in
/-- More things than a heap may have, or than the law asks of. -/
theorem heapSorts_far (w : World) (p : Option Addr) (n c : Nat) (h : 200 < n) :
    Calls Try.prog 3 #[.slice p n c] w fun e w' => e = .returned (.bool true) ∧ Below w.heap.size w w' := by
  have t : (n : Int) > 200 := by omega
  by_cases h5 : n ≤ 5000
  · have HN := Lib.hid fun w1 (hb : Below w.heap.size w w1) => new_one w w1 n n h5 rfl hb
    go_enter Try.func3, Try.ntmps3
    go_wp2_with fail
    refine (heaped_any w).mono ?_
    rintro e w1 ⟨rfl, hb1⟩
    have HN1 := Lib.hid (HN.out w1 hb1)
    clear HN hb1
    go_wp2_with fail
    refine HN1.out.mono ?_
    rintro e w2 ⟨q, rfl, ho⟩
    have HB := Lib.hid ho.bel
    clear ho
    go_wp2_with fail
    go_ret
    exact ⟨rfl, HB.out⟩
  · have HN := Lib.hid fun w1 => new_bad w1 (n : Int) (Or.inr (by omega))
    go_enter Try.func3, Try.ntmps3
    go_wp2_with fail
    refine (heaped_any w).mono ?_
    rintro e w1 ⟨rfl, hb1⟩
    have HB := Lib.hid hb1
    clear hb1
    go_wp2_with fail
    refine (HN.out w1).mono ?_
    rintro e w2 ⟨rfl, rfl⟩
    go_wp2_with fail
    go_ret
    exact ⟨rfl, HB.out⟩

set_option maxHeartbeats 4000000 in
set_option maxRecDepth 100000 in
theorem heapSorts_near (w : World) (v : Value) (l : List Int) (h : ArgI w v l) (h2 : l.length ≤ 200) :
    Calls Try.prog 3 #[v] w fun e w' => e = .returned (.bool true) ∧ Below w.heap.size w w' := by
  obtain ⟨p, c, rfl, hl⟩ := h
  have HK : Hid (∀ i, i < l.length → ∃ b off, p = some ⟨b, off, none⟩ ∧ b < w.heap.size ∧ SeenI w b off l) := Lib.hid (by
    intro i hi
    rcases hl with rfl | ⟨b, off, hp, hb, hs⟩
    · simp at hi
    · exact ⟨b, off, hp, hb, hs⟩)
  clear hl
  have HN := Lib.hid fun w1 (hb : Below w.heap.size w w1) => new_one w w1 l.length l.length (by omega) rfl hb
  obtain ⟨n, hn⟩ : ∃ n, l.length = n := ⟨_, rfl⟩
  rw [hn] at HN HK h2 ⊢
  have HL := Lib.hid hn
  clear hn
  have t : ¬ (n : Int) > 200 := by omega
  go_enter Try.func3, Try.ntmps3
  go_wp2_with fail
  refine (heaped_any w).mono ?_
  rintro e w1 ⟨rfl, hb1⟩
  have HN1 := Lib.hid (HN.out w1 hb1)
  clear HN hb1
  go_wp2_with fail
  refine HN1.out.mono ?_
  rintro e w2 ⟨q, rfl, ho⟩
  have HO := Lib.hid ho
  clear ho HN1
  go_wp2_with fail
  go_loopw [6] (fun v wr => ∃ (z : Int) (r : Nat), v = .int .i64 z ∧ z = (r : Int) - 1 ∧ r ≤ n ∧ ∃ ky, Hid (One w wr q n ky (fun a => r ≤ a ∧ a < n)) ∧ Hid (∀ a, r ≤ a → a < n → ky a = keyL l a)) (fun v _ => ((RowKit.intOf v) + 1).toNat)
  case atStart => exact ⟨_, n, rfl, by go_num, Nat.le_refl _, _, Lib.hid (HO.out.congr (fun _ _ => rfl) fun a => ⟨fun c => c.elim, fun c => by omega⟩), Lib.hid fun a h1 h2 => by omega⟩
  case round =>
    clear HO
    obtain ⟨z, r, rfl, hz, hr, ky, HO, HE⟩ := hrel
    by_cases hr0 : r = 0
    · obtain rfl : z = -1 := by omega
      subst hr0
      have HO2 := Lib.hid (HO.out.congr (ky' := keyL l) (M' := fun a => a ∈ List.range n) (fun a ha => HE.out a (Nat.zero_le _) ha) fun a => by simp)
      clear HO HE hz
      go_wp2_with fail
      go_loopw [7, 8] (fun x y wr => ∃ (z : Int) (s : Nat) (R : List Nat), x = .int .i64 z ∧ y = .int .i64 s ∧ s ≤ n ∧ Hid (One w wr q n (keyL l) (fun a => a ∈ R)) ∧ Hid (R.Nodup ∧ R.length + s = n) ∧ Hid (z = -1 ∨ ∃ a : Nat, z = (a : Int) ∧ a < n ∧ ∀ b ∈ R, lt (keyL l) a b)) (fun _ y _ => n - (RowKit.intOf y).toNat)
      case atStart => exact ⟨-1, 0, List.range n, rfl, rfl, Nat.zero_le _, HO2, Lib.hid ⟨List.nodup_range, by simp⟩, Lib.hid (Or.inl rfl)⟩
      case round =>
        clear HO2
        obtain ⟨z, s, R, rfl, rfl, hs, HO, HR, HZ⟩ := hrel
        by_cases hsn : s < n
        · have hne : R ≠ [] := by
            intro e
            have := HR.out.2
            rw [e] at this
            simp at this
            omega
          obtain ⟨a0, ha0⟩ := List.exists_mem_of_ne_nil R hne
          have HM := Lib.hid (HO.out.min a0 ha0)
          clear hne ha0
          go_wp2_with fail
          refine HM.out.mono ?_
          rintro e w3 ⟨x, rfl, hx, hmin, h3⟩
          have hxn := h3.bd hx
          obtain ⟨b, off, rfl, hbw, hS⟩ := HK.out x hxn
          have HD := Lib.hid (h3.drop x x hx rfl)
          have cx := (h3.bel.cell (p := ⟨b, off + x, none⟩) hbw).trans (hS x (by rw [HL.out]; exact hxn))
          have e1 : keyL l x = l[x]! := rfl
          rw [← e1] at cx
          have HX := Lib.hid hx
          have HMin := Lib.hid hmin
          have hx1 : ¬ (x : Int) < 0 := by omega
          have hx2 : ¬ (x : Int) ≥ (n : Int) := by omega
          have hx3 : (x : Int) < (n : Int) := by omega
          have HY : Hid (∃ y, y = keyL l x) := Lib.hid ⟨_, rfl⟩
          obtain ⟨y, hy⟩ := HY.out
          have HYY := Lib.hid hy
          rw [← hy] at cx ⊢
          clear hx hmin h3 hy HY e1 HM
          have hS2 := Lib.hid hS
          have hbw2 := Lib.hid hbw
          clear hS
          go_wp2_with fail
          refine HD.out.mono ?_
          rintro e w4 ⟨rfl, h4⟩
          have HO4 : Hid (One w w4 q n (keyL l) (fun a => a ∈ R.erase x)) := Lib.hid (h4.congr (fun _ _ => rfl) fun b => (erase_mem HR.out.1 x b).symm)
          have HR4 : Hid ((R.erase x).Nodup ∧ (R.erase x).length + (s + 1) = n) := Lib.hid ⟨HR.out.1.erase x, by
            have := erase_len (m := R.length - 1) HX.out (by have := List.length_pos_of_mem HX.out; omega)
            have := List.length_pos_of_mem HX.out
            have := HR.out.2
            omega⟩
          have HZ4 : Hid ((x : Int) = -1 ∨ ∃ a : Nat, (x : Int) = (a : Int) ∧ a < n ∧ ∀ b ∈ R.erase x, lt (keyL l) a b) := Lib.hid (Or.inr ⟨x, rfl, hxn, fun b hb => by
            obtain ⟨h1, h2⟩ := (erase_mem HR.out.1 x b).1 hb
            exact lt_other h2 (HMin.out b h1)⟩)
          clear h4 HD cx
          rcases HZ.out with rfl | ⟨a, rfl, ha, hlt⟩
          · have tz : ((-1 : Int) ≥ 0) = False := by simp
            go_wp2_with fail
            go_roundw
            case rel => exact ⟨x, s + 1, _, rfl, by go_num, by omega, HO4, HR4, HZ4⟩
            case measure => simp [RowKit.intOf]; omega
          · have hax := hlt x HX.out
            have ca := (HO4.out.bel.cell (p := ⟨b, off + a, none⟩) hbw2.out).trans (hS2.out a (by rw [HL.out]; exact ha))
            have e1 : keyL l a = l[a]! := rfl
            rw [← e1] at ca
            have e3 : (a : Int) < (n : Int) := by omega
            have e4 : (a : Int) ≥ 0 := by omega
            unfold lt at hax
            rw [← HYY.out] at hax
            generalize keyL l a = u at hax ca
            clear hlt e1
            have e5 : ¬ y < u := by omega
            by_cases e6 : y = u
            · subst e6
              have e7 : ¬ (x : Int) < (a : Int) := by omega
              clear hax
              go_wp2_with fail
              go_roundw
              case rel => exact ⟨x, s + 1, _, rfl, by go_num, by omega, HO4, HR4, HZ4⟩
              case measure => simp [RowKit.intOf]; omega
            · have e7 : (y == u) = false := by simpa using e6
              clear hax
              go_wp2_with fail
              go_roundw
              case rel => exact ⟨x, s + 1, _, rfl, by go_num, by omega, HO4, HR4, HZ4⟩
              case measure => simp [RowKit.intOf]; omega
        · obtain rfl : s = n := by omega
          have HE : Hid (Calls Try.prog 10 #[.pointer (some ⟨q, 0, none⟩)] wr fun e w' => e = .returned (.int .i64 0) ∧ wr = w') := Lib.hid (by
            have := HO.out.len R HR.out.1 (fun _ => Iff.rfl)
            rw [show R.length = 0 by have := HR.out.2; omega] at this
            exact this)
          have HB := Lib.hid HO.out.bel
          clear HO HR HZ
          go_wp2_with fail
          refine HE.out.mono ?_
          rintro e w3 ⟨rfl, rfl⟩
          go_wp2_with fail
          go_ret
          exact ⟨rfl, HB.out⟩
    · obtain ⟨s, rfl⟩ : ∃ s, r = s + 1 := ⟨r - 1, by omega⟩
      obtain rfl : z = (s : Int) := by omega
      obtain ⟨b, off, rfl, hbw, hS⟩ := HK.out s (by omega)
      have cs := (HO.out.bel.cell (p := ⟨b, off + s, none⟩) hbw).trans (hS s (by rw [HL.out]; omega))
      have e1 : keyL l s = l[s]! := rfl
      rw [← e1] at cs
      have HP := Lib.hid (HO.out.put s s (keyL l s) (by omega) rfl)
      have HE2 : Hid (∀ a, s ≤ a → a < n → putK ky s (keyL l s) a = keyL l a) := Lib.hid fun a h1 h2 => by
        by_cases e : a = s
        · rw [e, putK_at]
        · rw [putK_ne _ _ _ _ e]; exact HE.out a (by omega) h2
      have e3 : (s : Int) < (n : Int) := by omega
      clear hS e1 hz hr0 HO HE
      generalize keyL l s = y at cs HP HE2
      go_wp2_with fail
      refine HP.out.mono ?_
      rintro e w3 ⟨rfl, h3⟩
      have HO3 := Lib.hid (h3.congr (M' := fun a => s ≤ a ∧ a < n) (fun _ _ => rfl) fun a => by omega)
      clear h3 HP cs
      go_wp2_with fail
      go_roundw
      case rel => exact ⟨_, s, rfl, by go_num, by omega, _, HO3, HE2⟩
      case measure => simp [RowKit.intOf]
end Go.Proofs.Ytmfajaalbklfeaa

namespace Go.Proofs.Ytmfajaalbklfeaa
open Go.RowKit
/-- At every list of keys. -/
theorem heapSorts_walk (w : World) (v : Value) (l : List Int) (h : ArgI w v l) :
    Calls Try.prog 3 #[v] w fun e w' => e = .returned (.bool true) ∧ Below w.heap.size w w' := by
  by_cases h2 : l.length ≤ 200
  · exact heapSorts_near w v l h h2
  · obtain ⟨p, c, rfl, _⟩ := h
    exact heapSorts_far w p _ c (by omega)
end Go.Proofs.Ytmfajaalbklfeaa
