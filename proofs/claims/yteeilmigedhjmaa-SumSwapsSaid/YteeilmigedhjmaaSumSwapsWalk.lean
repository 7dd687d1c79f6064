/-
  THE LAW SumSwaps, walked: at every list of bytes and every two numbers it returns true; what lay in memory stays.
-/
import Derived.Test.YteeilmigedhjmaaSummed
import Derived.Test.YteeilmigedhjmaaByteJoin
import Derived.Test.YteeilmigedhjmaaByteWrite
import Derived.Deep.RegionHeld3
namespace Go.Proofs.Yteeilmigedhjmaa
open Go.RowKit Go.Lib

theorem OwnB.form {w : World} {base : Nat} {v : Value} {l : List Nat} (h : OwnB w base v l) (hl : 0 < l.length) : ∃ g cap, v = .slice (some ⟨g, 0, none⟩) l.length cap ∧ base ≤ g ∧ g < w.heap.size := by
  obtain ⟨_, ⟨hv, hn⟩ | ⟨g, cap, cur, hv, hb, hg, _⟩⟩ := h
  · omega
  · exact ⟨g, cap, hv, hb, (Array.getElem?_eq_some_iff.1 hg).1⟩

set_option maxHeartbeats 400000 in
set_option maxRecDepth 100000 in
theorem sumSwaps_main (w : World) (v : Value) (l : List Nat) (i n : Nat) (hn : n < 65536) (hlen : l.length ≤ 140737488355328) (hi : i + 2 ≤ l.length) (h2 : i % 2 = 0) (hA : ArgB w v l) (sa : Sl v) (hy : Byt l) :
    Calls Try.prog 6 #[v, .int .i64 (i : Int), .int .u16 (n : Int)] w fun x w' => x = .returned (.bool true) ∧ Below w.heap.size w w' := by
  have HA := Lib.hid hA; have SA := Lib.hid sa; have HY := Lib.hid hy
  have H0 := Lib.hid (summed_any w)
  obtain ⟨pa, ca, ea, hca, hs0⟩ := hA
  obtain ⟨b, off, rfl, hb, hs⟩ : ∃ b off, pa = some ⟨b, off, none⟩ ∧ b < w.heap.size ∧ SeenB w b off l := by
    rcases hs0 with rfl | h
    · simp at hi
    · exact h
  subst ea
  have HS := Lib.hid hs
  have hx : l[i]! < 256 := HY.out _ (by rw [getElem!_pos l i (by omega)]; exact List.getElem_mem _)
  have hz : l[i + 1]! < 256 := HY.out _ (by rw [getElem!_pos l (i + 1) (by omega)]; exact List.getElem_mem _)
  have HP := Lib.hid (tot_put l i n (by omega) h2)
  have HF := Lib.hid (or16 l[i]! l[i + 1]! hx hz)
  have e1 : Int.tmod (i : Int) 2 = 0 := by rw [Int.tmod_eq_emod_of_nonneg (by omega)]; omega
  clear sa hy hs hs0 h2
  go_enter Try.func6, Try.ntmps6
  go_wp2_with fail
  refine H0.out.mono ?_
  rintro x w1 ⟨rfl, b1⟩
  have HB1 := Lib.hid b1
  have S := HS.out.below b1 hb
  have a0 := S i (by omega)
  have a1 := S (i + 1) (by omega)
  clear b1 H0 S
  generalize l[i]! = x at hx HP HF a0
  generalize l[i + 1]! = y at hz HP HF a1
  have ef := HF.out
  have ho : 256 * x + y < 65536 := by omega
  clear HF
  generalize 256 * x + y = o at ef HP ho
  go_wp2_with fail
  go_region
  have HB2 := Lib.hid HB1.out.drew
  clear a0 a1 HB1 ef
  generalize w1.drew = w2 at HB2 ⊢
  clear w1
  have HO3 := Lib.hid (OwnB.empty w2)
  have HB3 := Lib.hid (Below.two HB2.out (below_alloc w2 #[] 5))
  have hw2 := HB2.out.size
  go_wp2_with (at_builtin; refine wpList_plain rfl fun _ hK => wp_append_BV _ _ rfl w2.heap.size (.slice (some ⟨w2.heap.size, 0, none⟩) 0 0) (.slice (some ⟨b, off, none⟩) l.length ca) [] l rfl rfl HO3.out ?q1 SA.out ?q2 ?q3 ?_)
  case q1 => exact HA.out.below HB3.out
  case q2 => simp only [List.length_nil]; omega
  case q3 => simp
  intro v4 w4 o4 b4
  refine hK _ _ ?_
  clear hK
  have o4 : OwnB w4 w2.heap.size v4 l := o4
  have HB4 := Lib.hid (HB3.out.trans (b4.mono hw2))
  obtain ⟨g, cap, rfl, hg, hg4⟩ := o4.form (by omega)
  obtain ⟨-, -, -, sg, fz⟩ := o4.at
  have c0 := sg i (by omega)
  have f0 := fz i
  have c1 : (w4.setCell ⟨g, i, none⟩ (.int .u8 ((n : Int) / 256))).cell? ⟨g, i + 1, none⟩ = some (.int .u8 ((l[i + 1]! : Nat) : Int)) := by
    have e : (⟨g, i, none⟩ : Addr) ≠ ⟨g, i + 1, none⟩ := by simp
    have h1 := sg (i + 1) (by omega)
    rw [Nat.zero_add] at h1
    exact (World.cell?_setCell_other _ _ _ _ e).trans h1
  have f1 : (w4.setCell ⟨g, i, none⟩ (.int .u8 ((n : Int) / 256))).frozen? ⟨g, i + 1, none⟩ = false := by rw [World.frozen?_setCell]; exact fz _
  rw [Nat.zero_add] at c0
  have HO4 := Lib.hid o4
  clear b4 o4 HO3 sg fz
  generalize l[i]! = x' at c0
  generalize l[i + 1]! = y' at c1
  go_wp2_with fail
  have d1 : ((n : Int) / 256) = ((n / 256 : Nat) : Int) := by omega
  have d2 : ((n : Int) % 256) = ((n % 256 : Nat) : Int) := by omega
  have o6 : OwnB ((w4.setCell ⟨g, i, none⟩ (.int .u8 ((n : Int) / 256))).setCell ⟨g, i + 1, none⟩ (.int .u8 ((n : Int) % 256))) w2.heap.size (.slice (some ⟨g, 0, none⟩) l.length cap) ((l.set i (n / 256)).set (i + 1) (n % 256)) := by
    rw [d1, d2]
    exact (HO4.out.set i (n / 256)).set (i + 1) (n % 256)
  have HB6 := Lib.hid ((HB4.out.setCell (p := ⟨g, i, none⟩) (show w.heap.size ≤ g by omega) (.int .u8 ((n : Int) / 256))).setCell (p := ⟨g, i + 1, none⟩) (show w.heap.size ≤ g by omega) (.int .u8 ((n : Int) % 256)))
  have HY6 : Hid (Byt ((l.set i (n / 256)).set (i + 1) (n % 256))) := Lib.hid fun z hz => by
    rcases List.mem_or_eq_of_mem_set hz with hz | hz
    · rcases List.mem_or_eq_of_mem_set hz with hz | hz
      · exact HY.out z hz
      · omega
    · omega
  have hl6 : ((l.set i (n / 256)).set (i + 1) (n % 256)).length = l.length := by simp
  have g6 : g < ((w4.setCell ⟨g, i, none⟩ (.int .u8 ((n : Int) / 256))).setCell ⟨g, i + 1, none⟩ (.int .u8 ((n : Int) % 256))).heap.size := by simpa [World.setCell] using hg4
  have HX := Lib.hid o6.arg
  have HS6 := Lib.hid o6.at.2.2.2.1
  clear o6 d1 d2 HO4 c0 c1 f0 f1
  have HQ := fun h => Lib.hid (sm_put (sm l) o n (tot true l) (tot true ((l.set i (n / 256)).set (i + 1) (n % 256))) rfl hn (by omega) HP.out h)
  clear HP
  have HQ2 : Hid (65535 - fd (tot true ((l.set i (n / 256)).set (i + 1) (n % 256))) = sm ((l.set i (n / 256)).set (i + 1) (n % 256))) := Lib.hid rfl
  generalize (l.set i (n / 256)).set (i + 1) (n % 256) = m at hl6 HX HS6 HQ HQ2 HY6
  generalize (w4.setCell ⟨g, i, none⟩ (.int .u8 ((n : Int) / 256))).setCell ⟨g, i + 1, none⟩ (.int .u8 ((n : Int) % 256)) = w6 at HB6 HX HS6 g6 ⊢
  go_loopw [11, 10] (fun v s wr => ∃ (k : Nat) (q : Bool), v = .int .i64 k ∧ k ≤ l.length ∧ s = .bool q ∧ Hid (q = true → 0 < tot true m) ∧ Hid (Below w6.heap.size w6 wr)) (fun v _ _ => l.length - (RowKit.intOf v).toNat)
  case atStart => exact ⟨0, false, rfl, Nat.zero_le _, rfl, Lib.hid (by simp), Lib.hid (Below.refl _ _)⟩
  case round =>
    obtain ⟨k, q, rfl, hk, rfl, HE, hB⟩ := hrel
    by_cases hkn : k < l.length
    · have S := HS6.out.below hB.out g6
      have a0 := S k (by omega)
      rw [Nat.zero_add] at a0
      have HT : Hid (m[k]! ≠ 0 → 0 < tot true m) := Lib.hid (tot_pos m true k (by omega))
      clear S
      generalize m[k]! = z at a0 HT
      cases q
      · by_cases hz0 : z = 0
        · subst hz0
          go_wp2_with fail
          go_roundw
          case rel => exact ⟨k + 1, false, by go_num, by omega, rfl, Lib.hid (by simp), hB⟩
          case measure => simp [RowKit.intOf]; omega
        · have t1 : ((z : Int) != 0) = true := by
            have : ¬ (z : Int) = 0 := by omega
            simpa using this
          go_wp2_with fail
          go_roundw
          case rel => exact ⟨k + 1, true, by go_num, by omega, by simp, Lib.hid fun _ => HT.out hz0, hB⟩
          case measure => simp [RowKit.intOf]; omega
      · go_wp2_with fail
        go_roundw
        case rel => exact ⟨k + 1, true, by go_num, by omega, rfl, HE, hB⟩
        case measure => simp [RowKit.intOf]; omega
    · clear HS6
      have HB7 := Lib.hid (Below.two HB6.out hB.out)
      cases q
      · go_wp2_with fail
        go_ret
        exact ⟨rfl, HB7.out⟩
      · have HQ3 := HQ (HE.out rfl)
        have hm := sm_le l
        have HC := Lib.hid (sum_any wr (.slice (some ⟨b, off, none⟩) l.length ca) l hlen HY.out (HA.out.below HB7.out))
        have HW := fun w' => Lib.hid (swap_any w' (sm l) o n (by omega) ho hn)
        rw [HQ3.out, HQ2.out] at HW
        generalize sm l = r at hm HC HW
        clear HQ HQ3 HQ2
        go_wp2_with fail
        refine HC.out.mono ?_
        rintro x w8 ⟨rfl, b8⟩
        have HB8 := Lib.hid (Below.two HB7.out b8)
        have HC8 := Lib.hid (Below.two hB.out b8)
        clear b8 HC
        go_wp2_with fail
        refine (HW _).out.mono ?_
        rintro x w9 ⟨rfl, b9⟩
        have HB9 := Lib.hid (Below.two HB8.out b9)
        have HC9 := Lib.hid (Below.two HC8.out b9)
        clear b9 HW HB8 HC8
        have HC := Lib.hid (sum_any w9 (.slice (some ⟨g, 0, none⟩) l.length cap) m (by omega) HY6.out (HX.out.below HC9.out))
        generalize sm m = y at HC ⊢
        go_wp2_with fail
        refine HC.out.mono ?_
        rintro x w10 ⟨rfl, b10⟩
        have HB10 := Lib.hid (Below.two HB9.out b10)
        clear b10 HC
        go_wp2_with fail
        go_ret
        exact ⟨rfl, HB10.out⟩

set_option maxHeartbeats 400000 in
set_option maxRecDepth 100000 in
/-- A place that is none: only the example is asked. -/
theorem sumSwaps_none (w : World) (p : Option Addr) (len ca : Nat) (i : Int) (n : Nat) (hlen : len ≤ 140737488355328) (hi1 : i ≤ 9223372036854775807) (hi : i < 0 ∨ (len : Int) - 2 < i ∨ Int.tmod i 2 ≠ 0) :
    Calls Try.prog 6 #[.slice p len ca, .int .i64 i, .int .u16 (n : Int)] w fun x w' => x = .returned (.bool true) ∧ Below w.heap.size w w' := by
  have H0 := Lib.hid (summed_any w)
  go_enter Try.func6, Try.ntmps6
  go_wp2_with fail
  refine H0.out.mono ?_
  rintro x w1 ⟨rfl, b1⟩
  have HB1 := Lib.hid b1
  clear b1 H0
  by_cases h1 : i < 0
  · clear hi
    go_wp2_with fail
    go_ret
    exact ⟨rfl, HB1.out⟩
  · by_cases h2 : (len : Int) - 2 < i
    · clear hi
      go_wp2_with fail
      go_ret
      exact ⟨rfl, HB1.out⟩
    · have h3 : Int.tmod i 2 = 1 := by
        have : Int.tmod i 2 ≠ 0 := by omega
        rw [Int.tmod_eq_emod_of_nonneg (by omega)] at this ⊢
        omega
      clear hi
      go_wp2_with fail
      go_ret
      exact ⟨rfl, HB1.out⟩

theorem sumSwaps_walk (w : World) (v : Value) (l : List Nat) (i : Int) (n : Nat) (hn : n < 65536) (hlen : l.length ≤ 140737488355328) (hi1 : i ≤ 9223372036854775807) (hA : ArgB w v l) (sa : Sl v) (hy : Byt l) :
    Calls Try.prog 6 #[v, .int .i64 i, .int .u16 (n : Int)] w fun x w' => x = .returned (.bool true) ∧ Below w.heap.size w w' := by
  by_cases h : i < 0 ∨ (l.length : Int) - 2 < i ∨ Int.tmod i 2 ≠ 0
  · obtain ⟨p, c, rfl, _, _⟩ := hA
    exact sumSwaps_none w p l.length c i n hlen hi1 h
  · have h0 : 0 ≤ i := by omega
    obtain ⟨k, rfl⟩ := Int.eq_ofNat_of_zero_le h0
    have h2 : Int.tmod (k : Int) 2 = 0 := by
      have : ¬ Int.tmod (k : Int) 2 ≠ 0 := fun e => h (Or.inr (Or.inr e))
      omega
    rw [Int.tmod_eq_emod_of_nonneg (by omega)] at h2
    exact sumSwaps_main w v l k n hn hlen (by omega) (by omega) hA sa hy
end Go.Proofs.Yteeilmigedhjmaa
