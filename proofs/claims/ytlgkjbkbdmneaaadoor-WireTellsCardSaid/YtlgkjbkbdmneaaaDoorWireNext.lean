/-
  wire.next where bytes end within their head or an entry, and wire.complete; what lay in memory stays.
-/
import Derived.Test.YtlgkjbkbdmneaaaDoorByteClone
import Derived.Test.YtlgkjbkbdmneaaaDoorWireRead
import Derived.LoopN
namespace Go.Proofs.YtlgkjbkbdmneaaaDoor
open Go.RowKit Go.Lib

theorem rem20 (n : Nat) (h : 4 ≤ n) : ((n : Int) - 4).tmod 20 = (((n - 4) % 20 : Nat) : Int) := by
  rw [show (n : Int) - 4 = ((n - 4 : Nat) : Int) by omega]
  rfl
set_option maxHeartbeats 1000000 in
set_option maxRecDepth 100000 in
theorem next_head (w : World) (p : Option Addr) (n c : Nat) (h : n < 4) :
    Calls Tryd.prog 37 #[.slice p n c] w fun x w' => x = .returned (.int .u8 (([2, 2, 0, 0][n]! : Nat) : Int)) ∧ Below w.heap.size w w' := by
  have hi : (n : Int) < 4 := by omega
  have c00 : ∀ (w1 : World) (g off : Nat), SeenB w1 g off (hd false) → w1.cell? ⟨g, off + n, none⟩ = some (.int .u8 (([2, 2, 0, 0][n]! : Nat) : Int)) := fun w1 g off hs => hs n (by rw [hd_len]; omega)
  generalize ([2, 2, 0, 0] : List Nat)[n]! = y at c00 ⊢
  have HC := Lib.hid c00; clear c00
  go_enter Tryd.func37, Tryd.ntmps37
  go_wp2_with fail
  refine (head_any w false).mono ?_
  rintro x w1 ⟨v1, rfl, o1, b1⟩
  obtain ⟨p1, c1, rfl, hc1, h1⟩ := o1.arg
  obtain ⟨g, off, rfl, hg, hs⟩ : ∃ b off, p1 = some ⟨b, off, none⟩ ∧ b < w1.heap.size ∧ SeenB w1 b off (hd false) := by
    rcases h1 with h1 | h1
    · cases h1
    · exact h1
  have c0 := HC.out _ _ _ hs
  rw [show (hd false).length = 4 from rfl]
  clear hs h1
  go_wp2_with fail
  go_ret
  exact ⟨rfl, b1⟩

set_option maxHeartbeats 4000000 in
set_option maxRecDepth 100000 in
theorem next_plain (w : World) (p : Option Addr) (n c j x : Nat) (h4 : 4 ≤ n) (hn : n ≤ 504) (hj : (n - 4) % 20 = j) (h : j = 1 ∨ j = 2 ∨ j = 3 ∨ j = 4 ∨ j = 5 ∨ j = 6 ∨ j = 7 ∨ j = 8 ∨ j = 12 ∨ j = 13 ∨ j = 14 ∨ j = 15 ∨ j = 16 ∨ j = 17 ∨ j = 18 ∨ j = 19) :
    Calls Tryd.prog 37 #[.slice p n c] w fun y w' => y = .returned (.int .u8 (nxtE j x : Int)) ∧ w' = w := by
  have hi : ¬ (n : Int) < 4 := by omega
  have e := rem20 n h4
  rw [hj] at e
  clear hj
  rcases h with rfl | rfl | rfl | rfl | rfl | rfl | rfl | rfl | rfl | rfl | rfl | rfl | rfl | rfl | rfl | rfl
  all_goals
    go_enter Tryd.func37, Tryd.ntmps37
    go_wp2_with fail
    go_ret
    exact ⟨rfl, rfl⟩

set_option maxHeartbeats 4000000 in
set_option maxRecDepth 100000 in
theorem next_mask (w : World) (b off n c j x : Nat) (h4 : 4 ≤ n) (hn : n ≤ 504) (hj : (n - 4) % 20 = j) (h : j = 9 ∨ j = 10 ∨ j = 11) (hc : w.cell? ⟨b, off + (n - 1), none⟩ = some (.int .u8 (x : Int))) :
    Calls Tryd.prog 37 #[.slice (some ⟨b, off, none⟩) n c] w fun y w' => y = .returned (.int .u8 (nxtE j x : Int)) ∧ w' = w := by
  have hi : ¬ (n : Int) < 4 := by omega
  have e := rem20 n h4
  rw [hj] at e
  clear hj
  by_cases hx : x = 255
  · subst hx
    rcases h with rfl | rfl | rfl
    all_goals
      go_enter Tryd.func37, Tryd.ntmps37
      go_wp2_with fail
      go_ret
      exact ⟨rfl, rfl⟩
  · have hx2 : ((x : Int) == 255) = false := by
      have : ¬ (x : Int) = 255 := by omega
      simpa using this
    rcases h with rfl | rfl | rfl
    all_goals
      go_enter Tryd.func37, Tryd.ntmps37
      go_wp2_with fail
      go_ret
      exact ⟨by simp [nxtE, hx], rfl⟩

/-- wire.next where bytes end within their head or an entry. -/
theorem next_any (w : World) (v : Value) (l : List Nat) (h : ArgB w v l) (hl : l.length ≤ 504) (hd0 : ¬ Done l) :
    Calls Tryd.prog 37 #[v] w fun y w' => y = .returned (.int .u8 (nxt l : Int)) ∧ Below w.heap.size w w' := by
  obtain ⟨p, c, rfl, hc, h⟩ := h
  by_cases h4 : l.length < 4
  · rw [show nxt l = [2, 2, 0, 0][l.length]! from if_pos h4]
    exact next_head w p l.length c h4
  · rw [show nxt l = nxtE ((l.length - 4) % 20) l[l.length - 1]! from if_neg h4]
    have hj0 : (l.length - 4) % 20 ≠ 0 := fun e => hd0 ⟨by omega, e⟩
    have hj2 : (l.length - 4) % 20 < 20 := Nat.mod_lt _ (by omega)
    by_cases hm : (l.length - 4) % 20 = 9 ∨ (l.length - 4) % 20 = 10 ∨ (l.length - 4) % 20 = 11
    · rcases h with rfl | ⟨b, off, rfl, hb, hs⟩
      · simp at h4
      · refine (next_mask w b off l.length c _ l[l.length - 1]! (by omega) hl rfl hm (hs _ (by omega))).mono ?_
        rintro y w1 ⟨rfl, rfl⟩
        exact ⟨rfl, Below.refl _ _⟩
    · refine (next_plain w p l.length c _ l[l.length - 1]! (by omega) hl rfl (by omega)).mono ?_
      rintro y w1 ⟨rfl, rfl⟩
      exact ⟨rfl, Below.refl _ _⟩

def slen : Value → Nat | .slice _ n _ => n | _ => 0
set_option maxHeartbeats 1000000 in
set_option maxRecDepth 100000 in
theorem complete_any (w : World) (v : Value) (l : List Nat) (h : ArgB w v l) (hl : l.length ≤ 504) :
    Calls Tryd.prog 30 #[v] w fun y w' => ∃ v', y = .returned v' ∧ ∃ f, OwnB w' w.heap.size v' f ∧ Fill l f ∧ Done f ∧ Below w.heap.size w w' := by
  have HC := Lib.hid (cloneB_any w v l (by omega) h)
  obtain ⟨p, c, rfl, hc, h⟩ := h
  clear h
  go_enter Tryd.func30, Tryd.ntmps30
  go_wp2_with fail
  refine HC.out.mono ?_
  rintro x w1 ⟨v1, rfl, o1, b1⟩
  have HO := Lib.hid o1; have HB := Lib.hid b1
  clear o1 b1 HC
  go_wp2_with fail
  go_loopw [3] (fun vf wr => ∃ (f : List Nat), Hid (OwnB wr w.heap.size vf f) ∧ Hid (Fill l f) ∧ Hid (Below w.heap.size w wr)) (fun vf _ => 504 - slen vf)
  case atStart => exact ⟨l, HO, Lib.hid (Fill.refl l hl), HB⟩
  case round =>
    clear HO HB
    obtain ⟨f, HO, HF, HB⟩ := hrel
    obtain ⟨p2, c2, rfl, hc2, _⟩ := HO.out.arg
    have hf := HF.out.few
    by_cases hd : Done f
    · have hi : ¬ (f.length : Int) < 4 := by have := hd.1; omega
      have e := rem20 f.length hd.1
      rw [hd.2] at e
      go_wp2_with fail
      go_ret
      exact ⟨_, rfl, f, HO.out, HF.out, hd, HB.out⟩
    · have HN := Lib.hid (next_any wr _ f HO.out.arg hf hd)
      have HF' := Lib.hid (HF.out.step hd)
      have hx := nxt_lt f
      generalize nxt f = x at *
      have hf3 : f.length + 1 ≤ 504 := by have := HF'.out.few; rw [List.length_append, List.length_singleton] at this; exact this
      by_cases h4 : f.length < 4
      · have hi : (f.length : Int) < 4 := by omega
        go_wp2_with fail
        refine HN.out.mono ?_
        rintro y w2 ⟨rfl, b2⟩
        have HB2 := Lib.hid b2
        clear b2
        go_wp2_with (at_builtin; refine wpList_plain rfl fun _ hK => wp_append_B _ _ rfl w.heap.size (.slice p2 f.length c2) f [x] ⟨w2.heap.size, 0, none⟩ 1 1 rfl rfl ?q1 rfl (by omega) ?q2 (by simp; omega) ?q3 ?_)
        case q1 => exact HO.out.keep (Below.two HB2.out ((Below.refl _ _).alloc (Nat.le_refl _) _))
        case q2 => exact madeB w2 [x] _ _ rfl
        case q3 => exact Nat.le_trans HB.out.size (Nat.le_trans HB2.out.size (by simp))
        intro v' w' ho ha
        refine hK _ _ ?_
        clear hK
        go_wp2_with fail
        go_roundw
        case rel => exact ⟨f ++ [x], Lib.hid ho, HF', Lib.hid (HB.out.trans ((Below.two HB2.out ((Below.refl _ _).alloc (Nat.le_refl _) _)).mono HB.out.size |>.trans (ha.below (fun j hj => (HO.out.lt j hj).1) (Nat.le_trans HB.out.size (Nat.le_trans HB2.out.size (by simp))))))⟩
        case measure =>
          obtain ⟨p3, c3, rfl, _⟩ := ho.arg
          simp only [slen, List.length_append, List.length_singleton]
          omega
      · have hi : ¬ (f.length : Int) < 4 := by omega
        have e := rem20 f.length (by omega)
        have hne : ((((f.length - 4) % 20 : Nat) : Int) == 0) = false := by
          have : ¬ (((f.length - 4) % 20 : Nat) : Int) = 0 := fun h => hd ⟨by omega, by omega⟩
          simpa using this
        generalize (f.length - 4) % 20 = j at e hne
        go_wp2_with fail
        refine HN.out.mono ?_
        rintro y w2 ⟨rfl, b2⟩
        have HB2 := Lib.hid b2
        clear b2
        go_wp2_with (at_builtin; refine wpList_plain rfl fun _ hK => wp_append_B _ _ rfl w.heap.size (.slice p2 f.length c2) f [x] ⟨w2.heap.size, 0, none⟩ 1 1 rfl rfl ?r1 rfl (by omega) ?r2 (by simp; omega) ?r3 ?_)
        case r1 => exact HO.out.keep (Below.two HB2.out ((Below.refl _ _).alloc (Nat.le_refl _) _))
        case r2 => exact madeB w2 [x] _ _ rfl
        case r3 => exact Nat.le_trans HB.out.size (Nat.le_trans HB2.out.size (by simp))
        intro v' w' ho ha
        refine hK _ _ ?_
        clear hK
        go_wp2_with fail
        go_roundw
        case rel => exact ⟨f ++ [x], Lib.hid ho, HF', Lib.hid (HB.out.trans ((Below.two HB2.out ((Below.refl _ _).alloc (Nat.le_refl _) _)).mono HB.out.size |>.trans (ha.below (fun j hj => (HO.out.lt j hj).1) (Nat.le_trans HB.out.size (Nat.le_trans HB2.out.size (by simp))))))⟩
        case measure =>
          obtain ⟨p3, c3, rfl, _⟩ := ho.arg
          simp only [slen, List.length_append, List.length_singleton]
          omega
end Go.Proofs.YtlgkjbkbdmneaaaDoor
