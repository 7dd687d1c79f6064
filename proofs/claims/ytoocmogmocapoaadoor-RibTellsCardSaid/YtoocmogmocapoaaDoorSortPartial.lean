/-
  sort.partialInsertionSort_func over a row, whatever the comparison lays.
-/
import Derived.Test.YtoocmogmocapoaaDoorSortScan
import Derived.Deep.CutBlock
namespace Go.Proofs.YtoocmogmocapoaaDoor
open Go.RowKit
variable {E : Type} [Inhabited E]

section
variable (lt : E → E → Bool) (d : Array E)
theorem scanS_on (b i : Nat) (h : i < b) (hp : lt d[i]! d[i - 1]! = false) : Go.Sort.scanSorted lt d b i = Go.Sort.scanSorted lt d b (i + 1) := by
  rw [Go.Sort.scanSorted, if_pos (by rw [decide_eq_true h, hp]; rfl)]
theorem scanS_out (b i : Nat) (h : ¬ i < b ∨ lt d[i]! d[i - 1]! = true) : Go.Sort.scanSorted lt d b i = i := by
  rw [Go.Sort.scanSorted, if_neg]
  rcases h with h | h
  · rw [decide_eq_false h]; exact Bool.noConfusion
  · rw [h, Bool.not_true, Bool.and_false]; exact Bool.noConfusion
theorem scanS_in (b : Nat) : ∀ (n i : Nat), b - i ≤ n → i ≤ b → i ≤ Go.Sort.scanSorted lt d b i ∧ Go.Sort.scanSorted lt d b i ≤ b
  | 0, i, hn, hi => by rw [scanS_out lt d b i (Or.inl (by omega))]; omega
  | n + 1, i, hn, hi => by
    by_cases h : i < b ∧ lt d[i]! d[i - 1]! = false
    · rw [scanS_on lt d b i h.1 h.2]
      have := scanS_in b n (i + 1) (by omega) (by omega)
      omega
    · rw [scanS_out lt d b i (by
        by_cases h1 : i < b
        · exact Or.inr (by simpa using fun h2 => h ⟨h1, h2⟩)
        · exact Or.inl h1)]
      omega
theorem shD_on (k : Nat) (h : 1 ≤ k) (hp : lt d[k]! d[k - 1]! = true) : Go.Sort.shiftDown lt k d = Go.Sort.shiftDown lt (k - 1) (Go.Sort.swp d k (k - 1)) := by
  obtain ⟨j, rfl⟩ : ∃ j, k = j + 1 := ⟨k - 1, by omega⟩
  have hp' : lt d[j + 1]! d[j]! = true := hp
  rw [Go.Sort.shiftDown, hp']; rfl
theorem shD_out (k : Nat) (h : k = 0 ∨ lt d[k]! d[k - 1]! = false) : Go.Sort.shiftDown lt k d = d := by
  cases k with
  | zero => rfl
  | succ j =>
    have hp' : lt d[j + 1]! d[j]! = false := by
      rcases h with h | h
      · omega
      · exact h
    rw [Go.Sort.shiftDown, hp']; rfl
theorem shU_on (b k : Nat) (h : k < b) (hp : lt d[k]! d[k - 1]! = true) : Go.Sort.shiftUp lt b k d = Go.Sort.shiftUp lt b (k + 1) (Go.Sort.swp d k (k - 1)) := by
  rw [Go.Sort.shiftUp, if_pos h, hp]; rfl
theorem shU_out (b k : Nat) (h : ¬ k < b ∨ lt d[k]! d[k - 1]! = false) : Go.Sort.shiftUp lt b k d = d := by
  rw [Go.Sort.shiftUp]
  by_cases h1 : k < b
  · rw [if_pos h1]
    rcases h with h | h
    · exact absurd h1 h
    · rw [h]; rfl
  · rw [if_neg h1]
end

set_option maxHeartbeats 2000000 in
set_option maxRecDepth 100000 in
theorem partial_any [Elt E] {g sf : Nat} {lb sb : Array Value} {blk size : Nat} {w0 : World} (S : Srt E g sf lb sb blk size w0) (W : World) (d : Array E) (a b : Nat) (hk : Keeps w0 blk W) (hr : Row W blk d) (hd : d.size = size) (hab : a < b) (hb : b ≤ size) :
    Calls Tryd.prog 63 #[.agg #[.func (.func g) #[] lb, .func (.func sf) #[] sb], .int .i64 a, .int .i64 b] W fun e w' => e = .returned (.bool (Go.Sort.partialInsertionSort Elt.lt d a b).2) ∧ Keeps W blk w' ∧ Row w' blk (Go.Sort.partialInsertionSort Elt.lt d a b).1 := by
  have eg := S.enter
  have few := S.few
  have O := Lib.hid (On.start S hk hr hd 91)
  have HS := Lib.hid S
  clear S hk hr
  generalize hR : Go.Sort.partialInsertionSort Elt.lt d a b = R
  have HR := Lib.hid hR; clear hR
  go_enter Tryd.func63, Tryd.ntmps63
  go_wp2_with fail
  go_loopw [7, 8] (fun vi vs wr => ∃ (i st : Nat) (dk : Array E), vi = .int .i64 i ∧ vs = .int .i64 st ∧ a < i ∧ i ≤ b ∧ st ≤ 5 ∧ Hid (On g sf lb sb blk size w0 W dk wr) ∧ Hid (Go.Sort.partialIns Elt.lt a b (5 - st) i dk = R)) (fun _ vs _ => 5 - (intOf vs).toNat)
  case atStart => exact ⟨a + 1, 0, d, by go_num, rfl, by omega, by omega, by omega, O, HR⟩
  case round =>
    clear O
    obtain ⟨i, st, dk, rfl, rfl, hai, hib, hst, O, HO⟩ := hrel
    by_cases h5 : st < 5
    · have HQ := Lib.hid (Go.Sort.partialIns_succ (lt := Elt.lt) a b (5 - (st + 1)) i dk)
      rw [show 5 - (st + 1) + 1 = 5 - st by omega] at HQ
      have t0 : (st : Int) < 5 := by omega
      go_upto_block 2 with fail
      go_cut [7] from 13 to 90 (fun sx wc => sx = .int .i64 (Go.Sort.scanSorted Elt.lt dk b i : Nat) ∧ Hid (On g sf lb sb blk size w0 W dk wc))
      case first =>
        go_wp2_with fail
        (try rw [decide_eq_true t0])
        go_loopw [7] (fun vi wr => ∃ (k : Nat), vi = .int .i64 k ∧ i ≤ k ∧ k ≤ b ∧ Hid (On g sf lb sb blk size w0 W dk wr) ∧ Hid (Go.Sort.scanSorted Elt.lt dk b k = Go.Sort.scanSorted Elt.lt dk b i)) (fun vi _ => b - (intOf vi).toNat)
        case atStart => exact ⟨i, rfl, Nat.le_refl _, hib, O, Lib.hid rfl⟩
        case round =>
          clear O
          obtain ⟨k, rfl, hik, hkb, O, HI⟩ := hrel
          have c0 := O.out.c0
          by_cases hkb' : k < b
          · cases hv : Elt.lt dk[k]! dk[k - 1]! with
            | false =>
              go_wp2_with fail
              refine (O.out.cmp HS.out k (k - 1) false hv rfl (by omega) (by omega) (by omega)).mono ?_
              rintro e w2 ⟨rfl, O2⟩
              go_wp2_with fail
              go_roundw
              case rel => exact ⟨k + 1, by go_num, by omega, by omega, Lib.hid O2, Lib.hid (by rw [← HI.out, scanS_on Elt.lt dk b k hkb' hv])⟩
              case measure => simp [intOf]; omega
            | true =>
              go_wp2_with fail
              refine (O.out.cmp HS.out k (k - 1) true hv rfl (by omega) (by omega) (by omega)).mono ?_
              rintro e w2 ⟨rfl, O2⟩
              go_wp2_with fail
              go_meet
              case rel => exact ⟨by rw [← HI.out, scanS_out Elt.lt dk b k (Or.inr hv)], Lib.hid O2⟩
          · go_wp2_with fail
            go_meet
            case rel => exact ⟨by rw [← HI.out, scanS_out Elt.lt dk b k (Or.inl hkb')], O⟩
      case rest =>
        clear O
        obtain ⟨rfl, O⟩ := hcut
        obtain ⟨u1, u2⟩ := scanS_in Elt.lt dk b _ i (Nat.le_refl _) hib
        generalize Go.Sort.scanSorted Elt.lt dk b i = i2 at u1 u2 HQ ⊢
        by_cases hb2 : i2 = b
        · have t2 : ((i2 : Int) == (b : Int)) = true := by rw [hb2]; exact beq_self_eq_true _
          go_wp2_with fail
          have e : R = (dk, true) := by rw [← HO.out, HQ.out, if_pos hb2]
          subst e
          go_ret
          exact ⟨rfl, O.out.own, O.out.row⟩
        · have t2 : ((i2 : Int) == (b : Int)) = false := by
            have : ¬ (i2 : Int) = b := by omega
            simpa using this
          by_cases h50 : b - a < 50
          · have t5 : (b : Int) - a < 50 := by omega
            go_wp2_with fail
            have e : R = (dk, false) := by rw [← HO.out, HQ.out, if_neg hb2, if_pos h50]
            subst e
            go_ret
            exact ⟨rfl, O.out.own, O.out.row⟩
          · have t5 : ¬ (b : Int) - a < 50 := by omega
            have c1 := O.out.c1
            go_wp2_with fail
            obtain ⟨w3, hs, O3⟩ := O.out.exch HS.out (i2 : Int) ((i2 : Int) - 1) i2 (i2 - 1) rfl (by omega) (by omega) (by omega)
            rw [hs, Oper.upon_value]
            clear c1 hs O
            have O := Lib.hid O3; clear O3
            have HE : Hid (Go.Sort.partialIns Elt.lt a b (5 - (st + 1)) i2 (Go.Sort.fixUp Elt.lt b i2 (Go.Sort.fixDown Elt.lt a i2 (Go.Sort.swp dk i2 (i2 - 1)))) = R) := Lib.hid (by rw [← HO.out, HQ.out, if_neg hb2, if_neg h50])
            generalize Go.Sort.swp dk i2 (i2 - 1) = d1 at O HE ⊢
            go_upto_if 47 with fail
            go_cut [9] from 13 to 90 (fun _ wc => Hid (On g sf lb sb blk size w0 W (Go.Sort.fixDown Elt.lt a i2 d1) wc))
            case first =>
              by_cases h2 : i2 - a ≥ 2
              · have t3 : 2 ≤ (i2 : Int) - a := by omega
                go_wp2_with fail
                (try rw [decide_eq_true t0])
                (try rw [decide_eq_true t3])
                go_loopw [9] (fun vj wr => ∃ (k : Nat) (dj : Array E), vj = .int .i64 k ∧ k ≤ i2 - 1 ∧ Hid (On g sf lb sb blk size w0 W dj wr) ∧ Hid (Go.Sort.shiftDown Elt.lt k dj = Go.Sort.shiftDown Elt.lt (i2 - 1) d1)) (fun vj _ => (intOf vj).toNat)
                case atStart => exact ⟨i2 - 1, d1, by congr 1; omega, Nat.le_refl _, O, Lib.hid rfl⟩
                case round =>
                  clear O
                  obtain ⟨k, dj, rfl, hk1, O, HI⟩ := hrel
                  have fx : Hid (Go.Sort.fixDown Elt.lt a i2 d1 = Go.Sort.shiftDown Elt.lt k dj) := Lib.hid (by unfold Go.Sort.fixDown; rw [if_pos h2, HI.out])
                  have c0 := O.out.c0
                  by_cases hk0 : 1 ≤ k
                  · cases hv : Elt.lt dj[k]! dj[k - 1]! with
                    | true =>
                      go_wp2_with fail
                      refine (O.out.cmp HS.out k (k - 1) true hv rfl (by omega) (by omega) (by omega)).mono ?_
                      rintro e w2 ⟨rfl, O2⟩
                      have c1 := O2.c1
                      go_wp2_with fail
                      obtain ⟨w4, hs, O4⟩ := O2.exch HS.out (k : Int) ((k : Int) - 1) k (k - 1) rfl (by omega) (by omega) (by omega)
                      rw [hs, Oper.upon_value]
                      clear c1 hs
                      go_wp2_with fail
                      go_roundw
                      case rel => exact ⟨k - 1, Go.Sort.swp dj k (k - 1), by congr 1; omega, by omega, Lib.hid O4, Lib.hid (by rw [← HI.out, shD_on Elt.lt dj k hk0 hv])⟩
                      case measure => simp [intOf]; omega
                    | false =>
                      go_wp2_with fail
                      refine (O.out.cmp HS.out k (k - 1) false hv rfl (by omega) (by omega) (by omega)).mono ?_
                      rintro e w2 ⟨rfl, O2⟩
                      go_wp2_with fail
                      go_meet
                      case rel => exact Lib.hid (by rw [fx.out, shD_out Elt.lt dj k (Or.inr hv)]; exact O2)
                  · go_wp2_with fail
                    go_meet
                    case rel => exact Lib.hid (by rw [fx.out, shD_out Elt.lt dj k (Or.inl (by omega))]; exact O.out)
              · have t3 : ¬ 2 ≤ (i2 : Int) - a := by omega
                go_wp2_with fail
                go_meet
                case rel => exact Lib.hid (by unfold Go.Sort.fixDown; rw [if_neg h2]; exact O.out)
            case rest =>
              clear O
              have O : Hid (On g sf lb sb blk size w0 W (Go.Sort.fixDown Elt.lt a i2 d1) wc) := hcut
              clear hcut
              generalize Go.Sort.fixDown Elt.lt a i2 d1 = d2 at O HE ⊢
              by_cases h2 : b - i2 ≥ 2
              · have t3 : 2 ≤ (b : Int) - i2 := by omega
                go_wp2_with fail
                (try rw [decide_eq_true t0])
                (try rw [decide_eq_true t3])
                go_loopw [10] (fun vj wr => ∃ (k : Nat) (dj : Array E), vj = .int .i64 k ∧ i2 + 1 ≤ k ∧ k ≤ b ∧ Hid (On g sf lb sb blk size w0 W dj wr) ∧ Hid (Go.Sort.shiftUp Elt.lt b k dj = Go.Sort.shiftUp Elt.lt b (i2 + 1) d2)) (fun vj _ => b - (intOf vj).toNat)
                case atStart => exact ⟨i2 + 1, d2, by go_num, Nat.le_refl _, by omega, O, Lib.hid rfl⟩
                case round =>
                  clear O
                  obtain ⟨k, dj, rfl, hk1, hk2, O, HI⟩ := hrel
                  have fx : Hid (Go.Sort.fixUp Elt.lt b i2 d2 = Go.Sort.shiftUp Elt.lt b k dj) := Lib.hid (by unfold Go.Sort.fixUp; rw [if_pos h2, HI.out])
                  have c0 := O.out.c0
                  by_cases hk0 : k < b
                  · cases hv : Elt.lt dj[k]! dj[k - 1]! with
                    | true =>
                      go_wp2_with fail
                      refine (O.out.cmp HS.out k (k - 1) true hv rfl (by omega) (by omega) (by omega)).mono ?_
                      rintro e w2 ⟨rfl, O2⟩
                      have c1 := O2.c1
                      go_wp2_with fail
                      obtain ⟨w4, hs, O4⟩ := O2.exch HS.out (k : Int) ((k : Int) - 1) k (k - 1) rfl (by omega) (by omega) (by omega)
                      rw [hs, Oper.upon_value]
                      clear c1 hs
                      go_wp2_with fail
                      go_roundw
                      case rel =>
                        first
                          | exact ⟨k + 1, Go.Sort.swp dj k (k - 1), by go_num, by omega, by omega, Lib.hid O4, Lib.hid (by rw [← HI.out, shU_on Elt.lt dj b k hk0 hv])⟩
                          | ((repeat apply Exists.intro)
                             exact ⟨⟨k + 1, Go.Sort.swp dj k (k - 1), by go_num, by omega, by omega, Lib.hid O4, Lib.hid (by rw [← HI.out, shU_on Elt.lt dj b k hk0 hv])⟩, rfl⟩)
                      case measure => simp [intOf]; omega
                    | false =>
                      go_wp2_with fail
                      refine (O.out.cmp HS.out k (k - 1) false hv rfl (by omega) (by omega) (by omega)).mono ?_
                      rintro e w2 ⟨rfl, O2⟩
                      go_wp2_with fail
                      go_roundw
                      case rel => exact ⟨i2, st + 1, _, rfl, by go_num, by omega, by omega, by omega, Lib.hid O2, Lib.hid (by rw [← HE.out, fx.out, shU_out Elt.lt dj b k (Or.inr hv)])⟩
                      case measure => simp [intOf]; omega
                  · go_wp2_with fail
                    go_roundw
                    case rel => exact ⟨i2, st + 1, _, rfl, by go_num, by omega, by omega, by omega, O, Lib.hid (by rw [← HE.out, fx.out, shU_out Elt.lt dj b k (Or.inl hk0)])⟩
                    case measure => simp [intOf]; omega
              · have t3 : ¬ 2 ≤ (b : Int) - i2 := by omega
                have fx : Hid (Go.Sort.fixUp Elt.lt b i2 d2 = d2) := Lib.hid (by unfold Go.Sort.fixUp; rw [if_neg h2])
                go_wp2_with fail
                go_roundw
                case rel => exact ⟨i2, st + 1, _, rfl, by go_num, by omega, by omega, by omega, O, Lib.hid (by rw [← HE.out, fx.out])⟩
                case measure => simp [intOf]; omega
    · have e5 : st = 5 := by omega
      subst e5
      go_wp2_with fail
      have e : R = (dk, false) := by rw [← HO.out]; rfl
      subst e
      go_ret
      exact ⟨rfl, O.out.own, O.out.row⟩
end Go.Proofs.YtoocmogmocapoaaDoor
