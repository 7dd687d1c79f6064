/-
  The statement CoverTells' function answers true at every list and every address; what lay in memory stays. Condition: the library's variable errors.errorType is as its text lays it.
-/
import Derived.Test.YthoegphihpngoaaDoorRefCoverOf
import Derived.Test.YthoegphihpngoaaDoorCoverFact
import Derived.Test.YthoegphihpngoaaDoorCoverHas
import Derived.Test.YthoegphihpngoaaDoorCoverSize
import Derived.Test.YthoegphihpngoaaDoorErrTold
namespace Go.Proofs.YthoegphihpngoaaDoor
open Go.RowKit Go.Lib

set_option maxHeartbeats 4000000 in
set_option maxRecDepth 100000 in
theorem coverTells_bad (w : World) (v : Value) (l : List Nt) (a : Nat) (ha : a < 4294967296) (h : Arg w v l) (hn : l.length < 4611686018427387904) (hok : ∀ x ∈ l, x.1 < 4294967296) (hb : badL l ≠ 0) (he : ErrType w) :
    Calls Tryd.prog 3 #[v, .int .u32 (a : Int)] w fun e w' => e = .returned (.bool true) ∧ Below w.heap.size w w' := by
  have HA := Lib.hid h; have HOK := Lib.hid hok; have HE := Lib.hid he
  have hE : errV (badL l) = .iface 25 (.int .i64 (badL l)) := if_neg hb
  have HF := Lib.hid (fun W hA => netsFault_any W v l hn hA hok)
  have HCov : Hid (∀ W, Arg W v l → Calls Tryd.prog 8 #[v] W fun e w' => ∃ v', e = .returned (.tuple #[v', .iface 25 (.int .i64 (badL l))]) ∧ Own w' W.heap.size v' [] ∧ Below W.heap.size W w') := Lib.hid fun W hA => by
    have := cover_any W v l hA hn hok
    rwa [hE, show covE l = [] from if_neg hb] at this
  have HSz : Hid (∀ W, Arg W v l → Calls Tryd.prog 11 #[v] W fun e w' => e = .returned (.tuple #[.int .i64 0, .iface 25 (.int .i64 (badL l))]) ∧ Below W.heap.size W w') := Lib.hid fun W hA => by
    have := size_bad W v l hA hn hok hb
    rwa [hE] at this
  have hq : (badL l == 0) = false := by simpa using hb
  clear h hok he hE hb
  generalize badL l = q at HF HCov HSz hq
  obtain ⟨p, cc, rfl, hcase⟩ := HA.out
  have HD := Lib.hid hcase; clear hcase
  go_enter Tryd.func3, Tryd.ntmps3
  go_wp2_with fail
  refine (covered_any w).mono ?_
  rintro e w1 ⟨rfl, b1⟩
  go_wp2_with fail
  refine (HF.out w1 (HA.out.below b1)).mono ?_
  rintro e w2 ⟨rfl, b2⟩
  have B2 := Lib.hid (Below.two b1 b2)
  clear b1 b2 HF
  obtain ⟨c, hc⟩ : ∃ c : List Nt, c = [] := ⟨_, rfl⟩
  obtain ⟨pw, hpw⟩ : ∃ pw : Option Addr, pw = none := ⟨_, rfl⟩
  obtain ⟨cw, hcw⟩ : ∃ cw : Nat, cw = 0 := ⟨_, rfl⟩
  have AW : Hid (Arg w2 (.slice pw c.length cw) c) := Lib.hid ⟨pw, cw, rfl, Or.inl hc⟩
  have HCL : Hid (c.length < 4611686018427387904) := Lib.hid (by rw [hc]; simp)
  subst hc hpw hcw
  go_wp2_with fail
  refine wp_loop_rounds 1 ?_
  rw [rounds_succ]
  go_wp2_with fail
  go_loopw [10, 11] (fun vs vk wr => ∃ (k : Nat) (s : Bool), vs = .bool s ∧ vk = .int .i64 k ∧ k ≤ l.length ∧ Hid ((s || anyHas (l.drop k) a) = anyHas l a) ∧ Hid (Below w.heap.size w wr) ∧ Hid (Arg wr (.slice none 0 0) [])) (fun _ vk _ => l.length - (intOf vk).toNat)
  case atStart => exact ⟨0, false, rfl, rfl, Nat.zero_le _, Lib.hid (by rw [Bool.false_or]; rfl), B2, AW⟩
  case round =>
    clear B2 AW
    obtain ⟨k, s, rfl, rfl, hk, HI, HB, AW⟩ := hrel
    by_cases hkn : k < l.length
    · cases s with
      | true =>
        go_wp2_with fail
        go_roundw
        case rel => exact ⟨k + 1, true, rfl, by go_num, by omega, Lib.hid (by rw [← HI.out, Bool.true_or, Bool.true_or]), HB, AW⟩
        case measure => simp [intOf]; omega
      | false =>
        obtain ⟨g, off, rfl, hg, hseen⟩ : ∃ b off, p = some ⟨b, off, none⟩ ∧ b < w.heap.size ∧ Seen w b off l := by
          rcases HD.out with e | e
          · rw [e] at hkn; simp at hkn
          · exact e
        have SS := hseen.below HB.out hg
        have s0 : wr.cell? ⟨g, off + k * 2, none⟩ = some (.int .u32 (l[k]!.1 : Int)) := SS.c0 k hkn
        have s1 : wr.cell? ⟨g, off + k * 2 + 1, none⟩ = some (.int .i64 l[k]!.2) := SS.c1 k hkn
        have hx : l[k]!.1 < 4294967296 := HOK.out _ (by rw [getElem!_pos l k hkn]; exact List.getElem_mem hkn)
        have hd := drop_at l k hkn
        clear SS hseen
        generalize l[k]! = x at s0 s1 hx hd
        have HC := Lib.hid (refHas_any x.1 x.2 a hx ha)
        go_wp2_with fail
        refine (HC.out _).mono ?_
        rintro e w3 ⟨rfl, hb3⟩
        clear s0 s1
        go_wp2_with fail
        go_roundw
        case rel => exact ⟨k + 1, PrefP.has x.1 x.2 a, rfl, by go_num, by omega, Lib.hid (by rw [← HI.out, hd, Bool.false_or]; rfl), Lib.hid (Below.two HB.out hb3), Lib.hid (AW.out.below hb3)⟩
        case measure => simp [intOf]; omega
    · have es : s = anyHas l a := by rw [← HI.out, List.drop_eq_nil_of_le (by omega)]; show s = (s || false); rw [Bool.or_false]
      have ES := Lib.hid es; clear es HI
      have HAr := Lib.hid (HA.out.below HB.out)
      go_wp2_with fail
      refine (HCov.out _ HAr.out).mono ?_
      rintro e w4 ⟨v4, rfl, o4, b4⟩
      have A4 := Lib.hid o4.arg; clear o4
      have HB4 := Lib.hid (Below.two HB.out b4)
      have AW4 := Lib.hid (AW.out.below b4)
      clear b4 HB AW HAr
      obtain ⟨p4, c4, rfl, _⟩ := A4.out
      go_wp2_with fail
      refine (same_err q q true (by simp) _ (HE.out.below HB4.out)).mono ?_
      rintro e w5 ⟨rfl, b5⟩
      have HB5 := Lib.hid (Below.two HB4.out b5)
      have A5 := Lib.hid (A4.out.below b5)
      have AW5 := Lib.hid (AW4.out.below b5)
      clear b5 HB4 A4 AW4
      go_wp2_with fail
      refine (sameNets_any _ _ _ [] [] HCL.out A5.out AW5.out).mono ?_
      rw [decide_eq_true (rfl : ([] : List Nt) = [])]
      rintro e w6 ⟨rfl, b6⟩
      have HB6 := Lib.hid (Below.two HB5.out b6); clear b6
      go_wp2_with fail
      refine (HSz.out _ (HA.out.below HB6.out)).mono ?_
      rintro e w7 ⟨rfl, b7⟩
      have HB7 := Lib.hid (Below.two HB6.out b7); clear b7
      go_wp2_with fail
      refine (same_err q q true (by simp) _ (HE.out.below HB7.out)).mono ?_
      rintro e w8 ⟨rfl, b8⟩
      have HB8 := Lib.hid (Below.two HB7.out b8); clear b8 HB7
      go_wp2_with fail
      refine (hasL_any _ _ a l ha hn (HA.out.below HB8.out)).mono ?_
      rintro e w9 ⟨rfl, b9⟩
      have HB9 := Lib.hid (Below.two HB8.out b9); clear b9
      rw [← ES.out]
      go_wp2_with fail
      go_ret
      exact ⟨by simp, HB9.out⟩

set_option maxHeartbeats 4000000 in
set_option maxRecDepth 100000 in
theorem coverTells_ok (w : World) (v : Value) (l : List Nt) (a : Nat) (ha : a < 4294967296) (h : Arg w v l) (hok : ∀ x ∈ l, x.1 < 4294967296) (hb : badL l = 0) (he : ErrType w) :
    Calls Tryd.prog 3 #[v, .int .u32 (a : Int)] w fun e w' => e = .returned (.bool true) ∧ Below w.heap.size w w' := by
  have HA := Lib.hid h; have HOK := Lib.hid hok; have HE := Lib.hid he
  have h0 := (badL_zero l).1 hb
  have lV : ∀ x ∈ l, x.V := fun x hx => ⟨hok x hx, h0.1 x hx⟩
  have hl64 := h0.2
  have hn : l.length < 4611686018427387904 := by omega
  have HF : Hid (∀ W, Arg W v l → Calls Tryd.prog 5 #[v] W fun e w' => e = .returned (.int .i64 0) ∧ Below W.heap.size W w') := Lib.hid fun W hA => by
    have := netsFault_any W v l hn hA hok
    rwa [hb] at this
  have HO : Hid (∀ W, Arg W v l → Calls Tryd.prog 6 #[v, .agg #[.int .u32 0, .int .i64 0]] W fun e w' => ∃ v', e = .returned v' ∧ Own w' W.heap.size v' (cov l) ∧ Below W.heap.size W w') := Lib.hid fun W hA => by
    have := coverOf_any l hn lV v 32 0 0 (by omega) ⟨by decide, by decide +kernel⟩ rfl W hA
    rw [show coverF l 32 (0, ((0 : Nat) : Int)) = cov l from coverF_cov l lV] at this
    exact this
  have HCov : Hid (∀ W, Arg W v l → Calls Tryd.prog 8 #[v] W fun e w' => ∃ v', e = .returned (.tuple #[v', .nilIface]) ∧ Own w' W.heap.size v' (cov l) ∧ Below W.heap.size W w') := Lib.hid fun W hA => cover_ok W v l hA h0.2 lV
  have HSz : Hid (∀ W, Arg W v l → Calls Tryd.prog 11 #[v] W fun e w' => e = .returned (.tuple #[.int .i64 (sumSz (cov l) : Int), .nilIface]) ∧ Below W.heap.size W w') := Lib.hid fun W hA => by
    have := size_any W v l hA hn hok
    rw [hb, show errV 0 = Value.nilIface from rfl, show sizeE l = sumSz (cov l) from if_pos hb] at this
    exact this
  have HV := Lib.hid (cov_good l lV).1
  have hsz := size_le l lV
  have HCL : Hid ((cov l).length < 4611686018427387904) := Lib.hid (by have := cov_len l; omega)
  clear h hok he hb h0 lV
  generalize cov l = c at HO HCov HSz HV hsz HCL
  obtain ⟨p, cc, rfl, hcase⟩ := HA.out
  have HD := Lib.hid hcase; clear hcase
  go_enter Tryd.func3, Tryd.ntmps3
  go_wp2_with fail
  refine (covered_any w).mono ?_
  rintro e w1 ⟨rfl, b1⟩
  go_wp2_with fail
  refine (HF.out w1 (HA.out.below b1)).mono ?_
  rintro e w2 ⟨rfl, b2⟩
  have B1 := Lib.hid (Below.two b1 b2)
  clear b1 b2 HF
  go_wp2_with fail
  refine (HO.out w2 (HA.out.below B1.out)).mono ?_
  rintro e w3 ⟨vw, rfl, ow, b3⟩
  have AW := Lib.hid ow.arg
  have B2 := Lib.hid (Below.two B1.out b3)
  clear ow b3 B1 HO
  obtain ⟨pw, cw, rfl, hcw⟩ := AW.out
  have HW := Lib.hid hcw; clear hcw
  have hcl := HCL.out
  go_wp2_with fail
  go_loopw [9, 8] (fun vk vs wr => ∃ (k s : Nat), vk = .int .i64 k ∧ vs = .int .i64 s ∧ k ≤ c.length ∧ Hid (s + sumSz (c.drop k) = sumSz c) ∧ wr = w3) (fun vk _ _ => c.length - (intOf vk).toNat)
  case atStart => exact ⟨0, 0, rfl, rfl, Nat.zero_le _, Lib.hid (by simp), rfl⟩
  case round =>
    obtain ⟨k, s, rfl, rfl, hk, HS, rfl⟩ := hrel
    by_cases hkn : k < c.length
    · obtain ⟨g, off, rfl, hg, hseen⟩ : ∃ b off, pw = some ⟨b, off, none⟩ ∧ b < wr.heap.size ∧ Seen wr b off c := by
        rcases HW.out with e | e
        · rw [e] at hkn; simp at hkn
        · exact e
      have s1 : wr.cell? ⟨g, off + k * 2 + 1, none⟩ = some (.int .i64 c[k]!.2) := hseen.c1 k hkn
      have hxV : c[k]!.V := HV.out _ (by rw [getElem!_pos c k hkn]; exact List.getElem_mem hkn)
      have hd := sumSz_drop c k hkn
      have he := HS.out
      rw [hd] at he
      clear hseen hd
      generalize c[k]! = x at s1 hxV he
      obtain ⟨n, hn1, hn, e, _⟩ := hxV.len
      rw [hn1] at s1
      rw [e] at he
      have hle : s + 2 ^ (32 - n) ≤ 4294967296 := by omega
      have hpp : (2 : Nat) ^ (32 - n) ≤ 4294967296 := by omega
      have hn32 : ¬ (32 - (n : Int) < 0) := by omega
      have HE' := Lib.hid he; clear he hxV hn1 e
      have HZ : Hid (wrap64 ((s : Int) + wrap64 (2 ^ (32 - n))) = ((s + 2 ^ (32 - n) : Nat) : Int)) := Lib.hid (by
        have e2 : ((2 : Int) ^ (32 - n)) = ((2 ^ (32 - n) : Nat) : Int) := by rw [Int.natCast_pow]; rfl
        rw [e2]
        exact add_sz s _ hle)
      go_wp2_with fail
      refine ⟨⟨k + 1, s + 2 ^ (32 - n), by go_num, by rw [HZ.out], by omega, Lib.hid (by rw [← HE'.out, Nat.add_assoc]), trivial⟩, by simp only [intOf]; omega⟩
    · have e : s = sumSz c := by have := HS.out; rw [List.drop_eq_nil_of_le (by omega)] at this; simpa [sumSz] using this
      subst e
      clear HS HW HV
      go_wp2_with fail
      go_loopw [10, 11] (fun vs vk wr => ∃ (k : Nat) (s : Bool), vs = .bool s ∧ vk = .int .i64 k ∧ k ≤ l.length ∧ Hid ((s || anyHas (l.drop k) a) = anyHas l a) ∧ Hid (Below w.heap.size w wr) ∧ Hid (Arg wr (.slice pw c.length cw) c)) (fun _ vk _ => l.length - (intOf vk).toNat)
      case atStart => exact ⟨0, false, rfl, rfl, Nat.zero_le _, Lib.hid (by rw [Bool.false_or]; rfl), B2, AW⟩
      case round =>
        clear B2 AW
        obtain ⟨k, s, rfl, rfl, hk, HI, HB, AW⟩ := hrel
        by_cases hkn : k < l.length
        · cases s with
          | true =>
            go_wp2_with fail
            go_roundw
            case rel => exact ⟨k + 1, true, rfl, by go_num, by omega, Lib.hid (by rw [← HI.out, Bool.true_or, Bool.true_or]), HB, AW⟩
            case measure => simp [intOf]; omega
          | false =>
            obtain ⟨g, off, rfl, hg, hseen⟩ : ∃ b off, p = some ⟨b, off, none⟩ ∧ b < w.heap.size ∧ Seen w b off l := by
              rcases HD.out with e | e
              · rw [e] at hkn; simp at hkn
              · exact e
            have SS := hseen.below HB.out hg
            have s0 : wr.cell? ⟨g, off + k * 2, none⟩ = some (.int .u32 (l[k]!.1 : Int)) := SS.c0 k hkn
            have s1 : wr.cell? ⟨g, off + k * 2 + 1, none⟩ = some (.int .i64 l[k]!.2) := SS.c1 k hkn
            have hx : l[k]!.1 < 4294967296 := HOK.out _ (by rw [getElem!_pos l k hkn]; exact List.getElem_mem hkn)
            have hd := drop_at l k hkn
            clear SS hseen
            generalize l[k]! = x at s0 s1 hx hd
            have HC := Lib.hid (refHas_any x.1 x.2 a hx ha)
            go_wp2_with fail
            refine (HC.out _).mono ?_
            rintro e w3 ⟨rfl, hb3⟩
            clear s0 s1
            go_wp2_with fail
            go_roundw
            case rel => exact ⟨k + 1, PrefP.has x.1 x.2 a, rfl, by go_num, by omega, Lib.hid (by rw [← HI.out, hd, Bool.false_or]; rfl), Lib.hid (Below.two HB.out hb3), Lib.hid (AW.out.below hb3)⟩
            case measure => simp [intOf]; omega
        · have es : s = anyHas l a := by rw [← HI.out, List.drop_eq_nil_of_le (by omega)]; show s = (s || false); rw [Bool.or_false]
          have ES := Lib.hid es; clear es HI
          have HAr := Lib.hid (HA.out.below HB.out)
          go_wp2_with fail
          refine (HCov.out _ HAr.out).mono ?_
          rintro e w4 ⟨v4, rfl, o4, b4⟩
          have A4 := Lib.hid o4.arg; clear o4
          have HB4 := Lib.hid (Below.two HB.out b4)
          have AW4 := Lib.hid (AW.out.below b4)
          clear b4 HB AW HAr
          obtain ⟨p4, c4, rfl, _⟩ := A4.out
          go_wp2_with fail
          refine (same_nil 0 true rfl _).mono ?_
          rintro e w5 ⟨rfl, rfl⟩
          go_wp2_with fail
          refine (sameNets_any _ _ _ c c HCL.out A4.out AW4.out).mono ?_
          rw [decide_eq_true (rfl : c = c)]
          rintro e w6 ⟨rfl, b6⟩
          have HB6 := Lib.hid (Below.two HB4.out b6); clear b6
          go_wp2_with fail
          refine (HSz.out _ (HA.out.below HB6.out)).mono ?_
          rintro e w7 ⟨rfl, b7⟩
          have HB7 := Lib.hid (Below.two HB6.out b7); clear b7
          go_wp2_with fail
          refine (same_nil 0 true rfl _).mono ?_
          rintro e w8 ⟨rfl, rfl⟩
          go_wp2_with fail
          refine (hasL_any _ _ a l ha hn (HA.out.below HB7.out)).mono ?_
          rintro e w9 ⟨rfl, b9⟩
          have HB9 := Lib.hid (Below.two HB7.out b9); clear b9
          rw [← ES.out]
          go_wp2_with fail
          go_ret
          exact ⟨by simp, HB9.out⟩

/-- CoverTells at every list and every address. -/
theorem coverTells_walk (w : World) (v : Value) (l : List Nt) (a : Nat) (ha : a < 4294967296) (h : Arg w v l) (hn : l.length < 4611686018427387904) (hok : ∀ x ∈ l, x.1 < 4294967296) (he : ErrType w) :
    Calls Tryd.prog 3 #[v, .int .u32 (a : Int)] w fun e w' => e = .returned (.bool true) ∧ Below w.heap.size w w' := by
  by_cases hb : badL l = 0
  · exact coverTells_ok w v l a ha h hok hb he
  · exact coverTells_bad w v l a ha h hn hok hb he
end Go.Proofs.YthoegphihpngoaaDoor
