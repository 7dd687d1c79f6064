/-
  The statement TrieOwn's function answers true at every list and every number; what lay in memory stays.
-/
import Derived.Test.YtbdmfcnlfmnmdaaTriePut
import Derived.Test.YtbdmfcnlfmnmdaaTrieList
import Derived.Test.YtbdmfcnlfmnmdaaCoverOwnPart
import Derived.Test.YtbdmfcnlfmnmdaaSameNets
namespace Go.Proofs.Ytbdmfcnlfmnmdaa
open Go.RowKit

theorem put_zero (f : Nt → Option Int) (L : List Nt) (x : Nt) (hx : PrefP.chk x.1 x.2 = 0) (hl : L.length < 64) : putE f L x = 0 := by
  unfold putE
  rw [if_pos hx, if_neg (by omega)]
theorem zero_chk : PrefP.chk 0 0 = 0 := by decide +kernel
/-- One network alone. -/
theorem one_len {w : World} {S : Nat → Prop} {tb : Nat} {x : Nt} {v : Int} {L : List Nt} (h : Tab w S tb (setF (fun _ => none) x (some v)) L) : L.length = 1 := by
  have hp : L.Perm [x] := (List.perm_ext_iff_of_nodup (rises_nodup h.rises) (by simp)).2 fun n => by
    rw [h.mem]
    unfold setF
    by_cases e : n = x
    · simp [e]
    · simp [e]
  rw [hp.length_eq]; rfl

set_option maxHeartbeats 1000000 in
set_option maxRecDepth 100000 in
theorem trieOwn_walk (w : World) (v : Value) (l : List Nt) (x : Int) (hl : l.length * 16 ≤ 140737488355328) (h : Arg w v l) (hok : ∀ x ∈ l, x.1 < 4294967296) :
    Calls Try.prog 4 #[v, .int .i64 x] w fun e w' => e = .returned (.bool true) ∧ Below w.heap.size w w' := by
  obtain ⟨p, c, rfl, h⟩ := h
  have HA := Lib.hid h; have HOK := Lib.hid hok
  clear h hok
  go_enter Try.func4, Try.ntmps4
  go_wp2_with fail
  refine (new_tab w).mono ?_
  rintro e w1 ⟨rfl, T1, b1⟩
  go_wp2_with fail
  refine (put_any w1 _ w.heap.size _ [] ((0, 0) : Nt) 3 (by decide) T1).mono ?_
  rintro e w2 ⟨rfl, ⟨L2, T2⟩, K2⟩
  have hE : putE (fun _ => none) [] ((0, 0) : Nt) = 0 := put_zero _ _ _ zero_chk (by simp)
  rw [hE, errV_zero]
  unfold putF at T2
  rw [if_pos hE] at T2
  have hL2 := one_len T2
  have b2 : Below w.heap.size w w2 := b1.trans (K2.below (fun b hb => by omega) b1.size)
  have HS3 := Lib.hid (show ∀ b, plus (fun b => b = w.heap.size) w1 w2 b → w.heap.size ≤ b from plus_ge (fun b hb => by omega) b1.size)
  have HT2 := Lib.hid T2
  clear K2 T1 hE T2 b1
  go_wp2_with fail
  refine (list_any w2 _ w.heap.size _ L2 HT2.out).mono ?_
  rintro e w3 ⟨v3, rfl, o3, b3⟩
  obtain ⟨p3, c3, rfl, _⟩ := o3.arg
  rw [hL2]
  have HT3 := Lib.hid (HT2.out.below b3); have HB3 := Lib.hid (Below.two b2 b3)
  clear HT2 o3 b3 b2
  generalize plus (fun b => b = w.heap.size) w1 w2 = S3 at *
  generalize setF (fun _ => none) ((0, 0) : Nt) (some 3) = f3 at *
  go_wp2_with fail
  go_loopw [6] (fun s6 wr => ∃ (k : Nat) (S : Nat → Prop) (f : Nt → Option Int) (L : List Nt), s6 = .int .i64 k ∧ k ≤ l.length ∧ Hid (Tab wr S w.heap.size f L) ∧ Hid (Below w.heap.size w wr) ∧ Hid (∀ b, S b → w.heap.size ≤ b)) (fun s6 _ => l.length - (RowKit.intOf s6).toNat)
  case atStart => exact ⟨0, S3, f3, L2, rfl, Nat.zero_le _, HT3, HB3, HS3⟩
  case round =>
    clear HT3 HB3 HS3
    obtain ⟨k, S, f, L, rfl, hk, HT, HB, HS⟩ := hrel
    by_cases hkn : k < l.length
    · obtain ⟨b, off, hp, hlt, hs⟩ : ∃ b off, p = some ⟨b, off, none⟩ ∧ b < w.heap.size ∧ Seen w b off l := by
        rcases HA.out with h | h
        · rw [h] at hkn; simp at hkn
        · exact h
      subst hp
      have sw := hs.below HB.out hlt
      have s0 : wr.cell? ⟨b, off + k * 2, none⟩ = some (.int .u32 (l[k]!.1 : Int)) := sw.c0 k hkn
      have s1 : wr.cell? ⟨b, off + k * 2 + 1, none⟩ = some (.int .i64 l[k]!.2) := sw.c1 k hkn
      have hx : l[k]!.1 < 4294967296 := HOK.out _ (by rw [getElem!_pos l k hkn]; exact List.getElem_mem hkn)
      generalize l[k]! = n at s0 s1 hx
      clear sw hs
      go_wp2_with fail
      refine (put_any wr S w.heap.size f L n k hx HT.out).mono ?_
      rintro e w4 ⟨rfl, ⟨L4, T4⟩, K4⟩
      go_wp2_with fail
      go_roundw
      case rel => exact ⟨k + 1, _, _, L4, by go_num, by omega, Lib.hid T4, Lib.hid (HB.out.trans (K4.below HS.out HB.out.size)), Lib.hid (plus_ge HS.out HB.out.size)⟩
      case measure => simp [RowKit.intOf]; omega
    · go_wp2_with fail
      refine (list_any wr S w.heap.size f L HT.out).mono ?_
      rintro e w5 ⟨v5, rfl, o5, b5⟩
      have HT5 := Lib.hid (HT.out.below b5)
      have hfew := HT.out.few
      go_wp2_with fail
      refine (netsCopy_any w5 v5 L (by omega) o5.arg).mono ?_
      rintro e w6 ⟨v6, rfl, o6, b6⟩
      have HT6 := Lib.hid (HT5.out.below b6)
      go_wp2_with fail
      refine (list_any w6 S w.heap.size f L HT6.out).mono ?_
      rintro e w7 ⟨v7, rfl, o7, b7⟩
      go_wp2_with fail
      refine (spoil_any w7 w6.heap.size v7 L x (by omega) o7).mono ?_
      rintro e w8 ⟨rfl, b8⟩
      have b68 := b7.trans b8
      have HT8 := Lib.hid (HT6.out.frame b68.size fun b hb => b68.block b (HT6.out.lt b hb))
      go_wp2_with fail
      refine (list_any w8 S w.heap.size f L HT8.out).mono ?_
      rintro e w9 ⟨v9, rfl, o9, b9⟩
      have b69 := Below.two b68 b9
      go_wp2_with fail
      refine (sameNets_any w9 v9 v6 L L (by omega) o9.arg (o6.arg.below b69)).mono ?_
      rintro e w10 ⟨rfl, b10⟩
      rw [decide_eq_true rfl]
      go_wp2_with fail
      go_ret
      exact ⟨rfl, Below.two HB.out (Below.two b5 (Below.two b6 (Below.two b69 b10)))⟩
end Go.Proofs.Ytbdmfcnlfmnmdaa
