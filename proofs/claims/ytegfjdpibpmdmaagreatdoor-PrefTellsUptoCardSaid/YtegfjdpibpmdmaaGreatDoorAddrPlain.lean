/-
  Plain facts about the texts of addresses: a number below 256 and its decimal digits tell each other, a text is cut at its dots and joined again, so an address below 2^32 and its text tell each other. No condition; no Go program is named here.
-/
import Derived.Test.YtegfjdpibpmdmaaGreatDoorCutPlain
import Derived.Lib.ItoaNum
namespace Go.Proofs.YtegfjdpibpmdmaaGreatDoor.AddrP
open Go.Lib CutP

/-- The digits of a number below 1000. -/
def dig (n : Nat) : List UInt8 :=
  if n < 10 then [UInt8.ofNat (48 + n)]
  else if n < 100 then [UInt8.ofNat (48 + n / 10), UInt8.ofNat (48 + n % 10)]
  else [UInt8.ofNat (48 + n / 100), UInt8.ofNat (48 + n / 10 % 10), UInt8.ofNat (48 + n % 10)]

theorem dig_eq (n : Nat) (h : n < 1000) : decDigits n = dig n := by
  unfold dig
  by_cases h1 : n < 10
  · rw [if_pos h1, decDigits_one h1]
  · rw [if_neg h1]
    by_cases h2 : n < 100
    · rw [if_pos h2, decDigits_two h1 h2]
    · rw [if_neg h2, decDigits, dif_neg h1, decDigits_two (by omega) (by omega)]
      rw [Nat.div_div_eq_div_mul]
      rfl

/-- Is it a digit? -/
def isDig (c : UInt8) : Bool := !(decide (c.toNat < 48) || decide (57 < c.toNat))

/-- One digit more. -/
def oneMore (n : Nat) (c : UInt8) : Nat := n * 10 + (c.toNat - 48)
/-- The number that digits tell, from a number on. -/
def numFrom (n : Nat) (l : List UInt8) : Nat := l.foldl oneMore n
def num (l : List UInt8) : Nat := numFrom 0 l
theorem numFrom_nil (n : Nat) : numFrom n [] = n := by unfold numFrom; exact List.foldl_nil
theorem numFrom_cons (n : Nat) (c : UInt8) (r : List UInt8) : numFrom n (c :: r) = numFrom (oneMore n c) r := by unfold numFrom; exact List.foldl_cons ..
theorem numFrom_snoc (c : UInt8) (l : List UInt8) (n : Nat) : numFrom n (l ++ [c]) = numFrom n l * 10 + (c.toNat - 48) := by
  unfold numFrom
  rw [List.foldl_append, List.foldl_cons, List.foldl_nil, oneMore]
theorem isDig_iff (c : UInt8) : isDig c = true ↔ 48 ≤ (c.toNat : Int) ∧ (c.toNat : Int) ≤ 57 := by
  unfold isDig
  simp
  omega
theorem numFrom_lt : ∀ (l : List UInt8) (n : Nat), l.all isDig = true → numFrom n l < (n + 1) * 10 ^ l.length
  | [], n, _ => by
    rw [numFrom_nil, List.length_nil, Nat.pow_zero]
    omega
  | c :: r, n, h => by
    rw [List.all_cons, Bool.and_eq_true] at h
    have hc := (isDig_iff c).1 h.1
    have h1 := numFrom_lt r (oneMore n c) h.2
    have h2 : (oneMore n c + 1) * 10 ^ r.length ≤ ((n + 1) * 10) * 10 ^ r.length := Nat.mul_le_mul_right _ (by unfold oneMore; omega)
    rw [numFrom_cons, List.length_cons, Nat.pow_succ, Nat.mul_comm (10 ^ r.length) 10, ← Nat.mul_assoc]
    exact Nat.lt_of_lt_of_le h1 h2
theorem num_take_lt {s : ByteArray} {k : Nat} (hk : k ≤ 3) (h : (s.data.toList.take k).all isDig = true) : num (s.data.toList.take k) < 1000 := by
  have h1 := numFrom_lt _ 0 h
  have hl : (s.data.toList.take k).length ≤ 3 := Nat.le_trans (List.length_take_le _ _) hk
  have h2 : 10 ^ (s.data.toList.take k).length ≤ 1000 := Nat.le_trans (Nat.pow_le_pow_right (by decide) hl) (by decide)
  unfold num
  omega

/-- Are these the digits of a number below 256? -/
def okB (l : List UInt8) : Bool :=
  !(l.length == 0 || decide (3 < l.length)) && !(l.getD 0 0 == 48 && decide (1 < l.length)) && l.all isDig && !decide (255 < num l)

theorem back_fin : ∀ n : Fin 256, okB (dig n.val) = true ∧ num (dig n.val) = n.val ∧ (dig n.val).all (· != 46) = true ∧ (dig n.val).length ≤ 3 := by decide +kernel
theorem okB_dig (n : Nat) (h : n < 256) : okB (dig n) = true := (back_fin ⟨n, h⟩).1
theorem num_dig (n : Nat) (h : n < 256) : num (dig n) = n := (back_fin ⟨n, h⟩).2.1
theorem dig_nodot (n : Nat) (h : n < 256) : ∀ c ∈ dig n, c ≠ 46 := by
  have := (back_fin ⟨n, h⟩).2.2.1
  simpa using this
theorem dig_len (n : Nat) (h : n < 256) : (dig n).length ≤ 3 := (back_fin ⟨n, h⟩).2.2.2

theorem one_fin : ∀ x : Fin 10, dig (num [UInt8.ofNat (48 + x.val)]) = [UInt8.ofNat (48 + x.val)] := by decide +kernel
theorem two_fin : ∀ x y : Fin 10, x.val ≠ 0 → dig (num [UInt8.ofNat (48 + x.val), UInt8.ofNat (48 + y.val)]) = [UInt8.ofNat (48 + x.val), UInt8.ofNat (48 + y.val)] := by decide +kernel
theorem three_fin : ∀ x y z : Fin 10, x.val ≠ 0 → dig (num [UInt8.ofNat (48 + x.val), UInt8.ofNat (48 + y.val), UInt8.ofNat (48 + z.val)]) = [UInt8.ofNat (48 + x.val), UInt8.ofNat (48 + y.val), UInt8.ofNat (48 + z.val)] := by decide +kernel

theorem isDig_form {c : UInt8} (h : isDig c = true) : ∃ x : Fin 10, c = UInt8.ofNat (48 + x.val) := by
  unfold isDig at h
  simp at h
  refine ⟨⟨c.toNat - 48, by omega⟩, ?_⟩
  apply UInt8.toNat_inj.1
  simp
  omega

theorem okB_num {l : List UInt8} (h : okB l = true) : num l < 256 := by
  unfold okB at h
  simp at h
  omega

/-- DIGITS THAT ARE RIGHT ARE THOSE OF THEIR NUMBER. -/
theorem dig_num {l : List UInt8} (h : okB l = true) : dig (num l) = l := by
  unfold okB at h
  simp only [Bool.and_eq_true, Bool.not_eq_true', Bool.or_eq_false_iff, decide_eq_false_iff_not, Bool.and_eq_false_iff, beq_eq_false_iff_ne] at h
  obtain ⟨⟨⟨⟨h0, h3⟩, hz⟩, hd⟩, _⟩ := h
  match l, h0, h3, hz, hd with
  | [], h0, _, _, _ => exact absurd rfl h0
  | [a], _, _, _, hd =>
    simp at hd
    obtain ⟨x, rfl⟩ := isDig_form hd
    exact one_fin x
  | [a, b], _, _, hz, hd =>
    simp at hd hz
    obtain ⟨x, rfl⟩ := isDig_form hd.1
    obtain ⟨y, rfl⟩ := isDig_form hd.2
    refine two_fin x y fun e => hz ?_
    rw [e]; rfl
  | [a, b, c], _, _, hz, hd =>
    simp at hd hz
    obtain ⟨x, rfl⟩ := isDig_form hd.1
    obtain ⟨y, rfl⟩ := isDig_form hd.2.1
    obtain ⟨z, rfl⟩ := isDig_form hd.2.2
    refine three_fin x y z fun e => hz ?_
    rw [e]; rfl
  | a :: b :: c :: d :: r, _, h3, _, _ => simp at h3

/-! ### Addresses and their texts -/

def b3 (a : Nat) : Nat := a / 16777216 % 256
def b2 (a : Nat) : Nat := a / 65536 % 256
def b1 (a : Nat) : Nat := a / 256 % 256
def b0 (a : Nat) : Nat := a % 256
theorem b3_lt (a : Nat) : b3 a < 256 := Nat.mod_lt _ (by decide)
theorem b2_lt (a : Nat) : b2 a < 256 := Nat.mod_lt _ (by decide)
theorem b1_lt (a : Nat) : b1 a < 256 := Nat.mod_lt _ (by decide)
theorem b0_lt (a : Nat) : b0 a < 256 := Nat.mod_lt _ (by decide)

/-- The text of an address. -/
def text (a : Nat) : List UInt8 := dig (b3 a) ++ 46 :: (dig (b2 a) ++ 46 :: (dig (b1 a) ++ 46 :: dig (b0 a)))

/-- The number of pieces that are all right, from a number on. -/
def fold (a : Nat) : List (List UInt8) → Option Nat
  | [] => some a
  | p :: r => if okB p then fold (a * 256 + num p) r else none

theorem fold_cons (a : Nat) (p : List UInt8) (r : List (List UInt8)) : fold a (p :: r) = if okB p then fold (a * 256 + num p) r else none := by
  rw [fold]
theorem fold_nil (a : Nat) : fold a [] = some a := by
  rw [fold]
/-- The pieces of a text, five of them at most. -/
def pieces (l : List UInt8) : List (List UInt8) := splitK [46] 0 4 l

/-- The address whose text it is. -/
def parse (l : List UInt8) : Option Nat := if (pieces l).length = 4 then fold 0 (pieces l) else none

theorem pieces_text (a : Nat) : pieces (text a) = [dig (b3 a), dig (b2 a), dig (b1 a), dig (b0 a)] := by
  unfold pieces text
  rw [cut_hit 46 3 _ _ (dig_nodot _ (b3_lt a)), cut_hit 46 2 _ _ (dig_nodot _ (b2_lt a)), cut_hit 46 1 _ _ (dig_nodot _ (b1_lt a)), cut_miss 46 1 _ (dig_nodot _ (b0_lt a))]

theorem fold_four (p q r s : List UInt8) : fold 0 [p, q, r, s] = if okB p && okB q && okB r && okB s then some (((num p * 256 + num q) * 256 + num r) * 256 + num s) else none := by
  simp only [fold]
  cases okB p <;> cases okB q <;> cases okB r <;> cases okB s <;> simp

/-- THERE AND BACK. -/
theorem parse_text (a : Nat) (h : a < 4294967296) : parse (text a) = some a := by
  unfold parse
  rw [pieces_text, if_pos (show [dig (b3 a), dig (b2 a), dig (b1 a), dig (b0 a)].length = 4 from rfl), fold_four, okB_dig _ (b3_lt a), okB_dig _ (b2_lt a), okB_dig _ (b1_lt a), okB_dig _ (b0_lt a),
    num_dig _ (b3_lt a), num_dig _ (b2_lt a), num_dig _ (b1_lt a), num_dig _ (b0_lt a)]
  simp only [Bool.and_self, if_true]
  unfold b3 b2 b1 b0
  congr 1
  omega

theorem four_of_length {α : Type} {l : List α} (h : l.length = 4) : ∃ p q r s, l = [p, q, r, s] := by
  match l, h with
  | [p, q, r, s], _ => exact ⟨p, q, r, s, rfl⟩

/-- AND BACK AGAIN. -/
theorem text_parse {l : List UInt8} {n : Nat} (h : parse l = some n) : n < 4294967296 ∧ text n = l := by
  unfold parse at h
  split at h
  · rename_i h4
    obtain ⟨p, q, r, s, e⟩ := four_of_length h4
    rw [e, fold_four] at h
    split at h
    · rename_i hok
      simp only [Bool.and_eq_true] at hok
      obtain ⟨⟨⟨hp, hq⟩, hr⟩, hs⟩ := hok
      have np := okB_num hp; have nq := okB_num hq; have nr := okB_num hr; have ns := okB_num hs
      obtain rfl := Option.some.inj h
      refine ⟨by omega, ?_⟩
      unfold pieces at e
      obtain ⟨t1, rfl, e1⟩ := cut_back 46 3 _ _ _ e (by simp)
      obtain ⟨t2, rfl, e2⟩ := cut_back 46 2 _ _ _ e1 (by simp)
      obtain ⟨t3, rfl, e3⟩ := cut_back 46 1 _ _ _ e2 (by simp)
      obtain rfl := cut_last 46 1 _ _ e3
      unfold text
      rw [show b3 (((num p * 256 + num q) * 256 + num r) * 256 + num t3) = num p by unfold b3; omega,
        show b2 (((num p * 256 + num q) * 256 + num r) * 256 + num t3) = num q by unfold b2; omega,
        show b1 (((num p * 256 + num q) * 256 + num r) * 256 + num t3) = num r by unfold b1; omega,
        show b0 (((num p * 256 + num q) * 256 + num r) * 256 + num t3) = num t3 by unfold b0; omega,
        dig_num hp, dig_num hq, dig_num hr, dig_num hs]
    · cases h
  · cases h
end Go.Proofs.YtegfjdpibpmdmaaGreatDoor.AddrP
