/-
  PLAIN FACTS on the Internet checksum (of no program): the sum of bytes by twos, folded to sixteen bits.
-/
import Derived.Test.YteeilmigedhjmaaWirePlain
import Derived.Laws.BitsAllLaws
namespace Go.Proofs.Yteeilmigedhjmaa

/-- The bytes' sum, the first one high or low. -/
def tot : Bool → List Nat → Nat
  | _, [] => 0
  | true, x :: l => 256 * x + tot false l
  | false, x :: l => x + tot true l
theorem tot_app : ∀ (a b : List Nat) (p : Bool), tot p (a ++ b) = tot p a + tot (if a.length % 2 = 0 then p else !p) b
  | [], b, p => by simp [tot]
  | x :: a, b, p => by
    by_cases h : a.length % 2 = 0
    · have h' : ¬ (a.length + 1) % 2 = 0 := by omega
      cases p
      · simp only [List.cons_append, tot, List.length_cons, tot_app a b true, if_pos h, if_neg h', Bool.not_false]; omega
      · simp only [List.cons_append, tot, List.length_cons, tot_app a b false, if_pos h, if_neg h', Bool.not_true]; omega
    · have h' : (a.length + 1) % 2 = 0 := by omega
      cases p
      · simp only [List.cons_append, tot, List.length_cons, tot_app a b true, if_neg h, if_pos h', Bool.not_true]; omega
      · simp only [List.cons_append, tot, List.length_cons, tot_app a b false, if_neg h, if_pos h', Bool.not_false]; omega
theorem tot_even (a b : List Nat) (h : a.length % 2 = 0) : tot true (a ++ b) = tot true a + tot true b := by rw [tot_app, if_pos h]
theorem tot_more (l : List Nat) (k : Nat) (h : k < l.length) : tot true (l.take (k + 1)) = tot true (l.take k) + (if k % 2 = 0 then 256 * l[k]! else l[k]!) := by
  rw [List.take_succ_eq_append_getElem h, tot_app, getElem!_pos l k h, List.length_take, Nat.min_eq_left (by omega)]
  by_cases hk : k % 2 = 0
  · rw [if_pos hk, if_pos hk]; rfl
  · rw [if_neg hk, if_neg hk]; rfl
theorem tot_le : ∀ (l : List Nat) (p : Bool), Byt l → tot p l ≤ 65280 * l.length
  | [], p, _ => by simp [tot]
  | x :: l, p, h => by
    have hx : x < 256 := h x (by simp)
    have hl : Byt l := fun y hy => h y (by simp [hy])
    cases p
    · have := tot_le l true hl
      simp only [tot, List.length_cons]; omega
    · have := tot_le l false hl
      simp only [tot, List.length_cons]; omega
theorem tot_take_le (l : List Nat) (k : Nat) (h : Byt l) (hl : l.length ≤ 140737488355328) : tot true (l.take k) ≤ 9187343239835811840 := by
  have h1 := tot_le (l.take k) true (fun x hx => h x (List.mem_of_mem_take hx))
  have h2 : (l.take k).length ≤ l.length := by rw [List.length_take]; omega
  omega
theorem tot_pos : ∀ (l : List Nat) (p : Bool) (k : Nat), k < l.length → l[k]! ≠ 0 → 0 < tot p l
  | [], _, k, h, _ => by simp at h
  | x :: l, p, 0, _, hx => by
    have hx : x ≠ 0 := by simpa using hx
    cases p <;> simp only [tot] <;> omega
  | x :: l, p, k + 1, h, hx => by
    have h1 : k < l.length := by simpa using h
    have h2 : l[k]! ≠ 0 := by simpa using hx
    cases p
    · have := tot_pos l true k h1 h2
      simp only [tot]; omega
    · have := tot_pos l false k h1 h2
      simp only [tot]; omega

/-- What goes beyond sixteen bits is added below. -/
def fd (n : Nat) : Nat := if n = 0 then 0 else (n - 1) % 65535 + 1
theorem fd_le (n : Nat) : fd n ≤ 65535 := by unfold fd; split <;> omega
theorem fd_small (n : Nat) (h : n ≤ 65535) : fd n = n := by unfold fd; split <;> omega
theorem fd_step (n : Nat) (h : 65535 < n) : fd (n / 65536 + n % 65536) = fd n := by
  unfold fd
  rw [if_neg (by omega), if_neg (by omega)]
  omega
theorem fd_two (a b : Nat) : fd (fd a + fd b) = fd (a + b) := by
  unfold fd
  repeat' split
  all_goals omega
/-- The sum of bytes. -/
def sm (l : List Nat) : Nat := 65535 - fd (tot true l)
theorem sm_le (l : List Nat) : sm l ≤ 65535 := by unfold sm; omega
theorem sm_two (a b : List Nat) (h : a.length % 2 = 0) : sm (a ++ b) = 65535 - fd (65535 - sm a + (65535 - sm b)) := by
  have h1 := fd_le (tot true a)
  have h2 := fd_le (tot true b)
  unfold sm
  rw [tot_even a b h, Nat.sub_sub_self h1, Nat.sub_sub_self h2, fd_two]
theorem sm_swap (a b : List Nat) (h : a.length % 2 = 0) (k : b.length % 2 = 0) : sm (a ++ b) = sm (b ++ a) := by
  unfold sm
  rw [tot_even a b h, tot_even b a k, Nat.add_comm]
theorem tot_pair (n : Nat) : tot true [n / 256, n % 256] = n := by
  simp only [tot]; omega
theorem sm_right (l : List Nat) (h : l.length % 2 = 0) : sm (l ++ [sm l / 256, sm l % 256]) = 0 := by
  unfold sm
  rw [tot_even _ _ h, tot_pair]
  generalize tot true l = t
  unfold fd
  repeat' split
  all_goals omega
theorem sm_other (l : List Nat) (o : Nat) (ho : o < 65536) (h : l.length % 2 = 0) : sm (l ++ [o / 256, o % 256]) = 0 ↔ (o % 65535 = sm l % 65535 ∧ (sm l ≠ 65535 ∨ o ≠ 0)) := by
  unfold sm
  rw [tot_even _ _ h, tot_pair]
  generalize tot true l = t
  unfold fd
  by_cases ht : t = 0
  · subst ht
    rw [if_pos rfl]
    split <;> omega
  · rw [if_neg ht, if_neg (by omega)]
    omega
/-- Two bytes of the list written anew. -/
theorem tot_put (l : List Nat) (i n : Nat) (h : i + 1 < l.length) (hi : i % 2 = 0) : tot true ((l.set i (n / 256)).set (i + 1) (n % 256)) + (256 * l[i]! + l[i + 1]!) = tot true l + n := by
  have e1 : l = l.take i ++ (l[i]! :: l[i + 1]! :: l.drop (i + 2)) := by
    have a1 : l.drop i = l[i]! :: l.drop (i + 1) := by rw [getElem!_pos l i (by omega), List.drop_eq_getElem_cons (by omega)]
    have a2 : l.drop (i + 1) = l[i + 1]! :: l.drop (i + 2) := by rw [getElem!_pos l (i + 1) h, List.drop_eq_getElem_cons h]
    rw [← a2, ← a1, List.take_append_drop]
  have hl : (l.take i).length = i := by rw [List.length_take]; omega
  generalize l[i]! = x at e1 ⊢
  generalize l[i + 1]! = y at e1 ⊢
  generalize l.take i = a at e1 hl
  generalize l.drop (i + 2) = r at e1
  subst e1
  have e2 : ((a ++ x :: y :: r).set i (n / 256)).set (i + 1) (n % 256) = a ++ (n / 256) :: (n % 256) :: r := by
    subst hl
    rw [List.set_append_right _ _ (Nat.le_refl _), Nat.sub_self, List.set_append_right _ _ (by omega), Nat.add_sub_cancel_left]
    rfl
  rw [e2, tot_app, tot_app, hl, if_pos hi]
  simp only [tot]
  omega
/-- One number changed. -/
def swz (s o n : Nat) : Nat := (65535 - s) + (65535 - o) + n
def swp (s o n : Nat) : Nat := 65535 - fd (swz s o n)
theorem swz_le (s o n : Nat) (h : n < 65536) : swz s o n ≤ 196605 := by unfold swz; omega
theorem swp_le (s o n : Nat) : swp s o n ≤ 65535 := by unfold swp; omega
theorem sm_put (b o n tb tc : Nat) (hb : b = 65535 - fd tb) (hn : n < 65536) (ho : o ≤ 65535) (ht : tc + o = tb + n) (hc : 0 < tc) : swp b o n = 65535 - fd tc := by
  unfold swp swz
  have h1 := fd_le tb
  have e : 65535 - b = fd tb := by omega
  rw [e]
  have h2 : fd (fd tb + (65535 - o) + n) = fd tc := by
    unfold fd
    by_cases h0 : tb = 0
    · rw [if_pos h0, if_neg (by omega), if_neg (by omega)]; omega
    · rw [if_neg h0, if_neg (by omega), if_neg (by omega)]; omega
  rw [h2]

/-! ### In the model's integers -/
def flp (n : Nat) : Nat := 65535 - n
theorem flp_le (n : Nat) : flp n ≤ 65535 := by unfold flp; omega
theorem flip16 (n : Nat) (h : n < 65536) : bits .xor .u16 IntKind.u16.max (n : Int) = (flp n : Int) := by
  unfold flp
  have h1 : IntKind.u16.max = ((65535 : Nat) : Int) := by decide
  rw [h1, u16_xor_nat 65535 n (by omega) h]
  have : (BitVec.allOnes 16 ^^^ BitVec.ofNat 16 n).toNat = (~~~ BitVec.ofNat 16 n).toNat := by rw [BitVec.allOnes_xor]
  rw [BitVec.toNat_xor, BitVec.toNat_not, BitVec.toNat_ofNat, BitVec.toNat_allOnes, Nat.mod_eq_of_lt (by omega)] at this
  have e : (65535 ^^^ n) = 65535 - n := by simpa using this
  rw [e]
theorem low16 (n : Nat) (h : n < 18446744073709551616) : bits .and .u64 (n : Int) 65535 = ((n % 65536 : Nat) : Int) := by
  have := u64_and_nat n 65535 h (by omega)
  rw [show ((65535 : Nat) : Int) = 65535 from rfl] at this
  rw [this, show (65535 : Nat) = 2 ^ 16 - 1 from rfl, Nat.and_two_pow_sub_one_eq_mod]
theorem or16 (x y : Nat) (hx : x < 256) (hy : y < 256) : bits .or .u16 ((x : Int) * 256) (y : Int) = ((256 * x + y : Nat) : Int) := by
  rw [show ((x : Int) * 256) = ((256 * x : Nat) : Int) by omega, u16_or_nat _ _ (by omega) (by omega)]
  have : 256 * x ||| y = 256 * x + y := by
    have := Nat.two_pow_add_eq_or_of_lt (i := 8) hy x
    simpa using this.symm
  rw [this]
end Go.Proofs.Yteeilmigedhjmaa
