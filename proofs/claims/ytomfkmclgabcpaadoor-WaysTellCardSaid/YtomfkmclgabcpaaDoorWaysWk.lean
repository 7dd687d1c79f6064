/-
  PLAIN FACTS on ways: what a list of nodes is as a way, and how long.
-/
import Derived.Test.YtomfkmclgabcpaaDoorWaysPlain
import Derived.Test.YtomfkmclgabcpaaDoorWayLen
namespace Go.Proofs.YtomfkmclgabcpaaDoor
open Go.RowKit
open WaysP (Wk zs)

theorem lenTo_wk {n : Nat} {l : List Lk} (hr : Right n l) : ∀ (r : List Int) (s z : Int) (x : Nat), x < n → 0 ≤ s → s + 16 * r.length < 4611686018427387904 → lenTo n l s x r = some z →
    ∃ p b d, (x : Int) :: r = zs p ∧ Wk n (BellP.ct l) x p b d ∧ z = s + (d : Nat)
  | [], s, z, x, hx, _, _, h => by
    have h : some s = some z := h
    exact ⟨[x], x, 0, rfl, Wk.one x hx, by have := Option.some.inj h; omega⟩
  | y :: r, s, z, x, hx, hs, hb, h => by
    rw [lenTo] at h
    split at h
    · cases h
    · rename_i hn
      obtain ⟨k, rfl⟩ : ∃ k : Nat, y = k := ⟨y.toNat, by omega⟩
      have hc := BellP.ct_int hr x k
      have hbd := (BellP.ct_cost hr).bd x k
      have hdg := (BellP.ct_cost hr).dg x
      rw [← hc] at h hn
      simp only [List.length_cons] at hb
      have hw : wrap64 (s + (BellP.ct l x k : Int)) = s + (BellP.ct l x k : Int) := by unfold wrap64; omega
      rw [hw] at h
      obtain ⟨p, b, d, h1, h2, h3⟩ := lenTo_wk hr r _ z k (by omega) (by omega) (by omega) h
      refine ⟨x :: p, b, _, by rw [h1]; rfl, Wk.more x k p b d hx (fun e => ?_) (by omega) h2, by omega⟩
      subst e
      omega
/-- A list that has a length is a way, so long. -/
theorem length_wk {n : Nat} {l : List Lk} (hr : Right n l) (ws : List Int) (z : Int) (hw : ws.length * 8 ≤ 140737488355328) (h : lengthG n l ws = some z) : ∃ a p b d, ws = zs p ∧ Wk n (BellP.ct l) a p b d ∧ z = (d : Nat) := by
  cases ws with
  | nil => cases h
  | cons x r =>
    rw [lengthG] at h
    split at h
    · cases h
    · rename_i hn
      obtain ⟨a, rfl⟩ : ∃ a : Nat, x = a := ⟨x.toNat, by omega⟩
      simp only [List.length_cons] at hw
      obtain ⟨p, b, d, h1, h2, h3⟩ := lenTo_wk hr r 0 z a (by omega) (by omega) (by omega) h
      exact ⟨a, p, b, d, h1, h2, by omega⟩
theorem wk_lenTo {n : Nat} {l : List Lk} (hr : Right n l) {a b d : Nat} {p : List Nat} (h : Wk n (BellP.ct l) a p b d) : ∀ s : Int, 0 ≤ s → s + 16 * p.length < 4611686018427387904 → lenTo n l s a (zs (p.drop 1)) = some (s + (d : Nat)) := by
  induction h with
  | one a ha => intro s _ _; show some s = some (s + (0 : Nat)); simp
  | more a k p b d ha hk hc h ih =>
    intro s hs hb
    obtain ⟨r, rfl⟩ := h.head
    have h1 := BellP.ct_int hr a k
    have h2 := (BellP.ct_cost hr).off a k (Ne.symm hk)
    have h3 := h.lt
    simp only [List.length_cons] at hb
    have hw : wrap64 (s + (BellP.ct l a k : Int)) = s + (BellP.ct l a k : Int) := by unfold wrap64; omega
    show (if (k : Int) < 0 ∨ (n : Int) ≤ k ∨ costG l a k = 0 ∨ costG l a k = 16 then none else lenTo n l (wrap64 (s + costG l a k)) k (zs r)) = _
    rw [← h1, if_neg (by omega), hw]
    have := ih (s + (BellP.ct l a k : Int)) (by omega) (by simp only [List.length_cons]; omega)
    rw [show lenTo n l (s + (BellP.ct l a k : Int)) k (zs r) = some (s + (BellP.ct l a k : Int) + (d : Nat)) from this]
    congr 1
    omega
/-- A way is so long. -/
theorem wk_length {n : Nat} {l : List Lk} (hr : Right n l) {a b d : Nat} {p : List Nat} (h : Wk n (BellP.ct l) a p b d) (hp : p.length * 8 ≤ 281474976710656) : lengthG n l (zs p) = some (d : Int) := by
  have h1 := wk_lenTo hr h 0 (Int.le_refl 0) (by omega)
  have h2 := h.lt
  obtain ⟨r, rfl⟩ := h.head
  show (if (a : Int) < 0 ∨ (n : Int) ≤ a then none else lenTo n l 0 a (zs r)) = _
  rw [if_neg (by omega)]
  have h3 : lenTo n l 0 a (zs r) = some ((0 : Int) + (d : Int)) := h1
  rw [h3, Int.zero_add]
end Go.Proofs.YtomfkmclgabcpaaDoor
