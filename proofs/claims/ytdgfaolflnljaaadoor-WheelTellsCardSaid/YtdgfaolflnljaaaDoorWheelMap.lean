/-
  Which ids are due, and when, as a function (0: not at all); a map of ids to their due times: how it reads, and what its operations make of it.
-/
import Derived.Test.YtdgfaolflnljaaaDoorProg
import Derived.Maps.RangeWalk
import Derived.Maps.Ext
import Derived.WalkKit
namespace Go.Proofs.YtdgfaolflnljaaaDoor
open Go.RowKit Go.Maps

namespace WheelP
/-- One id's due time anew. -/
def upd (f : Nat → Nat) (k x : Nat) : Nat → Nat := fun i => if i = k then x else f i
theorem upd_at (f : Nat → Nat) (k x : Nat) : upd f k x k = x := if_pos rfl
theorem upd_ne (f : Nat → Nat) (k x i : Nat) (h : i ≠ k) : upd f k x i = f i := if_neg h
/-- Those of a slot. -/
def sl (f : Nat → Nat) (i : Nat) : Nat → Nat := fun k => if f k % 64 = i then f k else 0
/-- How many there are. -/
def cnt (g : Nat → Nat) : Nat := ((List.range 64).filter fun k => decide (0 < g k)).length
theorem cnt_le (g : Nat → Nat) : cnt g ≤ 64 := Nat.le_trans (List.length_filter_le _ _) (by simp)
/-- A map of them, as it reads. -/
def en (g : Nat → Nat) (k : Nat) : Lit × DataW Unit := (.int .i64 (k : Int), .lit (.int .i64 (g k : Int)))
def es (g : Nat → Nat) : List (Lit × DataW Unit) := ((List.range 64).filter fun k => decide (0 < g k)).map (en g)
def dt (g : Nat → Nat) : DataW Unit := .map (es g)
theorem mem_es (g : Nat → Nat) (p : Lit × DataW Unit) : p ∈ es g ↔ ∃ k, k < 64 ∧ 0 < g k ∧ p = en g k := by
  unfold es
  simp only [List.mem_map, List.mem_filter, List.mem_range, decide_eq_true_eq]
  constructor
  · rintro ⟨k, ⟨h1, h2⟩, rfl⟩; exact ⟨k, h1, h2, rfl⟩
  · rintro ⟨k, h1, h2, rfl⟩; exact ⟨k, ⟨h1, h2⟩, rfl⟩
theorem dt_canon (g : Nat → Nat) : Canon (dt g) := by
  refine ⟨es g, rfl, ?_, fun p hp => ?_⟩
  · unfold es
    rw [List.pairwise_map]
    refine (List.pairwise_lt_range.filter _).imp fun {a b} h => ?_
    simp only [en, Lit.before, decide_eq_true_eq]
    omega
  · obtain ⟨k, _, _, rfl⟩ := (mem_es g p).1 hp
    exact trivial
theorem has_dt (g : Nat → Nat) (kl : Lit) : Maps.has (dt g) kl = true ↔ ∃ k, k < 64 ∧ 0 < g k ∧ kl = .int .i64 (k : Int) := by
  unfold dt
  rw [has_eq, List.any_eq_true]
  constructor
  · rintro ⟨p, hp, hs⟩
    obtain ⟨k, h1, h2, rfl⟩ := (mem_es g p).1 hp
    exact ⟨k, h1, h2, (WideAt.sameKey_eq hs).symm⟩
  · rintro ⟨k, h1, h2, rfl⟩
    exact ⟨en g k, (mem_es g _).2 ⟨k, h1, h2, rfl⟩, WideAt.sameKey_self trivial⟩
theorem has_at (g : Nat → Nat) (k : Nat) (hk : k < 64) : Maps.has (dt g) (.int .i64 (k : Int)) = decide (0 < g k) := by
  by_cases h : 0 < g k
  · rw [decide_eq_true h]
    exact (has_dt g _).2 ⟨k, hk, h, rfl⟩
  · rw [decide_eq_false h]
    cases e : Maps.has (dt g) (.int .i64 (k : Int)) with
    | false => rfl
    | true =>
      obtain ⟨k', _, h2, e2⟩ := (has_dt g _).1 e
      have : (k : Int) = k' := by simpa using e2
      have : k = k' := by omega
      subst this
      exact absurd h2 h
theorem dt_at (g : Nat → Nat) (k : Nat) (hk : k < 64) (h : 0 < g k) (z : DataW Unit) : (dt g).atKey (.int .i64 (k : Int)) z = .lit (.int .i64 (g k : Int)) := by
  obtain ⟨_, e, h1, _⟩ := dt_canon g
  cases e
  exact WideAt.atKey_mem z trivial (apart_of_rising h1) ((mem_es g (en g k)).2 ⟨k, hk, h, rfl⟩)
theorem dt_congr {g g' : Nat → Nat} (h : ∀ k, k < 64 → g k = g' k) : dt g = dt g' := by
  unfold dt es
  have e : ((List.range 64).filter fun k => decide (0 < g k)) = (List.range 64).filter fun k => decide (0 < g' k) :=
    List.filter_congr fun k hk => by rw [h k (List.mem_range.1 hk)]
  rw [e]
  congr 1
  exact List.map_congr_left fun k hk => by unfold en; rw [h k (List.mem_range.1 (List.mem_filter.1 hk).1)]
theorem cnt_congr {g g' : Nat → Nat} (h : ∀ k, k < 64 → g k = g' k) : cnt g = cnt g' := by
  unfold cnt
  rw [List.filter_congr fun k hk => by rw [h k (List.mem_range.1 hk)]]
theorem size_dt (g : Nat → Nat) : Maps.size (dt g) = cnt g := by
  unfold dt es
  rw [size_eq, List.length_map]; rfl
theorem key_ne {a b : Nat} (h : a ≠ b) : (Lit.int .i64 (a : Int)) ≠ .int .i64 (b : Int) := fun e => h (by
  have : (a : Int) = b := by simpa using e
  omega)
theorem dt_put (g : Nat → Nat) (k x : Nat) (hk : k < 64) (hx : 0 < x) (hc : Canon ((dt g).put (.int .i64 (k : Int)) (.lit (.int .i64 (x : Int))))) :
    (dt g).put (.int .i64 (k : Int)) (.lit (.int .i64 (x : Int))) = dt (upd g k x) := by
  refine Maps.ext hc (dt_canon _) (fun kl => ?_) fun kl z hh => ?_
  · by_cases e : kl = .int .i64 (k : Int)
    · subst e
      rw [has_put_same (D := dt g) ⟨_, rfl⟩ (show WideAt.IsKeyLit (.int .i64 (k : Int)) from trivial), has_at _ _ hk, upd_at, decide_eq_true hx]
    · rw [has_put_other e, Bool.eq_iff_iff, has_dt, has_dt]
      constructor
      · rintro ⟨j, h1, h2, rfl⟩
        have hj : j ≠ k := fun c => e (by rw [c])
        exact ⟨j, h1, by rw [upd_ne _ _ _ _ hj]; exact h2, rfl⟩
      · rintro ⟨j, h1, h2, rfl⟩
        have hj : j ≠ k := fun c => e (by rw [c])
        rw [upd_ne _ _ _ _ hj] at h2
        exact ⟨j, h1, h2, rfl⟩
  · by_cases e : kl = .int .i64 (k : Int)
    · subst e
      rw [atKey_put_same (D := dt g) ⟨_, rfl⟩ (show WideAt.IsKeyLit (.int .i64 (k : Int)) from trivial), dt_at _ _ hk (by rw [upd_at]; exact hx), upd_at]
    · rw [has_put_other e] at hh
      rw [atKey_put_other e]
      obtain ⟨j, h1, h2, rfl⟩ := (has_dt _ _).1 hh
      have hj : j ≠ k := fun c => e (by rw [c])
      rw [dt_at _ _ h1 h2, dt_at _ _ h1 (by rw [upd_ne _ _ _ _ hj]; exact h2), upd_ne _ _ _ _ hj]
theorem dt_del (g : Nat → Nat) (k : Nat) : (dt g).del (.int .i64 (k : Int)) = dt (upd g k 0) := by
  have hc : Canon ((dt g).del (.int .i64 (k : Int))) := by
    obtain ⟨l, e, h1, h2⟩ := dt_canon g
    rw [e]
    exact ⟨_, rfl, h1.filter _, fun p hp => h2 p (List.mem_filter.1 hp).1⟩
  refine Maps.ext hc (dt_canon _) (fun kl => ?_) fun kl z hh => ?_
  · by_cases e : kl = .int .i64 (k : Int)
    · subst e
      rw [has_del_same]
      cases e2 : Maps.has (dt (upd g k 0)) (.int .i64 (k : Int)) with
      | false => rfl
      | true =>
        obtain ⟨j, h1, h2, e3⟩ := (has_dt _ _).1 e2
        have : (k : Int) = j := by simpa using e3
        have : j = k := by omega
        subst this
        rw [upd_at] at h2
        omega
    · rw [has_del_other e, Bool.eq_iff_iff, has_dt, has_dt]
      constructor
      · rintro ⟨j, h1, h2, rfl⟩
        have hj : j ≠ k := fun c => e (by rw [c])
        exact ⟨j, h1, by rw [upd_ne _ _ _ _ hj]; exact h2, rfl⟩
      · rintro ⟨j, h1, h2, rfl⟩
        have hj : j ≠ k := fun c => e (by rw [c])
        rw [upd_ne _ _ _ _ hj] at h2
        exact ⟨j, h1, h2, rfl⟩
  · by_cases e : kl = .int .i64 (k : Int)
    · subst e
      rw [has_del_same] at hh
      cases hh
    · rw [has_del_other e] at hh
      rw [atKey_del_other e]
      obtain ⟨j, h1, h2, rfl⟩ := (has_dt _ _).1 hh
      have hj : j ≠ k := fun c => e (by rw [c])
      rw [dt_at _ _ h1 h2, dt_at _ _ h1 (by rw [upd_ne _ _ _ _ hj]; exact h2), upd_ne _ _ _ _ hj]
theorem dt_none (g : Nat → Nat) (h : ∀ k, k < 64 → g k = 0) : dt g = .map [] := by
  rw [dt_congr (g' := fun _ => 0) h]
  unfold dt es
  congr 1
/-- What a slot has behind one put, or one struck. -/
theorem sl_upd_same (f : Nat → Nat) (k x i : Nat) (h : x % 64 = i) : sl (upd f k x) i = upd (sl f i) k x := by
  funext j
  unfold sl upd
  by_cases e : j = k
  · rw [if_pos e, if_pos e, if_pos h]
  · rw [if_neg e, if_neg e]
theorem sl_upd_other (f : Nat → Nat) (k x i : Nat) (h : x % 64 ≠ i) (h0 : sl f i k = 0) : sl (upd f k x) i = sl f i := by
  funext j
  by_cases e : j = k
  · subst e
    rw [h0]
    unfold sl
    rw [upd_at, if_neg h]
  · unfold sl
    rw [upd_ne _ _ _ _ e]
theorem sl_strike (f : Nat → Nat) (k i : Nat) : sl (upd f k 0) i = upd (sl f i) k 0 := by
  funext j
  by_cases e : j = k
  · subst e
    unfold sl
    rw [upd_at, upd_at]
    split <;> rfl
  · unfold sl
    rw [upd_ne _ _ _ _ e, upd_ne _ _ _ _ e]
theorem upd_zero (g : Nat → Nat) (k : Nat) (h : g k = 0) : upd g k 0 = g := by
  funext j
  by_cases e : j = k
  · rw [e, upd_at, h]
  · rw [upd_ne _ _ _ _ e]
end WheelP

open WheelP
theorem int_law : Keyed Tryd.prog 3 := int_keyed Tryd.underlying3
theorem zero_int (w : World) : (zeroValue 3).run Tryd.prog w = .ok (.int .i64 0) w := by kernel_rfl
theorem wf_nat (n : Nat) (h : n ≤ 1099511627776) : (Lit.int .i64 (n : Int)).wf = true := WalkArith.wf_i64 (by omega)
theorem key_nat (k : Nat) (h : k ≤ 1099511627776) : keyOf Tryd.prog 3 (.int .i64 (k : Int)) = some (.int .i64 (k : Int)) := keyOf_int_mk Tryd.underlying3 (wf_nat k h)
/-- Block b is a map that holds the ids of g. -/
def MapAt (w : World) (b : Nat) (g : Nat → Nat) : Prop := World.ownsMap (H := Unit) w Tryd.prog 3 (plainElem Tryd.prog 3) b 64 (dt g)
theorem owns_tight {w : World} {b n : Nat} {D : DataW Unit} (h : w.ownsMap Tryd.prog 3 (plainElem Tryd.prog 3) b n D) : w.ownsMap Tryd.prog 3 (plainElem Tryd.prog 3) b (Maps.size D) D := by
  obtain ⟨l, clock, hb, F, _, rfl⟩ := h
  exact ⟨l, clock, hb, F, by simp [Maps.size, length_sorted], rfl⟩
theorem owns_64 {w : World} {b n : Nat} {g : Nat → Nat} (h : w.ownsMap Tryd.prog 3 (plainElem Tryd.prog 3) b n (dt g)) : MapAt w b g :=
  (owns_tight h).mono (by rw [size_dt]; exact cnt_le g)
theorem MapAt.lt {w : World} {b : Nat} {g : Nat → Nat} (h : MapAt w b g) : b < w.heap.size := World.ownsMap.lt h
theorem MapAt.congr {w : World} {b : Nat} {g g' : Nat → Nat} (h : MapAt w b g) (e : ∀ k, k < 64 → g k = g' k) : MapAt w b g' := by
  unfold MapAt at h ⊢
  rwa [← dt_congr e]
theorem MapAt.frame {w w1 : World} {b : Nat} {g : Nat → Nat} (h : MapAt w b g) (hb : w1.heap[b]? = w.heap[b]?) : MapAt w1 b g := by
  obtain ⟨l, clock, h1, h2⟩ := h
  exact ⟨l, clock, hb.trans h1, h2⟩
theorem MapAt.made (w : World) (g : Nat → Nat) (h : ∀ k, k < 64 → g k = 0) : MapAt (w.alloc (.map #[] 0)) w.heap.size g := by
  unfold MapAt
  rw [dt_none g h]
  exact (World.ownsMap_made w _ _ _).mono (Nat.zero_le _)
theorem owns_put {w : World} {b n : Nat} {g : Nat → Nat} {k x : Nat} (h : w.ownsMap Tryd.prog 3 (plainElem Tryd.prog 3) b n ((dt g).put (.int .i64 (k : Int)) (.lit (.int .i64 (x : Int))))) (hk : k < 64) (hx : 0 < x) : MapAt w b (upd g k x) := by
  have hc := h.canon int_law
  rw [dt_put g k x hk hx hc] at h
  exact owns_64 h
theorem owns_del {w : World} {b n : Nat} {g : Nat → Nat} {k : Nat} (h : w.ownsMap Tryd.prog 3 (plainElem Tryd.prog 3) b n ((dt g).del (.int .i64 (k : Int)))) : MapAt w b (upd g k 0) := by
  rw [dt_del g k] at h
  exact owns_64 h
end Go.Proofs.YtdgfaolflnljaaaDoor
