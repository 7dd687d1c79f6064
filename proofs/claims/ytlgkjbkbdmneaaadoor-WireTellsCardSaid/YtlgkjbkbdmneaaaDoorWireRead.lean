/-
  PLAIN FACTS on bytes that are read back (of no program): bytes made up to a whole number of entries, entries read one by one.
-/
import Derived.Test.YtlgkjbkbdmneaaaDoorWirePlain
namespace Go.Proofs.YtlgkjbkbdmneaaaDoor

instance (b : List Nat) : Decidable (Done b) := by unfold Done; exact inferInstance
/-- Bytes f are b, with the byte that goes on as often as their head or their last entry lacks. -/
structure Fill (b f : List Nat) : Prop where
  le : b <+: f
  few : f.length ≤ 504
  pre : Pre b → Pre f
  more : f = b ∨ ¬ Done b
  byt : Byt b → Byt f
theorem Fill.refl (b : List Nat) (h : b.length ≤ 504) : Fill b b := ⟨List.prefix_refl _, h, id, Or.inl rfl, id⟩
theorem nxt_lt (b : List Nat) : nxt b < 256 := by
  unfold nxt
  split
  · rename_i h
    generalize b.length = k at h
    match k, h with
    | 0, _ => decide
    | 1, _ => decide
    | 2, _ => decide
    | 3, _ => decide
  · exact Byt.nxtE _ _
theorem Fill.step {b f : List Nat} (h : Fill b f) (hd : ¬ Done f) : Fill b (f ++ [nxt f]) := by
  refine ⟨h.le.trans (List.prefix_append _ _), ?_, fun hp => (h.pre hp).step hd, Or.inr ?_, fun hb => (h.byt hb).app ?_⟩
  · have := h.few
    rw [List.length_append, List.length_singleton]
    have : f.length ≠ 504 := fun e => hd (by unfold Done; omega)
    omega
  · rcases h.more with rfl | h1
    · exact hd
    · exact h1
  · intro x hx
    rw [List.mem_singleton.1 hx]
    exact nxt_lt f
theorem Pre.few {b : List Nat} (h : Pre b) : b.length ≤ 504 := by
  obtain ⟨ask, l, g, h⟩ := h
  have h1 := h.length_le
  rw [enc_len] at h1
  have := g.few
  omega
/-- What bytes are is told by what they are made up to. -/
theorem Fill.dec {b f : List Nat} (h : Fill b f) (hd : Done f) : (¬ IsEnc f → ¬ Pre b) ∧ (∀ ask l, GoodM l → f = enc ask l → f.length = b.length → b = enc ask l) ∧ (IsEnc f → b.length < f.length → Pre b ∧ ¬ IsEnc b) := by
  refine ⟨fun hn hp => hn ((h.pre hp).done hd), fun ask l g e hl => ?_, fun he hlt => ⟨?_, fun hb => ?_⟩⟩
  · have := h.le.eq_of_length hl.symm
    rw [this, e]
  · obtain ⟨s, hs⟩ := h.le
    rw [← hs] at he
    exact he.pre.back
  · rcases h.more with rfl | h1
    · omega
    · exact h1 hb.done

/-- The bytes of an entry's place. -/
def chunk (f : List Nat) (k : Nat) : List Nat := (f.drop (4 + 20 * k)).take 20
theorem chunk_len (f : List Nat) (k : Nat) (h : 4 + 20 * k + 20 ≤ f.length) : (chunk f k).length = 20 := by
  unfold chunk; rw [List.length_take, List.length_drop]; omega
theorem Byt.sub {l : List Nat} (h : Byt l) (i n : Nat) : Byt ((l.drop i).take n) := fun x hx => h x (List.mem_of_mem_drop (List.mem_of_mem_take hx))
theorem Byt.take {l : List Nat} (h : Byt l) (n : Nat) : Byt (l.take n) := fun x hx => h x (List.mem_of_mem_take hx)
theorem num_lt : ∀ (c : List Nat), Byt c → num c < 256 ^ c.length := by
  have key : ∀ (c : List Nat) (a k : Nat), a < 256 ^ k → Byt c → c.foldl (fun n x => n * 256 + x) a < 256 ^ (k + c.length) := by
    intro c
    induction c with
    | nil => intro a k h _; simpa using h
    | cons x r ih =>
      intro a k h hb
      have hx : x < 256 := hb x (by simp)
      rw [List.foldl_cons, List.length_cons, show k + (r.length + 1) = (k + 1) + r.length by omega]
      refine ih _ _ ?_ (fun y hy => hb y (by simp [hy]))
      rw [Nat.pow_succ]
      omega
  intro c hb
  have := key c 0 0 (by decide) hb
  rw [Nat.zero_add] at this
  exact this
theorem num_lt4 (c : List Nat) (hb : Byt c) (h : c.length ≤ 4) : num c < 4294967296 :=
  Nat.lt_of_lt_of_le (num_lt c hb) (Nat.le_trans (Nat.pow_le_pow_right (by decide) h) (by decide))
theorem num_snoc (c : List Nat) (x : Nat) : num (c ++ [x]) = num c * 256 + x := by
  unfold num; rw [List.foldl_append]; rfl
theorem rdE_fits {c : List Nat} {e : En} (hb : Byt c) (h : rdE c = some e) : e.Fits := by
  unfold rdE at h
  cases hm : MaskP.len (num ((c.drop 8).take 4)) with
  | none => rw [hm] at h; simp at h
  | some n =>
    rw [hm] at h
    have h := Option.some.inj h
    subst h
    exact ⟨num_lt4 _ (hb.sub _ _) (by rw [List.length_take]; omega), num_lt4 _ (hb.sub _ _) (by rw [List.length_take]; omega)⟩
/-- Entries es were read of the first places. -/
structure Rd (f : List Nat) (es : List En) : Prop where
  le : 4 + 20 * es.length ≤ f.length
  all : ∀ i, i < es.length → rdE (chunk f i) = some es[i]!
theorem Rd.nil {f : List Nat} (h : Done f) : Rd f [] := ⟨by have := h.1; simpa using this, fun i hi => by simp at hi⟩
theorem Rd.snoc {f : List Nat} {es : List En} {e : En} (h : Rd f es) (hl : 4 + 20 * es.length + 20 ≤ f.length) (he : rdE (chunk f es.length) = some e) : Rd f (es ++ [e]) := by
  refine ⟨by rw [List.length_append, List.length_singleton]; omega, fun i hi => ?_⟩
  rw [List.length_append, List.length_singleton] at hi
  by_cases hi2 : i < es.length
  · rw [h.all i hi2, getElem!_pos es i hi2, getElem!_pos (es ++ [e]) i (by simp; omega), List.getElem_append_left hi2]
  · have : i = es.length := by omega
    subst this
    rw [he, getElem!_pos (es ++ [e]) _ (by simp), List.getElem_append_right (by omega)]
    simp
theorem Rd.fits {f : List Nat} {es : List En} (h : Rd f es) (hb : Byt f) : ∀ e ∈ es, e.Fits := by
  intro e he
  obtain ⟨i, hi, rfl⟩ := List.mem_iff_getElem.1 he
  have := h.all i hi
  rw [getElem!_pos es i hi] at this
  exact rdE_fits (hb.sub _ _) this
/-- A place that cannot be read: no message's bytes. -/
theorem rd_none {f : List Nat} {k : Nat} (hl : 4 + 20 * k + 20 ≤ f.length) (h : rdE (chunk f k) = none) : ¬ IsEnc f := by
  rintro ⟨ask, l, g, rfl⟩
  rw [enc_len] at hl
  have hk : k < l.length := by omega
  unfold chunk at h
  rw [enc_drop ask l k hk, rd_enc _ (g.all _ (by rw [getElem!_pos l k hk]; exact List.getElem_mem hk))] at h
  cases h
/-- Whoever read all of a message's bytes has its entries. -/
theorem Rd.whole {f : List Nat} {es l : List En} {ask : Bool} (h : Rd f es) (hw : f.length = 4 + 20 * es.length) (g : GoodM l) (e : f = enc ask l) : es = l ∧ ask = decide (f[0]! = 1) := by
  subst e
  rw [enc_len] at hw
  refine ⟨List.ext_getElem (by omega) fun i h1 h2 => ?_, ?_⟩
  · have h3 := h.all i h1
    unfold chunk at h3
    rw [enc_drop ask l i h2, getElem!_pos es i h1, getElem!_pos l i h2, rd_enc _ (g.all _ (List.getElem_mem h2))] at h3
    exact (Option.some.inj h3).symm
  · cases ask <;> simp [enc, hd]
theorem Byt.encL : ∀ {l : List En}, (∀ e ∈ l, e.Good) → Byt (encL l)
  | [], _ => fun x hx => by simp [Proofs.YtlgkjbkbdmneaaaDoor.encL] at hx
  | e :: r, h => by
    rw [Proofs.YtlgkjbkbdmneaaaDoor.encL]
    exact (Byt.encE (h e (by simp))).app (Byt.encL fun x hx => h x (by simp [hx]))
theorem Byt.enc {l : List En} (g : GoodM l) (ask : Bool) : Byt (enc ask l) := by
  refine Byt.app ?_ (Byt.encL g.all)
  intro x hx
  cases ask <;> simp [hd] at hx <;> omega
/-- What reading back tells: k 0: bytes of a message; 3: of none. -/
def RdIs (f : List Nat) (ask : Bool) (l : List En) (k : Int) : Prop := (k = 0 ∧ GoodM l ∧ f = enc ask l) ∨ (k = 3 ∧ ask = false ∧ l = [] ∧ ¬ IsEnc f)
theorem Rd.bad {f : List Nat} {es : List En} (h : Rd f es) (hw : f.length = 4 + 20 * es.length) (hc : WireP.chkM es ≠ 0) : ¬ IsEnc f := by
  rintro ⟨ask, l, g, e⟩
  obtain ⟨rfl, _⟩ := h.whole hw g e
  exact hc ((GoodM.iff _ g.fits).2 g)
theorem Rd.other {f : List Nat} {es : List En} (h : Rd f es) (hw : f.length = 4 + 20 * es.length) (hne : enc (decide (f[0]! = 1)) es ≠ f) : ¬ IsEnc f := by
  rintro ⟨ask, l, g, e⟩
  obtain ⟨rfl, ha⟩ := h.whole hw g e
  rw [← ha] at hne
  exact hne e.symm
/-- And what bytes are, by what they are made up to. -/
theorem Fill.told {b f : List Nat} {ask : Bool} {l : List En} {k : Int} (h : Fill b f) (hd : Done f) (r : RdIs f ask l k) :
    (k = 3 → DecIs b false [] 3) ∧ (k = 0 → b.length < f.length → DecIs b false [] 6) ∧ (k = 0 → ¬ b.length < f.length → DecIs b ask l 0) := by
  obtain ⟨h1, h2, h3⟩ := h.dec hd
  rcases r with ⟨rfl, g, e⟩ | ⟨rfl, _, _, hn⟩
  · refine ⟨fun h => by simp at h, fun _ hlt => ?_, fun _ hlt => ?_⟩
    · exact Or.inr (Or.inl ⟨rfl, rfl, rfl, h3 ⟨ask, l, g, e⟩ hlt⟩)
    · refine Or.inl ⟨rfl, g, h2 ask l g e ?_⟩
      have := h.le.length_le
      omega
  · exact ⟨fun _ => Or.inr (Or.inr ⟨rfl, rfl, rfl, h1 hn⟩), fun h => by simp at h, fun h => by simp at h⟩
theorem dec_long {b : List Nat} (h : 504 < b.length) : DecIs b false [] 3 := Or.inr (Or.inr ⟨rfl, rfl, rfl, fun hp => by have := hp.few; omega⟩)
end Go.Proofs.YtlgkjbkbdmneaaaDoor
