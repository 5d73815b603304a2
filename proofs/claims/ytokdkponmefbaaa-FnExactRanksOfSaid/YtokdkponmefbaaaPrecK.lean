/- Precedences: the ranks of the kinds. Plain mathematics. -/
import Derived.Test.YtokdkponmefbaaaPrecO
namespace Go.Proofs.Ytokdkponmefbaaa.PrecK
open Go.RowKit PrecM PrecO
set_option linter.unusedVariables false
/-- how many kinds yield to a kind -/
noncomputable def cnt (k : Nat) (z : List M) (n : Int) : Nat := ((kinds k).filter (fun c => yieldsB z c n)).length
theorem cnt_lt {k : Nat} {z : List M} (hz : In k z) (hs : ∀ c : Int, ¬ TC z c c) {x : M} (hx : x ∈ z) : cnt k z x.a < cnt k z x.b := by
  refine PrecO.filter_lt (p := fun c => yieldsB z c x.a) (q := fun c => yieldsB z c x.b) (xs := kinds k) (fun c hc => ?_) ⟨x.a, mem_kinds.2 (hz x hx).1, ?_, ?_⟩
  · rw [yields_iff] at hc ⊢; exact .tail hc hx
  · rw [yields_iff]; exact .one hx
  · cases h : yieldsB z x.a x.a with
    | false => rfl
    | true => exact absurd (yields_iff.1 h) (hs _)
theorem cnt_le (k : Nat) (z : List M) (n : Int) : cnt k z n ≤ k := by
  have h := List.length_filter_le (fun c => yieldsB z c n) (kinds k)
  unfold cnt
  have e : (kinds k).length = k := by unfold kinds; simp
  omega
/-- the greatest of what the pairs into n give -/
def top (f : Int → Int) (n : Int) : List M → Int
  | [] => 0
  | x :: z => if x.b = n then max (f x.a + 1) (top f n z) else top f n z
theorem top_nonneg (f : Int → Int) (n : Int) : ∀ z, 0 ≤ top f n z
  | [] => Int.le_refl _
  | x :: z => by
    have := top_nonneg f n z
    unfold top
    split <;> omega
theorem top_ge (f : Int → Int) (n : Int) : ∀ {z : List M} {x : M}, x ∈ z → x.b = n → f x.a + 1 ≤ top f n z
  | y :: z, x, hx, hb => by
    unfold top
    rcases List.mem_cons.1 hx with rfl | hx
    · rw [if_pos hb]; omega
    · have := top_ge f n hx hb
      split <;> omega
theorem top_is (f : Int → Int) (n : Int) : ∀ z : List M, top f n z = 0 ∨ ∃ x ∈ z, x.b = n ∧ top f n z = f x.a + 1
  | [] => .inl rfl
  | y :: z => by
    unfold top
    split
    · rename_i hb
      rcases Int.le_total (top f n z) (f y.a + 1) with h | h
      · exact .inr ⟨y, by simp, hb, by omega⟩
      · rcases top_is f n z with h' | ⟨x, hx, h1, h2⟩
        · exact .inl (by omega)
        · exact .inr ⟨x, by simp [hx], h1, by omega⟩
    · rcases top_is f n z with h' | ⟨x, hx, h1, h2⟩
      · exact .inl h'
      · exact .inr ⟨x, by simp [hx], h1, h2⟩
theorem top_congr {f g : Int → Int} {n : Int} : ∀ {z : List M}, (∀ x ∈ z, x.b = n → f x.a = g x.a) → top f n z = top g n z
  | [], _ => rfl
  | y :: z, h => by
    unfold top
    have ih := top_congr (z := z) (fun x hx => h x (by simp [hx]))
    by_cases hb : y.b = n
    · rw [if_pos hb, if_pos hb, h y (by simp) hb, ih]
    · rw [if_neg hb, if_neg hb, ih]
def lay (z : List M) : Nat → Int → Int
  | 0, _ => 0
  | s + 1, n => top (lay z s) n z
theorem lay_same {k : Nat} {z : List M} (hz : In k z) (hs : ∀ c : Int, ¬ TC z c c) : ∀ (q : Nat) (n : Int), cnt k z n ≤ q → ∀ s t : Nat, q ≤ s → q ≤ t → lay z (s + 1) n = lay z (t + 1) n
  | q, n, hq, s, t, h1, h2 => by
    show top (lay z s) n z = top (lay z t) n z
    refine top_congr fun x hx hb => ?_
    have hc := cnt_lt hz hs hx
    rw [hb] at hc
    match q, s, t, h1, h2 with
    | 0, _, _, _, _ => omega
    | q + 1, s + 1, t + 1, h1, h2 => exact lay_same hz hs q x.a (by omega) s t (by omega) (by omega)
/-- the ranks -/
def rk (k : Nat) (z : List M) (n : Int) : Int := lay z (k + 1) n
section
variable {k : Nat} {z : List M}
theorem rk_eq (hz : In k z) (hs : ∀ c : Int, ¬ TC z c c) (n : Int) : rk k z n = top (rk k z) n z := by
  unfold rk
  rw [lay_same hz hs k n (cnt_le k z n) k (k + 1) (Nat.le_refl _) (by omega)]
  rfl
theorem rk_nonneg (n : Int) : 0 ≤ rk k z n := top_nonneg _ _ _
theorem rk_ge (hz : In k z) (hs : ∀ c : Int, ¬ TC z c c) {x : M} (hx : x ∈ z) : rk k z x.a + 1 ≤ rk k z x.b := by
  rw [rk_eq hz hs x.b]; exact top_ge _ _ hx rfl
theorem rk_is (hz : In k z) (hs : ∀ c : Int, ¬ TC z c c) (n : Int) : rk k z n = 0 ∨ ∃ x ∈ z, x.b = n ∧ rk k z n = rk k z x.a + 1 := by
  rw [rk_eq hz hs n]; exact top_is _ _ _
theorem rk_cnt (hz : In k z) (hs : ∀ c : Int, ¬ TC z c c) : ∀ (q : Nat) (n : Int), cnt k z n ≤ q → rk k z n ≤ q
  | q, n, hq => by
    rcases rk_is hz hs n with h | ⟨x, hx, hb, h⟩
    · omega
    · have hc := cnt_lt hz hs hx
      rw [hb] at hc
      match q with
      | 0 => omega
      | q + 1 => have := rk_cnt hz hs q x.a (by omega); omega
theorem rk_le (hz : In k z) (hs : ∀ c : Int, ¬ TC z c c) (n : Int) : rk k z n ≤ k := rk_cnt hz hs k n (cnt_le k z n)
end
/-- the table of ranks on its way -/
def ranks (k : Nat) (z : List M) : List Int := (List.range k).map (fun n : Nat => rk k z (n : Int))
def Get (r : List Int) (n v : Int) : Prop := r[n.toNat]? = some v
/-- no entry is too great -/
structure Low (k : Nat) (z : List M) (r : List Int) : Prop where
  len : r.length = k
  low : ∀ (n : Nat) (v : Int), r[n]? = some v → 0 ≤ v ∧ v ≤ rk k z (n : Int)
theorem low_zero {k : Nat} {z : List M} : Low k z (List.replicate k 0) := ⟨by simp, fun n v h => by
  rw [List.getElem?_replicate] at h
  split at h
  · rw [← Option.some.inj h]; exact ⟨Int.le_refl _, rk_nonneg _⟩
  · cases h⟩
/-- an entry is raised -/
theorem Low.put {k : Nat} {z : List M} {r : List Int} {a b : Nat} {va vb : Int} (h : Low k z r) (hz : In k z) (hs : ∀ c : Int, ¬ TC z c c) (hx : (⟨(a : Int), (b : Int)⟩ : M) ∈ z) (ha : r[a]? = some va) (hb : r[b]? = some vb) : Low k z (r.set b (max vb (va + 1))) := by
  refine ⟨by rw [List.length_set]; exact h.len, fun n v hv => ?_⟩
  by_cases hn : b = n
  · subst hn
    rw [List.getElem?_set_self (List.getElem?_eq_some_iff.1 hb).1] at hv
    have h1 := h.low a va ha
    have h2 := h.low b vb hb
    have h3 := rk_ge hz hs hx
    simp only at h3
    rw [← Option.some.inj hv]
    omega
  · rw [List.getElem?_set_ne hn] at hv
    exact h.low n v hv
/-- entry n is at least v -/
def Hi (r : List Int) (n v : Int) : Prop := ∃ u, r[n.toNat]? = some u ∧ v ≤ u
theorem hi_put {r : List Int} {b : Nat} {va vb n v : Int} (hb : r[b]? = some vb) (h : Hi r n v) : Hi (r.set b (max vb (va + 1))) n v := by
  obtain ⟨u, hu, hv⟩ := h
  by_cases hn : b = n.toNat
  · subst hn
    rw [hb] at hu
    have := Option.some.inj hu
    exact ⟨_, List.getElem?_set_self (List.getElem?_eq_some_iff.1 hb).1, by omega⟩
  · exact ⟨u, by rw [List.getElem?_set_ne hn]; exact hu, hv⟩
theorem hi_new {r : List Int} {b : Nat} {va vb : Int} (hb : r[b]? = some vb) : Hi (r.set b (max vb (va + 1))) (b : Int) (va + 1) :=
  ⟨_, by rw [show ((b : Int)).toNat = b by omega]; exact List.getElem?_set_self (List.getElem?_eq_some_iff.1 hb).1, by omega⟩
theorem low_full {k : Nat} {z : List M} {r : List Int} (h : Low k z r) (hh : ∀ n : Nat, n < k → Hi r n (rk k z n)) : r = ranks k z := by
  apply List.ext_getElem?
  intro n
  unfold ranks
  by_cases hn : n < k
  · obtain ⟨u, hu, hv⟩ := hh n hn
    rw [show ((n : Int)).toNat = n by omega] at hu
    have := (h.low n u hu).2
    rw [hu, List.getElem?_map, List.getElem?_range hn, Option.map_some]
    congr 1
    omega
  · rw [List.getElem?_eq_none (by rw [h.len]; omega), List.getElem?_eq_none (by simp; omega)]
theorem hi_of {k : Nat} {z : List M} {r : List Int} (h : Low k z r) {n : Int} (h0 : 0 ≤ n) (hn : n < k) : Hi r n 0 := by
  have hl : n.toNat < r.length := by rw [h.len]; omega
  exact ⟨r[n.toNat], List.getElem?_eq_getElem hl, (h.low n.toNat _ (List.getElem?_eq_getElem hl)).1⟩
/-- the model: s rounds are through, and j pairs of the next one -/
structure Rnd (k : Nat) (z : List M) (s j : Nat) (r : List Int) : Prop where
  low : Low k z r
  old : ∀ n : Nat, n < k → rk k z n ≤ s → Hi r n (rk k z n)
  new : ∀ (t : Nat) (x : M), t < j → z[t]? = some x → rk k z x.a ≤ s → Hi r x.b (rk k z x.a + 1)
theorem rnd_zero {k : Nat} {z : List M} : Rnd k z 0 0 (List.replicate k 0) :=
  ⟨low_zero, fun n hn h => by
    have h0 := rk_nonneg (k := k) (z := z) (n : Int)
    have := hi_of (low_zero (k := k) (z := z)) (n := (n : Int)) (by omega) (by omega)
    rwa [show rk k z (n : Int) = 0 by omega], fun t x ht => by omega⟩
theorem Rnd.put {k : Nat} {z : List M} {s j a b : Nat} {r : List Int} {va vb : Int} (h : Rnd k z s j r) (hz : In k z) (hs : ∀ c : Int, ¬ TC z c c) (hX : z[j]? = some ⟨(a : Int), (b : Int)⟩) (ha : r[a]? = some va) (hb : r[b]? = some vb) : Rnd k z s (j + 1) (r.set b (max vb (va + 1))) := by
  have hm := List.mem_of_getElem? hX
  refine ⟨h.low.put hz hs hm ha hb, fun n hn hr => hi_put hb (h.old n hn hr), fun t x ht hx hr => ?_⟩
  rcases Nat.lt_or_ge t j with h' | h'
  · exact hi_put hb (h.new t x h' hx hr)
  · obtain rfl : t = j := by omega
    rw [hX] at hx
    obtain rfl := Option.some.inj hx
    simp only at hr ⊢
    have hak : a < k := by have := (hz _ hm).1; simp only at this; omega
    obtain ⟨u, hu, hv⟩ := h.old a hak hr
    rw [show ((a : Int)).toNat = a by omega, ha] at hu
    have hu := Option.some.inj hu
    obtain ⟨u2, h1, h2⟩ := hi_new (va := va) hb
    exact ⟨u2, h1, by omega⟩
theorem Rnd.step {k : Nat} {z : List M} {s j : Nat} {r : List Int} (h : Rnd k z s j r) (hz : In k z) (hs : ∀ c : Int, ¬ TC z c c) (hj : z.length ≤ j) : Rnd k z (s + 1) 0 r :=
  ⟨h.low, fun n hn hr => by
    rcases rk_is hz hs (n : Int) with h0 | ⟨x, hx, hb, he⟩
    · rw [h0]; exact hi_of h.low (by omega) (by omega)
    · obtain ⟨i, hi, rfl⟩ := List.getElem_of_mem hx
      have := h.new i _ (by omega) (List.getElem?_eq_getElem hi) (by omega)
      rw [hb] at this
      rw [he]; exact this, fun t x ht => by omega⟩
theorem Rnd.done {k : Nat} {z : List M} {s : Nat} {r : List Int} (h : Rnd k z s 0 r) (hz : In k z) (hs : ∀ c : Int, ¬ TC z c c) (hk : k ≤ s) : r = ranks k z :=
  low_full h.low fun n hn => h.old n hn (by have := rk_le hz hs (n : Int); omega)
/-- the program: the kinds of the list are through, and j pairs of kind c -/
structure Top (k : Nat) (z : List M) (ps : List Int) (c : Int) (j : Nat) (r : List Int) : Prop where
  low : Low k z r
  old : ∀ x ∈ z, x.a ∈ ps → Hi r x.b (rk k z x.a + 1)
  new : ∀ (t : Nat) (x : M), t < j → z[t]? = some x → x.a = c → Hi r x.b (rk k z x.a + 1)
theorem top_zero {k : Nat} {z : List M} {c : Int} : Top k z [] c 0 (List.replicate k 0) := ⟨low_zero, (fun x _ h => by cases h), fun t x ht => by omega⟩
theorem Top.other {k : Nat} {z : List M} {ps : List Int} {c : Int} {j : Nat} {r : List Int} {X : M} (h : Top k z ps c j r) (hX : z[j]? = some X) (hc : X.a ≠ c) : Top k z ps c (j + 1) r :=
  ⟨h.low, h.old, fun t x ht hx he => by
    rcases Nat.lt_or_ge t j with h' | h'
    · exact h.new t x h' hx he
    · obtain rfl : t = j := by omega
      rw [hX] at hx; obtain rfl := Option.some.inj hx; exact absurd he hc⟩
theorem Top.full {k : Nat} {z : List M} {ps : List Int} {c : Int} {j : Nat} {r : List Int} (h : Top k z ps c j r) (hz : In k z) (hs : ∀ c : Int, ¬ TC z c c) (hr : ∀ x ∈ z, x.b = c → x.a ∈ ps) (h0 : 0 ≤ c) (hk : c < k) : Hi r c (rk k z c) := by
  rcases rk_is hz hs c with h1 | ⟨x, hx, hb, he⟩
  · rw [h1]; exact hi_of h.low h0 hk
  · have := h.old x hx (hr x hx hb)
    rw [hb] at this
    rw [he]; exact this
theorem Top.put {k : Nat} {z : List M} {ps : List Int} {j a b : Nat} {r : List Int} {va vb : Int} (h : Top k z ps (a : Int) j r) (hz : In k z) (hs : ∀ c : Int, ¬ TC z c c) (hr : ∀ x ∈ z, x.b = (a : Int) → x.a ∈ ps) (hX : z[j]? = some ⟨(a : Int), (b : Int)⟩) (ha : r[a]? = some va) (hb : r[b]? = some vb) : Top k z ps (a : Int) (j + 1) (r.set b (max vb (va + 1))) := by
  have hm := List.mem_of_getElem? hX
  have hak : a < k := by have := (hz _ hm).1; simp only at this; omega
  refine ⟨h.low.put hz hs hm ha hb, fun x hx hp => hi_put hb (h.old x hx hp), fun t x ht hx he => ?_⟩
  rcases Nat.lt_or_ge t j with h' | h'
  · exact hi_put hb (h.new t x h' hx he)
  · obtain rfl : t = j := by omega
    rw [hX] at hx
    obtain rfl := Option.some.inj hx
    simp only
    obtain ⟨u, hu, hv⟩ := h.full hz hs hr (by omega) (by omega)
    rw [show ((a : Int)).toNat = a by omega, ha] at hu
    have hu := Option.some.inj hu
    obtain ⟨u2, h1, h2⟩ := hi_new (va := va) hb
    exact ⟨u2, h1, by omega⟩
theorem Top.step {k : Nat} {z : List M} {ps : List Int} {c d : Int} {j : Nat} {r : List Int} (h : Top k z ps c j r) (hj : z.length ≤ j) : Top k z (ps ++ [c]) d 0 r :=
  ⟨h.low, fun x hx hp => by
    rcases List.mem_append.1 hp with hp | hp
    · exact h.old x hx hp
    · obtain ⟨i, hi, rfl⟩ := List.getElem_of_mem hx
      exact h.new i _ (by omega) (List.getElem?_eq_getElem hi) (List.mem_singleton.1 hp), fun t x ht => by omega⟩
theorem Top.any {k : Nat} {z : List M} {ps : List Int} {c d : Int} {r : List Int} (h : Top k z ps c 0 r) : Top k z ps d 0 r := ⟨h.low, h.old, fun t x ht => by omega⟩
theorem Top.done {k : Nat} {z : List M} {ps : List Int} {c : Int} {r : List Int} (h : Top k z ps c 0 r) (hz : In k z) (hs : ∀ c : Int, ¬ TC z c c) (hp : ∀ n : Nat, n < k → (n : Int) ∈ ps) : r = ranks k z :=
  low_full h.low fun n hn => (h.any (d := (n : Int))).full hz hs (fun x hx hb => by have := (hz x hx).1; have := hp x.a.toNat (by omega); rwa [show ((x.a.toNat : Nat) : Int) = x.a by omega] at this) (by omega) (by omega)
/-- the order holds all that yield to what it holds, and all kinds -/
theorem ord_ready {k : Nat} {z : List M} (hz : In k z) (hs : ∀ c : Int, ¬ TC z c c) {m : Nat} (hm : m < k) : Ready z (ord z m) (nxt z (ord z m)) := (nxt_ok hz hs (by rw [ord_len]; exact hm)).2.1
theorem ord_in {k : Nat} {z : List M} (hz : In k z) (hs : ∀ c : Int, ¬ TC z c c) : ∀ {m : Nat}, m ≤ k → ∀ n ∈ ord z m, 0 ≤ n ∧ n < k
  | 0, _, n, hn => by cases hn
  | m + 1, hm, n, hn => by
    rw [ord] at hn
    rcases List.mem_append.1 hn with hn | hn
    · exact ord_in hz hs (by omega) n hn
    · rw [List.mem_singleton.1 hn]
      have := (nxt_ok hz hs (xs := ord z m) (by rw [ord_len]; omega)).1
      omega
theorem ord_nodup {k : Nat} {z : List M} (hz : In k z) (hs : ∀ c : Int, ¬ TC z c c) : ∀ {m : Nat}, m ≤ k → (ord z m).Nodup
  | 0, _ => List.nodup_nil
  | m + 1, hm => by
    rw [ord, List.nodup_append]
    refine ⟨ord_nodup hz hs (by omega), List.nodup_cons.2 ⟨List.not_mem_nil, List.nodup_nil⟩, fun a ha b hb => ?_⟩
    rw [List.mem_singleton.1 hb]
    intro e
    rw [e] at ha
    exact (ord_ready hz hs (m := m) (by omega)).1 ha
theorem ord_all {k : Nat} {z : List M} (hz : In k z) (hs : ∀ c : Int, ¬ TC z c c) {n : Nat} (hn : n < k) : (n : Int) ∈ ord z k := by
  apply Classical.byContradiction
  intro h
  have key : ∀ (us vs : List Int), us.Nodup → (∀ m ∈ us, m ∈ vs) → us.length ≤ vs.length := by
    intro us
    induction us with
    | nil => intro vs _ _; exact Nat.zero_le _
    | cons a us ih =>
      intro vs hn hs
      have ha := hs a (by simp)
      have h2 := List.nodup_cons.1 hn
      have := ih (vs.erase a) h2.2 (fun m hm => (List.mem_erase_of_ne (fun e => by rw [e] at hm; exact h2.1 hm)).2 (hs m (by simp [hm])))
      have hl := List.length_erase_of_mem ha
      have := List.length_pos_of_mem ha
      simp only [List.length_cons]; omega
  have hm : (n : Int) ∈ kinds k := mem_kinds.2 ⟨by omega, by omega⟩
  have h1 := key (ord z k) ((kinds k).erase (n : Int)) (ord_nodup hz hs (Nat.le_refl _)) (fun m hm' => (List.mem_erase_of_ne (fun e => by rw [e] at hm'; exact h hm')).2 (mem_kinds.2 (ord_in hz hs (Nat.le_refl _) m hm')))
  rw [ord_len, List.length_erase_of_mem hm] at h1
  have e : (kinds k).length = k := by unfold kinds; simp
  omega
theorem ord_at {z : List M} : ∀ {k m : Nat}, m < k → (ord z k)[m]? = some (nxt z (ord z m) : Int)
  | 0, _, h => by omega
  | k + 1, m, h => by
    rw [ord]
    rcases Nat.lt_or_ge m k with h' | h'
    · rw [List.getElem?_append_left (by rw [ord_len]; exact h')]; exact ord_at h'
    · obtain rfl : m = k := by omega
      rw [List.getElem?_append_right (by rw [ord_len]; exact Nat.le_refl _), ord_len, Nat.sub_self]; rfl
end Go.Proofs.Ytokdkponmefbaaa.PrecK
