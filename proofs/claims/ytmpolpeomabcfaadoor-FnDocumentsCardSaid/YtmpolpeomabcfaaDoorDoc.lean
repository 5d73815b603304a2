/- Documents in sections: which are valid; to which section one belongs; how many are its parts; numbers. Mathematics, no program. -/
import Derived.Test.YtmpolpeomabcfaaDoorWord
import Derived.Test.YtmpolpeomabcfaaDoorLSectionZ
import Derived.Lib.ItoaLen
namespace Go.Proofs.YtmpolpeomabcfaaDoor.Doc
open Go.RowKit Bs Word
set_option linter.unusedVariables false

abbrev M := LSection.R
def dep (xs : List M) (k : Nat) : Int := ((xs[k]?).map (·.depth)).getD 0
theorem dep_at {xs : List M} {k : Nat} {X : M} (h : xs[k]? = some X) : dep xs k = X.depth := by unfold dep; rw [h]; rfl
/-- the depth before the section k -/
def bef (xs : List M) : Nat → Int
  | 0 => 0
  | k + 1 => dep xs k
def top (d : Int) : Int := if d + 1 < 4 then d + 1 else 4
def okB (d : Int) (r : M) : Bool := inB r.depth 1 (top d) && isWordB r.title
def Pre (xs : List M) (k : Nat) : Prop := ∀ i r, i < k → xs[i]? = some r → okB (bef xs i) r = true
def GoodP (xs : List M) : Prop := xs.length ≤ 12 ∧ Pre xs xs.length
open Classical in
noncomputable def goodB (xs : List M) : Bool := decide (GoodP xs)
open Classical in
theorem good_yes {xs : List M} (h : GoodP xs) : goodB xs = true := decide_eq_true h
open Classical in
theorem good_no {xs : List M} (h : ¬ GoodP xs) : goodB xs = false := decide_eq_false h
open Classical in
theorem good_of {xs : List M} (h : goodB xs = true) : GoodP xs := of_decide_eq_true h
theorem good_len {xs : List M} (h : goodB xs = true) : xs.length ≤ 12 := (good_of h).1
theorem no_len {xs : List M} (h : 12 < xs.length) : goodB xs = false := good_no fun g => by have := g.1; omega
theorem no_ok {xs : List M} {i : Nat} {r : M} (hr : xs[i]? = some r) (h : okB (bef xs i) r = false) : goodB xs = false := good_no fun g => by
  have := g.2 i r (List.getElem?_eq_some_iff.1 hr).1 hr
  rw [h] at this; cases this
theorem pre_zero {xs : List M} : Pre xs 0 := fun i r hi => by omega
theorem pre_next {xs : List M} {k : Nat} {X : M} (h : Pre xs k) (hx : xs[k]? = some X) (ho : okB (bef xs k) X = true) : Pre xs (k + 1) := fun i r hi hr => by
  rcases Nat.lt_or_ge i k with h' | h'
  · exact h i r h' hr
  · obtain rfl : i = k := by omega
    rw [hx] at hr; rw [← Option.some.inj hr]; exact ho
theorem pre_low {xs : List M} {k m : Nat} (h : Pre xs k) (hm : m ≤ k) : Pre xs m := fun i r hi hr => h i r (by omega) hr
theorem top_bd (d : Int) (h0 : 0 ≤ d) : 1 ≤ top d ∧ top d ≤ 4 := by unfold top; split <;> omega
theorem top_le (d : Int) : top d ≤ d + 1 := by unfold top; split <;> omega
theorem ok_parts {d : Int} {r : M} (h : okB d r = true) : 1 ≤ r.depth ∧ r.depth ≤ top d ∧ isWordB r.title = true := by
  unfold okB at h
  rw [Bool.and_eq_true] at h
  have := inB_yes h.1
  exact ⟨this.1, this.2, h.2⟩
theorem bef_next {xs : List M} {k : Nat} {X : M} (h : xs[k]? = some X) : bef xs (k + 1) = X.depth := dep_at h
theorem dep_bd {xs : List M} : ∀ {k : Nat}, Pre xs k → ∀ i, i < k → i < xs.length → 1 ≤ dep xs i ∧ dep xs i ≤ 4 := fun {k} h i hi hl => by
  have hr := List.getElem?_eq_getElem hl
  have := ok_parts (h i _ hi hr)
  rw [dep_at hr]
  refine ⟨this.1, Int.le_trans this.2.1 ?_⟩
  unfold top; split <;> omega
theorem bef_bd {xs : List M} {k : Nat} (h : Pre xs k) (hk : k ≤ xs.length) : 0 ≤ bef xs k ∧ bef xs k ≤ 4 := by
  cases k with
  | zero => exact ⟨by simp [bef], by simp [bef]⟩
  | succ k => have := dep_bd h k (Nat.lt_succ_self _) (by omega); exact ⟨by show 0 ≤ dep xs k; omega, by show dep xs k ≤ 4; omega⟩
theorem good_at {xs : List M} (h : goodB xs = true) {k : Nat} {X : M} (hx : xs[k]? = some X) : okB (bef xs k) X = true :=
  (good_of h).2 k X (List.getElem?_eq_some_iff.1 hx).1 hx
theorem good_dep {xs : List M} (h : goodB xs = true) {k : Nat} (hk : k < xs.length) : 1 ≤ dep xs k ∧ dep xs k ≤ 4 := dep_bd (good_of h).2 k hk hk
theorem good_word {xs : List M} (h : goodB xs = true) {k : Nat} {X : M} (hx : xs[k]? = some X) : isWordB X.title = true := (ok_parts (good_at h hx)).2.2
theorem dep_next {xs : List M} (h : goodB xs = true) {k : Nat} (hk : k + 1 < xs.length) : dep xs (k + 1) ≤ dep xs k + 1 := by
  have hr := List.getElem?_eq_getElem hk
  have := (ok_parts (good_at h hr)).2.1
  rw [dep_at hr]
  exact Int.le_trans this (top_le _)
theorem dep_first {xs : List M} (h : goodB xs = true) (hk : 0 < xs.length) : dep xs 0 = 1 := by
  have hr := List.getElem?_eq_getElem hk
  have := ok_parts (good_at h hr)
  rw [dep_at hr]
  have h2 : top (bef xs 0) = 1 := rfl
  omega

/-- to which section one belongs: the last one before it that is less deep, or -1 -/
def upF (xs : List M) (d : Int) : Nat → Int
  | 0 => -1
  | k + 1 => if dep xs k < d then (k : Int) else upF xs d k
def up (xs : List M) (i : Nat) : Int := upF xs (dep xs i) i
theorem upF_lt (xs : List M) (d : Int) : ∀ k : Nat, -1 ≤ upF xs d k ∧ upF xs d k < k
  | 0 => by simp [upF]
  | k + 1 => by
    have := upF_lt xs d k
    unfold upF; split <;> omega
theorem up_lt (xs : List M) (i : Nat) : -1 ≤ up xs i ∧ up xs i < i := upF_lt xs _ i
theorem upF_hit {xs : List M} {d : Int} {k : Nat} (h : dep xs k < d) : upF xs d (k + 1) = k := by unfold upF; rw [if_pos h]
theorem upF_miss {xs : List M} {d : Int} {k : Nat} (h : ¬ dep xs k < d) : upF xs d (k + 1) = upF xs d k := by rw [upF, if_neg h]
theorem upF_between (xs : List M) (d : Int) : ∀ (k m : Nat), upF xs d k < m → m < k → d ≤ dep xs m
  | 0, m, _, h => by omega
  | k + 1, m, h1, h2 => by
    by_cases h : dep xs k < d
    · rw [upF_hit h] at h1; omega
    · rw [upF_miss h] at h1
      rcases Nat.lt_or_ge m k with h3 | h3
      · exact upF_between xs d k m h1 h3
      · obtain rfl : m = k := by omega
        omega
theorem upF_is (xs : List M) (d : Int) : ∀ (k m : Nat), upF xs d k = m → dep xs m < d
  | 0, m, h => by have h2 : (-1 : Int) = m := h; omega
  | k + 1, m, h => by
    by_cases h1 : dep xs k < d
    · rw [upF_hit h1] at h
      obtain rfl : k = m := by omega
      exact h1
    · rw [upF_miss h1] at h
      exact upF_is xs d k m h
/-- in a document: one deeper than the one to which it belongs -/
theorem dep_up {xs : List M} (h : goodB xs = true) {i : Nat} (hi : i < xs.length) : (up xs i = -1 ∧ dep xs i = 1) ∨ ∃ u : Nat, up xs i = u ∧ u < i ∧ dep xs i = dep xs u + 1 := by
  have hlt := up_lt xs i
  have hbt := upF_between xs (dep xs i) i
  have hd := good_dep h hi
  rcases Int.lt_or_le (up xs i) 0 with h0 | h0
  · refine .inl ⟨by omega, ?_⟩
    have h1 := dep_first h (by omega)
    by_cases hz : i = 0
    · rw [hz]; exact h1
    · have := hbt 0 (by show up xs i < _; omega) (by omega)
      omega
  · obtain ⟨u, hu⟩ := Int.eq_ofNat_of_zero_le h0
    refine .inr ⟨u, hu, by omega, ?_⟩
    have h1 := upF_is xs (dep xs i) i u hu
    have h2 := dep_next h (k := u) (by omega)
    by_cases hz : u + 1 = i
    · rw [← hz] at h1 ⊢
      omega
    · have := hbt (u + 1) (by show up xs i < _; omega) (by omega)
      omega
/-- those of one owner are of one depth -/
theorem same_dep {xs : List M} (h : goodB xs = true) {i k : Nat} (hi : i < xs.length) (hk : k < xs.length) (e : up xs k = up xs i) : dep xs k = dep xs i := by
  rcases dep_up h hi with ⟨a, b⟩ | ⟨u, a, _, b⟩ <;> rcases dep_up h hk with ⟨c, d⟩ | ⟨v, c, _, d⟩
  · omega
  · omega
  · omega
  · obtain rfl : u = v := by omega
    omega

def cntP (p : Nat → Bool) : Nat → Nat
  | 0 => 0
  | k + 1 => cntP p k + if p k = true then 1 else 0
theorem cntP_le (p : Nat → Bool) : ∀ k, cntP p k ≤ k
  | 0 => Nat.le_refl _
  | k + 1 => by have := cntP_le p k; unfold cntP; split <;> omega
theorem cntP_yes {p : Nat → Bool} {k : Nat} (h : p k = true) : cntP p (k + 1) = cntP p k + 1 := by rw [cntP, if_pos h]
theorem cntP_no {p : Nat → Bool} {k : Nat} (h : p k = false) : cntP p (k + 1) = cntP p k := by rw [cntP, h]; simp
theorem cntP_mono (p : Nat → Bool) : ∀ (a b : Nat), a ≤ b → cntP p a ≤ cntP p b
  | a, 0, h => by obtain rfl : a = 0 := by omega
                  exact Nat.le_refl _
  | a, b + 1, h => by
    rcases Nat.lt_or_ge a (b + 1) with h' | h'
    · have := cntP_mono p a b (by omega)
      rw [cntP]; omega
    · obtain rfl : a = b + 1 := by omega
      exact Nat.le_refl _
theorem cntP_congr {p q : Nat → Bool} : ∀ {k : Nat}, (∀ j, j < k → p j = q j) → cntP p k = cntP q k
  | 0, _ => rfl
  | k + 1, h => by rw [cntP, cntP, cntP_congr (fun j hj => h j (by omega)), h k (by omega)]
/-- does k belong where i belongs? -/
def sib (xs : List M) (i k : Nat) : Bool := up xs k == up xs i
def cnt (xs : List M) (i : Nat) : Nat := cntP (sib xs i) (i + 1)
theorem cnt_low {xs : List M} {i : Nat} : ∀ m : Nat, (m : Int) ≤ up xs i + 1 → cntP (sib xs i) m = 0
  | 0, _ => rfl
  | m + 1, h => by
    have hs : sib xs i m = false := by
      unfold sib
      rw [beq_eq_false_iff_ne]
      have := up_lt xs m
      omega
    rw [cntP_no hs]
    exact cnt_low m (by omega)
theorem cnt_bd (xs : List M) (i : Nat) : 1 ≤ cnt xs i ∧ cnt xs i ≤ i + 1 := by
  have h : sib xs i i = true := by simp [sib]
  refine ⟨?_, cntP_le _ _⟩
  unfold cnt
  rw [cntP_yes h]; omega
def num (n : Int) : ByteArray := ⟨(Lib.itoa n).toArray⟩
theorem num_size (n : Int) (h0 : 0 ≤ n) (h1 : n ≤ 1000) : (num n).size ≤ 21 := by
  have := Lib.itoa_length_le n (by omega) (by omega)
  show (Lib.itoa n).toArray.size ≤ 21
  simpa using this
/-- a section's number -/
def numB (xs : List M) (i : Nat) : ByteArray :=
  if h : 0 ≤ up xs i then numB xs (up xs i).toNat ++ ⟨#[46]⟩ ++ num (cnt xs i) else num (cnt xs i)
termination_by i
decreasing_by have := up_lt xs i; omega
theorem numB_up {xs : List M} {i u : Nat} (h : up xs i = u) : numB xs i = numB xs u ++ ⟨#[46]⟩ ++ num (cnt xs i) := by
  rw [numB, dif_pos (by omega), h]; rfl
theorem numB_top {xs : List M} {i : Nat} (h : up xs i < 0) : numB xs i = num (cnt xs i) := by
  rw [numB, dif_neg (by omega)]
theorem numB_size {xs : List M} (k : Nat) : ∀ i, i < k → i < 12 → (numB xs i).size ≤ 22 * (i + 1) := by
  induction k with
  | zero => intro i hi; omega
  | succ k ih =>
    intro i hi h12
    have hc := cnt_bd xs i
    have hn := num_size (cnt xs i) (by omega) (by omega)
    have hlt := up_lt xs i
    rcases Int.lt_or_le (up xs i) 0 with h0 | h0
    · rw [numB_top h0]; omega
    · obtain ⟨u, hu⟩ := Int.eq_ofNat_of_zero_le h0
      have := ih u (by omega) (by omega)
      rw [numB_up hu, ByteArray.size_append, ByteArray.size_append, show (⟨#[46]⟩ : ByteArray).size = 1 from rfl]
      omega

/-- how many sections are parts of one -/
def deeper (d : Int) (r : M) : Bool := decide (d < r.depth)
def prt (xs : List M) (i : Nat) : Nat := ((xs.drop (i + 1)).takeWhile (deeper (dep xs i))).length
theorem tw_len (p : M → Bool) : ∀ (l : List M) (k : Nat), (∀ m, m < k → ∃ r, l[m]? = some r ∧ p r = true) → (∀ r, l[k]? = some r → p r = false) → (l.takeWhile p).length = k
  | [], k, h, _ => by
    cases k with
    | zero => rfl
    | succ k => obtain ⟨r, hr, _⟩ := h 0 (by omega); simp at hr
  | x :: l, 0, _, h => by
    have := h x (by simp)
    rw [List.takeWhile_cons, this]; rfl
  | x :: l, k + 1, h, h' => by
    obtain ⟨r, hr, hp⟩ := h 0 (by omega)
    simp only [List.getElem?_cons_zero, Option.some.injEq] at hr
    subst hr
    rw [List.takeWhile_cons, hp]
    simp only [if_true, List.length_cons, Nat.add_right_cancel_iff]
    refine tw_len p l k (fun m hm => ?_) (fun r hr => h' r (by rw [List.getElem?_cons_succ]; exact hr))
    obtain ⟨r, hr, hq⟩ := h (m + 1) (by omega)
    rw [List.getElem?_cons_succ] at hr
    exact ⟨r, hr, hq⟩
def Deep (xs : List M) (i k : Nat) : Prop := ∀ m, i < m → m < k → m < xs.length ∧ dep xs i < dep xs m
theorem deep_start {xs : List M} {i : Nat} : Deep xs i (i + 1) := fun m h1 h2 => by omega
theorem deep_next {xs : List M} {i k : Nat} {X : M} (h : Deep xs i k) (hx : xs[k]? = some X) (hd : dep xs i < X.depth) : Deep xs i (k + 1) := fun m h1 h2 => by
  rcases Nat.lt_or_ge m k with h' | h'
  · exact h m h1 h'
  · obtain rfl : m = k := by omega
    exact ⟨(List.getElem?_eq_some_iff.1 hx).1, by rw [dep_at hx]; exact hd⟩
theorem prt_eq {xs : List M} {i k : Nat} (hk : i < k) (h : Deep xs i k) (he : ∀ X, xs[k]? = some X → ¬ dep xs i < X.depth) : prt xs i = k - i - 1 := by
  unfold prt
  refine tw_len _ _ _ (fun m hm => ?_) (fun r hr => ?_)
  · have := h (i + 1 + m) (by omega) (by omega)
    refine ⟨xs[i + 1 + m]'this.1, by rw [List.getElem?_drop]; exact List.getElem?_eq_getElem this.1, ?_⟩
    have h2 := this.2
    rw [dep_at (List.getElem?_eq_getElem this.1)] at h2
    unfold deeper
    exact decide_eq_true h2
  · rw [List.getElem?_drop, show i + 1 + (k - i - 1) = k by omega] at hr
    unfold deeper
    exact decide_eq_false (he r hr)
theorem prt_le (xs : List M) (i : Nat) (h : i < xs.length) : i + 1 + prt xs i ≤ xs.length := by
  have := List.IsPrefix.length_le (List.takeWhile_prefix (p := deeper (dep xs i)) (l := xs.drop (i + 1)))
  rw [List.length_drop] at this
  unfold prt
  omega
noncomputable def askB (xs : List M) (i : Int) : Bool := goodB xs && inB i 0 ((xs.length : Int) - 1)
theorem ask_good {xs : List M} {i : Int} (h : askB xs i = true) : goodB xs = true ∧ ∃ k : Nat, i = k ∧ k < xs.length := by
  unfold askB at h
  rw [Bool.and_eq_true] at h
  have h2 := inB_yes h.2
  obtain ⟨k, hk⟩ := Int.eq_ofNat_of_zero_le h2.1
  exact ⟨h.1, k, hk, by omega⟩
end Go.Proofs.YtmpolpeomabcfaaDoor.Doc
