/- Rows of structs that hold slices: the structs' cells in one row, their slices in blocks of their own. No condition. -/
import Derived.Test.YtclpdpfnlmfogaaDoorJ1
import Derived.Test.YtclpdpfnlmfogaaDoorAppO
namespace Go.Proofs.YtclpdpfnlmfogaaDoor.Bs
open Go Go.RowKit
set_option linter.unusedVariables false
/-- the cells of one struct -/
abbrev Hd (n : Nat) := { l : List Value // l.length = n ∧ ∀ u ∈ l, u.oneCell' = true }
def hrec (n : Nat) (hn : 0 < n) : Rec (Hd n) := ⟨n, fun h => h.1, fun h => h.2.1, hn, fun h => h.2.2⟩
/-- block k is one of those that the struct's slices lie in -/
def Holds {n : Nat} (h : Hd n) (k : Nat) : Prop := ∃ u ∈ h.1, u.ownBlock = some k
/-- what is known of one struct -/
structure Kit (ρ : Type) where
  n : Nat
  pos : 0 < n
  E : TypeId
  val : Hd n → Value
  Is : World → Value → ρ → Prop
  IsQ : World → Value → ρ → Prop
  Own : World → Nat → Value → ρ → Prop
  isq_is : ∀ {w v r}, IsQ w v r → Is w v r
  own_isq : ∀ {w A v r}, Own w A v r → IsQ w v r
  is_same : ∀ {w w' : World} {v r}, Is w v r → w.heap.size ≤ w'.heap.size → (∀ k, k < w.heap.size → w'.heap[k]? = w.heap[k]?) → Is w' v r
  isq_same : ∀ {w w' : World} {v r}, IsQ w v r → w.heap.size ≤ w'.heap.size → (∀ k, k < w.heap.size → w'.heap[k]? = w.heap[k]?) → IsQ w' v r
  own_same : ∀ {w w' : World} {A h r}, Own w A (val h) r → (∀ k, Holds h k → w'.heap[k]? = w.heap[k]?) → Own w' A (val h) r
  own_low : ∀ {w A A' v r}, Own w A v r → A' ≤ A → Own w A' v r
  own_lt : ∀ {w : World} {A h r}, Own w A (val h) r → ∀ k, Holds h k → A ≤ k ∧ k < w.heap.size
section
variable {ρ : Type} (K : Kit ρ)
def Kit.row : Rec (Hd K.n) := hrec K.n K.pos
theorem Kit.row_n : K.row.n = K.n := rfl
/-- element by element -/
def Els (P : Value → ρ → Prop) (hs : List (Hd K.n)) (xs : List ρ) : Prop := hs.length = xs.length ∧ ∀ (i : Nat) (h : Hd K.n) (x : ρ), hs[i]? = some h → xs[i]? = some x → P (K.val h) x
/-- the blocks are all different -/
def Sep (v : Value) (hs : List (Hd K.n)) : Prop := (∀ (i : Nat) (h : Hd K.n) (k : Nat), hs[i]? = some h → Holds h k → v.ownBlock ≠ some k) ∧ ∀ (i j : Nat) (h h' : Hd K.n) (k : Nat), i ≠ j → hs[i]? = some h → hs[j]? = some h' → Holds h k → ¬ Holds h' k
def NIs (w : World) (v : Value) (xs : List ρ) : Prop := ∃ hs, Is K.row w v hs ∧ Els K (K.Is w) hs xs
def NIsQ (w : World) (v : Value) (xs : List ρ) : Prop := ∃ hs, IsQ K.row w v hs ∧ Els K (K.IsQ w) hs xs
def NIsS (w : World) (v : Value) (xs : List ρ) : Prop := ∃ hs, IsS K.row w v hs ∧ Els K (K.IsQ w) hs xs
def NOwn (w : World) (A : Nat) (v : Value) (xs : List ρ) : Prop := ∃ hs, Own K.row K.E w A v hs ∧ Els K (K.Own w A) hs xs ∧ Sep K v hs
def NOwnB (A B : Nat) (v : Value) (xs : List ρ) (w : World) : Prop := ∃ hs, OwnB K.row K.E A B v hs w ∧ Els K (K.Own w A) hs xs ∧ Sep K v hs ∧ ∀ (i : Nat) (h : Hd K.n) (k : Nat), hs[i]? = some h → Holds h k → k < B
end
section
variable {ρ : Type} {K : Kit ρ} {w w' : World} {A B : Nat} {v : Value} {xs : List ρ} {hs : List (Hd K.n)} {P Q : Value → ρ → Prop}
theorem Els.imp (h : Els K P hs xs) (hi : ∀ (i : Nat) (u : Hd K.n) (x : ρ), hs[i]? = some u → xs[i]? = some x → P (K.val u) x → Q (K.val u) x) : Els K Q hs xs :=
  ⟨h.1, fun i u x hu hx => hi i u x hu hx (h.2 i u x hu hx)⟩
theorem Els.nil : Els K P [] [] := ⟨rfl, fun i h x hh => by simp at hh⟩
theorem Els.at_ (h : Els K P hs xs) {i : Nat} {x : ρ} (hx : xs[i]? = some x) : ∃ u, hs[i]? = some u ∧ P (K.val u) x := by
  have hi : i < hs.length := by rw [h.1]; exact (List.getElem?_eq_some_iff.1 hx).1
  exact ⟨_, List.getElem?_eq_getElem hi, h.2 i _ x (List.getElem?_eq_getElem hi) hx⟩
theorem Els.snoc (h : Els K P hs xs) {u : Hd K.n} {x : ρ} (hx : P (K.val u) x) : Els K P (hs ++ [u]) (xs ++ [x]) := by
  refine ⟨by simp [h.1], fun i a b ha hb => ?_⟩
  rcases Nat.lt_or_ge i hs.length with hi | hi
  · rw [List.getElem?_append_left hi] at ha
    rw [List.getElem?_append_left (by rw [← h.1]; exact hi)] at hb
    exact h.2 i a b ha hb
  · rw [List.getElem?_append_right hi] at ha
    rw [List.getElem?_append_right (by rw [← h.1]; exact hi), ← h.1] at hb
    cases e : i - hs.length with
    | zero =>
      rw [e] at ha hb
      simp only [List.getElem?_cons_zero, Option.some.injEq] at ha hb
      subst ha hb
      exact hx
    | succ m => rw [e] at ha; simp at ha
theorem Els.cons (h : Els K P hs xs) {u : Hd K.n} {x : ρ} (hx : P (K.val u) x) : Els K P (u :: hs) (x :: xs) := by
  refine ⟨by simp [h.1], fun i a b ha hb => ?_⟩
  cases i with
  | zero =>
    simp only [List.getElem?_cons_zero, Option.some.injEq] at ha hb
    subst ha hb
    exact hx
  | succ i =>
    rw [List.getElem?_cons_succ] at ha hb
    exact h.2 i a b ha hb
theorem Els.set (h : Els K P hs xs) {k : Nat} {u : Hd K.n} {x : ρ} (hx : P (K.val u) x) : Els K P (hs.set k u) (xs.set k x) := by
  refine ⟨by simp [h.1], fun i a b ha hb => ?_⟩
  by_cases e : k = i
  · subst e
    rw [List.getElem?_set_self' ] at ha hb
    cases h1 : hs[k]? with
    | none => rw [h1] at ha; simp at ha
    | some _ =>
      cases h2 : xs[k]? with
      | none => rw [h2] at hb; simp at hb
      | some _ =>
        rw [h1] at ha; rw [h2] at hb
        simp at ha hb
        subst ha hb
        exact hx
  · rw [List.getElem?_set_ne e] at ha hb
    exact h.2 i a b ha hb
theorem Els.reverse (h : Els K P hs xs) : Els K P hs.reverse xs.reverse := by
  refine ⟨by simp [h.1], fun i a b ha hb => ?_⟩
  have hi : i < hs.length := by have := (List.getElem?_eq_some_iff.1 ha).1; simpa using this
  rw [List.getElem?_reverse hi] at ha
  rw [List.getElem?_reverse (by rw [← h.1]; exact hi), ← h.1] at hb
  exact h.2 _ a b ha hb
theorem Sep.nil : Sep K v [] := ⟨fun i h k hh => by simp at hh, fun i j h h' k _ hh => by simp at hh⟩
/-- another outer value, the same elements -/
theorem Sep.other {v' : Value} (h : Sep K v hs) (hv : ∀ (i : Nat) (u : Hd K.n) (k : Nat), hs[i]? = some u → Holds u k → v'.ownBlock ≠ some k) : Sep K v' hs := ⟨hv, h.2⟩
theorem Sep.snoc (h : Sep K v hs) {u : Hd K.n} (h1 : ∀ k, Holds u k → v.ownBlock ≠ some k) (h2 : ∀ (i : Nat) (u' : Hd K.n) (k : Nat), hs[i]? = some u' → Holds u' k → ¬ Holds u k) : Sep K v (hs ++ [u]) := by
  have key : ∀ (i : Nat) (a : Hd K.n), (hs ++ [u])[i]? = some a → (i < hs.length ∧ hs[i]? = some a) ∨ (i = hs.length ∧ a = u) := fun i a ha => by
    rcases Nat.lt_or_ge i hs.length with hi | hi
    · rw [List.getElem?_append_left hi] at ha
      exact .inl ⟨hi, ha⟩
    · rw [List.getElem?_append_right hi] at ha
      cases e : i - hs.length with
      | zero => rw [e] at ha; simp only [List.getElem?_cons_zero, Option.some.injEq] at ha; exact .inr ⟨by omega, ha.symm⟩
      | succ m => rw [e] at ha; simp at ha
  refine ⟨fun i a k ha hk => ?_, fun i j a b k hij ha hb hk hk' => ?_⟩
  · rcases key i a ha with ⟨_, ha⟩ | ⟨_, rfl⟩
    · exact h.1 i a k ha hk
    · exact h1 k hk
  · rcases key i a ha with ⟨hi, ha'⟩ | ⟨hi, rfl⟩ <;> rcases key j b hb with ⟨hj, hb'⟩ | ⟨hj, rfl⟩
    · exact h.2 i j a b k hij ha' hb' hk hk'
    · exact h2 i a k ha' hk hk'
    · exact h2 j b k hb' hk' hk
    · omega
theorem Sep.cons (h : Sep K v hs) {u : Hd K.n} (h1 : ∀ k, Holds u k → v.ownBlock ≠ some k) (h2 : ∀ (i : Nat) (u' : Hd K.n) (k : Nat), hs[i]? = some u' → Holds u' k → ¬ Holds u k) : Sep K v (u :: hs) := by
  refine ⟨fun i a k ha hk => ?_, fun i j a b k hij ha hb hk hk' => ?_⟩
  · cases i with
    | zero => simp only [List.getElem?_cons_zero, Option.some.injEq] at ha; subst ha; exact h1 k hk
    | succ i => rw [List.getElem?_cons_succ] at ha; exact h.1 i a k ha hk
  · cases i with
    | zero =>
      simp only [List.getElem?_cons_zero, Option.some.injEq] at ha
      subst ha
      cases j with
      | zero => omega
      | succ j => rw [List.getElem?_cons_succ] at hb; exact h2 j b k hb hk' hk
    | succ i =>
      rw [List.getElem?_cons_succ] at ha
      cases j with
      | zero =>
        simp only [List.getElem?_cons_zero, Option.some.injEq] at hb
        subst hb
        exact h2 i a k ha hk hk'
      | succ j => rw [List.getElem?_cons_succ] at hb; exact h.2 i j a b k (by omega) ha hb hk hk'
theorem Sep.reverse (h : Sep K v hs) : Sep K v hs.reverse := by
  have key : ∀ (i : Nat) (a : Hd K.n), hs.reverse[i]? = some a → i < hs.length ∧ hs[hs.length - 1 - i]? = some a := fun i a ha => by
    have hi : i < hs.length := by have := (List.getElem?_eq_some_iff.1 ha).1; simpa using this
    rw [List.getElem?_reverse hi] at ha
    exact ⟨hi, ha⟩
  refine ⟨fun i a k ha hk => h.1 _ a k (key i a ha).2 hk, fun i j a b k hij ha hb hk hk' => ?_⟩
  obtain ⟨hi, ha⟩ := key i a ha
  obtain ⟨hj, hb⟩ := key j b hb
  exact h.2 _ _ a b k (by omega) ha hb hk hk'
theorem Sep.set (h : Sep K v hs) {n : Nat} {u : Hd K.n} (h1 : ∀ k, Holds u k → v.ownBlock ≠ some k) (h2 : ∀ (i : Nat) (u' : Hd K.n) (k : Nat), i ≠ n → hs[i]? = some u' → Holds u' k → ¬ Holds u k) : Sep K v (hs.set n u) := by
  have key : ∀ (i : Nat) (a : Hd K.n), (hs.set n u)[i]? = some a → (i ≠ n ∧ hs[i]? = some a) ∨ (i = n ∧ a = u) := fun i a ha => by
    by_cases e : n = i
    · subst e
      have hl : n < hs.length := by have := (List.getElem?_eq_some_iff.1 ha).1; simpa using this
      rw [List.getElem?_set_self hl] at ha
      exact .inr ⟨rfl, (Option.some.inj ha).symm⟩
    · rw [List.getElem?_set_ne e] at ha
      exact .inl ⟨fun h => e h.symm, ha⟩
  refine ⟨fun i a k ha hk => ?_, fun i j a b k hij ha hb hk hk' => ?_⟩
  · rcases key i a ha with ⟨_, ha⟩ | ⟨_, rfl⟩
    · exact h.1 i a k ha hk
    · exact h1 k hk
  · rcases key i a ha with ⟨hi, ha'⟩ | ⟨hi, rfl⟩ <;> rcases key j b hb with ⟨hj, hb'⟩ | ⟨hj, rfl⟩
    · exact h.2 i j a b k hij ha' hb' hk hk'
    · exact h2 i a k hi ha' hk hk'
    · exact h2 j b k hj hb' hk' hk
    · omega
theorem NIsS.isQ (h : NIsS K w v xs) : NIsQ K w v xs := by obtain ⟨hs, h1, h2⟩ := h; exact ⟨hs, .inr h1, h2⟩
theorem NIsQ.is (h : NIsQ K w v xs) : NIs K w v xs := by
  obtain ⟨hs, h1, h2⟩ := h
  exact ⟨hs, IsQ.is h1, h2.imp fun _ _ _ _ _ => K.isq_is⟩
theorem NIsS.is (h : NIsS K w v xs) : NIs K w v xs := NIsQ.is (NIsS.isQ h)
theorem NOwn.isQ (h : NOwn K w A v xs) : NIsQ K w v xs := by
  obtain ⟨hs, h1, h2, _⟩ := h
  exact ⟨hs, Own.isQ h1, h2.imp fun _ _ _ _ _ => K.own_isq⟩
theorem NOwn.is (h : NOwn K w A v xs) : NIs K w v xs := NIsQ.is (NOwn.isQ h)
theorem NOwn.isS (h : NOwn K w A v xs) (hv : ∃ g, v.ownBlock = some g) : NIsS K w v xs := by
  obtain ⟨hs, h1, h2, _⟩ := h
  exact ⟨hs, h1.isS hv, h2.imp fun _ _ _ _ _ => K.own_isq⟩
theorem NIs.below (h : NIs K w v xs) (hb : Below w.heap.size w w') : NIs K w' v xs := by
  obtain ⟨hs, h1, h2⟩ := h
  exact ⟨hs, Is.below _ h1 hb, h2.imp fun _ _ _ _ _ h => K.is_same h hb.size hb.block⟩
theorem NIsQ.below (h : NIsQ K w v xs) (hb : Below w.heap.size w w') : NIsQ K w' v xs := by
  obtain ⟨hs, h1, h2⟩ := h
  exact ⟨hs, IsQ.below h1 hb, h2.imp fun _ _ _ _ _ h => K.isq_same h hb.size hb.block⟩
theorem NIsS.below (h : NIsS K w v xs) (hb : Below w.heap.size w w') : NIsS K w' v xs := by
  obtain ⟨hs, h1, h2⟩ := h
  exact ⟨hs, IsS.below _ h1 hb, h2.imp fun _ _ _ _ _ h => K.isq_same h hb.size hb.block⟩
theorem NIs.loc (h : NIs K w v xs) : Loc 0 w.heap.size (fun W => NIs K W v xs) w := by
  obtain ⟨hs, h1, h2⟩ := h
  refine ⟨Nat.le_refl _, fun w' hz hh => ⟨hs, (Is.loc h1).all w' hz hh, h2.imp fun _ _ _ _ _ h => K.is_same h hz fun k hk => hh k (Nat.zero_le _) hk⟩⟩
theorem NIsQ.loc (h : NIsQ K w v xs) : Loc 0 w.heap.size (fun W => NIsQ K W v xs) w := by
  obtain ⟨hs, h1, h2⟩ := h
  refine ⟨Nat.le_refl _, fun w' hz hh => ⟨hs, (IsQ.loc h1).all w' hz hh, h2.imp fun _ _ _ _ _ h => K.isq_same h hz fun k hk => hh k (Nat.zero_le _) hk⟩⟩
/-- the blocks of the elements -/
theorem Els.lt (h : Els K (K.Own w A) hs xs) : ∀ (i : Nat) (u : Hd K.n) (k : Nat), hs[i]? = some u → Holds u k → A ≤ k ∧ k < w.heap.size := fun i u k hu hk => by
  have hi : i < xs.length := by rw [← h.1]; exact (List.getElem?_eq_some_iff.1 hu).1
  exact K.own_lt (h.2 i u _ hu (List.getElem?_eq_getElem hi)) k hk
theorem Els.same (h : Els K (K.Own w A) hs xs) (hk : ∀ (i : Nat) (u : Hd K.n) (k : Nat), hs[i]? = some u → Holds u k → w'.heap[k]? = w.heap[k]?) : Els K (K.Own w' A) hs xs :=
  h.imp fun i u x hu _ ho => K.own_same ho fun k h' => hk i u k hu h'
theorem NOwn.kept (h : NOwn K w A v xs) (hb : Below w.heap.size w w') : NOwn K w' A v xs := by
  obtain ⟨hs, h1, h2, h3⟩ := h
  exact ⟨hs, h1.kept hb, h2.same fun i u k hu hk => hb.block k (h2.lt i u k hu hk).2, h3⟩
theorem NOwn.low {A' : Nat} (h : NOwn K w A v xs) (hA : A' ≤ A) : NOwn K w A' v xs := by
  obtain ⟨hs, h1, h2, h3⟩ := h
  exact ⟨hs, h1.low hA, h2.imp fun _ _ _ _ _ h => K.own_low h hA, h3⟩
theorem NOwn.loc (h : NOwn K w A v xs) : Loc A w.heap.size (NOwnB K A w.heap.size v xs) w := by
  obtain ⟨hs, h1, h2, h3⟩ := h
  refine ⟨Nat.le_refl _, fun w' hz hh => ⟨hs, (Own.loc h1).all w' hz hh, h2.same fun i u k hu hk => ?_, h3, fun i u k hu hk => (h2.lt i u k hu hk).2⟩⟩
  have := h2.lt i u k hu hk
  exact hh k this.1 this.2
theorem NOwnB.own (h : NOwnB K A B v xs w) : NOwn K w A v xs := by
  obtain ⟨hs, h1, h2, h3, _⟩ := h
  exact ⟨hs, h1.1, h2, h3⟩
theorem NOwnB.loc (h : NOwnB K A B v xs w) (hB : B ≤ w.heap.size) : Loc A B (NOwnB K A B v xs) w := by
  obtain ⟨hs, h1, h2, h3, h4⟩ := h
  refine ⟨hB, fun w' hz hh => ⟨hs, (OwnB.loc h1 hB).all w' hz hh, h2.same fun i u k hu hk => ?_, h3, h4⟩⟩
  exact hh k (h2.lt i u k hu hk).1 (h4 i u k hu hk)
theorem NOwn.nil : NOwn K w A (.slice none 0 0) [] := ⟨[], Own.nil, Els.nil, Sep.nil⟩
theorem NOwn.start (h : A ≤ w.heap.size) : NOwn K (w.alloc (.cells #[] K.E)) A (.slice (some ⟨w.heap.size, 0, none⟩) 0 0) [] := ⟨[], Own.start h, Els.nil, Sep.nil⟩
/-- an element that is read -/
theorem NIs.get (h : NIs K w v xs) : Hid (∀ (k : Nat) (x : ρ), xs[k]? = some x → ∃ (b o c : Nat) (u : Hd K.n), v = .slice (some ⟨b, o, none⟩) xs.length c ∧ b < w.heap.size ∧ At K.row w b (o + k * K.n) u ∧ K.Is w (K.val u) x) := fun k x hx => by
  obtain ⟨hs, ⟨a, c, e, h1⟩, h2⟩ := h
  obtain ⟨u, hu, hI⟩ := h2.at_ hx
  obtain ⟨b, o, rfl, hb, hat⟩ := (h1.at_ K.row).out k u hu
  exact ⟨b, o, c, u, by rw [e, h2.1], hb, hat, hI⟩
theorem NIsQ.get (h : NIsQ K w v xs) : Hid (∀ (k : Nat) (x : ρ), xs[k]? = some x → ∃ (b o c : Nat) (u : Hd K.n), v = .slice (some ⟨b, o, none⟩) xs.length c ∧ b < w.heap.size ∧ At K.row w b (o + k * K.n) u ∧ K.IsQ w (K.val u) x) := fun k x hx => by
  obtain ⟨hs, h0, h2⟩ := h
  obtain ⟨a, c, e, h1⟩ := IsQ.is h0
  obtain ⟨u, hu, hI⟩ := h2.at_ hx
  obtain ⟨b, o, rfl, hb, hat⟩ := (h1.at_ K.row).out k u hu
  exact ⟨b, o, c, u, by rw [e, h2.1], hb, hat, hI⟩
theorem NIs.form (h : NIs K w v xs) : ∃ a c, v = .slice a xs.length c ∧ xs.length ≤ c ∧ c ≤ maxLen := by
  obtain ⟨hs, ⟨a, c, e, h1⟩, h2⟩ := h
  exact ⟨a, c, by rw [e, h2.1], by rw [← h2.1]; exact h1.1, h1.2.1⟩
theorem NOwn.form (h : NOwn K w A v xs) : ∃ a c, v = .slice a xs.length c ∧ xs.length ≤ c ∧ c ≤ maxLen := NIs.form h.is
/-- one more element behind the others -/
theorem NOwn.append {v' : Value} {u : Hd K.n} {x : ρ} (h2 : Els K (K.Own w A) hs xs) (h3 : Sep K v hs) (hx : K.Own w A (K.val u) x) (d1 : ∀ k, Holds u k → v.ownBlock ≠ some k) (d2 : ∀ (i : Nat) (u' : Hd K.n) (k : Nat), hs[i]? = some u' → Holds u' k → ¬ Holds u k)
    (ho : Own K.row K.E w' A v' (hs ++ [u])) (hg : w.grownBy w' v.ownBlock) (hat : v'.ownBlock = v.ownBlock ∨ v'.ownBlock = some w.heap.size) : NOwn K w' A v' (xs ++ [x]) := by
  have hlt : ∀ (i : Nat) (a : Hd K.n) (k : Nat), (hs ++ [u])[i]? = some a → Holds a k → k < w.heap.size ∧ v.ownBlock ≠ some k := fun i a k ha hk => by
    have h3' := (h3.snoc d1 d2).1 i a k ha hk
    exact ⟨((h2.snoc (u := u) (x := x) hx).lt i a k ha hk).2, h3'⟩
  refine ⟨hs ++ [u], ho, (h2.snoc hx).same fun i a k ha hk => hg.block k (hlt i a k ha hk).1 (fun e => (hlt i a k ha hk).2 e.symm), (h3.snoc d1 d2).other fun i a k ha hk e => ?_⟩
  rcases hat with h' | h'
  · exact (hlt i a k ha hk).2 (by rw [← h', e])
  · have := (hlt i a k ha hk).1
    rw [h'] at e
    have := Option.some.inj e
    omega
end
end Go.Proofs.YtclpdpfnlmfogaaDoor.Bs
