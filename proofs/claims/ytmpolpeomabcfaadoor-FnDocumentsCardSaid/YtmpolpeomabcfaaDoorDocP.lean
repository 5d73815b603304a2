/- What a document's text says: its lines, read back. Mathematics, no program. -/
import Derived.Test.YtmpolpeomabcfaaDoorDocumentTextC
import Derived.Test.YtmpolpeomabcfaaDoorSplitL
import Derived.Test.YtmpolpeomabcfaaDoorNumMath
namespace Go.Proofs.YtmpolpeomabcfaaDoor.DocP
open Go Word Doc DocumentTextC SplitMath SplitL NumMath
set_option linter.unusedVariables false

theorem num_list (n : Nat) : (num (n : Int)).data.toList = Lib.decDigits n := by
  unfold num Lib.itoa
  rw [if_neg (by omega)]; simp
theorem dig_clean (n : Nat) (c : UInt8) (hc : isD c = false) : ∀ b ∈ Lib.decDigits n, b ≠ c := by
  intro b hb
  have := dd_all _ b hb
  rintro rfl
  rw [hc] at this; cases this
theorem app_list (a b : ByteArray) : (a ++ b).data.toList = a.data.toList ++ b.data.toList := by simp
theorem mk_list (l : List UInt8) : (ByteArray.mk l.toArray).data.toList = l := by simp
/-- a number has digits and periods alone -/
theorem numB_clean {z : List M} (c : UInt8) (hc : isD c = false) (hc2 : c ≠ 46) (K : Nat) : ∀ i, i < K → ∀ b ∈ (numB z i).data.toList, b ≠ c := by
  induction K with
  | zero => intro i hi; omega
  | succ K ih =>
    intro i hi b hb
    have hlt := up_lt z i
    rcases Int.lt_or_le (up z i) 0 with h0 | h0
    · rw [numB_top h0, num_list] at hb
      exact dig_clean _ c hc b hb
    · obtain ⟨u, hu⟩ := Int.eq_ofNat_of_zero_le h0
      rw [numB_up hu, app_list, app_list, num_list] at hb
      simp only [List.mem_append] at hb
      rcases hb with (hb | hb) | hb
      · exact ih u (by omega) b hb
      · have : b = 46 := by simpa using hb
        rw [this]; exact fun e => hc2 e.symm
      · exact dig_clean _ c hc b hb
/-- as many periods as owners -/
theorem numB_dots {z : List M} (hg : goodB z = true) (K : Nat) : ∀ i, i < K → i < z.length → (((numB z i).data.toList.count 46 : Nat) : Int) + 1 = dep z i := by
  induction K with
  | zero => intro i hi; omega
  | succ K ih =>
    intro i hi hl
    have hz : ∀ n : Nat, (Lib.decDigits n).count 46 = 0 := fun n => List.count_eq_zero.2 fun h => dig_clean n 46 (by decide) 46 h rfl
    rcases dep_up hg hl with ⟨hu, hd⟩ | ⟨u, hu, hlt, hd⟩
    · rw [numB_top (by omega), num_list, hz, hd]; rfl
    · have := ih u (by omega) (by omega)
      rw [numB_up hu, app_list, app_list, num_list, List.count_append, List.count_append, hz, hd, ← this]
      have e : (ByteArray.mk #[46]).data.toList.count 46 = 1 := by decide
      rw [e]; omega
theorem numB_short {z : List M} (hg : goodB z = true) (K : Nat) : ∀ i, i < K → i < z.length → ((numB z i).size : Int) ≤ 3 * dep z i - 1 := by
  induction K with
  | zero => intro i hi; omega
  | succ K ih =>
    intro i hi hl
    have h12 := good_len hg
    have hc := cnt_bd z i
    have hn : (num ((cnt z i : Nat) : Int)).size ≤ 2 := by
      have := num_list (cnt z i)
      have h2 : (num ((cnt z i : Nat) : Int)).size = (Lib.decDigits (cnt z i)).length := by rw [← this, Array.length_toList]; rfl
      rw [h2, Lib.decDigits_length]
      exact nDigits_le 2 _ (by omega) (by omega)
    rcases dep_up hg hl with ⟨hu, hd⟩ | ⟨u, hu, hlt, hd⟩
    · rw [numB_top (by omega), hd]; omega
    · have := ih u (by omega) (by omega)
      rw [numB_up hu, ByteArray.size_append, ByteArray.size_append, show (⟨#[46]⟩ : ByteArray).size = 1 from rfl, hd]; omega
theorem word_list {s : ByteArray} (h : isWordB s = true) (c : UInt8) (hc : az c = false) : ∀ b ∈ s.data.toList, b ≠ c := by
  unfold isWordB at h
  simp only [Bool.and_eq_true] at h
  have h2 := h.2
  unfold allAz at h2
  rw [List.all_eq_true] at h2
  intro b hb
  have := h2 b hb
  rintro rfl
  rw [hc] at this; cases this
/-- the line of a section, without its end -/
def ln (z : List M) (k : Nat) : List UInt8 := (numB z k).data.toList ++ 32 :: (titleAt z k).data.toList
def lns (z : List M) : List (List UInt8) := (List.range z.length).map (ln z)
theorem line_list (z : List M) (k : Nat) : (lineD z k).data.toList = ln z k ++ [10] := by
  unfold lineD ln
  rw [app_list, app_list, app_list]
  simp
theorem txt_list (z : List M) : ∀ k, (txt z k).data.toList = ended 10 ((List.range k).map (ln z))
  | 0 => rfl
  | k + 1 => by
    rw [List.range_succ, List.map_append, List.map_singleton, ended_snoc, ← txt_list z k, ← line_list]
    show (txt z k ++ lineD z k).data.toList = _
    rw [app_list]
theorem ln_clean {z : List M} (hg : goodB z = true) {k : Nat} (hk : k < z.length) : ∀ b ∈ ln z k, b ≠ 10 := by
  intro b hb
  have hw := good_word hg (List.getElem?_eq_getElem hk)
  rw [← title_at (List.getElem?_eq_getElem hk)] at hw
  unfold ln at hb
  simp only [List.mem_append, List.mem_cons] at hb
  rcases hb with hb | rfl | hb
  · exact numB_clean 10 (by decide) (by decide) (k + 1) k (by omega) b hb
  · decide
  · exact word_list hw 10 (by decide) b hb
theorem txt_split {z : List M} (hg : goodB z = true) : splitOf (txt z z.length).data.toList 10 = lns z ++ [[]] := by
  rw [txt_list]
  refine split_ended 10 _ fun y hy b hb => ?_
  obtain ⟨k, hk, rfl⟩ := List.mem_map.1 hy
  exact ln_clean hg (List.mem_range.1 hk) b hb
theorem txt_short {z : List M} (hg : goodB z = true) : ∀ k, k ≤ z.length → (txt z k).size ≤ 23 * k
  | 0, _ => Nat.zero_le _
  | k + 1, h => by
    have ih := txt_short hg k (by omega)
    have hn := numB_short hg (k + 1) k (by omega) (by omega)
    have hd := good_dep hg (k := k) (by omega)
    have hw := word_size (good_word hg (List.getElem?_eq_getElem (show k < z.length by omega)))
    rw [← title_at (List.getElem?_eq_getElem (show k < z.length by omega))] at hw
    unfold txt lineD
    rw [ByteArray.size_append, ByteArray.size_append, ByteArray.size_append, ByteArray.size_append, show (⟨#[32]⟩ : ByteArray).size = 1 from rfl, show (⟨#[10]⟩ : ByteArray).size = 1 from rfl]
    omega
/-- a line, read: the words before and behind its first space -/
def RdI (l : List UInt8) (r : M) : Prop := ∃ a b, l = a ++ 32 :: b ∧ (∀ x ∈ a, x ≠ 32) ∧ r = ⟨(a.count 46 : Nat) + 1, ⟨b.toArray⟩⟩
theorem cut_uniq {a b a' b' : List UInt8} {c : UInt8} (h : a ++ c :: b = a' ++ c :: b') (ha : ∀ x ∈ a, x ≠ c) (ha' : ∀ x ∈ a', x ≠ c) : a = a' ∧ b = b' := by
  induction a generalizing a' with
  | nil =>
    cases a' with
    | nil => simpa using h
    | cons y a' => simp only [List.nil_append, List.cons_append, List.cons.injEq] at h; exact absurd h.1.symm (ha' y (by simp))
  | cons x a ih =>
    cases a' with
    | nil => simp only [List.nil_append, List.cons_append, List.cons.injEq] at h; exact absurd h.1 (ha x (by simp))
    | cons y a' =>
      simp only [List.cons_append, List.cons.injEq] at h
      have := ih h.2 (fun z hz => ha z (by simp [hz])) (fun z hz => ha' z (by simp [hz]))
      exact ⟨by rw [h.1, this.1], this.2⟩
theorem rdI_uniq {l : List UInt8} {r r' : M} (h : RdI l r) (h' : RdI l r') : r = r' := by
  obtain ⟨a, b, rfl, ha, rfl⟩ := h
  obtain ⟨a', b', e, ha', rfl⟩ := h'
  obtain ⟨rfl, rfl⟩ := cut_uniq e ha ha'
  rfl
/-- a line, read: two words -/
def RdS (l : List UInt8) (r : M) : Prop := ∃ a b, splitOf l 32 = [a, b] ∧ r = ⟨((splitOf a 46).length : Nat), ⟨b.toArray⟩⟩
theorem rdS_uniq {l : List UInt8} {r r' : M} (h : RdS l r) (h' : RdS l r') : r = r' := by
  obtain ⟨a, b, e, rfl⟩ := h
  obtain ⟨a', b', e', rfl⟩ := h'
  rw [e] at e'
  simp only [List.cons.injEq, and_true] at e'
  obtain ⟨rfl, rfl⟩ := e'
  rfl
theorem rec_eq {z : List M} (hg : goodB z = true) {k : Nat} (hk : k < z.length) : z[k] = ⟨((numB z k).data.toList.count 46 : Nat) + 1, ⟨(titleAt z k).data.toList.toArray⟩⟩ := by
  have hd := numB_dots hg (k + 1) k (by omega) hk
  rw [dep_at (List.getElem?_eq_getElem hk)] at hd
  have ht := title_at (List.getElem?_eq_getElem hk)
  rw [ht, hd]
theorem ln_rdI {z : List M} (hg : goodB z = true) {k : Nat} (hk : k < z.length) : RdI (ln z k) z[k] :=
  ⟨_, _, rfl, numB_clean 32 (by decide) (by decide) (k + 1) k (by omega), rec_eq hg hk⟩
theorem ln_rdS {z : List M} (hg : goodB z = true) {k : Nat} (hk : k < z.length) : RdS (ln z k) z[k] := by
  have hw := good_word hg (List.getElem?_eq_getElem hk)
  rw [← title_at (List.getElem?_eq_getElem hk)] at hw
  refine ⟨(numB z k).data.toList, (titleAt z k).data.toList, ?_, ?_⟩
  · unfold ln
    rw [splitOf_cut _ _ _ (numB_clean 32 (by decide) (by decide) (k + 1) k (by omega)), splitOf_none _ _ (word_list hw 32 (by decide))]
  · rw [split_count]; exact rec_eq hg hk
theorem lns_len (z : List M) : (lns z).length = z.length := by unfold lns; simp
theorem lns_get (z : List M) {k : Nat} {l : List UInt8} (h : (lns z)[k]? = some l) : k < z.length ∧ l = ln z k := by
  have hk : k < z.length := by rw [← lns_len z]; exact (List.getElem?_eq_some_iff.1 h).1
  unfold lns at h
  rw [List.getElem?_map, List.getElem?_range hk] at h
  exact ⟨hk, by simpa using h.symm⟩
theorem reads_I {z : List M} (hg : goodB z = true) : Reads RdI (lns z) z := ⟨lns_len z, fun i l r hl hr => by
  obtain ⟨hk, rfl⟩ := lns_get z hl
  rw [List.getElem?_eq_getElem hk] at hr
  rw [← Option.some.inj hr]; exact ln_rdI hg hk⟩
theorem reads_S {z : List M} (hg : goodB z = true) : Reads RdS (lns z) z := ⟨lns_len z, fun i l r hl hr => by
  obtain ⟨hk, rfl⟩ := lns_get z hl
  rw [List.getElem?_eq_getElem hk] at hr
  rw [← Option.some.inj hr]; exact ln_rdS hg hk⟩
/-- what both answer: the document whose text it is, or none -/
def Ans (s : ByteArray) (r0 : List M) (r1 : Bool) : Prop :=
  (r1 = true ∧ goodB r0 = true ∧ txt r0 r0.length = s) ∨ ((r1 = false ∧ r0 = []) ∧ ∀ q : List M, goodB q = true → txt q q.length ≠ s)
theorem found {s : ByteArray} {q : List M} (hg : goodB q = true) (ht : txt q q.length = s) : s.size ≤ 300 ∧ splitOf s.data.toList 10 = lns q ++ [[]] := by
  subst ht
  have h12 := good_len hg
  have := txt_short hg q.length (Nat.le_refl _)
  exact ⟨by omega, txt_split hg⟩
theorem txt_inj {q q' : List M} (hg : goodB q = true) (hg' : goodB q' = true) (h : txt q q.length = txt q' q'.length) : q = q' := by
  have h1 := txt_split hg
  have h2 := txt_split hg'
  rw [h, h2] at h1
  have e := (List.append_inj' h1 rfl).1
  have r1 := reads_I hg
  have r2 := reads_I hg'
  rw [e] at r2
  exact reads_uniq (P := RdI) (fun _ _ _ a b => rdI_uniq a b) r1 r2
theorem same {s : ByteArray} {r0 s0 : List M} {r1 s1 : Bool} (h : Ans s r0 r1) (h' : Ans s s0 s1) : r0 = s0 ∧ r1 = s1 := by
  rcases h with ⟨rfl, g, t⟩ | ⟨⟨rfl, rfl⟩, n⟩ <;> rcases h' with ⟨rfl, g', t'⟩ | ⟨⟨rfl, rfl⟩, n'⟩
  · exact ⟨txt_inj g g' (t.trans t'.symm), rfl⟩
  · exact absurd t (n' _ g)
  · exact absurd t' (n _ g')
  · exact ⟨rfl, rfl⟩
theorem len0 {s : ByteArray} {r0 : List M} {r1 : Bool} (h : Ans s r0 r1) : r0.length ≤ 1048576 := by
  rcases h with ⟨_, g, _⟩ | ⟨⟨_, rfl⟩, _⟩
  · have := good_len g; omega
  · simp
/-- none: too long, no end, a line that cannot be read -/
theorem ans_none {s : ByteArray} (h : ∀ q : List M, goodB q = true → txt q q.length ≠ s) : Ans s [] false := .inr ⟨⟨rfl, rfl⟩, h⟩
theorem ans_yes {s : ByteArray} {q : List M} (h : goodB q = true) (t : txt q q.length = s) : Ans s q true := .inl ⟨rfl, h, t⟩
/-- the list that was read is the only one that can have the text -/
theorem only {P : List UInt8 → M → Prop} (hP : ∀ l r r', P l r → P l r' → r = r') (hR : ∀ q : List M, goodB q = true → Reads P (lns q) q) {s : ByteArray} {ls : List (List UInt8)} {xs : List M} (hs : splitOf s.data.toList 10 = ls ++ [[]]) (hx : Reads P ls xs) (hn : ¬ (goodB xs = true ∧ txt xs xs.length = s)) :
    Ans s [] false := ans_none fun q hg ht => by
  have := (found hg ht).2
  rw [hs] at this
  have e := (List.append_inj' this rfl).1
  have h2 := hR q hg
  rw [← e] at h2
  have := reads_uniq hP hx h2
  subst this
  exact hn ⟨hg, ht⟩
end Go.Proofs.YtmpolpeomabcfaaDoor.DocP
