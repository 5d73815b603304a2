/- FnRanks: what the law wants of lists of rules. No condition. -/
import Derived.Test.YtbaflfbidgolfaaAddC
import Derived.Test.YtbaflfbidgolfaaChangeC
import Derived.Test.YtbaflfbidgolfaaAbove
import Derived.Test.YtbaflfbidgolfaaByName
import Derived.Test.YtbaflfbidgolfaaRanV
namespace Go.Proofs.Ytbaflfbidgolfaa.RanM
open Go.RowKit Bs Ins Rule IntF
set_option linter.unusedVariables false
set_option maxRecDepth 100000
theorem pos_less : ∀ (xs : List LRule.R) (id : Int), Less xs id (pos xs id)
  | [], _ => fun j p hj hp => by simp at hp
  | x :: xs, id => fun j p hj hp => by
    unfold pos at hj
    rw [List.takeWhile_cons] at hj
    split at hj
    · rename_i hx
      cases j with
      | zero => rw [← Option.some.inj hp]; simpa using hx
      | succ j => exact pos_less xs id j p (by simpa [pos] using hj) (by simpa using hp)
    · simp at hj
theorem ins_pos (z : List LRule.R) (r : LRule.R) : (ins z r)[pos z r.id]? = some r := by
  have hp := pos_le z r.id
  have hl : (z.take (pos z r.id)).length = pos z r.id := by rw [List.length_take]; omega
  unfold ins
  rw [List.append_assoc, List.getElem?_append_right (by omega), hl, Nat.sub_self]
  rfl
theorem ins_low {z : List LRule.R} {r p : LRule.R} {j : Nat} (hj : j < pos z r.id) (h : (ins z r)[j]? = some p) : p.id ≠ r.id := by
  have hp := pos_le z r.id
  unfold ins at h
  rw [List.append_assoc, List.getElem?_append_left (by rw [List.length_take]; omega), List.getElem?_take, if_pos hj] at h
  have := pos_less z r.id j p hj h
  omega
theorem add_told {z r0 : List LRule.R} {r : LRule.R} (h : Ins.Ans z r r0 true) : Gd.goodB (ins z r) = true ∧ r0 = ins z r := by
  rcases h with ⟨_, h2, h3, _⟩ | ⟨_, _, h⟩
  · exact ⟨h2, h3⟩
  · cases h
theorem found {z : List LRule.R} {r q : LRule.R} {b : Bool} (hg : Gd.goodB (ins z r) = true) (h : ByName.Ans (ins z r) r.name q b) : q = r ∧ b = true :=
  h.same (ByName.Ans.hit hg _ r (ins_pos z r) rfl)
theorem set_same {xs : List LRule.R} {k : Nat} {r : LRule.R} (hk : xs[k]? = some r) : xs.set k { r with rank := r.rank } = xs := by
  have h : ({ r with rank := r.rank } : LRule.R) = r := rfl
  rw [h]
  apply List.ext_getElem?
  intro i
  rw [List.getElem?_set]
  split
  · rename_i e
    subst e
    split
    · exact hk.symm
    · rename_i h2
      rw [List.getElem?_eq_none (by omega)] at hk
      cases hk
  · rfl
theorem changed {z c : List LRule.R} {r : LRule.R} {b : Bool} (hg : Gd.goodB (ins z r) = true) (h : Change.Ans (ins z r) r.id r.rank c b) : c = ins z r ∧ b = true := by
  have hs := set_same (ins_pos z r)
  have h2 := h.same (Change.Ans.yes hg (pos z r.id) r (ins_pos z r) rfl (fun j p hj hp => ins_low hj hp) (by rw [hs]; exact hg))
  rw [hs] at h2
  exact h2
theorem mem_sel {xs : List LRule.R} {a x : Int} : x ∈ Above.sel xs a xs.length ↔ ∃ r ∈ xs, r.rank = a ∧ r.id = x := by
  unfold Above.sel
  rw [List.take_length]
  simp only [List.mem_map, List.mem_filter, beq_iff_eq, and_assoc]
theorem mem_abv {xs : List LRule.R} {x : Int} : ∀ d : Nat, x ∈ Above.abv xs d ↔ ∃ r ∈ xs, 9 - (d : Int) < r.rank ∧ r.rank ≤ 9 ∧ r.id = x
  | 0 => by
    constructor
    · intro h; simp [Above.abv] at h
    · rintro ⟨r, _, h1, h2, _⟩; omega
  | d + 1 => by
    rw [Above.abv, List.mem_append, mem_abv d, mem_sel]
    constructor
    · rintro (⟨r, hr, h1, h2, h3⟩ | ⟨r, hr, h1, h2⟩)
      · exact ⟨r, hr, by omega, h2, h3⟩
      · exact ⟨r, hr, by omega, by omega, h2⟩
    · rintro ⟨r, hr, h1, h2, h3⟩
      by_cases h : r.rank = 9 - (d : Int)
      · exact .inr ⟨r, hr, h, h3⟩
      · exact .inl ⟨r, hr, by omega, h2, h3⟩
theorem id_asc {xs : List LRule.R} (h : Gd.goodB xs = true) : ∀ (i k : Nat) (a b : LRule.R), k < i → xs[k]? = some a → xs[i]? = some b → a.id < b.id
  | 0, k, a, b, hk, _, _ => by omega
  | i + 1, k, a, b, hk, ha, hb => by
    have hlt : i + 1 < xs.length := (List.getElem?_eq_some_iff.1 hb).1
    obtain ⟨r, hr, _, hasc, _⟩ := (Gd.good_of h).2 (i + 1) hlt
    rw [hb] at hr
    obtain rfl := Option.some.inj hr
    have hc : xs[i]? = some (xs[i]'(by omega)) := List.getElem?_eq_getElem _
    have h1 := hasc _ (Nat.succ_pos i) hc
    by_cases e : k = i
    · subst e
      rw [ha] at hc
      rw [Option.some.inj hc]
      exact h1
    · have := id_asc h i k a _ (by omega) ha hc
      omega
theorem id_one {xs : List LRule.R} (h : Gd.goodB xs = true) {i k : Nat} {a b : LRule.R} (ha : xs[k]? = some a) (hb : xs[i]? = some b) (e : a.id = b.id) : a = b := by
  rcases Nat.lt_trichotomy k i with hk | hk | hk
  · have := id_asc h i k a b hk ha hb; omega
  · subst hk; rw [ha] at hb; exact Option.some.inj hb
  · have := id_asc h k i b a hk hb ha; omega
theorem above_has {xs : List LRule.R} {rank : Int} {ids : List Int} (h : Above.Ans xs rank ids true) {i : Nat} {X : LRule.R} (hx : xs[i]? = some X) : hasB ids X.id = decide (rank < X.rank) := by
  cases h with
  | yes g g1 g2 =>
    have hlt : i < xs.length := (List.getElem?_eq_some_iff.1 hx).1
    obtain ⟨r, hr, hok, _⟩ := (Gd.good_of g).2 i hlt
    rw [hx] at hr
    obtain rfl := Option.some.inj hr
    obtain ⟨_, _, h3, _⟩ : OkR X := of_decide_eq_true hok
    rw [Bool.eq_iff_iff, has_iff, mem_abv, decide_eq_true_iff]
    constructor
    · rintro ⟨q, hq, q1, q2, q3⟩
      obtain ⟨k, hk, e⟩ := List.getElem_of_mem hq
      obtain rfl := id_one g (show xs[k]? = some q by rw [List.getElem?_eq_getElem hk, e]) hx q3
      omega
    · intro hr
      exact ⟨X, List.mem_of_getElem? hx, by omega, h3.2, rfl⟩
theorem flat_ints : ∀ zs : List Int, flat LInt.rec zs = Ints.ints zs
  | [] => rfl
  | z :: zs => by rw [flat_cons, flat_ints zs]; rfl
theorem own_ints {w : World} {A : Nat} {v : Value} {zs : List Int} (h : Ints.OwnI w A v zs) : Own LInt.rec 3 w A v zs := by
  unfold Own
  rw [flat_ints]
  exact h
def AbovePost (z : List LRule.R) (rank : Int) (w : World) (e : Ending) (w' : World) : Prop :=
  ∃ v0 r0 r1, e = .returned (.tuple #[v0, .bool r1]) ∧ Above.Ans z rank r0 r1 ∧ Own LInt.rec 3 w' w.heap.size v0 r0 ∧ Below w.heap.size w w'
theorem aboveS (v : Value) (z : List LRule.R) (rank : Int) (w : World) (h0 : IsS LRule.rec w v z) (f0 : ∀ x ∈ z, LRule.Fine x) :
    Calls Try.prog 72 #[v, .int .i64 rank] w (AbovePost z rank w) := by
  obtain ⟨a, c, rfl, h1⟩ := IsS.is LRule.rec h0
  exact (Above.spec a _ c z rank w rfl (RuleC.rules h1) f0).mono fun e w' ⟨v, ys, b, he, ha, ho, hb⟩ => ⟨v, ys, b, he, ha, own_ints ho, hb⟩
theorem aboveI (v : Value) (z : List LRule.R) (rank : Int) (w : World) (h0 : IsS LRule.rec w v z) (f0 : ∀ x ∈ z, LRule.Fine x) :
    Calls Try.prog 71 #[v, .int .i64 rank] w (AbovePost z rank w) := by
  obtain ⟨a, c, rfl, h1⟩ := IsS.is LRule.rec h0
  exact (Above.impl a _ c z rank w rfl (RuleC.rules h1) f0).mono fun e w' ⟨v, ys, b, he, ha, ho, hb⟩ => ⟨v, ys, b, he, ha, own_ints ho, hb⟩
theorem nameS (v : Value) (z : List LRule.R) (nm : ByteArray) (w : World) (h0 : IsS LRule.rec w v z) (f0 : ∀ x ∈ z, LRule.Fine x) :
    Calls Try.prog 75 #[v, .string nm] w (ByName.Post z nm w) := by
  obtain ⟨a, c, rfl, h1⟩ := IsS.is LRule.rec h0
  exact ByName.spec a _ c z nm w rfl (RuleC.rules h1) f0
theorem nameI (v : Value) (z : List LRule.R) (nm : ByteArray) (w : World) (h0 : Is LRule.rec w v z) (f0 : ∀ x ∈ z, LRule.Fine x) :
    Calls Try.prog 55 #[v, .string nm] w (ByName.Post z nm w) := by
  obtain ⟨a, c, rfl, h1⟩ := h0
  exact ByName.impl a _ c z nm w rfl (RuleC.rules h1) f0
theorem changeI (v : Value) (z : List LRule.R) (a1 a2 : Int) (w : World) (h0 : Is LRule.rec w v z) (f0 : ∀ x ∈ z, LRule.Fine x) :
    Calls Try.prog 64 #[v, .int .i64 a1, .int .i64 a2] w (ChangeC.Post z a1 a2 w) := by
  obtain ⟨a, c, rfl, h1⟩ := h0
  exact (ChangeI.impl a _ c z a1 a2 w rfl (RuleC.rules h1) f0).mono fun e w' ⟨v, ys, b, he, ha, ho, hb⟩ => ⟨v, ys, b, he, ha, ho, hb⟩
theorem nameGot (v : Value) (z : List LRule.R) (r : LRule.R) (w : World) (h0 : Is LRule.rec w v (ins z r)) (f0 : ∀ x ∈ ins z r, LRule.Fine x) (hg : Gd.goodB (ins z r) = true) :
    Calls Try.prog 55 #[v, .string r.name] w fun e w' => e = .returned (.tuple #[.agg #[.int .i64 r.id, .string r.name, .int .i64 r.rank, .bool r.sec, .bool r.deb, .bool r.am, .int .i64 r.need], .bool true]) ∧ Below w.heap.size w w' :=
  (nameI v _ r.name w h0 f0).mono fun e w' ⟨q, b, he, ha, hb⟩ => by
    obtain ⟨h1, h2⟩ := found hg ha
    rw [h1, h2] at he
    exact ⟨he, hb⟩
theorem changeGot (v : Value) (z : List LRule.R) (r : LRule.R) (w : World) (h0 : Is LRule.rec w v (ins z r)) (f0 : ∀ x ∈ ins z r, LRule.Fine x) (hg : Gd.goodB (ins z r) = true) :
    Calls Try.prog 64 #[v, .int .i64 r.id, .int .i64 r.rank] w fun e w' => ∃ v0, e = .returned (.tuple #[v0, .bool true]) ∧ Is LRule.rec w' v0 (ins z r) ∧ Below w.heap.size w w' :=
  (changeI v _ r.id r.rank w h0 f0).mono fun e w' ⟨v0, c, b, he, ha, ho, hb⟩ => by
    obtain ⟨h1, h2⟩ := changed hg ha
    rw [h2] at he
    rw [h1] at ho
    exact ⟨v0, he, Own.is ho, hb⟩
end Go.Proofs.Ytbaflfbidgolfaa.RanM
