/- Floors: the rules of chapter 8. Plain mathematics. -/
import Derived.Test.YtmbffcblhhippaaJ1
import Derived.Test.YtmbffcblhhippaaIntF
import Derived.Test.YtmbffcblhhippaaSrt
namespace Go.Proofs.Ytmbffcblhhippaa.Fl
open Go.RowKit Bs Word Sq IntF
set_option linter.unusedVariables false
abbrev F := LFloor.R
abbrev S := LShare.R
/-- the share of a member: a zero one if there is none -/
def share (z : List S) (m : Int) : S := (got (fun X => (X.member == m)) z).getD ⟨m, 0, 0⟩
theorem share_hit {z : List S} {m : Int} {k : Nat} {X : S} (h : First (fun X => (X.member == m)) z k) (hx : z[k]? = some X) (hp : (X.member == m) = true) : share z m = X := by
  unfold share; rw [got_hit h hx hp]; rfl
theorem share_none {z : List S} {m : Int} {k : Nat} (h : First (fun X => (X.member == m)) z k) (hk : z.length ≤ k) : share z m = ⟨m, 0, 0⟩ := by
  unfold share; rw [got_none h hk]; rfl
theorem share_member (z : List S) (m : Int) : (share z m).member = m := by
  unfold share
  cases e : got (fun X => (X.member == m)) z with
  | none => rfl
  | some X => have := (got_some e).2; simpa using this
def ent (f : F) (m : Int) : Bool := decide ((share f.shares m).turns < f.turns) && decide ((share f.shares m).seconds < f.seconds)
def okS (f : F) (X : S) : Bool := inB X.member 1 99 && (inB X.turns 0 f.turns && inB X.seconds 0 f.seconds)
def ShOk (f : F) (i : Nat) : Prop := ∀ X, f.shares[i]? = some X → okS f X = true ∧ ∀ p, 0 < i → f.shares[i - 1]? = some p → p.member < X.member
def ShP (f : F) : Prop := ∀ i, ShOk f i
open Classical in
noncomputable def shB (f : F) : Bool := decide (ShP f)
open Classical in
theorem sh_yes {f : F} (h : ShP f) : shB f = true := decide_eq_true h
open Classical in
theorem sh_no {f : F} (h : ¬ ShP f) : shB f = false := decide_eq_false h
open Classical in
theorem sh_of {f : F} (h : shB f = true) : ShP f := of_decide_eq_true h
/-- what the test at a place tells: true is bad -/
def HeadS (f : F) (i : Nat) (v : Bool) : Prop := (v = true → shB f = false) ∧ (v = false → ShOk f i)
theorem headS_bad {f : F} {i : Nat} (h : ¬ ShOk f i) : HeadS f i true := ⟨fun _ => sh_no (fun g => h (g i)), (fun h => by cases h)⟩
theorem headS_fine {f : F} {i : Nat} (h : ShOk f i) : HeadS f i false := ⟨(fun h => by cases h), fun _ => h⟩
theorem sh_next {f : F} {k : Nat} (hs : ∀ i, i < k → ShOk f i) (h : ShOk f k) : ∀ i, i < k + 1 → ShOk f i := fun i hi => by
  rcases Nat.lt_or_ge i k with h' | h'
  · exact hs i h'
  · rwa [show i = k by omega]
theorem sh_all {f : F} {k : Nat} (hk : f.shares.length ≤ k) (hs : ∀ i, i < k → ShOk f i) : shB f = true :=
  sh_yes fun i X hx => hs i (by have := (List.getElem?_eq_some_iff.1 hx).1; omega) X hx
def waitOk (f : F) (i : Nat) (x : Int) : Bool := inB x 1 99 && (!hasB (f.waiting.take i) x && (!(x == f.speaking) && ent f x))
def WtOk (f : F) (i : Nat) : Prop := ∀ x, f.waiting[i]? = some x → waitOk f i x = true
def WtP (f : F) : Prop := ∀ i, WtOk f i
open Classical in
noncomputable def wtB (f : F) : Bool := decide (WtP f)
open Classical in
theorem wt_yes {f : F} (h : WtP f) : wtB f = true := decide_eq_true h
open Classical in
theorem wt_no {f : F} (h : ¬ WtP f) : wtB f = false := decide_eq_false h
open Classical in
theorem wt_of {f : F} (h : wtB f = true) : WtP f := of_decide_eq_true h
theorem wt_bad {f : F} {k : Nat} {x : Int} (hx : f.waiting[k]? = some x) (h : waitOk f k x = false) : wtB f = false := wt_no fun g => by have := g k x hx; rw [h] at this; cases this
theorem wt_next {f : F} {k : Nat} {x : Int} (hs : ∀ i, i < k → WtOk f i) (hx : f.waiting[k]? = some x) (h : waitOk f k x = true) : ∀ i, i < k + 1 → WtOk f i := fun i hi => by
  rcases Nat.lt_or_ge i k with h' | h'
  · exact hs i h'
  · obtain rfl : i = k := by omega
    intro y hy
    rw [hx] at hy
    rwa [← Option.some.inj hy]
theorem wt_all {f : F} {k : Nat} (hk : f.waiting.length ≤ k) (hs : ∀ i, i < k → WtOk f i) : wtB f = true :=
  wt_yes fun i x hx => hs i (by have := (List.getElem?_eq_some_iff.1 hx).1; omega) x hx
def spk (f : F) : Bool := (f.speaking == 0) || (inB f.speaking 1 99 && decide ((share f.shares f.speaking).turns < f.turns))
noncomputable def waits (f : F) : Bool := decide (f.waiting.length ≤ 10) && wtB f
noncomputable def good (f : F) : Bool := inB f.turns 1 3 && (inB f.seconds 1 3600 && (shB f && (waits f && spk f)))
theorem good_parts {f : F} (h : good f = true) : inB f.turns 1 3 = true ∧ inB f.seconds 1 3600 = true ∧ shB f = true ∧ f.waiting.length ≤ 10 ∧ wtB f = true ∧ spk f = true := by
  unfold good waits at h
  simp only [Bool.and_eq_true, decide_eq_true_eq] at h
  obtain ⟨h1, h2, h3, ⟨h4, h5⟩, h6⟩ := h
  exact ⟨h1, h2, h3, h4, h5, h6⟩
theorem good_sh {f : F} (h : good f = true) : ShP f := sh_of (good_parts h).2.2.1
-- ---------------------------------------------------------------- sorted shares
/-- all ahead of place j have lesser numbers -/
theorem sh_less {f : F} (h : ShP f) : ∀ (j : Nat) (X : S), f.shares[j]? = some X → ∀ (i : Nat) (Y : S), i < j → f.shares[i]? = some Y → Y.member < X.member
  | 0, X, hx, i, Y, hi, hy => by omega
  | j + 1, X, hx, i, Y, hi, hy => by
    have hj : j < f.shares.length := by have := (List.getElem?_eq_some_iff.1 hx).1; omega
    have hp := List.getElem?_eq_getElem hj
    have h1 : (f.shares[j]).member < X.member := (h (j + 1) X hx).2 _ (by omega) hp
    rcases Nat.lt_or_ge i j with h' | h'
    · have := sh_less h j _ hp i Y h' hy
      omega
    · obtain rfl : i = j := by omega
      rw [hp] at hy
      rw [← Option.some.inj hy]; exact h1
/-- where a member's share stands, or would -/
def pos (z : List S) (m : Int) : Nat := (z.findIdx? (fun X => !decide (X.member < m))).getD z.length
theorem pos_hit {z : List S} {m : Int} {k : Nat} {X : S} (h : First (fun X => !decide (X.member < m)) z k) (hx : z[k]? = some X) (hp : ¬ X.member < m) : pos z m = k := by
  unfold pos; rw [first_hit h hx (by simpa using hp)]; rfl
theorem pos_none {z : List S} {m : Int} {k : Nat} (h : First (fun X => !decide (X.member < m)) z k) (hk : z.length = k) : pos z m = k := by
  unfold pos; rw [first_none h (by omega)]; exact hk
theorem pos_first (z : List S) (m : Int) : First (fun X => !decide (X.member < m)) z (pos z m) := by
  unfold pos
  cases e : z.findIdx? (fun X => !decide (X.member < m)) with
  | none => exact fun j x _ hx => idx_none e x (List.mem_of_getElem? hx)
  | some k => exact (idx_some e).choose_spec.2.2
theorem pos_le (z : List S) (m : Int) : pos z m ≤ z.length := by
  unfold pos
  cases e : z.findIdx? (fun X => !decide (X.member < m)) with
  | none => exact Nat.le_refl _
  | some k => obtain ⟨X, hx, _⟩ := idx_some e; have := (List.getElem?_eq_some_iff.1 hx).1; show k ≤ z.length; omega
theorem pos_not {z : List S} {m : Int} {X : S} (hx : z[pos z m]? = some X) : ¬ X.member < m := by
  unfold pos at hx
  cases e : z.findIdx? (fun X => !decide (X.member < m)) with
  | none => rw [e] at hx; have := (List.getElem?_eq_some_iff.1 hx).1; simp at this
  | some k =>
    obtain ⟨Y, hy, hp, _⟩ := idx_some e
    rw [e] at hx
    have hx2 : z[k]? = some X := hx
    rw [hy] at hx2
    obtain rfl := Option.some.inj hx2
    simpa using hp
theorem pos_lt {z : List S} {m : Int} {i : Nat} {X : S} (hx : z[i]? = some X) (hi : i < pos z m) : X.member < m := by
  have := pos_first z m i X hi hx
  simpa using this
/-- whether there is a share -/
def has (z : List S) (m : Int) : Bool := match z[pos z m]? with
  | some X => X.member == m
  | none => false
theorem has_some {z : List S} {m : Int} {X : S} (hx : z[pos z m]? = some X) : has z m = (X.member == m) := by unfold has; rw [hx]
theorem has_end {z : List S} {m : Int} (h : z.length ≤ pos z m) : has z m = false := by unfold has; rw [List.getElem?_eq_none h]
theorem has_get {z : List S} {m : Int} (h : has z m = true) : ∃ X, z[pos z m]? = some X ∧ X.member = m := by
  unfold has at h
  cases e : z[pos z m]? with
  | none => rw [e] at h; cases h
  | some X => rw [e] at h; exact ⟨X, rfl, by simpa using h⟩
theorem share_has {z : List S} {m : Int} {X : S} (hx : z[pos z m]? = some X) (h : X.member = m) : share z m = X :=
  share_hit (k := pos z m) (fun j Y hj hy => by have := pos_lt hy hj; simp; omega) hx (by simpa using h)
theorem share_not {f : F} {m : Int} (hs : ShP f) (h : has f.shares m = false) : share f.shares m = ⟨m, 0, 0⟩ := by
  refine share_none (k := f.shares.length) (fun j Y hj hy => ?_) (Nat.le_refl _)
  rcases Nat.lt_or_ge j (pos f.shares m) with h' | h'
  · have := pos_lt hy h'; simp; omega
  · have hp : pos f.shares m < f.shares.length := by omega
    have hx := List.getElem?_eq_getElem hp
    have hn := pos_not hx
    rw [has_some hx] at h
    have hne : f.shares[pos f.shares m].member ≠ m := by simpa using h
    rcases Nat.lt_or_ge (pos f.shares m) j with h2 | h2
    · have := sh_less hs j Y hy _ _ h2 hx
      simp; omega
    · obtain rfl : j = pos f.shares m := by omega
      rw [hx] at hy
      rw [← Option.some.inj hy]; simpa using hne
/-- a share put where it belongs -/
def put (z : List S) (s : S) : List S := z.take (pos z s.member) ++ s :: z.drop (if has z s.member then pos z s.member + 1 else pos z s.member)
theorem put_set {z : List S} {s : S} (h : has z s.member = true) : put z s = z.set (pos z s.member) s := by
  obtain ⟨X, hx, _⟩ := has_get h
  have hl := (List.getElem?_eq_some_iff.1 hx).1
  unfold put
  rw [h, if_pos rfl, List.set_eq_take_append_cons_drop, if_pos hl]
theorem put_ins {z : List S} {s : S} (h : has z s.member = false) : put z s = z.take (pos z s.member) ++ s :: z.drop (pos z s.member) := by
  unfold put; rw [h]; rfl
theorem put_at (z : List S) (s : S) : (put z s)[pos z s.member]? = some s := by
  unfold put
  have hl : (z.take (pos z s.member)).length = pos z s.member := by rw [List.length_take]; have := pos_le z s.member; omega
  rw [List.getElem?_append_right (by omega), hl, Nat.sub_self]; rfl
theorem put_ahead {z : List S} {s Y : S} {j : Nat} (hj : j < pos z s.member) (hy : (put z s)[j]? = some Y) : Y.member < s.member := by
  unfold put at hy
  have hl : (z.take (pos z s.member)).length = pos z s.member := by rw [List.length_take]; have := pos_le z s.member; omega
  rw [List.getElem?_append_left (by omega), List.getElem?_take, if_pos hj] at hy
  exact pos_lt hy hj
theorem put_pos (z : List S) (s : S) : pos (put z s) s.member = pos z s.member :=
  pos_hit (fun j Y hj hy => by have := put_ahead hj hy; simpa using this) (put_at z s) (by omega)
theorem put_has (z : List S) (s : S) : has (put z s) s.member = true := by
  rw [has_some (by rw [put_pos]; exact put_at z s)]; simp
theorem put_share (z : List S) (s : S) : share (put z s) s.member = s := share_has (by rw [put_pos]; exact put_at z s) rfl
theorem put_len (z : List S) (s : S) : (put z s).length ≤ z.length + 1 := by
  have := pos_le z s.member
  unfold put
  simp only [List.length_append, List.length_cons, List.length_take, List.length_drop]
  split <;> omega
theorem put_put (z : List S) (s s' : S) (h : s'.member = s.member) : put (put z s) s' = put z s' := by
  have hp : pos (put z s) s'.member = pos z s'.member := by rw [h]; exact put_pos z s
  have hh : has (put z s) s'.member = true := by rw [h]; exact put_has z s
  have hl : (z.take (pos z s.member)).length = pos z s.member := by rw [List.length_take]; have := pos_le z s.member; omega
  have h1 : (put z s).take (pos z s'.member) = z.take (pos z s'.member) := by
    rw [h]; unfold put
    rw [List.take_append_of_le_length (by omega), List.take_take, Nat.min_self]
  have h2 : (put z s).drop (pos z s'.member + 1) = z.drop (if has z s'.member then pos z s'.member + 1 else pos z s'.member) := by
    rw [h]; unfold put
    rw [List.drop_append, hl, List.drop_eq_nil_of_le (by omega), List.nil_append, show pos z s.member + 1 - pos z s.member = 1 by omega]; rfl
  show (put z s).take (pos (put z s) s'.member) ++ s' :: (put z s).drop (if has (put z s) s'.member then pos (put z s) s'.member + 1 else pos (put z s) s'.member) = _
  rw [hh, if_pos rfl, hp, h1, h2]; rfl
def withS (f : F) (s : S) : F := { f with shares := put f.shares s }
/-- the turn of a share finished -/
def fin (f : F) (s : S) : F := { f with speaking := 0, shares := put f.shares { s with turns := s.turns + 1 } }
def yld (f : F) : F := fin f (share f.shares f.speaking)
theorem yld_with (f : F) (s : S) (h : s.member = f.speaking) : yld (withS f s) = fin f s := by
  have h1 : share (put f.shares s) f.speaking = s := by rw [← h]; exact put_share _ _
  show fin { f with shares := put f.shares s } (share (put f.shares s) f.speaking) = _
  rw [h1]
  show ({ f with speaking := 0, shares := put (put f.shares s) { s with turns := s.turns + 1 } } : F) = _
  rw [put_put f.shares s { s with turns := s.turns + 1 } rfl]; rfl
-- ---------------------------------------------------------------- those that wait
def without (z : List Int) (k : Nat) : List Int := z.take k ++ z.drop (k + 1)
theorem without_len {z : List Int} {k : Nat} (h : k < z.length) : (without z k).length + 1 = z.length := by unfold without; simp; omega
/-- the first of the least of the first i -/
def Best (key : Int → Int) (z : List Int) (i b : Nat) : Prop := ∃ v, z[b]? = some v ∧ b < i ∧ (∀ j x, j < i → z[j]? = some x → key v ≤ key x) ∧ ∀ j x, j < b → z[j]? = some x → key v < key x
theorem best_one {key : Int → Int} {z : List Int} (h : 0 < z.length) : Best key z 1 0 :=
  ⟨z[0], List.getElem?_eq_getElem h, by omega, fun j x hj hx => by obtain rfl : j = 0 := by omega
                                                                   rw [List.getElem?_eq_getElem h] at hx; rw [Option.some.inj hx]; exact Int.le_refl _, fun j x hj => by omega⟩
theorem best_new {key : Int → Int} {z : List Int} {i b : Nat} {u v : Int} (h : Best key z i b) (hi : z[i]? = some u) (hb : z[b]? = some v) (hlt : key u < key v) : Best key z (i + 1) i := by
  obtain ⟨v', hv', hbi, h1, h2⟩ := h
  rw [hb] at hv'
  obtain rfl := Option.some.inj hv'
  refine ⟨u, hi, by omega, fun j x hj hx => ?_, fun j x hj hx => ?_⟩
  · rcases Nat.lt_or_ge j i with h' | h'
    · have := h1 j x h' hx; omega
    · obtain rfl : j = i := by omega
      rw [hi] at hx; rw [Option.some.inj hx]; exact Int.le_refl _
  · have := h1 j x hj hx; omega
theorem best_old {key : Int → Int} {z : List Int} {i b : Nat} {u v : Int} (h : Best key z i b) (hi : z[i]? = some u) (hb : z[b]? = some v) (hlt : ¬ key u < key v) : Best key z (i + 1) b := by
  obtain ⟨v', hv', hbi, h1, h2⟩ := h
  rw [hb] at hv'
  obtain rfl := Option.some.inj hv'
  refine ⟨v, hb, by omega, fun j x hj hx => ?_, h2⟩
  rcases Nat.lt_or_ge j i with h' | h'
  · exact h1 j x h' hx
  · obtain rfl : j = i := by omega
    rw [hi] at hx; rw [← Option.some.inj hx]; omega
theorem best_lt {key : Int → Int} {z : List Int} {i b : Nat} (h : Best key z i b) : b < z.length := by obtain ⟨v, hv, _⟩ := h; exact (List.getElem?_eq_some_iff.1 hv).1
theorem best_unique {key : Int → Int} {z : List Int} {n b c : Nat} (h : Best key z n b) (g : Best key z n c) : b = c := by
  obtain ⟨v, hv, hbn, h1, h2⟩ := h
  obtain ⟨u, hu, hcn, g1, g2⟩ := g
  rcases Nat.lt_trichotomy b c with h' | h' | h'
  · have := g2 b v h' hv; have := h1 c u hcn hu; omega
  · exact h'
  · have := h2 c u h' hu; have := g1 b v hbn hv; omega
theorem best_ex (key : Int → Int) (z : List Int) (h : 0 < z.length) : ∃ b, Best key z z.length b := by
  have : ∀ i, 0 < i → i ≤ z.length → ∃ b, Best key z i b := by
    intro i
    induction i with
    | zero => intro h0; omega
    | succ i ih =>
      intro _ hi
      rcases Nat.eq_zero_or_pos i with rfl | h0
      · exact ⟨0, best_one h⟩
      · obtain ⟨b, hb⟩ := ih h0 (by omega)
        have hi' := List.getElem?_eq_getElem (show i < z.length by omega)
        have hb' := List.getElem?_eq_getElem (best_lt hb)
        by_cases hlt : key z[i] < key (z[b]'(best_lt hb))
        · exact ⟨i, best_new hb hi' hb' hlt⟩
        · exact ⟨b, best_old hb hi' hb' hlt⟩
  exact this _ h (Nat.le_refl _)
def lt (key : Int → Int) (a b : Int) : Bool := decide (key a < key b)
open Srt in
theorem ins_front {key : Int → Int} {P : List Int} {x : Int} (h : ∀ y ∈ P, key x < key y) : insS (lt key) P x = x :: P := by
  have : ∀ j, j ≤ P.length → Srt.pos (lt key) P x j = 0 := by
    intro j
    induction j with
    | zero => intro _; rfl
    | succ j ih =>
      intro hj
      have hp := List.getElem?_eq_getElem (show j < P.length by omega)
      rw [pos_go hp (decide_eq_true (h _ (List.getElem_mem _)))]
      exact ih (by omega)
  rw [ins_at rfl (this _ (Nat.le_refl _))]; simp
open Srt in
theorem ins_behind {key : Int → Int} {P : List Int} {v x : Int} (h : ¬ key x < key v) : insS (lt key) (v :: P) x = v :: insS (lt key) P x := by
  have : ∀ j, j ≤ P.length → Srt.pos (lt key) (v :: P) x (j + 1) = Srt.pos (lt key) P x j + 1 := by
    intro j
    induction j with
    | zero => intro _; exact pos_stop (p := v) rfl (decide_eq_false h)
    | succ j ih =>
      intro hj
      have hp := List.getElem?_eq_getElem (show j < P.length by omega)
      have hp2 : (v :: P)[j + 1]? = some P[j] := by rw [List.getElem?_cons_succ]; exact hp
      by_cases hl : key x < key P[j]
      · rw [pos_go hp2 (decide_eq_true hl), pos_go hp (decide_eq_true hl)]
        exact ih (by omega)
      · rw [pos_stop hp2 (decide_eq_false hl), pos_stop hp (decide_eq_false hl)]
  rw [ins_at (n := P.length + 1) rfl (this _ (Nat.le_refl _))]
  rw [List.take_succ_cons, List.drop_succ_cons]
  unfold insS; rfl
open Srt in
theorem srt_snoc {lt : Int → Int → Bool} (z : List Int) (x : Int) : srt lt (z ++ [x]) = insS lt (srt lt z) x := by unfold srt; rw [List.foldl_append]; rfl
theorem best_init {key : Int → Int} {z : List Int} {x : Int} {b : Nat} (h : Best key (z ++ [x]) (z.length + 1) b) (hb : b < z.length) : Best key z z.length b := by
  obtain ⟨v, hv, _, h1, h2⟩ := h
  have hg : ∀ j y, z[j]? = some y → (z ++ [x])[j]? = some y := fun j y hy => by rw [List.getElem?_append_left (List.getElem?_eq_some_iff.1 hy).1]; exact hy
  rw [List.getElem?_append_left hb] at hv
  exact ⟨v, hv, hb, fun j y hj hy => h1 j y (by omega) (hg j y hy), fun j y hj hy => h2 j y hj (hg j y hy)⟩
theorem without_snoc {z : List Int} {x : Int} {b : Nat} (hb : b < z.length) : without (z ++ [x]) b = without z b ++ [x] := by
  unfold without
  rw [List.take_append_of_le_length (by omega), List.drop_append_of_le_length (by omega), List.append_assoc]
theorem without_last {z : List Int} {x : Int} : without (z ++ [x]) z.length = z := by
  unfold without
  rw [List.take_append_of_le_length (Nat.le_refl _), List.take_length, List.drop_eq_nil_of_le (by simp), List.append_nil]
open Srt in
/-- sorting takes the first of the least, then sorts the rest -/
theorem srt_best {key : Int → Int} : ∀ (n : Nat) (z : List Int) (b : Nat) (v : Int), z.length = n → Best key z n b → z[b]? = some v → srt (lt key) z = v :: srt (lt key) (without z b)
  | 0, z, b, v, hn, hb, hv => by have := best_lt hb; omega
  | n + 1, z, b, v, hn, hb, hv => by
    obtain ⟨t, x, rfl⟩ : ∃ t x, z = t ++ [x] := ⟨z.dropLast, z.getLast (by intro h; rw [h] at hn; cases hn), (List.dropLast_concat_getLast _).symm⟩
    have ht : t.length = n := by simp at hn; exact hn
    subst ht
    have hbl : b < t.length + 1 := hb.choose_spec.2.1
    rcases Nat.lt_or_ge b t.length with h' | h'
    · have hbt := best_init hb h'
      rw [List.getElem?_append_left h'] at hv
      have ih := srt_best t.length t b v rfl hbt hv
      have hx : ¬ key x < key v := by
        obtain ⟨v', hv', _, h1, _⟩ := hb
        rw [List.getElem?_append_left h', hv] at hv'
        obtain rfl := Option.some.inj hv'
        have := h1 t.length x (by omega) (by simp)
        omega
      rw [srt_snoc, ih, ins_behind hx, without_snoc h', srt_snoc]
    · obtain rfl : b = t.length := by omega
      have hxv : x = v := by simpa using hv
      subst hxv
      rw [srt_snoc, without_last]
      refine ins_front fun y hy => ?_
      have hy2 := srt_mem hy
      obtain ⟨j, hj, rfl⟩ := List.getElem_of_mem hy2
      obtain ⟨v', hv', _, _, h2⟩ := hb
      rw [hv] at hv'
      obtain rfl := Option.some.inj hv'
      exact h2 j _ hj (by rw [List.getElem?_append_left hj]; exact List.getElem?_eq_getElem hj)
/-- taken one after the other: what was taken and what is left -/
theorem srt_take {key : Int → Int} {z out : List Int} {b : Nat} {v : Int} {all : List Int} (h : out ++ Srt.srt (lt key) z = all) (hb : Best key z z.length b) (hv : z[b]? = some v) : (out ++ [v]) ++ Srt.srt (lt key) (without z b) = all := by
  rw [srt_best z.length z b v rfl hb hv] at h
  rw [List.append_assoc]; exact h
/-- all but one are kept -/
theorem filter_without : ∀ (z : List Int) (k : Nat) (m : Int), z[k]? = some m → (∀ (i j : Nat) (x : Int), z[i]? = some x → z[j]? = some x → i = j) → z.filter (fun x => !(x == m)) = without z k
  | [], k, m, hk, _ => by simp at hk
  | y :: z, 0, m, hk, hd => by
    simp only [List.getElem?_cons_zero, Option.some.injEq] at hk
    subst hk
    show (y :: z).filter _ = z
    rw [List.filter_cons_of_neg (by simp), List.filter_eq_self]
    intro x hx
    obtain ⟨j, hj, rfl⟩ := List.getElem_of_mem hx
    have : z[j] ≠ y := fun e => by
      have := hd 0 (j + 1) y rfl (by rw [List.getElem?_cons_succ, List.getElem?_eq_getElem hj, e])
      omega
    simpa using this
  | y :: z, k + 1, m, hk, hd => by
    rw [List.getElem?_cons_succ] at hk
    have hne : y ≠ m := fun e => by
      have := hd 0 (k + 1) m (by rw [e]; rfl) (by rw [List.getElem?_cons_succ]; exact hk)
      omega
    rw [List.filter_cons_of_pos (by simpa using hne), filter_without z k m hk (fun i j x hi hj => by have := hd (i + 1) (j + 1) x (by simpa using hi) (by simpa using hj); omega)]
    rfl
theorem wt_distinct {f : F} (h : WtP f) : ∀ (i j : Nat) (x : Int), f.waiting[i]? = some x → f.waiting[j]? = some x → i = j := by
  have key : ∀ (i j : Nat) (x : Int), i < j → f.waiting[i]? = some x → f.waiting[j]? = some x → False := fun i j x hij hi hj => by
    have hw := h j x hj
    unfold waitOk at hw
    simp only [Bool.and_eq_true, Bool.not_eq_true'] at hw
    have hm : x ∈ f.waiting.take j := List.mem_of_getElem? (i := i) (by rw [List.getElem?_take, if_pos hij]; exact hi)
    rw [has_iff.2 hm] at hw
    cases hw.2.1
  intro i j x hi hj
  rcases Nat.lt_trichotomy i j with h' | h' | h'
  · exact (key i j x h' hi hj).elim
  · exact h'
  · exact (key j i x h' hj hi).elim
-- ---------------------------------------------------------------- asking
def ask (f : F) (m : Int) : F := { f with waiting := f.waiting ++ [m] }
def mayAsk (f : F) (m : Int) : Bool := inB m 1 99 && (!hasB f.waiting m && (!(f.speaking == m) && (ent f m && !decide ((f.waiting.length : Int) = 10))))
theorem wait_ask {f : F} {m : Int} {i : Nat} {x : Int} (hi : i ≤ f.waiting.length) : waitOk (ask f m) i x = waitOk f i x := by
  unfold waitOk ask
  rw [List.take_append_of_le_length hi]; rfl
theorem ask_waits {f : F} {m : Int} (h : good f = true) : waits (ask f m) = mayAsk f m := by
  obtain ⟨_, _, _, hl, hw, _⟩ := good_parts h
  have hw := wt_of hw
  have hlen : (ask f m).waiting.length = f.waiting.length + 1 := by simp [ask]
  have hlast : (ask f m).waiting[f.waiting.length]? = some m := by simp [ask]
  have hm : waitOk f f.waiting.length m = (inB m 1 99 && (!hasB f.waiting m && (!(f.speaking == m) && ent f m))) := by
    unfold waitOk
    rw [List.take_of_length_le (Nat.le_refl _), show (m == f.speaking) = (f.speaking == m) from Bool.eq_iff_iff.2 (by simp only [beq_iff_eq]; exact eq_comm)]
  unfold waits mayAsk
  rw [hlen]
  by_cases h10 : f.waiting.length = 10
  · rw [show decide (f.waiting.length + 1 ≤ 10) = false from decide_eq_false (by omega), show decide ((f.waiting.length : Int) = 10) = true from decide_eq_true (by omega)]
    simp
  · rw [show decide (f.waiting.length + 1 ≤ 10) = true from decide_eq_true (by omega), show decide ((f.waiting.length : Int) = 10) = false from decide_eq_false (by omega)]
    cases e : waitOk f f.waiting.length m with
    | true =>
      rw [wt_yes (show WtP (ask f m) from fun i x hx => ?_)]
      · rw [hm] at e; simp only [Bool.not_false, Bool.and_true]; exact e.symm
      · have hil := (List.getElem?_eq_some_iff.1 hx).1
        rw [hlen] at hil
        rw [wait_ask (by omega)]
        rcases Nat.lt_or_ge i f.waiting.length with h' | h'
        · refine hw i x ?_
          have hx2 : (f.waiting ++ [m])[i]? = some x := hx
          rwa [List.getElem?_append_left h'] at hx2
        · obtain rfl : i = f.waiting.length := by omega
          rw [hlast] at hx
          rw [← Option.some.inj hx]; exact e
    | false =>
      rw [wt_bad hlast (by rw [wait_ask (Nat.le_refl _)]; exact e)]
      rw [hm] at e; simp only [Bool.not_false, Bool.and_true, Bool.true_and]; exact e.symm
end Go.Proofs.Ytmbffcblhhippaa.Fl
