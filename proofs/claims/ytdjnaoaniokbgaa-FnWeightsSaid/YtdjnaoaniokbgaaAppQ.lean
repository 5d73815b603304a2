/- Appends and copies whose source may be nil. No condition. -/
import Derived.Test.YtdjnaoaniokbgaaCompB
import Derived.Test.YtdjnaoaniokbgaaHeldA
import Derived.Test.YtdjnaoaniokbgaaCopyW
import Derived.Laws.OwnMore
import Derived.Laws.CopyRow
import Derived.Shelf.Spec.SlicesInsert
namespace Go.Proofs.Ytdjnaoaniokbgaa.Bs
open Go Go.RowKit
set_option linter.unusedVariables false
/-- what a source of m elements holds: nil, or these cells -/
def Feeds (w : World) (ao : Option Addr) (m c : Nat) (news : List Value) : Prop := (ao = none ∧ m = 0 ∧ c = 0 ∧ news = []) ∨ ∃ ad : Addr, ao = some ad ∧ ∀ (j : Nat) (u : Value), news[j]? = some u → w.cell? (ad.add j) = some u
theorem IsQ.src {α : Type} {T : Rec α} {w : World} {ao : Option Addr} {n c : Nat} {xs : List α} (h : IsQ T w (.slice ao n c) xs) : Feeds w ao n c (flat T xs) ∧ xs.length = n := by
  rcases h with ⟨e, rfl⟩ | ⟨b, o, c', e, hb, h1, h2, h3⟩
  · simp only [Value.slice.injEq] at e
    obtain ⟨rfl, rfl, rfl⟩ := e
    exact ⟨.inl ⟨rfl, rfl, rfl, rfl⟩, rfl⟩
  · simp only [Value.slice.injEq] at e
    obtain ⟨rfl, rfl, rfl⟩ := e
    exact ⟨.inr ⟨_, rfl, IsS.flatCells T ⟨b, o, _, rfl, hb, h1, h2, h3⟩⟩, rfl⟩
theorem run_append_q {P : Program} (w : World) (base : Nat) (t ty e : TypeId) (i : TypeInfo) (z : Value) (size bytes : Nat) (ht : P.underlying t = some (.slice e)) (hi : P.info? e = some i) (hz : i.zero = some z)
    (hsize : i.size = size) (hby : i.bytes = bytes) (hzs : z.cells.size = size) (hsz : 0 < size)
    (v : Value) (n : Nat) (xs : List Value) (hown : w.ownsRow base e size v n xs)
    (ao : Option Addr) (m c : Nat) (news : List Value) (hl : news.length = m * size) (hsrc : Feeds w ao m c news) (h1 : ∀ u ∈ news, u.oneCell' = true)
    (h63 : n + m ≤ maxLen) (hbytes : (n + m) * bytes ≤ 140737488355328) (hbase : base ≤ w.heap.size) :
    ∃ v' w', (Builtin.append_ #[t, t] ty #[v, .slice ao m c]).run P w = .ok v' w' ∧ w'.ownsRow base e size v' (n + m) (xs ++ news) ∧ w.grownBy w' v.ownBlock ∧
      (v' = .slice none 0 0 ↔ v = .slice none 0 0 ∧ m = 0) ∧ (v'.ownBlock = v.ownBlock ∨ v'.ownBlock = some w.heap.size) := by
  rcases hsrc with ⟨rfl, rfl, rfl, rfl⟩ | ⟨ad, rfl, hnews⟩
  · refine ⟨v, w, run_append_owned_none w base t ty e i size ht hi v n xs hown, by rw [List.append_nil]; exact hown, ⟨rfl, rfl, rfl, Nat.le_refl _, fun _ _ _ => rfl⟩, ⟨fun h => ⟨h, rfl⟩, fun h => h.1⟩, .inl rfl⟩
  · exact run_append_own_at (P := P) w base t ty e i z size bytes ht hi hz hsize hby hzs hsz v n xs hown ad m c news hl hnews h1 h63 hbytes hbase
theorem step_append_q {P : Program} {w : World} {ops : Array Oper} {o : Oper} {a : Act} {K : Act → World → Prop} {Q : Exit → Act → World → Prop} {E : Prop} (hgd : o.guard = none) (s x : Operand) (t : TypeId)
    (ho : o.op = .call { callee := .builtin .append, args := #[s, x], argTypes := #[t, t] })
    (base : Nat) (e : TypeId) (i : TypeInfo) (z : Value) (size bytes : Nat) (ht : P.underlying t = some (.slice e)) (hi : P.info? e = some i) (hz : i.zero = some z)
    (hsize : i.size = size) (hby : i.bytes = bytes) (hzs : z.cells.size = size) (hsz : 0 < size)
    (v : Value) (n : Nat) (xs : List Value) (hs : a.eval s = v) (hown : w.ownsRow base e size v n xs)
    (ao : Option Addr) (m c : Nat) (news : List Value) (hx : a.eval x = .slice ao m c) (hl : news.length = m * size) (hsrc : Feeds w ao m c news) (h1 : ∀ u ∈ news, u.oneCell' = true)
    (h63 : n + m ≤ maxLen) (hbytes : (n + m) * bytes ≤ 140737488355328) (hbase : base ≤ w.heap.size)
    (h : ∀ v' w', w'.ownsRow base e size v' (n + m) (xs ++ news) → w.grownBy w' v.ownBlock → (v' = .slice none 0 0 ↔ v = .slice none 0 0 ∧ m = 0) → (v'.ownBlock = v.ownBlock ∨ v'.ownBlock = some w.heap.size) → K (a.put o.dst v') w') :
    if Region.wanted o (yielded ops a.tmps) = true then Oper.wp P o a w K Q else E := by
  have hw : Region.wanted o (yielded ops a.tmps) = true := by simp [Region.wanted, hgd]
  rw [if_pos hw]
  obtain ⟨v', w', hr, h2, h3, h4, h5⟩ := run_append_q (P := P) w base t o.type e i z size bytes ht hi hz hsize hby hzs hsz v n xs hown ao m c news hl hsrc h1 h63 hbytes hbase
  unfold Oper.wp execOp
  simp only [ho, resolve, invoke, builtin, Sem.run_bind, Sem.run_pure, Result.andThen_ok, List.map_toArray, List.map_cons, List.map_nil, hs, hx, hr]
  exact h v' w' h2 h3 h4 h5
theorem wpList_append_q {P : Program} (w : World) {ops : Array Oper} {rest : List Oper} {o : Oper} {a : Act} {Q : Exit → Act → World → Prop} (hgd : o.guard = none) (s x : Operand) (t : TypeId)
    (ho : o.op = .call { callee := .builtin .append, args := #[s, x], argTypes := #[t, t] })
    (base : Nat) (e : TypeId) (i : TypeInfo) (z : Value) (size bytes : Nat) (ht : P.underlying t = some (.slice e)) (hi : P.info? e = some i) (hz : i.zero = some z)
    (hsize : i.size = size) (hby : i.bytes = bytes) (hzs : z.cells.size = size) (hsz : 0 < size)
    (v : Value) (n : Nat) (xs : List Value) (hs : a.eval s = v) (hown : w.ownsRow base e size v n xs)
    (ao : Option Addr) (m c : Nat) (news : List Value) (hx : a.eval x = .slice ao m c) (hl : news.length = m * size) (hsrc : Feeds w ao m c news) (h1 : ∀ u ∈ news, u.oneCell' = true)
    (h63 : n + m ≤ maxLen) (hbytes : (n + m) * bytes ≤ 140737488355328) (hbase : base ≤ w.heap.size)
    (h : ∀ v' w', w'.ownsRow base e size v' (n + m) (xs ++ news) → w.grownBy w' v.ownBlock → (v' = .slice none 0 0 ↔ v = .slice none 0 0 ∧ m = 0) → (v'.ownBlock = v.ownBlock ∨ v'.ownBlock = some w.heap.size) → wpList P ops Q rest (a.put o.dst v') w') : wpList P ops Q (o :: rest) a w := by
  refine wpList_plain hgd fun K hK => ?_
  obtain ⟨v', w', hr, h2, h3, h4, h5⟩ := run_append_q (P := P) w base t o.type e i z size bytes ht hi hz hsize hby hzs hsz v n xs hown ao m c news hl hsrc h1 h63 hbytes hbase
  unfold Oper.wp execOp
  simp only [ho, resolve, invoke, builtin, Sem.run_bind, Sem.run_pure, Result.andThen_ok, List.map_toArray, List.map_cons, List.map_nil, hs, hx, hr]
  exact hK _ _ (h v' w' h2 h3 h4 h5)
/-- a whole slice copied over one of the call's own, of the same length -/
theorem copy_full {α : Type} {T : Rec α} {P : Program} {E : TypeId} {A g n cp : Nat} {zs xs : List α} {ao : Option Addr} {c : Nat} (w : World) (dT sT ty : TypeId) (hu : P.underlying dT = some (.slice E)) (hs : (P.info? E).map (·.size) = some T.n)
    (hown : Own T E w A (.slice (some ⟨g, 0, none⟩) n cp) zs) (hx : xs.length = n) (hsrc : Feeds w ao n c (flat T xs)) :
    ∃ w', (Builtin.copy_ #[dT, sT] ty #[.slice (some ⟨g, 0, none⟩) n cp, .slice ao n c]).run P w = .ok (goInt (n : Int)) w' ∧ Own T E w' A (.slice (some ⟨g, 0, none⟩) n cp) xs ∧ Apart g (g + 1) w w' := by
  obtain ⟨cur, hg, hcs, htk, hAg, hnc, hcm, hzl⟩ := own_row hown
  rcases hsrc with ⟨rfl, rfl, rfl, hnil⟩ | ⟨ad, rfl, hnews⟩
  · have hx0 : xs = [] := List.eq_nil_of_length_eq_zero hx
    have hz0 : zs = [] := List.eq_nil_of_length_eq_zero hzl
    subst hx0 hz0
    refine ⟨w, run_copy_nil P w dT sT ty E ⟨g, 0, none⟩ 0 cp hu (by rw [hs]; rfl), hown, Apart.refl _ _ _⟩
  · have hlen : (flat T xs).length = n * T.n := by rw [flat_len, hx]
    have hroom : n * T.n ≤ cur.size := by rw [hcs]; exact Nat.mul_le_mul_right _ hnc
    have hr := run_copy_row_w (P := P) w dT sT ty E T.n g 0 n cp ad n c n cur E (flat T xs) hu hs hg (Nat.min_self _) hlen hnews (by rw [hlen]; omega) (flat_one T xs)
    refine ⟨_, hr, ?_, ?_⟩
    · refine own_mk (C := cur.toList.take 0 ++ flat T xs ++ cur.toList.drop (0 + (flat T xs).length)) ?_ hAg hx hnc hcm ?_ ⟨cur.toList.drop (0 + (flat T xs).length), by simp⟩
      · exact setRow_heap w g cur _ E _ hg
      · simp only [List.take_zero, List.nil_append, List.length_append, List.length_drop, Array.length_toList, Nat.zero_add]
        omega
    · exact ⟨rfl, rfl, rfl, by simp, fun k _ hk => setRow_other w g k _ (by omega)⟩
end Go.Proofs.Ytdjnaoaniokbgaa.Bs
