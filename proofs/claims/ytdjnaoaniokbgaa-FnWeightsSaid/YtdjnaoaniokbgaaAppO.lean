/- Appends to slices of the call's own, said of whole records; slices of the call's own that lie beside them. No condition. -/
import Derived.Test.YtdjnaoaniokbgaaAppQ
import Derived.Deep.DrawnRows
namespace Go.Proofs.Ytdjnaoaniokbgaa.Bs
open Go Go.RowKit
set_option linter.unusedVariables false
section
variable {α β : Type} {T : Rec α} {T2 : Rec β} {E E2 : TypeId} {w w' : World} {A A2 : Nat} {v u : Value} {xs : List α} {ys : List β}
theorem isq_slice (h : IsQ T w v xs) : ∃ ao n c, v = .slice ao n c := by
  rcases h with ⟨rfl, _⟩ | ⟨b, o, c, rfl, _⟩
  · exact ⟨_, _, _, rfl⟩
  · exact ⟨_, _, _, rfl⟩
theorem isq_len {ao : Option Addr} {n c : Nat} (h : IsQ T w (.slice ao n c) xs) : xs.length = n ∧ n ≤ c ∧ c ≤ maxLen := by
  rcases h with ⟨e, rfl⟩ | ⟨b, o, c', e, hb, h1, h2, h3⟩
  · simp only [Value.slice.injEq] at e
    obtain ⟨rfl, rfl, rfl⟩ := e
    exact ⟨rfl, Nat.le_refl _, Nat.zero_le _⟩
  · simp only [Value.slice.injEq] at e
    obtain ⟨rfl, rfl, rfl⟩ := e
    exact ⟨rfl, h1, h2⟩
/-- not empty: not nil -/
theorem isq_some {ao : Option Addr} {n c : Nat} (h : IsQ T w (.slice ao n c) xs) (hn : 0 < n) : ∃ b o, ao = some ⟨b, o, none⟩ ∧ b < w.heap.size ∧ IsS T w (.slice (some ⟨b, o, none⟩) n c) xs := by
  rcases h with ⟨e, rfl⟩ | ⟨b, o, c', e, hb, h1, h2, h3⟩
  · simp only [Value.slice.injEq] at e
    omega
  · simp only [Value.slice.injEq] at e
    obtain ⟨rfl, rfl, rfl⟩ := e
    exact ⟨b, o, rfl, hb, b, o, _, rfl, hb, h1, h2, h3⟩
theorem isq_isS {ad : Addr} {n c : Nat} (h : IsQ T w (.slice (some ad) n c) xs) : IsS T w (.slice (some ad) n c) xs := by
  rcases h with ⟨e, _⟩ | h
  · cases e
  · exact h
theorem isS_at {b o n c k : Nat} {x : α} (h : IsS T w (.slice (some ⟨b, o, none⟩) n c) xs) (hx : xs[k]? = some x) : b < w.heap.size ∧ At T w b (o + k * T.n) x := by
  obtain ⟨b', o', c', e, hbl, h1, h2, h3⟩ := h
  simp only [Value.slice.injEq, Option.some.injEq, Addr.mk.injEq, and_true] at e
  obtain ⟨⟨rfl, rfl⟩, rfl, rfl⟩ := e
  exact ⟨hbl, h3 k x hx⟩
theorem isS_feeds {b o n c : Nat} (h : IsS T w (.slice (some ⟨b, o, none⟩) n c) xs) : Feeds w (some ⟨b, o, none⟩) n c (flat T xs) := (IsQ.src (T := T) (.inr h)).1
theorem own_start (hA : A ≤ w.heap.size) : Own T E (w.alloc (.cells #[] E)) A (.slice (some ⟨w.heap.size, 0, none⟩) 0 0) [] := Own.start hA
theorem src_one {g : Nat} {x : α} {t : TypeId} (h : w.heap[g]? = some (.cells (T.vals x).toArray t (0, 0))) : Feeds w (some ⟨g, 0, none⟩) 1 1 (flat T [x]) := by
  refine .inr ⟨_, rfl, fun j u hu => ?_⟩
  rw [show flat T [x] = T.vals x from by simp [flat]] at hu
  rw [Go.WideShapes.add_plain, cell_of_row w g (0 + j) _ t (0, 0) h, Nat.zero_add]
  simpa using hu
theorem dist_alloc (h : Own T E w A v xs) (n c : Nat) : Dist v (.slice (some ⟨w.heap.size, 0, none⟩) n c) := fun k h1 h2 => by
  have := (h.lt k h1).2
  simp only [Value.ownBlock, Option.some.injEq] at h2
  omega
theorem dist_call (h : Own T E w A v xs) (h2 : Own T2 E2 w' w.heap.size u ys) : Dist v u := Dist.of_lt (fun k hk => (h.lt k hk).2) (fun k hk => (h2.lt k hk).1)
theorem dist_grow {u' : Value} (h : Own T E w A v xs) (hd : Dist v u) (hat : u'.ownBlock = u.ownBlock ∨ u'.ownBlock = some w.heap.size) : Dist v u' := fun k h1 h2 => by
  rcases hat with h' | h'
  · exact hd k h1 (by rw [← h']; exact h2)
  · have := (h.lt k h1).2
    rw [h2] at h'
    have := Option.some.inj h'
    omega
theorem own_besides (h : Own T E w A v xs) (hg : w.grownBy w' u.ownBlock) (hd : Dist v u) : Own T E w' A v xs := h.same fun k hk => hg.block k (h.lt k hk).2 (fun e => hd k hk e.symm)
theorem below_grown {B : Nat} {w0 : World} (hb : Below B w0 w) (hg : w.grownBy w' u.ownBlock) (hB : B ≤ w.heap.size) (hu : ∀ k, u.ownBlock = some k → B ≤ k) : Below B w0 w' := hb.grown hg hB hu
theorem box_besides {G : Nat} {t : TypeId} {cs : Array Value} (h : Bx w G t cs) (hg : w.grownBy w' u.ownBlock) (hd : u.ownBlock ≠ some G) : Bx w' G t cs := Bx.grownBy h hg hd
theorem box_apart {G : Nat} {t : TypeId} {cs : Array Value} {B C : Nat} (h : Bx w G t cs) (ha : Apart B C w w') (hd : G < B ∨ C ≤ G) : Bx w' G t cs := (ha.block G h.lt hd).trans h
theorem isq_apart {B C : Nat} {N : Nat} (h : ∀ w2 : World, Below N w w2 → N ≤ w2.heap.size → IsQ T w2 v xs) (ha : Apart B C w w') (hN : N ≤ B) (hz : N ≤ w.heap.size) : ∀ w2 : World, Below N w' w2 → N ≤ w2.heap.size → IsQ T w2 v xs :=
  fun w2 hb hz2 => h w2 ((ha.below hN hz).trans hb) hz2
theorem own_at {g n c : Nat} (h : Own T E w A (.slice (some ⟨g, 0, none⟩) n c) xs) : Own T E w g (.slice (some ⟨g, 0, none⟩) n c) xs := by
  refine ⟨h.1, ?_⟩
  rcases h.2 with ⟨h', _⟩ | ⟨g', cap', cur, e, _, rest⟩
  · cases h'
  · simp only [Value.slice.injEq, Option.some.injEq, Addr.mk.injEq, and_true] at e
    obtain ⟨rfl, rfl, rfl⟩ := e
    exact .inr ⟨_, _, cur, rfl, Nat.le_refl _, rest⟩
theorem own_apart {B C : Nat} (h : Own T E w A v xs) (ha : Apart B C w w') (hd : ∀ k, v.ownBlock = some k → k < B ∨ C ≤ k) : Own T E w' A v xs := h.same fun k hk => ha.block k (h.lt k hk).2 (hd k hk)
end
section
variable {α : Type} {T : Rec α} {P : Program}
theorem step_append_o {w : World} {ops : Array Oper} {o : Oper} {a : Act} {K : Act → World → Prop} {Q : Exit → Act → World → Prop} {F : Prop} (hgd : o.guard = none) (s x : Operand) (t : TypeId)
    (ho : o.op = .call { callee := .builtin .append, args := #[s, x], argTypes := #[t, t] })
    (A : Nat) (E : TypeId) (i : TypeInfo) (z : Value) (bytes : Nat) (ht : P.underlying t = some (.slice E)) (hi : P.info? E = some i) (hz : i.zero = some z)
    (hsize : i.size = T.n) (hby : i.bytes = bytes) (hzs : z.cells.size = T.n)
    (v : Value) (xs : List α) (hs : a.eval s = v) (hown : Own T E w A v xs)
    (ao : Option Addr) (m c : Nat) (ys : List α) (hx : a.eval x = .slice ao m c) (hm : ys.length = m) (hsrc : Feeds w ao m c (flat T ys))
    (h63 : xs.length + m ≤ maxLen) (hbytes : (xs.length + m) * bytes ≤ 140737488355328) (hbase : A ≤ w.heap.size)
    (h : ∀ v' w', Own T E w' A v' (xs ++ ys) → w.grownBy w' v.ownBlock → (v' = .slice none 0 0 ↔ v = .slice none 0 0 ∧ m = 0) → (v'.ownBlock = v.ownBlock ∨ v'.ownBlock = some w.heap.size) → K (a.put o.dst v') w') :
    if Region.wanted o (yielded ops a.tmps) = true then Oper.wp P o a w K Q else F :=
  step_append_q hgd s x t ho A E i z T.n bytes ht hi hz hsize hby hzs T.pos v xs.length (flat T xs) hs hown ao m c (flat T ys) hx (by rw [flat_len, hm]) hsrc (flat_one T ys) h63 hbytes hbase
    (fun v' w' h1 h2 h3 h4 => h v' w' (Own.next (n := 0) (by rw [hm]; exact h1)) h2 h3 h4)
theorem wpList_append_o (w : World) {ops : Array Oper} {rest : List Oper} {o : Oper} {a : Act} {Q : Exit → Act → World → Prop} (hgd : o.guard = none) (s x : Operand) (t : TypeId)
    (ho : o.op = .call { callee := .builtin .append, args := #[s, x], argTypes := #[t, t] })
    (A : Nat) (E : TypeId) (i : TypeInfo) (z : Value) (bytes : Nat) (ht : P.underlying t = some (.slice E)) (hi : P.info? E = some i) (hz : i.zero = some z)
    (hsize : i.size = T.n) (hby : i.bytes = bytes) (hzs : z.cells.size = T.n)
    (v : Value) (xs : List α) (hs : a.eval s = v) (hown : Own T E w A v xs)
    (ao : Option Addr) (m c : Nat) (ys : List α) (hx : a.eval x = .slice ao m c) (hm : ys.length = m) (hsrc : Feeds w ao m c (flat T ys))
    (h63 : xs.length + m ≤ maxLen) (hbytes : (xs.length + m) * bytes ≤ 140737488355328) (hbase : A ≤ w.heap.size)
    (h : ∀ v' w', Own T E w' A v' (xs ++ ys) → w.grownBy w' v.ownBlock → (v' = .slice none 0 0 ↔ v = .slice none 0 0 ∧ m = 0) → (v'.ownBlock = v.ownBlock ∨ v'.ownBlock = some w.heap.size) → wpList P ops Q rest (a.put o.dst v') w') : wpList P ops Q (o :: rest) a w :=
  wpList_append_q w hgd s x t ho A E i z T.n bytes ht hi hz hsize hby hzs T.pos v xs.length (flat T xs) hs hown ao m c (flat T ys) hx (by rw [flat_len, hm]) hsrc (flat_one T ys) h63 hbytes hbase
    (fun v' w' h1 h2 h3 h4 => h v' w' (Own.next (n := 0) (by rw [hm]; exact h1)) h2 h3 h4)
end
end Go.Proofs.Ytdjnaoaniokbgaa.Bs
