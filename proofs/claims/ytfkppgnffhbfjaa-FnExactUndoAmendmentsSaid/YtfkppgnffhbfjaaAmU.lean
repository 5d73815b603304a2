/- Amendments undone: the mathematics; a row of one amendment. No condition. -/
import Derived.Test.YtfkppgnffhbfjaaAmR
import Derived.Test.YtfkppgnffhbfjaaLAmendmentSZ
import Derived.Test.YtfkppgnffhbfjaaAppO
namespace Go.Proofs.Ytfkppgnffhbfjaa.AmU
open Go.RowKit Bs Word Am AmR
set_option linter.unusedVariables false
/-- the inverses, the first amendment's first -/
def fw : T → List M → List M
  | _, [] => []
  | t, a :: l => inverse t a :: fw (apply t a) l
/-- all fit in turn -/
def af : T → List M → Bool
  | _, [] => true
  | t, a :: l => fits t a && af (apply t a) l
theorem drop_at {l : List M} {k : Nat} {a : M} (ha : l[k]? = some a) : l.drop k = a :: l.drop (k + 1) := by
  have hk : k < l.length := (List.getElem?_eq_some_iff.1 ha).1
  rw [List.getElem?_eq_getElem hk] at ha
  rw [List.drop_eq_getElem_cons hk, Option.some.inj ha]
theorem fw_step {t : T} {l : List M} {k : Nat} {a : M} (ha : l[k]? = some a) : fw t (l.drop k) = inverse t a :: fw (apply t a) (l.drop (k + 1)) := by rw [drop_at ha]; rfl
theorem af_step {t : T} {l : List M} {k : Nat} {a : M} (ha : l[k]? = some a) (hf : fits t a = true) : af t (l.drop k) = af (apply t a) (l.drop (k + 1)) := by
  rw [drop_at ha]; show (fits t a && _) = _; rw [hf]; rfl
theorem af_stop {t : T} {l : List M} {k : Nat} {a : M} (ha : l[k]? = some a) (hf : fits t a = false) : af t (l.drop k) = false := by
  rw [drop_at ha]; show (fits t a && _) = _; rw [hf]; rfl
theorem fw_end {t : T} {l : List M} {k : Nat} (h : l.length ≤ k) : fw t (l.drop k) = [] := by rw [List.drop_of_length_le h]; rfl
theorem af_end {t : T} {l : List M} {k : Nat} (h : l.length ≤ k) : af t (l.drop k) = true := by rw [List.drop_of_length_le h]; rfl
theorem fw_len : ∀ (l : List M) (t : T), (fw t l).length = l.length
  | [], _ => rfl
  | a :: l, t => by simp [fw, fw_len l]
theorem fw_good : ∀ (l : List M) (t : T), textB t = true → (∀ x ∈ l, good x = true) → af t l = true → ∀ x ∈ fw t l, good x = true
  | [], _, _, _, _ => fun x hx => by cases hx
  | a :: l, t, ht, hl, ha => fun x hx => by
    unfold af at ha
    rw [Bool.and_eq_true] at ha
    have hg := hl a List.mem_cons_self
    unfold fw at hx
    rcases List.mem_cons.1 hx with rfl | hx
    · exact inverse_good ht hg ha.1
    · exact fw_good l _ (apply_text ht hg ha.1) (fun y hy => hl y (List.mem_cons_of_mem _ hy)) ha.2 x hx
theorem cnt_small : ∀ xs : List M, (∀ x ∈ xs, x.words.length ≤ 5) → LAmendmentS.cnt xs ≤ 8 * xs.length
  | [], _ => Nat.zero_le _
  | x :: xs, h => by
    have ih := cnt_small xs fun y hy => h y (List.mem_cons_of_mem _ hy)
    have h1 := h x List.mem_cons_self
    simp only [LAmendmentS.cnt, List.map_cons, List.sum_cons, List.length_cons] at ih ⊢
    omega
def Ans (z0 : T) (z1 : List M) (r0 : List M) (r1 : Bool) : Prop := (r0, r1) = if (textB z0 && (goodL z1 && af z0 z1)) = true then ((fw z0 z1).reverse, true) else (([] : List M), false)
theorem same {z0 : T} {z1 r0 s0 : List M} {r1 s1 : Bool} (h1 : Ans z0 z1 r0 r1) (h2 : Ans z0 z1 s0 s1) : r0 = s0 ∧ r1 = s1 := by
  have h := h1.trans h2.symm
  exact ⟨congrArg Prod.fst h, congrArg Prod.snd h⟩
theorem yes {z0 : T} {z1 r : List M} (h1 : textB z0 = true) (h2 : goodL z1 = true) (h3 : af z0 z1 = true) (h : (fw z0 z1).reverse = r) : Ans z0 z1 r true := by unfold Ans; rw [h1, h2, h3, h]; rfl
theorem no {z0 : T} {z1 : List M} (h : (textB z0 && (goodL z1 && af z0 z1)) = false) : Ans z0 z1 [] false := by unfold Ans; rw [h]; rfl
theorem len0 {z0 : T} {z1 r0 : List M} {r1 : Bool} (h : Ans z0 z1 r0 r1) : LAmendmentS.cnt r0 ≤ 1048576 := by
  unfold Ans at h
  split at h
  · rename_i hc
    rw [Bool.and_eq_true, Bool.and_eq_true] at hc
    have := congrArg Prod.fst h
    simp only at this
    subst this
    have hs := cnt_small (fw z0 z1).reverse fun x hx => good_lens (fw_good z1 z0 hc.1 (goodL_all hc.2.1) hc.2.2 x (List.mem_reverse.1 hx))
    have hl := goodL_len hc.2.1
    rw [List.length_reverse, fw_len] at hs
    omega
  · have := congrArg Prod.fst h; simp only at this; subst this; simp [LAmendmentS.cnt]
theorem own_one {w : World} {A : Nat} (r : M) (a : Option Addr) (l c : Nat) (hA : A ≤ w.heap.size) : Bs.Own LAmendmentS.kit.row 31 (w.alloc (.cells #[.int .i64 r.kind, .int .i64 r.pos, .int .i64 r.count, .slice a l c] 31)) A (.slice (some ⟨w.heap.size, 0, none⟩) 1 1) [LAmendmentS.hd r a l c] := by
  have hf : flat LAmendmentS.kit.row [LAmendmentS.hd r a l c] = [.int .i64 r.kind, .int .i64 r.pos, .int .i64 r.count, .slice a l c] := by simp [flat]; rfl
  refine ⟨by rw [hf]; rfl, .inr ⟨w.heap.size, 1, _, rfl, hA, heap_alloc_new w _, Nat.le_refl _, by unfold maxLen; omega, rfl, ?_⟩⟩
  rw [hf]
  rfl
theorem isq_besides {α : Type} {R : Rec α} {w w' : World} {v u : Value} {xs : List α} (h : Bs.IsQ R w v xs) (hg : w.grownBy w' u.ownBlock) (hd : ∀ j, v.ownBlock = some j → u.ownBlock ≠ some j) : Bs.IsQ R w' v xs := by
  rcases h with h | ⟨b, o, c, rfl, hb, h1, h2, h3⟩
  · exact .inl h
  · exact .inr ⟨b, o, c, rfl, Nat.lt_of_lt_of_le hb hg.size, h1, h2, fun j r hr => (h3 j r hr).keep R fun p => World.cell?_of_block (a := ⟨b, p, none⟩) (hg.block b hb fun e => hd b rfl e.symm)⟩
theorem isq_lt {α : Type} {R : Rec α} {w : World} {v : Value} {xs : List α} (h : Bs.IsQ R w v xs) : ∀ j, v.ownBlock = some j → j < w.heap.size := fun j hj => by
  rcases h with ⟨rfl, _⟩ | ⟨b, o, c, rfl, hb, _⟩
  · cases hj
  · exact Option.some.inj hj ▸ hb
end Go.Proofs.Ytfkppgnffhbfjaa.AmU
