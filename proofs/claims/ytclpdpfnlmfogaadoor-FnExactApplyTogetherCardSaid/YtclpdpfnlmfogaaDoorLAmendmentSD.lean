/- Slices of Amendment: rows of structs, each with a slice. No condition. -/
import Derived.Test.YtclpdpfnlmfogaaDoorNest
import Derived.Test.YtclpdpfnlmfogaaDoorJ1
namespace Go.Proofs.YtclpdpfnlmfogaaDoor.LAmendmentS
open Go Go.RowKit Bs
set_option linter.unusedVariables false
abbrev R := LAmendment.R
theorem val_eq {h : Hd 4} {s : Value} {r : R} (e : Value.agg h.1.toArray = .agg #[.int .i64 r.kind, .int .i64 r.pos, .int .i64 r.count, s]) : h.1 = [.int .i64 r.kind, .int .i64 r.pos, .int .i64 r.count, s] := by
  have := congrArg Array.toList (Value.agg.inj e)
  simpa using this
abbrev kit : Kit R where
  n := 4
  pos := by decide
  E := 26
  val := fun h => .agg h.1.toArray
  Is := LAmendment.Is
  IsQ := LAmendment.IsQ
  Own := LAmendment.Own
  isq_is := LAmendment.IsQ.is
  own_isq := LAmendment.Own.isQ
  is_same := fun h hz hs => by
    obtain ⟨s, e, h3⟩ := h
    exact ⟨s, e, (Bs.Is.loc h3).all _ hz fun k _ hk => hs k hk⟩
  isq_same := fun h hz hs => by
    obtain ⟨s, e, h3⟩ := h
    exact ⟨s, e, (Bs.IsQ.loc h3).all _ hz fun k _ hk => hs k hk⟩
  own_same := fun ho hs => by
    obtain ⟨s, e, h3⟩ := ho
    exact ⟨s, e, h3.same fun k hk => hs k ⟨s, by rw [val_eq e]; simp, hk⟩⟩
  own_low := fun h hA => LAmendment.Own.low h hA
  own_lt := fun ho k hk => by
    obtain ⟨s, e, h3⟩ := ho
    obtain ⟨u, hu, hb⟩ := hk
    rw [val_eq e] at hu
    simp only [List.mem_cons, List.not_mem_nil, or_false] at hu
    rcases hu with rfl | rfl | rfl | rfl
    · cases hb
    · cases hb
    · cases hb
    · exact h3.lt k hb
abbrev Is (w : World) (v : Value) (xs : List R) : Prop := NIs kit w v xs
abbrev IsQ (w : World) (v : Value) (xs : List R) : Prop := NIsQ kit w v xs
abbrev IsS (w : World) (v : Value) (xs : List R) : Prop := NIsS kit w v xs
abbrev Own (w : World) (A : Nat) (v : Value) (xs : List R) : Prop := NOwn kit w A v xs
abbrev OwnB (A B : Nat) (v : Value) (xs : List R) (w : World) : Prop := NOwnB kit A B v xs w
/-- a struct's cells -/
def hd (r : R) (a : Option Addr) (k c : Nat) : Hd 4 := ⟨[.int .i64 r.kind, .int .i64 r.pos, .int .i64 r.count, .slice a k c], rfl, fun u hu => by
  simp only [List.mem_cons, List.not_mem_nil, or_false] at hu
  rcases hu with rfl | rfl | rfl | rfl <;> rfl⟩
theorem own_hd {w : World} {A : Nat} {a : Option Addr} {k c : Nat} {r : R} (h : Bs.Own LString.rec 9 w A (.slice a k c) r.words) : kit.Own w A (kit.val (hd r a k c)) r := ⟨_, rfl, h⟩
theorem holds_hd {r : R} {a : Option Addr} {k c j : Nat} (h : Holds (hd r a k c) j) : (Value.slice a k c).ownBlock = some j := by
  obtain ⟨u, hu, hb⟩ := h
  simp only [hd, List.mem_cons, List.not_mem_nil, or_false] at hu
  rcases hu with rfl | rfl | rfl | rfl
  · cases hb
  · cases hb
  · cases hb
  · exact hb
/-- what an owned struct's cells are -/
theorem own_form {w : World} {A : Nat} {u : Hd 4} {r : R} (h : kit.Own w A (kit.val u) r) : ∃ a k c, u = hd r a k c ∧ Bs.Own LString.rec 9 w A (.slice a k c) r.words := by
  obtain ⟨s, e, h3⟩ := h
  obtain ⟨a, k, c, rfl⟩ := own_slice h3
  exact ⟨a, k, c, Subtype.ext (val_eq e), h3⟩
theorem cells_hd {w : World} {b p : Nat} {r : R} {a : Option Addr} {k c : Nat} (h : At kit.row w b p (hd r a k c)) : w.cell? ⟨b, p, none⟩ = some (.int .i64 r.kind) ∧ w.cell? ⟨b, p + 1, none⟩ = some (.int .i64 r.pos) ∧ w.cell? ⟨b, p + 2, none⟩ = some (.int .i64 r.count) ∧ w.cell? ⟨b, p + 3, none⟩ = some (.slice a k c) := ⟨h 0 _ rfl, h 1 _ rfl, h 2 _ rfl, h 3 _ rfl⟩
/-- an element that is read -/
theorem get {w : World} {v : Value} {xs : List R} (h : Is w v xs) : Hid (∀ (k : Nat) (x : R), xs[k]? = some x → ∃ (b o c : Nat) (a : Option Addr) (l d : Nat), v = .slice (some ⟨b, o, none⟩) xs.length c ∧ b < w.heap.size ∧ At kit.row w b (o + k * 4) (hd x a l d) ∧ LAmendment.Is w (.agg #[.int .i64 x.kind, .int .i64 x.pos, .int .i64 x.count, .slice a l d]) x) := fun k x hx => by
  obtain ⟨b, o, c, u, e, hb, hat, hI⟩ := h.get.out k x hx
  obtain ⟨s, e2, a, d, rfl, h3⟩ := hI
  have hu : u = hd x a x.words.length d := Subtype.ext (val_eq e2)
  subst hu
  exact ⟨b, o, c, a, _, d, e, hb, hat, ⟨_, rfl, a, d, rfl, h3⟩⟩
theorem getQ {w : World} {v : Value} {xs : List R} (h : IsQ w v xs) : Hid (∀ (k : Nat) (x : R), xs[k]? = some x → ∃ (b o c : Nat) (a : Option Addr) (l d : Nat), v = .slice (some ⟨b, o, none⟩) xs.length c ∧ b < w.heap.size ∧ At kit.row w b (o + k * 4) (hd x a l d) ∧ LAmendment.IsQ w (.agg #[.int .i64 x.kind, .int .i64 x.pos, .int .i64 x.count, .slice a l d]) x) := fun k x hx => by
  obtain ⟨b, o, c, u, e, hb, hat, hI⟩ := h.get.out k x hx
  obtain ⟨s, e2, h3⟩ := hI
  obtain ⟨a, l, d, rfl⟩ := isq_slice h3
  have hu : u = hd x a l d := Subtype.ext (val_eq e2)
  subst hu
  exact ⟨b, o, c, a, _, d, e, hb, hat, ⟨_, rfl, h3⟩⟩
theorem info : (Tryd.prog.info? 26).map (fun i => (i.zero, i.size)) = some (some (.agg #[.int .i64 0, .int .i64 0, .int .i64 0, .slice none 0 0]), 4) := by kernel_rfl
def zero : Hd 4 := hd ⟨0, 0, 0, []⟩ none 0 0
theorem made_zero (m : Nat) : (madeCells (#[.int .i64 0, .int .i64 0, .int .i64 0, .slice none 0 0] : Array Value) (m * 4)).toList = flat kit.row (List.replicate m zero) := by
  have hl : (flat kit.row (List.replicate m zero)).length = m * 4 := by rw [flat_len, List.length_replicate]; rfl
  apply List.ext_getElem?
  intro i
  rw [madeCells]
  by_cases hi : i < m * 4
  · have hrep : (List.replicate m zero)[i / 4]? = some zero := by
      rw [List.getElem?_eq_getElem (by rw [List.length_replicate]; omega), List.getElem_replicate]
    have hr := flat_at kit.row (List.replicate m zero) (i / 4) (i % 4) zero hrep (Nat.mod_lt _ (by decide))
    have e : i / 4 * kit.row.n + i % 4 = i := by show i / 4 * 4 + i % 4 = i; omega
    rw [e] at hr
    rw [hr]
    have hs : (#[.int .i64 0, .int .i64 0, .int .i64 0, .slice none 0 0] : Array Value).size = 4 := rfl
    simp only [hs, Array.toList_map, List.getElem?_map, Array.toList_range, List.getElem?_range hi, Option.map_some]
    have h7 : i % 4 < 4 := by omega
    generalize i % 4 = j at *
    match j, h7 with
    | 0, _ => rfl
    | 1, _ => rfl
    | 2, _ => rfl
    | 3, _ => rfl
  · rw [List.getElem?_eq_none (by simp; omega), List.getElem?_eq_none (by omega)]
end Go.Proofs.YtclpdpfnlmfogaaDoor.LAmendmentS
