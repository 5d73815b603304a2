/- Structs of one-cell fields (integers, strings, bools) that came in, by value and in slices: which cells they are. No condition. -/
import Derived.Test.YtdjnaoaniokbgaaRows
import Derived.Test.YtdjnaoaniokbgaaFrame
import Derived.Deep.Slices
import Derived.Deep.Fields
import Derived.ChangeSame
namespace Go.Proofs.Ytdjnaoaniokbgaa.Opn
open Go.ChangeShapes Go.WideShapes Go.Deep
set_option linter.unusedVariables false

inductive K | i64 | str | bool
def K.und : K → TypeDesc
  | .i64 => .int .i64
  | .str => .string
  | .bool => .bool
/-- the value is one of the kind -/
def K.is : K → Value → Prop
  | .i64, v => ∃ n, v = .int .i64 n ∧ (Lit.int .i64 n).wf = true
  | .str, v => ∃ s : ByteArray, v = .string s ∧ s.size ≤ maxLen
  | .bool, v => ∃ b, v = .bool b
section
variable {H : Type} {enc : TypeId × Value → H} {P : Program} {w : World} {base : Nat} {spare : Nat → Bool} {held : Bool}
theorem is_of {k : K} {t : TypeId} {v : Value} {fuel : Nat} {y : DataW H × List MemPlace} (ht : P.underlying t = some k.und) (h : DataW.trod enc P w base spare held fuel t [v] = some y) : k.is v := by
  cases k with
  | i64 => obtain ⟨n, hc, _, hw⟩ := DataW.trod_int ht h; simp only [List.cons.injEq, and_true] at hc; exact ⟨n, hc, hw⟩
  | str => obtain ⟨s, hc, _, hw⟩ := DataW.trod_string ht h; simp only [List.cons.injEq, and_true] at hc; exact ⟨s, hc, hw⟩
  | bool => obtain ⟨b, hc, _⟩ := DataW.trod_bool ht h; simp only [List.cons.injEq, and_true] at hc; exact ⟨b, hc⟩
/-- the kinds of the fields are these -/
def kindsB (P : Program) (fs : Array Field) (ks : List K) : Prop := fs.toList.map (fun f => P.underlying f.type) = ks.map (fun k => some k.und)
theorem struct_is {t : TypeId} {fs : Array Field} {ks : List K} {fuel : Nat} {cs : List Value} {x : DataW H × List MemPlace} (hs : P.underlying t = some (.struct fs)) (hone : oneCellFields P fs = true) (hC : P.cellsOf t = fs.size)
    (hk : kindsB P fs ks) (h : DataW.trod enc P w base spare held fuel t cs = some x) : cs.length = ks.length ∧ ∀ (j : Nat) (k : K), ks[j]? = some k → ∃ v, cs[j]? = some v ∧ k.is v := by
  obtain ⟨ys, n, _, _, hlen, hyl, hf⟩ := DataW.trod_struct hs h
  have hkl : fs.size = ks.length := by have := congrArg List.length hk; simpa using this
  refine ⟨by omega, fun j k hj => ?_⟩
  have hjl : j < fs.size := by have := (List.getElem?_eq_some_iff.1 hj).1; omega
  have hfj : fs[j]? = some fs[j] := Array.getElem?_eq_getElem hjl
  obtain ⟨ho, hc⟩ := hone_of hone j fs[j] hfj
  have h1 := hf j fs[j] hfj
  have hjc : j < cs.length := by omega
  have hcs : (cs.drop fs[j].offset).take (P.cellsOf fs[j].type) = [cs[j]] := by
    rw [ho, hc, List.drop_eq_getElem_cons hjc]
    rfl
  rw [hcs] at h1
  have hy : j < ys.length := by omega
  rw [List.getElem?_eq_getElem hy] at h1
  refine ⟨cs[j], List.getElem?_eq_getElem hjc, is_of (k := k) ?_ h1⟩
  have := congrArg (fun l => l[j]?) hk
  simp only [List.getElem?_map, hj, Option.map_some, Array.getElem?_toList, hfj] at this
  exact Option.some.inj this
/-- a slice of such structs -/
theorem slice_is {t e : TypeId} {fs : Array Field} {ks : List K} {fuel : Nat} {cs : List Value} {x : DataW H × List MemPlace} (ht : P.underlying t = some (.slice e)) (hs : P.underlying e = some (.struct fs)) (hone : oneCellFields P fs = true) (hC : P.cellsOf e = fs.size)
    (hk : kindsB P fs ks) (h : DataW.trod enc P w base spare held fuel t cs = some x) :
    cs = [.slice none 0 0] ∨
    ∃ (a : Addr) (len cap : Nat), cs = [.slice (some a) len cap] ∧ len ≤ cap ∧ cap ≤ maxLen ∧ ∀ i, i < len → ∃ vs : List Value, vs.length = ks.length ∧ (∀ (j : Nat) (k : K), ks[j]? = some k → ∃ v, vs[j]? = some v ∧ k.is v) ∧ ∀ j, j < ks.length → w.cell? (a.add (i * ks.length + j)) = vs[j]? := by
  rcases open_slice ht h with ⟨h0, _⟩ | ⟨a, len, cap, m, n, D, Pl, hcs, hb, hl, hm, hmm, hx, hi⟩
  · exact .inl h0
  · have hkl : fs.size = ks.length := by have := congrArg List.length hk; simpa using this
    refine .inr ⟨a, len, cap, hcs, hl, hm, fun i him => ?_⟩
    have him' : i < m := by rw [hmm]; split <;> omega
    obtain ⟨vs, hc, ht'⟩ := hi i him'
    obtain ⟨hlen, hall⟩ := struct_is hs hone hC hk ht'
    obtain ⟨_, hcl, hat⟩ := World.cells?_some hc
    rw [hC, hkl] at hat
    refine ⟨vs, hlen, hall, fun j hj => ?_⟩
    have := hat j hj
    rw [Go.Deep.add_add] at this
    exact this
end
end Go.Proofs.Ytdjnaoaniokbgaa.Opn
