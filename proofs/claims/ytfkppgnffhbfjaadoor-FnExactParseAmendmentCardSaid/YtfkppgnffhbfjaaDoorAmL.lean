/- The line of an amendment: the text. No condition. -/
import Derived.Test.YtfkppgnffhbfjaaDoorAm
import Derived.Test.YtfkppgnffhbfjaaDoorJoinMath
import Derived.Lib.ItoaLen
namespace Go.Proofs.YtfkppgnffhbfjaaDoor.AmL
open Go.RowKit Bs Word Am
set_option linter.unusedVariables false
/-- the bytes of the elements -/
def L (xs : T) : List (List UInt8) := xs.map (·.data.toList)
def jn (xs : T) : ByteArray := ⟨(Lib.join (L xs) [32]).toArray⟩
theorem L_len (xs : T) : (L xs).length = xs.length := by simp [L]
theorem L_snoc (xs : T) (k : Nat) (h : k < xs.length) : L (xs.take (k + 1)) = L (xs.take k) ++ [xs[k].data.toList] := by
  rw [List.take_succ_eq_append_getElem h]; unfold L; rw [List.map_append]; rfl
theorem jn_zero (xs : T) (h : 0 < xs.length) : jn (xs.take 1) = xs[0] := by
  unfold jn
  rw [L_snoc xs 0 h]
  show (⟨(Lib.join [xs[0].data.toList] [32]).toArray⟩ : ByteArray) = _
  rw [Lib.join_one]
theorem jn_succ (xs : T) (k : Nat) (h0 : 0 < k) (h : k < xs.length) : jn (xs.take k) ++ ⟨#[32]⟩ ++ xs[k] = jn (xs.take (k + 1)) := by
  unfold jn
  have hne : L (xs.take k) ≠ [] := by
    intro e
    have := congrArg List.length e
    rw [L_len, List.length_take] at this
    have h2 : ([] : List (List UInt8)).length = 0 := rfl
    omega
  rw [L_snoc xs k h, JoinMath.join_snoc _ _ _ hne]
  apply ByteArray.ext
  simp
def num (n : Int) : ByteArray := ⟨(Lib.itoa n).toArray⟩
theorem num_size (n : Int) (h0 : 0 ≤ n) (h1 : n ≤ 1000) : (num n).size ≤ 21 := by
  have := Lib.itoa_length_le n (by omega) (by omega)
  show (Lib.itoa n).toArray.size ≤ 21
  simpa using this
def wIns : ByteArray := ⟨#[105, 110, 115, 101, 114, 116]⟩
def wStr : ByteArray := ⟨#[115, 116, 114, 105, 107, 101]⟩
def wRep : ByteArray := ⟨#[114, 101, 112, 108, 97, 99, 101]⟩
def sp : ByteArray := ⟨#[32]⟩
def sAt : ByteArray := ⟨#[32, 97, 116, 32]⟩
def verb (k : Int) : ByteArray := if k = 1 then wIns else if k = 2 then wStr else if k = 3 then wRep else ⟨#[]⟩
def cntT (c : Int) : ByteArray := if 0 < c then sp ++ num c else ⟨#[]⟩
/-- the words up to the k-th -/
def tailT (ws : T) (k : Nat) : ByteArray := if k = 0 then ⟨#[]⟩ else ⟨#[58, 32]⟩ ++ jn (ws.take k)
def front (a : M) : ByteArray := verb a.kind ++ cntT a.count ++ (sAt ++ num a.pos)
def line (a : M) : ByteArray := front a ++ tailT a.words a.words.length
theorem app_nil (s : ByteArray) : s ++ (⟨#[]⟩ : ByteArray) = s := by apply ByteArray.ext; simp
theorem app_assoc (a b c : ByteArray) : a ++ b ++ c = a ++ (b ++ c) := ByteArray.append_assoc
theorem tail_zero (S : ByteArray) (ws : T) : S ++ tailT ws 0 = S := app_nil S
theorem tail_one (S : ByteArray) (ws : T) (h : 0 < ws.length) : S ++ tailT ws 0 ++ ⟨#[58]⟩ ++ ⟨#[32]⟩ ++ ws[0] = S ++ tailT ws 1 := by
  have e : tailT ws 1 = ⟨#[58, 32]⟩ ++ ws[0] := by unfold tailT; rw [if_neg (by omega), jn_zero ws h]
  rw [tail_zero, e, app_assoc, app_assoc, ← app_assoc (⟨#[58]⟩ : ByteArray)]
  rfl
theorem tail_next (S : ByteArray) (ws : T) (k : Nat) (h0 : 0 < k) (h : k < ws.length) : S ++ tailT ws k ++ ⟨#[32]⟩ ++ ws[k] = S ++ tailT ws (k + 1) := by
  have e1 : tailT ws k = ⟨#[58, 32]⟩ ++ jn (ws.take k) := by unfold tailT; rw [if_neg (by omega)]
  have e2 : tailT ws (k + 1) = ⟨#[58, 32]⟩ ++ jn (ws.take (k + 1)) := by unfold tailT; rw [if_neg (by omega)]
  rw [e1, e2, ← jn_succ ws k h0 h]
  simp only [app_assoc]
theorem tail_all (ws : T) (h : ws.length ≠ 0) : tailT ws ws.length = ⟨#[58, 32]⟩ ++ jn ws := by
  unfold tailT; rw [if_neg h, List.take_length]
theorem tail_none (ws : T) (h : ws.length = 0) : tailT ws ws.length = ⟨#[]⟩ := by unfold tailT; rw [if_pos h]
theorem tail_size (ws : T) (hw : ∀ x ∈ ws, x.size ≤ 10) : ∀ k, k ≤ ws.length → (tailT ws k).size ≤ 1 + 11 * k
  | 0, _ => by
    show (⟨#[]⟩ : ByteArray).size ≤ _
    show 0 ≤ _
    omega
  | k + 1, h => by
    have hx : k < ws.length := by omega
    have ih := tail_size ws hw k (by omega)
    have hs := hw ws[k] (List.getElem_mem hx)
    rcases Nat.eq_zero_or_pos k with rfl | h0
    · have e : tailT ws 1 = ⟨#[58, 32]⟩ ++ ws[0] := by unfold tailT; rw [if_neg (by omega), jn_zero ws hx]
      rw [e, ByteArray.size_append, show (⟨#[58, 32]⟩ : ByteArray).size = 2 from rfl]
      omega
    · have e := tail_next ⟨#[]⟩ ws k h0 hx
      have e2 := congrArg ByteArray.size e
      simp only [ByteArray.size_append] at e2
      rw [show (⟨#[]⟩ : ByteArray).size = 0 from rfl, show (⟨#[32]⟩ : ByteArray).size = 1 from rfl] at e2
      omega
theorem verb_size (k : Int) : (verb k).size ≤ 7 := by
  unfold verb
  split
  · decide
  · split
    · decide
    · split
      · decide
      · decide
theorem cnt_size (c : Int) (h : c ≤ 5) : (cntT c).size ≤ 22 := by
  unfold cntT
  split
  · have := num_size c (by omega) (by omega)
    rw [ByteArray.size_append, show sp.size = 1 from rfl]; omega
  · decide
theorem front_size {a : M} (h : good a = true) : (front a).size ≤ 60 := by
  obtain ⟨⟨p1, p2⟩, _, _, c1, c2⟩ := good_parts h
  have h1 := verb_size a.kind
  have h2 := cnt_size a.count c2
  have h3 := num_size a.pos p1 (by omega)
  unfold front
  rw [ByteArray.size_append, ByteArray.size_append, ByteArray.size_append, show sAt.size = 4 from rfl]
  omega
def Ans (a : M) (r0 : ByteArray) (r1 : Bool) : Prop := (r0, r1) = if good a = true then (line a, true) else (⟨#[]⟩, false)
theorem same {a : M} {r0 s0 : ByteArray} {r1 s1 : Bool} (h1 : Ans a r0 r1) (h2 : Ans a s0 s1) : r0 = s0 ∧ r1 = s1 := by
  have h := h1.trans h2.symm
  exact ⟨congrArg Prod.fst h, congrArg Prod.snd h⟩
theorem yes {a : M} (h : good a = true) : Ans a (line a) true := by unfold Ans; rw [if_pos h]
theorem no {a : M} (h : good a = false) : Ans a ⟨#[]⟩ false := by unfold Ans; rw [h]; rfl
end Go.Proofs.YtfkppgnffhbfjaaDoor.AmL
