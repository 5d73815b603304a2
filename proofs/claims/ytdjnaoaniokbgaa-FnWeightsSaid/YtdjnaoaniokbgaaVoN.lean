/- Nodes of voters, that point to one another. No condition. -/
import Derived.Test.YtdjnaoaniokbgaaVo
import Derived.Test.YtdjnaoaniokbgaaJ1
namespace Go.Proofs.Ytdjnaoaniokbgaa.VoN
open Go.RowKit Bs Word Sq IntF Vo
set_option linter.unusedVariables false
abbrev Nd := LNode.R
/-- where a node stands -/
def ptrTo (g : Nat) (j : Int) : Option Addr := if j < 0 then none else some ⟨g, j.toNat * 2, none⟩
def nodes (g n : Nat) (ps : List P) : List Nd := (List.range n).map (fun i => ⟨(i : Nat), ptrTo g (nxt ps (i : Nat))⟩)
/-- k are numbered -/
def nod1 (n k : Nat) : List Nd := (List.range n).map (fun i => ⟨if i < k then (i : Nat) else 0, none⟩)
theorem nodes_len (g n : Nat) (ps : List P) : (nodes g n ps).length = n := by unfold nodes; rw [List.length_map, List.length_range]
theorem nod1_len (n k : Nat) : (nod1 n k).length = n := by unfold nod1; rw [List.length_map, List.length_range]
theorem nodes_at {g n : Nat} {ps : List P} {i : Nat} (h : i < n) : (nodes g n ps)[i]? = some ⟨(i : Nat), ptrTo g (nxt ps (i : Nat))⟩ := by
  unfold nodes; rw [List.getElem?_map, List.getElem?_range h]; rfl
theorem nod1_get {n k i : Nat} (h : i < n) : (nod1 n k)[i]? = some ⟨if i < k then (i : Nat) else 0, none⟩ := by
  unfold nod1; rw [List.getElem?_map, List.getElem?_range h]; rfl
theorem nod1_at {n k : Nat} (h : k < n) : (nod1 n k)[k]? = some ⟨0, none⟩ := by rw [nod1_get h, if_neg (by omega)]
theorem nod1_zero (n : Nat) : List.replicate n LNode.zero = nod1 n 0 := by
  apply List.ext_getElem?
  intro i
  rw [List.getElem?_replicate]
  split
  · rename_i h; rw [nod1_get h, if_neg (by omega)]; rfl
  · rw [List.getElem?_eq_none (by rw [nod1_len]; omega)]
theorem nod1_set {n k : Nat} (h : k < n) : (nod1 n k).set k ⟨(k : Nat), none⟩ = nod1 n (k + 1) := by
  apply List.ext_getElem?
  intro i
  by_cases hi : i < n
  · by_cases e : k = i
    · subst e; rw [List.getElem?_set_self (by rw [nod1_len]; exact h), nod1_get hi, if_pos (by omega)]
    · rw [List.getElem?_set_ne e, nod1_get hi, nod1_get hi]
      by_cases hk : i < k
      · rw [if_pos hk, if_pos (by omega)]
      · rw [if_neg hk, if_neg (by omega)]
  · rw [List.getElem?_eq_none (by rw [List.length_set, nod1_len]; omega), List.getElem?_eq_none (by rw [nod1_len]; omega)]
theorem nod1_all (g n : Nat) : nod1 n n = nodes g n [] := by
  apply List.ext_getElem?
  intro i
  by_cases hi : i < n
  · rw [nod1_get hi, nodes_at hi, if_pos hi, nxt_nil]; rfl
  · rw [List.getElem?_eq_none (by rw [nod1_len]; omega), List.getElem?_eq_none (by rw [nodes_len]; omega)]
theorem ptr_in {g : Nat} {j : Int} (h : 0 ≤ j) : ptrTo g j = some ⟨g, j.toNat * 2, none⟩ := by unfold ptrTo; rw [if_neg (by omega)]
theorem ptr_no {g : Nat} {j : Int} (h : j < 0) : ptrTo g j = none := by unfold ptrTo; rw [if_pos h]
theorem nodes_set {v : V} (hp : PP v) {g n k : Nat} (hn : v.weights.length = n) {X : P} (hx : v.proxies[k]? = some X) :
    (nodes g n (v.proxies.take k)).set X.src.toNat ⟨((X.src.toNat : Nat) : Int), some ⟨g, X.dst.toNat * 2, none⟩⟩ = nodes g n (v.proxies.take (k + 1)) := by
  have hX := ok_in (hp k X hx).1
  apply List.ext_getElem?
  intro i
  by_cases hi : i < n
  · by_cases e : X.src.toNat = i
    · subst e
      rw [List.getElem?_set_self (by rw [nodes_len]; exact hi), nodes_at hi, nxt_take hp hx, if_pos (by omega), ptr_in hX.2.1]
    · rw [List.getElem?_set_ne e, nodes_at hi, nodes_at hi, nxt_take hp hx, if_neg (by omega)]
  · rw [List.getElem?_eq_none (by rw [List.length_set, nodes_len]; omega), List.getElem?_eq_none (by rw [nodes_len]; omega)]
theorem take_all {α : Type} (l : List α) {n : Nat} (h : l.length ≤ n) : l.take n = l := List.take_of_length_le h
/-- what the nodes' block holds -/
theorem at_num {w : World} {A g n : Nat} {ps : List P} (h : LNode.OwnR w A g n n (nodes g n ps)) {j : Nat} (hj : j < n) : w.cell? ⟨g, j * 2, none⟩ = some (.int .i64 j) := (LNode.cells (Own.at_ h j _ (nodes_at hj))).1
theorem at_ptr {w : World} {A g n : Nat} {ps : List P} (h : LNode.OwnR w A g n n (nodes g n ps)) {j : Nat} (hj : j < n) : w.cell? ⟨g, j * 2 + 1, none⟩ = some (.pointer (ptrTo g (nxt ps (j : Nat)))) := (LNode.cells (Own.at_ h j _ (nodes_at hj))).2
/-- the place of the k-th voter on the way from i -/
def pl (ps : List P) (i : Int) (k : Nat) : Nat := (it ps k i).toNat
theorem pl_cast {v : V} (hp : PP v) {i : Int} (h0 : 0 ≤ i) (h1 : i < v.weights.length) {k : Nat} (ha : Alive v.proxies i k) : ((pl v.proxies i k : Nat) : Int) = it v.proxies k i ∧ pl v.proxies i k < v.weights.length := by
  have := it_in hp h0 h1 k ha
  unfold pl; omega
theorem pl_ptr {v : V} (hp : PP v) {w : World} {A g n : Nat} (hn : v.weights.length = n) (h : LNode.OwnR w A g n n (nodes g n v.proxies)) {i : Int} (h0 : 0 ≤ i) (h1 : i < n) {k : Nat} (ha : Alive v.proxies i (k + 1)) :
    w.cell? ⟨g, pl v.proxies i k * 2 + 1, none⟩ = some (.pointer (some ⟨g, pl v.proxies i (k + 1) * 2, none⟩)) := by
  subst hn
  have ha' : Alive v.proxies i k := fun j hj => ha j (by omega)
  obtain ⟨h2, h3⟩ := pl_cast hp h0 h1 ha'
  have := it_in hp h0 h1 (k + 1) ha
  rw [at_ptr h h3, h2, ptr_in (show 0 ≤ nxt v.proxies (it v.proxies k i) from this.1)]; rfl
theorem pl_end {v : V} (hp : PP v) {w : World} {A g n : Nat} (hn : v.weights.length = n) (h : LNode.OwnR w A g n n (nodes g n v.proxies)) {i : Int} (h0 : 0 ≤ i) (h1 : i < n) {k : Nat} (ha : Alive v.proxies i k) (he : nxt v.proxies (it v.proxies k i) < 0) :
    w.cell? ⟨g, pl v.proxies i k * 2 + 1, none⟩ = some (.pointer none) := by
  subst hn
  obtain ⟨h2, h3⟩ := pl_cast hp h0 h1 ha
  rw [at_ptr h h3, h2, ptr_no he]
theorem pl_num {v : V} (hp : PP v) {w : World} {A g n : Nat} (hn : v.weights.length = n) (h : LNode.OwnR w A g n n (nodes g n v.proxies)) {i : Int} (h0 : 0 ≤ i) (h1 : i < n) {k : Nat} (ha : Alive v.proxies i k) :
    w.cell? ⟨g, pl v.proxies i k * 2, none⟩ = some (.int .i64 (it v.proxies k i)) := by
  subst hn
  obtain ⟨h2, h3⟩ := pl_cast hp h0 h1 ha
  rw [at_num h h3, h2]
theorem alive_le {ps : List P} {i : Int} {k m : Nat} (h : Alive ps i m) (hk : k ≤ m) : Alive ps i k := fun j hj => h j (by omega)
theorem pl_apart {v : V} (hp : PP v) {i : Int} (h0 : 0 ≤ i) (h1 : i < v.weights.length) {m a b : Nat} (hA : Alive v.proxies i m) (hE : nxt v.proxies (it v.proxies m i) < 0) (hab : a < b) (hb : b ≤ m) : pl v.proxies i a ≠ pl v.proxies i b := fun h => by
  have ha := pl_cast hp h0 h1 (alive_le hA (show a ≤ m by omega))
  have hb' := pl_cast hp h0 h1 (alive_le hA hb)
  exact ends_apart hA hE hab hb (by omega)
end Go.Proofs.Ytdjnaoaniokbgaa.VoN
