/- An append in a region that draws its order, with the place where the result lies. No condition. -/
import Derived.Test.YtdjnaoaniokbgaaJ1
import Derived.Test.YtdjnaoaniokbgaaBx
import Derived.Maps.AppendAt
namespace Go.Proofs.Ytdjnaoaniokbgaa.Bs
open Go.RowKit
set_option linter.unusedVariables false
theorem step_append_at {P : Program} {w : World} {ops : Array Oper} {o : Oper} {a : Act} {K : Act → World → Prop} {Q : Exit → Act → World → Prop} {E : Prop} (hgd : o.guard = none) (s x : Operand) (t : TypeId)
    (ho : o.op = .call { callee := .builtin .append, args := #[s, x], argTypes := #[t, t] })
    (base : Nat) (e : TypeId) (i : TypeInfo) (z : Value) (size bytes : Nat) (ht : P.underlying t = some (.slice e)) (hi : P.info? e = some i) (hz : i.zero = some z)
    (hsize : i.size = size) (hby : i.bytes = bytes) (hzs : z.cells.size = size) (hsz : 0 < size)
    (v : Value) (n : Nat) (xs : List Value) (hs : a.eval s = v) (hown : w.ownsRow base e size v n xs)
    (ad : Addr) (m c : Nat) (news : List Value) (hx : a.eval x = .slice (some ad) m c) (hl : news.length = m * size) (hnews : ∀ j u, news[j]? = some u → w.cell? (ad.add j) = some u) (h1 : ∀ u ∈ news, u.oneCell' = true)
    (h63 : n + m ≤ maxLen) (hbytes : (n + m) * bytes ≤ 140737488355328) (hbase : base ≤ w.heap.size)
    (h : ∀ v' w', w'.ownsRow base e size v' (n + m) (xs ++ news) → w.grownBy w' v.ownBlock → (v'.ownBlock = v.ownBlock ∨ v'.ownBlock = some w.heap.size) → K (a.put o.dst v') w') :
    if Region.wanted o (yielded ops a.tmps) = true then Oper.wp P o a w K Q else E := by
  have hw : Region.wanted o (yielded ops a.tmps) = true := by simp [Region.wanted, hgd]
  rw [if_pos hw]
  obtain ⟨v', w', hr, h2, h3, h4, h5⟩ := run_append_own_at (P := P) w base t o.type e i z size bytes ht hi hz hsize hby hzs hsz v n xs hown ad m c news hl hnews h1 h63 hbytes hbase
  unfold Oper.wp execOp
  simp only [ho, resolve, invoke, builtin, Sem.run_bind, Sem.run_pure, Result.andThen_ok, List.map_toArray, List.map_cons, List.map_nil, hs, hx, hr]
  exact h v' w' h2 h3 h5
/-- what an append leaves alone -/
theorem Bx.grownBy {w w' : World} {G : Nat} {t : TypeId} {cs : Array Value} {r : Option Nat} (h : Bx w G t cs) (hg : w.grownBy w' r) (hne : r ≠ some G) : Bx w' G t cs := (hg.block G h.lt (fun e => hne e.symm)).trans h
theorem ne_next {w : World} {v v' : Value} {G : Nat} (h : v.ownBlock ≠ some G) (hG : G < w.heap.size) (hat : v'.ownBlock = v.ownBlock ∨ v'.ownBlock = some w.heap.size) : v'.ownBlock ≠ some G := fun e => by
  rcases hat with h' | h'
  · exact h (by rw [← h']; exact e)
  · rw [e] at h'
    have := Option.some.inj h'
    omega
theorem row_slice {w : World} {A E n cnt : Nat} {v : Value} {cs : List Value} (h : w.ownsRow A E n v cnt cs) : ∃ a c, v = .slice a cnt c := by
  rcases h.2 with ⟨h', hz⟩ | ⟨g, cap, cur, h', _⟩
  · exact ⟨_, _, by rw [h', hz]⟩
  · exact ⟨_, _, h'⟩
theorem own_alloc {w : World} {A E n cnt : Nat} {v : Value} {cs : List Value} (h : w.ownsRow A E n v cnt cs) (o : Obj) : w.ownsRow A E n v cnt cs → (w.alloc o).ownsRow A E n v cnt cs := fun h => h.alloc o
end Go.Proofs.Ytdjnaoaniokbgaa.Bs
