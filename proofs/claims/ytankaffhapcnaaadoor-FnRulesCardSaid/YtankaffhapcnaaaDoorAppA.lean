/- An append as a step of a region that draws its order, with the place of its result. No condition. -/
import Derived.Test.YtankaffhapcnaaaDoorJ1
import Derived.Maps.AppendAt
namespace Go.Proofs.YtankaffhapcnaaaDoor.Bs
open Go.RowKit
theorem step_append_at {P : Program} {w : World} {ops : Array Oper} {o : Oper} {a : Act} {K : Act → World → Prop} {Q : Exit → Act → World → Prop} {E : Prop} (hgd : o.guard = none) (s x : Operand) (t : TypeId)
    (ho : o.op = .call { callee := .builtin .append, args := #[s, x], argTypes := #[t, t] })
    (base : Nat) (e : TypeId) (i : TypeInfo) (z : Value) (size bytes : Nat) (ht : P.underlying t = some (.slice e)) (hi : P.info? e = some i) (hz : i.zero = some z)
    (hsize : i.size = size) (hby : i.bytes = bytes) (hzs : z.cells.size = size) (hsz : 0 < size)
    (v : Value) (n : Nat) (xs : List Value) (hs : a.eval s = v) (hown : w.ownsRow base e size v n xs)
    (ad : Addr) (m c : Nat) (news : List Value) (hx : a.eval x = .slice (some ad) m c) (hl : news.length = m * size) (hnews : ∀ j u, news[j]? = some u → w.cell? (ad.add j) = some u) (h1 : ∀ u ∈ news, u.oneCell' = true)
    (h63 : n + m ≤ maxLen) (hbytes : (n + m) * bytes ≤ 140737488355328) (hbase : base ≤ w.heap.size)
    (h : ∀ v' w', w'.ownsRow base e size v' (n + m) (xs ++ news) → w.grownBy w' v.ownBlock → (v'.ownBlock = v.ownBlock ∨ v'.ownBlock = some w.heap.size) → K (a.put o.dst v') w') :
    if Region.wanted o (yielded ops a.tmps) = true then Oper.wp P o a w K Q else E := by
  have hw : Region.wanted o (yielded ops a.tmps) = true := by simp [Region.wanted, hgd]
  rw [if_pos hw]
  obtain ⟨v', w', hr, h2, h3, h4, h5⟩ := run_append_own_at (P := P) w base t o.type e i z size bytes ht hi hz hsize hby hzs hsz v n xs hown ad m c news hl hnews h1 h63 hbytes hbase
  unfold Oper.wp execOp
  simp only [ho, resolve, invoke, builtin, Sem.run_bind, Sem.run_pure, Result.andThen_ok, List.map_toArray, List.map_cons, List.map_nil, hs, hx, hr]
  exact h v' w' h2 h3 h5
/-- a block that another slice's growth leaves alone -/
theorem grown_far {w w' : World} {g B : Nat} {n c : Nat} (hg : w.grownBy w' (Value.slice (some ⟨g, 0, none⟩) n c).ownBlock) (hB : B < w.heap.size) (hne : g ≠ B) : w'.heap[B]? = w.heap[B]? :=
  hg.block B hB (fun e => hne (Option.some.inj e).symm)
/-- what an append to a slice of the call's own leaves as it was -/
theorem app_keep {w W X w6 : World} {g n c : Nat} (hg : X.grownBy w6 (Value.slice (some ⟨g, 0, none⟩) n c).ownBlock) (hX : Below W.heap.size W X) (hb : Below w.heap.size w W) (hge : w.heap.size ≤ g) :
    Below w.heap.size w w6 ∧ W.heap.size ≤ w6.heap.size ∧ ∀ B, B < W.heap.size → g ≠ B → w6.heap[B]? = W.heap[B]? :=
  ⟨Below.grown (hb.trans (hX.mono hb.size)) hg (Nat.le_trans hb.size hX.size) (fun j hj => by simp only [Value.ownBlock, Option.some.injEq] at hj; omega), Nat.le_trans hX.size hg.size,
   fun B hB hne => (grown_far hg (Nat.lt_of_lt_of_le hB hX.size) hne).trans (hX.block B hB)⟩
end Go.Proofs.YtankaffhapcnaaaDoor.Bs
