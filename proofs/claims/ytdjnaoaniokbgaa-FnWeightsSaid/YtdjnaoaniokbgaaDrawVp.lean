/- The voters' box while they are drawn. No condition. -/
import Derived.Test.YtdjnaoaniokbgaaJ1
import Derived.Test.YtdjnaoaniokbgaaAppO
import Derived.Test.YtdjnaoaniokbgaaLVotersD
namespace Go.Proofs.Ytdjnaoaniokbgaa.Draw
open Go.RowKit Cur Bs
set_option linter.unusedVariables false
/-- the voters lie in box G (its cells c0, c1), the result's cell is R; the slices s0, s1 are the draw's own -/
structure Vp (w : World) (R G B m : Nat) (c0 c1 s0 s1 : Value) (r : LVoters.R) (wx : World) : Prop where
  live : Live B m w wx
  box : Bx wx G 27 #[c0, c1]
  res : Bx wx R 27 #[.slice none 0 0, .slice none 0 0]
  o0 : Own LInt.rec 3 wx (G + 1) s0 r.weights
  o1 : Own LProxy.rec 70 wx (G + 1) s1 r.proxies
  d : Dist s0 s1
  rg : R < G
  wr : w.heap.size ≤ R
section
variable {w : World} {R G B m m' : Nat} {c0 c1 s0 s1 : Value} {r : LVoters.R} {wx w' : World}
theorem Vp.gb (h : Vp w R G B m c0 c1 s0 s1 r wx) : G ≠ B ∧ R ≠ B ∧ B < G + 1 := by
  have h1 := h.live.low
  have h2 := h.rg
  have h3 := h.wr
  omega
theorem Vp.alloc (h : Vp w R G B m c0 c1 s0 s1 r wx) (o : Obj) : Vp w R G B m c0 c1 s0 s1 r (wx.alloc o) := ⟨h.live.alloc o, h.box.alloc o, h.res.alloc o, Own.alloc h.o0 o, Own.alloc h.o1 o, h.d, h.rg, h.wr⟩
theorem Vp.draw (h : Vp w R G B m c0 c1 s0 s1 r wx) (hc : Cur w' B m') (hg : wx.grownBy w' (some B)) : Vp w R G B m' c0 c1 s0 s1 r w' :=
  ⟨h.live.draw hc hg, Bx.grown h.box hg h.gb.1, Bx.grown h.res hg h.gb.2.1, own_grown h.o0 hg h.gb.2.2, own_grown h.o1 hg h.gb.2.2, h.d, h.rg, h.wr⟩
theorem Vp.kept (h : Vp w R G B m c0 c1 s0 s1 r wx) (hb : Below wx.heap.size wx w') : Vp w R G B m c0 c1 s0 s1 r w' :=
  ⟨h.live.kept hb, Bx.keptB h.box hb, Bx.keptB h.res hb, h.o0.kept hb, h.o1.kept hb, h.d, h.rg, h.wr⟩
theorem Vp.mono (h : Vp w R G B m c0 c1 s0 s1 r wx) (hm : m ≤ m') : Vp w R G B m' c0 c1 s0 s1 r wx := ⟨h.live.mono hm, h.box, h.res, h.o0, h.o1, h.d, h.rg, h.wr⟩
theorem Vp.app0 {v' : Value} {xs : List Int} (h : Vp w R G B m c0 c1 s0 s1 r wx) (hown : Own LInt.rec 3 w' (G + 1) v' xs) (hg : wx.grownBy w' s0.ownBlock) (hat : v'.ownBlock = s0.ownBlock ∨ v'.ownBlock = some wx.heap.size) : Vp w R G B m c0 c1 v' s1 ⟨xs, r.proxies⟩ w' :=
  ⟨h.live.own hg (fun k hk => by have := (h.o0.lt k hk).1; have := h.rg; have := h.wr; omega), (hg.block G h.box.lt (fun e => by have := (h.o0.lt G e.symm).1; omega)).trans h.box, (hg.block R h.res.lt (fun e => by have := (h.o0.lt R e.symm).1; have := h.rg; omega)).trans h.res,
   hown, own_besides h.o1 hg h.d.symm, (dist_grow h.o1 h.d.symm hat).symm, h.rg, h.wr⟩
theorem Vp.app1 {v' : Value} {xs : List LProxy.R} (h : Vp w R G B m c0 c1 s0 s1 r wx) (hown : Own LProxy.rec 70 w' (G + 1) v' xs) (hg : wx.grownBy w' s1.ownBlock) (hat : v'.ownBlock = s1.ownBlock ∨ v'.ownBlock = some wx.heap.size) : Vp w R G B m c0 c1 s0 v' ⟨r.weights, xs⟩ w' :=
  ⟨h.live.own hg (fun k hk => by have := (h.o1.lt k hk).1; have := h.rg; have := h.wr; omega), (hg.block G h.box.lt (fun e => by have := (h.o1.lt G e.symm).1; omega)).trans h.box, (hg.block R h.res.lt (fun e => by have := (h.o1.lt R e.symm).1; have := h.rg; omega)).trans h.res,
   own_besides h.o0 hg h.d, hown, dist_grow h.o0 h.d hat, h.rg, h.wr⟩
theorem Vp.set0 (h : Vp w R G B m c0 c1 s0 s1 r wx) (u : Value) : Vp w R G B m u c1 s0 s1 r (wx.setCell ⟨G, 0, none⟩ u) :=
  ⟨h.live.set (p := ⟨G, 0, none⟩) (by show w.heap.size ≤ G; have := h.rg; have := h.wr; omega) u, h.box.set_ 0 u, h.res.far (p := ⟨G, 0, none⟩) (by show R ≠ G; have := h.rg; omega) u,
   own_set h.o0 (p := ⟨G, 0, none⟩) (fun k hk => by have := (h.o0.lt k hk).1; show k ≠ G; omega) u, own_set h.o1 (p := ⟨G, 0, none⟩) (fun k hk => by have := (h.o1.lt k hk).1; show k ≠ G; omega) u, h.d, h.rg, h.wr⟩
theorem Vp.set1 (h : Vp w R G B m c0 c1 s0 s1 r wx) (u : Value) : Vp w R G B m c0 u s0 s1 r (wx.setCell ⟨G, 1, none⟩ u) :=
  ⟨h.live.set (p := ⟨G, 1, none⟩) (by show w.heap.size ≤ G; have := h.rg; have := h.wr; omega) u, h.box.set_ 1 u, h.res.far (p := ⟨G, 1, none⟩) (by show R ≠ G; have := h.rg; omega) u,
   own_set h.o0 (p := ⟨G, 1, none⟩) (fun k hk => by have := (h.o0.lt k hk).1; show k ≠ G; omega) u, own_set h.o1 (p := ⟨G, 1, none⟩) (fun k hk => by have := (h.o1.lt k hk).1; show k ≠ G; omega) u, h.d, h.rg, h.wr⟩
theorem Vp.swap {u0 u1 : Value} {q : LVoters.R} (h : Vp w R G B m c0 c1 s0 s1 r wx) (h0 : Own LInt.rec 3 wx (G + 1) u0 q.weights) (h1 : Own LProxy.rec 70 wx (G + 1) u1 q.proxies) (hd : Dist u0 u1) : Vp w R G B m c0 c1 u0 u1 q wx := ⟨h.live, h.box, h.res, h0, h1, hd, h.rg, h.wr⟩
theorem Vp.far {p : Addr} (h : Vp w R G B m c0 c1 s0 s1 r wx) (hp : G < p.block) (h0 : ∀ k, s0.ownBlock = some k → k ≠ p.block) (h1 : ∀ k, s1.ownBlock = some k → k ≠ p.block) (u : Value) : Vp w R G B m c0 c1 s0 s1 r (wx.setCell p u) :=
  ⟨h.live.set (by have := h.rg; have := h.wr; omega) u, h.box.far (by omega) u, h.res.far (by have := h.rg; omega) u, own_set h.o0 h0 u, own_set h.o1 h1 u, h.d, h.rg, h.wr⟩
theorem Vp.under (h : Vp w R G B m c0 c1 s0 s1 r wx) : G < wx.heap.size ∧ (∀ k, s0.ownBlock = some k → k ≠ wx.heap.size) ∧ ∀ k, s1.ownBlock = some k → k ≠ wx.heap.size :=
  ⟨h.box.lt, fun k hk => by have := (h.o0.lt k hk).2; omega, fun k hk => by have := (h.o1.lt k hk).2; omega⟩
theorem Vp.cells (h : Vp w R G B m c0 c1 s0 s1 r wx) : wx.cell? ⟨G, 0, none⟩ = some c0 ∧ wx.cell? ⟨G, 1, none⟩ = some c1 := ⟨by rw [h.box.cell 0]; rfl, by rw [h.box.cell 1]; rfl⟩
/-- stored into the result -/
theorem Vp.done (h : Vp w R G B m c0 c1 s0 s1 r wx) : LVoters.Own ((wx.setCell ⟨R, 0, none⟩ s0).setCell ⟨R, 1, none⟩ s1) w.heap.size (.agg #[s0, s1]) r ∧ Cur ((wx.setCell ⟨R, 0, none⟩ s0).setCell ⟨R, 1, none⟩ s1) B m ∧ w.grownBy ((wx.setCell ⟨R, 0, none⟩ s0).setCell ⟨R, 1, none⟩ s1) (some B) ∧ Bx ((wx.setCell ⟨R, 0, none⟩ s0).setCell ⟨R, 1, none⟩ s1) R 27 #[s0, s1] := by
  have hL := (h.live.set (p := ⟨R, 0, none⟩) h.wr s0).set (p := ⟨R, 1, none⟩) h.wr s1
  have hg := h.rg
  have hw := h.wr
  have n0 : ∀ k, s0.ownBlock = some k → k ≠ R := fun k hk => by have := (h.o0.lt k hk).1; omega
  have n1 : ∀ k, s1.ownBlock = some k → k ≠ R := fun k hk => by have := (h.o1.lt k hk).1; omega
  refine ⟨⟨s0, s1, rfl, (own_set (own_set h.o0 (p := ⟨R, 0, none⟩) n0 s0) (p := ⟨R, 1, none⟩) n0 s1).low (by omega), (own_set (own_set h.o1 (p := ⟨R, 0, none⟩) n1 s0) (p := ⟨R, 1, none⟩) n1 s1).low (by omega), h.d⟩, hL.cur, hL.grown, ?_⟩
  have h2 := (h.res.set_ 0 s0).set_ 1 s1
  simpa using h2
theorem Vp.slices (h : Vp w R G B m c0 c1 s0 s1 r wx) : (∃ b n c, s0 = .slice b n c) ∧ ∃ b n c, s1 = .slice b n c := ⟨own_slice h.o0, own_slice h.o1⟩
end
/-- voters of the call's own -/
def VoOf (w : World) (B m : Nat) (e : Ending) (w' : World) : Prop := ∃ v r, e = .returned v ∧ LVoters.Own w' w.heap.size v r ∧ r.weights.length ≤ 14 ∧ r.proxies.length ≤ 14 ∧ Cur w' B m ∧ w.grownBy w' (some B)
end Go.Proofs.Ytdjnaoaniokbgaa.Draw
