/- The draw of AddRule's arguments. No condition. -/
import Derived.Test.YtbaflfbidgolfaaDrawRs
import Derived.Test.YtbaflfbidgolfaaDrawRf
import Derived.Test.YtbaflfbidgolfaaHeld
namespace Go.Proofs.Ytbaflfbidgolfaa.Draw
open Go.RowKit Cur Bs
set_option linter.unusedVariables false
def AddArgs (w : World) (e : Ending) (w' : World) : Prop := ∃ (v : Value) (z : List LRule.R) (r : LRule.R), e = .returned (.tuple #[v, .agg #[.int .i64 r.id, .string r.name, .int .i64 r.rank, .bool r.sec, .bool r.deb, .bool r.am, .int .i64 r.need]]) ∧ Own LRule.rec 63 w' w.heap.size v z ∧ (∃ g, v.ownBlock = some g) ∧ RShort z ∧ r.name.size ≤ 11 ∧ z.length ≤ 16 ∧ Below w.heap.size w w'
theorem rrow_kept {k : IntKind} {w w' : World} {a : Option Addr} {len cap : Nat} {zs : List Int} (h : Frame.IsRow k w a len cap zs) (hb : Below w.heap.size w w') : Frame.IsRow k w' a len cap zs := by
  rcases h with h | ⟨x, h1, h2, h3, h4, h5, h6⟩
  · exact .inl h
  · refine .inr ⟨x, h1, h2, h3, h4, fun i hi => ?_, h6⟩
    have hc := h5 i hi
    rw [hb.cell (Cur.cell_lt hc)]
    exact hc
theorem own_setR {α : Type} {T : Rec α} {E : TypeId} {w : World} {A : Nat} {v : Value} {xs : List α} (h : Own T E w A v xs) (R : Nat) (hR : R < A) (o : Nat) (u : Value) : Own T E (w.setCell ⟨R, o, none⟩ u) A v xs := own_set h (fun k hk => by have := (h.lt k hk).1; show k ≠ R; omega) u
set_option maxRecDepth 100000 in
set_option maxHeartbeats 3200000 in
theorem drawAddRule (a : Option Addr) (len cap : Nat) (zs : List Int) (w : World) (h : Frame.IsRow .u8 w a len cap zs) (hl : len ≤ 65536) :
    Calls Try.prog 66 #[.slice a len cap] w (AddArgs w) := by
  have hs : (w.alloc (.cells #[.int .i64 0, .string ⟨#[]⟩, .int .i64 0, .bool false, .bool false, .bool false, .int .i64 0] 63)).heap.size = w.heap.size + 1 := by simp
  have HC := Lib.hid (cur_new (rrow_kept h ((Below.refl _ _).alloc (Nat.le_refl _) (.cells #[.int .i64 0, .string ⟨#[]⟩, .int .i64 0, .bool false, .bool false, .bool false, .int .i64 0] 63))) hl)
  have HR := Lib.hid ((Bx.new w 63 #[.int .i64 0, .string ⟨#[]⟩, .int .i64 0, .bool false, .bool false, .bool false, .int .i64 0]).alloc (.cells #[.slice a len cap, .int .i64 0, .int .u64 0] 102))
  have hz : w.heap.size + 1 < ((w.alloc (.cells #[.int .i64 0, .string ⟨#[]⟩, .int .i64 0, .bool false, .bool false, .bool false, .int .i64 0] 63)).alloc (.cells #[.slice a len cap, .int .i64 0, .int .u64 0] 102)).heap.size := by simp
  have HBel : Hid (∀ w', ((w.alloc (.cells #[.int .i64 0, .string ⟨#[]⟩, .int .i64 0, .bool false, .bool false, .bool false, .int .i64 0] 63)).alloc (.cells #[.slice a len cap, .int .i64 0, .int .u64 0] 102)).grownBy w' (some (w.heap.size + 1)) → Below w.heap.size w w') := Lib.hid (fun w' hg => by
    rw [← hs] at hg
    exact ((Below.refl w.heap.size w).alloc (Nat.le_refl _) _).trans ((below_cur hg).mono (by simp)))
  rw [hs] at HC
  clear h hs
  go_enter Try.func66, Try.ntmps66
  go_wp2_with fail
  generalize (w.alloc (.cells #[.int .i64 0, .string ⟨#[]⟩, .int .i64 0, .bool false, .bool false, .bool false, .int .i64 0] 63)).alloc (.cells #[.slice a len cap, .int .i64 0, .int .u64 0] 102) = W0 at *
  generalize hB0 : w.heap.size + 1 = B at *
  refine (rules B 0 _ HC.out (by omega)).mono ?_
  rintro e w1 ⟨v, z, rfl, hv, hvn, hsh, hzl, hc1, hg1⟩
  have HV := Lib.hid hv
  have HVn := Lib.hid hvn
  have HSh := Lib.hid hsh
  have HC1 := Lib.hid hc1
  replace HR := Lib.hid (HR.out.grown hg1 (by omega))
  clear hv hvn hsh hc1 HC
  go_wp2_with fail
  refine (rule B _ _ HC1.out (by omega)).mono ?_
  rintro e w2 ⟨r, rfl, hrs, hc2, hg2⟩
  have HV2 := Lib.hid (own_grown HV.out hg2 hz)
  have hb2 := HBel.out _ (grown_trans hg1 hg2)
  replace HR := Lib.hid (HR.out.grown hg2 (by omega))
  clear hc2 hg1 hg2 HV HC1 HBel
  have j0 := HR.out.frozen 0
  have j1 := HR.out.frozen 1
  have j2 := HR.out.frozen 2
  have j3 := HR.out.frozen 3
  have j4 := HR.out.frozen 4
  have j5 := HR.out.frozen 5
  have j6 := HR.out.frozen 6
  have l0 := HR.out.cell 0
  have l1 := HR.out.cell 1
  have l2 := HR.out.cell 2
  have l3 := HR.out.cell 3
  have l4 := HR.out.cell 4
  have l5 := HR.out.cell 5
  have l6 := HR.out.cell 6
  have HRf := Lib.hid (show Bx (((((((w2.setCell ⟨w.heap.size, 0, none⟩ (.int .i64 r.id)).setCell ⟨w.heap.size, 1, none⟩ (.string r.name)).setCell ⟨w.heap.size, 2, none⟩ (.int .i64 r.rank)).setCell ⟨w.heap.size, 3, none⟩ (.bool r.sec)).setCell ⟨w.heap.size, 4, none⟩ (.bool r.deb)).setCell ⟨w.heap.size, 5, none⟩ (.bool r.am)).setCell ⟨w.heap.size, 6, none⟩ (.int .i64 r.need)) w.heap.size 63 #[.int .i64 r.id, .string r.name, .int .i64 r.rank, .bool r.sec, .bool r.deb, .bool r.am, .int .i64 r.need] from (((((((HR.out.set_ 0 (.int .i64 r.id)).set_ 1 (.string r.name)).set_ 2 (.int .i64 r.rank)).set_ 3 (.bool r.sec)).set_ 4 (.bool r.deb)).set_ 5 (.bool r.am)).set_ 6 (.int .i64 r.need)))
  have HVf := Lib.hid (own_setR (own_setR (own_setR (own_setR (own_setR (own_setR (own_setR HV2.out w.heap.size (by omega) 0 (.int .i64 r.id)) w.heap.size (by omega) 1 (.string r.name)) w.heap.size (by omega) 2 (.int .i64 r.rank)) w.heap.size (by omega) 3 (.bool r.sec)) w.heap.size (by omega) 4 (.bool r.deb)) w.heap.size (by omega) 5 (.bool r.am)) w.heap.size (by omega) 6 (.int .i64 r.need))
  have hbf : Below w.heap.size w (((((((w2.setCell ⟨w.heap.size, 0, none⟩ (.int .i64 r.id)).setCell ⟨w.heap.size, 1, none⟩ (.string r.name)).setCell ⟨w.heap.size, 2, none⟩ (.int .i64 r.rank)).setCell ⟨w.heap.size, 3, none⟩ (.bool r.sec)).setCell ⟨w.heap.size, 4, none⟩ (.bool r.deb)).setCell ⟨w.heap.size, 5, none⟩ (.bool r.am)).setCell ⟨w.heap.size, 6, none⟩ (.int .i64 r.need)) := by (refine Below.setCell ?_ (by exact Nat.le_refl w.heap.size) _; refine Below.setCell ?_ (by exact Nat.le_refl w.heap.size) _; refine Below.setCell ?_ (by exact Nat.le_refl w.heap.size) _; refine Below.setCell ?_ (by exact Nat.le_refl w.heap.size) _; refine Below.setCell ?_ (by exact Nat.le_refl w.heap.size) _; refine Below.setCell ?_ (by exact Nat.le_refl w.heap.size) _; refine Below.setCell ?_ (by exact Nat.le_refl w.heap.size) _; exact hb2)
  have e0 := HRf.out.cell 0
  have e1 := HRf.out.cell 1
  have e2 := HRf.out.cell 2
  have e3 := HRf.out.cell 3
  have e4 := HRf.out.cell 4
  have e5 := HRf.out.cell 5
  have e6 := HRf.out.cell 6
  clear HRf HV2 hb2
  go_wp2_with fail
  refine bodyPost_ret (v := .tuple #[v, .agg #[.int .i64 r.id, .string r.name, .int .i64 r.rank, .bool r.sec, .bool r.deb, .bool r.am, .int .i64 r.need]]) (by simp [results, Try.results66, go_sem, e0, e1, e2, e3, e4, e5, e6]) rfl ⟨v, z, r, rfl, Own.low HVf.out (by omega), HVn.out, HSh.out, hrs, hzl, hbf⟩
end Go.Proofs.Ytbaflfbidgolfaa.Draw
