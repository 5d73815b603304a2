/- The draws of a need and a number, of a need and a tally. No condition. -/
import Derived.Test.YtankaffhapcnaaaDrawTal
namespace Go.Proofs.Ytankaffhapcnaaa.DrawTal
open Go.RowKit Cur Bs Draw Tal
set_option linter.unusedVariables false
def IntArgs (w : World) (e : Ending) (w' : World) : Prop := ∃ x y : Int, e = .returned (.tuple #[.int .i64 x, .int .i64 y]) ∧ Below w.heap.size w w'
def NtArgs (w : World) (e : Ending) (w' : World) : Prop := ∃ (x : Int) (r : T), e = .returned (.tuple #[.int .i64 x, .agg #[.int .i64 r.yes, .int .i64 r.no, .int .i64 r.abstain]]) ∧ Below w.heap.size w w'
theorem need (B m : Nat) (w : World) (h : Cur w B m) (hm : m < 800000) : Calls Try.prog 113 #[.pointer (some ⟨B, 0, none⟩)] w (Ints w B (m + 2) [1, 2, 3, 1, 2, 3, 1, 2, 3, 0, 4]) := by
  have HX := Lib.hid (among_lit B m [1, 2, 3, 1, 2, 3, 1, 2, 3, 0, 4] w h (by omega) (by decide) (by decide))
  clear h
  go_enter Try.func113, Try.ntmps113
  go_wp2_with fail
  refine HX.out.mono ?_
  rintro e w1 ⟨x, hx, rfl, hc, hg⟩
  go_wp2_with fail
  go_ret
  exact ⟨x, hx, rfl, hc, hg⟩
set_option maxRecDepth 100000 in
set_option maxHeartbeats 3200000 in
theorem drawYesNeeded (a : Option Addr) (len cap : Nat) (zs : List Int) (w : World) (h : Frame.IsRow .u8 w a len cap zs) (hl : len ≤ 65536) :
    Calls Try.prog 53 #[.slice a len cap] w (IntArgs w) := by
  have HC := Lib.hid (cur_new h hl)
  clear h
  go_enter Try.func53, Try.ntmps53
  go_wp2_with fail
  generalize hWW : w.alloc (.cells #[.slice a len cap, .int .i64 0, .int .u64 0] 79) = W0 at *
  have HWW := Lib.hid hWW
  generalize hB0 : w.heap.size = B at *
  have HB0 := Lib.hid hB0
  clear hWW hB0
  refine (need B 0 _ HC.out (by omega)).mono ?_
  rintro e w1 ⟨x, _, rfl, hc, hg⟩
  have HC1 := Lib.hid hc
  have HG := Lib.hid hg
  clear hc hg HC
  go_wp2_with fail
  refine (among_lit B _ [0, 1, 2, 5, 20, 999, 1000, 1001, -1] _ HC1.out (by omega) (by decide) (by decide)).mono ?_
  rintro e w2 ⟨y, _, rfl, hc, hg⟩
  have hbl := below_end HB0.out HWW.out (grown_trans HG.out hg)
  clear hc hg HG HC1
  go_wp2_with fail
  go_ret2
  exact ⟨x, y, rfl, hbl⟩
theorem drawMostNo (a : Option Addr) (len cap : Nat) (zs : List Int) (w : World) (h : Frame.IsRow .u8 w a len cap zs) (hl : len ≤ 65536) :
    Calls Try.prog 58 #[.slice a len cap] w (IntArgs w) := by
  have HD := Lib.hid (drawYesNeeded a len cap zs w h hl)
  clear h
  unfold IntArgs at HD
  go_enter Try.func58, Try.ntmps58
  go_wp2_with fail
  refine HD.out.mono ?_
  rintro e w1 ⟨x, y, rfl, hb⟩
  go_wp2_with fail
  go_ret2
  exact ⟨x, y, rfl, hb⟩
set_option maxRecDepth 100000 in
set_option maxHeartbeats 3200000 in
theorem drawIsAdopted (a : Option Addr) (len cap : Nat) (zs : List Int) (w : World) (h : Frame.IsRow .u8 w a len cap zs) (hl : len ≤ 65536) :
    Calls Try.prog 60 #[.slice a len cap] w (NtArgs w) := by
  have hs : (w.alloc (.cells #[.int .i64 0, .int .i64 0, .int .i64 0] 71)).heap.size = w.heap.size + 1 := by simp
  have HC := Lib.hid (cur_new (row_kept h ((Below.refl _ _).alloc (Nat.le_refl _) (.cells #[.int .i64 0, .int .i64 0, .int .i64 0] 71))) hl)
  have HR := Lib.hid ((Draw.Bx.new w 71 #[.int .i64 0, .int .i64 0, .int .i64 0]).alloc (.cells #[.slice a len cap, .int .i64 0, .int .u64 0] 79))
  have HBel : Hid (∀ w', ((w.alloc (.cells #[.int .i64 0, .int .i64 0, .int .i64 0] 71)).alloc (.cells #[.slice a len cap, .int .i64 0, .int .u64 0] 79)).grownBy w' (some (w.heap.size + 1)) → Below w.heap.size w w') := Lib.hid (fun w' hg => by
    rw [← hs] at hg
    exact ((Below.refl w.heap.size w).alloc (Nat.le_refl _) _).trans ((below_cur hg).mono (by simp)))
  rw [hs] at HC
  clear h hs
  go_enter Try.func60, Try.ntmps60
  go_wp2_with fail
  generalize (w.alloc (.cells #[.int .i64 0, .int .i64 0, .int .i64 0] 71)).alloc (.cells #[.slice a len cap, .int .i64 0, .int .u64 0] 79) = W0 at *
  generalize hB0 : w.heap.size + 1 = B at *
  refine (need B 0 _ HC.out (by omega)).mono ?_
  rintro e w0 ⟨x, _, rfl, hc, hg⟩
  have HC1 := Lib.hid hc
  have HG := Lib.hid hg
  replace HR := Lib.hid (HR.out.grown hg (by omega))
  clear hc hg HC
  go_wp2_with fail
  refine (tally B _ _ HC1.out (by omega)).mono ?_
  rintro e w1 ⟨r, rfl, hc, hg⟩
  have hb := HBel.out _ (grown_trans HG.out hg)
  replace HR := Lib.hid (HR.out.grown hg (by omega))
  clear hc hg HC1 HG HBel
  have l0 := HR.out.cell 0
  have l1 := HR.out.cell 1
  have l2 := HR.out.cell 2
  simp only [List.getElem?_toArray, List.getElem?_cons_zero, List.getElem?_cons_succ] at l0 l1 l2
  have lf0 := HR.out.frozen 0
  have lf1 := HR.out.frozen 1
  have lf2 := HR.out.frozen 2
  have HRf := Lib.hid (bx3 HR.out (.int .i64 r.yes) (.int .i64 r.no) (.int .i64 r.abstain))
  have HBF := ((hb.setCell (p := ⟨w.heap.size, 0, none⟩) (Nat.le_refl _) (.int .i64 r.yes)).setCell (p := ⟨w.heap.size, 1, none⟩) (Nat.le_refl _) (.int .i64 r.no)).setCell (p := ⟨w.heap.size, 2, none⟩) (Nat.le_refl _) (.int .i64 r.abstain)
  go_wp2_with fail
  have e0 := HRf.out.cell 0
  have e1 := HRf.out.cell 1
  have e2 := HRf.out.cell 2
  simp only [List.getElem?_toArray, List.getElem?_cons_zero, List.getElem?_cons_succ] at e0 e1 e2
  (try simp only [Exit.inBlock, Exit.then])
  refine bodyPost_ret (v := .tuple #[.int .i64 x, .agg #[.int .i64 r.yes, .int .i64 r.no, .int .i64 r.abstain]]) (by simp [results, Try.results60, go_sem, e0, e1, e2]) rfl ?_
  exact ⟨x, r, rfl, HBF⟩
end Go.Proofs.Ytankaffhapcnaaa.DrawTal
