/- ParseAmendment: what it answers, on both sides. The program's wants the laid package variables of strconv and the cell of internal/bytealg.MaxLen. -/
import Derived.Test.YtfkppgnffhbfjaaDoorPAmP
namespace Go.Proofs.YtfkppgnffhbfjaaDoor.ParseAmendmentC
open Go.RowKit Bs Am
set_option linter.unusedVariables false
abbrev Ans := PAm.Ans
abbrev Post := PAmI.Post
theorem same {a0 : ByteArray} {r0 s0 : M} {r1 s1 : Bool} (h1 : Ans a0 r0 r1) (h2 : Ans a0 s0 s1) : r0 = s0 ∧ r1 = s1 := PAm.Ans.same h1 h2
theorem len0 {a0 : ByteArray} {r0 : M} {r1 : Bool} (h : Ans a0 r0 r1) : r0.words.length ≤ 1048576 := by
  rcases h with ⟨_, h, _⟩ | ⟨⟨_, rfl⟩, _⟩
  · have := good_lens h; omega
  · simp [zeroM]
theorem impl (a0 : ByteArray) (w : World) (hs0 : a0.size ≤ 1048576) (vp : Laid.Pow w) (vr : Laid.Err "strconv.ErrRange" w) (vs : Laid.Err "strconv.ErrSyntax" w) (vm : PAmH.Mx w) :
    Calls Tryd.prog 11 #[.string a0] w (Post a0 w) := PAmI.parse a0 w hs0 vp vr vs vm
set_option maxRecDepth 100000 in
set_option maxHeartbeats 1600000 in
theorem spec (a0 : ByteArray) (w : World) (hs0 : a0.size ≤ 1048576) :
    Calls Tryd.prog 10 #[.string a0] w (Post a0 w) := by
  have hb := (Below.refl w.heap.size w).alloc (Nat.le_refl _) (Obj.cells #[.int .i64 0, .int .i64 0, .int .i64 0, .slice none 0 0] 28)
  have HR := Lib.hid (Bx.new w 28 #[.int .i64 0, .int .i64 0, .int .i64 0, .slice none 0 0])
  have HC := Lib.hid (fun W => PAmP.parse a0 W hs0)
  unfold PAmI.Post at HC
  have hRw : w.heap.size ≤ w.heap.size := Nat.le_refl _
  go_enter Tryd.func10, Tryd.ntmps10
  go_wp2_with fail
  refine (HC.out _).mono ?_
  rintro e w1 ⟨v0, r0, r1, rfl, ha, hown, hb1⟩
  obtain ⟨fa, fn, fc, rfl⟩ := LAmendment.Own.form hown
  have HOr := Lib.hid (LAmendment.Own.low hown (show w.heap.size + 1 ≤ _ by simp))
  have HAns := Lib.hid ha
  replace HR := Lib.hid (HR.out.kept hb1)
  replace hb := hb.trans (hb1.mono hb.size)
  clear hb1 hown ha HC
  have x0 := HR.out.cell 0
  have x1 := HR.out.cell 1
  have x2 := HR.out.cell 2
  have x3 := HR.out.cell 3
  simp only [List.getElem?_toArray, List.getElem?_cons_zero, List.getElem?_cons_succ] at x0 x1 x2 x3
  have f0 := HR.out.frozen 0
  have f1 := HR.out.frozen 1
  have f2 := HR.out.frozen 2
  have f3 := HR.out.frozen 3
  have HRS := Lib.hid (Bx.set_ (Bx.set_ (Bx.set_ (Bx.set_ HR.out 0 (.int .i64 r0.kind)) 1 (.int .i64 r0.pos)) 2 (.int .i64 r0.count)) 3 (.slice fa fn fc))
  have hbs := ((((hb.setCell (p := ⟨w.heap.size, 0, none⟩) hRw (.int .i64 r0.kind)).setCell (p := ⟨w.heap.size, 1, none⟩) hRw (.int .i64 r0.pos)).setCell (p := ⟨w.heap.size, 2, none⟩) hRw (.int .i64 r0.count)).setCell (p := ⟨w.heap.size, 3, none⟩) hRw (.slice fa fn fc))
  obtain ⟨sv, hsv, hos⟩ := HOr.out
  obtain rfl : .slice fa fn fc = sv := by simp only [Value.agg.injEq, Array.mk.injEq, List.cons.injEq, and_true, true_and] at hsv; exact hsv
  have HOS := Lib.hid (own_set (own_set (own_set (own_set hos (p := ⟨w.heap.size, 0, none⟩) (fun k hk => by have h2 := (hos.lt k hk).1; show k ≠ w.heap.size; omega) (.int .i64 r0.kind)) (p := ⟨w.heap.size, 1, none⟩) (fun k hk => by have h2 := (hos.lt k hk).1; show k ≠ w.heap.size; omega) (.int .i64 r0.pos)) (p := ⟨w.heap.size, 2, none⟩) (fun k hk => by have h2 := (hos.lt k hk).1; show k ≠ w.heap.size; omega) (.int .i64 r0.count)) (p := ⟨w.heap.size, 3, none⟩) (fun k hk => by have h2 := (hos.lt k hk).1; show k ≠ w.heap.size; omega) (.slice fa fn fc))
  clear hos hsv
  go_wp2_with fail
  clear x0 x1 x2 x3 f0 f1 f2 f3
  generalize (((w1.setCell ⟨w.heap.size, 0, none⟩ (.int .i64 r0.kind)).setCell ⟨w.heap.size, 1, none⟩ (.int .i64 r0.pos)).setCell ⟨w.heap.size, 2, none⟩ (.int .i64 r0.count)).setCell ⟨w.heap.size, 3, none⟩ (.slice fa fn fc) = wz at *
  simp only [List.setIfInBounds_toArray, List.set_cons_zero, List.set_cons_succ] at HRS
  have x0 := HRS.out.cell 0
  have x1 := HRS.out.cell 1
  have x2 := HRS.out.cell 2
  have x3 := HRS.out.cell 3
  simp only [List.getElem?_toArray, List.getElem?_cons_zero, List.getElem?_cons_succ] at x0 x1 x2 x3
  (try simp only [Exit.inBlock, Exit.then])
  refine bodyPost_ret (v := .tuple #[.agg #[.int .i64 r0.kind, .int .i64 r0.pos, .int .i64 r0.count, .slice fa fn fc], .bool r1]) (by rw [results_cell_tmp rfl]; go_simp) rfl ?_
  exact ⟨_, r0, r1, rfl, HAns.out, ⟨_, rfl, Bs.Own.low HOS.out (by omega)⟩, hbs⟩

end Go.Proofs.YtfkppgnffhbfjaaDoor.ParseAmendmentC
