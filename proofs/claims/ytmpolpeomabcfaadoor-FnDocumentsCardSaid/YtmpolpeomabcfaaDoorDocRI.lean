/- One line of a document: the program's reading. No condition but that a string is no longer than a string can be. -/
import Derived.Test.YtmpolpeomabcfaaDoorDocP
import Derived.Test.YtmpolpeomabcfaaDoorCut1
import Derived.Test.YtmpolpeomabcfaaDoorPLSection
import Derived.Test.YtmpolpeomabcfaaDoorBx
import Derived.BigQuiet
namespace Go.Proofs.YtmpolpeomabcfaaDoor.DocRI
open Go.RowKit Bs Word Doc DocP PLSection Cut1
set_option linter.unusedVariables false
theorem mk_data (b : ByteArray) : (⟨b.data.toList.toArray⟩ : ByteArray) = b := by simp
theorem rd_of {s a b : ByteArray} (h : s.data.toList = a.data.toList ++ 32 :: b.data.toList) (ha : ∀ x ∈ a.data.toList, x ≠ 32) (n : Int) (hn : n = (Lib.countByte a.data.toList 46 : Nat) + 1) : RdI s.data.toList ⟨n, b⟩ :=
  ⟨_, _, h, ha, by rw [hn, mk_data]; rfl⟩
theorem rd_no {s : ByteArray} (h : ∀ x ∈ s.data.toList, x ≠ 32) : ∀ q, ¬ RdI s.data.toList q := fun q ⟨a, b, e, _, _⟩ => h 32 (by rw [e]; simp) rfl
set_option maxRecDepth 100000 in
set_option maxHeartbeats 800000 in
theorem parseSection (s : ByteArray) (w : World) (hs : s.size ≤ 4000) :
    Calls Tryd.prog 43 #[.string s] w (PPost RdI s w) := by
  have HX := Lib.hid (fun W => cut s 32 W (by unfold maxLen; omega))
  unfold CPost at HX
  have hb0 := (Below.refl w.heap.size w).alloc (Nat.le_refl _) (Obj.cells #[.int .i64 0, .string ⟨#[]⟩] 33)
  have HB0 := Lib.hid (Bx.new w 33 #[.int .i64 0, .string ⟨#[]⟩])
  go_enter Tryd.func43, Tryd.ntmps43
  go_wp2_with fail
  refine (HX.out _).mono ?_
  rintro e w1 ⟨a, b, ok, rfl, hp, hb1⟩
  have hb2 := hb0.trans (hb1.mono hb0.size)
  have HBX := Lib.hid (HB0.out.kept hb1)
  have r0 := HBX.out.cell 0
  have r1 := HBX.out.cell 1
  have f0 := HBX.out.frozen 0
  have f1 := HBX.out.frozen 1
  simp only [List.getElem?_toArray, List.getElem?_cons_zero, List.getElem?_cons_succ] at r0 r1
  clear hb0 hb1 HB0 HX
  rcases hp with ⟨rfl, hl, hcl⟩ | ⟨rfl, ⟨rfl, rfl⟩, hcl⟩
  · have hcn : Lib.countByte a.data.toList 46 ≤ 4000 := by
      have h1 : Lib.countByte a.data.toList 46 ≤ a.data.toList.length := List.count_le_length
      have h2 : a.data.toList.length ≤ s.data.toList.length := by rw [hl, List.length_append]; omega
      have h3 : s.data.toList.length ≤ 4000 := by rw [Array.length_toList]; exact hs
      omega
    have HR := Lib.hid (rd_of hl hcl _ rfl)
    have HC := Lib.hid (Tryd.strings_Count_one a 46 w1)
    clear hl hcl
    generalize Lib.countByte a.data.toList 46 = C at *
    go_wp2_with fail
    refine HC.out.mono ?_
    rintro e w2 ⟨rfl, hw⟩
    obtain rfl : w1 = w2 := hw.symm
    have HRS := Lib.hid (show Bx _ _ 33 #[.int .i64 ((C : Int) + 1), .string b] from Bx.set_ (Bx.set_ HBX.out 0 (.int .i64 ((C : Int) + 1))) 1 (.string b))
    have hbs := (hb2.setCell (p := ⟨w.heap.size, 0, none⟩) (Nat.le_refl _) (.int .i64 ((C : Int) + 1))).setCell (p := ⟨w.heap.size, 1, none⟩) (Nat.le_refl _) (.string b)
    go_wp2_with fail
    clear r0 r1 f0 f1
    generalize ((w1.setCell ⟨w.heap.size, 0, none⟩ (.int .i64 ((C : Int) + 1))).setCell ⟨w.heap.size, 1, none⟩ (.string b)) = wz at *
    have r0 := HRS.out.cell 0
    have r1 := HRS.out.cell 1
    simp only [List.getElem?_toArray, List.getElem?_cons_zero, List.getElem?_cons_succ] at r0 r1
    (try simp only [Exit.inBlock, Exit.then])
    refine bodyPost_ret (v := .tuple #[.agg #[.int .i64 ((C : Int) + 1), .string b], .bool true]) (by rw [results_cell_tmp rfl]; go_simp) rfl ?_
    exact ⟨⟨(C : Int) + 1, b⟩, true, rfl, fun _ => HR.out, (fun h => by cases h), hbs⟩
  · have HN := Lib.hid (rd_no hcl)
    clear hcl
    have HRS := Lib.hid (show Bx _ _ 33 #[.int .i64 0, .string ⟨#[]⟩] from Bx.set_ (Bx.set_ HBX.out 0 (.int .i64 0)) 1 (.string ⟨#[]⟩))
    have hbs := (hb2.setCell (p := ⟨w.heap.size, 0, none⟩) (Nat.le_refl _) (.int .i64 0)).setCell (p := ⟨w.heap.size, 1, none⟩) (Nat.le_refl _) (.string ⟨#[]⟩)
    go_wp2_with fail
    clear r0 r1 f0 f1
    generalize ((w1.setCell ⟨w.heap.size, 0, none⟩ (.int .i64 0)).setCell ⟨w.heap.size, 1, none⟩ (.string ⟨#[]⟩)) = wz at *
    have r0 := HRS.out.cell 0
    have r1 := HRS.out.cell 1
    simp only [List.getElem?_toArray, List.getElem?_cons_zero, List.getElem?_cons_succ] at r0 r1
    (try simp only [Exit.inBlock, Exit.then])
    refine bodyPost_ret (v := .tuple #[.agg #[.int .i64 0, .string ⟨#[]⟩], .bool false]) (by rw [results_cell_tmp rfl]; go_simp) rfl ?_
    exact ⟨⟨0, ⟨#[]⟩⟩, false, rfl, (fun h => by cases h), fun _ => HN.out, hbs⟩
end Go.Proofs.YtmpolpeomabcfaaDoor.DocRI
