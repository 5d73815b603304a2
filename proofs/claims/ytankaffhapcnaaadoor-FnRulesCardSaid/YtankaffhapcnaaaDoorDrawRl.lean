/- The draws of FnRules: a rule, its line; rules, their text. No condition. -/
import Derived.Test.YtankaffhapcnaaaDoorDrawRs
import Derived.Test.YtankaffhapcnaaaDoorDrawRf
import Derived.Test.YtankaffhapcnaaaDoorLive
import Derived.Test.YtankaffhapcnaaaDoorSpoil
import Derived.Test.YtankaffhapcnaaaDoorParseRulesC
import Derived.Deep.DeepCutAuto
namespace Go.Proofs.YtankaffhapcnaaaDoor.Draw
open Go.RowKit Cur Bs
set_option linter.unusedVariables false
def RArg (w : World) (e : Ending) (w' : World) : Prop := ∃ r : LRule.R, e = .returned (.agg #[.int .i64 r.id, .string r.name, .int .i64 r.rank, .bool r.sec, .bool r.deb, .bool r.am, .int .i64 r.need]) ∧ r.name.size ≤ 11 ∧ Below w.heap.size w w'
def RsArg (w : World) (e : Ending) (w' : World) : Prop := ∃ (v : Value) (z : List LRule.R), e = .returned v ∧ Bs.Own LRule.rec 25 w' w.heap.size v z ∧ (∃ g, v.ownBlock = some g) ∧ RShort z ∧ z.length ≤ 16 ∧ Below w.heap.size w w'
def TxtArg (w : World) (e : Ending) (w' : World) : Prop := ∃ s : ByteArray, e = .returned (.string s) ∧ s.size ≤ 1000 ∧ Below w.heap.size w w'
theorem bx7 {w : World} {R : Nat} {t : TypeId} {a b c d e f g : Value} (h : Draw.Bx w R t #[a, b, c, d, e, f, g]) (a' b' c' d' e' f' g' : Value) : Draw.Bx (((((((w.setCell ⟨R, 0, none⟩ a').setCell ⟨R, 1, none⟩ b').setCell ⟨R, 2, none⟩ c').setCell ⟨R, 3, none⟩ d').setCell ⟨R, 4, none⟩ e').setCell ⟨R, 5, none⟩ f').setCell ⟨R, 6, none⟩ g') R t #[a', b', c', d', e', f', g'] := by
  have h4 := ((((((h.set_ 0 a').set_ 1 b').set_ 2 c').set_ 3 d').set_ 4 e').set_ 5 f').set_ 6 g'
  simpa using h4
theorem below_end {w W0 w' : World} {B : Nat} {a : Option Addr} {len cap : Nat} (hB : w.heap.size = B) (hW : w.alloc (.cells #[.slice a len cap, .int .i64 0, .int .u64 0] 52) = W0) (hg : W0.grownBy w' (some B)) : Below w.heap.size w w' := by
  subst hB hW
  exact below_cur hg
theorem row_kept {k : IntKind} {w w' : World} {a : Option Addr} {len cap : Nat} {zs : List Int} (h : Frame.IsRow k w a len cap zs) (hb : Below w.heap.size w w') : Frame.IsRow k w' a len cap zs := by
  rcases h with h | ⟨x, h1, h2, h3, h4, h5, h6⟩
  · exact .inl h
  · refine .inr ⟨x, h1, h2, h3, h4, fun i hi => ?_, h6⟩
    have hc := h5 i hi
    rw [hb.cell (Cur.cell_lt hc)]
    exact hc
set_option maxRecDepth 100000 in
set_option maxHeartbeats 3200000 in
theorem drawIsValidRule (a : Option Addr) (len cap : Nat) (zs : List Int) (w : World) (h : Frame.IsRow .u8 w a len cap zs) (hl : len ≤ 65536) :
    Calls Tryd.prog 20 #[.slice a len cap] w (RArg w) := by
  have hs : (w.alloc (.cells #[.int .i64 0, .string ⟨#[]⟩, .int .i64 0, .bool false, .bool false, .bool false, .int .i64 0] 25)).heap.size = w.heap.size + 1 := by simp
  have HC := Lib.hid (cur_new (row_kept h ((Below.refl _ _).alloc (Nat.le_refl _) (.cells #[.int .i64 0, .string ⟨#[]⟩, .int .i64 0, .bool false, .bool false, .bool false, .int .i64 0] 25))) hl)
  have HR := Lib.hid ((Draw.Bx.new w 25 #[.int .i64 0, .string ⟨#[]⟩, .int .i64 0, .bool false, .bool false, .bool false, .int .i64 0]).alloc (.cells #[.slice a len cap, .int .i64 0, .int .u64 0] 52))
  have HBel : Hid (∀ w', ((w.alloc (.cells #[.int .i64 0, .string ⟨#[]⟩, .int .i64 0, .bool false, .bool false, .bool false, .int .i64 0] 25)).alloc (.cells #[.slice a len cap, .int .i64 0, .int .u64 0] 52)).grownBy w' (some (w.heap.size + 1)) → Below w.heap.size w w') := Lib.hid (fun w' hg => by
    rw [← hs] at hg
    exact ((Below.refl w.heap.size w).alloc (Nat.le_refl _) _).trans ((below_cur hg).mono (by simp)))
  rw [hs] at HC
  clear h hs
  go_enter Tryd.func20, Tryd.ntmps20
  go_wp2_with fail
  generalize (w.alloc (.cells #[.int .i64 0, .string ⟨#[]⟩, .int .i64 0, .bool false, .bool false, .bool false, .int .i64 0] 25)).alloc (.cells #[.slice a len cap, .int .i64 0, .int .u64 0] 52) = W0 at *
  generalize hB0 : w.heap.size + 1 = B at *
  refine (rule B 0 _ HC.out (by omega)).mono ?_
  rintro e w1 ⟨r, rfl, hrs, hc, hg⟩
  have hb := HBel.out _ hg
  replace HR := Lib.hid (HR.out.grown hg (by omega))
  clear hc hg HC HBel
  have l0 := HR.out.cell 0
  have l1 := HR.out.cell 1
  have l2 := HR.out.cell 2
  have l3 := HR.out.cell 3
  have l4 := HR.out.cell 4
  have l5 := HR.out.cell 5
  have l6 := HR.out.cell 6
  simp only [List.getElem?_toArray, List.getElem?_cons_zero, List.getElem?_cons_succ] at l0 l1 l2 l3 l4 l5 l6
  have lf0 := HR.out.frozen 0
  have lf1 := HR.out.frozen 1
  have lf2 := HR.out.frozen 2
  have lf3 := HR.out.frozen 3
  have lf4 := HR.out.frozen 4
  have lf5 := HR.out.frozen 5
  have lf6 := HR.out.frozen 6
  have HRf := Lib.hid (bx7 HR.out (.int .i64 r.id) (.string r.name) (.int .i64 r.rank) (.bool r.sec) (.bool r.deb) (.bool r.am) (.int .i64 r.need))
  have HBF := (((((((hb.setCell (p := ⟨w.heap.size, 0, none⟩) (Nat.le_refl _) (.int .i64 r.id)).setCell (p := ⟨w.heap.size, 1, none⟩) (Nat.le_refl _) (.string r.name)).setCell (p := ⟨w.heap.size, 2, none⟩) (Nat.le_refl _) (.int .i64 r.rank)).setCell (p := ⟨w.heap.size, 3, none⟩) (Nat.le_refl _) (.bool r.sec)).setCell (p := ⟨w.heap.size, 4, none⟩) (Nat.le_refl _) (.bool r.deb)).setCell (p := ⟨w.heap.size, 5, none⟩) (Nat.le_refl _) (.bool r.am)).setCell (p := ⟨w.heap.size, 6, none⟩) (Nat.le_refl _) (.int .i64 r.need))
  go_wp2_with fail
  have e0 := HRf.out.cell 0
  have e1 := HRf.out.cell 1
  have e2 := HRf.out.cell 2
  have e3 := HRf.out.cell 3
  have e4 := HRf.out.cell 4
  have e5 := HRf.out.cell 5
  have e6 := HRf.out.cell 6
  simp only [List.getElem?_toArray, List.getElem?_cons_zero, List.getElem?_cons_succ] at e0 e1 e2 e3 e4 e5 e6
  (try simp only [Exit.inBlock, Exit.then])
  refine bodyPost_ret (v := .agg #[.int .i64 r.id, .string r.name, .int .i64 r.rank, .bool r.sec, .bool r.deb, .bool r.am, .int .i64 r.need]) (by simp [results, Tryd.results20, go_sem, e0, e1, e2, e3, e4, e5, e6]) rfl ?_
  exact ⟨r, rfl, hrs, HBF⟩
set_option maxRecDepth 100000 in
set_option maxHeartbeats 3200000 in
theorem drawRuleLine (a : Option Addr) (len cap : Nat) (zs : List Int) (w : World) (h : Frame.IsRow .u8 w a len cap zs) (hl : len ≤ 65536) :
    Calls Tryd.prog 5 #[.slice a len cap] w (RArg w) := by
  have HD := Lib.hid (drawIsValidRule a len cap zs _ (row_kept h ((Below.refl _ _).alloc (Nat.le_refl _) (.cells #[.int .i64 0, .string ⟨#[]⟩, .int .i64 0, .bool false, .bool false, .bool false, .int .i64 0] 25))) hl)
  have HR := Lib.hid (Draw.Bx.new w 25 #[.int .i64 0, .string ⟨#[]⟩, .int .i64 0, .bool false, .bool false, .bool false, .int .i64 0])
  have hb0 := (Below.refl w.heap.size w).alloc (Nat.le_refl _) (.cells #[.int .i64 0, .string ⟨#[]⟩, .int .i64 0, .bool false, .bool false, .bool false, .int .i64 0] 25)
  clear h
  unfold RArg at HD
  go_enter Tryd.func5, Tryd.ntmps5
  go_wp2_with fail
  refine HD.out.mono ?_
  rintro e w1 ⟨r, rfl, hrs, hb1⟩
  have hb := hb0.trans (hb1.mono hb0.size)
  replace HR := Lib.hid (HR.out.keptB hb1)
  clear hb1 hb0 HD
  have l0 := HR.out.cell 0
  have l1 := HR.out.cell 1
  have l2 := HR.out.cell 2
  have l3 := HR.out.cell 3
  have l4 := HR.out.cell 4
  have l5 := HR.out.cell 5
  have l6 := HR.out.cell 6
  simp only [List.getElem?_toArray, List.getElem?_cons_zero, List.getElem?_cons_succ] at l0 l1 l2 l3 l4 l5 l6
  have lf0 := HR.out.frozen 0
  have lf1 := HR.out.frozen 1
  have lf2 := HR.out.frozen 2
  have lf3 := HR.out.frozen 3
  have lf4 := HR.out.frozen 4
  have lf5 := HR.out.frozen 5
  have lf6 := HR.out.frozen 6
  have HRf := Lib.hid (bx7 HR.out (.int .i64 r.id) (.string r.name) (.int .i64 r.rank) (.bool r.sec) (.bool r.deb) (.bool r.am) (.int .i64 r.need))
  have HBF := (((((((hb.setCell (p := ⟨w.heap.size, 0, none⟩) (Nat.le_refl _) (.int .i64 r.id)).setCell (p := ⟨w.heap.size, 1, none⟩) (Nat.le_refl _) (.string r.name)).setCell (p := ⟨w.heap.size, 2, none⟩) (Nat.le_refl _) (.int .i64 r.rank)).setCell (p := ⟨w.heap.size, 3, none⟩) (Nat.le_refl _) (.bool r.sec)).setCell (p := ⟨w.heap.size, 4, none⟩) (Nat.le_refl _) (.bool r.deb)).setCell (p := ⟨w.heap.size, 5, none⟩) (Nat.le_refl _) (.bool r.am)).setCell (p := ⟨w.heap.size, 6, none⟩) (Nat.le_refl _) (.int .i64 r.need))
  go_wp2_with fail
  have e0 := HRf.out.cell 0
  have e1 := HRf.out.cell 1
  have e2 := HRf.out.cell 2
  have e3 := HRf.out.cell 3
  have e4 := HRf.out.cell 4
  have e5 := HRf.out.cell 5
  have e6 := HRf.out.cell 6
  simp only [List.getElem?_toArray, List.getElem?_cons_zero, List.getElem?_cons_succ] at e0 e1 e2 e3 e4 e5 e6
  (try simp only [Exit.inBlock, Exit.then])
  refine bodyPost_ret (v := .agg #[.int .i64 r.id, .string r.name, .int .i64 r.rank, .bool r.sec, .bool r.deb, .bool r.am, .int .i64 r.need]) (by simp [results, Tryd.results5, go_sem, e0, e1, e2, e3, e4, e5, e6]) rfl ?_
  exact ⟨r, rfl, hrs, HBF⟩
set_option maxRecDepth 100000 in
set_option maxHeartbeats 3200000 in
theorem drawParseRule (a : Option Addr) (len cap : Nat) (zs : List Int) (w : World) (h : Frame.IsRow .u8 w a len cap zs) (hl : len ≤ 65536) :
    Calls Tryd.prog 10 #[.slice a len cap] w (TxtArg w) := by
  have HC := Lib.hid (cur_new h hl)
  have hz : w.heap.size + 1 ≤ (w.alloc (.cells #[.slice a len cap, .int .i64 0, .int .u64 0] 52)).heap.size := by simp
  clear h
  go_enter Tryd.func10, Tryd.ntmps10
  go_wp2_with fail
  generalize hWW : w.alloc (.cells #[.slice a len cap, .int .i64 0, .int .u64 0] 52) = W0 at *
  have HWW := Lib.hid hWW
  generalize hB0 : w.heap.size = B at *
  have HB0 := Lib.hid hB0
  clear hWW hB0
  have HL00 := Lib.hid (Live.start HC.out)
  refine (rule B 0 _ HC.out (by omega)).mono ?_
  rintro e w1 ⟨r, rfl, hrs, hc, hg⟩
  have HL1 := Lib.hid (HL00.out.draw hc hg)
  clear hc hg HC HL00
  have HG := Lib.hid (Draw.Bx.new w1 25 #[.int .i64 r.id, .string r.name, .int .i64 r.rank, .bool r.sec, .bool r.deb, .bool r.am, .int .i64 r.need])
  have HL := Lib.hid (HL1.out.alloc (.cells #[.int .i64 r.id, .string r.name, .int .i64 r.rank, .bool r.sec, .bool r.deb, .bool r.am, .int .i64 r.need] 25))
  have hGA : W0.heap.size ≤ w1.heap.size := HL1.out.size
  clear HL1
  go_upto_region 3 with fail
  generalize w1.alloc (.cells #[.int .i64 r.id, .string r.name, .int .i64 r.rank, .bool r.sec, .bool r.deb, .bool r.am, .int .i64 r.need] 25) = w2 at *
  generalize w1.heap.size = G at *
  have HGD := Lib.hid (fun b (hx : Rule.okB r = b) W => LineI.single_as r b hx (by unfold maxLen; omega) W)
  have g0 := HG.out.cell 0
  have g1 := HG.out.cell 1
  have g2 := HG.out.cell 2
  have g3 := HG.out.cell 3
  have g4 := HG.out.cell 4
  have g5 := HG.out.cell 5
  have g6 := HG.out.cell 6
  simp only [List.getElem?_toArray, List.getElem?_cons_zero, List.getElem?_cons_succ] at g0 g1 g2 g3 g4 g5 g6
  cases hgd : Rule.okB r with
  | true =>
    replace HGD := Lib.hid (HGD.out _ hgd)
    have HGR := Lib.hid hgd
    clear hgd
    go_wp2_with fail
    refine (HGD.out _).mono ?_
    rintro e w6 ⟨rfl, hb⟩
    replace HL := Lib.hid (HL.out.kept hb)
    replace HG := Lib.hid (HG.out.keptB hb)
    clear hb
    clear g0 g1 g2 g3 g4 g5 g6
    have g0 := HG.out.cell 0
    have g1 := HG.out.cell 1
    have g2 := HG.out.cell 2
    have g3 := HG.out.cell 3
    have g4 := HG.out.cell 4
    have g5 := HG.out.cell 5
    have g6 := HG.out.cell 6
    simp only [List.getElem?_toArray, List.getElem?_cons_zero, List.getElem?_cons_succ] at g0 g1 g2 g3 g4 g5 g6
    go_wp2_with fail
    refine (Line.l2Line r _ HGR.out).mono ?_
    rintro e w3 ⟨rfl, hb3⟩
    have hss := PRule.line_len HGR.out
    replace HL := Lib.hid (HL.out.kept hb3)
    clear hb3
    generalize Line.lineB r = s at *
    go_wp2_with fail
    refine (one B _ 4 _ HL.out.cur (by omega) (by omega) (by omega)).mono ?_
    rintro e w4 ⟨b, rfl, hc, hg⟩
    replace HL := Lib.hid (HL.out.draw hc hg)
    clear hc hg
    cases b with
    | false =>
      go_wp2_with fail
      have hbl := below_end HB0.out HWW.out HL.out.grown
      go_ret
      exact ⟨s, rfl, by omega, hbl⟩
    | true =>
      go_wp2_with fail
      refine (spoilt B _ s ⟨#[49, 32, 115, 100, 97, 98]⟩ _ HL.out.cur (by omega) (by omega) (by decide) (by decide)).mono ?_
      rintro e w5 ⟨s', rfl, hs', hc, hg⟩
      replace HL := Lib.hid (HL.out.draw hc hg)
      clear hc hg
      go_wp2_with fail
      have hbl := below_end HB0.out HWW.out HL.out.grown
      go_ret
      exact ⟨s', rfl, by omega, hbl⟩
  | false =>
    replace HGD := Lib.hid (HGD.out _ hgd)
    clear hgd
    go_wp2_with fail
    refine (HGD.out _).mono ?_
    rintro e w6 ⟨rfl, hb⟩
    replace HL := Lib.hid (HL.out.kept hb)
    replace HG := Lib.hid (HG.out.keptB hb)
    clear hb
    clear g0 g1 g2 g3 g4 g5 g6
    have g0 := HG.out.cell 0
    have g1 := HG.out.cell 1
    have g2 := HG.out.cell 2
    have g3 := HG.out.cell 3
    have g4 := HG.out.cell 4
    have g5 := HG.out.cell 5
    have g6 := HG.out.cell 6
    simp only [List.getElem?_toArray, List.getElem?_cons_zero, List.getElem?_cons_succ] at g0 g1 g2 g3 g4 g5 g6
    have gf0 := HG.out.frozen 0
    have gf1 := HG.out.frozen 1
    have gf2 := HG.out.frozen 2
    have gf3 := HG.out.frozen 3
    have gf4 := HG.out.frozen 4
    have gf5 := HG.out.frozen 5
    have gf6 := HG.out.frozen 6
    go_upto_region 5 with fail
    clear g0 g1 g2 g3 g4 g5 g6 gf0 gf1 gf2 gf3 gf4 gf5 gf6
    replace HG := Lib.hid (bx7 HG.out (.int .i64 4) (.string ⟨#[114, 101, 102, 101, 114]⟩) (.int .i64 2) (.bool false) (.bool true) (.bool false) (.int .i64 2))
    replace HL := Lib.hid (Live.set (Live.set (Live.set (Live.set (Live.set (Live.set (Live.set HL.out (p := ⟨G, 0, none⟩) hGA (.int .i64 4)) (p := ⟨G, 1, none⟩) hGA (.string ⟨#[114, 101, 102, 101, 114]⟩)) (p := ⟨G, 2, none⟩) hGA (.int .i64 2)) (p := ⟨G, 3, none⟩) hGA (.bool false)) (p := ⟨G, 4, none⟩) hGA (.bool true)) (p := ⟨G, 5, none⟩) hGA (.bool false)) (p := ⟨G, 6, none⟩) hGA (.int .i64 2))
    generalize (((((((w6.setCell ⟨G, 0, none⟩ (.int .i64 4)).setCell ⟨G, 1, none⟩ (.string ⟨#[114, 101, 102, 101, 114]⟩)).setCell ⟨G, 2, none⟩ (.int .i64 2)).setCell ⟨G, 3, none⟩ (.bool false)).setCell ⟨G, 4, none⟩ (.bool true)).setCell ⟨G, 5, none⟩ (.bool false)).setCell ⟨G, 6, none⟩ (.int .i64 2)) = w7 at *
    have g0 := HG.out.cell 0
    have g1 := HG.out.cell 1
    have g2 := HG.out.cell 2
    have g3 := HG.out.cell 3
    have g4 := HG.out.cell 4
    have g5 := HG.out.cell 5
    have g6 := HG.out.cell 6
    simp only [List.getElem?_toArray, List.getElem?_cons_zero, List.getElem?_cons_succ] at g0 g1 g2 g3 g4 g5 g6
    go_wp2_with fail
    refine (Line.l2Line ⟨4, ⟨#[114, 101, 102, 101, 114]⟩, 2, false, true, false, 2⟩ _ (show Rule.okB ⟨4, ⟨#[114, 101, 102, 101, 114]⟩, 2, false, true, false, 2⟩ = true by decide +kernel)).mono ?_
    rintro e w3 ⟨rfl, hb3⟩
    have hss := PRule.line_len (show Rule.okB ⟨4, ⟨#[114, 101, 102, 101, 114]⟩, 2, false, true, false, 2⟩ = true by decide +kernel)
    replace HL := Lib.hid (HL.out.kept hb3)
    clear hb3
    generalize Line.lineB ⟨4, ⟨#[114, 101, 102, 101, 114]⟩, 2, false, true, false, 2⟩ = s at *
    go_wp2_with fail
    refine (one B _ 4 _ HL.out.cur (by omega) (by omega) (by omega)).mono ?_
    rintro e w4 ⟨b, rfl, hc, hg⟩
    replace HL := Lib.hid (HL.out.draw hc hg)
    clear hc hg
    cases b with
    | false =>
      go_wp2_with fail
      have hbl := below_end HB0.out HWW.out HL.out.grown
      go_ret
      exact ⟨s, rfl, by omega, hbl⟩
    | true =>
      go_wp2_with fail
      refine (spoilt B _ s ⟨#[49, 32, 115, 100, 97, 98]⟩ _ HL.out.cur (by omega) (by omega) (by decide) (by decide)).mono ?_
      rintro e w5 ⟨s', rfl, hs', hc, hg⟩
      replace HL := Lib.hid (HL.out.draw hc hg)
      clear hc hg
      go_wp2_with fail
      have hbl := below_end HB0.out HWW.out HL.out.grown
      go_ret
      exact ⟨s', rfl, by omega, hbl⟩
set_option maxRecDepth 100000 in
set_option maxHeartbeats 3200000 in
theorem drawIsValidRules (a : Option Addr) (len cap : Nat) (zs : List Int) (w : World) (h : Frame.IsRow .u8 w a len cap zs) (hl : len ≤ 65536) :
    Calls Tryd.prog 33 #[.slice a len cap] w (RsArg w) := by
  have HC := Lib.hid (cur_new h hl)
  have hz : w.heap.size + 1 ≤ (w.alloc (.cells #[.slice a len cap, .int .i64 0, .int .u64 0] 52)).heap.size := by simp
  clear h
  go_enter Tryd.func33, Tryd.ntmps33
  go_wp2_with fail
  generalize hWW : w.alloc (.cells #[.slice a len cap, .int .i64 0, .int .u64 0] 52) = W0 at *
  have HWW := Lib.hid hWW
  generalize hB0 : w.heap.size = B at *
  have HB0 := Lib.hid hB0
  clear hWW hB0
  refine (rules B 0 _ HC.out (by omega)).mono ?_
  rintro e w1 ⟨v, z, rfl, hv, hvn, hsh, hzl, hc1, hg1⟩
  have HV := Lib.hid hv
  have HVn := Lib.hid hvn
  have HSh := Lib.hid hsh
  have hbl := below_end HB0.out HWW.out hg1
  clear hv hvn hsh hc1 hg1 HC
  go_wp2_with fail
  have HVl := Lib.hid (HV.out.low (show B ≤ W0.heap.size by omega))
  go_ret
  exact ⟨v, z, rfl, by rw [HB0.out]; exact HVl.out, HVn.out, HSh.out, hzl, hbl⟩
set_option maxRecDepth 100000 in
set_option maxHeartbeats 3200000 in
theorem drawRulesText (a : Option Addr) (len cap : Nat) (zs : List Int) (w : World) (h : Frame.IsRow .u8 w a len cap zs) (hl : len ≤ 65536) :
    Calls Tryd.prog 12 #[.slice a len cap] w (RsArg w) := by
  have HD := Lib.hid (drawIsValidRules a len cap zs w h hl)
  clear h
  unfold RsArg at HD
  go_enter Tryd.func12, Tryd.ntmps12
  go_wp2_with fail
  refine HD.out.mono ?_
  rintro e w1 ⟨v, z, rfl, hv, hvn, hsh, hzl, hb⟩
  have HV := Lib.hid hv
  have HVn := Lib.hid hvn
  have HSh := Lib.hid hsh
  clear hv hvn hsh HD
  go_wp2_with fail
  go_ret
  exact ⟨v, z, rfl, HV.out, HVn.out, HSh.out, hzl, hb⟩
def lit : List LRule.R := [⟨1, ⟨#[109, 97, 105, 110]⟩, 0, false, false, false, 1⟩, ⟨2, ⟨#[116, 97, 98, 108, 101]⟩, 4, true, false, false, 1⟩]
theorem lit_good : Gd.goodB lit = true := Gd.good_yes ⟨by decide, fun i hi => by
  have hi2 : i < 2 := hi
  match i, hi2 with
  | 0, _ => exact ⟨_, rfl, by decide +kernel, fun p h0 => absurd h0 (by decide), fun k q hk => absurd hk (by omega)⟩
  | 1, _ =>
    refine ⟨_, rfl, by decide +kernel, fun p _ hp => ?_, fun k q hk hq => ?_⟩
    · obtain rfl := Option.some.inj hp
      decide
    · obtain rfl : k = 0 := by omega
      obtain rfl := Option.some.inj hq
      decide⟩
theorem lit_is (w : World) : IsS LRule.rec (w.alloc (.cells #[.int .i64 1, .string ⟨#[109, 97, 105, 110]⟩, .int .i64 0, .bool false, .bool false, .bool false, .int .i64 1, .int .i64 2, .string ⟨#[116, 97, 98, 108, 101]⟩, .int .i64 4, .bool true, .bool false, .bool false, .int .i64 1] 25)) (.slice (some ⟨w.heap.size, 0, none⟩) 2 2) lit := by
  refine ⟨w.heap.size, 0, 2, rfl, by simp, by decide, by decide, fun j r hr => ?_⟩
  match j, hr with
  | 0, hr => obtain rfl := Option.some.inj hr; exact LRule.at_of (by simp [go_sem]) (by simp [go_sem]) (by simp [go_sem]) (by simp [go_sem]) (by simp [go_sem]) (by simp [go_sem]) (by simp [go_sem])
  | 1, hr => obtain rfl := Option.some.inj hr; exact LRule.at_of (by simp [go_sem, LRule.rec_n]) (by simp [go_sem, LRule.rec_n]) (by simp [go_sem, LRule.rec_n]) (by simp [go_sem, LRule.rec_n]) (by simp [go_sem, LRule.rec_n]) (by simp [go_sem, LRule.rec_n]) (by simp [go_sem, LRule.rec_n])
  | (n + 2), hr => cases hr
set_option maxRecDepth 100000 in
set_option maxHeartbeats 3200000 in
theorem drawParseRules (a : Option Addr) (len cap : Nat) (zs : List Int) (w : World) (h : Frame.IsRow .u8 w a len cap zs) (hl : len ≤ 65536) :
    Calls Tryd.prog 18 #[.slice a len cap] w (TxtArg w) := by
  have HC := Lib.hid (cur_new h hl)
  have hz : w.heap.size + 1 ≤ (w.alloc (.cells #[.slice a len cap, .int .i64 0, .int .u64 0] 52)).heap.size := by simp
  clear h
  go_enter Tryd.func18, Tryd.ntmps18
  go_wp2_with fail
  generalize hWW : w.alloc (.cells #[.slice a len cap, .int .i64 0, .int .u64 0] 52) = W0 at *
  have HWW := Lib.hid hWW
  generalize hB0 : w.heap.size = B at *
  have HB0 := Lib.hid hB0
  clear hWW hB0
  have HL00 := Lib.hid (Live.start HC.out)
  refine (rules B 0 _ HC.out (by omega)).mono ?_
  rintro e w1 ⟨v, z, rfl, hv, hvn, hsh, hzl, hc, hg⟩
  have HL := Lib.hid (HL00.out.draw hc hg)
  have HV := Lib.hid (Bs.Own.isS hv hvn)
  have HF := Lib.hid (show ∀ x ∈ z, LRule.Fine x from fun x hx => by have := hsh x hx; show x.name.size ≤ maxLen; unfold maxLen; omega)
  clear hc hg HC HL00 hv hvn hsh
  go_wp2_with fail
  refine (ParseRulesC.goodS v z _ (IsS.is LRule.rec HV.out) HF.out).mono ?_
  rintro e w2 ⟨rfl, hb⟩
  replace HL := Lib.hid (HL.out.kept hb)
  replace HV := Lib.hid (IsS.below LRule.rec HV.out hb)
  clear hb
  cases hgd : ParseRulesC.good z with
  | true =>
    have HGR := Lib.hid (show Gd.goodB z = true from hgd)
    clear hgd
    go_wp2_with fail
    refine (ParseRulesC.textS v z _ (IsS.is LRule.rec HV.out) HGR.out).mono ?_
    rintro e w3 ⟨rfl, hb3⟩
    have hss : (ParseRulesC.text z).size ≤ 700 := (PRules.found HGR.out rfl).1
    replace HL := Lib.hid (HL.out.kept hb3)
    clear hb3
    generalize ParseRulesC.text z = s at *
    go_wp2_with fail
    refine (one B _ 4 _ HL.out.cur (by omega) (by omega) (by omega)).mono ?_
    rintro e w4 ⟨b, rfl, hc, hg⟩
    replace HL := Lib.hid (HL.out.draw hc hg)
    clear hc hg
    cases b with
    | false =>
      go_wp2_with fail
      have hbl := below_end HB0.out HWW.out HL.out.grown
      go_ret
      exact ⟨s, rfl, by omega, hbl⟩
    | true =>
      go_wp2_with fail
      refine (spoilt B _ s ⟨#[49, 32, 115, 10, 97, 98]⟩ _ HL.out.cur (by omega) (by omega) (by decide) (by decide)).mono ?_
      rintro e w5 ⟨s', rfl, hs', hc, hg⟩
      replace HL := Lib.hid (HL.out.draw hc hg)
      clear hc hg
      go_wp2_with fail
      have hbl := below_end HB0.out HWW.out HL.out.grown
      go_ret
      exact ⟨s', rfl, by omega, hbl⟩
  | false =>
    clear hgd
    have HI := Lib.hid (lit_is w2)
    replace HL := Lib.hid (HL.out.alloc (.cells #[.int .i64 1, .string ⟨#[109, 97, 105, 110]⟩, .int .i64 0, .bool false, .bool false, .bool false, .int .i64 1, .int .i64 2, .string ⟨#[116, 97, 98, 108, 101]⟩, .int .i64 4, .bool true, .bool false, .bool false, .int .i64 1] 25))
    go_upto_region 5 with fail
    generalize w2.alloc (.cells #[.int .i64 1, .string ⟨#[109, 97, 105, 110]⟩, .int .i64 0, .bool false, .bool false, .bool false, .int .i64 1, .int .i64 2, .string ⟨#[116, 97, 98, 108, 101]⟩, .int .i64 4, .bool true, .bool false, .bool false, .int .i64 1] 25) = w9 at *
    generalize w2.heap.size = G at *
    go_wp2_with fail
    refine (ParseRulesC.textS (.slice (some ⟨G, 0, none⟩) 2 2) lit _ (IsS.is LRule.rec HI.out) lit_good).mono ?_
    rintro e w3 ⟨rfl, hb3⟩
    have hss : (ParseRulesC.text lit).size ≤ 700 := (PRules.found lit_good rfl).1
    replace HL := Lib.hid (HL.out.kept hb3)
    clear hb3
    generalize ParseRulesC.text lit = s at *
    go_wp2_with fail
    refine (one B _ 4 _ HL.out.cur (by omega) (by omega) (by omega)).mono ?_
    rintro e w4 ⟨b, rfl, hc, hg⟩
    replace HL := Lib.hid (HL.out.draw hc hg)
    clear hc hg
    cases b with
    | false =>
      go_wp2_with fail
      have hbl := below_end HB0.out HWW.out HL.out.grown
      go_ret
      exact ⟨s, rfl, by omega, hbl⟩
    | true =>
      go_wp2_with fail
      refine (spoilt B _ s ⟨#[49, 32, 115, 10, 97, 98]⟩ _ HL.out.cur (by omega) (by omega) (by decide) (by decide)).mono ?_
      rintro e w5 ⟨s', rfl, hs', hc, hg⟩
      replace HL := Lib.hid (HL.out.draw hc hg)
      clear hc hg
      go_wp2_with fail
      have hbl := below_end HB0.out HWW.out HL.out.grown
      go_ret
      exact ⟨s', rfl, by omega, hbl⟩
end Go.Proofs.YtankaffhapcnaaaDoor.Draw
