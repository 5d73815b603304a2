/- NeedlessPairs, the program. No condition. -/
import Derived.Test.YtokdkponmefbaaaPrecN
import Derived.Test.YtokdkponmefbaaaHeldA
import Derived.Test.YtokdkponmefbaaaLIntA2Kconcat
import Derived.Deep.DeepCutAuto
namespace Go.Proofs.Ytokdkponmefbaaa.PrecN
open Go.RowKit Bs Word PrecM PrecB PrecG PrecR PrecY PrecS IntF
set_option linter.unusedVariables false
theorem _root_.Go.Proofs.Ytokdkponmefbaaa.PrecY.Bt.alloc {w : World} {G : Nat} {f : Nat → Nat → Bool} (h : Bt w G f) (o : Obj) : Bt (w.alloc o) G f := Bx.alloc h o
theorem _root_.Go.Proofs.Ytokdkponmefbaaa.PrecY.Bt.kept {w w' : World} {G : Nat} {f : Nat → Nat → Bool} (h : Bt w G f) (hb : Below w.heap.size w w') : Bt w' G f := Bx.kept h hb
/-- the table as an opaque value: the walk must not look into its 64 cells -/
theorem yieldV (v : Value) (z : List M) (w : World) (h : Is LIntA2.rec w v z) (hz : In 8 z) :
    Calls Try.prog 63 #[v] w fun e w' => ∃ (V : Value) (f : Nat → Nat → Bool), e = .returned V ∧ Hid (V = .agg (tab f)) ∧ (∀ l k : Nat, l < 8 → k < 8 → f l k = yieldsB z l k) ∧ Below w.heap.size w w' :=
  (PrecY.yieldingBy v z w h hz).mono fun e w' ⟨f, he, hf, hb⟩ => ⟨_, f, he, Lib.hid rfl, hf, hb⟩
theorem concat2 (X : World) (B : Nat) (v1 v2 : Value) (z1 z2 : List LIntA2.R) (h1 : IsS LIntA2.rec X v1 z1) (h2 : IsS LIntA2.rec X v2 z2) (hX : Bx X B 24 #[v1, v2]) (hsum : (z1 ++ z2).length ≤ 1048576) :
    Calls Try.prog 70 #[.slice (some ⟨B, 0, none⟩) 2 2] X fun e w' => ∃ v, e = .returned v ∧ Own LIntA2.rec 37 w' X.heap.size v (z1 ++ z2) ∧ Below X.heap.size X w' := by
  have hl : [z1, z2].flatten = z1 ++ z2 := by simp
  rw [← hl] at hsum ⊢
  refine LIntA2.concat B 2 2 [v1, v2] [z1, z2] X hX.lt (Nat.le_refl _) (by unfold maxLen; omega) rfl rfl ?_ ?_ hsum
  · intro j v hv
    rw [hX.cell j]
    simpa using hv
  · intro j v xs hv hx
    match j, hv, hx with
    | 0, hv, hx =>
      obtain rfl : v1 = v := by simpa using hv
      obtain rfl : z1 = xs := by simpa using hx
      exact h1
    | 1, hv, hx =>
      obtain rfl : v2 = v := by simpa using hv
      obtain rfl : z2 = xs := by simpa using hx
      exact h2
    | j + 2, hv, hx => simp at hv
set_option maxRecDepth 100000 in
set_option maxHeartbeats 6400000 in
theorem needI (v : Value) (r : LPrecedence.R) (w : World) (h0 : LPrecedence.IsS w v r) :
    Calls Try.prog 30 #[v] w (Post r w) := by
  have hIs0 := h0.is
  obtain ⟨K, z⟩ := r
  obtain ⟨s, rfl, hS⟩ := h0
  have hS0 := hS
  obtain ⟨b, o, cp, rfl, hbl, hxc, hcm, hcell⟩ := hS
  simp only at hS0 hcell hxc hIs0 ⊢
  have HIS := Lib.hid hS0
  have HC := Lib.hid hcell
  have hIs := Lib.hid hIs0
  obtain ⟨n, hn⟩ : ∃ n, n = z.length := ⟨_, rfl⟩
  have HN := Lib.hid hn.symm
  have HLn := Lib.hid (show (z.length : Nat) = n from hn.symm)
  rw [← hn] at HIS hIs hxc ⊢
  unfold maxLen at hcm
  clear hn hS0 hcell hIs0
  obtain ⟨i0, hi, hz0, hz1, hz2⟩ := info_parts LIntA2.infoK
  have HI0 := Lib.hid hi
  have HZ0 := Lib.hid (And.intro hz0 (And.intro hz1 hz2))
  clear hi hz0 hz1 hz2
  have hb0 := (Below.refl w.heap.size w).alloc (Nat.le_refl _) (.cells #[.int .i64 K, .slice (some ⟨b, o, none⟩) n cp] 26)
  have HB0 := Lib.hid (Bx.new w 26 #[.int .i64 K, .slice (some ⟨b, o, none⟩) n cp])
  have HI_ := Lib.hid (hIs.out.below hb0)
  go_enter Try.func30, Try.ntmps30
  go_wp2_with fail
  refine (PrecS.soundI _ ⟨K, z⟩ _ HI_.out).mono ?_
  rintro e w1 ⟨r0, r1, rfl, hs, hb1⟩
  have hbx := hb0.trans (hb1.mono hb0.size)
  have HB1 := Lib.hid (HB0.out.kept hb1)
  clear hb1 hb0 HB0 HI_ hIs
  have HO := Lib.hid (Own.start (T := LIntA2.rec) (E := 37) (w := w1) hbx.size)
  have hbz := hbx.alloc hbx.size (Obj.cells #[] 37)
  cases hg : goodB K z with
  | false =>
    have HA := Lib.hid (n_bad (r := ⟨K, z⟩) (by rw [hg]; rfl))
    rw [sound_bad (r := ⟨K, z⟩) hg] at hs
    simp only [Prod.mk.injEq] at hs
    obtain ⟨rfl, rfl⟩ := hs
    clear hg
    go_wp2_with fail
    go_ret2
    exact ⟨_, [], false, rfl, HA.out, HO.out, hbz⟩
  | true =>
    rw [sound_good (r := ⟨K, z⟩) hg] at hs
    simp only [Prod.mk.injEq] at hs
    obtain ⟨rfl, rfl⟩ := hs
    cases hs : soundB K z with
    | false =>
      have HA := Lib.hid (n_bad (r := ⟨K, z⟩) (by rw [hs, Bool.and_false]))
      clear hg hs
      go_wp2_with fail
      go_ret2
      exact ⟨_, [], false, rfl, HA.out, HO.out, hbz⟩
    | true =>
      obtain ⟨k, rfl, hk1, hk8, hzl, hin, hin8⟩ := good_nat hg
      have HA := Lib.hid (n_good (r := ⟨(k : Int), z⟩) (by simp only; rw [hg, hs]; rfl))
      have HIn := Lib.hid hin8
      rw [HLn.out] at hzl
      have HB2 := Lib.hid (HB1.out.alloc (Obj.cells #[] 37))
      have hbA := (Below.refl w1.heap.size w1).alloc (Nat.le_refl _) (Obj.cells #[] 37)
      have HO0 := Lib.hid (Own.start (T := LIntA2.rec) (E := 37) (w := w1) (Nat.le_refl _))
      clear hg hs hin hin8 HO hbz
      have p0 := HB2.out.cell 0
      have p1 := HB2.out.cell 1
      simp only [List.getElem?_toArray, List.getElem?_cons_zero, List.getElem?_cons_succ] at p0 p1
      go_wp2_with fail
      clear p0 p1 HB2
      generalize hwA : w1 = wA at *
      clear hwA
      go_loopw [6, 26] (fun so si wr => ∃ (j : Nat) (o2 : Value), o2 = so ∧ j ≤ n ∧ si = .int .i64 j ∧ Hid (Own LIntA2.rec 37 wr wA.heap.size o2 (ndl z j)) ∧ Below wA.heap.size wA wr) (fun _ si _ => n - (intOf si).toNat)
      case atStart => exact ⟨0, _, rfl, Nat.zero_le _, rfl, HO0, hbA⟩
      case round =>
        clear hbA HO0
        obtain ⟨j, o2, rfl, hj, rfl, HO, hb⟩ := hrel
        by_cases hjn : j < n
        · have hx : j < z.length := by have := HN.out; omega
          have HXr := Lib.hid (List.getElem?_eq_getElem hx)
          have HXM := Lib.hid (List.getElem_mem hx)
          have hbw := hbx.trans (hb.mono hbx.size)
          obtain ⟨q0, q1⟩ := LIntA2.cells ((HC.out j _ HXr.out).below LIntA2.rec hbw hbl)
          simp only [LIntA2.rec_n] at q0 q1
          have hin := HIn.out z[j] (List.getElem_mem hx)
          have HInL := Lib.hid (HIn.out.sub (y := less z j) less_sub)
          have HLE := Lib.hid (show (less z j).length = (z.take j ++ z.drop (j + 1)).length from rfl)
          have hLL := less_len HN.out hjn
          generalize z[j] = X at *
          obtain ⟨xa, xb⟩ := X
          obtain ⟨⟨i0', i1'⟩, j0', j1'⟩ := hin
          simp only at q0 q1 i0' i1' j0' j1'
          obtain ⟨xa, rfl⟩ : ∃ l : Nat, xa = l := ⟨xa.toNat, by omega⟩
          obtain ⟨xb, rfl⟩ : ∃ l : Nat, xb = l := ⟨xb.toNat, by omega⟩
          have HBX := Lib.hid (Bx.new wr 37 #[.int .i64 xa, .int .i64 xb])
          have HBp := Lib.hid ((HB1.out.kept hb).alloc (Obj.cells #[.int .i64 xa, .int .i64 xb] 37))
          have HIW := Lib.hid ((HIS.out.below LIntA2.rec hbw).below LIntA2.rec ((Below.refl _ _).alloc (Nat.le_refl _) (Obj.cells #[.int .i64 xa, .int .i64 xb] 37)))
          replace HO := Lib.hid (Own.alloc HO.out (Obj.cells #[.int .i64 xa, .int .i64 xb] 37))
          replace hb := hb.alloc hb.size (Obj.cells #[.int .i64 xa, .int .i64 xb] 37)
          have k0 : 0 ≤ (j : Int) := by omega
          have k1 : (j : Int) < (n : Int) := by omega
          have s1 : (j : Int) ≤ (n : Int) := by omega
          have s2 : (n : Int) ≤ (cp : Int) := by omega
          have s3 : (j : Int) ≤ (cp : Int) := by omega
          have s4 : IntKind.i64.wrap ((j : Int) + 1) = (j : Int) + 1 := IntWalk.i64_in _ (by omega)
          have s5 : (j : Int) + 1 ≤ (n : Int) := by omega
          have s6 : (j : Int) + 1 ≤ (cp : Int) := by omega
          have s7 : ((j : Int) + 1).toNat = j + 1 := by omega
          have s8 : (0 : Int) ≤ (j : Int) + 1 := by omega
          obtain ⟨oD, hoD⟩ : ∃ oD, (if cp = j + 1 then some (⟨b, o, none⟩ : Addr) else some ⟨b, o + (j + 1) * 2, none⟩) = some ⟨b, oD, none⟩ := by
            by_cases h : cp = j + 1
            · exact ⟨_, if_pos h⟩
            · exact ⟨_, if_neg h⟩
          go_upto_region 8 with fail
          clear q0 q1 hbw
          generalize wr.alloc (Obj.cells #[.int .i64 xa, .int .i64 xb] 37) = W at *
          generalize wr.heap.size = gX at *
          have p0 := HBp.out.cell 0
          have p1 := HBp.out.cell 1
          simp only [List.getElem?_toArray, List.getElem?_cons_zero, List.getElem?_cons_succ] at p0 p1
          have hpl : w.heap.size < W.heap.size := HBp.out.lt
          have HP1 := Lib.hid (show ∀ w' : World, Below W.heap.size W w' → IsS LIntA2.rec w' (.slice (some ⟨b, o, none⟩) j cp) (z.take j) from fun w' hb => (HIW.out.below LIntA2.rec hb).take LIntA2.rec (k := j) (by omega))
          have HP2 := Lib.hid (show ∀ w' : World, Below W.heap.size W w' → IsS LIntA2.rec w' (.slice (some ⟨b, oD, none⟩) (n - (j + 1)) (cp - (j + 1))) (z.drop (j + 1)) from fun w' hb => (HIW.out.below LIntA2.rec hb).drop LIntA2.rec (k := j + 1) (some ⟨b, oD, none⟩) hoD.symm (by omega) _ _ rfl rfl)
          have HK := Lib.hid (show ∀ w' : World, Below W.heap.size W w' → Below W.heap.size W w' ∧ w'.cell? ⟨w.heap.size, 0, none⟩ = some (.int .i64 (k : Int)) ∧ w'.cell? ⟨w.heap.size, 1, none⟩ = some (.slice (some ⟨b, o, none⟩) n cp) from fun w' hb => ⟨hb, by rw [hb.cell (by assumption)]; exact p0, by rw [hb.cell (by assumption)]; exact p1⟩)
          go_cut [9] (fun t wx => ∃ (g : Nat) (f : Nat → Nat → Bool), t = .pointer (some ⟨g, 0, none⟩) ∧ Hid (∀ l q : Nat, l < 8 → q < 8 → f l q = yieldsB (less z j) l q) ∧ Hid (Bt wx g f) ∧ Below W.heap.size W wx)
          case first =>
            have hB : Below W.heap.size W W.drew := (Below.refl _ _).drew
            refine wp_region_held_drew (S := fun w' => Below W.heap.size W w' ∧ w'.cell? ⟨w.heap.size, 0, none⟩ = some (.int .i64 (k : Int)) ∧ w'.cell? ⟨w.heap.size, 1, none⟩ = some (.slice (some ⟨b, o, none⟩) n cp)) (by kernel_rfl) (HK.out _ hB) (fun hHeld => ?_)
            generalize W.drew = x0 at *
            refine wpAnyH_take (i := 0) (v := ?v1) rfl (by kernel_rfl) (by kernel_rfl) (by kernel_rfl) (fun _ _ _ h => h) (Or.inl ⟨by rfl, ?hy1⟩) (by assumption) ?rest1
            case hy1 => (intro wq hSw; (try dsimp only at hSw); go_split_ands; go_simp; (try with_reducible rfl))
            case rest1 =>
            refine wpAnyH_take (i := 1) (v := ?v2) rfl (by kernel_rfl) (by kernel_rfl) (by kernel_rfl) (fun _ _ _ h => h) (Or.inl ⟨by rfl, ?hy2⟩) (by assumption) ?rest2
            case hy2 => (intro wq hSw; (try dsimp only at hSw); go_split_ands; go_simp; (try with_reducible rfl))
            case rest2 =>
            refine wpAnyH_take (i := 2) (v := ?v3) rfl (by kernel_rfl) (by kernel_rfl) (by kernel_rfl) (fun _ _ _ h => h) (Or.inl ⟨by rfl, ?hy3⟩) (by assumption) ?rest3
            case hy3 => (intro wq hSw; (try dsimp only at hSw); go_split_ands; go_simp; (try with_reducible rfl))
            case rest3 =>
            refine wpAnyH_take (i := 3) (v := ?v4) rfl (by kernel_rfl) (by kernel_rfl) (by kernel_rfl) (fun _ _ _ h => h) (Or.inl ⟨by rfl, ?hy4⟩) (by assumption) ?rest4
            case hy4 => (intro wq hSw; (try dsimp only at hSw); go_split_ands; go_simp; (try with_reducible rfl))
            case rest4 =>
            refine wpAnyH_take (i := 4) (v := ?v5) rfl (by kernel_rfl) (by kernel_rfl) (by kernel_rfl) (fun _ _ _ h => h) (Or.inl ⟨by rfl, ?hy5⟩) (by assumption) ?rest5
            case hy5 => (intro wq hSw; (try dsimp only at hSw); go_split_ands; go_simp; (try with_reducible rfl))
            case rest5 =>
            refine wpAnyH_take (i := 5) (v := ?v6) rfl (by kernel_rfl) (by kernel_rfl) (by kernel_rfl) (fun _ _ _ h => h) (Or.inl ⟨by rfl, ?hy6⟩) (by assumption) ?rest6
            case hy6 => (intro wq hSw; (try dsimp only at hSw); go_split_ands; go_simp; (try with_reducible rfl))
            case rest6 =>
            refine wpAnyH_take (i := 6) (v := ?v7) rfl (by kernel_rfl) (by kernel_rfl) (by kernel_rfl) (fun _ _ _ h => h) (Or.inl ⟨by rfl, ?hy7⟩) (by assumption) ?rest7
            case hy7 => (intro wq hSw; (try dsimp only at hSw); go_split_ands; go_simp; (try with_reducible rfl))
            case rest7 =>
            refine wpAnyH_take (i := 7) (v := ?v8) rfl (by kernel_rfl) (by kernel_rfl) (by kernel_rfl) (fun _ _ _ h => h) (Or.inl ⟨by rfl, ?hy8⟩) (by assumption) ?rest8
            case hy8 => (intro wq hSw; (try dsimp only at hSw); go_split_ands; go_simp; (try with_reducible rfl))
            case rest8 =>
            refine wpAnyH_take (i := 8) (v := ?v9) rfl (by kernel_rfl) (by kernel_rfl) (by kernel_rfl) (fun _ _ _ h => h) (Or.inl ⟨by rfl, ?hy9⟩) (by assumption) ?rest9
            case hy9 => (intro wq hSw; (try dsimp only at hSw); go_split_ands; go_simp; (try with_reducible rfl))
            case rest9 =>
            refine wpAnyH_ready (rs := [9, 12]) (by kernel_rfl) (by simp) ?_
            refine AllReadyH.cons rfl (fun K hK => ?step10) ?more10
            case step10 =>
              go_simp
              refine hK.out _ _ (HK.out _ (hB.alloc hB.size _)) (fun hHeld => ?_)
              clear hK K
              have hL := Bx.new x0 24 #[.slice (some ⟨b, o, none⟩) j cp, .slice (some ⟨b, oD, none⟩) (n - (j + 1)) (cp - (j + 1))]
              replace hB := hB.alloc hB.size (Obj.cells #[.slice (some ⟨b, o, none⟩) j cp, .slice (some ⟨b, oD, none⟩) (n - (j + 1)) (cp - (j + 1))] 24)
              generalize x0.alloc (Obj.cells #[.slice (some ⟨b, o, none⟩) j cp, .slice (some ⟨b, oD, none⟩) (n - (j + 1)) (cp - (j + 1))] 24) = x1 at *
              generalize x0.heap.size = gBx1 at *
              refine wpAnyH_ready (rs := [10, 12]) (by kernel_rfl) (by simp) ?_
              refine AllReadyH.cons rfl (fun K hK => ?step11) ?more11
              case step11 =>
                go_simp
                go_at_call 70
                refine (concat2 x1 gBx1 _ _ _ _ (HP1.out _ hB) (HP2.out _ hB) hL (by rw [← HLE.out]; omega)).mono ?_
                rintro e x2 ⟨vl, rfl, hOl, hbc⟩
                have hIl := hOl.is
                clear hOl
                replace hB := hB.trans (hbc.mono hB.size)
                clear hbc
                go_wp2_with fail
                refine hK.out _ _ (HK.out _ hB) (fun hHeld => ?_)
                clear hK K
                refine wpAnyH_ready (rs := [11, 12]) (by kernel_rfl) (by simp) ?_
                refine AllReadyH.cons rfl (fun K hK => ?step12) ?more12
                case step12 =>
                  go_simp
                  go_at_call 63
                  refine (yieldV vl (less z j) x2 hIl HInL.out).mono ?_
                  rintro e x3 ⟨V, f, rfl, hV, hf, hbc⟩
                  have hF := Lib.hid hf
                  clear hf hIl
                  replace hB := hB.trans (hbc.mono hB.size)
                  clear hbc
                  go_wp2_with fail
                  refine hK.out _ _ (HK.out _ hB) (fun hHeld => ?_)
                  clear hK K
                  refine wpAnyH_ready (rs := [12]) (by kernel_rfl) (by simp) ?_
                  refine AllReadyH.cons rfl (fun K hK => ?step13) ?more13
                  case step13 =>
                    go_simp
                    refine hK.out _ _ (HK.out _ (hB.alloc hB.size _)) (fun hHeld => ?_)
                    clear hK K
                    have hC : Bt (x3.alloc (Obj.cells #[.bool false, .bool false, .bool false, .bool false, .bool false, .bool false, .bool false, .bool false, .bool false, .bool false, .bool false, .bool false, .bool false, .bool false, .bool false, .bool false, .bool false, .bool false, .bool false, .bool false, .bool false, .bool false, .bool false, .bool false, .bool false, .bool false, .bool false, .bool false, .bool false, .bool false, .bool false, .bool false, .bool false, .bool false, .bool false, .bool false, .bool false, .bool false, .bool false, .bool false, .bool false, .bool false, .bool false, .bool false, .bool false, .bool false, .bool false, .bool false, .bool false, .bool false, .bool false, .bool false, .bool false, .bool false, .bool false, .bool false, .bool false, .bool false, .bool false, .bool false, .bool false, .bool false, .bool false, .bool false] 73)) x3.heap.size (fun _ _ => false) := (show Bt _ _ _ from Bx.new x3 73 _)
                    have hCW : W.heap.size ≤ x3.heap.size := hB.size
                    replace hB := hB.alloc hB.size (Obj.cells #[.bool false, .bool false, .bool false, .bool false, .bool false, .bool false, .bool false, .bool false, .bool false, .bool false, .bool false, .bool false, .bool false, .bool false, .bool false, .bool false, .bool false, .bool false, .bool false, .bool false, .bool false, .bool false, .bool false, .bool false, .bool false, .bool false, .bool false, .bool false, .bool false, .bool false, .bool false, .bool false, .bool false, .bool false, .bool false, .bool false, .bool false, .bool false, .bool false, .bool false, .bool false, .bool false, .bool false, .bool false, .bool false, .bool false, .bool false, .bool false, .bool false, .bool false, .bool false, .bool false, .bool false, .bool false, .bool false, .bool false, .bool false, .bool false, .bool false, .bool false, .bool false, .bool false, .bool false, .bool false] 73)
                    generalize x3.alloc (Obj.cells #[.bool false, .bool false, .bool false, .bool false, .bool false, .bool false, .bool false, .bool false, .bool false, .bool false, .bool false, .bool false, .bool false, .bool false, .bool false, .bool false, .bool false, .bool false, .bool false, .bool false, .bool false, .bool false, .bool false, .bool false, .bool false, .bool false, .bool false, .bool false, .bool false, .bool false, .bool false, .bool false, .bool false, .bool false, .bool false, .bool false, .bool false, .bool false, .bool false, .bool false, .bool false, .bool false, .bool false, .bool false, .bool false, .bool false, .bool false, .bool false, .bool false, .bool false, .bool false, .bool false, .bool false, .bool false, .bool false, .bool false, .bool false, .bool false, .bool false, .bool false, .bool false, .bool false, .bool false, .bool false] 73) = x4 at *
                    generalize x3.heap.size = gCx4 at *
                    refine wpAnyH_ready (rs := [13]) (by kernel_rfl) (by simp) ?_
                    refine AllReadyH.cons rfl (fun K hK => ?step14) ?more14
                    case step14 =>
                      refine step_store_row (by rfl) 73 (.tmp 9) (.tmp 42) (by rfl) gCx4 (tab f) (by rfl) hV.out 73 (tab (fun _ _ => false)) hC (by rw [tab_size]; exact PrecY.infoT) (by rw [tab_size, tab_size]) (tab_one f) ?_
                      have hB3 := row_below hB hCW (tab f)
                      have hC3 := Lib.hid (show Bt _ _ f from Bx.row hC (tab f))
                      refine hK.out _ _ (HK.out _ hB3) (fun hHeld => ?_)
                      clear hK K
                      refine wpAnyH_done (by kernel_rfl) ?_ _
                      go_wp2_with fail
                      go_meet
                      exact ⟨gCx4, f, rfl, hF, hC3, hB3⟩
                    case more14 => exact AllReadyH.nil
                  case more13 => exact AllReadyH.nil
                case more12 =>
                  refine AllReadyH.cons rfl (fun K hK => ?step15) ?more15
                  case step15 =>
                    go_simp
                    refine hK.out _ _ (HK.out _ (hB.alloc hB.size _)) (fun hHeld => ?_)
                    clear hK K
                    have hC : Bt (x2.alloc (Obj.cells #[.bool false, .bool false, .bool false, .bool false, .bool false, .bool false, .bool false, .bool false, .bool false, .bool false, .bool false, .bool false, .bool false, .bool false, .bool false, .bool false, .bool false, .bool false, .bool false, .bool false, .bool false, .bool false, .bool false, .bool false, .bool false, .bool false, .bool false, .bool false, .bool false, .bool false, .bool false, .bool false, .bool false, .bool false, .bool false, .bool false, .bool false, .bool false, .bool false, .bool false, .bool false, .bool false, .bool false, .bool false, .bool false, .bool false, .bool false, .bool false, .bool false, .bool false, .bool false, .bool false, .bool false, .bool false, .bool false, .bool false, .bool false, .bool false, .bool false, .bool false, .bool false, .bool false, .bool false, .bool false] 73)) x2.heap.size (fun _ _ => false) := (show Bt _ _ _ from Bx.new x2 73 _)
                    have hCW : W.heap.size ≤ x2.heap.size := hB.size
                    replace hIl := Is.below LIntA2.rec hIl ((Below.refl _ _).alloc (Nat.le_refl _) (Obj.cells #[.bool false, .bool false, .bool false, .bool false, .bool false, .bool false, .bool false, .bool false, .bool false, .bool false, .bool false, .bool false, .bool false, .bool false, .bool false, .bool false, .bool false, .bool false, .bool false, .bool false, .bool false, .bool false, .bool false, .bool false, .bool false, .bool false, .bool false, .bool false, .bool false, .bool false, .bool false, .bool false, .bool false, .bool false, .bool false, .bool false, .bool false, .bool false, .bool false, .bool false, .bool false, .bool false, .bool false, .bool false, .bool false, .bool false, .bool false, .bool false, .bool false, .bool false, .bool false, .bool false, .bool false, .bool false, .bool false, .bool false, .bool false, .bool false, .bool false, .bool false, .bool false, .bool false, .bool false, .bool false] 73))
                    replace hB := hB.alloc hB.size (Obj.cells #[.bool false, .bool false, .bool false, .bool false, .bool false, .bool false, .bool false, .bool false, .bool false, .bool false, .bool false, .bool false, .bool false, .bool false, .bool false, .bool false, .bool false, .bool false, .bool false, .bool false, .bool false, .bool false, .bool false, .bool false, .bool false, .bool false, .bool false, .bool false, .bool false, .bool false, .bool false, .bool false, .bool false, .bool false, .bool false, .bool false, .bool false, .bool false, .bool false, .bool false, .bool false, .bool false, .bool false, .bool false, .bool false, .bool false, .bool false, .bool false, .bool false, .bool false, .bool false, .bool false, .bool false, .bool false, .bool false, .bool false, .bool false, .bool false, .bool false, .bool false, .bool false, .bool false, .bool false, .bool false] 73)
                    generalize x2.alloc (Obj.cells #[.bool false, .bool false, .bool false, .bool false, .bool false, .bool false, .bool false, .bool false, .bool false, .bool false, .bool false, .bool false, .bool false, .bool false, .bool false, .bool false, .bool false, .bool false, .bool false, .bool false, .bool false, .bool false, .bool false, .bool false, .bool false, .bool false, .bool false, .bool false, .bool false, .bool false, .bool false, .bool false, .bool false, .bool false, .bool false, .bool false, .bool false, .bool false, .bool false, .bool false, .bool false, .bool false, .bool false, .bool false, .bool false, .bool false, .bool false, .bool false, .bool false, .bool false, .bool false, .bool false, .bool false, .bool false, .bool false, .bool false, .bool false, .bool false, .bool false, .bool false, .bool false, .bool false, .bool false, .bool false] 73) = x5 at *
                    generalize x2.heap.size = gCx5 at *
                    refine wpAnyH_ready (rs := [11]) (by kernel_rfl) (by simp) ?_
                    refine AllReadyH.cons rfl (fun K hK => ?step16) ?more16
                    case step16 =>
                      go_simp
                      go_at_call 63
                      refine (yieldV vl (less z j) x5 hIl HInL.out).mono ?_
                      rintro e x6 ⟨V, f, rfl, hV, hf, hbc⟩
                      replace hC := Bt.kept hC hbc
                      have hF := Lib.hid hf
                      clear hf hIl
                      replace hB := hB.trans (hbc.mono hB.size)
                      clear hbc
                      go_wp2_with fail
                      refine hK.out _ _ (HK.out _ hB) (fun hHeld => ?_)
                      clear hK K
                      refine wpAnyH_ready (rs := [13]) (by kernel_rfl) (by simp) ?_
                      refine AllReadyH.cons rfl (fun K hK => ?step17) ?more17
                      case step17 =>
                        refine step_store_row (by rfl) 73 (.tmp 9) (.tmp 42) (by rfl) gCx5 (tab f) (by rfl) hV.out 73 (tab (fun _ _ => false)) hC (by rw [tab_size]; exact PrecY.infoT) (by rw [tab_size, tab_size]) (tab_one f) ?_
                        have hB3 := row_below hB hCW (tab f)
                        have hC3 := Lib.hid (show Bt _ _ f from Bx.row hC (tab f))
                        refine hK.out _ _ (HK.out _ hB3) (fun hHeld => ?_)
                        clear hK K
                        refine wpAnyH_done (by kernel_rfl) ?_ _
                        go_wp2_with fail
                        go_meet
                        exact ⟨gCx5, f, rfl, hF, hC3, hB3⟩
                      case more17 => exact AllReadyH.nil
                    case more16 => exact AllReadyH.nil
                  case more15 => exact AllReadyH.nil
              case more11 =>
                refine AllReadyH.cons rfl (fun K hK => ?step18) ?more18
                case step18 =>
                  go_simp
                  refine hK.out _ _ (HK.out _ (hB.alloc hB.size _)) (fun hHeld => ?_)
                  clear hK K
                  have hC : Bt (x1.alloc (Obj.cells #[.bool false, .bool false, .bool false, .bool false, .bool false, .bool false, .bool false, .bool false, .bool false, .bool false, .bool false, .bool false, .bool false, .bool false, .bool false, .bool false, .bool false, .bool false, .bool false, .bool false, .bool false, .bool false, .bool false, .bool false, .bool false, .bool false, .bool false, .bool false, .bool false, .bool false, .bool false, .bool false, .bool false, .bool false, .bool false, .bool false, .bool false, .bool false, .bool false, .bool false, .bool false, .bool false, .bool false, .bool false, .bool false, .bool false, .bool false, .bool false, .bool false, .bool false, .bool false, .bool false, .bool false, .bool false, .bool false, .bool false, .bool false, .bool false, .bool false, .bool false, .bool false, .bool false, .bool false, .bool false] 73)) x1.heap.size (fun _ _ => false) := (show Bt _ _ _ from Bx.new x1 73 _)
                  have hCW : W.heap.size ≤ x1.heap.size := hB.size
                  replace hL := Bx.alloc hL (Obj.cells #[.bool false, .bool false, .bool false, .bool false, .bool false, .bool false, .bool false, .bool false, .bool false, .bool false, .bool false, .bool false, .bool false, .bool false, .bool false, .bool false, .bool false, .bool false, .bool false, .bool false, .bool false, .bool false, .bool false, .bool false, .bool false, .bool false, .bool false, .bool false, .bool false, .bool false, .bool false, .bool false, .bool false, .bool false, .bool false, .bool false, .bool false, .bool false, .bool false, .bool false, .bool false, .bool false, .bool false, .bool false, .bool false, .bool false, .bool false, .bool false, .bool false, .bool false, .bool false, .bool false, .bool false, .bool false, .bool false, .bool false, .bool false, .bool false, .bool false, .bool false, .bool false, .bool false, .bool false, .bool false] 73)
                  replace hB := hB.alloc hB.size (Obj.cells #[.bool false, .bool false, .bool false, .bool false, .bool false, .bool false, .bool false, .bool false, .bool false, .bool false, .bool false, .bool false, .bool false, .bool false, .bool false, .bool false, .bool false, .bool false, .bool false, .bool false, .bool false, .bool false, .bool false, .bool false, .bool false, .bool false, .bool false, .bool false, .bool false, .bool false, .bool false, .bool false, .bool false, .bool false, .bool false, .bool false, .bool false, .bool false, .bool false, .bool false, .bool false, .bool false, .bool false, .bool false, .bool false, .bool false, .bool false, .bool false, .bool false, .bool false, .bool false, .bool false, .bool false, .bool false, .bool false, .bool false, .bool false, .bool false, .bool false, .bool false, .bool false, .bool false, .bool false, .bool false] 73)
                  generalize x1.alloc (Obj.cells #[.bool false, .bool false, .bool false, .bool false, .bool false, .bool false, .bool false, .bool false, .bool false, .bool false, .bool false, .bool false, .bool false, .bool false, .bool false, .bool false, .bool false, .bool false, .bool false, .bool false, .bool false, .bool false, .bool false, .bool false, .bool false, .bool false, .bool false, .bool false, .bool false, .bool false, .bool false, .bool false, .bool false, .bool false, .bool false, .bool false, .bool false, .bool false, .bool false, .bool false, .bool false, .bool false, .bool false, .bool false, .bool false, .bool false, .bool false, .bool false, .bool false, .bool false, .bool false, .bool false, .bool false, .bool false, .bool false, .bool false, .bool false, .bool false, .bool false, .bool false, .bool false, .bool false, .bool false, .bool false] 73) = x7 at *
                  generalize x1.heap.size = gCx7 at *
                  refine wpAnyH_ready (rs := [10]) (by kernel_rfl) (by simp) ?_
                  refine AllReadyH.cons rfl (fun K hK => ?step19) ?more19
                  case step19 =>
                    go_simp
                    go_at_call 70
                    refine (concat2 x7 gBx1 _ _ _ _ (HP1.out _ hB) (HP2.out _ hB) hL (by rw [← HLE.out]; omega)).mono ?_
                    rintro e x8 ⟨vl, rfl, hOl, hbc⟩
                    replace hC := Bt.kept hC hbc
                    have hIl := hOl.is
                    clear hOl
                    replace hB := hB.trans (hbc.mono hB.size)
                    clear hbc
                    go_wp2_with fail
                    refine hK.out _ _ (HK.out _ hB) (fun hHeld => ?_)
                    clear hK K
                    refine wpAnyH_ready (rs := [11]) (by kernel_rfl) (by simp) ?_
                    refine AllReadyH.cons rfl (fun K hK => ?step20) ?more20
                    case step20 =>
                      go_simp
                      go_at_call 63
                      refine (yieldV vl (less z j) x8 hIl HInL.out).mono ?_
                      rintro e x9 ⟨V, f, rfl, hV, hf, hbc⟩
                      replace hC := Bt.kept hC hbc
                      have hF := Lib.hid hf
                      clear hf hIl
                      replace hB := hB.trans (hbc.mono hB.size)
                      clear hbc
                      go_wp2_with fail
                      refine hK.out _ _ (HK.out _ hB) (fun hHeld => ?_)
                      clear hK K
                      refine wpAnyH_ready (rs := [13]) (by kernel_rfl) (by simp) ?_
                      refine AllReadyH.cons rfl (fun K hK => ?step21) ?more21
                      case step21 =>
                        refine step_store_row (by rfl) 73 (.tmp 9) (.tmp 42) (by rfl) gCx7 (tab f) (by rfl) hV.out 73 (tab (fun _ _ => false)) hC (by rw [tab_size]; exact PrecY.infoT) (by rw [tab_size, tab_size]) (tab_one f) ?_
                        have hB3 := row_below hB hCW (tab f)
                        have hC3 := Lib.hid (show Bt _ _ f from Bx.row hC (tab f))
                        refine hK.out _ _ (HK.out _ hB3) (fun hHeld => ?_)
                        clear hK K
                        refine wpAnyH_done (by kernel_rfl) ?_ _
                        go_wp2_with fail
                        go_meet
                        exact ⟨gCx7, f, rfl, hF, hC3, hB3⟩
                      case more21 => exact AllReadyH.nil
                    case more20 => exact AllReadyH.nil
                  case more19 => exact AllReadyH.nil
                case more18 => exact AllReadyH.nil
            case more10 =>
              refine AllReadyH.cons rfl (fun K hK => ?step22) ?more22
              case step22 =>
                go_simp
                refine hK.out _ _ (HK.out _ (hB.alloc hB.size _)) (fun hHeld => ?_)
                clear hK K
                have hC : Bt (x0.alloc (Obj.cells #[.bool false, .bool false, .bool false, .bool false, .bool false, .bool false, .bool false, .bool false, .bool false, .bool false, .bool false, .bool false, .bool false, .bool false, .bool false, .bool false, .bool false, .bool false, .bool false, .bool false, .bool false, .bool false, .bool false, .bool false, .bool false, .bool false, .bool false, .bool false, .bool false, .bool false, .bool false, .bool false, .bool false, .bool false, .bool false, .bool false, .bool false, .bool false, .bool false, .bool false, .bool false, .bool false, .bool false, .bool false, .bool false, .bool false, .bool false, .bool false, .bool false, .bool false, .bool false, .bool false, .bool false, .bool false, .bool false, .bool false, .bool false, .bool false, .bool false, .bool false, .bool false, .bool false, .bool false, .bool false] 73)) x0.heap.size (fun _ _ => false) := (show Bt _ _ _ from Bx.new x0 73 _)
                have hCW : W.heap.size ≤ x0.heap.size := hB.size
                replace hB := hB.alloc hB.size (Obj.cells #[.bool false, .bool false, .bool false, .bool false, .bool false, .bool false, .bool false, .bool false, .bool false, .bool false, .bool false, .bool false, .bool false, .bool false, .bool false, .bool false, .bool false, .bool false, .bool false, .bool false, .bool false, .bool false, .bool false, .bool false, .bool false, .bool false, .bool false, .bool false, .bool false, .bool false, .bool false, .bool false, .bool false, .bool false, .bool false, .bool false, .bool false, .bool false, .bool false, .bool false, .bool false, .bool false, .bool false, .bool false, .bool false, .bool false, .bool false, .bool false, .bool false, .bool false, .bool false, .bool false, .bool false, .bool false, .bool false, .bool false, .bool false, .bool false, .bool false, .bool false, .bool false, .bool false, .bool false, .bool false] 73)
                generalize x0.alloc (Obj.cells #[.bool false, .bool false, .bool false, .bool false, .bool false, .bool false, .bool false, .bool false, .bool false, .bool false, .bool false, .bool false, .bool false, .bool false, .bool false, .bool false, .bool false, .bool false, .bool false, .bool false, .bool false, .bool false, .bool false, .bool false, .bool false, .bool false, .bool false, .bool false, .bool false, .bool false, .bool false, .bool false, .bool false, .bool false, .bool false, .bool false, .bool false, .bool false, .bool false, .bool false, .bool false, .bool false, .bool false, .bool false, .bool false, .bool false, .bool false, .bool false, .bool false, .bool false, .bool false, .bool false, .bool false, .bool false, .bool false, .bool false, .bool false, .bool false, .bool false, .bool false, .bool false, .bool false, .bool false, .bool false] 73) = x10 at *
                generalize x0.heap.size = gCx10 at *
                refine wpAnyH_ready (rs := [9]) (by kernel_rfl) (by simp) ?_
                refine AllReadyH.cons rfl (fun K hK => ?step23) ?more23
                case step23 =>
                  go_simp
                  refine hK.out _ _ (HK.out _ (hB.alloc hB.size _)) (fun hHeld => ?_)
                  clear hK K
                  have hL := Bx.new x10 24 #[.slice (some ⟨b, o, none⟩) j cp, .slice (some ⟨b, oD, none⟩) (n - (j + 1)) (cp - (j + 1))]
                  replace hC := Bt.alloc hC (Obj.cells #[.slice (some ⟨b, o, none⟩) j cp, .slice (some ⟨b, oD, none⟩) (n - (j + 1)) (cp - (j + 1))] 24)
                  replace hB := hB.alloc hB.size (Obj.cells #[.slice (some ⟨b, o, none⟩) j cp, .slice (some ⟨b, oD, none⟩) (n - (j + 1)) (cp - (j + 1))] 24)
                  generalize x10.alloc (Obj.cells #[.slice (some ⟨b, o, none⟩) j cp, .slice (some ⟨b, oD, none⟩) (n - (j + 1)) (cp - (j + 1))] 24) = x11 at *
                  generalize x10.heap.size = gBx11 at *
                  refine wpAnyH_ready (rs := [10]) (by kernel_rfl) (by simp) ?_
                  refine AllReadyH.cons rfl (fun K hK => ?step24) ?more24
                  case step24 =>
                    go_simp
                    go_at_call 70
                    refine (concat2 x11 gBx11 _ _ _ _ (HP1.out _ hB) (HP2.out _ hB) hL (by rw [← HLE.out]; omega)).mono ?_
                    rintro e x12 ⟨vl, rfl, hOl, hbc⟩
                    replace hC := Bt.kept hC hbc
                    have hIl := hOl.is
                    clear hOl
                    replace hB := hB.trans (hbc.mono hB.size)
                    clear hbc
                    go_wp2_with fail
                    refine hK.out _ _ (HK.out _ hB) (fun hHeld => ?_)
                    clear hK K
                    refine wpAnyH_ready (rs := [11]) (by kernel_rfl) (by simp) ?_
                    refine AllReadyH.cons rfl (fun K hK => ?step25) ?more25
                    case step25 =>
                      go_simp
                      go_at_call 63
                      refine (yieldV vl (less z j) x12 hIl HInL.out).mono ?_
                      rintro e x13 ⟨V, f, rfl, hV, hf, hbc⟩
                      replace hC := Bt.kept hC hbc
                      have hF := Lib.hid hf
                      clear hf hIl
                      replace hB := hB.trans (hbc.mono hB.size)
                      clear hbc
                      go_wp2_with fail
                      refine hK.out _ _ (HK.out _ hB) (fun hHeld => ?_)
                      clear hK K
                      refine wpAnyH_ready (rs := [13]) (by kernel_rfl) (by simp) ?_
                      refine AllReadyH.cons rfl (fun K hK => ?step26) ?more26
                      case step26 =>
                        refine step_store_row (by rfl) 73 (.tmp 9) (.tmp 42) (by rfl) gCx10 (tab f) (by rfl) hV.out 73 (tab (fun _ _ => false)) hC (by rw [tab_size]; exact PrecY.infoT) (by rw [tab_size, tab_size]) (tab_one f) ?_
                        have hB3 := row_below hB hCW (tab f)
                        have hC3 := Lib.hid (show Bt _ _ f from Bx.row hC (tab f))
                        refine hK.out _ _ (HK.out _ hB3) (fun hHeld => ?_)
                        clear hK K
                        refine wpAnyH_done (by kernel_rfl) ?_ _
                        go_wp2_with fail
                        go_meet
                        exact ⟨gCx10, f, rfl, hF, hC3, hB3⟩
                      case more26 => exact AllReadyH.nil
                    case more25 => exact AllReadyH.nil
                  case more24 => exact AllReadyH.nil
                case more23 => exact AllReadyH.nil
              case more22 => exact AllReadyH.nil
          case rest =>
            obtain ⟨g, f, rfl, HF, HT, hbW⟩ := hcut
            obtain ⟨W2, hwc⟩ : ∃ x, x = wc := ⟨_, rfl⟩
            subst hwc
            replace HO := Lib.hid (Own.kept HO.out hbW)
            replace HBX := Lib.hid (HBX.out.kept hbW)
            replace hb := hb.trans (hbW.mono hb.size)
            clear HK HP1 HP2 p0 p1 hbW s4 s5 s6 s7 s8 HIW HBp hoD
            have x0 := HBX.out.cell 0
            have x1 := HBX.out.cell 1
            simp only [List.getElem?_toArray, List.getElem?_cons_zero, List.getElem?_cons_succ] at x0 x1
            have c1 := HT.out.cell xa xb (by omega) (by omega)
            rw [HF.out xa xb (by omega) (by omega)] at c1
            have e1 : (xa : Int) < 8 := by omega
            have e2 : (xb : Int) < 8 := by omega
            have HNd := Lib.hid (show needB z j ⟨(xa : Int), (xb : Int)⟩ = yieldsB (less z j) xa xb from rfl)
            go_upto_region 9 with fail
            cases gn : yieldsB (less z j) xa xb with
            | false =>
              rw [gn] at c1
              have HO2 := Lib.hid (show Own LIntA2.rec 37 W2 wA.heap.size o2 (ndl z (j + 1)) by rw [ndl_no HXr.out (HNd.out.trans gn)]; exact HO.out)
              clear gn
              go_quiet (fail)
              go_wp2_with fail
              go_roundw
              case rel => exact ⟨j + 1, o2, rfl, by omega, by go_num, Lib.hid (Own.kept HO2.out (drawn_below _ _)), hb.trans ((drawn_below _ _).mono hb.size)⟩
              case measure => simp [intOf]; omega
            | true =>
              rw [gn] at c1
              have HND := Lib.hid (ndl_yes HXr.out (HNd.out.trans gn))
              clear gn
              go_quiet (fail)
              replace HO := Lib.hid (Own.kept HO.out (drawn_below W2 nq))
              replace hb := hb.trans ((drawn_below W2 nq).mono hb.size)
              have x0 := (HBX.out.kept (drawn_below W2 nq)).cell 0
              have x1 := (HBX.out.kept (drawn_below W2 nq)).cell 1
              simp only [List.getElem?_toArray, List.getElem?_cons_zero, List.getElem?_cons_succ] at x0 x1
              generalize W2.drewN nq = wr at *
              have hsz := hb.size
              have hnl := ndl_len z j
              go_wp2_with (at_builtin; refine wpList_append_own _ rfl (.tmp 50) (.tmp 52) 24 rfl wA.heap.size 37 i0 (.agg #[.int .i64 0, .int .i64 0]) 2 16 Try.underlying24 HI0.out HZ0.out.1 HZ0.out.2.1 HZ0.out.2.2 rfl (by decide) _ _ _ rfl (Own.kept HO.out (by (repeat (first | assumption | exact Below.refl _ _ | refine Below.drew ?_ | refine Below.setCell ?_ (by first | (simp; done) | (simp; omega) | omega) _ | refine Below.alloc ?_ (by first | (simp; done) | (simp; omega) | omega) _)))) ⟨_, 0, none⟩ 1 1 [.int .i64 xa, .int .i64 xb] rfl rfl ?c1 ?c2 ?c3 ?c4 ?c5 ?c6)
              case c1 => first | exact World.news_of_block (heap_alloc_new _ _) | exact World.news_of_block (alloc_two _ _ _)
              case c2 => intro u hu; simp only [List.mem_cons, List.not_mem_nil, or_false] at hu; rcases hu with rfl | rfl <;> rfl
              case c3 => unfold maxLen; omega
              case c4 => omega
              case c5 => first | (simp; done) | (simp; omega) | omega
              case c6 =>
                intro v' w4 hown' hgrow _
                have hb3 : Below wA.heap.size wA w4 := Below.grown (by (repeat (first | assumption | exact Below.refl _ _ | refine Below.drew ?_ | refine Below.setCell ?_ (by first | (simp; done) | (simp; omega) | omega) _ | refine Below.alloc ?_ (by first | (simp; done) | (simp; omega) | omega) _))) hgrow (by first | (simp; done) | (simp; omega) | omega) (fun j hj => (HO.out.lt j hj).1)
                have HO2 := Lib.hid (show Own LIntA2.rec 37 w4 wA.heap.size v' (ndl z (j + 1)) by rw [HND.out]; exact own_of LIntA2.rec hown' (by simp) (by rw [flat_append]; rfl))
                clear hown' hgrow
                go_wp2_with fail
                go_roundw
                case rel => exact ⟨j + 1, _, rfl, by omega, by go_num, HO2, hb3⟩
                case measure => simp [intOf]; omega
        · obtain rfl : j = n := by omega
          have HE := Lib.hid (HO.out.low hbx.size)
          have hbz := hbx.trans (hb.mono hbx.size)
          rw [HLn.out] at HA
          go_wp2_with fail
          go_ret2
          exact ⟨_, _, true, rfl, HA.out, HE.out, hbz⟩
end Go.Proofs.Ytokdkponmefbaaa.PrecN
