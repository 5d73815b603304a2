/- A set of proposals weighed: the program. No condition. -/
import Derived.Test.YtclpdpfnlmfogaaDoorCfR
import Derived.Test.YtclpdpfnlmfogaaDoorCfJ
import Derived.Test.YtclpdpfnlmfogaaDoorCfW
import Derived.Test.YtclpdpfnlmfogaaDoorLIntK
import Derived.Test.YtclpdpfnlmfogaaDoorAppO
import Derived.Laws.Bits64b
namespace Go.Proofs.YtclpdpfnlmfogaaDoor.CfV
open Go.RowKit Bs Word Am AmA AmG Cf CfD CfI CfM CfN CfH CfR CfJ
set_option linter.unusedVariables false
theorem all_next {z : List P} {x : Nat} {js : List Nat} {m k : Nat} (h : ∀ a ∈ js.take m, riv z a &&& x = 0) (hm : js[m]? = some k) (hk : riv z k &&& x = 0) : ∀ a ∈ js.take (m + 1), riv z a &&& x = 0 := by
  have hl : m < js.length := (List.getElem?_eq_some_iff.1 hm).1
  rw [List.getElem?_eq_getElem hl] at hm
  rw [List.take_succ_eq_append_getElem hl, Option.some.inj hm]
  intro a ha
  rcases List.mem_append.1 ha with h' | h'
  · exact h a h'
  · rw [List.mem_singleton.1 h']; exact hk
theorem take_snoc {js : List Nat} {m k : Nat} (hm : js[m]? = some k) : js.take (m + 1) = js.take m ++ [k] := by
  have hl : m < js.length := (List.getElem?_eq_some_iff.1 hm).1
  rw [List.getElem?_eq_getElem hl] at hm
  rw [List.take_succ_eq_append_getElem hl, Option.some.inj hm]
def Weighed (z : List P) (x : Nat) (A : Nat) (w : World) (e : Ending) (w' : World) : Prop := ∃ v, e = .returned (.tuple #[v, .int .i64 (if okJ z x (bitsL x z.length) = true then wts z (bitsL x z.length) else 0), .bool (okJ z x (bitsL x z.length))]) ∧ Own LInt.rec 3 w' A v (if okJ z x (bitsL x z.length) = true then idsOf z (bitsL x z.length) else []) ∧ Below A w w'
set_option maxRecDepth 100000 in
set_option maxHeartbeats 3200000 in
theorem weighSet (v1 v2 : Value) (z : List P) (sx : Nat) (W : World) (h1 : LProposalS.Is W v1 z) (f1 : ∀ x ∈ z, LProposal.Fine x) (hr : Is LSet.rec W v2 (rivs z)) (hz8 : z.length ≤ 8) (hx2 : sx < 2 ^ z.length) (hwt : ∀ x ∈ z, 1 ≤ x.weight ∧ x.weight ≤ 100) (hT : Laid.T64 W) :
    Calls Tryd.prog 78 #[v1, v2, .int .u64 sx] W (Weighed z sx W.heap.size W) := by
  obtain ⟨i9, hi, hz0, hz1, hz2⟩ := info_parts LInt.infoK
  have HI9 := Lib.hid hi
  have HZ9 := Lib.hid (And.intro hz0 (And.intro hz1 hz2))
  clear hi hz0 hz1 hz2
  have HGA := Lib.hid hwt
  have HIX := Lib.hid (fun W' (hW : Below W.heap.size W W') => CfJ.indicesIn sx z.length W' hz8 hx2 (Laid.T64.below hT hW))
  have HJL := Lib.hid (bits_len sx z.length)
  have HJB := Lib.hid (fun j (h : j ∈ bitsL sx z.length) => bits_lt h)
  have HOKB := Lib.hid (fun i (hi : i ∈ bitsL sx z.length) (h : riv z i &&& sx ≠ 0) => okJ_bad hi h)
  have HOKA := Lib.hid (fun (h : ∀ i ∈ bitsL sx z.length, riv z i &&& sx = 0) => okJ_all h)
  have hx8 : sx < 256 := Nat.lt_of_lt_of_le hx2 (show 2 ^ z.length ≤ 2 ^ 8 from Nat.pow_le_pow_right (by decide) hz8)
  have HWB := Lib.hid (wts_bound hwt)
  obtain ⟨ar, cr, rfl, hrr⟩ := hr
  have hcr := hrr.at_ LSet.rec
  have hrn := hrr.1
  have hrm := hrr.2.1
  rw [rivs_len] at hrn ⊢
  unfold maxLen at hrm
  unfold Weighed
  generalize bitsL sx z.length = js at *
  obtain ⟨OK, hOK⟩ : ∃ OK, OK = okJ z sx js := ⟨_, rfl⟩
  obtain ⟨RI, hRI⟩ : ∃ R : List Int, R = if OK = true then idsOf z js else [] := ⟨_, rfl⟩
  obtain ⟨RW, hRW⟩ : ∃ R : Int, R = if OK = true then wts z js else 0 := ⟨_, rfl⟩
  rw [← hOK, ← hRI, ← hRW]
  rw [← hOK] at HOKB HOKA
  have HR1 := Lib.hid (show OK = true → RI = idsOf z js ∧ RW = wts z js from fun h => by rw [hRI, hRW, if_pos h, if_pos h]; exact ⟨rfl, rfl⟩)
  have HR2 := Lib.hid (show OK = false → RI = [] ∧ RW = 0 from fun h => by rw [hRI, hRW, h]; exact ⟨rfl, rfl⟩)
  clear hOK hRI hRW
  have HRL := Lib.hid (fun i (h : i < z.length) => riv_lt hz8 (l := z) i)
  clear hwt hT hx2 hrr
  have hc := LProposalS.get h1
  obtain ⟨a, cp, rfl, hnb, h2⟩ := h1.form
  unfold maxLen at h2
  obtain ⟨n, hn⟩ : ∃ n, n = z.length := ⟨_, rfl⟩
  have HN := Lib.hid hn.symm
  have HF := Lib.hid f1
  have HLI := Lib.hid h1
  rw [← hn] at hc hnb HLI ⊢
  have hle : n ≤ z.length := by omega
  clear hn h1 f1
  have hn8 : n ≤ 8 := by have := HN.out; omega
  obtain ⟨jl, hjl⟩ : ∃ jl, jl = js.length := ⟨_, rfl⟩
  have HJN := Lib.hid hjl.symm
  rw [← hjl] at HIX
  have hj8 : jl ≤ 8 := by have := HJL.out; have := HN.out; omega
  have hrn2 : n ≤ cr := by have := HN.out; omega
  clear hjl hrn hz8
  obtain ⟨wa, hwa⟩ : ∃ wa : World, wa = W.alloc (Obj.cells #[] 3) := ⟨_, rfl⟩
  have HO := Lib.hid (show Own LInt.rec 3 wa W.heap.size (.slice (some ⟨W.heap.size, 0, none⟩) 0 0) (idsOf z (js.take 0)) by rw [hwa]; exact Own.start (Nat.le_refl _))
  have hba : Below W.heap.size W wa := by rw [hwa]; exact (Below.refl _ _).alloc (Nat.le_refl _) _
  go_enter Tryd.func78, Tryd.ntmps78
  go_upto_region 2 with fail
  rw [← hwa]
  clear hwa
  go_wp2_with fail
  refine (HIX.out _ hba).mono ?_
  rintro e w4 ⟨gj, cj, rfl, hoj, hb4⟩
  have HO2 := Lib.hid (HO.out.kept hb4)
  have HD3 := Lib.hid (dist_call HO.out hoj).symm
  have HJ2 := Lib.hid (hoj.low hba.size)
  have hjc := (isq_len (Own.isQ hoj)).2
  unfold maxLen at hjc
  obtain ⟨hjc1, hjc2⟩ := hjc
  have hb5 := hba.trans (hb4.mono hba.size)
  clear hb4 hoj HO hba HIX
  go_wp2_with fail
  go_loopw [9, 10, 17] (fun so sm j wr => ∃ (m : Nat) (o : Value) (zs : List Int) (sw : Int), o = so ∧ m ≤ jl ∧ sm = .int .i64 sw ∧ 0 ≤ sw ∧ sw ≤ 800 ∧ j = .int .i64 m ∧ Hid (sw = wts z (js.take m)) ∧ Hid (zs = idsOf z (js.take m)) ∧ Hid (Own LInt.rec 3 wr W.heap.size o zs) ∧ Hid (Own LInt.rec 3 wr W.heap.size (.slice (some ⟨gj, 0, none⟩) jl cj) (ints js)) ∧ Hid (Dist (.slice (some ⟨gj, 0, none⟩) jl cj) o) ∧ Hid (∀ a ∈ js.take m, riv z a &&& sx = 0) ∧ Below W.heap.size W wr) (fun _ _ j _ => jl - (intOf j).toNat)
  case atStart => exact ⟨0, _, _, 0, rfl, Nat.zero_le _, rfl, by omega, by omega, rfl, Lib.hid rfl, Lib.hid rfl, HO2, HJ2, HD3, Lib.hid (fun a ha => by simp at ha), hb5⟩
  case round =>
    clear HO2 HJ2 HD3 hb5
    obtain ⟨m, ov, zs, sw, rfl, hmk, rfl, hs0, hs8, rfl, HSW, HZ, HO, HJ, HD, HALL, hb⟩ := hrel
    by_cases hlm : m < jl
    · have m0 : 0 ≤ (m : Int) := by omega
      have m1 : (m : Int) < (jl : Int) := by omega
      have hjx : m < js.length := by have := HJN.out; omega
      have HJA := Lib.hid (List.getElem?_eq_getElem hjx)
      have HJM := Lib.hid (HJB.out _ (List.getElem_mem hjx))
      have HJI := Lib.hid (List.getElem_mem hjx)
      generalize js[m] = J at *
      have p0 := LInt.cells (Own.at_ HJ.out m (J : Int) (CfN.ints_at HJA.out))
      simp only [LInt.rec_n, Nat.mul_one] at p0
      have hJn : J < n := by have := HJM.out; have := HN.out; omega
      have J0 : 0 ≤ (J : Int) := by omega
      have J1 : (J : Int) < (n : Int) := by omega
      have hx : J < z.length := by omega
      obtain ⟨b, o, c, x, y, s, he, hbl, hat, hI⟩ := hc.out J z[J] (List.getElem?_eq_getElem hx)
      simp only [Value.slice.injEq] at he
      obtain ⟨rfl, -, rfl⟩ := he
      have HAT := Lib.hid hat
      have HX := Lib.hid (List.getElem?_eq_getElem hx)
      have HFX := Lib.hid (HF.out _ (List.getElem_mem hx))
      have HGX := Lib.hid (HGA.out _ (List.getElem_mem hx))
      have HQX := Lib.hid hI
      clear hat hI
      generalize z[J] = X at *
      obtain ⟨br, orr, rfl, hbr, hrc⟩ := hcr.out J (riv z J) (rivs_at (by have := HN.out; omega))
      have q0 := LSet.cells (hrc.below LSet.rec hb hbr)
      simp only [LSet.rec_n, Nat.mul_one] at q0
      have HRJ := Lib.hid (HRL.out J (by have := HN.out; omega))
      have s2 := bits_and_u64_nat (riv z J) sx (by have := HRJ.out; omega) (by omega)
      have HWA := Lib.hid (HWB.out (js.take (m + 1)))
      rw [take_snoc HJA.out, wts_snoc HX.out, ← HSW.out] at HWA
      have HTL := Lib.hid (show (js.take m ++ [J]).length ≤ 8 by rw [← take_snoc HJA.out, List.length_take]; have := HJN.out; omega)
      by_cases hcf : riv z J &&& sx = 0
      · have HALL2 := Lib.hid (all_next HALL.out HJA.out hcf)
        have e1 : (((riv z J &&& sx : Nat) : Int) != 0) = false := by rw [hcf]; rfl
        generalize riv z J &&& sx = RX at *
        generalize riv z J = RV at *
        have HSW2 := Lib.hid (show sw + X.weight = wts z (js.take (m + 1)) by rw [take_snoc HJA.out, wts_snoc HX.out, ← HSW.out])
        have HZ2 := Lib.hid (show zs ++ [X.id] = idsOf z (js.take (m + 1)) by rw [take_snoc HJA.out, ids_snoc HX.out, ← HZ.out])
        have hzl : zs.length ≤ 8 := by rw [HZ.out, ids_len, List.length_take]; omega
        have hsw1 : 0 ≤ sw + X.weight := HWA.out.1
        have hsw2 : sw + X.weight ≤ 800 := by have h1 := HWA.out.2; have h2 := HTL.out; omega
        have s3 : IntKind.i64.wrap (sw + X.weight) = sw + X.weight := IntWalk.i64_in _ (by omega)
        have p1 := (LProposalS.cells_hd (HAT.out.below LProposalS.kit.row hb hbl)).1
        clear hcf
        have hbc : Below wr.heap.size wr (wr.alloc (Obj.cells #[.int .i64 X.id] 3)) := (Below.refl _ _).alloc (Nat.le_refl _) _
        have HOc := Lib.hid (HO.out.kept hbc)
        have HJc := Lib.hid (HJ.out.kept hbc)
        have hbC := hb.trans (hbc.mono hb.size)
        clear hbc
        go_wp2_with (at_builtin; refine wpList_append_o (T := LInt.rec) _ rfl (.tmp 29) (.tmp 35) 48 rfl W.heap.size 3 i9 (.int .i64 0) 8 Tryd.underlying48 HI9.out HZ9.out.1 HZ9.out.2.1 HZ9.out.2.2 rfl _ _ rfl HOc.out (some ⟨wr.heap.size, 0, none⟩) 1 1 [X.id] rfl rfl (src_one (T := LInt.rec) (heap_alloc_new wr _)) (by skip; unfold maxLen; omega) (by skip; omega) hbC.size ?_)
        intro v6 w6 hown hgrow hnn hat
        have hgr : (wr.alloc (Obj.cells #[.int .i64 X.id] 3)).grownBy w6 (ov).ownBlock := hgrow
        have hat2 : v6.ownBlock = (ov).ownBlock ∨ v6.ownBlock = some (wr.alloc (Obj.cells #[.int .i64 X.id] 3)).heap.size := by
          rcases hat with h9 | h9
          · exact .inl h9
          · exact .inr (by first | (rw [h9]; done) | (rw [h9]; simp))
        have hb6 := below_grown hbC hgr hbC.size (fun j hj => (HOc.out.lt j hj).1)
        have HO6 := Lib.hid hown
        have HJ6 := Lib.hid (own_besides HJc.out hgr HD.out)
        have HD6 := Lib.hid (dist_grow HJc.out HD.out hat2)
        have HNN6 := Lib.hid hnn
        have HATT6 := Lib.hid hat2
        clear hown hgrow hnn hat hat2 hgr hbC HOc HJc
        have p5 := (LProposalS.cells_hd (HAT.out.below LProposalS.kit.row hb6 hbl)).2.2.2.2.2
        clear p0 p1 q0
        go_wp2_with fail
        go_roundw
        case rel => exact ⟨m + 1, _, _, sw + X.weight, rfl, by omega, rfl, hsw1, hsw2, by go_num, HSW2, HZ2, HO6, HJ6, HD6, HALL2, hb6⟩
        case measure => simp [intOf]; omega
      · have HBD := Lib.hid (HOKB.out J HJI.out hcf)
        have e1 : (((riv z J &&& sx : Nat) : Int) != 0) = true := bne_iff_ne.2 (by omega)
        clear hcf
        generalize riv z J &&& sx = RX at *
        generalize riv z J = RV at *
        have HOF := Lib.hid (Own.start (T := LInt.rec) (E := 3) (w := wr) hb.size)
        have hbf := hb.alloc hb.size (Obj.cells #[] 3)
        go_wp2_with fail
        go_ret3
        exact ⟨.slice (some ⟨wr.heap.size, 0, none⟩) 0 0, by rw [(HR2.out HBD.out).2, HBD.out]; rfl, by rw [(HR2.out HBD.out).1]; exact HOF.out, hbf⟩
    · obtain rfl : m = jl := by omega
      have HTK := Lib.hid (show js.take m = js from List.take_of_length_le (by have := HJN.out; omega))
      have HOKT := Lib.hid (HOKA.out (by have h := HALL.out; rwa [HTK.out] at h))
      have HSE := Lib.hid (show sw = wts z js by rw [HSW.out, HTK.out])
      have HOE := Lib.hid (show Own LInt.rec 3 wr W.heap.size ov (idsOf z js) by have h := HO.out; rwa [HZ.out, HTK.out] at h)
      go_wp2_with fail
      go_ret3
      rw [HSE.out]
      exact ⟨ov, by rw [(HR1.out HOKT.out).2, HOKT.out]; rfl, by rw [(HR1.out HOKT.out).1]; exact HOE.out, hb⟩
end Go.Proofs.YtclpdpfnlmfogaaDoor.CfV
