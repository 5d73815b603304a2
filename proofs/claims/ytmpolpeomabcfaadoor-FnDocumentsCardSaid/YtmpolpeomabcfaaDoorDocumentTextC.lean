/- DocumentText, model and program: what both answer. No condition but that titles are no longer than strings can be. -/
import Derived.Test.YtmpolpeomabcfaaDoorDocN
import Derived.BigQuiet
namespace Go.Proofs.YtmpolpeomabcfaaDoor.DocumentTextC
open Go.RowKit Bs Word Doc DocO DocN
set_option linter.unusedVariables false
def titleAt (z : List M) (k : Nat) : ByteArray := ((z[k]?).map (·.title)).getD ⟨#[]⟩
theorem title_at {z : List M} {k : Nat} {X : M} (h : z[k]? = some X) : titleAt z k = X.title := by unfold titleAt; rw [h]; rfl
def lineD (z : List M) (k : Nat) : ByteArray := numB z k ++ ⟨#[32]⟩ ++ titleAt z k ++ ⟨#[10]⟩
def txt (z : List M) : Nat → ByteArray
  | 0 => ⟨#[]⟩
  | k + 1 => txt z k ++ lineD z k
theorem word_size {s : ByteArray} (h : isWordB s = true) : s.size ≤ 10 := by
  unfold isWordB at h
  simp only [Bool.and_eq_true, decide_eq_true_eq] at h
  exact h.1.2
theorem txt_size {z : List M} (hg : goodB z = true) : ∀ k, k ≤ z.length → (txt z k).size ≤ 300 * k
  | 0, _ => Nat.zero_le _
  | k + 1, h => by
    have h12 := good_len hg
    have ih := txt_size hg k (by omega)
    have hn := numB_size (xs := z) (k + 1) k (by omega) (by omega)
    have hw := word_size (good_word hg (List.getElem?_eq_getElem (show k < z.length by omega)))
    rw [← title_at (List.getElem?_eq_getElem (show k < z.length by omega))] at hw
    unfold txt lineD
    rw [ByteArray.size_append, ByteArray.size_append, ByteArray.size_append, ByteArray.size_append, show (⟨#[32]⟩ : ByteArray).size = 1 from rfl, show (⟨#[10]⟩ : ByteArray).size = 1 from rfl]
    omega
def Ans (z0 : List LSection.R) (r0 : ByteArray) (r1 : Bool) : Prop := (goodB z0 = true ∧ r0 = txt z0 z0.length ∧ r1 = true) ∨ (goodB z0 = false ∧ r0 = ⟨#[]⟩ ∧ r1 = false)
theorem same {z0 : List LSection.R} {r0 s0 : ByteArray} {r1 s1 : Bool} (h : Ans z0 r0 r1) (h' : Ans z0 s0 s1) : r0 = s0 ∧ r1 = s1 := by
  rcases h with ⟨g, rfl, rfl⟩ | ⟨g, rfl, rfl⟩ <;> rcases h' with ⟨g', rfl, rfl⟩ | ⟨g', rfl, rfl⟩ <;> first | exact ⟨rfl, rfl⟩ | (rw [g] at g'; cases g')
def APost (z0 : List LSection.R) (w : World) (e : Ending) (w' : World) : Prop := ∃ r0 r1, e = .returned (.tuple #[.string r0, .bool r1]) ∧ Ans z0 r0 r1 ∧ Below w.heap.size w w'
theorem ret_str' {a b : ByteArray} (h : a = b) : Ending.returned (.string a) = .returned (.string b) := by rw [h]
set_option maxRecDepth 100000 in
set_option maxHeartbeats 1600000 in
theorem l6Text (v0 : Value) (z0 : List LSection.R) (w : World) (h1 : Is LSection.rec w v0 z0) (hg : goodB z0 = true) :
    Calls Tryd.prog 40 #[v0] w fun e w' => e = .returned (.string (txt z0 z0.length)) ∧ Below w.heap.size w w' := by
  have HI := Lib.hid h1
  obtain ⟨a, cp, rfl, h1⟩ := h1
  have hc := h1.at_ LSection.rec
  obtain ⟨n, hn⟩ : ∃ n, n = z0.length := ⟨_, rfl⟩
  have hnb : n ≤ cp := by have := h1.1; omega
  have hn2 := h1.2.1
  unfold maxLen at hn2
  have HN := Lib.hid hn.symm
  rw [← hn] at  HI ⊢
  have hnle : n ≤ z0.length := by omega
  clear hn h1
  have HGd := Lib.hid hg
  have HU := Lib.hid (fun (k : Nat) (hk : k < z0.length) X hX => l6Number (k + 1) _ z0 k X (Nat.lt_succ_self _) (HI.out.below LSection.rec hX) hg hk)
  have HT := Lib.hid (txt_size hg)
  have h12 := good_len hg
  rw [HN.out] at h12
  clear hg
  go_enter Tryd.func40, Tryd.ntmps40
  go_wp2_with fail
  go_loopw [3, 4] (fun s i wr => ∃ (k : Nat) (S : ByteArray), k ≤ n ∧ i = .int .i64 k ∧ s = .string S ∧ Hid (S = txt z0 k) ∧ S.size ≤ 300 * k ∧ Below w.heap.size w wr) (fun _ i _ => n - (intOf i).toNat)
  case atStart => exact ⟨0, ⟨#[]⟩, Nat.zero_le _, rfl, rfl, Lib.hid rfl, Nat.zero_le _, Below.refl _ _⟩
  case round =>
    obtain ⟨k, S, hk, rfl, rfl, HS, hS, hb⟩ := hrel
    by_cases hlt : k < n
    · have hx : k < z0.length := by have := HN.out; omega
      have hxm := hx
      obtain ⟨b, o, rfl, hbl, hcell0⟩ := hc.out k z0[k] (List.getElem?_eq_getElem hx)
      have HGR := LSection.grown (hcell0.below LSection.rec hb hbl) (Nat.lt_of_lt_of_le hbl hb.size)
      have q1 := fun d os => (LSection.cells (HGR.out d os)).2
      simp only [LSection.rec_n] at q1
      clear HGR
      have HX := Lib.hid (List.getElem?_eq_getElem hx)
      have HUk := Lib.hid (fun W hW => HU.out k hx W hW)
      have hwt := word_size (good_word HGd.out HX.out)
      have hns := numB_size (xs := z0) (k + 1) k (by omega) (by omega)
      have HTN := Lib.hid (show txt z0 (k + 1) = S ++ (numB z0 k ++ ⟨#[32]⟩ ++ titleAt z0 k ++ ⟨#[10]⟩) by rw [HS.out]; rfl)
      rw [title_at HX.out] at HTN
      have hz := HT.out (k + 1) (by have := HN.out; omega)
      have k0 : 0 ≤ (k : Int) := by omega
      have k1 : (k : Int) < (n : Int) := by omega
      clear hcell0
      generalize z0[k] = X at *
      generalize numB z0 k = NU at *
      go_upto_region 5 with fail
      have HUq := Lib.hid (fun d os => HUk.out (Sort.grow (redrawn wr d) os) (hb.trans ((below_regrown wr d os).mono hb.size)))
      have g1 : ¬ (9223372036854775807 < S.size + NU.size) := by omega
      have g2 : ¬ (9223372036854775807 < S.size + NU.size + 1) := by omega
      have g3 : ¬ (9223372036854775807 < S.size + NU.size + 1 + X.title.size) := by omega
      have g4 : ¬ (9223372036854775807 < S.size + NU.size + 1 + X.title.size + 1) := by omega
      have HTN2 := Lib.hid (show S ++ NU ++ ⟨#[32]⟩ ++ X.title ++ ⟨#[10]⟩ = txt z0 (k + 1) by rw [HTN.out]; simp only [ByteArray.append_assoc])
      have HSZ := Lib.hid (show (S ++ NU ++ ⟨#[32]⟩ ++ X.title ++ ⟨#[10]⟩ : ByteArray).size ≤ 300 * (k + 1) by rw [HTN2.out]; exact hz)
      clear HUk hz HTN
      refine wp_region_quiet_below (by kernel_rfl) (by kernel_rfl) ?_
      repeat (go_big_quiet_step ((go_at_call 34; exact Calls.regrown_of (HUq.out _ _))))
      refine wpQuiet_nil ?_
      intro _ hw'
      obtain ⟨⟨dq, osq⟩, hw''⟩ := hw'
      subst hw''
      have hb2 := hb.trans ((below_regrown wr dq osq).mono hb.size)
      clear hb q1 g1 g2 g3 g4
      go_wp2_with fail
      go_roundw
      case rel => exact ⟨k + 1, _, by omega, by go_num, rfl, HTN2, HSZ.out, hb2⟩
      case measure => simp [intOf]; omega
    · have HF := Lib.hid (show S = txt z0 n by rw [HS.out, show k = n by omega])
      go_wp2_with fail
      go_ret
      exact ⟨ret_str HF.out, hb⟩
set_option maxRecDepth 100000 in
set_option maxHeartbeats 1600000 in
theorem spec (v0 : Value) (z0 : List LSection.R) (w : World) (h0 : IsS LSection.rec w v0 z0) (f0 : ∀ x ∈ z0, LSection.Fine x) (l0 : z0.length ≤ 1048576) :
    Calls Tryd.prog 18 #[v0] w (APost z0 w) := by
  have h1 := IsS.is LSection.rec h0
  clear h0
  have HI := Lib.hid h1
  have HG := Lib.hid (DocG.l6Good v0 z0 w h1 f0)
  unfold DocG.Post at HG
  obtain ⟨a, cp, rfl, h1⟩ := h1
  have hc := h1.at_ LSection.rec
  obtain ⟨n, hn⟩ : ∃ n, n = z0.length := ⟨_, rfl⟩
  have hnb : n ≤ cp := by have := h1.1; omega
  have hn2 := h1.2.1
  unfold maxLen at hn2
  have HN := Lib.hid hn.symm
  rw [← hn] at  HI HG ⊢
  have hnle : n ≤ z0.length := by omega
  clear hn h1
  clear f0
  cases hg : goodB z0 with
  | false =>
    have HA := Lib.hid (show Ans z0 ⟨#[]⟩ false from .inr ⟨hg, rfl, rfl⟩)
    rw [hg] at HG
    clear hg
    go_enter Tryd.func18, Tryd.ntmps18
    go_wp2_with fail
    refine HG.out.mono ?_
    rintro e w1 ⟨rfl, hb1⟩
    go_wp2_with fail
    go_ret2
    exact ⟨_, _, rfl, HA.out, hb1⟩
  | true =>
    have HGd := Lib.hid hg
    have HA := Lib.hid (show Ans z0 (txt z0 z0.length) true from .inl ⟨hg, rfl, rfl⟩)
    rw [HN.out] at HA
    have HTx := Lib.hid (fun X hX => l6Text _ z0 X (HI.out.below LSection.rec hX) hg)
    rw [hg] at HG
    rw [HN.out] at HTx
    clear hg
    generalize txt z0 n = TX at *
    go_enter Tryd.func18, Tryd.ntmps18
    go_wp2_with fail
    refine HG.out.mono ?_
    rintro e w1 ⟨rfl, hb1⟩
    go_wp2_with fail
    refine (HTx.out _ hb1).mono ?_
    rintro e w2 ⟨rfl, hb2⟩
    have hb3 := hb1.trans (hb2.mono hb1.size)
    go_wp2_with fail
    go_ret2
    exact ⟨_, _, rfl, HA.out, hb3⟩
set_option maxRecDepth 100000 in
set_option maxHeartbeats 1600000 in
theorem impl (v0 : Value) (z0 : List LSection.R) (w : World) (h0 : IsS LSection.rec w v0 z0) (f0 : ∀ x ∈ z0, LSection.Fine x) (l0 : z0.length ≤ 1048576) :
    Calls Tryd.prog 17 #[v0] w (APost z0 w) := by
  have h1 := IsS.is LSection.rec h0
  clear h0
  have HI := Lib.hid h1
  have HG := Lib.hid (DocG.isDocument v0 z0 w h1 f0)
  unfold DocG.Post at HG
  obtain ⟨a, cp, rfl, h1⟩ := h1
  have hc := h1.at_ LSection.rec
  obtain ⟨n, hn⟩ : ∃ n, n = z0.length := ⟨_, rfl⟩
  have hnb : n ≤ cp := by have := h1.1; omega
  have hn2 := h1.2.1
  unfold maxLen at hn2
  have HN := Lib.hid hn.symm
  rw [← hn] at  HI HG ⊢
  have hnle : n ≤ z0.length := by omega
  clear hn h1
  clear f0
  cases hg : goodB z0 with
  | false =>
    have HA := Lib.hid (show Ans z0 ⟨#[]⟩ false from .inr ⟨hg, rfl, rfl⟩)
    rw [hg] at HG
    clear hg
    go_enter Tryd.func17, Tryd.ntmps17
    go_wp2_with fail
    refine HG.out.mono ?_
    rintro e w1 ⟨rfl, hb1⟩
    go_wp2_with fail
    go_ret2
    exact ⟨_, _, rfl, HA.out, hb1⟩
  | true =>
    have HGd := Lib.hid hg
    have HA := Lib.hid (show Ans z0 (txt z0 z0.length) true from .inl ⟨hg, rfl, rfl⟩)
    rw [HN.out] at HA
    have HU := Lib.hid (fun (k : Nat) (hk : k < z0.length) X hX => numberOf (k + 1) _ z0 k X (Nat.lt_succ_self _) (HI.out.below LSection.rec hX) hg hk)
    have HT := Lib.hid (txt_size hg)
    have h12 := good_len hg
    rw [HN.out] at h12
    rw [hg] at HG
    clear hg
    go_enter Tryd.func17, Tryd.ntmps17
    go_wp2_with fail
    refine HG.out.mono ?_
    rintro e w1 ⟨rfl, hb1⟩
    go_wp2_with fail
    go_loopw [4, 12] (fun s i wr => ∃ (k : Nat) (S : ByteArray), k ≤ n ∧ i = .int .i64 k ∧ s = .string S ∧ Hid (S = txt z0 k) ∧ S.size ≤ 300 * k ∧ Below w.heap.size w wr) (fun _ i _ => n - (intOf i).toNat)
    case atStart => exact ⟨0, ⟨#[]⟩, Nat.zero_le _, rfl, rfl, Lib.hid rfl, Nat.zero_le _, hb1⟩
    case round =>
      clear hb1
      obtain ⟨k, S, hk, rfl, rfl, HS, hS, hb⟩ := hrel
      by_cases hlt : k < n
      · have hx : k < z0.length := by have := HN.out; omega
        have hxm := hx
        obtain ⟨b, o, rfl, hbl, hcell0⟩ := hc.out k z0[k] (List.getElem?_eq_getElem hx)
        obtain ⟨q0, q1⟩ := LSection.cells (hcell0.below LSection.rec hb hbl)
        simp only [LSection.rec_n] at q0 q1
        have HX := Lib.hid (List.getElem?_eq_getElem hx)
        have HUk := Lib.hid (fun W hW => HU.out k hx W hW)
        have hwt := word_size (good_word HGd.out HX.out)
        have hns := numB_size (xs := z0) (k + 1) k (by omega) (by omega)
        have HTN := Lib.hid (show txt z0 (k + 1) = S ++ (numB z0 k ++ ⟨#[32]⟩ ++ titleAt z0 k ++ ⟨#[10]⟩) by rw [HS.out]; rfl)
        rw [title_at HX.out] at HTN
        have hz := HT.out (k + 1) (by have := HN.out; omega)
        have k0 : 0 ≤ (k : Int) := by omega
        have k1 : (k : Int) < (n : Int) := by omega
        clear hcell0
        generalize z0[k] = X at *
        generalize numB z0 k = NU at *
        go_upto_region 7 with fail
        have HBX := Lib.hid (LSection.box wr X 33)
        have hba := hb.alloc hb.size (Obj.cells #[.int .i64 X.depth, .string X.title] 33)
        have hGq : wr.heap.size < (wr.alloc (Obj.cells #[.int .i64 X.depth, .string X.title] 33)).heap.size := by simp
        clear q0 q1 hb
        generalize wr.alloc (Obj.cells #[.int .i64 X.depth, .string X.title] 33) = wq at *
        generalize wr.heap.size = G at *
        have HG2 := LSection.grown HBX.out hGq
        have c1 := fun d os => (LSection.cells0 (HG2.out d os)).2
        have HUq := Lib.hid (fun d os => HUk.out (Sort.grow (redrawn wq d) os) (hba.trans ((below_regrown wq d os).mono hba.size)))
        have g1 : ¬ (9223372036854775807 < NU.size + 1) := by omega
        have g2 : ¬ (9223372036854775807 < NU.size + 1 + X.title.size) := by omega
        have g3 : ¬ (9223372036854775807 < NU.size + 1 + X.title.size + 1) := by omega
        have g4 : ¬ (9223372036854775807 < S.size + (NU.size + 1 + X.title.size + 1)) := by omega
        have HSZ := Lib.hid (show (S ++ (NU ++ ⟨#[32]⟩ ++ X.title ++ ⟨#[10]⟩) : ByteArray).size ≤ 300 * (k + 1) by rw [← HTN.out]; exact hz)
        clear HG2 HUk hz
        refine wp_region_quiet_below (by kernel_rfl) (by kernel_rfl) ?_
        repeat (go_big_quiet_step ((go_at_call 32; exact Calls.regrown_of (HUq.out _ _))))
        refine wpQuiet_nil ?_
        intro _ hw'
        obtain ⟨⟨dq, osq⟩, hw''⟩ := hw'
        subst hw''
        have hb2 := hba.trans ((below_regrown wq dq osq).mono hba.size)
        clear hba c1 g1 g2 g3 g4
        go_wp2_with fail
        go_roundw
        case rel => exact ⟨k + 1, _, by omega, by go_num, rfl, Lib.hid HTN.out.symm, HSZ.out, hb2⟩
        case measure => simp [intOf]; omega
      · have HF := Lib.hid (show S = txt z0 n by rw [HS.out, show k = n by omega])
        go_wp2_with fail
        go_ret2
        exact ⟨_, _, rfl, by rw [HF.out]; exact HA.out, hb⟩
end Go.Proofs.YtmpolpeomabcfaaDoor.DocumentTextC
