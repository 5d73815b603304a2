/- The text of a list of rules: RulesText of the model and of the program. No condition but that names are no longer than strings can be. -/
import Derived.Test.YtankaffhapcnaaaDoorLineI
import Derived.Test.YtankaffhapcnaaaDoorJ1
namespace Go.Proofs.YtankaffhapcnaaaDoor.Text
open Go.RowKit Bs Line
set_option linter.unusedVariables false
def textB (xs : List LRule.R) : ByteArray := xs.foldl (fun s r => s ++ lineB r ++ ⟨#[10]⟩) ⟨#[]⟩
theorem text_next (xs : List LRule.R) (k : Nat) (h : k < xs.length) : textB (xs.take (k + 1)) = textB (xs.take k) ++ lineB xs[k] ++ ⟨#[10]⟩ := by
  unfold textB
  rw [List.take_succ_eq_append_getElem h, List.foldl_append]
  rfl
theorem line_size {r : LRule.R} (h : Rule.okB r = true) : (lineB r).size ≤ 93 := by
  obtain ⟨h1, h2, h3, h4, h5, h6, h7⟩ := ok_parts h
  have hF := front_size (num r.id) r.name (num r.rank) (num_size _ (by omega) (by omega)) h3 (num_size _ (by omega) (by omega))
  unfold lineB mid
  have a1 := addIf_size r.sec (front (num r.id) r.name (num r.rank)) ⟨#[32, 115, 101, 99, 111, 110, 100]⟩
  have a2 := addIf_size r.deb (addIf r.sec (front (num r.id) r.name (num r.rank)) ⟨#[32, 115, 101, 99, 111, 110, 100]⟩) ⟨#[32, 100, 101, 98, 97, 116, 101]⟩
  have a3 := addIf_size r.am (addIf r.deb (addIf r.sec (front (num r.id) r.name (num r.rank)) ⟨#[32, 115, 101, 99, 111, 110, 100]⟩) ⟨#[32, 100, 101, 98, 97, 116, 101]⟩) ⟨#[32, 97, 109, 101, 110, 100]⟩
  have n1 := LineI.need_size r.need
  have e1 : (⟨#[32, 115, 101, 99, 111, 110, 100]⟩ : ByteArray).size = 7 := rfl
  have e2 : (⟨#[32, 100, 101, 98, 97, 116, 101]⟩ : ByteArray).size = 7 := rfl
  have e3 : (⟨#[32, 97, 109, 101, 110, 100]⟩ : ByteArray).size = 6 := rfl
  have e4 : (⟨#[32, 98, 121, 32]⟩ : ByteArray).size = 4 := rfl
  rw [ByteArray.size_append, ByteArray.size_append]
  omega
theorem text_size (xs : List LRule.R) (h : ∀ x ∈ xs, Rule.okB x = true) : ∀ k, k ≤ xs.length → (textB (xs.take k)).size ≤ k * 94
  | 0, _ => Nat.le_refl 0
  | k + 1, hk => by
    have ih := text_size xs h k (by omega)
    have hl := line_size (h xs[k] (List.getElem_mem (by omega)))
    rw [text_next xs k (by omega), ByteArray.size_append, ByteArray.size_append]
    have e : (⟨#[10]⟩ : ByteArray).size = 1 := rfl
    omega
theorem all_ok {xs : List LRule.R} (h : Gd.goodB xs = true) : ∀ x ∈ xs, Rule.okB x = true := fun x hx => by
  obtain ⟨i, hi, rfl⟩ := List.getElem_of_mem hx
  obtain ⟨r, hr, ho, _⟩ := (Gd.good_of h).2 i hi
  rw [List.getElem?_eq_getElem hi] at hr
  rw [Option.some.inj hr]
  exact ho
def Ans (z0 : List LRule.R) (r0 : ByteArray) (r1 : Bool) : Prop := (Gd.goodB z0 = true ∧ r0 = textB z0 ∧ r1 = true) ∨ (Gd.goodB z0 = false ∧ r0 = ⟨#[]⟩ ∧ r1 = false)
theorem same {z0 : List LRule.R} {r0 s0 : ByteArray} {r1 s1 : Bool} (h : Ans z0 r0 r1) (h' : Ans z0 s0 s1) : r0 = s0 ∧ r1 = s1 := by
  rcases h with ⟨g, rfl, rfl⟩ | ⟨g, rfl, rfl⟩ <;> rcases h' with ⟨g', rfl, rfl⟩ | ⟨g', rfl, rfl⟩
  · exact ⟨rfl, rfl⟩
  · rw [g] at g'; cases g'
  · rw [g] at g'; cases g'
  · exact ⟨rfl, rfl⟩
def Post (z0 : List LRule.R) (w : World) (e : Ending) (w' : World) : Prop := ∃ r0 r1, e = .returned (.tuple #[.string r0, .bool r1]) ∧ Ans z0 r0 r1 ∧ Below w.heap.size w w'
set_option maxHeartbeats 800000 in
theorem l2Text (v0 : Value) (z0 : List LRule.R) (w : World) (h0 : Is LRule.rec w v0 z0) (hok : ∀ x ∈ z0, Rule.okB x = true) (l0 : z0.length ≤ 8) :
    Calls Tryd.prog 36 #[v0] w fun e w' => e = .returned (.string (textB z0)) ∧ Below w.heap.size w w' := by
  obtain ⟨a, cp, rfl, h⟩ := h0
  have hc := h.at_ LRule.rec
  have HT := Lib.hid (text_size z0 hok)
  have HK := Lib.hid hok
  obtain ⟨n, hn⟩ : ∃ n, n = z0.length := ⟨_, rfl⟩
  have hnb : n ≤ cp := by have := h.1; omega
  have h2 := h.2.1
  unfold maxLen at h2
  have HN := Lib.hid hn.symm
  rw [← hn] at l0 ⊢
  have hle : n ≤ z0.length := by omega
  clear hn h hok
  go_enter Tryd.func36, Tryd.ntmps36
  go_wp2_with fail
  go_loopw [3, 4] (fun s i wr => ∃ (k : Nat) (S : ByteArray), k ≤ n ∧ i = .int .i64 k ∧ s = .string S ∧ Hid (S = textB (z0.take k)) ∧ S.size ≤ 752 ∧ Below w.heap.size w wr) (fun _ i _ => n - (intOf i).toNat)
  case atStart => exact ⟨0, ⟨#[]⟩, Nat.zero_le _, rfl, rfl, Lib.hid rfl, by decide, Below.refl _ _⟩
  case round =>
    obtain ⟨k, S, hk, rfl, rfl, HS, hS, hb⟩ := hrel
    by_cases hlt : k < n
    · have hx : k < z0.length := by omega
      obtain ⟨b, o, rfl, hbl, hcell0⟩ := hc.out k z0[k] (List.getElem?_eq_getElem hx)
      obtain ⟨q0, q1, q2, q3, q4, q5, q6⟩ := LRule.cells (hcell0.below LRule.rec hb hbl)
      simp only [LRule.rec_n] at q0 q1 q2 q3 q4 q5 q6
      have HO := Lib.hid (HK.out z0[k] (List.getElem_mem hx))
      have HTN := Lib.hid (text_next z0 k hx)
      have hl := line_size HO.out
      have hz := HT.out (k + 1) (by omega)
      rw [HTN.out, ← HS.out, ByteArray.size_append, ByteArray.size_append, show (⟨#[10]⟩ : ByteArray).size = 1 from rfl] at hz
      have k0 : 0 ≤ (k : Int) := by omega
      have k1 : (k : Int) < (n : Int) := by omega
      clear hcell0
      generalize z0[k] = X at *
      go_wp2_with fail
      refine (Line.l2Line X _ HO.out).mono ?_
      rintro e w1 ⟨rfl, hb1⟩
      have hb2 := hb.trans (hb1.mono hb.size)
      have HE := Lib.hid (show S ++ lineB X ++ ⟨#[10]⟩ = textB (z0.take (k + 1)) by rw [HTN.out, HS.out])
      have hsz : (S ++ lineB X ++ ⟨#[10]⟩ : ByteArray).size ≤ 752 := by rw [ByteArray.size_append, ByteArray.size_append, show (⟨#[10]⟩ : ByteArray).size = 1 from rfl]; omega
      have HSZ := Lib.hid hsz
      clear q0 q1 q2 q3 q4 q5 q6 hb1 hsz
      generalize lineB X = LX at *
      go_wp2_with fail
      go_roundw
      case rel => exact ⟨k + 1, _, by omega, by go_num, rfl, HE, HSZ.out, hb2⟩
      case measure => simp [intOf]; omega
    · have hkn : z0.take k = z0 := List.take_of_length_le (by have := HN.out; omega)
      have HF := Lib.hid (show S = textB z0 by rw [HS.out, hkn])
      clear hkn
      go_wp2_with fail
      go_ret
      exact ⟨by rw [HF.out]; rfl, hb⟩
set_option maxHeartbeats 800000 in
theorem spec (v0 : Value) (z0 : List LRule.R) (w : World) (h0 : IsS LRule.rec w v0 z0) (f0 : ∀ x ∈ z0, LRule.Fine x) (l0 : z0.length ≤ 1048576) :
    Calls Tryd.prog 15 #[v0] w (Post z0 w) := by
  have h1 := IsS.is LRule.rec h0
  have HI := Lib.hid h1
  obtain ⟨a, cp, rfl, h2⟩ := h1
  have HG := Lib.hid (Gd.l2Good a _ cp z0 w rfl (RuleC.rules h2) f0)
  clear h0 h2 f0
  go_enter Tryd.func15, Tryd.ntmps15
  go_wp2_with fail
  refine HG.out.mono ?_
  rintro e w1 ⟨rfl, hb1⟩
  cases hg : Gd.goodB z0 with
  | false =>
    have HA := Lib.hid (show Ans z0 ⟨#[]⟩ false from .inr ⟨hg, rfl, rfl⟩)
    clear hg
    go_wp2_with fail
    go_ret2
    exact ⟨_, _, rfl, HA.out, hb1⟩
  | true =>
    have HA := Lib.hid (show Ans z0 (textB z0) true from .inl ⟨hg, rfl, rfl⟩)
    have HO := Lib.hid (all_ok hg)
    have h8 := (Gd.good_of hg).1
    have HI1 := Lib.hid (HI.out.below LRule.rec hb1)
    clear hg
    go_wp2_with fail
    refine (l2Text _ z0 _ HI1.out HO.out h8).mono ?_
    rintro e w2 ⟨rfl, hb2⟩
    have hb3 := hb1.trans (hb2.mono hb1.size)
    go_wp2_with fail
    go_ret2
    exact ⟨_, _, rfl, HA.out, hb3⟩
set_option maxHeartbeats 1600000 in
theorem impl (v0 : Value) (z0 : List LRule.R) (w : World) (h0 : IsS LRule.rec w v0 z0) (f0 : ∀ x ∈ z0, LRule.Fine x) (l0 : z0.length ≤ 1048576) :
    Calls Tryd.prog 13 #[v0] w (Post z0 w) := by
  obtain ⟨a, cp, rfl, h2⟩ := IsS.is LRule.rec h0
  have HR := Lib.hid h2
  have HG := Lib.hid (GoodI.isValidRules a _ cp z0 w rfl (RuleC.rules h2) f0)
  have HFi := Lib.hid f0
  obtain ⟨n, hn⟩ : ∃ n, n = z0.length := ⟨_, rfl⟩
  have hnb : n ≤ cp := by have := h2.1; omega
  have h3 := h2.2.1
  unfold maxLen at h3
  have HN := Lib.hid hn.symm
  rw [← hn] at HG l0 ⊢
  have hle : n ≤ z0.length := by omega
  clear h0 h2 f0 hn
  go_enter Tryd.func13, Tryd.ntmps13
  go_wp2_with fail
  refine HG.out.mono ?_
  rintro e w1 ⟨rfl, hb1⟩
  cases hg : Gd.goodB z0 with
  | false =>
    have HA := Lib.hid (show Ans z0 ⟨#[]⟩ false from .inr ⟨hg, rfl, rfl⟩)
    clear hg
    go_wp2_with fail
    go_ret2
    exact ⟨_, _, rfl, HA.out, hb1⟩
  | true =>
    have HA := Lib.hid (show Ans z0 (textB z0) true from .inl ⟨hg, rfl, rfl⟩)
    have HK := Lib.hid (all_ok hg)
    have HT := Lib.hid (text_size z0 (all_ok hg))
    have h8 : n ≤ 8 := by have := (Gd.good_of hg).1; omega
    have hc := (HR.out.below LRule.rec hb1).at_ LRule.rec
    clear hg
    go_wp2_with fail
    go_loopw [4, 14] (fun s i wr => ∃ (k : Nat) (S : ByteArray), k ≤ n ∧ i = .int .i64 k ∧ s = .string S ∧ Hid (S = textB (z0.take k)) ∧ S.size ≤ 752 ∧ Below w1.heap.size w1 wr) (fun _ i _ => n - (intOf i).toNat)
    case atStart => exact ⟨0, ⟨#[]⟩, Nat.zero_le _, rfl, rfl, Lib.hid rfl, by decide, Below.refl _ _⟩
    case round =>
      obtain ⟨k, S, hk, rfl, rfl, HS, hS, hb⟩ := hrel
      by_cases hlt : k < n
      · have hx : k < z0.length := by omega
        obtain ⟨b, o, rfl, hbl, hcell0⟩ := hc.out k z0[k] (List.getElem?_eq_getElem hx)
        obtain ⟨q0, q1, q2, q3, q4, q5, q6⟩ := LRule.cells (hcell0.below LRule.rec hb hbl)
        simp only [LRule.rec_n] at q0 q1 q2 q3 q4 q5 q6
        have HO := Lib.hid (HK.out z0[k] (List.getElem_mem hx))
        have HF1 := Lib.hid (HFi.out z0[k] (List.getElem_mem hx))
        have HTN := Lib.hid (text_next z0 k hx)
        have hl := line_size HO.out
        have hz := HT.out (k + 1) (by omega)
        rw [HTN.out, ← HS.out, ByteArray.size_append, ByteArray.size_append, show (⟨#[10]⟩ : ByteArray).size = 1 from rfl] at hz
        have k0 : 0 ≤ (k : Int) := by omega
        have k1 : (k : Int) < (n : Int) := by omega
        clear hcell0
        generalize z0[k] = X at *
        go_wp2_with fail
        have hb0 := hb.alloc hb.size (Obj.cells #[.int .i64 X.id, .string X.name, .int .i64 X.rank, .bool X.sec, .bool X.deb, .bool X.am, .int .i64 X.need] 25)
        refine (LineI.impl X _ HF1.out).mono ?_
        rintro e w2 ⟨r0, r1, rfl, hA, hb2⟩
        obtain ⟨rfl, rfl⟩ := LineI.same hA (.inl ⟨HO.out, rfl, rfl⟩)
        have hb3 := hb0.trans (hb2.mono hb0.size)
        have HE := Lib.hid (show S ++ (lineB X ++ ⟨#[10]⟩) = textB (z0.take (k + 1)) by rw [HTN.out, HS.out, ByteArray.append_assoc])
        have HSZ := Lib.hid (show (S ++ (lineB X ++ ⟨#[10]⟩) : ByteArray).size ≤ 752 by rw [ByteArray.size_append, ByteArray.size_append, show (⟨#[10]⟩ : ByteArray).size = 1 from rfl]; omega)
        clear q0 q1 q2 q3 q4 q5 q6 hb2 hA
        generalize lineB X = LX at *
        go_wp2_with fail
        go_roundw
        case rel => exact ⟨k + 1, _, by omega, by go_num, rfl, HE, HSZ.out, hb3⟩
        case measure => simp [intOf]; omega
      · have hkn : z0.take k = z0 := List.take_of_length_le (by have := HN.out; omega)
        have HF := Lib.hid (show S = textB z0 by rw [HS.out, hkn])
        have hb3 := hb1.trans (hb.mono hb1.size)
        clear hkn
        go_wp2_with fail
        go_ret2
        exact ⟨_, _, rfl, by rw [HF.out]; exact HA.out, hb3⟩
end Go.Proofs.YtankaffhapcnaaaDoor.Text
