/- AgendaText, model and program: what both answer. For the program's: the table of powers of ten that strconv reads is as its initialiser lays it. -/
import Derived.Test.YtgemnjimgjnlhaaGreatDoorAgX
namespace Go.Proofs.YtgemnjimgjnlhaaGreatDoor.AgendaTextC
open Go.RowKit Bs Word Ag AgX
set_option linter.unusedVariables false
def textM (xs : List M) : ByteArray := xs.foldl (fun s r => s ++ lineM r ++ ⟨#[10]⟩) ⟨#[]⟩
theorem text_next (xs : List M) (k : Nat) (h : k < xs.length) : textM (xs.take (k + 1)) = textM (xs.take k) ++ lineM xs[k] ++ ⟨#[10]⟩ := by
  unfold textM
  rw [List.take_succ_eq_append_getElem h, List.foldl_append]
  rfl
theorem text_size (xs : List M) (h : ∀ x ∈ xs, okB x = true) : ∀ k, k ≤ xs.length → (textM (xs.take k)).size ≤ k * 160
  | 0, _ => Nat.le_refl 0
  | k + 1, hk => by
    have ih := text_size xs h k (by omega)
    have hl := line_size (h xs[k] (List.getElem_mem (by omega)))
    rw [text_next xs k (by omega), ByteArray.size_append, ByteArray.size_append]
    have e : (⟨#[10]⟩ : ByteArray).size = 1 := rfl
    omega
theorem all_ok {xs : List M} (h : goodB xs = true) : ∀ x ∈ xs, okB x = true := fun x hx => by
  obtain ⟨i, hi, rfl⟩ := List.getElem_of_mem hx
  exact good_at h (List.getElem?_eq_getElem hi)
def Ans (z0 : List M) (r0 : ByteArray) (r1 : Bool) : Prop := (goodB z0 = true ∧ r0 = textM z0 ∧ r1 = true) ∨ (goodB z0 = false ∧ r0 = ⟨#[]⟩ ∧ r1 = false)
theorem same {z0 : List LAgendaItem.R} {r0 s0 : ByteArray} {r1 s1 : Bool} (h : Ans z0 r0 r1) (h' : Ans z0 s0 s1) : r0 = s0 ∧ r1 = s1 := by
  rcases h with ⟨g, rfl, rfl⟩ | ⟨g, rfl, rfl⟩ <;> rcases h' with ⟨g', rfl, rfl⟩ | ⟨g', rfl, rfl⟩
  · exact ⟨rfl, rfl⟩
  · rw [g] at g'; cases g'
  · rw [g] at g'; cases g'
  · exact ⟨rfl, rfl⟩
def Post (z0 : List LAgendaItem.R) (w : World) (e : Ending) (w' : World) : Prop := ∃ r0 r1, e = .returned (.tuple #[.string r0, .bool r1]) ∧ Ans z0 r0 r1 ∧ Below w.heap.size w w'
set_option maxRecDepth 100000 in
set_option maxHeartbeats 800000 in
theorem l5Text (v0 : Value) (z0 : List M) (w : World) (h0 : Is LAgendaItem.rec w v0 z0) (hok : ∀ x ∈ z0, okB x = true) (l0 : z0.length ≤ 10) :
    Calls Tryz.prog 71 #[v0] w fun e w' => e = .returned (.string (textM z0)) ∧ Below w.heap.size w w' := by
  have HT := Lib.hid (text_size z0 hok)
  have HK := Lib.hid hok
  obtain ⟨a, cp, rfl, h0⟩ := h0
  have hc := h0.at_ LAgendaItem.rec
  obtain ⟨n, hn⟩ : ∃ n, n = z0.length := ⟨_, rfl⟩
  have hnb : n ≤ cp := by have := h0.1; omega
  have hn2 := h0.2.1
  unfold maxLen at hn2
  have HN := Lib.hid hn.symm
  rw [← hn]
  have hnle : n ≤ z0.length := by omega
  clear hn h0
  clear hok
  have l1 : n ≤ 10 := by have := HN.out; omega
  go_enter Tryz.func71, Tryz.ntmps71
  go_wp2_with fail
  go_loopw [3, 4] (fun s i wr => ∃ (k : Nat) (S : ByteArray), k ≤ n ∧ i = .int .i64 k ∧ s = .string S ∧ Hid (S = textM (z0.take k)) ∧ S.size ≤ 1600 ∧ Below w.heap.size w wr) (fun _ i _ => n - (intOf i).toNat)
  case atStart => exact ⟨0, ⟨#[]⟩, Nat.zero_le _, rfl, rfl, Lib.hid rfl, by decide, Below.refl _ _⟩
  case round =>
    obtain ⟨k, S, hk, rfl, rfl, HS, hS, hb⟩ := hrel
    by_cases hlt : k < n
    · have hx : k < z0.length := by omega
      obtain ⟨b, o, rfl, hbl, hcell0⟩ := hc.out k z0[k] (List.getElem?_eq_getElem hx)
      obtain ⟨q0, q1, q2, q3⟩ := LAgendaItem.cells (hcell0.below LAgendaItem.rec hb hbl)
      simp only [LAgendaItem.rec_n] at q0 q1 q2 q3
      have hokx := HK.out z0[k] (List.getElem_mem hx)
      have HTN := Lib.hid (text_next z0 k hx)
      have HLn := Lib.hid (fun W => AgX.l5Line z0[k] W hokx)
      have hl := line_size hokx
      have hz := HT.out (k + 1) (by omega)
      rw [HTN.out, ← HS.out, ByteArray.size_append, ByteArray.size_append, show (⟨#[10]⟩ : ByteArray).size = 1 from rfl] at hz
      have k0 : 0 ≤ (k : Int) := by omega
      have k1 : (k : Int) < (n : Int) := by omega
      clear hcell0 hokx
      generalize z0[k] = X at *
      go_wp2_with fail
      refine (HLn.out _).mono ?_
      rintro e w1 ⟨rfl, hb1⟩
      have hb2 := hb.trans (hb1.mono hb.size)
      have HE := Lib.hid (show S ++ lineM X ++ ⟨#[10]⟩ = textM (z0.take (k + 1)) by rw [HTN.out, HS.out])
      have hsz : (S ++ lineM X ++ ⟨#[10]⟩ : ByteArray).size ≤ 1600 := by rw [ByteArray.size_append, ByteArray.size_append, show (⟨#[10]⟩ : ByteArray).size = 1 from rfl]; omega
      have HSZ := Lib.hid hsz
      clear q0 q1 q2 q3 hb1 hsz HLn
      generalize lineM X = LX at *
      go_wp2_with fail
      go_roundw
      case rel => exact ⟨k + 1, _, by omega, by go_num, rfl, HE, HSZ.out, hb2⟩
      case measure => simp [intOf]; omega
    · have hkn : z0.take k = z0 := List.take_of_length_le (by have := HN.out; omega)
      have HF := Lib.hid (show S = textM z0 by rw [HS.out, hkn])
      clear hkn
      go_wp2_with fail
      go_ret
      exact ⟨by rw [HF.out]; rfl, hb⟩
set_option maxRecDepth 100000 in
set_option maxHeartbeats 800000 in
theorem spec (v0 : Value) (z0 : List LAgendaItem.R) (w : World) (h0 : IsS LAgendaItem.rec w v0 z0) (f0 : ∀ x ∈ z0, LAgendaItem.Fine x) (l0 : z0.length ≤ 1048576) :
    Calls Tryz.prog 30 #[v0] w (Post z0 w) := by
  have h1 := IsS.is LAgendaItem.rec h0
  have HI := Lib.hid h1
  have HG := Lib.hid (AgG.l5Good v0 z0 w h1 f0)
  obtain ⟨b, o, c, rfl, _⟩ := h0
  clear h1 f0
  go_enter Tryz.func30, Tryz.ntmps30
  go_wp2_with fail
  refine HG.out.mono ?_
  rintro e w1 ⟨rfl, hb1⟩
  cases hg : goodB z0 with
  | false =>
    have HA := Lib.hid (show Ans z0 ⟨#[]⟩ false from .inr ⟨hg, rfl, rfl⟩)
    clear hg
    go_wp2_with fail
    go_ret2
    exact ⟨_, _, rfl, HA.out, hb1⟩
  | true =>
    have HA := Lib.hid (show Ans z0 (textM z0) true from .inl ⟨hg, rfl, rfl⟩)
    have HO := Lib.hid (all_ok hg)
    have h8 := good_len hg
    have HI1 := Lib.hid (HI.out.below LAgendaItem.rec hb1)
    clear hg
    go_wp2_with fail
    refine (l5Text _ z0 _ HI1.out HO.out h8).mono ?_
    rintro e w2 ⟨rfl, hb2⟩
    have hb3 := hb1.trans (hb2.mono hb1.size)
    go_wp2_with fail
    go_ret2
    exact ⟨_, _, rfl, HA.out, hb3⟩
set_option maxRecDepth 100000 in
set_option maxHeartbeats 1600000 in
theorem impl (v0 : Value) (z0 : List LAgendaItem.R) (w : World) (h0 : IsS LAgendaItem.rec w v0 z0) (f0 : ∀ x ∈ z0, LAgendaItem.Fine x) (l0 : z0.length ≤ 1048576) (vp : Laid.Pow w) :
    Calls Tryz.prog 29 #[v0] w (Post z0 w) := by
  have h1 := IsS.is LAgendaItem.rec h0
  have HG := Lib.hid (AgI.isValidAgenda v0 z0 w h1 f0)
  have HVP := Lib.hid vp
  clear h0 vp
  obtain ⟨a, cp, rfl, h1⟩ := h1
  have hc := h1.at_ LAgendaItem.rec
  obtain ⟨n, hn⟩ : ∃ n, n = z0.length := ⟨_, rfl⟩
  have hnb : n ≤ cp := by have := h1.1; omega
  have hn2 := h1.2.1
  unfold maxLen at hn2
  have HN := Lib.hid hn.symm
  rw [← hn] at HG ⊢
  have hnle : n ≤ z0.length := by omega
  clear hn h1
  clear f0
  go_enter Tryz.func29, Tryz.ntmps29
  go_wp2_with fail
  refine HG.out.mono ?_
  rintro e w1 ⟨rfl, hb1⟩
  cases hg : goodB z0 with
  | false =>
    have HA := Lib.hid (show Ans z0 ⟨#[]⟩ false from .inr ⟨hg, rfl, rfl⟩)
    clear hg
    go_wp2_with fail
    go_ret2
    exact ⟨_, _, rfl, HA.out, hb1⟩
  | true =>
    have HA := Lib.hid (show Ans z0 (textM z0) true from .inl ⟨hg, rfl, rfl⟩)
    have HK := Lib.hid (all_ok hg)
    have HT := Lib.hid (text_size z0 (all_ok hg))
    have h8 : n ≤ 10 := by have := good_len hg; have := HN.out; omega
    clear hg
    go_wp2_with fail
    go_loopw [4, 12] (fun s i wr => ∃ (k : Nat) (S : ByteArray), k ≤ n ∧ i = .int .i64 k ∧ s = .string S ∧ Hid (S = textM (z0.take k)) ∧ S.size ≤ 1600 ∧ Below w.heap.size w wr) (fun _ i _ => n - (intOf i).toNat)
    case atStart => exact ⟨0, ⟨#[]⟩, Nat.zero_le _, rfl, rfl, Lib.hid rfl, by decide, hb1⟩
    case round =>
      clear hb1
      obtain ⟨k, S, hk, rfl, rfl, HS, hS, hb⟩ := hrel
      by_cases hlt : k < n
      · have hx : k < z0.length := by have := HN.out; omega
        obtain ⟨b, o, rfl, hbl, hcell0⟩ := hc.out k z0[k] (List.getElem?_eq_getElem hx)
        obtain ⟨q0, q1, q2, q3⟩ := LAgendaItem.cells (hcell0.below LAgendaItem.rec hb hbl)
        simp only [LAgendaItem.rec_n] at q0 q1 q2 q3
        have hokx := HK.out z0[k] (List.getElem_mem hx)
        have HTN := Lib.hid (text_next z0 k hx)
        have HLn := Lib.hid (fun W (hW : Below w.heap.size w W) => AgX.itemLine z0[k] W hokx (HVP.out.below hW))
        have hl := line_size hokx
        have hz := HT.out (k + 1) (by have := HN.out; omega)
        rw [HTN.out, ← HS.out, ByteArray.size_append, ByteArray.size_append, show (⟨#[10]⟩ : ByteArray).size = 1 from rfl] at hz
        have k0 : 0 ≤ (k : Int) := by omega
        have k1 : (k : Int) < (n : Int) := by omega
        clear hcell0 hokx
        generalize z0[k] = X at *
        go_wp2_with fail
        have hb0 := hb.alloc hb.size (Obj.cells #[.int .i64 X.id, .string X.title, .int .i64 X.mins, .int .i64 X.time] 52)
        refine (HLn.out _ hb0).mono ?_
        rintro e w2 ⟨rfl, hb2⟩
        have hb3 := hb0.trans (hb2.mono hb0.size)
        have HE := Lib.hid (show S ++ (lineM X ++ ⟨#[10]⟩) = textM (z0.take (k + 1)) by rw [HTN.out, HS.out, ByteArray.append_assoc])
        have HSZ := Lib.hid (show (S ++ (lineM X ++ ⟨#[10]⟩) : ByteArray).size ≤ 1600 by rw [ByteArray.size_append, ByteArray.size_append, show (⟨#[10]⟩ : ByteArray).size = 1 from rfl]; omega)
        clear q0 q1 q2 q3 hb2 HLn
        generalize lineM X = LX at *
        go_wp2_with fail
        go_roundw
        case rel => exact ⟨k + 1, _, by omega, by go_num, rfl, HE, HSZ.out, hb3⟩
        case measure => simp [intOf]; omega
      · have hkn : z0.take k = z0 := List.take_of_length_le (by have := HN.out; omega)
        have HF := Lib.hid (show S = textM z0 by rw [HS.out, hkn])
        clear hkn
        go_wp2_with fail
        go_ret2
        exact ⟨_, _, rfl, by rw [HF.out]; exact HA.out, hb⟩
end Go.Proofs.YtgemnjimgjnlhaaGreatDoor.AgendaTextC
