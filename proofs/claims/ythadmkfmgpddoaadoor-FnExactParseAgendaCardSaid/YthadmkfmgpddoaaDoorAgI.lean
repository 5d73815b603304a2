/- Agendas: the program's test of a list. No condition but that titles are no longer than strings can be. -/
import Derived.Test.YthadmkfmgpddoaaDoorAgG
import Derived.Test.YthadmkfmgpddoaaDoorAgF
namespace Go.Proofs.YthadmkfmgpddoaaDoor.AgI
open Go.RowKit Bs Word Ag AgG AgF Sq
set_option linter.unusedVariables false
theorem valid_as (r : M) (v : Bool) (h : okB r = v) (hs : r.title.size ≤ maxLen) (w : World) :
    Calls Tryd.prog 29 #[.agg #[.int .i64 r.id, .string r.title, .int .i64 r.mins, .int .i64 r.time]] w fun e w' => e = .returned (.bool v) ∧ Below w.heap.size w w' := by
  subst h; exact isValidItem r w hs
def StepV (xs : List M) (i : Nat) (v : Bool) : Prop := (v = true → goodB xs = false) ∧ (v = false → Step xs i)
set_option maxRecDepth 100000 in
set_option maxHeartbeats 1600000 in
theorem isValidAgenda (v : Value) (xs : List M) (w : World) (h : Is LAgendaItem.rec w v xs) (hsz : ∀ x ∈ xs, LAgendaItem.Fine x) :
    Calls Tryd.prog 14 #[v] w (Post xs w) := by
  obtain ⟨a, cp, rfl, h⟩ := h
  have hc := h.at_ LAgendaItem.rec
  have HR := Lib.hid h
  obtain ⟨n, hn⟩ : ∃ n, n = xs.length := ⟨_, rfl⟩
  have hnb : n ≤ cp := by have := h.1; omega
  have h2 := h.2.1
  unfold maxLen at h2
  have HN := Lib.hid hn.symm
  have HSZ := Lib.hid hsz
  rw [← hn]
  have hle : n ≤ xs.length := by omega
  clear hn h hsz
  by_cases h8 : n ≤ 10
  · go_enter Tryd.func14, Tryd.ntmps14
    go_wp2_with fail
    go_loopw [10] (fun i wr => ∃ k : Nat, k ≤ n ∧ i = .int .i64 k ∧ Below w.heap.size w wr ∧ Hid (∀ i, i < k → Step xs i)) (fun i _ => n - (intOf i).toNat)
    case atStart => exact ⟨0, Nat.zero_le _, rfl, Below.refl _ _, Lib.hid (fun i hi => by omega)⟩
    case round =>
      obtain ⟨k, hk, rfl, hb, HS⟩ := hrel
      by_cases hlt : k < n
      · have hx : k < xs.length := by omega
        obtain ⟨b, o, rfl, hbl, hcell0⟩ := hc.out k xs[k] (List.getElem?_eq_getElem hx)
        obtain ⟨q0, q1, q2, q3⟩ := LAgendaItem.cells (hcell0.below LAgendaItem.rec hb hbl)
        simp only [LAgendaItem.rec_n] at q0 q1 q2 q3
        have hxs := Lib.hid (HSZ.out xs[k] (List.getElem_mem hx))
        have HX := Lib.hid (List.getElem?_eq_getElem hx)
        clear hcell0
        generalize xs[k] = X at *
        go_wp2_with fail
        have HBX := Lib.hid (LAgendaItem.box wr X 31)
        have hba := hb.alloc hb.size (Obj.cells #[.int .i64 X.id, .string X.title, .int .i64 X.mins, .int .i64 X.time] 31)
        have hGq : wr.heap.size < (wr.alloc (Obj.cells #[.int .i64 X.id, .string X.title, .int .i64 X.mins, .int .i64 X.time] 31)).heap.size := by simp
        clear q0 q1 q2 q3
        generalize wr.alloc (Obj.cells #[.int .i64 X.id, .string X.title, .int .i64 X.mins, .int .i64 X.time] 31) = wq at *
        have hGl : w.heap.size ≤ wr.heap.size := hb.size
        generalize wr.heap.size = G at *
        clear hb
        have HT := Lib.hid (show ∀ W, Below w.heap.size w W → Is LAgendaItem.rec W (.slice (some ⟨b, o, none⟩) k cp) (xs.take k) from fun W hW => is_take (HR.out.below LAgendaItem.rec hW) (Nat.lt_of_lt_of_le hbl hW.size) (by omega))
        go_cut [26] (fun t wx => ∃ v : Bool, t = .bool v ∧ Hid (StepV xs k v) ∧ Below wq.heap.size wq wx)
        case first =>
          have HG := LAgendaItem.grown HBX.out hGq
          have c0 := fun d os => (LAgendaItem.cells0 (HG.out d os)).1
          have c1 := fun d os => (LAgendaItem.cells0 (HG.out d os)).2.1
          have c2 := fun d os => (LAgendaItem.cells0 (HG.out d os)).2.2.1
          have c3 := fun d os => (LAgendaItem.cells0 (HG.out d os)).2.2.2
          have k0 : 0 ≤ (k : Int) := by omega
          have k1 : (k : Int) < (n : Int) := by omega
          have k2 : (k : Int) ≤ (cp : Int) := by omega
          have k3 : k ≤ cp := by omega
          have HII := Lib.hid (fun (d : Nat) (os : Array Obj) => itemIndex _ _ X.id (Sort.grow (redrawn wq d) os) (HT.out (Sort.grow (redrawn wq d) os) (hba.trans ((below_regrown wq d os).mono hba.size))))
          cases hok : okB X with
          | false =>
            have HV := Lib.hid (show StepV xs k true from ⟨fun _ => no_ok HX.out hok, fun e => by cases e⟩)
            have HC := Lib.hid (fun W => valid_as X false hok hxs.out W)
            clear hok
            refine wp_region_quiet_below (by kernel_rfl) (by kernel_rfl) ?_
            repeat (go_big_quiet_step ((first | (go_at_call 29; exact Calls.regrown_of (HC.out _)) | (go_at_call 31; exact Calls.regrown_of (HII.out _ _)))))
            refine wpQuiet_nil ?_
            intro _ hw'
            obtain ⟨⟨dq, osq⟩, hw''⟩ := hw'
            subst hw''
            go_wp2_with fail
            go_meet
            exact ⟨true, rfl, HV, below_regrown _ _ _⟩
          | true =>
            have HC := Lib.hid (fun W => valid_as X true hok hxs.out W)
            cases hi : idx (xs.take k) X.id with
            | some j =>
              have HV := Lib.hid (show StepV xs k true from ⟨fun _ => by obtain ⟨q, hj, hq, he⟩ := idx_take_some hi; exact no_clash HX.out hj hq (by unfold clash; rw [he]; simp), fun e => by cases e⟩)
              have e2 : decide (0 ≤ ix (idx (xs.take k) X.id)) = true := by rw [hi]; unfold ix; simp
              clear hok hi
              generalize ix (idx (xs.take k) X.id) = J at *
              refine wp_region_quiet_below (by kernel_rfl) (by kernel_rfl) ?_
              repeat (go_big_quiet_step ((first | (go_at_call 29; exact Calls.regrown_of (HC.out _)) | (go_at_call 31; exact Calls.regrown_of (HII.out _ _)))))
              refine wpQuiet_nil ?_
              intro _ hw'
              obtain ⟨⟨dq, osq⟩, hw''⟩ := hw'
              subst hw''
              go_wp2_with fail
              go_meet
              exact ⟨true, rfl, HV, below_regrown _ _ _⟩
            | none =>
              have HV := Lib.hid (show StepV xs k false from ⟨fun e => by (cases e), fun _ => step_mk HX.out ⟨X, HX.out, hok⟩ (fun j q hj hq => idx_take_none hi j q hj hq)⟩)
              have e2 : decide (0 ≤ ix (idx (xs.take k) X.id)) = false := by rw [hi]; unfold ix; simp
              clear hok hi
              generalize ix (idx (xs.take k) X.id) = J at *
              refine wp_region_quiet_below (by kernel_rfl) (by kernel_rfl) ?_
              repeat (go_big_quiet_step ((first | (go_at_call 29; exact Calls.regrown_of (HC.out _)) | (go_at_call 31; exact Calls.regrown_of (HII.out _ _)))))
              refine wpQuiet_nil ?_
              intro _ hw'
              obtain ⟨⟨dq, osq⟩, hw''⟩ := hw'
              subst hw''
              go_wp2_with fail
              go_meet
              exact ⟨false, rfl, HV, below_regrown _ _ _⟩
        case rest =>
          obtain ⟨v, rfl, HV, hbv⟩ := hcut
          have hb2 := hba.trans (hbv.mono hba.size)
          cases v with
          | true =>
            have HB := Lib.hid (show goodB xs = false from HV.out.1 rfl)
            go_wp2_with fail
            go_ret
            exact bad HB.out hb2
          | false =>
            have HST := Lib.hid (steps_next HS.out (HV.out.2 rfl))
            go_wp2_with fail
            go_roundw
            case rel => exact ⟨k + 1, by omega, by go_num, hb2, HST⟩
            case measure => simp [intOf]; omega
      · obtain rfl : k = n := by omega
        have HB := Lib.hid (good_yes (xs := xs) ⟨by rw [HN.out]; exact h8, fun i hi => HS.out i (by rw [HN.out] at hi; exact hi)⟩)
        go_wp2_with fail
        go_ret
        exact ⟨by rw [HB.out]; exact ret_bool rfl, hb⟩
  · have HB := Lib.hid (no_len (xs := xs) (by have := HN.out; omega))
    go_enter Tryd.func14, Tryd.ntmps14
    go_wp2_with fail
    go_ret
    exact bad HB.out (Below.refl _ _)
end Go.Proofs.YthadmkfmgpddoaaDoor.AgI
