/- ParseInt of the program: the number whose numeral the string is, and true; else 0 and false. -/
import Derived.Test.YtankaffhapcnaaaDoorRead
import Derived.Lib.AtoiErrMem
namespace Go.Proofs.YtankaffhapcnaaaDoor.Read
open Go.RowKit NumMath

theorem below_bytes {w w' : World} (h : w' = w ∨ ∃ t, w' = Lib.bytesWorld w 5 t) : Below w.heap.size w w' := by
  rcases h with rfl | ⟨t, rfl⟩
  · exact Below.refl _ _
  · exact Lib.bytesWorld_below w 5 t

set_option maxHeartbeats 400000 in
theorem impl_yes (s : ByteArray) (v : Int) (w : World) (h : Numeral s.data.toList v) (vp : Laid.Pow w) :
    Calls Tryd.prog 24 #[.string s] w fun e w' => e = .returned (.tuple #[.int .i64 v, .bool true]) ∧ Below w.heap.size w w' := by
  have H := Lib.hid h
  have hlen : s.size ≤ 7 := by
    have := itoa_len7 v h.1 h.2.1
    rw [h.2.2] at this
    simpa using this
  obtain ⟨h0, h1, he⟩ := h
  have he' : (⟨(Lib.itoa v).toArray⟩ : ByteArray) = s := by rw [he]
  have HE := Lib.hid he'
  have VP := Lib.hid vp
  clear vp he he'
  go_enter Tryd.func24, Tryd.ntmps24
  go_wp2_with fail
  refine (Tryd.strconv_Atoi_ok s (by omega) v H.out.atoi _).mono ?_
  rintro e w1 ⟨rfl, hw1⟩
  have hb1 := below_bytes hw1
  clear hw1
  go_wp2_with fail
  refine (Fmt.impl_yes v _ h0 h1 (VP.out.below hb1)).mono ?_
  rintro e w2 ⟨rfl, hb2⟩
  rw [HE.out]
  go_wp2_with fail
  go_ret2
  exact ⟨rfl, hb1.trans (hb2.mono hb1.size)⟩

set_option maxHeartbeats 400000 in
theorem impl_no (s : ByteArray) (w : World) (hs : s.size ≤ 281474976710656) (h : ∀ v, ¬ Numeral s.data.toList v) (vp : Laid.Pow w) (vr : Laid.Err "strconv.ErrRange" w) (vs : Laid.Err "strconv.ErrSyntax" w) :
    Calls Tryd.prog 24 #[.string s] w fun e w' => e = .returned (.tuple #[.int .i64 0, .bool false]) ∧ Below w.heap.size w w' := by
  have H := Lib.hid h
  have VP := Lib.hid vp
  clear vp h
  obtain ⟨tr, pr, er⟩ := vr
  obtain ⟨ts, ps, es⟩ := vs
  have ER := Lib.hid er
  have ES := Lib.hid es
  clear er es
  rcases ha : Lib.atoiAll s.data.toList with v | _ | _
  · have HA := Lib.hid ha
    clear ha
    have hbd := Lib.atoiAll_bounds HA.out
    by_cases hin : -999999 ≤ v ∧ v ≤ 999999
    · have he : (Lib.itoa v == s.toList) = false := by
        rw [ByteArray.toList_eq, beq_eq_false_iff_ne]
        intro e
        exact H.out v ⟨hin.1, hin.2, e⟩
      obtain ⟨h0, h1⟩ := hin
      clear hbd
      go_enter Tryd.func24, Tryd.ntmps24
      go_wp2_with fail
      refine (Tryd.strconv_Atoi_ok s (by omega) v HA.out _).mono ?_
      rintro e w1 ⟨rfl, hw1⟩
      have hb1 := below_bytes hw1
      clear hw1
      go_wp2_with fail
      refine (Fmt.impl_yes v _ h0 h1 (VP.out.below hb1)).mono ?_
      rintro e w2 ⟨rfl, hb2⟩
      go_wp2_with fail
      go_ret2
      exact ⟨rfl, hb1.trans (hb2.mono hb1.size)⟩
    · have HIN := Lib.hid hin
      clear hin
      obtain ⟨b0, b1⟩ := hbd
      go_enter Tryd.func24, Tryd.ntmps24
      go_wp2_with fail
      refine (Tryd.strconv_Atoi_ok s (by omega) v HA.out _).mono ?_
      rintro e w1 ⟨rfl, hw1⟩
      have hb1 := below_bytes hw1
      clear hw1
      go_wp2_with fail
      refine (Fmt.impl_no v _ HIN.out).mono ?_
      rintro e w2 ⟨rfl, rfl⟩
      go_wp2_with fail
      go_ret2
      exact ⟨rfl, hb1⟩
  · have HA := Lib.hid ha
    clear ha
    go_enter Tryd.func24, Tryd.ntmps24
    go_wp2_with fail
    refine (Tryd.strconv_Atoi_syntax_var s hs HA.out ts ps _ ES.out).mono ?_
    rintro e w1 ⟨N, rfl, _, _, hb1⟩
    go_wp2_with fail
    go_ret2
    exact ⟨rfl, hb1⟩
  · have HA := Lib.hid ha
    clear ha
    go_enter Tryd.func24, Tryd.ntmps24
    go_wp2_with fail
    refine (Tryd.strconv_Atoi_range_var s hs HA.out tr pr _ ER.out).mono ?_
    rintro e w1 ⟨N, rfl, _, _, hb1⟩
    go_wp2_with fail
    go_ret2
    exact ⟨rfl, hb1⟩
end Go.Proofs.YtankaffhapcnaaaDoor.Read
