/- laws.vAt, laws.vBig; one byte turned by xor. -/
import Derived.Test.YtlenpaeaaobhhaaDoorDraw
import Derived.Laws.BitsAllLaws
import Derived.Lib.ConvBytes
namespace Go.Proofs.YtlenpaeaaobhhaaDoor.VAt
open Go.RowKit Cur
set_option linter.unusedVariables false

theorem vBig (a : Option Addr) (len cap : Nat) (w : World) (r : Bool) (hr : decide ((65536 : Int) < (len : Int)) = r) : Calls Tryd.prog 8 #[.slice a len cap] w fun e w' => e = .returned (.bool r) ∧ w = w' := by
  subst hr
  go_enter Tryd.func8, Tryd.ntmps8
  go_wp2_with fail
  go_ret
  exact ⟨rfl, rfl⟩
set_option maxHeartbeats 400000 in
theorem vAt (a : Option Addr) (len cap : Nat) (zs : List Int) (w : World) (h : Frame.IsRow .u8 w a len cap zs) (hl : len ≤ 65536) (i : Nat) (hi : i ≤ 100) :
    ∃ r : Int, 0 ≤ r ∧ r ≤ 255 ∧ ∀ W : World, W.heap = w.heap → Calls Tryd.prog 19 #[.slice a len cap, .int .i64 i] W fun e w' => e = .returned (.int .i64 r) ∧ w' = W := by
  by_cases hlt : i < len
  · rcases h with ⟨_, h0, _⟩ | ⟨x, rfl, h1, h2, h3, h4, h5⟩
    · omega
    · obtain ⟨b, off, spot⟩ := x
      have hspot : spot = none := by simpa [Addr.add] using World.cell?_spot (h4 0 (by omega))
      subst hspot
      have hz := h4 i (by omega)
      have hw := h5 (zs.getD i 0) (by rw [List.getD_eq_getElem?_getD, List.getElem?_eq_getElem (by omega)]; exact List.getElem_mem _)
      obtain ⟨z0, z1⟩ := bounds_u8 hw
      rw [show ((⟨b, off, none⟩ : Addr).add i) = ⟨b, off + i, none⟩ from Go.WideShapes.add_plain b off i] at hz
      generalize zs.getD i 0 = z at *
      refine ⟨z, z0, z1, fun W hW => ?_⟩
      have hcell : W.cell? ⟨b, off + i, none⟩ = some (.int .u8 z) := by rw [World.cell?_of_block (w := w) (by rw [hW])]; exact hz
      have hwr : IntKind.i64.wrap z = z := IntWalk.i64_in _ (by omega)
      clear h4 h5 hz hw hW h1 h2 h3
      go_enter Tryd.func19, Tryd.ntmps19
      go_wp2_with fail
      go_ret
      exact ⟨rfl, rfl⟩
  · refine ⟨((i : Int) * 7 + len) % 256, by omega, by omega, fun W _ => ?_⟩
    clear h
    go_enter Tryd.func19, Tryd.ntmps19
    go_wp2_with fail
    go_ret
    exact ⟨rfl, rfl⟩

theorem xor_ne (a : UInt8) (d : Int) (h0 : 1 ≤ d) (h1 : d ≤ 255) : ∃ v : UInt8, v ≠ a ∧ bits BinOp.xor IntKind.u8 (a.toNat : Int) d = (v.toNat : Int) := by
  obtain ⟨m, rfl⟩ := Int.eq_ofNat_of_zero_le (show 0 ≤ d by omega)
  have ht : (a ^^^ UInt8.ofNat m).toNat = a.toNat ^^^ m := by
    rw [UInt8.toNat_xor, UInt8.toNat_ofNat', Nat.mod_eq_of_lt (by omega)]
  refine ⟨a ^^^ UInt8.ofNat m, ?_, ?_⟩
  · intro e
    rw [e] at ht
    have h2 := congrArg (fun t => a.toNat ^^^ t) ht
    simp only [Nat.xor_self] at h2
    rw [← Nat.xor_assoc, Nat.xor_self, Nat.zero_xor] at h2
    omega
  · rw [ht]
    exact u8_xor_nat a.toNat m a.toNat_lt (by omega)

/-- the bytes of a string in new memory: not frozen, and what a store leaves -/
theorem bytes_frozen (w : World) (e : TypeId) (s : ByteArray) (j : Nat) (hj : j < s.size) : (Lib.bytesWorld w e s).frozen? ⟨w.heap.size, j, none⟩ = false := by
  have h := Lib.bytesWorld_at_new w e s
  have hs : s.size ≤ (Lib.bytesCells w e s).size := by unfold Lib.bytesCells; rw [Array.size_append, Array.size_map]; exact Nat.le_add_right _ _
  simp [World.frozen?, h]
  omega
end Go.Proofs.YtlenpaeaaobhhaaDoor.VAt
