/- The draw of a word. No condition. -/
import Derived.Test.YtankaffhapcnaaaDoorLive
namespace Go.Proofs.YtankaffhapcnaaaDoor.Draw
open Go.RowKit Cur Bs
set_option linter.unusedVariables false
def words : List ByteArray := [⟨#[109, 97, 105, 110]⟩, ⟨#[116, 97, 98, 108, 101]⟩, ⟨#[97, 100, 106, 111, 117, 114, 110]⟩, ⟨#[97, 109, 101, 110, 100]⟩, ⟨#[114, 101, 99, 101, 115, 115]⟩, ⟨#[114, 101, 102, 101, 114]⟩, ⟨#[108, 105, 109, 105, 116]⟩, ⟨#[99, 97, 108, 108]⟩, ⟨#[97]⟩, ⟨#[98, 121, 108, 97, 119, 115]⟩]
set_option maxHeartbeats 400000 in
theorem word (B m : Nat) (w : World) (h : Cur w B m) (hm : m < 900000) : Calls Tryd.prog 48 #[.pointer (some ⟨B, 0, none⟩)] w (Str w B (m + 2) 10) := by
  have HC := Lib.hid h
  clear h
  go_enter Tryd.func48, Tryd.ntmps48
  go_wp2_with fail
  refine (of_lit B m words w HC.out hm (by decide) (by decide)).mono ?_
  rintro e w1 ⟨x, hx, rfl, hc1, hg1⟩
  have hs := small_of words 10 (by decide +kernel) x hx
  have HC1 := Lib.hid hc1
  clear hc1 hx HC
  go_wp2_with fail
  go_ret
  exact ⟨x, rfl, hs, HC1.out, hg1⟩
end Go.Proofs.YtankaffhapcnaaaDoor.Draw
