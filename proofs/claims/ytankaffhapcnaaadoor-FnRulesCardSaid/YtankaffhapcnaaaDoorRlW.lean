/- FnRules: what the law compares. Plain mathematics. -/
import Derived.Test.YtankaffhapcnaaaDoorParseRulesC
import Derived.Test.YtankaffhapcnaaaDoorLineI
import Derived.Test.YtankaffhapcnaaaDoorText
namespace Go.Proofs.YtankaffhapcnaaaDoor.RlW
open Go Go.RowKit
set_option linter.unusedVariables false
theorem line_short {r : LRule.R} {s : ByteArray} {ok : Bool} (h : LineI.Ans r s ok) : s.size ≤ 54 ∧ Rule.okB r = ok := by
  rcases h with ⟨g, rfl, rfl⟩ | ⟨g, rfl, rfl⟩
  · exact ⟨PRule.line_len g, g⟩
  · exact ⟨Nat.zero_le _, g⟩
/-- a valid rule's line is read back -/
theorem line_back {r p : LRule.R} {s : ByteArray} {fine : Bool} (h : LineI.Ans r s true) (g : PRule.Ans s p fine) : fine = true ∧ p = r := by
  rcases h with ⟨h1, rfl, _⟩ | ⟨_, _, h⟩
  · obtain ⟨e1, e2⟩ := g.same (show PRule.Ans (Line.lineB r) r true from .inl ⟨rfl, h1, rfl⟩)
    exact ⟨e2, e1⟩
  · cases h
/-- a text that is read is its rule's -/
theorem line_forth {p : LRule.R} {u v : ByteArray} {told : Bool} (h : PRule.Ans u p true) (g : LineI.Ans p v told) : told = true ∧ v = u := by
  rcases h with ⟨_, h2, h3⟩ | ⟨⟨h1, _⟩, _⟩
  · rcases g with ⟨_, g2, g3⟩ | ⟨g1, _⟩
    · exact ⟨g3, by rw [g2, h3]⟩
    · rw [h2] at g1; cases g1
  · cases h1
theorem name_short {u : ByteArray} {p : LRule.R} {ok : Bool} (h : PRule.Ans u p ok) : p.name.size ≤ 10 := by
  rcases h with ⟨_, h2, _⟩ | ⟨⟨_, rfl⟩, _⟩
  · have := Line.ok_parts h2; omega
  · exact Nat.zero_le _
theorem text_short {z : List LRule.R} {s : ByteArray} {ok : Bool} (h : Text.Ans z s ok) : s.size ≤ 700 ∧ Gd.goodB z = ok := by
  rcases h with ⟨g, rfl, rfl⟩ | ⟨g, rfl, rfl⟩
  · exact ⟨(PRules.found g rfl).1, g⟩
  · exact ⟨Nat.zero_le _, g⟩
theorem text_back {z y : List LRule.R} {s : ByteArray} {two : Bool} (h : Text.Ans z s true) (g : PRules.Ans s y two) : two = true ∧ y = z := by
  rcases h with ⟨h1, rfl, _⟩ | ⟨_, _, h⟩
  · obtain ⟨e1, e2⟩ := PRules.same g (PRules.ans_yes h1 rfl)
    exact ⟨e2, e1⟩
  · cases h
end Go.Proofs.YtankaffhapcnaaaDoor.RlW
