/- JoinStrings of the model and of the program: one result, whatever the slice and the separator. -/
import Derived.Test.YtlenpaeaaobhhaaJoin
namespace Go.Proofs.Ytlenpaeaaobhhaa.Join
open Go.RowKit JoinMath Strs

def Res (xs : List ByteArray) (sep r : ByteArray) (ok : Bool) : Prop :=
  (∃ c, sep = ⟨#[c]⟩ ∧ Fit (L xs) c ∧ r = jn xs c ∧ ok = true) ∨ ((∀ c, sep = ⟨#[c]⟩ → ¬ Fit (L xs) c) ∧ r = ⟨#[]⟩ ∧ ok = false)
theorem one_byte {s : ByteArray} (h : s.size = 1) : ∃ c, s = ⟨#[c]⟩ := by
  obtain ⟨d⟩ := s
  have hd : d.size = 1 := h
  exact ⟨d[0], by congr 1; apply Array.ext; simpa using hd; intro i h1 h2; have : i = 0 := by omega
                  subst this; rfl⟩
theorem one_inj {c d : UInt8} (h : (⟨#[c]⟩ : ByteArray) = ⟨#[d]⟩) : c = d := by
  have := congrArg (fun b : ByteArray => b.data.toList) h
  simpa using this
theorem Res.uniq {xs : List ByteArray} {sep r r' : ByteArray} {ok ok' : Bool} (h : Res xs sep r ok) (h' : Res xs sep r' ok') : r' = r ∧ ok' = ok := by
  rcases h with ⟨c, rfl, hf, rfl, rfl⟩ | ⟨hf, rfl, rfl⟩ <;> rcases h' with ⟨c', e, hf', rfl, rfl⟩ | ⟨hf', rfl, rfl⟩
  · obtain rfl := one_inj e; exact ⟨rfl, rfl⟩
  · exact absurd hf (hf' c rfl)
  · subst e; exact absurd hf' (hf c' rfl)
  · exact ⟨rfl, rfl⟩
def RJ (xs : List ByteArray) (sep : ByteArray) (w : World) (e : Ending) (w' : World) : Prop :=
  ∃ r ok, e = .returned (.tuple #[.string r, .bool ok]) ∧ Res xs sep r ok ∧ Below w.heap.size w w'
theorem RJ.none {xs : List ByteArray} {sep : ByteArray} (n : Nat) (hn : xs.length = n) (h : sep.size ≠ 1 ∨ n = 0) {w w' : World} {e : Ending} (he : e = .returned (.tuple #[.string ⟨#[]⟩, .bool false]) ∧ w = w') : RJ xs sep w e w' := by
  obtain ⟨rfl, rfl⟩ := he
  refine ⟨_, _, rfl, .inr ⟨fun c hc hf => ?_, rfl, rfl⟩, Below.refl _ _⟩
  rcases h with h | h
  · exact h (by rw [hc]; rfl)
  · have := List.length_eq_zero_iff.1 (hn.trans h)
    subst this
    exact hf.1 rfl
theorem RJ.full {xs : List ByteArray} {c : UInt8} {w w' : World} {e : Ending} (h : PJ xs c w e w') : RJ xs ⟨#[c]⟩ w e w' := by
  obtain ⟨h, hb⟩ := h
  rcases h with ⟨hf, rfl⟩ | ⟨hf, rfl⟩
  · exact ⟨_, _, rfl, .inl ⟨c, rfl, hf, rfl, rfl⟩, hb⟩
  · exact ⟨_, _, rfl, .inr ⟨fun d hd => by rw [← one_inj hd]; exact hf, rfl, rfl⟩, hb⟩

theorem spec_any (a : Option Addr) (n cp : Nat) (xs : List ByteArray) (sep : ByteArray) (w : World) (hn : xs.length = n) (h : StrsAt w a cp xs) (hs : ∀ x ∈ xs, x.size ≤ 1048576) :
    Calls Try.prog 13 #[.slice a n cp, .string sep] w (RJ xs sep w) := by
  by_cases h1 : sep.size ≠ 1 ∨ n = 0
  · exact (spec_none a n cp sep w h1).mono fun _ _ he => RJ.none n hn h1 he
  · obtain ⟨c, rfl⟩ := one_byte (s := sep) (by omega)
    obtain ⟨h2, h3, h4⟩ := h
    rcases h4 with rfl | ⟨b, o, rfl, hl, hc⟩
    · exact absurd (.inr hn.symm) h1
    · exact (spec_full b o n cp xs c w hn (by omega) (by omega) h3 hs hl hc).mono fun _ _ he => RJ.full he
theorem impl_any (a : Option Addr) (n cp : Nat) (xs : List ByteArray) (sep : ByteArray) (w : World) (hn : xs.length = n) (h : StrsAt w a cp xs) (hn2 : n ≤ 1048576) (hs : ∀ x ∈ xs, x.size ≤ 1048576) :
    Calls Try.prog 12 #[.slice a n cp, .string sep] w (RJ xs sep w) := by
  by_cases h1 : sep.size ≠ 1 ∨ n = 0
  · exact (impl_none a n cp sep w h1).mono fun _ _ he => RJ.none n hn h1 he
  · obtain ⟨c, rfl⟩ := one_byte (s := sep) (by omega)
    obtain ⟨h2, h3, h4⟩ := h
    rcases h4 with rfl | ⟨b, o, rfl, hl, hc⟩
    · exact absurd (.inr hn.symm) h1
    · exact (impl_full b o n cp xs c w hn (by omega) (by omega) hn2 hs hl hc).mono fun _ _ he => RJ.full he
end Go.Proofs.Ytlenpaeaaobhhaa.Join
