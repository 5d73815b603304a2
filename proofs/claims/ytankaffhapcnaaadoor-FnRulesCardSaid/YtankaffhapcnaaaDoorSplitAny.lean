/- SplitString of the model and of the program: one result. -/
import Derived.Test.YtankaffhapcnaaaDoorSplitS
import Derived.Test.YtankaffhapcnaaaDoorJ1
namespace Go.Proofs.YtankaffhapcnaaaDoor.Elems
open Go.RowKit SplitMath

def bs (l : List (List UInt8)) : List ByteArray := l.map fun x => ⟨x.toArray⟩
theorem bs_len (l : List (List UInt8)) : (bs l).length = l.length := by simp [bs]
theorem vals_bs (l : List (List UInt8)) : vals l = (bs l).map Value.string := by unfold vals bs; rw [List.map_map]; rfl
theorem vals_split (l : List (List UInt8)) : Split.vals l = vals l := rfl
def SplitRes (w : World) (l : List (List UInt8)) (ok : Bool) (e : Ending) (W' : World) : Prop :=
  ∃ g cap, e = .returned (.tuple #[.slice (some ⟨g, 0, none⟩) l.length cap, .bool ok]) ∧ l.length ≤ cap ∧ W'.ownsRow w.heap.size 9 1 (.slice (some ⟨g, 0, none⟩) l.length cap) l.length (vals l) ∧ Below w.heap.size w W'
theorem cap_of {w : World} {b g n c : Nat} {xs : List Value} (h : w.ownsRow b 9 1 (.slice (some ⟨g, 0, none⟩) n c) n xs) : n ≤ c := by
  rcases h.2 with ⟨h', _⟩ | ⟨g', cap', cur, h', _, _, hnc, _, _, _⟩
  · simp at h'
  · simp only [Value.slice.injEq, Option.some.injEq, Addr.mk.injEq, and_true, true_and] at h'
    obtain ⟨_, rfl⟩ := h'
    exact hnc
theorem res_of {w W' : World} {l : List (List UInt8)} {v : Value} {ok : Bool} {e : Ending} (hl : 0 < l.length) (he : e = .returned (.tuple #[v, .bool ok])) (ho : W'.ownsRow w.heap.size 9 1 v l.length (vals l)) (hb : Below w.heap.size w W') : SplitRes w l ok e W' := by
  rcases ho.2 with ⟨_, h0⟩ | ⟨g, cap, _, rfl, _⟩
  · omega
  · exact ⟨g, cap, he, cap_of ho, ho, hb⟩
theorem split_pos (l : List UInt8) (c : UInt8) : 0 < (splitOf l c).length := by simp [splitOf]

theorem impl_res (s : ByteArray) (c : UInt8) (hs : s.size ≤ 4000) (w : World) : Calls Tryd.prog 23 #[.string s, .string ⟨#[c]⟩] w (SplitRes w (splitOf s.data.toList c) true) :=
  (split_yes s c hs w).mono fun _ _ ⟨_, he, ho, hb⟩ => res_of (split_pos _ _) he ho hb
theorem impl_bad (s sep : ByteArray) (h : 4000 < s.size ∨ sep.size ≠ 1) (hm : s.size ≤ maxLen) (w : World) : Calls Tryd.prog 23 #[.string s, .string sep] w (SplitRes w [] false) := by
  unfold maxLen at hm
  by_cases h1 : 4000 < s.size
  · clear h
    go_enter Tryd.func23, Tryd.ntmps23
    go_wp2_with fail
    go_ret2
    exact ⟨_, _, rfl, Nat.le_refl _, owns_start w, (Below.refl _ _).alloc (Nat.le_refl _) _⟩
  · have h2 : ((sep.size : Int) != 1) = true := by rcases h with h | h; exact absurd h h1; rw [bne_iff_ne]; omega
    have h3 : ((sep.size : Int) == 1) = false := by simpa [bne] using h2
    have h1' : s.size ≤ 4000 := by omega
    clear h h1
    go_enter Tryd.func23, Tryd.ntmps23
    go_wp2_with fail
    go_ret2
    exact ⟨_, _, rfl, Nat.le_refl _, owns_start w, (Below.refl _ _).alloc (Nat.le_refl _) _⟩

end Go.Proofs.YtankaffhapcnaaaDoor.Elems
