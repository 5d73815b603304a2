/- Proposals applied together: the program's list, cloned and sorted. No condition. -/
import Derived.Test.YtclpdpfnlmfogaaDoorCfT
import Derived.Test.YtclpdpfnlmfogaaDoorLPropHSortTog
import Derived.Test.YtclpdpfnlmfogaaDoorLPropHK
import Derived.Test.YtclpdpfnlmfogaaDoorAppO
import Derived.Test.YtclpdpfnlmfogaaDoorAppN
import Derived.Test.YtclpdpfnlmfogaaDoorLProposalSD
import Derived.Test.YtclpdpfnlmfogaaDoorJ1
namespace Go.Proofs.YtclpdpfnlmfogaaDoor.CfZ
open Go.RowKit Bs Word Am AmA AmG Cf  CfM CfH CfT CfQ Srt
set_option linter.unusedVariables false
def mk (q : P × LPropH.Hdr) : LPropH.R := ⟨q.1.id, q.1.kind, q.1.pos, q.1.count, q.2, q.1.weight⟩
abbrev hdq (q : P × LPropH.Hdr) : Hd 6 := LProposalS.hd q.1 q.2.a q.2.l q.2.c
theorem pair_up {W : World} : ∀ (hs : List (Hd 6)) (xs : List P), Els LProposalS.kit (LProposalS.kit.IsQ W) hs xs → ∃ pr : List (P × LPropH.Hdr), xs = pr.map Prod.fst ∧ hs = pr.map hdq ∧ ∀ q ∈ pr, Bs.IsQ LString.rec W (.slice q.2.a q.2.l q.2.c) q.1.words
  | [], [], _ => ⟨[], rfl, rfl, fun q hq => by cases hq⟩
  | [], x :: xs, h => by have := h.1; simp at this
  | u :: hs, [], h => by have := h.1; simp at this
  | u :: hs, x :: xs, h => by
    obtain ⟨pr, e1, e2, e3⟩ := pair_up hs xs ⟨by have := h.1; simpa using this, fun i a b ha hb => h.2 (i + 1) a b (by simpa using ha) (by simpa using hb)⟩
    obtain ⟨s, he, hq⟩ := h.2 0 u x rfl rfl
    obtain ⟨a, l, c, rfl⟩ := isq_slice hq
    have hu : u = hdq (x, ⟨a, l, c⟩) := Subtype.ext (LProposalS.val_eq he)
    refine ⟨(x, ⟨a, l, c⟩) :: pr, by rw [List.map_cons, ← e1], by rw [List.map_cons, ← e2, ← hu], fun q hqm => ?_⟩
    rcases List.mem_cons.1 hqm with rfl | hqm
    · exact hq
    · exact e3 q hqm
theorem heads {W : World} {v : Value} {z : List P} (h : LProposalS.IsS W v z) : ∃ pr : List (P × LPropH.Hdr), z = pr.map Prod.fst ∧ IsS LPropH.rec W v (pr.map mk) ∧ ∀ q ∈ pr, Bs.IsQ LString.rec W (.slice q.2.a q.2.l q.2.c) q.1.words := by
  obtain ⟨hs, hI, hE⟩ := h
  obtain ⟨pr, e1, e2, e3⟩ := pair_up hs z hE
  refine ⟨pr, e1, ?_, e3⟩
  subst e2
  obtain ⟨b, o, c, hv, hb, hl, hm, hat⟩ := hI
  refine ⟨b, o, c, by rw [hv, List.length_map, List.length_map], hb, by rw [List.length_map] at hl ⊢; exact hl, hm, fun j r hr => ?_⟩
  rw [List.getElem?_map] at hr
  cases e : pr[j]? with
  | none => rw [e] at hr; cases hr
  | some q =>
    rw [e] at hr
    obtain rfl := Option.some.inj hr
    have h := hat j (hdq q) (by rw [List.getElem?_map, e]; rfl)
    exact fun i u hu => h i u hu
def ltQ (a b : P × LPropH.Hdr) : Bool := ltP a.1 b.1
theorem srt_mk (pr : List (P × LPropH.Hdr)) : srt LPropHSortTog.lt (pr.map mk) = (srt ltQ pr).map mk := srt_map mk (fun _ _ => rfl) pr
theorem srt_fst (pr : List (P × LPropH.Hdr)) : srt ltP (pr.map Prod.fst) = (srt ltQ pr).map Prod.fst := srt_map Prod.fst (fun _ _ => rfl) pr
theorem mem_fin : ∀ (S : List P) (t : T) (x : ByteArray), x ∈ fin t S → x ∈ t ∨ ∃ p ∈ S, x ∈ p.words
  | [], t, x, h => .inl h
  | y :: S, t, x, h => by
    rcases mem_fin S (CfT.splice t y) x h with h | ⟨p, hp, h⟩
    · unfold CfT.splice at h
      rw [List.mem_append, List.mem_append] at h
      rcases h with (h | h) | h
      · exact .inl (List.mem_of_mem_take h)
      · exact .inr ⟨y, List.mem_cons_self, h⟩
      · exact .inl (List.mem_of_mem_drop h)
    · exact .inr ⟨p, List.mem_cons_of_mem _ hp, h⟩
theorem fin_fine {t : T} {z S : List P} (h : ∀ x ∈ S, x ∈ z) (f0 : ∀ x ∈ t, LString.Fine x) (f1 : ∀ x ∈ z, LProposalS.Fine x) : ∀ x ∈ fin t S, LString.Fine x := fun x hx => by
  rcases mem_fin S t x hx with hx | ⟨p, hp, hx⟩
  · exact f0 x hx
  · exact f1 p (h p hp) x hx
theorem free_pairs {t : T} {z : List P} (h : propsB t z = true) : (pairs z).length = 0 ↔ freeL z = true := by
  rw [pairs_free, free_iff]
  constructor
  · intro h1 i k hk hi
    rw [cf_symm (props_good h)]
    exact h1 k i hk hi
  · intro h1 i j hij hj
    rw [cf_symm (props_good h)]
    exact h1 j i hij hj
set_option maxRecDepth 100000 in
set_option maxHeartbeats 1600000 in
theorem cloneS (b o n c : Nat) (xs : List LPropH.R) (w : World) (h : IsS LPropH.rec w (.slice (some ⟨b, o, none⟩) n c) xs) (h8 : n ≤ 8) :
    Calls Tryd.prog 64 #[.slice (some ⟨b, o, none⟩) n c] w fun e w' => ∃ g cap, e = .returned (.slice (some ⟨g, 0, none⟩) n cap) ∧ Own LPropH.rec 42 w' w.heap.size (.slice (some ⟨g, 0, none⟩) n cap) xs ∧ Below w.heap.size w w' := by
  have HN := Lib.hid (isq_len (T := LPropH.rec) (.inr h)).1
  obtain ⟨i0, hi, hz0, hz1, hz2⟩ := info_parts LPropH.infoK
  have HI := Lib.hid hi
  have HZ := Lib.hid (And.intro hz0 (And.intro hz1 hz2))
  have heq := fun W => Lib.run_eql_slice_nil (P := Tryd.prog) W 34 42 (some ⟨b, o, none⟩) n c 0 0 Tryd.underlying34
  obtain ⟨wa, hwa⟩ : ∃ wa : World, wa = w.alloc (.cells #[] 42) := ⟨_, rfl⟩
  have hba : Below w.heap.size w wa := by rw [hwa]; exact (Below.refl w.heap.size w).alloc (Nat.le_refl _) _
  have HF := Lib.hid (isS_feeds (IsS.below _ h hba))
  have HO := Lib.hid (show Own LPropH.rec 42 wa w.heap.size (.slice (some ⟨w.heap.size, 0, none⟩) 0 0) [] by rw [hwa]; exact own_start (Nat.le_refl _))
  subst hwa
  clear hi hz0 hz1 hz2 h
  go_enter Tryd.func64, Tryd.ntmps64
  go_wp2_with (at_builtin; refine wpList_append_o (T := LPropH.rec) _ rfl (.tmp 5) (.tmp 6) 34 rfl w.heap.size 42 i0 (.agg #[.int .i64 0, .int .i64 0, .int .i64 0, .int .i64 0, .slice none 0 0, .int .i64 0]) 64 Tryd.underlying34 HI.out HZ.out.1 HZ.out.2.1 HZ.out.2.2 rfl _ _ rfl HO.out (some ⟨b, o, none⟩) n c xs rfl HN.out HF.out (by simp; unfold maxLen; omega) (by simp; omega) hba.size ?_)
  intro v' w2 hown hgrow hnn _
  have hb2 := below_grown hba hgrow hba.size (fun j hj => (HO.out.lt j hj).1)
  obtain ⟨g, cap, rfl, _⟩ := Own.some_shape hown hnn
  have HO2 := Lib.hid (show Own LPropH.rec 42 w2 w.heap.size (.slice (some ⟨g, 0, none⟩) n cap) xs by
    have h := hown
    rw [HN.out] at h
    exact h)
  have e9 : xs.length = n := HN.out
  rw [e9]
  clear hown hgrow hnn e9
  go_wp2_with fail
  go_ret
  exact ⟨g, cap, rfl, HO2.out, hb2⟩
end Go.Proofs.YtclpdpfnlmfogaaDoor.CfZ
