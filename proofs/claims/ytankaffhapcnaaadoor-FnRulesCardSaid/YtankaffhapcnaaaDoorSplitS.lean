/- impl.SplitString: the pieces of the string, in a row of the call's own. -/
import Derived.Test.YtankaffhapcnaaaDoorElems
import Derived.Test.YtankaffhapcnaaaDoorJ1
namespace Go.Proofs.YtankaffhapcnaaaDoor.Elems
open Go.RowKit Go.Shelf SplitMath
attribute [local go_sem] Oper.semAt_some

set_option maxHeartbeats 1000000 in
theorem elements_in (n : Nat) (s : ByteArray) (c : UInt8) (w : World) :
    CallsIn Fence.wide n Tryd.prog 40 #[.string s, .int .u8 c.toNat] w fun e w' => e = .returned (.func (.func 56) #[] #[.pointer (some ⟨w.heap.size, 0, none⟩), .pointer (some ⟨w.heap.size + 1, 0, none⟩)]) ∧
      w' = (w.alloc (.cells #[.string s] 9)).alloc (.cells #[.int .u8 c.toNat] 5) := by
  refine callsIn_of_wp Tryd.func40 rfl trivial ?_ rfl
  simp only [Tryd.ntmps40, List.size_toArray, List.length_cons, List.length_nil, Nat.reduceAdd, Nat.reduceSub, Array.replicate_succ, Array.replicate_zero, List.push_toArray, List.append_toArray, List.nil_append, List.cons_append]
  gi_wp2
  go_ret
  exact ⟨rfl, rfl⟩

theorem infoStr : (Tryd.prog.info? 9).map (fun i => (i.zero, i.size, i.bytes)) = some (some (.string ⟨#[]⟩), 1, 16) := by kernel_rfl
def vals (d : List (List UInt8)) : List Value := d.map str

theorem vals_snoc (d : List (List UInt8)) (x : List UInt8) : vals (d ++ [x]) = vals d ++ [str x] := by simp [vals]
theorem owns_start (w : World) : (w.alloc (.cells #[] 9)).ownsRow w.heap.size 9 1 (.slice (some ⟨w.heap.size, 0, none⟩) 0 0) 0 [] := by
  refine ⟨rfl, .inr ⟨w.heap.size, 0, #[], rfl, Nat.le_refl _, ?_, Nat.le_refl _, Nat.zero_le _, rfl, rfl⟩⟩
  show (w.heap.push _)[w.heap.size]? = _
  rw [Array.getElem?_push, if_pos rfl]
/-- What the iterator asks of a round: the separator's box is kept. -/
def Kp (Bc : Nat) (A B : World) : Prop := B.heap[Bc]? = A.heap[Bc]?
theorem kp_t {Bc : Nat} {A B C : World} (h : Kp Bc A B) (k : Kp Bc B C) : Kp Bc A C := Eq.trans k h
theorem kp_b {Bc : Nat} {w : World} (hB : Bc < w.heap.size) (W : World) (l : Nat) (o o' : Obj) (hl : w.heap.size ≤ l) (_ : W.heap[l]? = some o) (_ : o.isCells = false) (_ : o.isWalk = false) : Kp Bc W (W.putObj l o') :=
  World.putObj_heap_other (by omega)
theorem stops (n : Nat) (hn : 1 ≤ n) (Bs Bc : Nat) (s : ByteArray) (c : UInt8) (hs : s.size ≤ 4000) (w : World) (hBs : Boxed w Bs 9 (.string s)) (hBc : Boxed w Bc 5 (.int .u8 c.toNat)) :
    SeqStopsK Fence.wide n Tryd.prog 56 #[.pointer (some ⟨Bs, 0, none⟩), .pointer (some ⟨Bc, 0, none⟩)] (fun x : List UInt8 => #[str x]) (Kp Bc) (fun ys => ys = splitOf s.data.toList c) (fun pre => pre <+: splitOf s.data.toList c) (splitOf s.data.toList c).length w := fun l J Jx W hW hJ _ hY h0 => by
  have b1 : Boxed W Bs 9 (.string s) := (hW.block Bs hBs.lt).trans hBs
  have b2 : Boxed W Bc 5 (.int .u8 c.toNat) := (hW.block Bc hBc.lt).trans hBc
  exact closure_in n hn l Bs Bc s c hs J Jx (fun pre W m h => hJ pre W (W.drewN m) none h ⟨rfl, rfl, rfl, Nat.le_refl _, fun _ _ _ => rfl⟩ (fun r e => by cases e)) hY W b1.cell b2 h0
theorem boxed_own {β : Type} (B : Nat) (t : TypeId) (v : Value) : Own (fun (_ : β) W => Boxed W B t v) := by
  intro s X Y row h hg hrow
  refine h.kept hg (fun e' => ?_)
  obtain ⟨o, ho, hc⟩ := hrow B e'.symm
  rw [show X.heap[B]? = _ from h] at ho
  cases ho
  cases hc

def SplitPost (w : World) (l : List (List UInt8)) (e : Ending) (W' : World) : Prop := ∃ v, e = .returned (.tuple #[v, .bool true]) ∧ W'.ownsRow w.heap.size 9 1 v l.length (vals l) ∧ Below w.heap.size w W'
set_option maxRecDepth 100000 in
set_option maxHeartbeats 2000000 in
theorem split_in (n : Nat) (hn : 3 ≤ n) (s : ByteArray) (c : UInt8) (hs : s.size ≤ 4000) (w : World) :
    CallsIn Fence.wide n Tryd.prog 23 #[.string s, .string ⟨#[c]⟩] w (SplitPost w (splitOf s.data.toList c)) := by
  have h1 : 1 ≤ n := by omega
  obtain ⟨i0, hi, hz0, hz1, hz2⟩ := info_parts infoStr
  have HI := Lib.hid hi
  have HZ := Lib.hid (And.intro hz0 (And.intro hz1 hz2))
  clear hi hz0 hz1 hz2
  have hg : ∀ h : 0 < (⟨#[c]⟩ : ByteArray).size, (⟨#[c]⟩ : ByteArray)[0] = c := fun _ => rfl
  have hdec : decide ((4000 : Int) < (s.size : Int)) = false := decide_eq_false (by omega)
  refine callsIn_of_wp_marks Tryd.func23 rfl trivial ?_ rfl
  simp only [Tryd.ntmps23, List.size_toArray, List.length_cons, List.length_nil, Nat.reduceAdd, Nat.reduceSub, Array.replicate_succ, Array.replicate_zero, List.push_toArray, List.append_toArray, List.nil_append, List.cons_append]
  gi_wp2_with (refine ⟨trivial, ?_⟩; gi_at_call 40; refine (elements_in (n - 1) _ _ _).mono ?_; rintro e w' ⟨rfl, rfl⟩)
  have bP := Boxed.new (w.alloc (.cells #[] 9)) 41 (.slice (some ⟨w.heap.size, 0, none⟩) 0 0)
  have bS := Boxed.new ((w.alloc (.cells #[] 9)).alloc (.cells #[.slice (some ⟨w.heap.size, 0, none⟩) 0 0] 41)) 9 (.string s)
  have bC := Boxed.new (((w.alloc (.cells #[] 9)).alloc (.cells #[.slice (some ⟨w.heap.size, 0, none⟩) 0 0] 41)).alloc (.cells #[.string s] 9)) 5 (.int .u8 c.toNat)
  simp only [World.size_alloc] at bP bS bC
  have hB0 : Below w.heap.size w ((((w.alloc (.cells #[] 9)).alloc (.cells #[.slice (some ⟨w.heap.size, 0, none⟩) 0 0] 41)).alloc (.cells #[.string s] 9)).alloc (.cells #[.int .u8 c.toNat] 5)) :=
    ((((Below.refl _ w).alloc (Nat.le_refl _) _).alloc (by simp) _).alloc (by simp; omega) _).alloc (by simp; omega) _
  refine wpIn_rangeFunc_ownG rfl h1 (gf := 56) (lb := #[.pointer (some ⟨w.heap.size + 1 + 1, 0, none⟩), .pointer (some ⟨w.heap.size + 1 + 1 + 1, 0, none⟩)]) rfl trivial (enters_of Tryd.func56 (by kernel_rfl) rfl)
    (stops (n - 1) (by omega) _ _ s c hs _ (bS.alloc _) bC) kp_t (kp_b (by simp)) (Below.refl _ _) (fun _ => rfl)
    (fun pre W => (∃ v, Boxed W (w.heap.size + 1) 41 v ∧ W.ownsRow w.heap.size 9 1 v pre.length (vals pre) ∧ True) ∧ Boxed W (w.heap.size + 1 + 1 + 1) 5 (.int .u8 c.toNat) ∧ Below w.heap.size w W)
    (fun _ _ _ => False)
    (OwnFrom.and (Own.from (holdsRow_own w.heap.size (w.heap.size + 1) 41 9 1 (fun pre => pre.length) vals (fun _ _ => True)) _) (OwnFrom.and (Own.from (boxed_own _ _ _) _) (ownFrom_below (Nat.le_refl _) (by simp; omega))))
    (fun _ _ _ _ _ hs _ _ => hs)
    ⟨⟨_, (bP.alloc _).alloc _, ((((owns_start w).alloc _).alloc _).alloc _), trivial⟩, bC, hB0⟩
    (fun x => { tmps := #[.string s, .string ⟨#[c]⟩, undef, undef, .slice none 0 0, .bool false, .pointer (some ⟨w.heap.size + 1, 0, none⟩), .string ⟨x.toArray⟩, .string s, .int .i64 s.size, .bool false, .bool false, .string ⟨#[c]⟩, .int .i64 1, .bool false, .bool false, undef, .slice (some ⟨w.heap.size, 0, none⟩) 0 0, .string s, .string ⟨#[c]⟩, .int .u8 c.toNat, .func (.func 56) #[] #[.pointer (some ⟨w.heap.size + 1 + 1, 0, none⟩), .pointer (some ⟨w.heap.size + 1 + 1 + 1, 0, none⟩)], .string ⟨x.toArray⟩, undef, undef, undef, undef, undef], defers := [] }) ?assign ?body ?done ?stop
  case assign =>
    intro l x W K hK
    gi_wp2
    exact hK
  case body =>
    rintro l pre x W ⟨⟨v, hv, hrow, _⟩, hC, hB⟩ hlt
    have hc := hv.cell
    have hl2 := splitOf_length s.data.toList c
    have hl3 : s.data.toList.length = s.size := Array.length_toList
    gi_wp2_with (gi_at_builtin; refine wpListIn_append_own _ rfl _ _ 41 rfl w.heap.size 9 i0 (.string ⟨#[]⟩) 1 16 Tryd.underlying41 HI.out HZ.out.1 HZ.out.2.1 HZ.out.2.2 rfl (by decide) _ _ _ rfl (hrow.alloc _) ⟨W.heap.size, 0, none⟩ 1 1 [.string ⟨x.toArray⟩] rfl rfl (cell_one_new _ _ _) (by intro u hu; simp only [List.mem_singleton] at hu; subst hu; rfl) (by unfold maxLen; omega) (by omega) (by have := hB.size; simp; omega) ?_; intro v' w1 hown' hgrow _; obtain ⟨g', cap', rfl⟩ := ownsRow_succ hown'; obtain ⟨hv1, hv2, hr2, hk2, hb2⟩ := hv.appended (by decide) hrow hB.size (by omega) hown' hgrow; have hC1 := (hC.alloc _).kept hgrow (hC.not_row (by decide) hrow); have hc1 := hv1.cell; have hf1 := hv1.frozen)
    have hC2 := hC1.kept (grownBy_setCell' w1 (w.heap.size + 1) (.slice (some ⟨g', 0, none⟩) (pre.length + 1) cap')) (by intro e; have := Option.some.inj e; omega)
    refine ⟨hk2.from _, Eq.trans hC2 (Eq.symm hC), ⟨⟨_, hv2, ?_, trivial⟩, hC2, hB.trans hb2⟩⟩
    rw [vals_snoc, List.length_append, List.length_singleton]
    exact hr2
  case done =>
    rintro D ys W hD rfl ⟨⟨v, hv, hrow, _⟩, hC, hB⟩ hK
    have hc := hv.cell
    gi_wp2
    refine ⟨by simp, .inl ⟨_, _, rfl, run_takeDeferred hK, ?_⟩⟩
    exact ⟨_, results_tmp2 rfl _ _ _, v, rfl, ownsRow_putObj hrow _ hK rfl, hB.trans (belowK_b (w := w) (Nat.le_refl _) W D _ _ (by simp at hD; omega) hK rfl rfl)⟩
  case stop =>
    rintro D c pre W _ _ h _
    exact h.elim

theorem split_yes (s : ByteArray) (c : UInt8) (hs : s.size ≤ 4000) (w : World) :
    Calls Tryd.prog 23 #[.string s, .string ⟨#[c]⟩] w (SplitPost w (splitOf s.data.toList c)) :=
  callsIn_wide.1 (split_in 3 (Nat.le_refl _) s c hs w)

/-- too long a string, or a separator that is not one byte: an empty slice and false -/
def SplitNo (w : World) (e : Ending) (W' : World) : Prop := e = .returned (.tuple #[.slice (some ⟨w.heap.size, 0, none⟩) 0 0, .bool false]) ∧ Below w.heap.size w W'
set_option maxHeartbeats 400000 in
theorem split_no (s sep : ByteArray) (h : 4000 < s.size ∨ sep.size ≠ 1) (hm : s.size ≤ maxLen) (w : World) :
    Calls Tryd.prog 23 #[.string s, .string sep] w (SplitNo w) := by
  unfold maxLen at hm
  by_cases h1 : 4000 < s.size
  · clear h
    go_enter Tryd.func23, Tryd.ntmps23
    go_wp2_with fail
    go_ret2
    exact ⟨rfl, (Below.refl _ _).alloc (Nat.le_refl _) _⟩
  · have h2 : ((sep.size : Int) != 1) = true := by rcases h with h | h; exact absurd h h1; rw [bne_iff_ne]; omega
    have h3 : ((sep.size : Int) == 1) = false := by simpa [bne] using h2
    have h1' : s.size ≤ 4000 := by omega
    clear h h1
    go_enter Tryd.func23, Tryd.ntmps23
    go_wp2_with fail
    go_ret2
    exact ⟨rfl, (Below.refl _ _).alloc (Nat.le_refl _) _⟩
end Go.Proofs.YtankaffhapcnaaaDoor.Elems
