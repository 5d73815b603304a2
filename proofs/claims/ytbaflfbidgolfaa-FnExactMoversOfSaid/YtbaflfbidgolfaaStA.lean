/- Pending questions: what the functions of the chapter answer. No condition but that names are no longer than strings can be. -/
import Derived.Test.YtbaflfbidgolfaaStG
namespace Go.Proofs.Ytbaflfbidgolfaa.StA
open Go.RowKit Bs Word Sq St StF StL StG IntF
set_option linter.unusedVariables false
theorem good_asS {v0 v1 : Value} {z : List R} {l : List Q} {w : World} (b : Bool) (h : Is LRule.rec w v0 z) (h1 : Is LQuestion.rec w v1 l) (f0 : ∀ x ∈ z, LRule.Fine x) (hb : goodQ z l = b) :
    Calls Try.prog 77 #[v0, v1] w fun e w' => e = .returned (.bool b) ∧ Below w.heap.size w w' := by
  subst hb; exact l7Good v0 v1 z l w h h1 f0
theorem good_asI {v0 v1 : Value} {z : List R} {l : List Q} {w : World} (b : Bool) (h : Is LRule.rec w v0 z) (h1 : Is LQuestion.rec w v1 l) (f0 : ∀ x ∈ z, LRule.Fine x) (hb : goodQ z l = b) :
    Calls Try.prog 21 #[v0, v1] w fun e w' => e = .returned (.bool b) ∧ Below w.heap.size w w' := by
  subst hb; exact arePending v0 v1 z l w h h1 f0
theorem lack_asI {v0 v1 : Value} {z : List R} {l : List Q} {w : World} (b : Bool) (h : Is LRule.rec w v0 z) (h1 : Is LQuestion.rec w v1 l) (ht : TopIn z l) (hb : lackT z l = b) :
    Calls Try.prog 90 #[v0, v1] w fun e w' => e = .returned (.bool b) ∧ Below w.heap.size w w' := by
  subst hb; exact lacksSecond v0 v1 z l w h h1 ht
theorem may_asI {v0 v1 : Value} {z : List R} {l : List Q} {r : R} {w : World} (b : Bool) (h : Is LRule.rec w v0 z) (h1 : Is LQuestion.rec w v1 l) (ht : TopIn z l) (hb : mayB z l r = b) :
    Calls Try.prog 83 #[v0, v1, .agg #[.int .i64 r.id, .string r.name, .int .i64 r.rank, .bool r.sec, .bool r.deb, .bool r.am, .int .i64 r.need]] w fun e w' => e = .returned (.bool b) ∧ Below w.heap.size w w' := by
  subst hb; exact mayFollow v0 v1 z l r w h h1 ht
theorem good_len {z : List R} {l : List Q} (h : goodQ z l = true) : l.length ≤ 6 := (good_of h).2.1
theorem good_rules {z : List R} {l : List Q} (h : goodQ z l = true) : z.length ≤ 8 := (Gd.good_of (good_of h).1).1
/-- the place of the last question of a mover, ahead of place k -/
def la (l : List Q) (m : Int) : Nat → Option Nat
  | 0 => none
  | k + 1 => (match l[k]? with | some q => (if (q.mover == m) = true then some k else la l m k) | none => none)
theorem la_hit {l : List Q} {m : Int} {k : Nat} {q : Q} (h : l[k]? = some q) (hm : (q.mover == m) = true) : la l m (k + 1) = some k := by
  show (match l[k]? with | some q => (if (q.mover == m) = true then some k else la l m k) | none => none) = _
  rw [h]; simp [hm]
theorem la_miss {l : List Q} {m : Int} {k : Nat} {q : Q} (h : l[k]? = some q) (hm : (q.mover == m) = false) : la l m (k + 1) = la l m k := by
  show (match l[k]? with | some q => (if (q.mover == m) = true then some k else la l m k) | none => none) = _
  rw [h]; simp [hm]
noncomputable def mayA (z : List R) (l : List Q) : List Int × Bool := if goodQ z l = true then (may z l, true) else ([], false)
theorem mayA_no {z : List R} {l : List Q} (h : goodQ z l = false) : mayA z l = ([], false) := by unfold mayA; rw [h]; rfl
theorem mayA_yes {z : List R} {l : List Q} (h : goodQ z l = true) : mayA z l = (may z l, true) := by unfold mayA; rw [if_pos h]
noncomputable def mvA (z : List R) (l : List Q) (id m : Int) : List Q × Bool := if goodQ z (l ++ [⟨id, m, false⟩]) = true then (l ++ [⟨id, m, false⟩], true) else ([], false)
theorem mvA_no {z : List R} {l : List Q} {id m : Int} (h : goodQ z (l ++ [⟨id, m, false⟩]) = false) : mvA z l id m = ([], false) := by unfold mvA; rw [h]; rfl
theorem mvA_yes {z : List R} {l : List Q} {id m : Int} (h : goodQ z (l ++ [⟨id, m, false⟩]) = true) : mvA z l id m = (l ++ [⟨id, m, false⟩], true) := by unfold mvA; rw [if_pos h]
/-- whether the immediately pending question may be seconded by a member -/
def secB (z : List R) (l : List Q) (m : Int) : Bool := match top l with | none => false | some p => lacks z p && !(p.mover == m)
theorem secB_top {z : List R} {l : List Q} {m : Int} {p : Q} (h : top l = some p) : secB z l m = (lacks z p && !(p.mover == m)) := by unfold secB; rw [h]
theorem secB_nil {z : List R} {l : List Q} {m : Int} (h : l.length = 0) : secB z l m = false := by rw [List.eq_nil_of_length_eq_zero h]; rfl
def sec1 (l : List Q) : List Q := match top l with | none => l | some p => l.set (l.length - 1) { p with sec := true }
theorem sec1_top {l : List Q} {p : Q} (h : top l = some p) : sec1 l = l.set (l.length - 1) { p with sec := true } := by unfold sec1; rw [h]
theorem sec1_len {l : List Q} : (sec1 l).length = l.length := by unfold sec1; split <;> simp
noncomputable def scA (z : List R) (l : List Q) (m : Int) : List Q × Bool := if (goodQ z l && (inB m 1 99 && secB z l m)) = true then (sec1 l, true) else ([], false)
theorem scA_no {z : List R} {l : List Q} {m : Int} (h : (goodQ z l && (inB m 1 99 && secB z l m)) = false) : scA z l m = ([], false) := by unfold scA; rw [h]; rfl
theorem scA_yes {z : List R} {l : List Q} {m : Int} (h : (goodQ z l && (inB m 1 99 && secB z l m)) = true) : scA z l m = (sec1 l, true) := by unfold scA; rw [if_pos h]
def Q0 : Q := ⟨0, 0, false⟩
noncomputable def dsA (z : List R) (l : List Q) : List Q × Q × Bool := match top l with | none => ([], Q0, false) | some p => if (goodQ z l && !lacks z p) = true then (l.take (l.length - 1), p, true) else ([], Q0, false)
theorem dsA_nil {z : List R} {l : List Q} (h : l.length = 0) : dsA z l = ([], Q0, false) := by rw [List.eq_nil_of_length_eq_zero h]; rfl
theorem dsA_no {z : List R} {l : List Q} (h : goodQ z l = false) : dsA z l = ([], Q0, false) := by unfold dsA; rw [h]; split <;> rfl
theorem dsA_lack {z : List R} {l : List Q} {p : Q} (h : top l = some p) (hl : lacks z p = true) : dsA z l = ([], Q0, false) := by unfold dsA; rw [h]; simp [hl]
theorem dsA_yes {z : List R} {l : List Q} {p : Q} (hg : goodQ z l = true) (h : top l = some p) (hl : lacks z p = false) : dsA z l = (l.take (l.length - 1), p, true) := by unfold dsA; rw [h]; simp [hl, hg]
noncomputable def wdA (z : List R) (l : List Q) (m : Int) : List Q × Bool := if goodQ z l = true then (match la l m l.length with | some k => (l.take k, true) | none => ([], false)) else ([], false)
theorem wdA_no {z : List R} {l : List Q} {m : Int} (h : goodQ z l = false) : wdA z l m = ([], false) := by unfold wdA; rw [h]; rfl
theorem wdA_some {z : List R} {l : List Q} {m : Int} {k : Nat} (h : goodQ z l = true) (hk : la l m l.length = some k) : wdA z l m = (l.take k, true) := by unfold wdA; rw [if_pos h, hk]
theorem wdA_none {z : List R} {l : List Q} {m : Int} (h : goodQ z l = true) (hk : la l m l.length = none) : wdA z l m = ([], false) := by unfold wdA; rw [if_pos h, hk]
def drp (z : List R) (l : List Q) : List Q := if lackT z l = true then l.take (l.length - 1) else l
noncomputable def drA (z : List R) (l : List Q) : List Q × Bool := if goodQ z l = true then (drp z l, true) else ([], false)
theorem drA_no {z : List R} {l : List Q} (h : goodQ z l = false) : drA z l = ([], false) := by unfold drA; rw [h]; rfl
theorem drA_yes {z : List R} {l : List Q} (h : goodQ z l = true) : drA z l = (drp z l, true) := by unfold drA; rw [if_pos h]
theorem drp_yes {z : List R} {l : List Q} (h : lackT z l = true) : drp z l = l.take (l.length - 1) := by unfold drp; rw [if_pos h]
theorem drp_no {z : List R} {l : List Q} (h : lackT z l = false) : drp z l = l.take l.length := by unfold drp; rw [h, List.take_length]; rfl
def nms (z : List R) (l : List Q) : List ByteArray := l.map (fun q => (ru z q.rule).name)
noncomputable def nmA (z : List R) (l : List Q) : List ByteArray × Bool := if goodQ z l = true then (nms z l, true) else ([], false)
theorem nmA_no {z : List R} {l : List Q} (h : goodQ z l = false) : nmA z l = ([], false) := by unfold nmA; rw [h]; rfl
theorem nmA_yes {z : List R} {l : List Q} (h : goodQ z l = true) : nmA z l = (nms z l, true) := by unfold nmA; rw [if_pos h]
theorem nms_next {z : List R} {l : List Q} {k : Nat} {q : Q} (h : l[k]? = some q) : nms z (l.take (k + 1)) = nms z (l.take k) ++ [(ru z q.rule).name] := by
  unfold nms
  rw [List.take_add_one, h, Option.toList_some, List.map_append]; rfl
theorem la_top {l : List Q} {m : Int} {p : Q} (h : top l = some p) (hm : (p.mover == m) = true) : la l m l.length = some (l.length - 1) := by
  have hk := (List.getElem?_eq_some_iff.1 h).1
  have := la_hit h hm
  rwa [show l.length - 1 + 1 = l.length by omega] at this
end Go.Proofs.Ytbaflfbidgolfaa.StA
