/- The line of a member, the text of a list: the model's and the program's functions. Numbers of at most six digits. -/
import Derived.Test.YtneecokjhmnagaaDoorMemI
import Derived.Test.YtneecokjhmnagaaDoorNum
import Derived.Test.YtneecokjhmnagaaDoorShelf
import Derived.Test.YtneecokjhmnagaaDoorJ1
import Derived.Deep.RegionHeld3
import Derived.Deep.DeepCutAuto
import Derived.Deep.DrawnRows
namespace Go.Proofs.YtneecokjhmnagaaDoor.MLine
open Go.RowKit Bs Word Mem
set_option linter.unusedVariables false
theorem belowDN {B : Nat} {a w : World} (h : Below B a w) (k : Nat) : Below B a (w.drewN k) := h.trans ⟨rfl, rfl, rfl, Nat.le_refl _, fun _ _ => rfl⟩
def num (n : Int) : ByteArray := ⟨(Lib.itoa n).toArray⟩
theorem num_size (n : Int) (h0 : -999999 ≤ n) (h1 : n ≤ 999999) : (num n).size ≤ 21 := by
  have := Lib.itoa_length_le n (by omega) (by omega)
  show (Lib.itoa n).toArray.size ≤ 21
  simpa using this
def offT (o : Int) : ByteArray := if o = 1 then ⟨#[32, 40, 99, 104, 97, 105, 114, 41]⟩ else if o = 2 then ⟨#[32, 40, 115, 101, 99, 114, 101, 116, 97, 114, 121, 41]⟩ else if o = 3 then ⟨#[32, 40, 116, 114, 101, 97, 115, 117, 114, 101, 114, 41]⟩ else ⟨#[]⟩
theorem off_size (o : Int) : (offT o).size ≤ 12 := by
  unfold offT
  split
  · decide
  · split
    · decide
    · split <;> decide
def lineM (r : M) : ByteArray := num r.num ++ ⟨#[32]⟩ ++ r.name ++ offT r.off
theorem line_size (r : M) (h0 : -999999 ≤ r.num) (h1 : r.num ≤ 999999) : (lineM r).size ≤ 34 + r.name.size := by
  have a := num_size r.num h0 h1
  have b := off_size r.off
  unfold lineM
  rw [ByteArray.size_append, ByteArray.size_append, ByteArray.size_append, show (⟨#[32]⟩ : ByteArray).size = 1 from rfl]
  omega
attribute [local go_sem ↓] Go.wp_at_zero Go.wp_at_succ
set_option maxRecDepth 100000 in
set_option maxHeartbeats 4000000 in
theorem l3Line (r : M) (w : World) (h0 : -999999 ≤ r.num) (h1 : r.num ≤ 999999) (hn : r.name.size ≤ 1048576) (ho : 0 ≤ r.off ∧ r.off ≤ 3) :
    Calls Tryd.prog 48 #[.agg #[.int .i64 r.num, .string r.name, .int .i64 r.off]] w fun e w' => e = .returned (.string (lineM r)) ∧ Below w.heap.size w w' := by
  have hA := num_size r.num h0 h1
  have HC := Lib.hid (fun W => Num.l1Num r.num W (by omega) (by omega))
  obtain ⟨i, nm, o⟩ := r
  simp only at h0 h1 hn ho hA HC ⊢
  have hb := (Below.refl w.heap.size w).alloc (Nat.le_refl _) (Obj.cells #[.int .i64 i, .string nm, .int .i64 o] 60)
  have f1 : ¬ (9223372036854775807 < (num i).size + 1) := by omega
  have f2 : ¬ (9223372036854775807 < (num i).size + 1 + nm.size) := by omega
  have f3 : ¬ (9223372036854775807 < (num i).size + 1 + nm.size + 8) := by omega
  have f4 : ¬ (9223372036854775807 < (num i).size + 1 + nm.size + 12) := by omega
  have hnd : o = 0 ∨ o = 1 ∨ o = 2 ∨ o = 3 := by omega
  have HN := Lib.hid (show num i = ⟨(Lib.itoa i).toArray⟩ from rfl)
  rw [← HN.out] at HC
  clear HN ho
  rcases hnd with rfl | rfl | rfl | rfl
  · go_enter Tryd.func48, Tryd.ntmps48
    go_wp2_with fail
    generalize hWW : (w.alloc (Obj.cells #[.int .i64 i, .string nm, .int .i64 0] 60)) = W at *
    have x0 : W.cell? ⟨w.heap.size, 0, none⟩ = some (.int .i64 i) := by rw [← hWW]; simp [go_sem]
    have x1 : W.cell? ⟨w.heap.size, 1, none⟩ = some (.string nm) := by rw [← hWW]; simp [go_sem]
    have x2 : W.cell? ⟨w.heap.size, 2, none⟩ = some (.int .i64 0) := by rw [← hWW]; simp [go_sem]
    have hW : w.heap.size < W.heap.size := by rw [← hWW]; simp
    clear hWW
    have hWp : ∀ (m : Nat) (o : Obj) (i : Nat), ((W.drewN m).alloc o).cell? ⟨w.heap.size, i, none⟩ = W.cell? ⟨w.heap.size, i, none⟩ := fun m o i => World.cell?_alloc_lt _ _ _ hW
    have hWn : ∀ (m : Nat) (c : Array Value) (t : TypeId) (i : Nat), ((W.drewN m).alloc (.cells c t)).cell? ⟨W.heap.size, i, none⟩ = c[i]? := fun m c t i => World.cell?_alloc_new (W.drewN m) c t i
    refine wp_region_held_drew (S := (fun w' : World => w'.cell? ⟨w.heap.size, 0, none⟩ = some (.int .i64 i) ∧ w'.cell? ⟨w.heap.size, 1, none⟩ = some (.string nm) ∧ w'.cell? ⟨w.heap.size, 2, none⟩ = some (.int .i64 0))) (by kernel_rfl) ⟨x0, x1, x2⟩ (fun hHeld => ?_)
    refine wpAnyH_take (i := 0) (v := ?v1) rfl (by kernel_rfl) (by kernel_rfl) (by kernel_rfl) (fun _ _ _ h => h) (Or.inl ⟨by rfl, ?hy1⟩) (by assumption) ?rest1
    case hy1 => (intro wq hSw; (try dsimp only at hSw); go_split_ands; go_simp; (try with_reducible rfl))
    case rest1 =>
    refine wpAnyH_take (i := 1) (v := ?v2) rfl (by kernel_rfl) (by kernel_rfl) (by kernel_rfl) (fun _ _ _ h => h) (Or.inl ⟨by rfl, ?hy2⟩) (by assumption) ?rest2
    case hy2 => (intro wq hSw; (try dsimp only at hSw); go_split_ands; go_simp; (try with_reducible rfl))
    case rest2 =>
    refine wpAnyH_take (i := 4) (v := ?v3) rfl (by kernel_rfl) (by kernel_rfl) (by kernel_rfl) (fun _ _ _ h => h) (Or.inl ⟨by rfl, ?hy3⟩) (by assumption) ?rest3
    case hy3 => (intro wq hSw; (try dsimp only at hSw); go_split_ands; go_simp; (try with_reducible rfl))
    case rest3 =>
    refine wpAnyH_take (i := 5) (v := ?v4) rfl (by kernel_rfl) (by kernel_rfl) (by kernel_rfl) (fun _ _ _ h => h) (Or.inl ⟨by rfl, ?hy4⟩) (by assumption) ?rest4
    case hy4 => (intro wq hSw; (try dsimp only at hSw); go_split_ands; go_simp; (try with_reducible rfl))
    case rest4 =>
    refine wpAnyH_take (i := 8) (v := ?v5) rfl (by kernel_rfl) (by kernel_rfl) (by kernel_rfl) (fun _ _ _ h => h) (Or.inl ⟨by rfl, ?hy5⟩) (by assumption) ?rest5
    case hy5 => (intro wq hSw; (try dsimp only at hSw); go_split_ands; go_simp; (try with_reducible rfl))
    case rest5 =>
    refine wpAnyH_take (i := 9) (v := ?v6) rfl (by kernel_rfl) (by kernel_rfl) (by kernel_rfl) (fun _ _ _ h => h) (Or.inl ⟨by rfl, ?hy6⟩) (by assumption) ?rest6
    case hy6 => (intro wq hSw; (try dsimp only at hSw); go_split_ands; go_simp; (try with_reducible rfl))
    case rest6 =>
    refine wpAnyH_ready (rs := [2, 7]) (by kernel_rfl) (by simp) ?_
    refine AllReadyH.cons rfl (fun K hK => ?step7) ?more7
    case step7 =>
      go_simp
      go_at_call 71
      refine (HC.out _).mono ?_
      rintro e w1 ⟨rfl, m, rfl⟩
      go_wp2_with fail
      refine hK.out _ _ hHeld (fun hHeld => ?_)
      clear hK K
      refine wpAnyH_take (i := 3) (v := ?v8) rfl (by kernel_rfl) (by kernel_rfl) (by kernel_rfl) (fun _ _ _ h => h) (Or.inl ⟨by rfl, ?hy8⟩) (by assumption) ?rest8
      case hy8 => (intro wq hSw; (try dsimp only at hSw); go_split_ands; go_simp; (try with_reducible rfl))
      case rest8 =>
      refine wpAnyH_take (i := 6) (v := ?v9) rfl (by kernel_rfl) (by kernel_rfl) (by kernel_rfl) (fun _ _ _ h => h) (Or.inl ⟨by rfl, ?hy9⟩) (by assumption) ?rest9
      case hy9 => (intro wq hSw; (try dsimp only at hSw); go_split_ands; go_simp; (try with_reducible rfl))
      case rest9 =>
      refine wpAnyH_ready (rs := [7]) (by kernel_rfl) (by simp) ?_
      refine AllReadyH.cons rfl (fun K hK => ?step10) ?more10
      case step10 =>
        go_simp
        refine hK.out _ _ ?hs11 (fun _ => wpAnyH_into (S' := (fun w' : World => (w'.cell? ⟨w.heap.size, 0, none⟩ = some (.int .i64 i) ∧ w'.cell? ⟨w.heap.size, 1, none⟩ = some (.string nm) ∧ w'.cell? ⟨w.heap.size, 2, none⟩ = some (.int .i64 0)) ∧ w'.cell? ⟨W.heap.size, 0, none⟩ = some (.string ⟨#[]⟩))) (fun _ h => h.1) ?ht11 (fun hHeld => ?wk11))
        case hs11 => exact ⟨by go_simp, by go_simp, by go_simp⟩
        case ht11 => exact ⟨⟨by go_simp, by go_simp, by go_simp⟩, by go_simp⟩
        case wk11 =>
        clear hK K
        refine wpAnyH_take (i := 10) (v := ?v12) rfl (by kernel_rfl) (by kernel_rfl) (by kernel_rfl) (fun _ _ _ h => h) (Or.inl ⟨by rfl, ?hy12⟩) (by assumption) ?rest12
        case hy12 => (intro wq hSw; (try dsimp only at hSw); go_split_ands; go_simp; (try with_reducible rfl))
        case rest12 =>
        refine wpAnyH_take (i := 11) (v := ?v13) rfl (by kernel_rfl) (by kernel_rfl) (by kernel_rfl) (fun _ _ _ h => h) (Or.inl ⟨by rfl, ?hy13⟩) (by assumption) ?rest13
        case hy13 => (intro wq hSw; (try dsimp only at hSw); go_split_ands; go_simp; (try with_reducible rfl))
        case rest13 =>
        refine wpAnyH_take (i := 12) (v := ?v14) rfl (by kernel_rfl) (by kernel_rfl) (by kernel_rfl) (fun _ _ _ h => h) (Or.inl ⟨by rfl, ?hy14⟩) (by assumption) ?rest14
        case hy14 => (intro wq hSw; (try dsimp only at hSw); go_split_ands; go_simp; (try with_reducible rfl))
        case rest14 =>
        refine wpAnyH_take (i := 13) (v := ?v15) rfl (by kernel_rfl) (by kernel_rfl) (by kernel_rfl) (fun _ _ _ h => h) (Or.inl ⟨by rfl, ?hy15⟩) (by assumption) ?rest15
        case hy15 => (intro wq hSw; (try dsimp only at hSw); go_split_ands; go_simp; (try with_reducible rfl))
        case rest15 =>
        refine wpAnyH_done (by kernel_rfl) ?_ _
        go_wp2_with fail
        go_ret
        exact ⟨rfl, hb.trans (Below.mono (by (repeat (first | assumption | exact Below.refl _ _ | refine Below.drew ?_ | refine belowDN ?_ _ | refine Below.alloc ?_ (by first | (simp; done) | (simp; omega) | omega) _))) hb.size)⟩
      case more10 => exact AllReadyH.nil
    case more7 =>
      refine AllReadyH.cons rfl (fun K hK => ?step16) ?more16
      case step16 =>
        go_simp
        refine hK.out _ _ ?hs17 (fun _ => wpAnyH_into (S' := (fun w' : World => (w'.cell? ⟨w.heap.size, 0, none⟩ = some (.int .i64 i) ∧ w'.cell? ⟨w.heap.size, 1, none⟩ = some (.string nm) ∧ w'.cell? ⟨w.heap.size, 2, none⟩ = some (.int .i64 0)) ∧ w'.cell? ⟨W.heap.size, 0, none⟩ = some (.string ⟨#[]⟩))) (fun _ h => h.1) ?ht17 (fun hHeld => ?wk17))
        case hs17 => exact ⟨by go_simp, by go_simp, by go_simp⟩
        case ht17 => exact ⟨⟨by go_simp, by go_simp, by go_simp⟩, by go_simp⟩
        case wk17 =>
        clear hK K
        refine wpAnyH_take (i := 10) (v := ?v18) rfl (by kernel_rfl) (by kernel_rfl) (by kernel_rfl) (fun _ _ _ h => h) (Or.inl ⟨by rfl, ?hy18⟩) (by assumption) ?rest18
        case hy18 => (intro wq hSw; (try dsimp only at hSw); go_split_ands; go_simp; (try with_reducible rfl))
        case rest18 =>
        refine wpAnyH_take (i := 11) (v := ?v19) rfl (by kernel_rfl) (by kernel_rfl) (by kernel_rfl) (fun _ _ _ h => h) (Or.inl ⟨by rfl, ?hy19⟩) (by assumption) ?rest19
        case hy19 => (intro wq hSw; (try dsimp only at hSw); go_split_ands; go_simp; (try with_reducible rfl))
        case rest19 =>
        refine wpAnyH_ready (rs := [2]) (by kernel_rfl) (by simp) ?_
        refine AllReadyH.cons rfl (fun K hK => ?step20) ?more20
        case step20 =>
          go_simp
          go_at_call 71
          refine (HC.out _).mono ?_
          rintro e w1 ⟨rfl, m, rfl⟩
          go_wp2_with fail
          refine hK.out _ _ hHeld (fun hHeld => ?_)
          clear hK K
          refine wpAnyH_take (i := 3) (v := ?v21) rfl (by kernel_rfl) (by kernel_rfl) (by kernel_rfl) (fun _ _ _ h => h) (Or.inl ⟨by rfl, ?hy21⟩) (by assumption) ?rest21
          case hy21 => (intro wq hSw; (try dsimp only at hSw); go_split_ands; go_simp; (try with_reducible rfl))
          case rest21 =>
          refine wpAnyH_take (i := 6) (v := ?v22) rfl (by kernel_rfl) (by kernel_rfl) (by kernel_rfl) (fun _ _ _ h => h) (Or.inl ⟨by rfl, ?hy22⟩) (by assumption) ?rest22
          case hy22 => (intro wq hSw; (try dsimp only at hSw); go_split_ands; go_simp; (try with_reducible rfl))
          case rest22 =>
          refine wpAnyH_take (i := 12) (v := ?v23) rfl (by kernel_rfl) (by kernel_rfl) (by kernel_rfl) (fun _ _ _ h => h) (Or.inl ⟨by rfl, ?hy23⟩) (by assumption) ?rest23
          case hy23 => (intro wq hSw; (try dsimp only at hSw); go_split_ands; go_simp; (try with_reducible rfl))
          case rest23 =>
          refine wpAnyH_take (i := 13) (v := ?v24) rfl (by kernel_rfl) (by kernel_rfl) (by kernel_rfl) (fun _ _ _ h => h) (Or.inl ⟨by rfl, ?hy24⟩) (by assumption) ?rest24
          case hy24 => (intro wq hSw; (try dsimp only at hSw); go_split_ands; go_simp; (try with_reducible rfl))
          case rest24 =>
          refine wpAnyH_done (by kernel_rfl) ?_ _
          go_wp2_with fail
          go_ret
          exact ⟨rfl, hb.trans (Below.mono (by (repeat (first | assumption | exact Below.refl _ _ | refine Below.drew ?_ | refine belowDN ?_ _ | refine Below.alloc ?_ (by first | (simp; done) | (simp; omega) | omega) _))) hb.size)⟩
        case more20 => exact AllReadyH.nil
      case more16 => exact AllReadyH.nil
  · go_enter Tryd.func48, Tryd.ntmps48
    go_wp2_with fail
    generalize hWW : (w.alloc (Obj.cells #[.int .i64 i, .string nm, .int .i64 1] 60)) = W at *
    have x0 : W.cell? ⟨w.heap.size, 0, none⟩ = some (.int .i64 i) := by rw [← hWW]; simp [go_sem]
    have x1 : W.cell? ⟨w.heap.size, 1, none⟩ = some (.string nm) := by rw [← hWW]; simp [go_sem]
    have x2 : W.cell? ⟨w.heap.size, 2, none⟩ = some (.int .i64 1) := by rw [← hWW]; simp [go_sem]
    have hW : w.heap.size < W.heap.size := by rw [← hWW]; simp
    clear hWW
    have hWp : ∀ (m : Nat) (o : Obj) (i : Nat), ((W.drewN m).alloc o).cell? ⟨w.heap.size, i, none⟩ = W.cell? ⟨w.heap.size, i, none⟩ := fun m o i => World.cell?_alloc_lt _ _ _ hW
    have hWn : ∀ (m : Nat) (c : Array Value) (t : TypeId) (i : Nat), ((W.drewN m).alloc (.cells c t)).cell? ⟨W.heap.size, i, none⟩ = c[i]? := fun m c t i => World.cell?_alloc_new (W.drewN m) c t i
    refine wp_region_held_drew (S := (fun w' : World => w'.cell? ⟨w.heap.size, 0, none⟩ = some (.int .i64 i) ∧ w'.cell? ⟨w.heap.size, 1, none⟩ = some (.string nm) ∧ w'.cell? ⟨w.heap.size, 2, none⟩ = some (.int .i64 1))) (by kernel_rfl) ⟨x0, x1, x2⟩ (fun hHeld => ?_)
    refine wpAnyH_take (i := 0) (v := ?v25) rfl (by kernel_rfl) (by kernel_rfl) (by kernel_rfl) (fun _ _ _ h => h) (Or.inl ⟨by rfl, ?hy25⟩) (by assumption) ?rest25
    case hy25 => (intro wq hSw; (try dsimp only at hSw); go_split_ands; go_simp; (try with_reducible rfl))
    case rest25 =>
    refine wpAnyH_take (i := 1) (v := ?v26) rfl (by kernel_rfl) (by kernel_rfl) (by kernel_rfl) (fun _ _ _ h => h) (Or.inl ⟨by rfl, ?hy26⟩) (by assumption) ?rest26
    case hy26 => (intro wq hSw; (try dsimp only at hSw); go_split_ands; go_simp; (try with_reducible rfl))
    case rest26 =>
    refine wpAnyH_take (i := 4) (v := ?v27) rfl (by kernel_rfl) (by kernel_rfl) (by kernel_rfl) (fun _ _ _ h => h) (Or.inl ⟨by rfl, ?hy27⟩) (by assumption) ?rest27
    case hy27 => (intro wq hSw; (try dsimp only at hSw); go_split_ands; go_simp; (try with_reducible rfl))
    case rest27 =>
    refine wpAnyH_take (i := 5) (v := ?v28) rfl (by kernel_rfl) (by kernel_rfl) (by kernel_rfl) (fun _ _ _ h => h) (Or.inl ⟨by rfl, ?hy28⟩) (by assumption) ?rest28
    case hy28 => (intro wq hSw; (try dsimp only at hSw); go_split_ands; go_simp; (try with_reducible rfl))
    case rest28 =>
    refine wpAnyH_take (i := 8) (v := ?v29) rfl (by kernel_rfl) (by kernel_rfl) (by kernel_rfl) (fun _ _ _ h => h) (Or.inl ⟨by rfl, ?hy29⟩) (by assumption) ?rest29
    case hy29 => (intro wq hSw; (try dsimp only at hSw); go_split_ands; go_simp; (try with_reducible rfl))
    case rest29 =>
    refine wpAnyH_take (i := 9) (v := ?v30) rfl (by kernel_rfl) (by kernel_rfl) (by kernel_rfl) (fun _ _ _ h => h) (Or.inl ⟨by rfl, ?hy30⟩) (by assumption) ?rest30
    case hy30 => (intro wq hSw; (try dsimp only at hSw); go_split_ands; go_simp; (try with_reducible rfl))
    case rest30 =>
    refine wpAnyH_ready (rs := [2, 7]) (by kernel_rfl) (by simp) ?_
    refine AllReadyH.cons rfl (fun K hK => ?step31) ?more31
    case step31 =>
      go_simp
      go_at_call 71
      refine (HC.out _).mono ?_
      rintro e w1 ⟨rfl, m, rfl⟩
      go_wp2_with fail
      refine hK.out _ _ hHeld (fun hHeld => ?_)
      clear hK K
      refine wpAnyH_take (i := 3) (v := ?v32) rfl (by kernel_rfl) (by kernel_rfl) (by kernel_rfl) (fun _ _ _ h => h) (Or.inl ⟨by rfl, ?hy32⟩) (by assumption) ?rest32
      case hy32 => (intro wq hSw; (try dsimp only at hSw); go_split_ands; go_simp; (try with_reducible rfl))
      case rest32 =>
      refine wpAnyH_take (i := 6) (v := ?v33) rfl (by kernel_rfl) (by kernel_rfl) (by kernel_rfl) (fun _ _ _ h => h) (Or.inl ⟨by rfl, ?hy33⟩) (by assumption) ?rest33
      case hy33 => (intro wq hSw; (try dsimp only at hSw); go_split_ands; go_simp; (try with_reducible rfl))
      case rest33 =>
      refine wpAnyH_ready (rs := [7]) (by kernel_rfl) (by simp) ?_
      refine AllReadyH.cons rfl (fun K hK => ?step34) ?more34
      case step34 =>
        go_simp
        refine hK.out _ _ ?hs35 (fun _ => wpAnyH_into (S' := (fun w' : World => (w'.cell? ⟨w.heap.size, 0, none⟩ = some (.int .i64 i) ∧ w'.cell? ⟨w.heap.size, 1, none⟩ = some (.string nm) ∧ w'.cell? ⟨w.heap.size, 2, none⟩ = some (.int .i64 1)) ∧ w'.cell? ⟨W.heap.size, 1, none⟩ = some (.string ⟨#[32, 40, 99, 104, 97, 105, 114, 41]⟩))) (fun _ h => h.1) ?ht35 (fun hHeld => ?wk35))
        case hs35 => exact ⟨by go_simp, by go_simp, by go_simp⟩
        case ht35 => exact ⟨⟨by go_simp, by go_simp, by go_simp⟩, by go_simp⟩
        case wk35 =>
        clear hK K
        refine wpAnyH_take (i := 10) (v := ?v36) rfl (by kernel_rfl) (by kernel_rfl) (by kernel_rfl) (fun _ _ _ h => h) (Or.inl ⟨by rfl, ?hy36⟩) (by assumption) ?rest36
        case hy36 => (intro wq hSw; (try dsimp only at hSw); go_split_ands; go_simp; (try with_reducible rfl))
        case rest36 =>
        refine wpAnyH_take (i := 11) (v := ?v37) rfl (by kernel_rfl) (by kernel_rfl) (by kernel_rfl) (fun _ _ _ h => h) (Or.inl ⟨by rfl, ?hy37⟩) (by assumption) ?rest37
        case hy37 => (intro wq hSw; (try dsimp only at hSw); go_split_ands; go_simp; (try with_reducible rfl))
        case rest37 =>
        refine wpAnyH_take (i := 12) (v := ?v38) rfl (by kernel_rfl) (by kernel_rfl) (by kernel_rfl) (fun _ _ _ h => h) (Or.inl ⟨by rfl, ?hy38⟩) (by assumption) ?rest38
        case hy38 => (intro wq hSw; (try dsimp only at hSw); go_split_ands; go_simp; (try with_reducible rfl))
        case rest38 =>
        refine wpAnyH_take (i := 13) (v := ?v39) rfl (by kernel_rfl) (by kernel_rfl) (by kernel_rfl) (fun _ _ _ h => h) (Or.inl ⟨by rfl, ?hy39⟩) (by assumption) ?rest39
        case hy39 => (intro wq hSw; (try dsimp only at hSw); go_split_ands; go_simp; (try with_reducible rfl))
        case rest39 =>
        refine wpAnyH_done (by kernel_rfl) ?_ _
        go_wp2_with fail
        go_ret
        exact ⟨rfl, hb.trans (Below.mono (by (repeat (first | assumption | exact Below.refl _ _ | refine Below.drew ?_ | refine belowDN ?_ _ | refine Below.alloc ?_ (by first | (simp; done) | (simp; omega) | omega) _))) hb.size)⟩
      case more34 => exact AllReadyH.nil
    case more31 =>
      refine AllReadyH.cons rfl (fun K hK => ?step40) ?more40
      case step40 =>
        go_simp
        refine hK.out _ _ ?hs41 (fun _ => wpAnyH_into (S' := (fun w' : World => (w'.cell? ⟨w.heap.size, 0, none⟩ = some (.int .i64 i) ∧ w'.cell? ⟨w.heap.size, 1, none⟩ = some (.string nm) ∧ w'.cell? ⟨w.heap.size, 2, none⟩ = some (.int .i64 1)) ∧ w'.cell? ⟨W.heap.size, 1, none⟩ = some (.string ⟨#[32, 40, 99, 104, 97, 105, 114, 41]⟩))) (fun _ h => h.1) ?ht41 (fun hHeld => ?wk41))
        case hs41 => exact ⟨by go_simp, by go_simp, by go_simp⟩
        case ht41 => exact ⟨⟨by go_simp, by go_simp, by go_simp⟩, by go_simp⟩
        case wk41 =>
        clear hK K
        refine wpAnyH_take (i := 10) (v := ?v42) rfl (by kernel_rfl) (by kernel_rfl) (by kernel_rfl) (fun _ _ _ h => h) (Or.inl ⟨by rfl, ?hy42⟩) (by assumption) ?rest42
        case hy42 => (intro wq hSw; (try dsimp only at hSw); go_split_ands; go_simp; (try with_reducible rfl))
        case rest42 =>
        refine wpAnyH_take (i := 11) (v := ?v43) rfl (by kernel_rfl) (by kernel_rfl) (by kernel_rfl) (fun _ _ _ h => h) (Or.inl ⟨by rfl, ?hy43⟩) (by assumption) ?rest43
        case hy43 => (intro wq hSw; (try dsimp only at hSw); go_split_ands; go_simp; (try with_reducible rfl))
        case rest43 =>
        refine wpAnyH_ready (rs := [2]) (by kernel_rfl) (by simp) ?_
        refine AllReadyH.cons rfl (fun K hK => ?step44) ?more44
        case step44 =>
          go_simp
          go_at_call 71
          refine (HC.out _).mono ?_
          rintro e w1 ⟨rfl, m, rfl⟩
          go_wp2_with fail
          refine hK.out _ _ hHeld (fun hHeld => ?_)
          clear hK K
          refine wpAnyH_take (i := 3) (v := ?v45) rfl (by kernel_rfl) (by kernel_rfl) (by kernel_rfl) (fun _ _ _ h => h) (Or.inl ⟨by rfl, ?hy45⟩) (by assumption) ?rest45
          case hy45 => (intro wq hSw; (try dsimp only at hSw); go_split_ands; go_simp; (try with_reducible rfl))
          case rest45 =>
          refine wpAnyH_take (i := 6) (v := ?v46) rfl (by kernel_rfl) (by kernel_rfl) (by kernel_rfl) (fun _ _ _ h => h) (Or.inl ⟨by rfl, ?hy46⟩) (by assumption) ?rest46
          case hy46 => (intro wq hSw; (try dsimp only at hSw); go_split_ands; go_simp; (try with_reducible rfl))
          case rest46 =>
          refine wpAnyH_take (i := 12) (v := ?v47) rfl (by kernel_rfl) (by kernel_rfl) (by kernel_rfl) (fun _ _ _ h => h) (Or.inl ⟨by rfl, ?hy47⟩) (by assumption) ?rest47
          case hy47 => (intro wq hSw; (try dsimp only at hSw); go_split_ands; go_simp; (try with_reducible rfl))
          case rest47 =>
          refine wpAnyH_take (i := 13) (v := ?v48) rfl (by kernel_rfl) (by kernel_rfl) (by kernel_rfl) (fun _ _ _ h => h) (Or.inl ⟨by rfl, ?hy48⟩) (by assumption) ?rest48
          case hy48 => (intro wq hSw; (try dsimp only at hSw); go_split_ands; go_simp; (try with_reducible rfl))
          case rest48 =>
          refine wpAnyH_done (by kernel_rfl) ?_ _
          go_wp2_with fail
          go_ret
          exact ⟨rfl, hb.trans (Below.mono (by (repeat (first | assumption | exact Below.refl _ _ | refine Below.drew ?_ | refine belowDN ?_ _ | refine Below.alloc ?_ (by first | (simp; done) | (simp; omega) | omega) _))) hb.size)⟩
        case more44 => exact AllReadyH.nil
      case more40 => exact AllReadyH.nil
  · go_enter Tryd.func48, Tryd.ntmps48
    go_wp2_with fail
    generalize hWW : (w.alloc (Obj.cells #[.int .i64 i, .string nm, .int .i64 2] 60)) = W at *
    have x0 : W.cell? ⟨w.heap.size, 0, none⟩ = some (.int .i64 i) := by rw [← hWW]; simp [go_sem]
    have x1 : W.cell? ⟨w.heap.size, 1, none⟩ = some (.string nm) := by rw [← hWW]; simp [go_sem]
    have x2 : W.cell? ⟨w.heap.size, 2, none⟩ = some (.int .i64 2) := by rw [← hWW]; simp [go_sem]
    have hW : w.heap.size < W.heap.size := by rw [← hWW]; simp
    clear hWW
    have hWp : ∀ (m : Nat) (o : Obj) (i : Nat), ((W.drewN m).alloc o).cell? ⟨w.heap.size, i, none⟩ = W.cell? ⟨w.heap.size, i, none⟩ := fun m o i => World.cell?_alloc_lt _ _ _ hW
    have hWn : ∀ (m : Nat) (c : Array Value) (t : TypeId) (i : Nat), ((W.drewN m).alloc (.cells c t)).cell? ⟨W.heap.size, i, none⟩ = c[i]? := fun m c t i => World.cell?_alloc_new (W.drewN m) c t i
    refine wp_region_held_drew (S := (fun w' : World => w'.cell? ⟨w.heap.size, 0, none⟩ = some (.int .i64 i) ∧ w'.cell? ⟨w.heap.size, 1, none⟩ = some (.string nm) ∧ w'.cell? ⟨w.heap.size, 2, none⟩ = some (.int .i64 2))) (by kernel_rfl) ⟨x0, x1, x2⟩ (fun hHeld => ?_)
    refine wpAnyH_take (i := 0) (v := ?v49) rfl (by kernel_rfl) (by kernel_rfl) (by kernel_rfl) (fun _ _ _ h => h) (Or.inl ⟨by rfl, ?hy49⟩) (by assumption) ?rest49
    case hy49 => (intro wq hSw; (try dsimp only at hSw); go_split_ands; go_simp; (try with_reducible rfl))
    case rest49 =>
    refine wpAnyH_take (i := 1) (v := ?v50) rfl (by kernel_rfl) (by kernel_rfl) (by kernel_rfl) (fun _ _ _ h => h) (Or.inl ⟨by rfl, ?hy50⟩) (by assumption) ?rest50
    case hy50 => (intro wq hSw; (try dsimp only at hSw); go_split_ands; go_simp; (try with_reducible rfl))
    case rest50 =>
    refine wpAnyH_take (i := 4) (v := ?v51) rfl (by kernel_rfl) (by kernel_rfl) (by kernel_rfl) (fun _ _ _ h => h) (Or.inl ⟨by rfl, ?hy51⟩) (by assumption) ?rest51
    case hy51 => (intro wq hSw; (try dsimp only at hSw); go_split_ands; go_simp; (try with_reducible rfl))
    case rest51 =>
    refine wpAnyH_take (i := 5) (v := ?v52) rfl (by kernel_rfl) (by kernel_rfl) (by kernel_rfl) (fun _ _ _ h => h) (Or.inl ⟨by rfl, ?hy52⟩) (by assumption) ?rest52
    case hy52 => (intro wq hSw; (try dsimp only at hSw); go_split_ands; go_simp; (try with_reducible rfl))
    case rest52 =>
    refine wpAnyH_take (i := 8) (v := ?v53) rfl (by kernel_rfl) (by kernel_rfl) (by kernel_rfl) (fun _ _ _ h => h) (Or.inl ⟨by rfl, ?hy53⟩) (by assumption) ?rest53
    case hy53 => (intro wq hSw; (try dsimp only at hSw); go_split_ands; go_simp; (try with_reducible rfl))
    case rest53 =>
    refine wpAnyH_take (i := 9) (v := ?v54) rfl (by kernel_rfl) (by kernel_rfl) (by kernel_rfl) (fun _ _ _ h => h) (Or.inl ⟨by rfl, ?hy54⟩) (by assumption) ?rest54
    case hy54 => (intro wq hSw; (try dsimp only at hSw); go_split_ands; go_simp; (try with_reducible rfl))
    case rest54 =>
    refine wpAnyH_ready (rs := [2, 7]) (by kernel_rfl) (by simp) ?_
    refine AllReadyH.cons rfl (fun K hK => ?step55) ?more55
    case step55 =>
      go_simp
      go_at_call 71
      refine (HC.out _).mono ?_
      rintro e w1 ⟨rfl, m, rfl⟩
      go_wp2_with fail
      refine hK.out _ _ hHeld (fun hHeld => ?_)
      clear hK K
      refine wpAnyH_take (i := 3) (v := ?v56) rfl (by kernel_rfl) (by kernel_rfl) (by kernel_rfl) (fun _ _ _ h => h) (Or.inl ⟨by rfl, ?hy56⟩) (by assumption) ?rest56
      case hy56 => (intro wq hSw; (try dsimp only at hSw); go_split_ands; go_simp; (try with_reducible rfl))
      case rest56 =>
      refine wpAnyH_take (i := 6) (v := ?v57) rfl (by kernel_rfl) (by kernel_rfl) (by kernel_rfl) (fun _ _ _ h => h) (Or.inl ⟨by rfl, ?hy57⟩) (by assumption) ?rest57
      case hy57 => (intro wq hSw; (try dsimp only at hSw); go_split_ands; go_simp; (try with_reducible rfl))
      case rest57 =>
      refine wpAnyH_ready (rs := [7]) (by kernel_rfl) (by simp) ?_
      refine AllReadyH.cons rfl (fun K hK => ?step58) ?more58
      case step58 =>
        go_simp
        refine hK.out _ _ ?hs59 (fun _ => wpAnyH_into (S' := (fun w' : World => (w'.cell? ⟨w.heap.size, 0, none⟩ = some (.int .i64 i) ∧ w'.cell? ⟨w.heap.size, 1, none⟩ = some (.string nm) ∧ w'.cell? ⟨w.heap.size, 2, none⟩ = some (.int .i64 2)) ∧ w'.cell? ⟨W.heap.size, 2, none⟩ = some (.string ⟨#[32, 40, 115, 101, 99, 114, 101, 116, 97, 114, 121, 41]⟩))) (fun _ h => h.1) ?ht59 (fun hHeld => ?wk59))
        case hs59 => exact ⟨by go_simp, by go_simp, by go_simp⟩
        case ht59 => exact ⟨⟨by go_simp, by go_simp, by go_simp⟩, by go_simp⟩
        case wk59 =>
        clear hK K
        refine wpAnyH_take (i := 10) (v := ?v60) rfl (by kernel_rfl) (by kernel_rfl) (by kernel_rfl) (fun _ _ _ h => h) (Or.inl ⟨by rfl, ?hy60⟩) (by assumption) ?rest60
        case hy60 => (intro wq hSw; (try dsimp only at hSw); go_split_ands; go_simp; (try with_reducible rfl))
        case rest60 =>
        refine wpAnyH_take (i := 11) (v := ?v61) rfl (by kernel_rfl) (by kernel_rfl) (by kernel_rfl) (fun _ _ _ h => h) (Or.inl ⟨by rfl, ?hy61⟩) (by assumption) ?rest61
        case hy61 => (intro wq hSw; (try dsimp only at hSw); go_split_ands; go_simp; (try with_reducible rfl))
        case rest61 =>
        refine wpAnyH_take (i := 12) (v := ?v62) rfl (by kernel_rfl) (by kernel_rfl) (by kernel_rfl) (fun _ _ _ h => h) (Or.inl ⟨by rfl, ?hy62⟩) (by assumption) ?rest62
        case hy62 => (intro wq hSw; (try dsimp only at hSw); go_split_ands; go_simp; (try with_reducible rfl))
        case rest62 =>
        refine wpAnyH_take (i := 13) (v := ?v63) rfl (by kernel_rfl) (by kernel_rfl) (by kernel_rfl) (fun _ _ _ h => h) (Or.inl ⟨by rfl, ?hy63⟩) (by assumption) ?rest63
        case hy63 => (intro wq hSw; (try dsimp only at hSw); go_split_ands; go_simp; (try with_reducible rfl))
        case rest63 =>
        refine wpAnyH_done (by kernel_rfl) ?_ _
        go_wp2_with fail
        go_ret
        exact ⟨rfl, hb.trans (Below.mono (by (repeat (first | assumption | exact Below.refl _ _ | refine Below.drew ?_ | refine belowDN ?_ _ | refine Below.alloc ?_ (by first | (simp; done) | (simp; omega) | omega) _))) hb.size)⟩
      case more58 => exact AllReadyH.nil
    case more55 =>
      refine AllReadyH.cons rfl (fun K hK => ?step64) ?more64
      case step64 =>
        go_simp
        refine hK.out _ _ ?hs65 (fun _ => wpAnyH_into (S' := (fun w' : World => (w'.cell? ⟨w.heap.size, 0, none⟩ = some (.int .i64 i) ∧ w'.cell? ⟨w.heap.size, 1, none⟩ = some (.string nm) ∧ w'.cell? ⟨w.heap.size, 2, none⟩ = some (.int .i64 2)) ∧ w'.cell? ⟨W.heap.size, 2, none⟩ = some (.string ⟨#[32, 40, 115, 101, 99, 114, 101, 116, 97, 114, 121, 41]⟩))) (fun _ h => h.1) ?ht65 (fun hHeld => ?wk65))
        case hs65 => exact ⟨by go_simp, by go_simp, by go_simp⟩
        case ht65 => exact ⟨⟨by go_simp, by go_simp, by go_simp⟩, by go_simp⟩
        case wk65 =>
        clear hK K
        refine wpAnyH_take (i := 10) (v := ?v66) rfl (by kernel_rfl) (by kernel_rfl) (by kernel_rfl) (fun _ _ _ h => h) (Or.inl ⟨by rfl, ?hy66⟩) (by assumption) ?rest66
        case hy66 => (intro wq hSw; (try dsimp only at hSw); go_split_ands; go_simp; (try with_reducible rfl))
        case rest66 =>
        refine wpAnyH_take (i := 11) (v := ?v67) rfl (by kernel_rfl) (by kernel_rfl) (by kernel_rfl) (fun _ _ _ h => h) (Or.inl ⟨by rfl, ?hy67⟩) (by assumption) ?rest67
        case hy67 => (intro wq hSw; (try dsimp only at hSw); go_split_ands; go_simp; (try with_reducible rfl))
        case rest67 =>
        refine wpAnyH_ready (rs := [2]) (by kernel_rfl) (by simp) ?_
        refine AllReadyH.cons rfl (fun K hK => ?step68) ?more68
        case step68 =>
          go_simp
          go_at_call 71
          refine (HC.out _).mono ?_
          rintro e w1 ⟨rfl, m, rfl⟩
          go_wp2_with fail
          refine hK.out _ _ hHeld (fun hHeld => ?_)
          clear hK K
          refine wpAnyH_take (i := 3) (v := ?v69) rfl (by kernel_rfl) (by kernel_rfl) (by kernel_rfl) (fun _ _ _ h => h) (Or.inl ⟨by rfl, ?hy69⟩) (by assumption) ?rest69
          case hy69 => (intro wq hSw; (try dsimp only at hSw); go_split_ands; go_simp; (try with_reducible rfl))
          case rest69 =>
          refine wpAnyH_take (i := 6) (v := ?v70) rfl (by kernel_rfl) (by kernel_rfl) (by kernel_rfl) (fun _ _ _ h => h) (Or.inl ⟨by rfl, ?hy70⟩) (by assumption) ?rest70
          case hy70 => (intro wq hSw; (try dsimp only at hSw); go_split_ands; go_simp; (try with_reducible rfl))
          case rest70 =>
          refine wpAnyH_take (i := 12) (v := ?v71) rfl (by kernel_rfl) (by kernel_rfl) (by kernel_rfl) (fun _ _ _ h => h) (Or.inl ⟨by rfl, ?hy71⟩) (by assumption) ?rest71
          case hy71 => (intro wq hSw; (try dsimp only at hSw); go_split_ands; go_simp; (try with_reducible rfl))
          case rest71 =>
          refine wpAnyH_take (i := 13) (v := ?v72) rfl (by kernel_rfl) (by kernel_rfl) (by kernel_rfl) (fun _ _ _ h => h) (Or.inl ⟨by rfl, ?hy72⟩) (by assumption) ?rest72
          case hy72 => (intro wq hSw; (try dsimp only at hSw); go_split_ands; go_simp; (try with_reducible rfl))
          case rest72 =>
          refine wpAnyH_done (by kernel_rfl) ?_ _
          go_wp2_with fail
          go_ret
          exact ⟨rfl, hb.trans (Below.mono (by (repeat (first | assumption | exact Below.refl _ _ | refine Below.drew ?_ | refine belowDN ?_ _ | refine Below.alloc ?_ (by first | (simp; done) | (simp; omega) | omega) _))) hb.size)⟩
        case more68 => exact AllReadyH.nil
      case more64 => exact AllReadyH.nil
  · go_enter Tryd.func48, Tryd.ntmps48
    go_wp2_with fail
    generalize hWW : (w.alloc (Obj.cells #[.int .i64 i, .string nm, .int .i64 3] 60)) = W at *
    have x0 : W.cell? ⟨w.heap.size, 0, none⟩ = some (.int .i64 i) := by rw [← hWW]; simp [go_sem]
    have x1 : W.cell? ⟨w.heap.size, 1, none⟩ = some (.string nm) := by rw [← hWW]; simp [go_sem]
    have x2 : W.cell? ⟨w.heap.size, 2, none⟩ = some (.int .i64 3) := by rw [← hWW]; simp [go_sem]
    have hW : w.heap.size < W.heap.size := by rw [← hWW]; simp
    clear hWW
    have hWp : ∀ (m : Nat) (o : Obj) (i : Nat), ((W.drewN m).alloc o).cell? ⟨w.heap.size, i, none⟩ = W.cell? ⟨w.heap.size, i, none⟩ := fun m o i => World.cell?_alloc_lt _ _ _ hW
    have hWn : ∀ (m : Nat) (c : Array Value) (t : TypeId) (i : Nat), ((W.drewN m).alloc (.cells c t)).cell? ⟨W.heap.size, i, none⟩ = c[i]? := fun m c t i => World.cell?_alloc_new (W.drewN m) c t i
    refine wp_region_held_drew (S := (fun w' : World => w'.cell? ⟨w.heap.size, 0, none⟩ = some (.int .i64 i) ∧ w'.cell? ⟨w.heap.size, 1, none⟩ = some (.string nm) ∧ w'.cell? ⟨w.heap.size, 2, none⟩ = some (.int .i64 3))) (by kernel_rfl) ⟨x0, x1, x2⟩ (fun hHeld => ?_)
    refine wpAnyH_take (i := 0) (v := ?v73) rfl (by kernel_rfl) (by kernel_rfl) (by kernel_rfl) (fun _ _ _ h => h) (Or.inl ⟨by rfl, ?hy73⟩) (by assumption) ?rest73
    case hy73 => (intro wq hSw; (try dsimp only at hSw); go_split_ands; go_simp; (try with_reducible rfl))
    case rest73 =>
    refine wpAnyH_take (i := 1) (v := ?v74) rfl (by kernel_rfl) (by kernel_rfl) (by kernel_rfl) (fun _ _ _ h => h) (Or.inl ⟨by rfl, ?hy74⟩) (by assumption) ?rest74
    case hy74 => (intro wq hSw; (try dsimp only at hSw); go_split_ands; go_simp; (try with_reducible rfl))
    case rest74 =>
    refine wpAnyH_take (i := 4) (v := ?v75) rfl (by kernel_rfl) (by kernel_rfl) (by kernel_rfl) (fun _ _ _ h => h) (Or.inl ⟨by rfl, ?hy75⟩) (by assumption) ?rest75
    case hy75 => (intro wq hSw; (try dsimp only at hSw); go_split_ands; go_simp; (try with_reducible rfl))
    case rest75 =>
    refine wpAnyH_take (i := 5) (v := ?v76) rfl (by kernel_rfl) (by kernel_rfl) (by kernel_rfl) (fun _ _ _ h => h) (Or.inl ⟨by rfl, ?hy76⟩) (by assumption) ?rest76
    case hy76 => (intro wq hSw; (try dsimp only at hSw); go_split_ands; go_simp; (try with_reducible rfl))
    case rest76 =>
    refine wpAnyH_take (i := 8) (v := ?v77) rfl (by kernel_rfl) (by kernel_rfl) (by kernel_rfl) (fun _ _ _ h => h) (Or.inl ⟨by rfl, ?hy77⟩) (by assumption) ?rest77
    case hy77 => (intro wq hSw; (try dsimp only at hSw); go_split_ands; go_simp; (try with_reducible rfl))
    case rest77 =>
    refine wpAnyH_take (i := 9) (v := ?v78) rfl (by kernel_rfl) (by kernel_rfl) (by kernel_rfl) (fun _ _ _ h => h) (Or.inl ⟨by rfl, ?hy78⟩) (by assumption) ?rest78
    case hy78 => (intro wq hSw; (try dsimp only at hSw); go_split_ands; go_simp; (try with_reducible rfl))
    case rest78 =>
    refine wpAnyH_ready (rs := [2, 7]) (by kernel_rfl) (by simp) ?_
    refine AllReadyH.cons rfl (fun K hK => ?step79) ?more79
    case step79 =>
      go_simp
      go_at_call 71
      refine (HC.out _).mono ?_
      rintro e w1 ⟨rfl, m, rfl⟩
      go_wp2_with fail
      refine hK.out _ _ hHeld (fun hHeld => ?_)
      clear hK K
      refine wpAnyH_take (i := 3) (v := ?v80) rfl (by kernel_rfl) (by kernel_rfl) (by kernel_rfl) (fun _ _ _ h => h) (Or.inl ⟨by rfl, ?hy80⟩) (by assumption) ?rest80
      case hy80 => (intro wq hSw; (try dsimp only at hSw); go_split_ands; go_simp; (try with_reducible rfl))
      case rest80 =>
      refine wpAnyH_take (i := 6) (v := ?v81) rfl (by kernel_rfl) (by kernel_rfl) (by kernel_rfl) (fun _ _ _ h => h) (Or.inl ⟨by rfl, ?hy81⟩) (by assumption) ?rest81
      case hy81 => (intro wq hSw; (try dsimp only at hSw); go_split_ands; go_simp; (try with_reducible rfl))
      case rest81 =>
      refine wpAnyH_ready (rs := [7]) (by kernel_rfl) (by simp) ?_
      refine AllReadyH.cons rfl (fun K hK => ?step82) ?more82
      case step82 =>
        go_simp
        refine hK.out _ _ ?hs83 (fun _ => wpAnyH_into (S' := (fun w' : World => (w'.cell? ⟨w.heap.size, 0, none⟩ = some (.int .i64 i) ∧ w'.cell? ⟨w.heap.size, 1, none⟩ = some (.string nm) ∧ w'.cell? ⟨w.heap.size, 2, none⟩ = some (.int .i64 3)) ∧ w'.cell? ⟨W.heap.size, 3, none⟩ = some (.string ⟨#[32, 40, 116, 114, 101, 97, 115, 117, 114, 101, 114, 41]⟩))) (fun _ h => h.1) ?ht83 (fun hHeld => ?wk83))
        case hs83 => exact ⟨by go_simp, by go_simp, by go_simp⟩
        case ht83 => exact ⟨⟨by go_simp, by go_simp, by go_simp⟩, by go_simp⟩
        case wk83 =>
        clear hK K
        refine wpAnyH_take (i := 10) (v := ?v84) rfl (by kernel_rfl) (by kernel_rfl) (by kernel_rfl) (fun _ _ _ h => h) (Or.inl ⟨by rfl, ?hy84⟩) (by assumption) ?rest84
        case hy84 => (intro wq hSw; (try dsimp only at hSw); go_split_ands; go_simp; (try with_reducible rfl))
        case rest84 =>
        refine wpAnyH_take (i := 11) (v := ?v85) rfl (by kernel_rfl) (by kernel_rfl) (by kernel_rfl) (fun _ _ _ h => h) (Or.inl ⟨by rfl, ?hy85⟩) (by assumption) ?rest85
        case hy85 => (intro wq hSw; (try dsimp only at hSw); go_split_ands; go_simp; (try with_reducible rfl))
        case rest85 =>
        refine wpAnyH_take (i := 12) (v := ?v86) rfl (by kernel_rfl) (by kernel_rfl) (by kernel_rfl) (fun _ _ _ h => h) (Or.inl ⟨by rfl, ?hy86⟩) (by assumption) ?rest86
        case hy86 => (intro wq hSw; (try dsimp only at hSw); go_split_ands; go_simp; (try with_reducible rfl))
        case rest86 =>
        refine wpAnyH_take (i := 13) (v := ?v87) rfl (by kernel_rfl) (by kernel_rfl) (by kernel_rfl) (fun _ _ _ h => h) (Or.inl ⟨by rfl, ?hy87⟩) (by assumption) ?rest87
        case hy87 => (intro wq hSw; (try dsimp only at hSw); go_split_ands; go_simp; (try with_reducible rfl))
        case rest87 =>
        refine wpAnyH_done (by kernel_rfl) ?_ _
        go_wp2_with fail
        go_ret
        exact ⟨rfl, hb.trans (Below.mono (by (repeat (first | assumption | exact Below.refl _ _ | refine Below.drew ?_ | refine belowDN ?_ _ | refine Below.alloc ?_ (by first | (simp; done) | (simp; omega) | omega) _))) hb.size)⟩
      case more82 => exact AllReadyH.nil
    case more79 =>
      refine AllReadyH.cons rfl (fun K hK => ?step88) ?more88
      case step88 =>
        go_simp
        refine hK.out _ _ ?hs89 (fun _ => wpAnyH_into (S' := (fun w' : World => (w'.cell? ⟨w.heap.size, 0, none⟩ = some (.int .i64 i) ∧ w'.cell? ⟨w.heap.size, 1, none⟩ = some (.string nm) ∧ w'.cell? ⟨w.heap.size, 2, none⟩ = some (.int .i64 3)) ∧ w'.cell? ⟨W.heap.size, 3, none⟩ = some (.string ⟨#[32, 40, 116, 114, 101, 97, 115, 117, 114, 101, 114, 41]⟩))) (fun _ h => h.1) ?ht89 (fun hHeld => ?wk89))
        case hs89 => exact ⟨by go_simp, by go_simp, by go_simp⟩
        case ht89 => exact ⟨⟨by go_simp, by go_simp, by go_simp⟩, by go_simp⟩
        case wk89 =>
        clear hK K
        refine wpAnyH_take (i := 10) (v := ?v90) rfl (by kernel_rfl) (by kernel_rfl) (by kernel_rfl) (fun _ _ _ h => h) (Or.inl ⟨by rfl, ?hy90⟩) (by assumption) ?rest90
        case hy90 => (intro wq hSw; (try dsimp only at hSw); go_split_ands; go_simp; (try with_reducible rfl))
        case rest90 =>
        refine wpAnyH_take (i := 11) (v := ?v91) rfl (by kernel_rfl) (by kernel_rfl) (by kernel_rfl) (fun _ _ _ h => h) (Or.inl ⟨by rfl, ?hy91⟩) (by assumption) ?rest91
        case hy91 => (intro wq hSw; (try dsimp only at hSw); go_split_ands; go_simp; (try with_reducible rfl))
        case rest91 =>
        refine wpAnyH_ready (rs := [2]) (by kernel_rfl) (by simp) ?_
        refine AllReadyH.cons rfl (fun K hK => ?step92) ?more92
        case step92 =>
          go_simp
          go_at_call 71
          refine (HC.out _).mono ?_
          rintro e w1 ⟨rfl, m, rfl⟩
          go_wp2_with fail
          refine hK.out _ _ hHeld (fun hHeld => ?_)
          clear hK K
          refine wpAnyH_take (i := 3) (v := ?v93) rfl (by kernel_rfl) (by kernel_rfl) (by kernel_rfl) (fun _ _ _ h => h) (Or.inl ⟨by rfl, ?hy93⟩) (by assumption) ?rest93
          case hy93 => (intro wq hSw; (try dsimp only at hSw); go_split_ands; go_simp; (try with_reducible rfl))
          case rest93 =>
          refine wpAnyH_take (i := 6) (v := ?v94) rfl (by kernel_rfl) (by kernel_rfl) (by kernel_rfl) (fun _ _ _ h => h) (Or.inl ⟨by rfl, ?hy94⟩) (by assumption) ?rest94
          case hy94 => (intro wq hSw; (try dsimp only at hSw); go_split_ands; go_simp; (try with_reducible rfl))
          case rest94 =>
          refine wpAnyH_take (i := 12) (v := ?v95) rfl (by kernel_rfl) (by kernel_rfl) (by kernel_rfl) (fun _ _ _ h => h) (Or.inl ⟨by rfl, ?hy95⟩) (by assumption) ?rest95
          case hy95 => (intro wq hSw; (try dsimp only at hSw); go_split_ands; go_simp; (try with_reducible rfl))
          case rest95 =>
          refine wpAnyH_take (i := 13) (v := ?v96) rfl (by kernel_rfl) (by kernel_rfl) (by kernel_rfl) (fun _ _ _ h => h) (Or.inl ⟨by rfl, ?hy96⟩) (by assumption) ?rest96
          case hy96 => (intro wq hSw; (try dsimp only at hSw); go_split_ands; go_simp; (try with_reducible rfl))
          case rest96 =>
          refine wpAnyH_done (by kernel_rfl) ?_ _
          go_wp2_with fail
          go_ret
          exact ⟨rfl, hb.trans (Below.mono (by (repeat (first | assumption | exact Below.refl _ _ | refine Below.drew ?_ | refine belowDN ?_ _ | refine Below.alloc ?_ (by first | (simp; done) | (simp; omega) | omega) _))) hb.size)⟩
        case more92 => exact AllReadyH.nil
      case more88 => exact AllReadyH.nil
theorem append_nil (s : ByteArray) : s ++ (⟨#[]⟩ : ByteArray) = s := by apply ByteArray.ext; simp
def offW (o : Int) : ByteArray := if o = 1 then ⟨#[40, 99, 104, 97, 105, 114, 41]⟩ else if o = 2 then ⟨#[40, 115, 101, 99, 114, 101, 116, 97, 114, 121, 41]⟩ else if o = 3 then ⟨#[40, 116, 114, 101, 97, 115, 117, 114, 101, 114, 41]⟩ else ⟨#[]⟩
theorem officeWord (n : Int) (w : World) :
    Calls Tryd.prog 67 #[.int .i64 n] w fun e w' => e = .returned (.string (offW n)) ∧ w = w' := by
  by_cases h1 : n = 1
  · subst h1
    go_enter Tryd.func67, Tryd.ntmps67
    go_wp2_with fail
    go_ret
    exact ⟨rfl, rfl⟩
  · by_cases h2 : n = 2
    · subst h2
      go_enter Tryd.func67, Tryd.ntmps67
      go_wp2_with fail
      go_ret
      exact ⟨rfl, rfl⟩
    · by_cases h3 : n = 3
      · subst h3
        go_enter Tryd.func67, Tryd.ntmps67
        go_wp2_with fail
        go_ret
        exact ⟨rfl, rfl⟩
      · have H := Lib.hid (show offW n = ⟨#[]⟩ by unfold offW; rw [if_neg h1, if_neg h2, if_neg h3])
        have g1 : (n == 1) = false := by simpa using h1
        have g2 : (n == 2) = false := by simpa using h2
        have g3 : (n == 3) = false := by simpa using h3
        clear h1 h2 h3
        go_enter Tryd.func67, Tryd.ntmps67
        go_wp2_with fail
        go_ret
        exact ⟨by rw [H.out]; rfl, rfl⟩
theorem off_word (s : ByteArray) (o : Int) (h : 1 ≤ o ∧ o ≤ 3) : s ++ ⟨#[32]⟩ ++ offW o = s ++ offT o := by
  have c : o = 1 ∨ o = 2 ∨ o = 3 := by omega
  rcases c with rfl | rfl | rfl <;> (rw [ByteArray.append_assoc]; congr 1)
theorem offW_size (o : Int) : (offW o).size ≤ 11 := by
  unfold offW
  split
  · decide
  · split
    · decide
    · split <;> decide
set_option maxRecDepth 100000 in
set_option maxHeartbeats 4000000 in
theorem memberLine (r : M) (w : World) (h0 : -999999 ≤ r.num) (h1 : r.num ≤ 999999) (hn : r.name.size ≤ 1048576) (ho : 0 ≤ r.off ∧ r.off ≤ 3)
    (HI : ∀ W : World, Below w.heap.size w W → Calls Tryd.prog 66 #[.int .i64 r.num] W fun e w' => e = .returned (.string (num r.num)) ∧ Below W.heap.size W w') :
    Calls Tryd.prog 40 #[.agg #[.int .i64 r.num, .string r.name, .int .i64 r.off]] w fun e w' => e = .returned (.string (lineM r)) ∧ Below w.heap.size w w' := by
  have hA := num_size r.num h0 h1
  have HC := Lib.hid HI
  obtain ⟨i, nm, o⟩ := r
  simp only at h0 h1 hn ho hA HC ⊢
  have HX := Lib.hid (LMember.box w ⟨i, nm, o⟩ 60)
  have hb := (Below.refl w.heap.size w).alloc (Nat.le_refl _) (Obj.cells #[.int .i64 i, .string nm, .int .i64 o] 60)
  have hW : w.heap.size < (w.alloc (Obj.cells #[.int .i64 i, .string nm, .int .i64 o] 60)).heap.size := by simp
  have f1 : ¬ (9223372036854775807 < (num i).size + 1) := by omega
  have f2 : ¬ (9223372036854775807 < (num i).size + 1 + nm.size) := by omega
  have HL := Lib.hid (show lineM ⟨i, nm, o⟩ = num i ++ ⟨#[32]⟩ ++ nm ++ offT o from rfl)
  rw [HL.out]
  clear HI
  go_enter Tryd.func40, Tryd.ntmps40
  go_wp2_with fail
  generalize (w.alloc (Obj.cells #[.int .i64 i, .string nm, .int .i64 o] 60)) = W at *
  obtain ⟨x0, x1, x2⟩ := LMember.cells0 HX.out
  simp only at x0 x1 x2
  have HK := Lib.hid (show ∀ w' : World, Below W.heap.size W w' → Below W.heap.size W w' ∧ w'.cell? ⟨w.heap.size, 0, none⟩ = some (.int .i64 i) ∧ w'.cell? ⟨w.heap.size, 1, none⟩ = some (.string nm) from fun w' hb => ⟨hb, by rw [hb.cell hW]; exact x0, by rw [hb.cell hW]; exact x1⟩)
  go_region_held3 (fun w' => Below W.heap.size W w' ∧ w'.cell? ⟨w.heap.size, 0, none⟩ = some (.int .i64 i) ∧ w'.cell? ⟨w.heap.size, 1, none⟩ = some (.string nm)) ((refine HK.out _ ?_; (repeat (first | assumption | exact Below.refl _ _ | refine Below.drew ?_ | refine Below.alloc ?_ (by first | (simp; done) | (simp; omega) | omega) _)))) (first | ((go_at_call 66; refine (HC.out _ (hb.trans (Below.mono (by (repeat (first | assumption | exact Below.refl _ _ | refine Below.drew ?_ | refine Below.alloc ?_ (by first | (simp; done) | (simp; omega) | omega) _))) hb.size))).mono ?_; rintro e w1 ⟨rfl, hb1⟩; have hB1 : Below W.heap.size W w1 := Below.trans (by (repeat (first | assumption | exact Below.refl _ _ | refine Below.drew ?_ | refine Below.alloc ?_ (by first | (simp; done) | (simp; omega) | omega) _))) (hb1.mono (by first | (simp; done) | (simp; omega) | omega)); have hz1 := hB1.size; clear hb1)) | fail)
  have HX1 := Lib.hid (HX.out.below LMember.rec hB1 hW)
  have hbw := hb.trans (hB1.mono hb.size)
  clear x0 x1 x2 HK HC
  obtain ⟨x0, x1, x2⟩ := LMember.cells0 HX1.out
  simp only at x0 x1 x2
  have hF : (num i ++ ⟨#[32]⟩ ++ nm : ByteArray).size ≤ 1048600 := by
    rw [ByteArray.size_append, ByteArray.size_append, show (⟨#[32]⟩ : ByteArray).size = 1 from rfl]; omega
  obtain ⟨F0, hF0⟩ : ∃ F : ByteArray, F = num i ++ ⟨#[32]⟩ ++ nm := ⟨_, rfl⟩
  have HL2 := Lib.hid (show F0 ++ offT o = num i ++ ⟨#[32]⟩ ++ nm ++ offT o by rw [hF0])
  rw [← hF0] at hF ⊢
  clear hF0
  by_cases hz : o = 0
  · subst hz
    have HE := Lib.hid (show F0 ++ offT 0 = F0 from append_nil F0)
    go_wp2_with fail
    go_ret
    exact ⟨congrArg (fun b => Ending.returned (.string b)) (HE.out.symm.trans HL2.out), hbw⟩
  · have HE := Lib.hid (off_word F0 o (by omega))
    have hz2 : (o == 0) = false := by simpa using hz
    have hw := offW_size o
    have HZ := Lib.hid (officeWord o)
    go_wp2_with fail
    refine (HZ.out _).mono ?_
    rintro e w2 ⟨rfl, rfl⟩
    generalize offW o = OW at *
    go_wp2_with fail
    go_ret
    exact ⟨congrArg (fun b => Ending.returned (.string b)) (HE.out.trans HL2.out), hbw⟩
def textM (xs : List M) : ByteArray := xs.foldl (fun s r => s ++ lineM r ++ ⟨#[10]⟩) ⟨#[]⟩
theorem text_next (xs : List M) (k : Nat) (h : k < xs.length) : textM (xs.take (k + 1)) = textM (xs.take k) ++ lineM xs[k] ++ ⟨#[10]⟩ := by
  unfold textM
  rw [List.take_succ_eq_append_getElem h, List.foldl_append]
  rfl
theorem word_size {s : ByteArray} (h : isWordB s = true) : s.size ≤ 10 := by
  unfold isWordB at h
  simp only [Bool.and_eq_true, decide_eq_true_eq] at h
  exact h.1.2
theorem text_size (xs : List M) (h : ∀ x ∈ xs, okB x = true) : ∀ k, k ≤ xs.length → (textM (xs.take k)).size ≤ k * 45
  | 0, _ => Nat.le_refl 0
  | k + 1, hk => by
    have ih := text_size xs h k (by omega)
    obtain ⟨p1, p2, p3⟩ := ok_parts (h xs[k] (List.getElem_mem (by omega)))
    have hl := line_size xs[k] (by omega) (by omega)
    have hw := word_size p2
    rw [text_next xs k (by omega), ByteArray.size_append, ByteArray.size_append]
    have e : (⟨#[10]⟩ : ByteArray).size = 1 := rfl
    omega
theorem all_ok {xs : List M} (h : goodB xs = true) : ∀ x ∈ xs, okB x = true := fun x hx => by
  obtain ⟨i, hi, rfl⟩ := List.getElem_of_mem hx
  obtain ⟨⟨r, hr, ho, _⟩, _⟩ := (good_of h).2 i hi
  rw [List.getElem?_eq_getElem hi] at hr
  rw [Option.some.inj hr]
  exact ho
def Ans (z0 : List M) (r0 : ByteArray) (r1 : Bool) : Prop := (goodB z0 = true ∧ r0 = textM z0 ∧ r1 = true) ∨ (goodB z0 = false ∧ r0 = ⟨#[]⟩ ∧ r1 = false)
theorem same {z0 : List LMember.R} {r0 s0 : ByteArray} {r1 s1 : Bool} (h : Ans z0 r0 r1) (h' : Ans z0 s0 s1) : r0 = s0 ∧ r1 = s1 := by
  rcases h with ⟨g, rfl, rfl⟩ | ⟨g, rfl, rfl⟩ <;> rcases h' with ⟨g', rfl, rfl⟩ | ⟨g', rfl, rfl⟩
  · exact ⟨rfl, rfl⟩
  · rw [g] at g'; cases g'
  · rw [g] at g'; cases g'
  · exact ⟨rfl, rfl⟩
def Post (z0 : List LMember.R) (w : World) (e : Ending) (w' : World) : Prop := ∃ r0 r1, e = .returned (.tuple #[.string r0, .bool r1]) ∧ Ans z0 r0 r1 ∧ Below w.heap.size w w'
set_option maxRecDepth 100000 in
set_option maxHeartbeats 800000 in
theorem l3Text (v0 : Value) (z0 : List M) (w : World) (h0 : Is LMember.rec w v0 z0) (hok : ∀ x ∈ z0, okB x = true) (l0 : z0.length ≤ 12) :
    Calls Tryd.prog 41 #[v0] w fun e w' => e = .returned (.string (textM z0)) ∧ Below w.heap.size w w' := by
  have HT := Lib.hid (text_size z0 hok)
  have HK := Lib.hid hok
  obtain ⟨a, cp, rfl, h0⟩ := h0
  have hc := h0.at_ LMember.rec
  obtain ⟨n, hn⟩ : ∃ n, n = z0.length := ⟨_, rfl⟩
  have hnb : n ≤ cp := by have := h0.1; omega
  have hn2 := h0.2.1
  unfold maxLen at hn2
  have HN := Lib.hid hn.symm
  rw [← hn]
  have hnle : n ≤ z0.length := by omega
  clear hn h0
  clear hok
  have l1 : n ≤ 12 := by have := HN.out; omega
  go_enter Tryd.func41, Tryd.ntmps41
  go_wp2_with fail
  go_loopw [3, 4] (fun s i wr => ∃ (k : Nat) (S : ByteArray), k ≤ n ∧ i = .int .i64 k ∧ s = .string S ∧ Hid (S = textM (z0.take k)) ∧ S.size ≤ 540 ∧ Below w.heap.size w wr) (fun _ i _ => n - (intOf i).toNat)
  case atStart => exact ⟨0, ⟨#[]⟩, Nat.zero_le _, rfl, rfl, Lib.hid rfl, by decide, Below.refl _ _⟩
  case round =>
    obtain ⟨k, S, hk, rfl, rfl, HS, hS, hb⟩ := hrel
    by_cases hlt : k < n
    · have hx : k < z0.length := by omega
      obtain ⟨b, o, rfl, hbl, hcell0⟩ := hc.out k z0[k] (List.getElem?_eq_getElem hx)
      obtain ⟨q0, q1, q2⟩ := LMember.cells (hcell0.below LMember.rec hb hbl)
      simp only [LMember.rec_n] at q0 q1 q2
      obtain ⟨p1, p2, p3⟩ := ok_parts (HK.out z0[k] (List.getElem_mem hx))
      have HTN := Lib.hid (text_next z0 k hx)
      have HLn := Lib.hid (fun W => MLine.l3Line z0[k] W (by omega) (by omega) (by have := word_size p2; omega) p3)
      have hl := line_size z0[k] (by omega) (by omega)
      have hw2 := word_size p2
      have hz := HT.out (k + 1) (by omega)
      rw [HTN.out, ← HS.out, ByteArray.size_append, ByteArray.size_append, show (⟨#[10]⟩ : ByteArray).size = 1 from rfl] at hz
      have k0 : 0 ≤ (k : Int) := by omega
      have k1 : (k : Int) < (n : Int) := by omega
      clear hcell0 p1 p2 p3
      generalize z0[k] = X at *
      go_wp2_with fail
      refine (HLn.out _).mono ?_
      rintro e w1 ⟨rfl, hb1⟩
      have hb2 := hb.trans (hb1.mono hb.size)
      have HE := Lib.hid (show S ++ lineM X ++ ⟨#[10]⟩ = textM (z0.take (k + 1)) by rw [HTN.out, HS.out])
      have hsz : (S ++ lineM X ++ ⟨#[10]⟩ : ByteArray).size ≤ 540 := by rw [ByteArray.size_append, ByteArray.size_append, show (⟨#[10]⟩ : ByteArray).size = 1 from rfl]; omega
      have HSZ := Lib.hid hsz
      clear q0 q1 q2 hb1 hsz HLn
      generalize lineM X = LX at *
      go_wp2_with fail
      go_roundw
      case rel => exact ⟨k + 1, _, by omega, by go_num, rfl, HE, HSZ.out, hb2⟩
      case measure => simp [intOf]; omega
    · have hkn : z0.take k = z0 := List.take_of_length_le (by have := HN.out; omega)
      have HF := Lib.hid (show S = textM z0 by rw [HS.out, hkn])
      clear hkn
      go_wp2_with fail
      go_ret
      exact ⟨by rw [HF.out]; rfl, hb⟩
set_option maxRecDepth 100000 in
set_option maxHeartbeats 800000 in
theorem spec (v0 : Value) (z0 : List LMember.R) (w : World) (h0 : IsS LMember.rec w v0 z0) (f0 : ∀ x ∈ z0, LMember.Fine x) (l0 : z0.length ≤ 1048576) :
    Calls Tryd.prog 16 #[v0] w (Post z0 w) := by
  have h1 := IsS.is LMember.rec h0
  have HI := Lib.hid h1
  have HG := Lib.hid (MemG.l3Good v0 z0 w h1 f0)
  obtain ⟨b, o, c, rfl, _⟩ := h0
  clear h1 f0
  go_enter Tryd.func16, Tryd.ntmps16
  go_wp2_with fail
  refine HG.out.mono ?_
  rintro e w1 ⟨rfl, hb1⟩
  cases hg : goodB z0 with
  | false =>
    have HA := Lib.hid (show Ans z0 ⟨#[]⟩ false from .inr ⟨hg, rfl, rfl⟩)
    clear hg
    go_wp2_with fail
    go_ret2
    exact ⟨_, _, rfl, HA.out, hb1⟩
  | true =>
    have HA := Lib.hid (show Ans z0 (textM z0) true from .inl ⟨hg, rfl, rfl⟩)
    have HO := Lib.hid (all_ok hg)
    have h8 := (good_of hg).1
    have HI1 := Lib.hid (HI.out.below LMember.rec hb1)
    clear hg
    go_wp2_with fail
    refine (l3Text _ z0 _ HI1.out HO.out h8).mono ?_
    rintro e w2 ⟨rfl, hb2⟩
    have hb3 := hb1.trans (hb2.mono hb1.size)
    go_wp2_with fail
    go_ret2
    exact ⟨_, _, rfl, HA.out, hb3⟩
theorem itoaC (n : Int) (w : World) (h0 : 0 ≤ n) (h1 : n ≤ 99) :
    Calls Tryd.prog 66 #[.int .i64 n] w fun e w' => e = .returned (.string (num n)) ∧ Below w.heap.size w w' := by
  obtain ⟨m, rfl⟩ := Int.eq_ofNat_of_zero_le h0
  refine (Tryd.strconv_Itoa_small m (by omega) w).mono fun e w' ⟨he, hw⟩ => ⟨?_, by subst hw; exact Below.refl _ _⟩
  rw [he]
  have : Lib.itoa (m : Int) = Lib.decDigits m := by unfold Lib.itoa; rw [if_neg (by omega)]; rfl
  unfold num
  rw [this]
set_option maxRecDepth 100000 in
set_option maxHeartbeats 1600000 in
theorem impl (v0 : Value) (z0 : List LMember.R) (w : World) (h0 : IsS LMember.rec w v0 z0) (f0 : ∀ x ∈ z0, LMember.Fine x) (l0 : z0.length ≤ 1048576) :
    Calls Tryd.prog 15 #[v0] w (Post z0 w) := by
  have h1 := IsS.is LMember.rec h0
  have HG := Lib.hid (MemI.isValidMembers v0 z0 w h1 f0)
  have HIs := Lib.hid h1
  clear h0
  obtain ⟨a, cp, rfl, h1⟩ := h1
  have hc := h1.at_ LMember.rec
  obtain ⟨n, hn⟩ : ∃ n, n = z0.length := ⟨_, rfl⟩
  have hnb : n ≤ cp := by have := h1.1; omega
  have hn2 := h1.2.1
  unfold maxLen at hn2
  have HN := Lib.hid hn.symm
  rw [← hn] at HG HIs ⊢
  have hnle : n ≤ z0.length := by omega
  clear hn h1
  clear f0
  go_enter Tryd.func15, Tryd.ntmps15
  go_wp2_with fail
  refine HG.out.mono ?_
  rintro e w1 ⟨rfl, hb1⟩
  cases hg : goodB z0 with
  | false =>
    have HA := Lib.hid (show Ans z0 ⟨#[]⟩ false from .inr ⟨hg, rfl, rfl⟩)
    clear hg
    go_wp2_with fail
    go_ret2
    exact ⟨_, _, rfl, HA.out, hb1⟩
  | true =>
    have HA := Lib.hid (show Ans z0 (textM z0) true from .inl ⟨hg, rfl, rfl⟩)
    have HK := Lib.hid (all_ok hg)
    have HT := Lib.hid (text_size z0 (all_ok hg))
    have h8 : n ≤ 12 := by have := (good_of hg).1; have := HN.out; omega
    clear hg
    go_wp2_with fail
    go_loopw [4, 12] (fun s i wr => ∃ (k : Nat) (S : ByteArray), k ≤ n ∧ i = .int .i64 k ∧ s = .string S ∧ Hid (S = textM (z0.take k)) ∧ S.size ≤ 540 ∧ Below w.heap.size w wr) (fun _ i _ => n - (intOf i).toNat)
    case atStart => exact ⟨0, ⟨#[]⟩, Nat.zero_le _, rfl, rfl, Lib.hid rfl, by decide, hb1⟩
    case round =>
      clear hb1
      obtain ⟨k, S, hk, rfl, rfl, HS, hS, hb⟩ := hrel
      by_cases hlt : k < n
      · have hx : k < z0.length := by have := HN.out; omega
        obtain ⟨b, o, rfl, hbl, hcell0⟩ := hc.out k z0[k] (List.getElem?_eq_getElem hx)
        obtain ⟨q0, q1, q2⟩ := LMember.cells (hcell0.below LMember.rec hb hbl)
        simp only [LMember.rec_n] at q0 q1 q2
        obtain ⟨p1, p2, p3⟩ := ok_parts (HK.out z0[k] (List.getElem_mem hx))
        have HTN := Lib.hid (text_next z0 k hx)
        have HLn := Lib.hid (fun W => MLine.memberLine z0[k] W (by omega) (by omega) (by have := word_size p2; omega) p3 (fun W' _ => itoaC _ W' (by omega) (by omega)))
        have hl := line_size z0[k] (by omega) (by omega)
        have hw2 := word_size p2
        have hz := HT.out (k + 1) (by have := HN.out; omega)
        rw [HTN.out, ← HS.out, ByteArray.size_append, ByteArray.size_append, show (⟨#[10]⟩ : ByteArray).size = 1 from rfl] at hz
        have k0 : 0 ≤ (k : Int) := by omega
        have k1 : (k : Int) < (n : Int) := by omega
        clear hcell0 p1 p2 p3
        generalize z0[k] = X at *
        go_wp2_with fail
        have hb0 := hb.alloc hb.size (Obj.cells #[.int .i64 X.num, .string X.name, .int .i64 X.off] 60)
        refine (HLn.out _).mono ?_
        rintro e w2 ⟨rfl, hb2⟩
        have hb3 := hb0.trans (hb2.mono hb0.size)
        have HE := Lib.hid (show S ++ (lineM X ++ ⟨#[10]⟩) = textM (z0.take (k + 1)) by rw [HTN.out, HS.out, ByteArray.append_assoc])
        have HSZ := Lib.hid (show (S ++ (lineM X ++ ⟨#[10]⟩) : ByteArray).size ≤ 540 by rw [ByteArray.size_append, ByteArray.size_append, show (⟨#[10]⟩ : ByteArray).size = 1 from rfl]; omega)
        clear q0 q1 q2 hb2 HLn
        generalize lineM X = LX at *
        go_wp2_with fail
        go_roundw
        case rel => exact ⟨k + 1, _, by omega, by go_num, rfl, HE, HSZ.out, hb3⟩
        case measure => simp [intOf]; omega
      · have hkn : z0.take k = z0 := List.take_of_length_le (by have := HN.out; omega)
        have HF := Lib.hid (show S = textM z0 by rw [HS.out, hkn])
        clear hkn
        go_wp2_with fail
        go_ret2
        exact ⟨_, _, rfl, by rw [HF.out]; exact HA.out, hb⟩
end Go.Proofs.YtneecokjhmnagaaDoor.MLine
