/- Texts joined: FProgHolds. -/
import Derived.Test.YtjpoacffnpgjdaaGreatJ14
import Derived.Test.YtjpoacffnpgjdaaGreatJ20
/- Whether an end is one of those that an iterator yields: holds, by the program. -/
namespace Go.Proofs.YtjpoacffnpgjdaaGreat
open Go Go.RowKit Go.Shelf
attribute [local go_sem] Oper.semAt_some

def isE (h i : Int) (a : Int × Int) : Bool := a.1 == h && a.2 == i
set_option maxRecDepth 100000 in
set_option maxHeartbeats 4000000 in
theorem holdsE_c (things : Value) (h i : Int) (xs : List (Int × Int)) (w : World) (hG : Gives Tryz.prog w.heap.size 0 fireU things encE xs w) :
    Calls Tryz.prog 83 #[things, .agg #[.int .i64 h, .int .i64 i]] w fun e w' => e = .returned (.bool (xs.any (isE h i))) ∧ Below w.heap.size w w' := by
  obtain ⟨gf, lb, rfl, -⟩ : ∃ gf lb, things = .func (.func gf) #[] lb ∧ True := by obtain ⟨gf, lb, h, _⟩ := hG; exact ⟨gf, lb, h, trivial⟩
  obtain ⟨q0, q1, qs, qb⟩ := two_new' w (.cells #[.int .i64 h, .int .i64 i] 140) (.cells #[.bool false] 4)
  (refine (callsIn_wide (n := 9)).1 (callsIn_of_wp_marks Tryz.func83 rfl trivial ?_ rfl); simp only [Tryz.ntmps83, List.size_toArray, List.length_cons, List.length_nil, Nat.reduceAdd, Nat.reduceSub, Array.replicate_succ, Array.replicate_zero, List.push_toArray, List.append_toArray, List.nil_append, List.cons_append])
  gi_wp2_with fail
  have QS := Lib.hid qs
  generalize (w.alloc _).alloc _ = W0 at q0 q1 qs QS qb ⊢
  refine wpIn_over (U := fireU) (n₀ := w.heap.size) (B := 0) (hG.later qb) rfl (fun _ => rfl) (by omega)
    (fun pre W' => (W'.heap[w.heap.size]? = some (.cells #[.int .i64 h, .int .i64 i] 140) ∧ W'.heap[w.heap.size + 1]? = some (.cells #[.bool false] 4)) ∧ Below w.heap.size w W' ∧ pre.any (isE h i) = false)
    (fun c _ W' => (c = .ret ∧ xs.any (isE h i) = true) ∧ W'.heap[w.heap.size + 1]? = some (.cells #[.bool true] 4) ∧ Below w.heap.size w W')
    (((own_cells _ _ _ fun _ => rfl).and (own_cells _ _ _ fun _ => rfl)).and ((ownFrom_below (Nat.le_refl _) (by omega)).and (fun _ _ _ _ hs _ _ => hs)))
    (fun c => OwnFrom.and (fun _ _ _ _ hs _ _ => hs) ((own_cells _ _ _ fun _ => rfl).and (ownFrom_below (Nat.le_refl _) (by omega)))) ⟨⟨q0, q1⟩, qb, rfl⟩
    (fun x a' W' => ∃ Bx, w.heap.size + 1 + 1 ≤ Bx ∧ W'.heap[Bx]? = some (.cells #[.int .i64 x.1, .int .i64 x.2] 140) ∧ a' = { tmps := #[.func (.func gf) #[] lb, .agg #[.int .i64 h, .int .i64 i], undef, .pointer (some ⟨w.heap.size, 0, none⟩), .pointer (some ⟨w.heap.size + 1, 0, none⟩), .pointer (some ⟨Bx, 0, none⟩), .func (.func gf) #[] lb, .agg #[.int .i64 x.1, .int .i64 x.2], undef, undef, undef], defers := [] })
    (fun x a' s X Y row hs hg hrow => by
      obtain ⟨Bx, h1, h2, h3⟩ := hs
      exact ⟨Bx, h1, own_cells (β := Unit) W0.heap.size Bx (fun _ => .cells #[.int .i64 x.1, .int .i64 x.2] 140) (fun _ => rfl) s X Y row h2 hg hrow, h3⟩) ?assign ?body ?done ?stop
  case assign =>
    rintro l pre x W' K hl ⟨⟨i0, i1⟩, i2, i3⟩ hp hK
    unfold encE
    gi_wp2
    have ha := below_alloc W' (.cells #[.int .i64 x.1, .int .i64 x.2] 140)
    have hz := size_of_block i1
    have hsz := i2.size
    exact hK _ _ (keeps_of_below ha) (Kp.of_below ha (by omega)) ⟨⟨(ha.block _ (size_of_block i0)).trans i0, (ha.block _ hz).trans i1⟩, below_then i2 ha, i3⟩ ⟨W'.heap.size, by omega, heap_alloc_new _ _, rfl⟩
  case done =>
    rintro D W' hD ⟨⟨i0, i1⟩, i2, i3⟩ hK
    have HB := Lib.hid i3
    have c1 := Joins.cell_of_block i1 0
    have f1 := Joins.unfrozen_of_block i1 0
    have zz := size_of_block i1
    clear i3
    gi_wp2_with fail
    have hne : D ≠ w.heap.size + 1 := by omega
    have hK2 : (W'.setCell ⟨w.heap.size + 1, 0, none⟩ (.bool false)).heap[D]? = some (.deferred (some [])) := (put_other _ hne).trans hK
    have B2 : Below w.heap.size w (W'.setCell ⟨w.heap.size + 1, 0, none⟩ (.bool false)) := below_set i2 (by omega)
    have r1 := put1b (.bool false) i1
    generalize W'.setCell ⟨w.heap.size + 1, 0, none⟩ (.bool false) = W2 at hK2 B2 r1 ⊢
    gi_wp2
    refine ⟨by simp, .inl ⟨_, _, rfl, run_takeDeferred hK2, ?_⟩⟩
    have e0 := Joins.cell_of_block ((World.putObj_heap_other (w := W2) (r := D) (o := .deferred none) (Ne.symm hne)).trans r1) 0
    refine ⟨.bool false, ?_, by rw [HB.out], B2.trans (belowK_b (w := w) (Nat.le_refl _) W2 D _ _ (by omega) hK2 rfl rfl)⟩
    simp [results, Tryz.results83, go_sem, e0]
  case stop =>
    rintro D c pre W' hD hp ⟨⟨rfl, hx⟩, i1, i2⟩ hK
    have HB := Lib.hid hx
    have hne : D ≠ w.heap.size + 1 := by omega
    clear hx
    gi_wp2_with fail
    refine ⟨by simp, .inl ⟨_, _, rfl, run_takeDeferred hK, ?_⟩⟩
    have e0 := Joins.cell_of_block ((World.putObj_heap_other (w := W') (r := D) (o := .deferred none) (Ne.symm hne)).trans i1) 0
    refine ⟨.bool true, ?_, by rw [HB.out], i2.trans (belowK_b (w := w) (Nat.le_refl _) W' D _ _ (by omega) hK rfl rfl)⟩
    simp [results, Tryz.results83, go_sem, e0]
  case body =>
    rintro l pre x a' W1 hl hrc ⟨⟨i0, i1⟩, i2, i3⟩ ⟨Bx, hBx, xB, rfl⟩ hp
    have c0 := Joins.cell_of_block i0 0
    have c0' := Joins.cell_of_block i0 1
    have x0 := Joins.cell_of_block xB 0
    have x1 := Joins.cell_of_block xB 1
    have z0 := size_of_block i0
    have z1 := size_of_block i1
    have zx := size_of_block xB
    cases hx : isE h i x with
    | true =>
      have heq : ∀ W, (binOp .eql 140 (.agg #[.int .i64 x.1, .int .i64 x.2]) (.agg #[.int .i64 h, .int .i64 i])).run Tryz.prog W = .ok (.bool true) W := fun W => by rw [Tryz.eqEn]; exact congrArg (fun b => Result.ok (Value.bool b) W) hx
      have HX : Hid (xs.any (isE h i) = true) := List.any_eq_true.2 ⟨x, hp.subset (by simp), hx⟩
      have f1 := Joins.unfrozen_of_block i1 0
      have c1 := Joins.cell_of_block i1 0
      clear hx i3
      gi_wp2_with fail
      exact ⟨(KeepsOthers.setCell _ _ _).from _, ⟨rfl, HX.out⟩, put1b _ i1, below_set i2 (by omega)⟩
    | false =>
      have heq : ∀ W, (binOp .eql 140 (.agg #[.int .i64 x.1, .int .i64 x.2]) (.agg #[.int .i64 h, .int .i64 i])).run Tryz.prog W = .ok (.bool false) W := fun W => by rw [Tryz.eqEn]; exact congrArg (fun b => Result.ok (Value.bool b) W) hx
      have HX : Hid ((pre ++ [x]).any (isE h i) = false) := by show _ = _; rw [List.any_append, i3]; simp [hx]
      clear hx i3
      gi_wp2_with fail
      exact ⟨KeepsFrom.refl _ _, Kp.refl _ _ _ _, ⟨i0, i1⟩, i2, HX.out⟩
end Go.Proofs.YtjpoacffnpgjdaaGreat
