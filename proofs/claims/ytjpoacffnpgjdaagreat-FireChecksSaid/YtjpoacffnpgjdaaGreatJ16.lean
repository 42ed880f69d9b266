/- Texts joined: FProgJ. -/
import Derived.Test.YtjpoacffnpgjdaaGreatJ15
import Derived.WalkMore
/- Two looks that contradict each other: clash, by the program. -/
namespace Go.Proofs.YtjpoacffnpgjdaaGreat
open Go Go.RowKit Go.Shelf
attribute [local go_sem] Oper.semAt_some Rel RelAt RelUpon

theorem clashS_found {f : Fi} {S pre pre2 : List Lk} {x y : Lk} (h1 : pre ++ [x] <+: S) (h2 : ∀ u ∈ pre, S.any (againstB f u) = false) (h3 : pre2 ++ [y] <+: S) (h4 : ∀ v ∈ pre2, againstB f x v = false) (h5 : againstB f x y = true) : clashS f S = ⟨x.id, y.id, true⟩ := by
  have e1 : S.find? (fun x => S.any (againstB f x)) = some x := by
    obtain ⟨t, ht⟩ := h1
    refine List.find?_eq_some_iff_append.2 ⟨List.any_eq_true.2 ⟨y, h3.subset (by simp), h5⟩, pre, t, by rw [← ht]; simp, fun a ha => by simpa using h2 a ha⟩
  have e2 : S.find? (againstB f x) = some y := by
    obtain ⟨t, ht⟩ := h3
    exact List.find?_eq_some_iff_append.2 ⟨h5, pre2, t, by rw [← ht]; simp, fun a ha => by simpa using h4 a ha⟩
  unfold clashS
  rw [e1]; dsimp only; rw [e2]
theorem drew_heap (w : World) : w.drew.heap = w.heap := rfl
theorem keeps_drew {B : Nat} {w : World} : KeepsFrom B w w.drew := keeps_of_below ((Below.refl _ _).drew)
theorem clashS_none {f : Fi} {S : List Lk} (h : ∀ u ∈ S, S.any (againstB f u) = false) : clashS f S = ⟨0, 0, false⟩ := by
  have e1 : S.find? (fun x => S.any (againstB f x)) = none := List.find?_eq_none.2 fun a ha => by rw [h a ha]; simp
  unfold clashS
  rw [e1]
set_option maxRecDepth 100000 in
set_option maxHeartbeats 4000000 in
theorem clash_c (f : Fi) (S ls : List Lk) (gf : Nat) (lb : Array Value) (w : World) (h : SOk f S ls) (hG : Gives Tryz.prog w.heap.size 0 fireU (.func (.func gf) #[] lb) encLk S w) :
    Calls Tryz.prog 61 #[siV f (.func (.func gf) #[] lb)] w fun e w' => e = .returned (.tuple #[.int .i64 (clashS f S).a, .int .i64 (clashS f S).b, .bool (clashS f S).is]) ∧ Below w.heap.size w w' := by
  obtain ⟨q0, q1, q2, q3, qs, qb⟩ := four_new w (.cells #[.int .i64 f.rise, .int .i64 f.fall, .int .i64 f.up, .int .i64 f.down, .func (.func gf) #[] lb] 114) (.cells #[.int .i64 0] 3) (.cells #[.int .i64 0] 3) (.cells #[.bool false] 4)
  obtain ⟨CL, hCL⟩ : ∃ CL, CL = clashS f S := ⟨_, rfl⟩
  have HCL := Lib.hid hCL
  rw [← hCL]
  clear hCL
  unfold siV
  (refine (callsIn_wide (n := 9)).1 (callsIn_of_wp_marks Tryz.func61 rfl trivial ?_ rfl); simp only [Tryz.ntmps61, List.size_toArray, List.length_cons, List.length_nil, Nat.reduceAdd, Nat.reduceSub, Array.replicate_succ, Array.replicate_zero, List.push_toArray, List.append_toArray, List.nil_append, List.cons_append])
  gi_wp2_with fail
  refine wpIn_wide.2 (wp_scope_straight ((wpIn_wide (n := 9)).1 ?_))
  gi_wp2_with fail
  have QS := Lib.hid qs
  generalize (((w.alloc _).alloc _).alloc _).alloc _ = W0 at q0 q1 q2 q3 qs QS qb ⊢
  refine wpIn_label ?_
  have s4 := Joins.cell_of_block q0 4
  have z0 := size_of_block q0
  gi_wp2_with fail
  clear s4
  have hlk := Lib.hid h.lookS
  have hsl := h.slope
  refine wpIn_over (U := fireU) (n₀ := w.heap.size) (B := 0) (hG.later qb) rfl (fun _ => rfl) (by omega)
    (fun pre W' => ((W'.heap[w.heap.size]? = some (.cells #[.int .i64 f.rise, .int .i64 f.fall, .int .i64 f.up, .int .i64 f.down, .func (.func gf) #[] lb] 114) ∧ W'.heap[w.heap.size + 1]? = some (.cells #[.int .i64 0] 3)) ∧ W'.heap[w.heap.size + 1 + 1]? = some (.cells #[.int .i64 0] 3) ∧ W'.heap[w.heap.size + 1 + 1 + 1]? = some (.cells #[.bool false] 4)) ∧ Below w.heap.size w W' ∧ ∀ u ∈ pre, S.any (againstB f u) = false)
    (fun c _ W' => c = .exit 0 ∧ (W'.heap[w.heap.size + 1]? = some (.cells #[.int .i64 CL.a] 3) ∧ W'.heap[w.heap.size + 1 + 1]? = some (.cells #[.int .i64 CL.b] 3) ∧ W'.heap[w.heap.size + 1 + 1 + 1]? = some (.cells #[.bool CL.is] 4)) ∧ Below w.heap.size w W')
    ((((own_cells _ _ _ fun _ => rfl).and (own_cells _ _ _ fun _ => rfl)).and ((own_cells _ _ _ fun _ => rfl).and (own_cells _ _ _ fun _ => rfl))).and ((ownFrom_below (Nat.le_refl _) (by omega)).and (fun _ _ _ _ hs _ _ => hs)))
    (fun c => OwnFrom.and (fun _ _ _ _ hs _ _ => hs) (((own_cells _ _ _ fun _ => rfl).and ((own_cells _ _ _ fun _ => rfl).and (own_cells _ _ _ fun _ => rfl))).and (ownFrom_below (Nat.le_refl _) (by omega))))
    ⟨⟨⟨q0, q1⟩, q2, q3⟩, qb, by simp⟩
    (fun x a' W' => ∃ Bx, w.heap.size + 1 + 1 + 1 + 1 ≤ Bx ∧ W'.heap[Bx]? = some (.cells #[.int .i64 x.id, .int .i64 x.foot, .int .i64 x.hour, .int .i64 x.lo, .int .i64 x.hi] 90) ∧ a' = { tmps := #[.agg #[.int .i64 f.rise, .int .i64 f.fall, .int .i64 f.up, .int .i64 f.down, .func (.func gf) #[] lb], .pointer (some ⟨w.heap.size, 0, none⟩), .int .i64 0, .int .i64 0, .bool false, .pointer (some ⟨w.heap.size + 1, 0, none⟩), .pointer (some ⟨w.heap.size + 1 + 1, 0, none⟩), .pointer (some ⟨w.heap.size + 1 + 1 + 1, 0, none⟩), .pointer (some ⟨Bx, 0, none⟩), undef, .pointer (some ⟨w.heap.size, 4, none⟩), .func (.func gf) #[] lb, .agg #[.int .i64 x.id, .int .i64 x.foot, .int .i64 x.hour, .int .i64 x.lo, .int .i64 x.hi], undef, undef, undef, undef, undef, undef, undef, undef, undef, undef, undef, undef, undef, undef, undef], defers := [] })
    (fun x a' s X Y row hs hg hrow => by
      obtain ⟨Bx, h1, h2, h3⟩ := hs
      exact ⟨Bx, h1, own_cells (β := Unit) W0.heap.size Bx (fun _ => .cells #[.int .i64 x.id, .int .i64 x.foot, .int .i64 x.hour, .int .i64 x.lo, .int .i64 x.hi] 90) (fun _ => rfl) s X Y row h2 hg hrow, h3⟩) ?assign ?body ?done ?stop
  case assign =>
    rintro l2 pre x W' K hl ⟨⟨⟨i0, i1⟩, i2, i3⟩, i4, i5⟩ hp hK
    unfold encLk lkV
    gi_wp2
    have ha := below_alloc W' (.cells #[.int .i64 x.id, .int .i64 x.foot, .int .i64 x.hour, .int .i64 x.lo, .int .i64 x.hi] 90)
    have hz := size_of_block i3
    exact hK _ _ (keeps_of_below ha) (Kp.of_below ha (by omega)) ⟨⟨⟨(ha.block _ (size_of_block i0)).trans i0, (ha.block _ (size_of_block i1)).trans i1⟩, (ha.block _ (size_of_block i2)).trans i2, (ha.block _ hz).trans i3⟩, below_then i4 ha, i5⟩ ⟨W'.heap.size, by omega, heap_alloc_new _ _, rfl⟩
  case done =>
    rintro D W' hD ⟨⟨⟨i0, i1⟩, i2, i3⟩, i4, i5⟩ hK
    have hcl : CL = ⟨0, 0, false⟩ := HCL.out.trans (clashS_none i5)
    have i1 : W'.heap[w.heap.size + 1]? = some (.cells #[.int .i64 CL.a] 3) := by rw [hcl]; exact i1
    have i2 : W'.heap[w.heap.size + 1 + 1]? = some (.cells #[.int .i64 CL.b] 3) := by rw [hcl]; exact i2
    have i3 : W'.heap[w.heap.size + 1 + 1 + 1]? = some (.cells #[.bool CL.is] 4) := by rw [hcl]; exact i3
    clear hcl
    have c1 := Joins.cell_of_block i1 0
    have c2 := Joins.cell_of_block i2 0
    have c3 := Joins.cell_of_block i3 0
    gi_wp2_with fail
    gi_region
    gi_wp2
    refine ⟨by simp, .inl ⟨_, _, rfl, run_takeDeferred hK, ?_⟩⟩
    exact ⟨_, results_tmp3 rfl _ _ _, rfl, (i4.drew).trans (belowK_b (w := w) (Nat.le_refl _) W'.drew D _ _ (by omega) hK rfl rfl)⟩
  case stop =>
    rintro D c pre W' hD hp ⟨rfl, ⟨i1, i2, i3⟩, i4⟩ hK
    have c1 := Joins.cell_of_block i1 0
    have c2 := Joins.cell_of_block i2 0
    have c3 := Joins.cell_of_block i3 0
    gi_wp2_with fail
    gi_region
    gi_wp2
    refine ⟨by simp, .inl ⟨_, _, rfl, run_takeDeferred hK, ?_⟩⟩
    exact ⟨_, results_tmp3 rfl _ _ _, rfl, (i4.drew).trans (belowK_b (w := w) (Nat.le_refl _) W'.drew D _ _ (by omega) hK rfl rfl)⟩
  case body =>
    rintro l2 pre x a' W1 hl ⟨rc, hrc⟩ ⟨⟨⟨i0, i1⟩, i2, i3⟩, i4, i5⟩ ⟨Bx, hBx, xB, rfl⟩ hpx
    have hlx := hlk.out x (hpx.subset (by simp))
    have s4 := Joins.cell_of_block i0 4
    have hz3 := size_of_block i3
    have hz0 := size_of_block i0
    have hzx := size_of_block xB
    have hw1 := i4.size
    gi_wp2_with fail
    clear s4
    refine wpIn_over_in (U := fireU) (n₀ := w.heap.size) (B := 0) (l₀ := l2) ⟨_, hrc⟩ (hG.later i4) rfl (fun _ => rfl) (by omega)
      (fun pre2 W' => (((W'.heap[w.heap.size]? = some (.cells #[.int .i64 f.rise, .int .i64 f.fall, .int .i64 f.up, .int .i64 f.down, .func (.func gf) #[] lb] 114) ∧ W'.heap[w.heap.size + 1]? = some (.cells #[.int .i64 0] 3)) ∧ W'.heap[w.heap.size + 1 + 1]? = some (.cells #[.int .i64 0] 3) ∧ W'.heap[w.heap.size + 1 + 1 + 1]? = some (.cells #[.bool false] 4)) ∧ Below w.heap.size w W' ∧ ∀ u ∈ pre2, againstB f x u = false) ∧ W'.heap[Bx]? = some (.cells #[.int .i64 x.id, .int .i64 x.foot, .int .i64 x.hour, .int .i64 x.lo, .int .i64 x.hi] 90) ∧ KeepsFrom W0.heap.size W1 W' ∧ Kp w.heap.size 0 fireU W1 W')
      (fun c _ W' => (c = .exit 0 ∧ (W'.heap[w.heap.size + 1]? = some (.cells #[.int .i64 CL.a] 3) ∧ W'.heap[w.heap.size + 1 + 1]? = some (.cells #[.int .i64 CL.b] 3) ∧ W'.heap[w.heap.size + 1 + 1 + 1]? = some (.cells #[.bool CL.is] 4)) ∧ Below w.heap.size w W') ∧ KeepsFrom W0.heap.size W1 W')
      (((((own_cells _ _ _ fun _ => rfl).and (own_cells _ _ _ fun _ => rfl)).and ((own_cells _ _ _ fun _ => rfl).and (own_cells _ _ _ fun _ => rfl))).and ((ownFrom_below (by omega) (by omega)).and (fun _ _ _ _ hs _ _ => hs))).and ((own_cells _ _ _ fun _ => rfl).and ((ownFrom_keepsFrom (by omega)).and (own_kp (by omega) (by omega)))))
      (fun c => OwnFrom.and (OwnFrom.and (fun _ _ _ _ hs _ _ => hs) (((own_cells _ _ _ fun _ => rfl).and ((own_cells _ _ _ fun _ => rfl).and (own_cells _ _ _ fun _ => rfl))).and (ownFrom_below (by omega) (by omega)))) (ownFrom_keepsFrom (by omega)))
      ⟨⟨⟨⟨i0, i1⟩, i2, i3⟩, i4, by simp⟩, xB, KeepsFrom.refl _ _, Kp.refl _ _ _ _⟩
      (fun y a' W' => ∃ By, w.heap.size + 1 + 1 + 1 + 1 ≤ By ∧ W'.heap[By]? = some (.cells #[.int .i64 y.id, .int .i64 y.foot, .int .i64 y.hour, .int .i64 y.lo, .int .i64 y.hi] 90) ∧ a' = { tmps := #[.agg #[.int .i64 f.rise, .int .i64 f.fall, .int .i64 f.up, .int .i64 f.down, .func (.func gf) #[] lb], .pointer (some ⟨w.heap.size, 0, none⟩), .int .i64 0, .int .i64 0, .bool false, .pointer (some ⟨w.heap.size + 1, 0, none⟩), .pointer (some ⟨w.heap.size + 1 + 1, 0, none⟩), .pointer (some ⟨w.heap.size + 1 + 1 + 1, 0, none⟩), .pointer (some ⟨Bx, 0, none⟩), .pointer (some ⟨By, 0, none⟩), .pointer (some ⟨w.heap.size, 4, none⟩), .func (.func gf) #[] lb, .agg #[.int .i64 x.id, .int .i64 x.foot, .int .i64 x.hour, .int .i64 x.lo, .int .i64 x.hi], .pointer (some ⟨w.heap.size, 4, none⟩), .func (.func gf) #[] lb, .agg #[.int .i64 y.id, .int .i64 y.foot, .int .i64 y.hour, .int .i64 y.lo, .int .i64 y.hi], undef, undef, undef, undef, undef, undef, undef, undef, undef, undef, undef, undef], defers := [] })
      (fun x a' s X Y row hs hg hrow => by
        obtain ⟨Bx, h1, h2, h3⟩ := hs
        exact ⟨Bx, h1, own_cells (β := Unit) W1.heap.size Bx (fun _ => .cells #[.int .i64 x.id, .int .i64 x.foot, .int .i64 x.hour, .int .i64 x.lo, .int .i64 x.hi] 90) (fun _ => rfl) s X Y row h2 hg hrow, h3⟩) ?assign2 ?body2 ?done2 ?stop2
    case assign2 =>
      rintro l3 pre2 y W' K hl3 ⟨⟨⟨⟨k0, k1⟩, k2, k3⟩, k4, k5⟩, k6, k7, k8⟩ hp2 hK
      unfold encLk lkV
      gi_wp2
      have ha := below_alloc W' (.cells #[.int .i64 y.id, .int .i64 y.foot, .int .i64 y.hour, .int .i64 y.lo, .int .i64 y.hi] 90)
      have hz := size_of_block k3
      exact hK _ _ (keeps_of_below ha) (Kp.of_below ha (by omega)) ⟨⟨⟨⟨(ha.block _ (size_of_block k0)).trans k0, (ha.block _ (size_of_block k1)).trans k1⟩, (ha.block _ (size_of_block k2)).trans k2, (ha.block _ hz).trans k3⟩, below_then k4 ha, k5⟩, (ha.block _ (size_of_block k6)).trans k6, k7.trans (keeps_of_below ha), k8.trans (Kp.of_below ha (by omega))⟩ ⟨W'.heap.size, by omega, heap_alloc_new _ _, rfl⟩
    case done2 =>
      rintro W' ⟨⟨⟨⟨k0, k1⟩, k2, k3⟩, k4, k5⟩, k6, k7, k8⟩
      gi_wp2
      refine ⟨k7, k8, ⟨⟨k0, k1⟩, k2, k3⟩, k4, fun u hu => ?_⟩
      rcases List.mem_append.1 hu with hu | hu
      · exact i5 u hu
      · rw [List.mem_singleton.1 hu, List.any_eq_false]
        exact fun v hv => by rw [k5 v hv]; simp
    case stop2 =>
      rintro c pre2 W' hp2 ⟨⟨rfl, k3, k4⟩, k7⟩
      gi_wp2
      exact ⟨k7, rfl, k3, k4⟩
    case body2 =>
      rintro l3 pre2 y a' W7 hl3 ⟨rc3, hrc3⟩ ⟨⟨⟨⟨k0, k1⟩, k2, k3⟩, k4, k5⟩, k6, k7, k8⟩ ⟨By, hBy, yB, rfl⟩ hp2
      have hly := hlk.out y (hp2.subset (by simp))
      have s0 := Joins.cell_of_block k0 0
      have s1 := Joins.cell_of_block k0 1
      have s2 := Joins.cell_of_block k0 2
      have s3 := Joins.cell_of_block k0 3
      have x0 := Joins.cell_of_block k6 0
      have x1 := Joins.cell_of_block k6 1
      have x2 := Joins.cell_of_block k6 2
      have x3 := Joins.cell_of_block k6 3
      have x4 := Joins.cell_of_block k6 4
      have y0 := Joins.cell_of_block yB 0
      have y1 := Joins.cell_of_block yB 1
      have y2 := Joins.cell_of_block yB 2
      have y3 := Joins.cell_of_block yB 3
      have y4 := Joins.cell_of_block yB 4
      have hC := contradict_c f x y W7 hsl hlx hly
      unfold slV lkV at hC
      have zz := size_of_block k3
      have zz0 := size_of_block k0
      have zz6 := size_of_block k6
      cases hag : againstB f x y with
      | true =>
        rw [hag] at hC
        gi_wp2_with fail
        refine ⟨trivial, calls_any (r := some l3) (hC.mono ?_)⟩
        rintro e W8 ⟨rfl, hb8⟩
        have hcl : CL = ⟨x.id, y.id, true⟩ := HCL.out.trans (clashS_found hpx i5 hp2 k5 hag)
        have j1 := (hb8.block _ (size_of_block k1)).trans k1
        have j2 := (hb8.block _ (size_of_block k2)).trans k2
        have j3 := (hb8.block _ zz).trans k3
        have j4 := below_then k4 hb8
        have jx := (hb8.block _ zz6).trans k6
        have jy := (hb8.block _ (size_of_block yB)).trans yB
        have e0 := Joins.cell_of_block jx 0
        have e1 := Joins.cell_of_block jy 0
        have g1 := Joins.cell_of_block j1 0
        have g2 := Joins.cell_of_block j2 0
        have g3 := Joins.cell_of_block j3 0
        have f1 := Joins.unfrozen_of_block j1 0
        have f2 := Joins.unfrozen_of_block j2 0
        have f3 := Joins.unfrozen_of_block j3 0
        clear s0 s1 s2 s3 x0 x1 x2 x3 x4 y0 y1 y2 y3 y4
        have N12 : w.heap.size + 1 ≠ w.heap.size + 1 + 1 := by omega
        have N13 : w.heap.size + 1 ≠ w.heap.size + 1 + 1 + 1 := by omega
        have N21 : w.heap.size + 1 + 1 ≠ w.heap.size + 1 := by omega
        have N23 : w.heap.size + 1 + 1 ≠ w.heap.size + 1 + 1 + 1 := by omega
        have N31 : w.heap.size + 1 + 1 + 1 ≠ w.heap.size + 1 := by omega
        have N32 : w.heap.size + 1 + 1 + 1 ≠ w.heap.size + 1 + 1 := by omega
        have NX1 : Bx ≠ w.heap.size + 1 := by omega
        have NX2 : Bx ≠ w.heap.size + 1 + 1 := by omega
        have NY1 : By ≠ w.heap.size + 1 := by omega
        have NY2 : By ≠ w.heap.size + 1 + 1 := by omega
        have NX3 : Bx ≠ w.heap.size + 1 + 1 + 1 := by omega
        have NY3 : By ≠ w.heap.size + 1 + 1 + 1 := by omega
        have HC2 := Lib.hid hcl
        clear hcl
        gi_wp2_with fail
        gi_region
        all_goals
          gi_wp2_with fail
          refine ⟨?_, ⟨rfl, ⟨?_, ?_, ?_⟩, ?_⟩, ?_⟩
          · refine KeepsFrom.trans (keeps_of_below hb8) ?_
            repeat (first | exact KeepsFrom.refl _ _ | refine KeepsFrom.trans ?_ ((KeepsOthers.setCell _ _ _).from _) | refine KeepsFrom.trans ?_ keeps_drew)
          · rw [HC2.out]
            repeat (first | rw [put_other _ N12] | rw [put_other _ N13] | rw [drew_heap])
            refine put1b (p := .int .i64 0) _ ?_
            repeat (first | rw [put_other _ N12] | rw [put_other _ N13] | rw [drew_heap])
            exact j1
          · rw [HC2.out]
            repeat (first | rw [put_other _ N21] | rw [put_other _ N23] | rw [drew_heap])
            refine put1b (p := .int .i64 0) _ ?_
            repeat (first | rw [put_other _ N21] | rw [put_other _ N23] | rw [drew_heap])
            exact j2
          · rw [HC2.out]
            repeat (first | rw [put_other _ N31] | rw [put_other _ N32] | rw [drew_heap])
            refine put1b (p := .bool false) _ ?_
            repeat (first | rw [put_other _ N31] | rw [put_other _ N32] | rw [drew_heap])
            exact j3
          · repeat (first | exact j4 | refine below_set ?_ (by omega) | refine Below.drew ?_)
          · refine KeepsFrom.trans k7 (KeepsFrom.trans (keeps_of_below hb8) ?_)
            repeat (first | exact KeepsFrom.refl _ _ | refine KeepsFrom.trans ?_ ((KeepsOthers.setCell _ _ _).from _) | refine KeepsFrom.trans ?_ keeps_drew)
      | false =>
        rw [hag] at hC
        gi_wp2_with fail
        refine ⟨trivial, calls_any (r := some l3) (hC.mono ?_)⟩
        rintro e W8 ⟨rfl, hb8⟩
        gi_wp2_with fail
        refine ⟨keeps_of_below hb8, Kp.of_below hb8 (by omega), ⟨⟨⟨⟨(hb8.block _ zz0).trans k0, (hb8.block _ (size_of_block k1)).trans k1⟩, (hb8.block _ (size_of_block k2)).trans k2, (hb8.block _ zz).trans k3⟩, below_then k4 hb8, fun u hu => ?_⟩, (hb8.block _ zz6).trans k6, k7.trans (keeps_of_below hb8), k8.trans (Kp.of_below hb8 (by omega))⟩⟩
        rcases List.mem_append.1 hu with hu | hu
        · exact k5 u hu
        · rw [List.mem_singleton.1 hu]; exact hag
end Go.Proofs.YtjpoacffnpgjdaaGreat
