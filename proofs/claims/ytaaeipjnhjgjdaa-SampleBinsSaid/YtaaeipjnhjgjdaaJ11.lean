/- Texts joined: 3RefS. -/
import Derived.Test.YtaaeipjnhjgjdaaJ7
import Derived.Great.BuildSlice
import Derived.Laws.CopyOwn
/- A further sample, by the reference. -/
namespace Go.Proofs.Ytaaeipjnhjgjdaa
open Go.RowKit

@[reducible] def madeV (b : Bt) (e : Int) : Value := .agg #[.int .i64 b.n, .int .i64 b.s.a, .int .i64 b.s.b, .int .i64 b.s.c, .int .i64 b.k0.lo, .int .i64 b.k0.hi, .int .i64 b.k1.lo, .int .i64 b.k1.hi, .int .i64 b.k2.lo, .int .i64 b.k2.hi, .int .i64 e]
set_option maxHeartbeats 3200000 in
set_option maxRecDepth 100000 in
theorem More3_c (b : Bt) (s : K3) (w : World) :
    Calls Try.prog 44 #[btV b, k3V s] w fun e w' => e = .returned (madeV (moreR b s).1 (moreR b s).2) ∧ Below w.heap.size w w' := by
  have hy0 := box3 w (.cells (btC b) 34) (.cells #[.int .i64 s.a, .int .i64 s.b, .int .i64 s.c] 23) #[.int .i64 0, .int .i64 0, .int .i64 0, .int .i64 0, .int .i64 0, .int .i64 0, .int .i64 0, .int .i64 0, .int .i64 0, .int .i64 0, .int .i64 0] 71
  unfold btC at hy0
  have HY := Lib.hid hy0
  have hB0 := below_then (below_alloc w (.cells (btC b) 34)) (below_then (below_alloc _ (.cells #[.int .i64 s.a, .int .i64 s.b, .int .i64 s.c] 23)) (below_alloc _ (.cells #[.int .i64 0, .int .i64 0, .int .i64 0, .int .i64 0, .int .i64 0, .int .i64 0, .int .i64 0, .int .i64 0, .int .i64 0, .int .i64 0, .int .i64 0] 71)))
  unfold btC at hB0
  clear hy0
  unfold btV k3V
  by_cases h : checkB b = 0
  · have hd : (checkB b == 0) = true := by simpa using h
    have hdn : (checkB b != 0) = false := by simpa using h
    have hr := right_n (check_ok h).1
    have hsb := Lib.hid hr.2.2.1
    have har := allI_range hr.2.2.1
    rcases Bool.eq_false_or_eq_true (sortedB s) with h2 | h2
    · have has := allI_range h2
      have H2 := Lib.hid h2
      have h2' := h2
      simp only [sortedB, Bool.and_eq_true, decide_eq_true_eq] at h2'
      by_cases h3 : b.n - allI b.s < allI s
      · have hme : moreE b s = 3 := by unfold moreE; rw [if_neg (by omega), h2, if_neg (by simp), if_pos h3]
        rw [show moreR b s = (zeroBt, 3) by unfold moreR; rw [if_neg (by omega), hme]]
        have d3 : decide (b.n - allI b.s < allI s) = true := decide_eq_true h3
        clear h h2 hme h2'
        go_enter Try.func44, Try.ntmps44
        go_wp2_with fail
        refine (Check3_c b _).mono ?_
        rintro e w1 ⟨rfl, hb1⟩
        obtain ⟨hc1, hf1⟩ := bcell hb1
        have hs1 := hb1.size
        simp only [World.size_alloc] at hs1
        have hz1 : w.heap.size < w1.heap.size := by omega
        have hz1' : w.heap.size + 1 < w1.heap.size := by omega
        have hy1 := (hb1.block (w.heap.size + 1 + 1) (by simp)).trans HY.out
        have hB1 := below_then hB0 hb1
        go_wp2_with fail
        refine (sorted3_b _ H2.out).mono ?_
        rintro e w2 ⟨rfl, hb2⟩
        obtain ⟨hc2, hf2⟩ := bcell hb2
        have hs2 := hb2.size
        have hz2 : w.heap.size < w2.heap.size := by omega
        have hz2' : w.heap.size + 1 < w2.heap.size := by omega
        go_wp2_with fail
        refine wp_region_grown (by kernel_rfl) (by kernel_rfl) fun hcg => ?_
        repeat (go_big_quiet_step (first | (go_at_call 90; first | exact Calls.grown (all3_c _ _ H2.out) | exact Calls.grown (all3_c _ _ hsb.out))))
        refine wpQuiet_nil ?_
        intro _ hw'
        obtain ⟨g, hw''⟩ := hw'
        subst hw''
        have hy := (g.b.block (w.heap.size + 1 + 1) (by omega)).trans ((hb2.block (w.heap.size + 1 + 1) (by omega)).trans hy1)
        have hB := below_then hB1 (below_then hb2 g.b)
        clear hc1 hf1 hc2 hf2 hcg hy1
        have HR := Lib.hid (fun j : Nat => cell_setRow_same _ (w.heap.size + 1 + 1) j _ #[.int .i64 0, .int .i64 0, .int .i64 0, .int .i64 0, .int .i64 0, .int .i64 0, .int .i64 0, .int .i64 0, .int .i64 0, .int .i64 0, .int .i64 3] _ _ hy)
        go_wp2_with (refine wpList_store_rowTo rfl 71 _ _ rfl rfl (w.heap.size + 1 + 1) #[.int .i64 0, .int .i64 0, .int .i64 0, .int .i64 0, .int .i64 0, .int .i64 0, .int .i64 0, .int .i64 0, .int .i64 0, .int .i64 0, .int .i64 3] rfl rfl 71 _ hy (by kernel_rfl) rfl (by kernel_rfl) ?_)
        refine bodyPost_ret (v := .agg #[.int .i64 0, .int .i64 0, .int .i64 0, .int .i64 0, .int .i64 0, .int .i64 0, .int .i64 0, .int .i64 0, .int .i64 0, .int .i64 0, .int .i64 3]) ?_ rfl ⟨rfl, ?_⟩
        · simp [results, Try.results44, go_sem, HR.out]
        · exact below_setRow hB (by omega) _
      · have d3 : decide (b.n - allI b.s < allI s) = false := decide_eq_false h3
        have hsm : s.a ≤ 50 ∧ s.b ≤ 50 ∧ s.c ≤ 50 := by unfold allI at h3 has har; unfold allI at hr; omega
        have hme : moreE b s = checkB (addB b s) := by unfold moreE; rw [if_neg (by omega), h2, if_neg (by simp), if_neg h3]
        have HM := Lib.hid hme
        clear h h2 hme
        go_enter Try.func44, Try.ntmps44
        go_wp2_with fail
        refine (Check3_c b _).mono ?_
        rintro e w1 ⟨rfl, hb1⟩
        obtain ⟨hc1, hf1⟩ := bcell hb1
        have hs1 := hb1.size
        simp only [World.size_alloc] at hs1
        have hz1 : w.heap.size < w1.heap.size := by omega
        have hz1' : w.heap.size + 1 < w1.heap.size := by omega
        have hy1 := (hb1.block (w.heap.size + 1 + 1) (by simp)).trans HY.out
        have hB1 := below_then hB0 hb1
        go_wp2_with fail
        refine (sorted3_b _ H2.out).mono ?_
        rintro e w2 ⟨rfl, hb2⟩
        obtain ⟨hc2, hf2⟩ := bcell hb2
        have hs2 := hb2.size
        have hz2 : w.heap.size < w2.heap.size := by omega
        have hz2' : w.heap.size + 1 < w2.heap.size := by omega
        go_wp2_with fail
        refine wp_region_grown (by kernel_rfl) (by kernel_rfl) fun hcg => ?_
        repeat (go_big_quiet_step (first | (go_at_call 90; first | exact Calls.grown (all3_c _ _ H2.out) | exact Calls.grown (all3_c _ _ hsb.out))))
        refine wpQuiet_nil ?_
        intro _ hw'
        obtain ⟨g, hw''⟩ := hw'
        subst hw''
        have hbg := below_then hb1 (below_then hb2 g.b)
        have hgs := hbg.size
        simp only [World.size_alloc] at hgs
        have hyg := (hbg.block (w.heap.size + 1 + 1) (by simp)).trans HY.out
        have hyb : g.val.heap[w.heap.size]? = some (.cells (btC (addP b s 0)) 34) := by
          rw [hbg.block w.heap.size (by simp; omega), Below.heap_alloc _ _ _ (by simp; omega), Below.heap_alloc _ _ _ (by simp)]
          exact heap_alloc_new w _
        have hys : g.val.heap[w.heap.size + 1]? = some (.cells #[.int .i64 s.a, .int .i64 s.b, .int .i64 s.c] 23) := by
          rw [hbg.block (w.heap.size + 1) (by simp), Below.heap_alloc _ _ _ (by simp)]
          have := heap_alloc_new (w.alloc (.cells (btC b) 34)) (.cells #[.int .i64 s.a, .int .i64 s.b, .int .i64 s.c] 23)
          rw [World.size_alloc] at this
          exact this
        have hB := below_then hB0 hbg
        clear hc1 hf1 hc2 hf2 hcg hy1 hB1 hb1 hb2 hbg
        go_wp2_with fail
        go_loopw [6] (fun i wr => ∃ j : Nat, j ≤ 3 ∧ i = .int .i64 j ∧ wr.heap[w.heap.size]? = some (.cells (btC (addP b s j)) 34) ∧ wr.heap[w.heap.size + 1]? = some (.cells #[.int .i64 s.a, .int .i64 s.b, .int .i64 s.c] 23) ∧ wr.heap[w.heap.size + 1 + 1]? = some (.cells #[.int .i64 0, .int .i64 0, .int .i64 0, .int .i64 0, .int .i64 0, .int .i64 0, .int .i64 0, .int .i64 0, .int .i64 0, .int .i64 0, .int .i64 0] 71) ∧ Below w.heap.size w wr) (fun i _ => 3 - (intOf i).toNat)
        case atStart => exact ⟨0, by omega, rfl, hyb, hys, hyg, hB⟩
        case round =>
          clear hyb hys hyg hB
          obtain ⟨j, hj, rfl, hyb, hys, hyg, hB⟩ := hrel
          have hsz := size_of_block hyg
          have hz1 : w.heap.size < wr.heap.size := by omega
          have hz2 : w.heap.size + 1 < wr.heap.size := by omega
          have t0 := Joins.cell_of_block hys 0
          have t1 := Joins.cell_of_block hys 1
          have t2 := Joins.cell_of_block hys 2
          have hj4 : j = 0 ∨ j = 1 ∨ j = 2 ∨ j = 3 := by omega
          rcases hj4 with rfl | rfl | rfl | rfl
          · have u0 : wr.cell? ⟨w.heap.size, 1, none⟩ = some (.int .i64 b.s.a) := Joins.cell_of_block hyb 1
            go_wp2
            refine wp_region_grown_tail 10 (by kernel_rfl) (by kernel_rfl) fun hcg => ?_
            simp only [List.take_succ_cons, List.take_zero, List.drop_succ_cons, List.drop_zero]
            repeat (go_big_quiet_step (fail))
            refine wpQuiet_nil ?_
            intro _ hw'
            obtain ⟨g2, hw''⟩ := hw'
            subst hw''
            have zb := (g2.b.block w.heap.size hz1).trans hyb
            have zs := (g2.b.block (w.heap.size + 1) hz2).trans hys
            have zg := (g2.b.block (w.heap.size + 1 + 1) hsz).trans hyg
            have hBg := below_then hB g2.b
            have v0 : g2.val.cell? ⟨w.heap.size, 1, none⟩ = some (.int .i64 b.s.a) := Joins.cell_of_block zb 1
            have x0 := Joins.unfrozen_of_block zb 1
            have zn := Joins.block_setCell (i := 1) zb (.int .i64 (b.s.a + s.a))
            have zs2 := (Below.heap_setCell g2.val ⟨w.heap.size, 1, none⟩ (.int .i64 (b.s.a + s.a)) (w.heap.size + 1) (by simp)).trans zs
            have zg2 := (Below.heap_setCell g2.val ⟨w.heap.size, 1, none⟩ (.int .i64 (b.s.a + s.a)) (w.heap.size + 1 + 1) (by simp; omega)).trans zg
            have hBn := hBg.setCell (p := ⟨w.heap.size, 1, none⟩) (Nat.le_refl _) (.int .i64 (b.s.a + s.a))
            clear hcg zb zs zg hBg
            go_wp2
            go_roundw
            case rel => exact ⟨1, by omega, by go_num, zn, zs2, zg2, hBn⟩
            case measure => simp [intOf]
          · have u1 : wr.cell? ⟨w.heap.size, 2, none⟩ = some (.int .i64 b.s.b) := Joins.cell_of_block hyb 2
            go_wp2
            refine wp_region_grown_tail 10 (by kernel_rfl) (by kernel_rfl) fun hcg => ?_
            simp only [List.take_succ_cons, List.take_zero, List.drop_succ_cons, List.drop_zero]
            repeat (go_big_quiet_step (fail))
            refine wpQuiet_nil ?_
            intro _ hw'
            obtain ⟨g2, hw''⟩ := hw'
            subst hw''
            have zb := (g2.b.block w.heap.size hz1).trans hyb
            have zs := (g2.b.block (w.heap.size + 1) hz2).trans hys
            have zg := (g2.b.block (w.heap.size + 1 + 1) hsz).trans hyg
            have hBg := below_then hB g2.b
            have v1 : g2.val.cell? ⟨w.heap.size, 2, none⟩ = some (.int .i64 b.s.b) := Joins.cell_of_block zb 2
            have x1 := Joins.unfrozen_of_block zb 2
            have zn := Joins.block_setCell (i := 2) zb (.int .i64 (b.s.b + s.b))
            have zs2 := (Below.heap_setCell g2.val ⟨w.heap.size, 2, none⟩ (.int .i64 (b.s.b + s.b)) (w.heap.size + 1) (by simp)).trans zs
            have zg2 := (Below.heap_setCell g2.val ⟨w.heap.size, 2, none⟩ (.int .i64 (b.s.b + s.b)) (w.heap.size + 1 + 1) (by simp; omega)).trans zg
            have hBn := hBg.setCell (p := ⟨w.heap.size, 2, none⟩) (Nat.le_refl _) (.int .i64 (b.s.b + s.b))
            clear hcg zb zs zg hBg
            go_wp2
            go_roundw
            case rel => exact ⟨2, by omega, by go_num, zn, zs2, zg2, hBn⟩
            case measure => simp [intOf]
          · have u2 : wr.cell? ⟨w.heap.size, 3, none⟩ = some (.int .i64 b.s.c) := Joins.cell_of_block hyb 3
            go_wp2
            refine wp_region_grown_tail 10 (by kernel_rfl) (by kernel_rfl) fun hcg => ?_
            simp only [List.take_succ_cons, List.take_zero, List.drop_succ_cons, List.drop_zero]
            repeat (go_big_quiet_step (fail))
            refine wpQuiet_nil ?_
            intro _ hw'
            obtain ⟨g2, hw''⟩ := hw'
            subst hw''
            have zb := (g2.b.block w.heap.size hz1).trans hyb
            have zs := (g2.b.block (w.heap.size + 1) hz2).trans hys
            have zg := (g2.b.block (w.heap.size + 1 + 1) hsz).trans hyg
            have hBg := below_then hB g2.b
            have v2 : g2.val.cell? ⟨w.heap.size, 3, none⟩ = some (.int .i64 b.s.c) := Joins.cell_of_block zb 3
            have x2 := Joins.unfrozen_of_block zb 3
            have zn := Joins.block_setCell (i := 3) zb (.int .i64 (b.s.c + s.c))
            have zs2 := (Below.heap_setCell g2.val ⟨w.heap.size, 3, none⟩ (.int .i64 (b.s.c + s.c)) (w.heap.size + 1) (by simp)).trans zs
            have zg2 := (Below.heap_setCell g2.val ⟨w.heap.size, 3, none⟩ (.int .i64 (b.s.c + s.c)) (w.heap.size + 1 + 1) (by simp; omega)).trans zg
            have hBn := hBg.setCell (p := ⟨w.heap.size, 3, none⟩) (Nat.le_refl _) (.int .i64 (b.s.c + s.c))
            clear hcg zb zs zg hBg
            go_wp2
            go_roundw
            case rel => exact ⟨3, by omega, by go_num, zn, zs2, zg2, hBn⟩
            case measure => simp [intOf]
          · have hyc := hyb
            unfold btC addP addB at hyc
            try dsimp only at hyc
            have r0 := Joins.cell_of_block hyc 0
            have r1 := Joins.cell_of_block hyc 1
            have r2 := Joins.cell_of_block hyc 2
            have r3 := Joins.cell_of_block hyc 3
            have r4 := Joins.cell_of_block hyc 4
            have r5 := Joins.cell_of_block hyc 5
            have r6 := Joins.cell_of_block hyc 6
            have r7 := Joins.cell_of_block hyc 7
            have r8 := Joins.cell_of_block hyc 8
            have r9 := Joins.cell_of_block hyc 9
            clear hyc t0 t1 t2
            go_wp2_with fail
            refine (Check3_c (addB b s) _).mono ?_
            rintro e w3 ⟨rfl, hb3⟩
            have hyb3 := (hb3.block w.heap.size hz1).trans hyb
            have hyg3 := (hb3.block (w.heap.size + 1 + 1) hsz).trans hyg
            have hB3 := below_then hB hb3
            have hyc := hyb3
            unfold btC addP addB at hyc
            try dsimp only at hyc
            clear r0 r1 r2 r3 r4 r5 r6 r7 r8 r9
            by_cases he : checkB (addB b s) = 0
            · have hdd : (checkB (addB b s) != 0) = false := by simpa using he
              have HMR := Lib.hid (show moreR b s = (addB b s, 0) by unfold moreR; rw [if_pos (by rw [HM.out, he])])
              clear he
              have r0 := Joins.cell_of_block hyc 0
              have r1 := Joins.cell_of_block hyc 1
              have r2 := Joins.cell_of_block hyc 2
              have r3 := Joins.cell_of_block hyc 3
              have r4 := Joins.cell_of_block hyc 4
              have r5 := Joins.cell_of_block hyc 5
              have r6 := Joins.cell_of_block hyc 6
              have r7 := Joins.cell_of_block hyc 7
              have r8 := Joins.cell_of_block hyc 8
              have r9 := Joins.cell_of_block hyc 9
              clear hyc
              have HR := Lib.hid (fun j : Nat => cell_setRow_same _ (w.heap.size + 1 + 1) j _ #[.int .i64 b.n, .int .i64 (b.s.a + s.a), .int .i64 (b.s.b + s.b), .int .i64 (b.s.c + s.c), .int .i64 b.k0.lo, .int .i64 b.k0.hi, .int .i64 b.k1.lo, .int .i64 b.k1.hi, .int .i64 b.k2.lo, .int .i64 b.k2.hi, .int .i64 0] _ _ hyg3)
              go_wp2_with (refine wpList_store_rowTo rfl 71 _ _ rfl rfl (w.heap.size + 1 + 1) #[.int .i64 b.n, .int .i64 (b.s.a + s.a), .int .i64 (b.s.b + s.b), .int .i64 (b.s.c + s.c), .int .i64 b.k0.lo, .int .i64 b.k0.hi, .int .i64 b.k1.lo, .int .i64 b.k1.hi, .int .i64 b.k2.lo, .int .i64 b.k2.hi, .int .i64 0] rfl rfl 71 _ hyg3 (by kernel_rfl) rfl (by kernel_rfl) ?_)
              refine bodyPost_ret (v := .agg #[.int .i64 b.n, .int .i64 (b.s.a + s.a), .int .i64 (b.s.b + s.b), .int .i64 (b.s.c + s.c), .int .i64 b.k0.lo, .int .i64 b.k0.hi, .int .i64 b.k1.lo, .int .i64 b.k1.hi, .int .i64 b.k2.lo, .int .i64 b.k2.hi, .int .i64 0]) ?_ rfl ⟨by rw [HMR.out]; rfl, ?_⟩
              · simp [results, Try.results44, go_sem, HR.out]
              · exact below_setRow hB3 (by omega) _
            · have hdd : (checkB (addB b s) != 0) = true := by simpa using he
              have HMR := Lib.hid (show moreR b s = (zeroBt, checkB (addB b s)) by unfold moreR; rw [if_neg (by rw [HM.out]; exact he), HM.out])
              clear he hyc
              have HR := Lib.hid (fun j : Nat => cell_setRow_same _ (w.heap.size + 1 + 1) j _ #[.int .i64 0, .int .i64 0, .int .i64 0, .int .i64 0, .int .i64 0, .int .i64 0, .int .i64 0, .int .i64 0, .int .i64 0, .int .i64 0, .int .i64 (checkB (addB b s))] _ _ hyg3)
              go_wp2_with (refine wpList_store_rowTo rfl 71 _ _ rfl rfl (w.heap.size + 1 + 1) #[.int .i64 0, .int .i64 0, .int .i64 0, .int .i64 0, .int .i64 0, .int .i64 0, .int .i64 0, .int .i64 0, .int .i64 0, .int .i64 0, .int .i64 (checkB (addB b s))] rfl rfl 71 _ hyg3 (by kernel_rfl) rfl (by kernel_rfl) ?_)
              refine bodyPost_ret (v := .agg #[.int .i64 0, .int .i64 0, .int .i64 0, .int .i64 0, .int .i64 0, .int .i64 0, .int .i64 0, .int .i64 0, .int .i64 0, .int .i64 0, .int .i64 (checkB (addB b s))]) ?_ rfl ⟨by rw [HMR.out]; rfl, ?_⟩
              · simp [results, Try.results44, go_sem, HR.out]
              · exact below_setRow hB3 (by omega) _
    · have hme : moreE b s = 1 := by unfold moreE; rw [if_neg (by omega), if_pos h2]
      rw [show moreR b s = (zeroBt, 1) by unfold moreR; rw [if_neg (by omega), hme]]
      have H2 := Lib.hid h2
      clear h h2 hme
      go_enter Try.func44, Try.ntmps44
      go_wp2_with fail
      refine (Check3_c b _).mono ?_
      rintro e w1 ⟨rfl, hb1⟩
      obtain ⟨hc1, hf1⟩ := bcell hb1
      have hs1 := hb1.size
      simp only [World.size_alloc] at hs1
      have hz1 : w.heap.size < w1.heap.size := by omega
      have hz1' : w.heap.size + 1 < w1.heap.size := by omega
      have hy1 := (hb1.block (w.heap.size + 1 + 1) (by simp)).trans HY.out
      have hB1 := below_then hB0 hb1
      go_wp2_with fail
      refine (sorted3_b _ H2.out).mono ?_
      rintro e w2 ⟨rfl, hb2⟩
      have hs2 := hb2.size
      have hy := (hb2.block (w.heap.size + 1 + 1) (by omega)).trans hy1
      have hB := below_then hB1 hb2
      have d1 : ((1 : Int) == 0) = false := rfl
      clear hc1 hf1 hy1
      go_wp2_with fail
      refine wp_region_grown (by kernel_rfl) (by kernel_rfl) fun hcg => ?_
      repeat (go_big_quiet_step (fail))
      refine wpQuiet_nil ?_
      intro _ hw'
      obtain ⟨g, hw''⟩ := hw'
      subst hw''
      have hy := (g.b.block (w.heap.size + 1 + 1) (by omega)).trans hy
      have hB := below_then hB g.b
      clear hcg
      have HR := Lib.hid (fun j : Nat => cell_setRow_same _ (w.heap.size + 1 + 1) j _ #[.int .i64 0, .int .i64 0, .int .i64 0, .int .i64 0, .int .i64 0, .int .i64 0, .int .i64 0, .int .i64 0, .int .i64 0, .int .i64 0, .int .i64 1] _ _ hy)
      go_wp2_with (refine wpList_store_rowTo rfl 71 _ _ rfl rfl (w.heap.size + 1 + 1) #[.int .i64 0, .int .i64 0, .int .i64 0, .int .i64 0, .int .i64 0, .int .i64 0, .int .i64 0, .int .i64 0, .int .i64 0, .int .i64 0, .int .i64 1] rfl rfl 71 _ hy (by kernel_rfl) rfl (by kernel_rfl) ?_)
      refine bodyPost_ret (v := .agg #[.int .i64 0, .int .i64 0, .int .i64 0, .int .i64 0, .int .i64 0, .int .i64 0, .int .i64 0, .int .i64 0, .int .i64 0, .int .i64 0, .int .i64 1]) ?_ rfl ⟨rfl, ?_⟩
      · simp [results, Try.results44, go_sem, HR.out]
      · exact below_setRow hB (by omega) _
  · have hme : moreE b s = checkB b := by unfold moreE; rw [if_pos h]
    rw [show moreR b s = (zeroBt, checkB b) by unfold moreR; rw [if_neg (by omega), hme]]
    have hd : (checkB b == 0) = false := by simpa using h
    have hdn : (checkB b != 0) = true := by simpa using h
    clear h hme
    go_enter Try.func44, Try.ntmps44
    go_wp2_with fail
    refine (Check3_c b _).mono ?_
    rintro e w1 ⟨rfl, hb1⟩
    obtain ⟨hc1, hf1⟩ := bcell hb1
    have hs1 := hb1.size
    simp only [World.size_alloc] at hs1
    have hz1 : w.heap.size < w1.heap.size := by omega
    have hz1' : w.heap.size + 1 < w1.heap.size := by omega
    have hy1 := (hb1.block (w.heap.size + 1 + 1) (by simp)).trans HY.out
    have hB1 := below_then hB0 hb1
    go_wp2_with fail
    refine wp_region_grown (by kernel_rfl) (by kernel_rfl) fun hcg => ?_
    repeat (go_big_quiet_step (fail))
    refine wpQuiet_nil ?_
    intro _ hw'
    obtain ⟨g, hw''⟩ := hw'
    subst hw''
    have hy := (g.b.block (w.heap.size + 1 + 1) (by omega)).trans hy1
    have hB := below_then hB1 g.b
    clear hcg hc1 hf1 hy1
    have HR := Lib.hid (fun j : Nat => cell_setRow_same _ (w.heap.size + 1 + 1) j _ #[.int .i64 0, .int .i64 0, .int .i64 0, .int .i64 0, .int .i64 0, .int .i64 0, .int .i64 0, .int .i64 0, .int .i64 0, .int .i64 0, .int .i64 (checkB b)] _ _ hy)
    go_wp2_with (refine wpList_store_rowTo rfl 71 _ _ rfl rfl (w.heap.size + 1 + 1) #[.int .i64 0, .int .i64 0, .int .i64 0, .int .i64 0, .int .i64 0, .int .i64 0, .int .i64 0, .int .i64 0, .int .i64 0, .int .i64 0, .int .i64 (checkB b)] rfl rfl 71 _ hy (by kernel_rfl) rfl (by kernel_rfl) ?_)
    refine bodyPost_ret (v := .agg #[.int .i64 0, .int .i64 0, .int .i64 0, .int .i64 0, .int .i64 0, .int .i64 0, .int .i64 0, .int .i64 0, .int .i64 0, .int .i64 0, .int .i64 (checkB b)]) ?_ rfl ⟨rfl, ?_⟩
    · simp [results, Try.results44, go_sem, HR.out]
    · exact below_setRow hB (by omega) _
end Go.Proofs.Ytaaeipjnhjgjdaa
