/- The reference's Weight, Run, Held, Below, Feet (written by tools/gensreff.py). -/
import Derived.Test.YtnedcclmfokdnaaGreatZSRefE
namespace Go.Proofs.YtnedcclmfokdnaaGreat
open Go Go.RowKit Go.Shelf
attribute [local go_sem] Oper.semAt_some Rel RelAt RelUpon

theorem mark_rngN {k : Kl} {n : Int} (h : 0 ≤ n ∧ n ≤ k.ds.length) : 0 ≤ markI k n ∧ markI k n < mN k := by
  unfold markI mN
  split <;> omega
set_option maxRecDepth 100000 in
set_option maxHeartbeats 4000000 in
theorem rWeight_bad (k : Kl) (v : Value) (id : Int) (w : World) (hk : Kiln w v k) (hc : checkI k ≠ 0) : Calls Tryz.prog 36 #[v, .int .i64 id] w fun e w' => e = .returned (.agg #[.int .i64 (weightE k id).1.1, .int .i64 (weightE k id).1.2, .int .i64 (weightE k id).2]) ∧ Below w.heap.size w w' := by
  have HE := Lib.hid (show weightE k id = ((0, 0), checkI k) by unfold weightE runE; rw [if_pos hc])
  have d0 : (checkI k != 0) = true := by simpa using hc
  clear hc
  obtain ⟨A1, c1, A2, c2, A3, c3, rfl⟩ := kilnForm hk
  have HK := Lib.hid hk
  clear hk
  go_enter Tryz.func36, Tryz.ntmps36
  obtain ⟨bk, br, -, HB⟩ := two_new' w (.cells #[.int .i64 k.room, .int .i64 k.per, .slice A1 k.ls.length c1, .slice A2 k.ds.length c2, .slice A3 k.ws.length c3] 26) (.cells #[.int .i64 0, .int .i64 0, .int .i64 0] 67)
  have cbk0 := Joins.cell_of_block bk 0
  have cbk1 := Joins.cell_of_block bk 1
  have cbk2 := Joins.cell_of_block bk 2
  have cbk3 := Joins.cell_of_block bk 3
  have cbk4 := Joins.cell_of_block bk 4
  have zbk := size_of_block bk
  go_wp2_with fail
  generalize ((w.alloc (.cells #[.int .i64 k.room, .int .i64 k.per, .slice A1 k.ls.length c1, .slice A2 k.ds.length c2, .slice A3 k.ws.length c3] 26)).alloc (.cells #[.int .i64 0, .int .i64 0, .int .i64 0] 67)) = w1 at bk br HB cbk0 cbk1 cbk2 cbk3 cbk4 zbk ⊢
  have hB := HB
  clear HB
  refine (rcheck_c k _ w1 (HK.out.later hB)).mono ?_
  rintro e w2 ⟨rfl, hF⟩
  clear cbk0 cbk1 cbk2 cbk3 cbk4 zbk
  replace bk := (hF.block _ (size_of_block bk)).trans bk
  replace br := (hF.block _ (size_of_block br)).trans br
  replace hB := below_then hB hF
  clear hF
  have HPP := Lib.hid (fun j : Nat => cell_setRow_same w2 (w.heap.size + 1) j _ #[.int .i64 0, .int .i64 0, .int .i64 (checkI k)] _ _ br)
  have HBF := Lib.hid (below_setRow hB (show w.heap.size ≤ w.heap.size + 1 by omega) #[.int .i64 0, .int .i64 0, .int .i64 (checkI k)])
  skip
  go_wp2_with (first | (refine wpList_store_rowTo rfl 67 _ _ rfl rfl (w.heap.size + 1) #[.int .i64 0, .int .i64 0, .int .i64 (checkI k)] rfl rfl 67 _ br (by kernel_rfl) rfl (by kernel_rfl) ?_))
  refine bodyPost_ret (v := .agg #[.int .i64 0, .int .i64 0, .int .i64 (checkI k)]) ?_ rfl ⟨by rw [HE.out], HBF.out⟩
  simp [results, Tryz.results36, go_sem, HPP.out]
set_option maxRecDepth 100000 in
set_option maxHeartbeats 4000000 in
theorem rWeight_load (k : Kl) (v : Value) (id : Int) (w : World) (hk : Kiln w v k) (hc : checkI k = 0) (h1 : 0 ≤ place k.ls id) : Calls Tryz.prog 36 #[v, .int .i64 id] w fun e w' => e = .returned (.agg #[.int .i64 (weightE k id).1.1, .int .i64 (weightE k id).1.2, .int .i64 (weightE k id).2]) ∧ Below w.heap.size w w' := by
  have HE := Lib.hid (show weightE k id = betw k (place k.ls id) (place k.ls id + 1) by rw [weight_ref hc, if_pos h1])
  have hR := right_of_check hc
  have HR := Lib.hid hR
  have hmn := mN_eq k
  have n1 := hR.ls
  have n2 := hR.ds
  have r1 := place_range k.ls id
  have r2 := place_range k.ds id
  have yl := fun v W h => load_c k v id W h
  have yd := fun v W h => draw_c k v id W h
  obtain ⟨p, hp⟩ : ∃ p, p = place k.ls id := ⟨_, rfl⟩
  obtain ⟨q, hq⟩ : ∃ q, q = place k.ds id := ⟨_, rfl⟩
  rw [← hp] at yl r1 h1 HE
  rw [← hq] at yd r2
  clear hp hq
  have HYL := Lib.hid yl
  have HYD := Lib.hid yd
  clear yl yd
  have hx1 : 0 ≤ p ∧ p < mN k := by unfold mN; omega
  have hx2 : 0 ≤ p + 1 ∧ p + 1 < mN k := by unfold mN; omega
  obtain ⟨A1, c1, A2, c2, A3, c3, rfl⟩ := kilnForm hk
  have HK := Lib.hid hk
  clear hk
  go_enter Tryz.func36, Tryz.ntmps36
  obtain ⟨bk, br, -, HB⟩ := two_new' w (.cells #[.int .i64 k.room, .int .i64 k.per, .slice A1 k.ls.length c1, .slice A2 k.ds.length c2, .slice A3 k.ws.length c3] 26) (.cells #[.int .i64 0, .int .i64 0, .int .i64 0] 67)
  have cbk0 := Joins.cell_of_block bk 0
  have cbk1 := Joins.cell_of_block bk 1
  have cbk2 := Joins.cell_of_block bk 2
  have cbk3 := Joins.cell_of_block bk 3
  have cbk4 := Joins.cell_of_block bk 4
  have zbk := size_of_block bk
  go_wp2_with fail
  generalize ((w.alloc (.cells #[.int .i64 k.room, .int .i64 k.per, .slice A1 k.ls.length c1, .slice A2 k.ds.length c2, .slice A3 k.ws.length c3] 26)).alloc (.cells #[.int .i64 0, .int .i64 0, .int .i64 0] 67)) = w1 at bk br HB cbk0 cbk1 cbk2 cbk3 cbk4 zbk ⊢
  have hB := HB
  clear HB
  refine (rcheck_c k _ w1 (HK.out.later hB)).mono ?_
  rintro e w2 ⟨rfl, hF⟩
  clear cbk0 cbk1 cbk2 cbk3 cbk4 zbk
  replace bk := (hF.block _ (size_of_block bk)).trans bk
  replace br := (hF.block _ (size_of_block br)).trans br
  replace hB := below_then hB hF
  clear hF
  rw [hc]
  clear hc
  have cbk0 := Joins.cell_of_block bk 0
  have cbk1 := Joins.cell_of_block bk 1
  have cbk2 := Joins.cell_of_block bk 2
  have cbk3 := Joins.cell_of_block bk 3
  have cbk4 := Joins.cell_of_block bk 4
  have zbk := size_of_block bk
  go_wp2_with fail
  refine (HYL.out _ w2 (HK.out.later hB)).mono ?_
  rintro e w3 ⟨rfl, hF⟩
  clear cbk0 cbk1 cbk2 cbk3 cbk4 zbk
  replace bk := (hF.block _ (size_of_block bk)).trans bk
  replace br := (hF.block _ (size_of_block br)).trans br
  replace hB := below_then hB hF
  clear hF
  have cbk0 := Joins.cell_of_block bk 0
  have cbk1 := Joins.cell_of_block bk 1
  have cbk2 := Joins.cell_of_block bk 2
  have cbk3 := Joins.cell_of_block bk 3
  have cbk4 := Joins.cell_of_block bk 4
  have zbk := size_of_block bk
  go_wp2_with fail
  refine (HYD.out _ w3 (HK.out.later hB)).mono ?_
  rintro e w4 ⟨rfl, hF⟩
  clear cbk0 cbk1 cbk2 cbk3 cbk4 zbk
  replace bk := (hF.block _ (size_of_block bk)).trans bk
  replace br := (hF.block _ (size_of_block br)).trans br
  replace hB := below_then hB hF
  clear hF
  have cbk0 := Joins.cell_of_block bk 0
  have cbk1 := Joins.cell_of_block bk 1
  have cbk2 := Joins.cell_of_block bk 2
  have cbk3 := Joins.cell_of_block bk 3
  have cbk4 := Joins.cell_of_block bk 4
  have zbk := size_of_block bk
  go_wp2_with fail
  all_goals (try (exfalso; omega))
  refine (rbetween_i k _ p (p + 1) w4 (HK.out.later hB) HR.out hx1 hx2).mono ?_
  rintro e w5 ⟨rfl, hF⟩
  clear cbk0 cbk1 cbk2 cbk3 cbk4 zbk
  replace bk := (hF.block _ (size_of_block bk)).trans bk
  replace br := (hF.block _ (size_of_block br)).trans br
  replace hB := below_then hB hF
  clear hF
  have HPP := Lib.hid (fun j : Nat => cell_setRow_same w5 (w.heap.size + 1) j _ #[.int .i64 (betw k p (p + 1)).1.1, .int .i64 (betw k p (p + 1)).1.2, .int .i64 (betw k p (p + 1)).2] _ _ br)
  have HBF := Lib.hid (below_setRow hB (show w.heap.size ≤ w.heap.size + 1 by omega) #[.int .i64 (betw k p (p + 1)).1.1, .int .i64 (betw k p (p + 1)).1.2, .int .i64 (betw k p (p + 1)).2])
  skip
  go_wp2_with (first | (refine wpList_store_rowTo rfl 67 _ _ rfl rfl (w.heap.size + 1) #[.int .i64 (betw k p (p + 1)).1.1, .int .i64 (betw k p (p + 1)).1.2, .int .i64 (betw k p (p + 1)).2] rfl rfl 67 _ br (by kernel_rfl) rfl (by kernel_rfl) ?_))
  refine bodyPost_ret (v := .agg #[.int .i64 (betw k p (p + 1)).1.1, .int .i64 (betw k p (p + 1)).1.2, .int .i64 (betw k p (p + 1)).2]) ?_ rfl ⟨by rw [HE.out], HBF.out⟩
  simp [results, Tryz.results36, go_sem, HPP.out]
set_option maxRecDepth 100000 in
set_option maxHeartbeats 4000000 in
theorem rWeight_draw (k : Kl) (v : Value) (id : Int) (w : World) (hk : Kiln w v k) (hc : checkI k = 0) (h1 : ¬ 0 ≤ place k.ls id) (h2 : 0 ≤ place k.ds id) : Calls Tryz.prog 36 #[v, .int .i64 id] w fun e w' => e = .returned (.agg #[.int .i64 (weightE k id).1.1, .int .i64 (weightE k id).1.2, .int .i64 (weightE k id).2]) ∧ Below w.heap.size w w' := by
  have HE := Lib.hid (show weightE k id = betw k (markI k (place k.ds id)) (markI k (place k.ds id + 1)) by rw [weight_ref hc, if_neg h1, if_pos h2])
  have hR := right_of_check hc
  have HR := Lib.hid hR
  have hmn := mN_eq k
  have n1 := hR.ls
  have n2 := hR.ds
  have r1 := place_range k.ls id
  have r2 := place_range k.ds id
  have yl := fun v W h => load_c k v id W h
  have yd := fun v W h => draw_c k v id W h
  obtain ⟨p, hp⟩ : ∃ p, p = place k.ls id := ⟨_, rfl⟩
  obtain ⟨q, hq⟩ : ∃ q, q = place k.ds id := ⟨_, rfl⟩
  rw [← hp] at yl r1 h1
  rw [← hq] at yd r2 h2 HE
  clear hp hq
  have HYL := Lib.hid yl
  have HYD := Lib.hid yd
  clear yl yd
  have hx1 := mark_rngN (k := k) (n := q) (by omega)
  have hx2 := mark_rngN (k := k) (n := q + 1) (by omega)
  have hw := Lib.hid (show IntKind.i64.wrap (q + 1) = q + 1 by rw [IntKind.wrap_i64]; omega)
  obtain ⟨A1, c1, A2, c2, A3, c3, rfl⟩ := kilnForm hk
  have HK := Lib.hid hk
  clear hk
  go_enter Tryz.func36, Tryz.ntmps36
  obtain ⟨bk, br, -, HB⟩ := two_new' w (.cells #[.int .i64 k.room, .int .i64 k.per, .slice A1 k.ls.length c1, .slice A2 k.ds.length c2, .slice A3 k.ws.length c3] 26) (.cells #[.int .i64 0, .int .i64 0, .int .i64 0] 67)
  have cbk0 := Joins.cell_of_block bk 0
  have cbk1 := Joins.cell_of_block bk 1
  have cbk2 := Joins.cell_of_block bk 2
  have cbk3 := Joins.cell_of_block bk 3
  have cbk4 := Joins.cell_of_block bk 4
  have zbk := size_of_block bk
  go_wp2_with fail
  generalize ((w.alloc (.cells #[.int .i64 k.room, .int .i64 k.per, .slice A1 k.ls.length c1, .slice A2 k.ds.length c2, .slice A3 k.ws.length c3] 26)).alloc (.cells #[.int .i64 0, .int .i64 0, .int .i64 0] 67)) = w1 at bk br HB cbk0 cbk1 cbk2 cbk3 cbk4 zbk ⊢
  have hB := HB
  clear HB
  refine (rcheck_c k _ w1 (HK.out.later hB)).mono ?_
  rintro e w2 ⟨rfl, hF⟩
  clear cbk0 cbk1 cbk2 cbk3 cbk4 zbk
  replace bk := (hF.block _ (size_of_block bk)).trans bk
  replace br := (hF.block _ (size_of_block br)).trans br
  replace hB := below_then hB hF
  clear hF
  rw [hc]
  clear hc
  have cbk0 := Joins.cell_of_block bk 0
  have cbk1 := Joins.cell_of_block bk 1
  have cbk2 := Joins.cell_of_block bk 2
  have cbk3 := Joins.cell_of_block bk 3
  have cbk4 := Joins.cell_of_block bk 4
  have zbk := size_of_block bk
  go_wp2_with fail
  refine (HYL.out _ w2 (HK.out.later hB)).mono ?_
  rintro e w3 ⟨rfl, hF⟩
  clear cbk0 cbk1 cbk2 cbk3 cbk4 zbk
  replace bk := (hF.block _ (size_of_block bk)).trans bk
  replace br := (hF.block _ (size_of_block br)).trans br
  replace hB := below_then hB hF
  clear hF
  have cbk0 := Joins.cell_of_block bk 0
  have cbk1 := Joins.cell_of_block bk 1
  have cbk2 := Joins.cell_of_block bk 2
  have cbk3 := Joins.cell_of_block bk 3
  have cbk4 := Joins.cell_of_block bk 4
  have zbk := size_of_block bk
  go_wp2_with fail
  refine (HYD.out _ w3 (HK.out.later hB)).mono ?_
  rintro e w4 ⟨rfl, hF⟩
  clear cbk0 cbk1 cbk2 cbk3 cbk4 zbk
  replace bk := (hF.block _ (size_of_block bk)).trans bk
  replace br := (hF.block _ (size_of_block br)).trans br
  replace hB := below_then hB hF
  clear hF
  go_wp2_with fail
  all_goals (try (exfalso; omega))
  refine wp_region_looseM [2, 5] [0, 1, 4, 6] (.one 3 (.one 7 (.one 8 .done))) [] [] [9] [] [] (by kernel_rfl) (by kernel_rfl) (by intro c a d v w h; cases d <;> exact h) (by intro c a d v w h; cases d <;> exact h) rfl (fun r i h => by simp at h) ?_
  simp only [pick, List.filterMap_cons, List.filterMap_nil, List.getElem?_toArray, List.getElem?_cons_succ, List.getElem?_cons_zero]
  refine wpPure_step (.int .i64 q) rfl (fun u => by first | rfl | kernel_rfl | simp [execOp, go_sem]) ?_
  refine wpPure_step (.int .i64 q) rfl (fun u => by first | rfl | kernel_rfl | simp [execOp, go_sem]) ?_
  intro u5 hu5
  replace bk := (hu5.block _ (size_of_block bk)).trans bk
  replace br := (hu5.block _ (size_of_block br)).trans br
  replace hB := below_then hB hu5
  have cbk0 := Joins.cell_of_block bk 0
  have cbk1 := Joins.cell_of_block bk 1
  have cbk2 := Joins.cell_of_block bk 2
  have cbk3 := Joins.cell_of_block bk 3
  have cbk4 := Joins.cell_of_block bk 4
  have zbk := size_of_block bk
  have hcg : ∀ (g : Gr u5) b o, b < u5.heap.size → g.val.cell? ⟨b, o, none⟩ = u5.cell? ⟨b, o, none⟩ := fun g b o h => (bcell g.b).1 b o h
  iterate 4 (first | (refine wpRel_step (fun K hK => ?_); go_simp; refine hK _ ?_; clear hK K))
  refine wpRel_nil fun V5_0 hb5 => ?_
  clear hcg cbk0 cbk1 cbk2 cbk3 cbk4 zbk
  replace bk := (hb5.block _ (size_of_block bk)).trans bk
  replace br := (hb5.block _ (size_of_block br)).trans br
  replace hB := below_then hB hb5
  clear hb5 hu5
  refine wpTr_step rfl rfl fun K hK => ?_
  go_simp
  refine (mark_c k _ q V5_0 (by omega) (by omega) (HK.out.later hB)).mono ?_
  rintro e X ⟨rfl, hx⟩
  refine hK _ _ hx fun V5_1 hu => ?_
  clear hK K
  have hxu := below_then hx hu
  replace bk := (hxu.block _ (size_of_block bk)).trans bk
  replace br := (hxu.block _ (size_of_block br)).trans br
  replace hB := below_then hB hxu
  clear hx hu hxu
  refine wpTr_step rfl rfl fun K hK => ?_
  go_simp
  try rw [hw.out]
  refine (mark_c k _ (q + 1) V5_1 (by omega) (by omega) (HK.out.later hB)).mono ?_
  rintro e X ⟨rfl, hx⟩
  refine hK _ _ hx fun V5_2 hu => ?_
  clear hK K
  have hxu := below_then hx hu
  replace bk := (hxu.block _ (size_of_block bk)).trans bk
  replace br := (hxu.block _ (size_of_block br)).trans br
  replace hB := below_then hB hxu
  clear hx hu hxu
  refine wpTr_step rfl rfl fun K hK => ?_
  go_simp
  refine (rbetween_i k _ (markI k q) (markI k (q + 1)) V5_2 (HK.out.later hB) HR.out hx1 hx2).mono ?_
  rintro e X ⟨rfl, hx⟩
  refine hK _ _ hx fun V5_3 hu => ?_
  clear hK K
  have hxu := below_then hx hu
  replace bk := (hxu.block _ (size_of_block bk)).trans bk
  replace br := (hxu.block _ (size_of_block br)).trans br
  replace hB := below_then hB hxu
  clear hx hu hxu
  show wpPure _ _ _ _
  intro ks hks _ _
  obtain rfl : ks = [] := List.length_eq_zero_iff.1 hks
  clear hks
  show wpList _ _ _ _ _ _
  simp only [deco]
  have HPP := Lib.hid (fun j : Nat => cell_setRow_same V5_3 (w.heap.size + 1) j _ #[.int .i64 (betw k (markI k q) (markI k (q + 1))).1.1, .int .i64 (betw k (markI k q) (markI k (q + 1))).1.2, .int .i64 (betw k (markI k q) (markI k (q + 1))).2] _ _ br)
  have HBF := Lib.hid (below_setRow hB (show w.heap.size ≤ w.heap.size + 1 by omega) #[.int .i64 (betw k (markI k q) (markI k (q + 1))).1.1, .int .i64 (betw k (markI k q) (markI k (q + 1))).1.2, .int .i64 (betw k (markI k q) (markI k (q + 1))).2])
  skip
  skip
  refine wpList_store_rowTo rfl 67 _ _ rfl rfl (w.heap.size + 1) #[.int .i64 (betw k (markI k q) (markI k (q + 1))).1.1, .int .i64 (betw k (markI k q) (markI k (q + 1))).1.2, .int .i64 (betw k (markI k q) (markI k (q + 1))).2] rfl rfl 67 _ br (by kernel_rfl) rfl (by kernel_rfl) ?_
  go_wp2_with fail
  refine bodyPost_ret (v := .agg #[.int .i64 (betw k (markI k q) (markI k (q + 1))).1.1, .int .i64 (betw k (markI k q) (markI k (q + 1))).1.2, .int .i64 (betw k (markI k q) (markI k (q + 1))).2]) ?_ rfl ⟨by rw [HE.out], HBF.out⟩
  simp [results, Tryz.results36, go_sem, HPP.out]
set_option maxRecDepth 100000 in
set_option maxHeartbeats 4000000 in
theorem rWeight_none (k : Kl) (v : Value) (id : Int) (w : World) (hk : Kiln w v k) (hc : checkI k = 0) (h1 : ¬ 0 ≤ place k.ls id) (h2 : ¬ 0 ≤ place k.ds id) : Calls Tryz.prog 36 #[v, .int .i64 id] w fun e w' => e = .returned (.agg #[.int .i64 (weightE k id).1.1, .int .i64 (weightE k id).1.2, .int .i64 (weightE k id).2]) ∧ Below w.heap.size w w' := by
  have HE := Lib.hid (show weightE k id = ((0, 0), 5) by rw [weight_ref hc, if_neg h1, if_neg h2])
  have r1 := place_range k.ls id
  have r2 := place_range k.ds id
  have yl := fun v W h => load_c k v id W h
  have yd := fun v W h => draw_c k v id W h
  obtain ⟨p, hp⟩ : ∃ p, p = place k.ls id := ⟨_, rfl⟩
  obtain ⟨q, hq⟩ : ∃ q, q = place k.ds id := ⟨_, rfl⟩
  rw [← hp] at yl r1 h1
  rw [← hq] at yd r2 h2
  clear hp hq
  have HYL := Lib.hid yl
  have HYD := Lib.hid yd
  clear yl yd
  obtain ⟨A1, c1, A2, c2, A3, c3, rfl⟩ := kilnForm hk
  have HK := Lib.hid hk
  clear hk
  go_enter Tryz.func36, Tryz.ntmps36
  obtain ⟨bk, br, -, HB⟩ := two_new' w (.cells #[.int .i64 k.room, .int .i64 k.per, .slice A1 k.ls.length c1, .slice A2 k.ds.length c2, .slice A3 k.ws.length c3] 26) (.cells #[.int .i64 0, .int .i64 0, .int .i64 0] 67)
  have cbk0 := Joins.cell_of_block bk 0
  have cbk1 := Joins.cell_of_block bk 1
  have cbk2 := Joins.cell_of_block bk 2
  have cbk3 := Joins.cell_of_block bk 3
  have cbk4 := Joins.cell_of_block bk 4
  have zbk := size_of_block bk
  go_wp2_with fail
  generalize ((w.alloc (.cells #[.int .i64 k.room, .int .i64 k.per, .slice A1 k.ls.length c1, .slice A2 k.ds.length c2, .slice A3 k.ws.length c3] 26)).alloc (.cells #[.int .i64 0, .int .i64 0, .int .i64 0] 67)) = w1 at bk br HB cbk0 cbk1 cbk2 cbk3 cbk4 zbk ⊢
  have hB := HB
  clear HB
  refine (rcheck_c k _ w1 (HK.out.later hB)).mono ?_
  rintro e w2 ⟨rfl, hF⟩
  clear cbk0 cbk1 cbk2 cbk3 cbk4 zbk
  replace bk := (hF.block _ (size_of_block bk)).trans bk
  replace br := (hF.block _ (size_of_block br)).trans br
  replace hB := below_then hB hF
  clear hF
  rw [hc]
  clear hc
  have cbk0 := Joins.cell_of_block bk 0
  have cbk1 := Joins.cell_of_block bk 1
  have cbk2 := Joins.cell_of_block bk 2
  have cbk3 := Joins.cell_of_block bk 3
  have cbk4 := Joins.cell_of_block bk 4
  have zbk := size_of_block bk
  go_wp2_with fail
  refine (HYL.out _ w2 (HK.out.later hB)).mono ?_
  rintro e w3 ⟨rfl, hF⟩
  clear cbk0 cbk1 cbk2 cbk3 cbk4 zbk
  replace bk := (hF.block _ (size_of_block bk)).trans bk
  replace br := (hF.block _ (size_of_block br)).trans br
  replace hB := below_then hB hF
  clear hF
  have cbk0 := Joins.cell_of_block bk 0
  have cbk1 := Joins.cell_of_block bk 1
  have cbk2 := Joins.cell_of_block bk 2
  have cbk3 := Joins.cell_of_block bk 3
  have cbk4 := Joins.cell_of_block bk 4
  have zbk := size_of_block bk
  go_wp2_with fail
  refine (HYD.out _ w3 (HK.out.later hB)).mono ?_
  rintro e w4 ⟨rfl, hF⟩
  clear cbk0 cbk1 cbk2 cbk3 cbk4 zbk
  replace bk := (hF.block _ (size_of_block bk)).trans bk
  replace br := (hF.block _ (size_of_block br)).trans br
  replace hB := below_then hB hF
  clear hF
  have HPP := Lib.hid (fun j : Nat => cell_setRow_same w4 (w.heap.size + 1) j _ #[.int .i64 0, .int .i64 0, .int .i64 5] _ _ br)
  have HBF := Lib.hid (below_setRow hB (show w.heap.size ≤ w.heap.size + 1 by omega) #[.int .i64 0, .int .i64 0, .int .i64 5])
  skip
  go_wp2_with (first | (refine wpList_store_rowTo rfl 67 _ _ rfl rfl (w.heap.size + 1) #[.int .i64 0, .int .i64 0, .int .i64 5] rfl rfl 67 _ br (by kernel_rfl) rfl (by kernel_rfl) ?_))
  refine bodyPost_ret (v := .agg #[.int .i64 0, .int .i64 0, .int .i64 5]) ?_ rfl ⟨by rw [HE.out], HBF.out⟩
  simp [results, Tryz.results36, go_sem, HPP.out]
theorem rWeight_c (k : Kl) (v : Value) (id : Int) (w : World) (hk : Kiln w v k) : Calls Tryz.prog 36 #[v, .int .i64 id] w fun e w' => e = .returned (.agg #[.int .i64 (weightE k id).1.1, .int .i64 (weightE k id).1.2, .int .i64 (weightE k id).2]) ∧ Below w.heap.size w w' := by
  by_cases hc : checkI k = 0
  · by_cases h1 : 0 ≤ place k.ls id
    · exact rWeight_load k v id w hk hc h1
    · by_cases h2 : 0 ≤ place k.ds id
      · exact rWeight_draw k v id w hk hc h1 h2
      · exact rWeight_none k v id w hk hc h1 h2
  · exact rWeight_bad k v id w hk hc
end Go.Proofs.YtnedcclmfokdnaaGreat
