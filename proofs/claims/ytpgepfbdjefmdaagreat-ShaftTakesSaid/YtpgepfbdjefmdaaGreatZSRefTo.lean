/- The reference's asked, Took (written by tools/gensrefto.py). -/
import Derived.Test.YtpgepfbdjefmdaaGreatZSRefSh
import Derived.Test.YtpgepfbdjefmdaaGreatZSRefK
namespace Go.Proofs.YtpgepfbdjefmdaaGreat
open Go Go.RowKit Go.Shelf
attribute [local go_sem] Oper.semAt_some Rel RelAt RelUpon

set_option maxRecDepth 100000 in
set_option maxHeartbeats 4000000 in
theorem rasked_bad (k : Kl) (v : Value) (d l : Int) (w : World) (hk : Kiln w v k) (hc : checkI k ≠ 0) : Calls Tryz.prog 118 #[v, .int .i64 d, .int .i64 l] w fun e w' => e = .returned (.tuple #[.int .i64 (0), .int .i64 (0), .int .i64 (checkI k)]) ∧ Below w.heap.size w w' := by
  have d0 : (checkI k != 0) = true := by simpa using hc
  clear hc
  obtain ⟨A1, c1, A2, c2, A3, c3, rfl⟩ := kilnForm hk
  have HK := Lib.hid hk
  clear hk
  go_enter Tryz.func118, Tryz.ntmps118
  have bk := heap_alloc_new w (.cells #[.int .i64 k.room, .int .i64 k.per, .slice A1 k.ls.length c1, .slice A2 k.ds.length c2, .slice A3 k.ws.length c3] 26)
  have HB := below_alloc w (.cells #[.int .i64 k.room, .int .i64 k.per, .slice A1 k.ls.length c1, .slice A2 k.ds.length c2, .slice A3 k.ws.length c3] 26)
  have cbk0 := Joins.cell_of_block bk 0
  have cbk1 := Joins.cell_of_block bk 1
  have cbk2 := Joins.cell_of_block bk 2
  have cbk3 := Joins.cell_of_block bk 3
  have cbk4 := Joins.cell_of_block bk 4
  have zbk := size_of_block bk
  go_wp2_with fail
  generalize (w.alloc (.cells #[.int .i64 k.room, .int .i64 k.per, .slice A1 k.ls.length c1, .slice A2 k.ds.length c2, .slice A3 k.ws.length c3] 26)) = w1 at bk HB cbk0 cbk1 cbk2 cbk3 cbk4 zbk ⊢
  have hB := HB
  clear HB
  refine (rcheck_c k _ w1 (HK.out.later hB)).mono ?_
  rintro e w2 ⟨rfl, hF⟩
  clear cbk0 cbk1 cbk2 cbk3 cbk4 zbk
  replace bk := (hF.block _ (size_of_block bk)).trans bk
  replace hB := below_then hB hF
  clear hF
  go_wp2_with fail
  all_goals (try (exfalso; omega))
  all_goals (refine bodyPost_ret (v := .tuple #[.int .i64 (0), .int .i64 (0), .int .i64 (checkI k)]) ?_ rfl ⟨rfl, hB⟩; simp [results, Tryz.results118, go_sem])
set_option maxRecDepth 100000 in
set_option maxHeartbeats 4000000 in
theorem rasked_none (k : Kl) (v : Value) (d l : Int) (w : World) (hk : Kiln w v k) (hc : checkI k = 0) (h1 : place k.ls l < 0 ∨ place k.ds d < 0) : Calls Tryz.prog 118 #[v, .int .i64 d, .int .i64 l] w fun e w' => e = .returned (.tuple #[.int .i64 (0), .int .i64 (0), .int .i64 (5)]) ∧ Below w.heap.size w w' := by
  have yd := fun v W h => draw_c k v d W h
  have yl := fun v W h => load_c k v l W h
  obtain ⟨pd, hpd⟩ : ∃ x, x = place k.ds d := ⟨_, rfl⟩
  obtain ⟨pl, hpl⟩ : ∃ x, x = place k.ls l := ⟨_, rfl⟩
  rw [← hpd] at yd h1
  rw [← hpl] at yl h1
  have YD := Lib.hid yd
  have YL := Lib.hid yl
  clear yd yl hpd hpl
  obtain ⟨A1, c1, A2, c2, A3, c3, rfl⟩ := kilnForm hk
  have HK := Lib.hid hk
  clear hk
  go_enter Tryz.func118, Tryz.ntmps118
  have bk := heap_alloc_new w (.cells #[.int .i64 k.room, .int .i64 k.per, .slice A1 k.ls.length c1, .slice A2 k.ds.length c2, .slice A3 k.ws.length c3] 26)
  have HB := below_alloc w (.cells #[.int .i64 k.room, .int .i64 k.per, .slice A1 k.ls.length c1, .slice A2 k.ds.length c2, .slice A3 k.ws.length c3] 26)
  have cbk0 := Joins.cell_of_block bk 0
  have cbk1 := Joins.cell_of_block bk 1
  have cbk2 := Joins.cell_of_block bk 2
  have cbk3 := Joins.cell_of_block bk 3
  have cbk4 := Joins.cell_of_block bk 4
  have zbk := size_of_block bk
  go_wp2_with fail
  generalize (w.alloc (.cells #[.int .i64 k.room, .int .i64 k.per, .slice A1 k.ls.length c1, .slice A2 k.ds.length c2, .slice A3 k.ws.length c3] 26)) = w1 at bk HB cbk0 cbk1 cbk2 cbk3 cbk4 zbk ⊢
  have hB := HB
  clear HB
  refine (rcheck_c k _ w1 (HK.out.later hB)).mono ?_
  rintro e w2 ⟨rfl, hF⟩
  clear cbk0 cbk1 cbk2 cbk3 cbk4 zbk
  replace bk := (hF.block _ (size_of_block bk)).trans bk
  replace hB := below_then hB hF
  clear hF
  rw [hc]
  clear hc
  have cbk0 := Joins.cell_of_block bk 0
  have cbk1 := Joins.cell_of_block bk 1
  have cbk2 := Joins.cell_of_block bk 2
  have cbk3 := Joins.cell_of_block bk 3
  have cbk4 := Joins.cell_of_block bk 4
  have zbk := size_of_block bk
  go_wp2_with fail
  refine (YD.out _ w2 (HK.out.later hB)).mono ?_
  rintro e w3 ⟨rfl, hF⟩
  clear cbk0 cbk1 cbk2 cbk3 cbk4 zbk
  replace bk := (hF.block _ (size_of_block bk)).trans bk
  replace hB := below_then hB hF
  clear hF
  have cbk0 := Joins.cell_of_block bk 0
  have cbk1 := Joins.cell_of_block bk 1
  have cbk2 := Joins.cell_of_block bk 2
  have cbk3 := Joins.cell_of_block bk 3
  have cbk4 := Joins.cell_of_block bk 4
  have zbk := size_of_block bk
  go_wp2_with fail
  refine (YL.out _ w3 (HK.out.later hB)).mono ?_
  rintro e w4 ⟨rfl, hF⟩
  clear cbk0 cbk1 cbk2 cbk3 cbk4 zbk
  replace bk := (hF.block _ (size_of_block bk)).trans bk
  replace hB := below_then hB hF
  clear hF
  go_wp2_with fail
  all_goals (try (exfalso; omega))
  all_goals (refine bodyPost_ret (v := .tuple #[.int .i64 (0), .int .i64 (0), .int .i64 (5)]) ?_ rfl ⟨rfl, hB⟩; simp [results, Tryz.results118, go_sem])
set_option maxRecDepth 100000 in
set_option maxHeartbeats 4000000 in
theorem rasked_ok (k : Kl) (v : Value) (d l : Int) (w : World) (hk : Kiln w v k) (hc : checkI k = 0) (h1 : ¬ (place k.ls l < 0 ∨ place k.ds d < 0)) : Calls Tryz.prog 118 #[v, .int .i64 d, .int .i64 l] w fun e w' => e = .returned (.tuple #[.int .i64 (place k.ds d), .int .i64 (place k.ls l), .int .i64 (0)]) ∧ Below w.heap.size w w' := by
  have yd := fun v W h => draw_c k v d W h
  have yl := fun v W h => load_c k v l W h
  obtain ⟨pd, hpd⟩ : ∃ x, x = place k.ds d := ⟨_, rfl⟩
  obtain ⟨pl, hpl⟩ : ∃ x, x = place k.ls l := ⟨_, rfl⟩
  rw [← hpd] at yd h1
  rw [← hpl] at yl h1
  rw [← hpd, ← hpl]
  have YD := Lib.hid yd
  have YL := Lib.hid yl
  clear yd yl hpd hpl
  obtain ⟨A1, c1, A2, c2, A3, c3, rfl⟩ := kilnForm hk
  have HK := Lib.hid hk
  clear hk
  go_enter Tryz.func118, Tryz.ntmps118
  have bk := heap_alloc_new w (.cells #[.int .i64 k.room, .int .i64 k.per, .slice A1 k.ls.length c1, .slice A2 k.ds.length c2, .slice A3 k.ws.length c3] 26)
  have HB := below_alloc w (.cells #[.int .i64 k.room, .int .i64 k.per, .slice A1 k.ls.length c1, .slice A2 k.ds.length c2, .slice A3 k.ws.length c3] 26)
  have cbk0 := Joins.cell_of_block bk 0
  have cbk1 := Joins.cell_of_block bk 1
  have cbk2 := Joins.cell_of_block bk 2
  have cbk3 := Joins.cell_of_block bk 3
  have cbk4 := Joins.cell_of_block bk 4
  have zbk := size_of_block bk
  go_wp2_with fail
  generalize (w.alloc (.cells #[.int .i64 k.room, .int .i64 k.per, .slice A1 k.ls.length c1, .slice A2 k.ds.length c2, .slice A3 k.ws.length c3] 26)) = w1 at bk HB cbk0 cbk1 cbk2 cbk3 cbk4 zbk ⊢
  have hB := HB
  clear HB
  refine (rcheck_c k _ w1 (HK.out.later hB)).mono ?_
  rintro e w2 ⟨rfl, hF⟩
  clear cbk0 cbk1 cbk2 cbk3 cbk4 zbk
  replace bk := (hF.block _ (size_of_block bk)).trans bk
  replace hB := below_then hB hF
  clear hF
  rw [hc]
  clear hc
  have cbk0 := Joins.cell_of_block bk 0
  have cbk1 := Joins.cell_of_block bk 1
  have cbk2 := Joins.cell_of_block bk 2
  have cbk3 := Joins.cell_of_block bk 3
  have cbk4 := Joins.cell_of_block bk 4
  have zbk := size_of_block bk
  go_wp2_with fail
  refine (YD.out _ w2 (HK.out.later hB)).mono ?_
  rintro e w3 ⟨rfl, hF⟩
  clear cbk0 cbk1 cbk2 cbk3 cbk4 zbk
  replace bk := (hF.block _ (size_of_block bk)).trans bk
  replace hB := below_then hB hF
  clear hF
  have cbk0 := Joins.cell_of_block bk 0
  have cbk1 := Joins.cell_of_block bk 1
  have cbk2 := Joins.cell_of_block bk 2
  have cbk3 := Joins.cell_of_block bk 3
  have cbk4 := Joins.cell_of_block bk 4
  have zbk := size_of_block bk
  go_wp2_with fail
  refine (YL.out _ w3 (HK.out.later hB)).mono ?_
  rintro e w4 ⟨rfl, hF⟩
  clear cbk0 cbk1 cbk2 cbk3 cbk4 zbk
  replace bk := (hF.block _ (size_of_block bk)).trans bk
  replace hB := below_then hB hF
  clear hF
  go_wp2_with fail
  all_goals (try (exfalso; omega))
  all_goals (refine bodyPost_ret (v := .tuple #[.int .i64 (pd), .int .i64 (pl), .int .i64 (0)]) ?_ rfl ⟨rfl, hB⟩; simp [results, Tryz.results118, go_sem])
set_option maxRecDepth 100000 in
set_option maxHeartbeats 4000000 in
theorem rTook_bad (k : Kl) (v : Value) (d l : Int) (w : World) (hk : Kiln w v k) (hc : checkI k ≠ 0) : Calls Tryz.prog 46 #[v, .int .i64 d, .int .i64 l] w fun e w' => e = .returned (.agg #[.int .i64 (tookE k d l).1.1, .int .i64 (tookE k d l).1.2, .int .i64 (tookE k d l).2]) ∧ Below w.heap.size w w' := by
  have HE := Lib.hid (show tookE k d l = ((0, 0), checkI k) by unfold tookE; rw [if_pos hc])
  have YA := Lib.hid (fun v W h => rasked_bad k v d l W h hc)
  have d0 : (checkI k != 0) = true := by simpa using hc
  clear hc
  obtain ⟨A1, c1, A2, c2, A3, c3, rfl⟩ := kilnForm hk
  have HK := Lib.hid hk
  clear hk
  go_enter Tryz.func46, Tryz.ntmps46
  obtain ⟨bk, br, -, HB⟩ := two_new' w (.cells #[.int .i64 k.room, .int .i64 k.per, .slice A1 k.ls.length c1, .slice A2 k.ds.length c2, .slice A3 k.ws.length c3] 26) (.cells #[.int .i64 0, .int .i64 0, .int .i64 0] 67)
  have cbk0 := Joins.cell_of_block bk 0
  have cbk1 := Joins.cell_of_block bk 1
  have cbk2 := Joins.cell_of_block bk 2
  have cbk3 := Joins.cell_of_block bk 3
  have cbk4 := Joins.cell_of_block bk 4
  have zbk := size_of_block bk
  go_wp2_with fail
  generalize ((w.alloc (.cells #[.int .i64 k.room, .int .i64 k.per, .slice A1 k.ls.length c1, .slice A2 k.ds.length c2, .slice A3 k.ws.length c3] 26)).alloc (.cells #[.int .i64 0, .int .i64 0, .int .i64 0] 67)) = w1 at bk br HB cbk0 cbk1 cbk2 cbk3 cbk4 zbk ⊢
  have hB := HB
  clear HB
  refine (YA.out _ w1 (HK.out.later hB)).mono ?_
  rintro e w2 ⟨rfl, hF⟩
  clear cbk0 cbk1 cbk2 cbk3 cbk4 zbk
  replace bk := (hF.block _ (size_of_block bk)).trans bk
  replace br := (hF.block _ (size_of_block br)).trans br
  replace hB := below_then hB hF
  clear hF
  have HPP := Lib.hid (fun j : Nat => cell_setRow_same w2 (w.heap.size + 1) j _ #[.int .i64 0, .int .i64 0, .int .i64 (checkI k)] _ _ br)
  have HBF := Lib.hid (below_setRow hB (show w.heap.size ≤ w.heap.size + 1 by omega) #[.int .i64 0, .int .i64 0, .int .i64 (checkI k)])
  skip
  go_wp2_with (first | (refine wpList_store_rowTo rfl 67 _ _ rfl rfl (w.heap.size + 1) #[.int .i64 0, .int .i64 0, .int .i64 (checkI k)] rfl rfl 67 _ br (by kernel_rfl) rfl (by kernel_rfl) ?_))
  refine bodyPost_ret (v := .agg #[.int .i64 0, .int .i64 0, .int .i64 (checkI k)]) ?_ rfl ⟨by rw [HE.out], HBF.out⟩
  simp [results, Tryz.results46, go_sem, HPP.out]
set_option maxRecDepth 100000 in
set_option maxHeartbeats 4000000 in
theorem rTook_none (k : Kl) (v : Value) (d l : Int) (w : World) (hk : Kiln w v k) (hc : checkI k = 0) (h1 : place k.ls l < 0 ∨ place k.ds d < 0) : Calls Tryz.prog 46 #[v, .int .i64 d, .int .i64 l] w fun e w' => e = .returned (.agg #[.int .i64 (tookE k d l).1.1, .int .i64 (tookE k d l).1.2, .int .i64 (tookE k d l).2]) ∧ Below w.heap.size w w' := by
  have HE := Lib.hid (show tookE k d l = ((0, 0), 5) by unfold tookE; rw [if_neg (show ¬ checkI k ≠ 0 by simp [hc]), if_pos h1])
  have YA := Lib.hid (fun v W h => rasked_none k v d l W h hc h1)
  clear hc h1
  obtain ⟨A1, c1, A2, c2, A3, c3, rfl⟩ := kilnForm hk
  have HK := Lib.hid hk
  clear hk
  go_enter Tryz.func46, Tryz.ntmps46
  obtain ⟨bk, br, -, HB⟩ := two_new' w (.cells #[.int .i64 k.room, .int .i64 k.per, .slice A1 k.ls.length c1, .slice A2 k.ds.length c2, .slice A3 k.ws.length c3] 26) (.cells #[.int .i64 0, .int .i64 0, .int .i64 0] 67)
  have cbk0 := Joins.cell_of_block bk 0
  have cbk1 := Joins.cell_of_block bk 1
  have cbk2 := Joins.cell_of_block bk 2
  have cbk3 := Joins.cell_of_block bk 3
  have cbk4 := Joins.cell_of_block bk 4
  have zbk := size_of_block bk
  go_wp2_with fail
  generalize ((w.alloc (.cells #[.int .i64 k.room, .int .i64 k.per, .slice A1 k.ls.length c1, .slice A2 k.ds.length c2, .slice A3 k.ws.length c3] 26)).alloc (.cells #[.int .i64 0, .int .i64 0, .int .i64 0] 67)) = w1 at bk br HB cbk0 cbk1 cbk2 cbk3 cbk4 zbk ⊢
  have hB := HB
  clear HB
  refine (YA.out _ w1 (HK.out.later hB)).mono ?_
  rintro e w2 ⟨rfl, hF⟩
  clear cbk0 cbk1 cbk2 cbk3 cbk4 zbk
  replace bk := (hF.block _ (size_of_block bk)).trans bk
  replace br := (hF.block _ (size_of_block br)).trans br
  replace hB := below_then hB hF
  clear hF
  have HPP := Lib.hid (fun j : Nat => cell_setRow_same w2 (w.heap.size + 1) j _ #[.int .i64 0, .int .i64 0, .int .i64 5] _ _ br)
  have HBF := Lib.hid (below_setRow hB (show w.heap.size ≤ w.heap.size + 1 by omega) #[.int .i64 0, .int .i64 0, .int .i64 5])
  skip
  go_wp2_with (first | (refine wpList_store_rowTo rfl 67 _ _ rfl rfl (w.heap.size + 1) #[.int .i64 0, .int .i64 0, .int .i64 5] rfl rfl 67 _ br (by kernel_rfl) rfl (by kernel_rfl) ?_))
  refine bodyPost_ret (v := .agg #[.int .i64 0, .int .i64 0, .int .i64 5]) ?_ rfl ⟨by rw [HE.out], HBF.out⟩
  simp [results, Tryz.results46, go_sem, HPP.out]
set_option maxRecDepth 100000 in
set_option maxHeartbeats 4000000 in
theorem rTook_cant (k : Kl) (v : Value) (d l : Int) (w : World) (hk : Kiln w v k) (hc : checkI k = 0) (h1 : ¬ (place k.ls l < 0 ∨ place k.ds d < 0)) (hcan : canB (tiesL k) = false) : Calls Tryz.prog 46 #[v, .int .i64 d, .int .i64 l] w fun e w' => e = .returned (.agg #[.int .i64 (tookE k d l).1.1, .int .i64 (tookE k d l).1.2, .int .i64 (tookE k d l).2]) ∧ Below w.heap.size w w' := by
  have HE := Lib.hid (show tookE k d l = ((0, 0), 9) by unfold tookE; rw [if_neg (show ¬ checkI k ≠ 0 by simp [hc]), if_neg h1, if_neg (by simp [hcan])])
  have pr1 := place_range k.ls l
  have pr2 := place_range k.ds d
  have yA := fun v W h => rasked_ok k v d l W h hc h1
  obtain ⟨x, hx⟩ := Int.eq_ofNat_of_zero_le (show 0 ≤ place k.ls l by omega)
  obtain ⟨y, hy⟩ := Int.eq_ofNat_of_zero_le (show 0 ≤ place k.ds d by omega)
  rw [hx, hy] at yA
  have hR := right_of_check hc
  have yN := fun v W h => rCan_c k v W h hR
  rw [hcan] at yN
  have YN := Lib.hid yN
  have YA := Lib.hid yA
  clear yA yN hR hc h1 hx hy pr1 pr2 hcan
  obtain ⟨A1, c1, A2, c2, A3, c3, rfl⟩ := kilnForm hk
  have HK := Lib.hid hk
  clear hk
  go_enter Tryz.func46, Tryz.ntmps46
  obtain ⟨bk, br, -, HB⟩ := two_new' w (.cells #[.int .i64 k.room, .int .i64 k.per, .slice A1 k.ls.length c1, .slice A2 k.ds.length c2, .slice A3 k.ws.length c3] 26) (.cells #[.int .i64 0, .int .i64 0, .int .i64 0] 67)
  have cbk0 := Joins.cell_of_block bk 0
  have cbk1 := Joins.cell_of_block bk 1
  have cbk2 := Joins.cell_of_block bk 2
  have cbk3 := Joins.cell_of_block bk 3
  have cbk4 := Joins.cell_of_block bk 4
  have zbk := size_of_block bk
  go_wp2_with fail
  generalize ((w.alloc (.cells #[.int .i64 k.room, .int .i64 k.per, .slice A1 k.ls.length c1, .slice A2 k.ds.length c2, .slice A3 k.ws.length c3] 26)).alloc (.cells #[.int .i64 0, .int .i64 0, .int .i64 0] 67)) = w1 at bk br HB cbk0 cbk1 cbk2 cbk3 cbk4 zbk ⊢
  have hB := HB
  clear HB
  refine (YA.out _ w1 (HK.out.later hB)).mono ?_
  rintro e w2 ⟨rfl, hF⟩
  clear cbk0 cbk1 cbk2 cbk3 cbk4 zbk
  replace bk := (hF.block _ (size_of_block bk)).trans bk
  replace br := (hF.block _ (size_of_block br)).trans br
  replace hB := below_then hB hF
  clear hF
  have cbk0 := Joins.cell_of_block bk 0
  have cbk1 := Joins.cell_of_block bk 1
  have cbk2 := Joins.cell_of_block bk 2
  have cbk3 := Joins.cell_of_block bk 3
  have cbk4 := Joins.cell_of_block bk 4
  have zbk := size_of_block bk
  go_wp2_with fail
  refine (YN.out _ w2 (HK.out.later hB)).mono ?_
  rintro e w3 ⟨rfl, hF⟩
  clear cbk0 cbk1 cbk2 cbk3 cbk4 zbk
  replace bk := (hF.block _ (size_of_block bk)).trans bk
  replace br := (hF.block _ (size_of_block br)).trans br
  replace hB := below_then hB hF
  clear hF
  have HPP := Lib.hid (fun j : Nat => cell_setRow_same w3 (w.heap.size + 1) j _ #[.int .i64 0, .int .i64 0, .int .i64 9] _ _ br)
  have HBF := Lib.hid (below_setRow hB (show w.heap.size ≤ w.heap.size + 1 by omega) #[.int .i64 0, .int .i64 0, .int .i64 9])
  skip
  go_wp2_with (first | (refine wpList_store_rowTo rfl 67 _ _ rfl rfl (w.heap.size + 1) #[.int .i64 0, .int .i64 0, .int .i64 9] rfl rfl 67 _ br (by kernel_rfl) rfl (by kernel_rfl) ?_))
  refine bodyPost_ret (v := .agg #[.int .i64 0, .int .i64 0, .int .i64 9]) ?_ rfl ⟨by rw [HE.out], HBF.out⟩
  simp [results, Tryz.results46, go_sem, HPP.out]
set_option maxRecDepth 100000 in
set_option maxHeartbeats 4000000 in
theorem rTook_ok (k : Kl) (v : Value) (d l : Int) (w : World) (hk : Kiln w v k) (hc : checkI k = 0) (h1 : ¬ (place k.ls l < 0 ∨ place k.ds d < 0)) (hcan : canB (tiesL k) = true) : Calls Tryz.prog 46 #[v, .int .i64 d, .int .i64 l] w fun e w' => e = .returned (.agg #[.int .i64 (tookE k d l).1.1, .int .i64 (tookE k d l).1.2, .int .i64 (tookE k d l).2]) ∧ Below w.heap.size w w' := by
  have pr1 := place_range k.ls l
  have pr2 := place_range k.ds d
  have yA := fun v W h => rasked_ok k v d l W h hc h1
  obtain ⟨x, hx⟩ := Int.eq_ofNat_of_zero_le (show 0 ≤ place k.ls l by omega)
  obtain ⟨y, hy⟩ := Int.eq_ofNat_of_zero_le (show 0 ≤ place k.ds d by omega)
  rw [hx, hy] at yA
  have hR := right_of_check hc
  have yN := fun v W h => rCan_c k v W h hR
  rw [hcan] at yN
  have YN := Lib.hid yN
  have YA := Lib.hid yA
  have yS := fun v W h => rshare_c k v y x W h hR hcan (by omega) (by omega)
  obtain ⟨LZ, hLZ⟩ : ∃ z, z = leastZ (tiesL k) ⟨(x : Int), (x : Int) + 1⟩ ⟨markI k y, markI k ((y : Int) + 1)⟩ := ⟨_, rfl⟩
  obtain ⟨MZ, hMZ⟩ : ∃ z, z = mostZ (tiesL k) ⟨(x : Int), (x : Int) + 1⟩ ⟨markI k y, markI k ((y : Int) + 1)⟩ := ⟨_, rfl⟩
  rw [← hLZ, ← hMZ] at yS
  have HE := Lib.hid (show tookE k d l = ((LZ, MZ), 0) by unfold tookE; rw [if_neg (show ¬ checkI k ≠ 0 by simp [hc]), if_neg h1, if_pos hcan, hx, hy, hLZ, hMZ]; rfl)
  have YS := Lib.hid yS
  clear yA yN yS hLZ hMZ hR hc h1 hx hy pr1 pr2 hcan
  obtain ⟨A1, c1, A2, c2, A3, c3, rfl⟩ := kilnForm hk
  have HK := Lib.hid hk
  clear hk
  go_enter Tryz.func46, Tryz.ntmps46
  obtain ⟨bk, br, -, HB⟩ := two_new' w (.cells #[.int .i64 k.room, .int .i64 k.per, .slice A1 k.ls.length c1, .slice A2 k.ds.length c2, .slice A3 k.ws.length c3] 26) (.cells #[.int .i64 0, .int .i64 0, .int .i64 0] 67)
  have cbk0 := Joins.cell_of_block bk 0
  have cbk1 := Joins.cell_of_block bk 1
  have cbk2 := Joins.cell_of_block bk 2
  have cbk3 := Joins.cell_of_block bk 3
  have cbk4 := Joins.cell_of_block bk 4
  have zbk := size_of_block bk
  go_wp2_with fail
  generalize ((w.alloc (.cells #[.int .i64 k.room, .int .i64 k.per, .slice A1 k.ls.length c1, .slice A2 k.ds.length c2, .slice A3 k.ws.length c3] 26)).alloc (.cells #[.int .i64 0, .int .i64 0, .int .i64 0] 67)) = w1 at bk br HB cbk0 cbk1 cbk2 cbk3 cbk4 zbk ⊢
  have hB := HB
  clear HB
  refine (YA.out _ w1 (HK.out.later hB)).mono ?_
  rintro e w2 ⟨rfl, hF⟩
  clear cbk0 cbk1 cbk2 cbk3 cbk4 zbk
  replace bk := (hF.block _ (size_of_block bk)).trans bk
  replace br := (hF.block _ (size_of_block br)).trans br
  replace hB := below_then hB hF
  clear hF
  have cbk0 := Joins.cell_of_block bk 0
  have cbk1 := Joins.cell_of_block bk 1
  have cbk2 := Joins.cell_of_block bk 2
  have cbk3 := Joins.cell_of_block bk 3
  have cbk4 := Joins.cell_of_block bk 4
  have zbk := size_of_block bk
  go_wp2_with fail
  refine (YN.out _ w2 (HK.out.later hB)).mono ?_
  rintro e w3 ⟨rfl, hF⟩
  clear cbk0 cbk1 cbk2 cbk3 cbk4 zbk
  replace bk := (hF.block _ (size_of_block bk)).trans bk
  replace br := (hF.block _ (size_of_block br)).trans br
  replace hB := below_then hB hF
  clear hF
  have cbk0 := Joins.cell_of_block bk 0
  have cbk1 := Joins.cell_of_block bk 1
  have cbk2 := Joins.cell_of_block bk 2
  have cbk3 := Joins.cell_of_block bk 3
  have cbk4 := Joins.cell_of_block bk 4
  have zbk := size_of_block bk
  go_wp2_with fail
  refine (YS.out _ w3 (HK.out.later hB)).mono ?_
  rintro e w4 ⟨rfl, hF⟩
  clear cbk0 cbk1 cbk2 cbk3 cbk4 zbk
  replace bk := (hF.block _ (size_of_block bk)).trans bk
  replace br := (hF.block _ (size_of_block br)).trans br
  replace hB := below_then hB hF
  clear hF
  have HPP := Lib.hid (fun j : Nat => cell_setRow_same w4 (w.heap.size + 1) j _ #[.int .i64 LZ, .int .i64 MZ, .int .i64 0] _ _ br)
  have HBF := Lib.hid (below_setRow hB (show w.heap.size ≤ w.heap.size + 1 by omega) #[.int .i64 LZ, .int .i64 MZ, .int .i64 0])
  skip
  go_wp2_with (first | (refine wpList_store_rowTo rfl 67 _ _ rfl rfl (w.heap.size + 1) #[.int .i64 LZ, .int .i64 MZ, .int .i64 0] rfl rfl 67 _ br (by kernel_rfl) rfl (by kernel_rfl) ?_))
  refine bodyPost_ret (v := .agg #[.int .i64 LZ, .int .i64 MZ, .int .i64 0]) ?_ rfl ⟨by rw [HE.out], HBF.out⟩
  simp [results, Tryz.results46, go_sem, HPP.out]
theorem rTook_c (k : Kl) (v : Value) (d l : Int) (w : World) (hk : Kiln w v k) : Calls Tryz.prog 46 #[v, .int .i64 d, .int .i64 l] w fun e w' => e = .returned (.agg #[.int .i64 (tookE k d l).1.1, .int .i64 (tookE k d l).1.2, .int .i64 (tookE k d l).2]) ∧ Below w.heap.size w w' := by
  by_cases hc : checkI k = 0
  · by_cases h1 : place k.ls l < 0 ∨ place k.ds d < 0
    · exact rTook_none k v d l w hk hc h1
    · cases hcan : canB (tiesL k)
      · exact rTook_cant k v d l w hk hc h1 hcan
      · exact rTook_ok k v d l w hk hc h1 hcan
  · exact rTook_bad k v d l w hk hc
end Go.Proofs.YtpgepfbdjefmdaaGreat
