/- sanity: the chapter's examples of fire come out (written by tools/genfhead.py). -/
import Derived.Test.YtjpoacffnpgjdaaZFHeadA
namespace Go.Proofs.Ytjpoacffnpgjdaa
open Go Go.RowKit Go.Shelf
attribute [local go_sem] Oper.semAt_some Rel RelAt RelUpon
set_option maxRecDepth 100000 in
set_option maxHeartbeats 8000000 in
theorem sanity_c (w : World) : Calls Try.prog 11 #[] w fun e w' => e = .returned (.bool true) ∧ Below w.heap.size w w' := by
  have heqBd := Try.eqBd
  have heqBr := Try.eqBr
  obtain ⟨i0, hi, hz0, hz1, hz2⟩ := info_parts Try.infoLk
  have HI := Lib.hid hi
  have HI0 := Lib.hid hz0
  have HI1 := Lib.hid hz1
  have HI2 := Lib.hid hz2
  clear hi hz0 hz1 hz2
  go_enter Try.func11, Try.ntmps11
  go_wp2_with fail
  refine (Kiln_c w).mono ?_
  rintro e w1 ⟨vK, rfl, hO, hB⟩
  obtain ⟨g0, cap, rfl, hg0, -⟩ := hO.form (by omega)
  clear hg0
  have hk : Lks w1 w1.heap.size (.slice (some ⟨g0, 0, none⟩) 3 cap) kilnF.ls := Sl.of_own lkC_len hO (by simp [kilnF])
  have hfg := hB.size
  have bf := heap_alloc_new w1 (.cells #[.int .i64 20, .int .i64 10, .int .i64 5, .int .i64 30, .slice (some ⟨g0, 0, none⟩) 3 cap] 24)
  have HB := below_alloc w1 (.cells #[.int .i64 20, .int .i64 10, .int .i64 5, .int .i64 30, .slice (some ⟨g0, 0, none⟩) 3 cap] 24)
  go_wp2_with fail
  generalize w1.alloc (.cells #[.int .i64 20, .int .i64 10, .int .i64 5, .int .i64 30, .slice (some ⟨g0, 0, none⟩) 3 cap] 24) = w2 at bf HB ⊢
  replace hk := hk.later HB
  replace hO := own_below hO HB
  replace hB := below_then hB HB
  clear HB
  refine wp_region_looseM [] [0] (.one 1 (.one 2 (.one 3 .done))) [] [4, 5, 6] [7, 8] [] [] (by kernel_rfl) (by kernel_rfl) (by intro c a d v w h; cases d <;> exact h) (by intro c a d v w h; cases d <;> exact h) rfl (fun r i h => by simp at h) ?_
  simp only [pick, List.filterMap_cons, List.filterMap_nil, List.getElem?_toArray, List.getElem?_cons_succ, List.getElem?_cons_zero]
  intro u3 hu3
  have tf := (hu3.block _ (size_of_block bf)).trans bf
  have ztf := size_of_block tf
  have c0 := Joins.cell_of_block tf 0
  have c1 := Joins.cell_of_block tf 1
  have c2 := Joins.cell_of_block tf 2
  have c3 := Joins.cell_of_block tf 3
  have c4 := Joins.cell_of_block tf 4
  have hcg : ∀ (g : Gr u3) b o, b < u3.heap.size → g.val.cell? ⟨b, o, none⟩ = u3.cell? ⟨b, o, none⟩ := fun g b o h => (bcell g.b).1 b o h
  iterate 1 (refine wpRel_step (fun K hK => ?_); go_simp; refine hK _ ?_; clear hK K)
  refine wpRel_nil fun V3_0 hb3 => ?_
  clear hcg tf ztf c0 c1 c2 c3 c4
  have D0 := below_then hu3 hb3
  clear hb3
  refine wpTr_step rfl rfl fun K hK => ?_
  go_simp
  refine (at_c 10 5 V3_0).mono ?_
  rintro e X ⟨rfl, hx⟩
  refine hK _ _ hx fun V3_1 hu => ?_
  clear hK K
  have D1 := below_then D0 (below_then hx hu)
  clear hx hu D0
  refine wpTr_step rfl rfl fun K hK => ?_
  go_simp
  refine (at_c 12 8 V3_1).mono ?_
  rintro e X ⟨rfl, hx⟩
  refine hK _ _ hx fun V3_2 hu => ?_
  clear hK K
  have D2 := below_then D1 (below_then hx hu)
  clear hx hu D1
  refine wpTr_step rfl rfl fun K hK => ?_
  go_simp
  refine (x_far (hk.later D2)).mono ?_
  rintro e X ⟨rfl, hx⟩
  refine hK _ _ hx fun V3_3 hu => ?_
  clear hK K
  have D3 := below_then D2 (below_then hx hu)
  clear hx hu D2
  show wpPure _ _ _ _
  refine wpPure_step (.tuple #[.int .i64 70, .int .i64 0]) rfl (fun u => rfl) ?_
  refine wpPure_step (.int .i64 70) rfl (fun u => rfl) ?_
  refine wpPure_step (.int .i64 0) rfl (fun u => rfl) ?_
  intro ks hks _ _
  obtain rfl : ks = [] := List.length_eq_zero_iff.1 hks
  clear hks
  show wpList _ _ _ _ _ _
  simp only [deco]
  replace bf := (D3.block _ (size_of_block bf)).trans bf
  replace hk := hk.later D3
  replace hO := own_below hO D3
  replace hB := below_then hB D3
  clear D3
  go_wp2_with fail
  refine wp_region_looseM [] [0] (.one 1 (.one 2 (.one 3 .done))) [] [4, 5, 6] [7, 8] [] [] (by kernel_rfl) (by kernel_rfl) (by intro c a d v w h; cases d <;> exact h) (by intro c a d v w h; cases d <;> exact h) rfl (fun r i h => by simp at h) ?_
  simp only [pick, List.filterMap_cons, List.filterMap_nil, List.getElem?_toArray, List.getElem?_cons_succ, List.getElem?_cons_zero]
  intro u4 hu4
  have tf := (hu4.block _ (size_of_block bf)).trans bf
  have ztf := size_of_block tf
  have c0 := Joins.cell_of_block tf 0
  have c1 := Joins.cell_of_block tf 1
  have c2 := Joins.cell_of_block tf 2
  have c3 := Joins.cell_of_block tf 3
  have c4 := Joins.cell_of_block tf 4
  have hcg : ∀ (g : Gr u4) b o, b < u4.heap.size → g.val.cell? ⟨b, o, none⟩ = u4.cell? ⟨b, o, none⟩ := fun g b o h => (bcell g.b).1 b o h
  iterate 1 (refine wpRel_step (fun K hK => ?_); go_simp; refine hK _ ?_; clear hK K)
  refine wpRel_nil fun V4_0 hb4 => ?_
  clear hcg tf ztf c0 c1 c2 c3 c4
  have D0 := below_then hu4 hb4
  clear hb4
  refine wpTr_step rfl rfl fun K hK => ?_
  go_simp
  refine (at_c 12 8 V4_0).mono ?_
  rintro e X ⟨rfl, hx⟩
  refine hK _ _ hx fun V4_1 hu => ?_
  clear hK K
  have D1 := below_then D0 (below_then hx hu)
  clear hx hu D0
  refine wpTr_step rfl rfl fun K hK => ?_
  go_simp
  refine (at_c 10 5 V4_1).mono ?_
  rintro e X ⟨rfl, hx⟩
  refine hK _ _ hx fun V4_2 hu => ?_
  clear hK K
  have D2 := below_then D1 (below_then hx hu)
  clear hx hu D1
  refine wpTr_step rfl rfl fun K hK => ?_
  go_simp
  refine (x_far2 (hk.later D2)).mono ?_
  rintro e X ⟨rfl, hx⟩
  refine hK _ _ hx fun V4_3 hu => ?_
  clear hK K
  have D3 := below_then D2 (below_then hx hu)
  clear hx hu D2
  show wpPure _ _ _ _
  refine wpPure_step (.tuple #[.int .i64 90, .int .i64 0]) rfl (fun u => rfl) ?_
  refine wpPure_step (.int .i64 90) rfl (fun u => rfl) ?_
  refine wpPure_step (.int .i64 0) rfl (fun u => rfl) ?_
  intro ks hks _ _
  obtain rfl : ks = [] := List.length_eq_zero_iff.1 hks
  clear hks
  show wpList _ _ _ _ _ _
  simp only [deco]
  replace bf := (D3.block _ (size_of_block bf)).trans bf
  replace hk := hk.later D3
  replace hO := own_below hO D3
  replace hB := below_then hB D3
  clear D3
  have c0 := Joins.cell_of_block bf 0
  have c1 := Joins.cell_of_block bf 1
  have c2 := Joins.cell_of_block bf 2
  have c3 := Joins.cell_of_block bf 3
  have c4 := Joins.cell_of_block bf 4
  go_wp2_with fail
  refine (x_clash hk).mono ?_
  rintro e w5 ⟨rfl, hF5⟩
  replace bf := (hF5.block _ (size_of_block bf)).trans bf
  replace hk := hk.later hF5
  replace hO := own_below hO hF5
  replace hB := below_then hB hF5
  clear hF5
  clear c0 c1 c2 c3 c4
  go_wp2_with fail
  refine wp_region_looseM [] [0] (.one 1 (.one 2 .done)) [6] [3, 4, 5] [7, 8] [some 10] [.cells #[.int .i64 0, .int .i64 0, .int .i64 0, .int .i64 0] 38] (by kernel_rfl) (by kernel_rfl) (by intro c a d v w h; cases d <;> exact h) (by intro c a d v w h; cases d <;> exact h) rfl (by intro r i hri; match r, hri with | 0, hri => cases hri; exact ⟨_, _, rfl, rfl, rfl, rfl, fun a u => by simp [execOp, go_sem, ptrV]⟩) ?_
  simp only [pick, List.filterMap_cons, List.filterMap_nil, List.getElem?_toArray, List.getElem?_cons_succ, List.getElem?_cons_zero]
  intro u6 hu6
  have tf := (hu6.block _ (size_of_block bf)).trans bf
  have ztf := size_of_block tf
  have c0 := Joins.cell_of_block tf 0
  have c1 := Joins.cell_of_block tf 1
  have c2 := Joins.cell_of_block tf 2
  have c3 := Joins.cell_of_block tf 3
  have c4 := Joins.cell_of_block tf 4
  have hcg : ∀ (g : Gr u6) b o, b < u6.heap.size → g.val.cell? ⟨b, o, none⟩ = u6.cell? ⟨b, o, none⟩ := fun g b o h => (bcell g.b).1 b o h
  iterate 1 (refine wpRel_step (fun K hK => ?_); go_simp; refine hK _ ?_; clear hK K)
  refine wpRel_nil fun V6_0 hb6 => ?_
  clear hcg tf ztf c0 c1 c2 c3 c4
  have D0 := below_then hu6 hb6
  clear hb6
  refine wpTr_step rfl rfl fun K hK => ?_
  go_simp
  refine (at_c 10 10 V6_0).mono ?_
  rintro e X ⟨rfl, hx⟩
  refine hK _ _ hx fun V6_1 hu => ?_
  clear hK K
  have D1 := below_then D0 (below_then hx hu)
  clear hx hu D0
  refine wpTr_step rfl rfl fun K hK => ?_
  go_simp
  refine (x_ends1 (hk.later D1)).mono ?_
  rintro e X ⟨rfl, hx⟩
  refine hK _ _ hx fun V6_2 hu => ?_
  clear hK K
  have D2 := below_then D1 (below_then hx hu)
  clear hx hu D1
  show wpPure _ _ _ _
  refine wpPure_step (.tuple #[.agg #[.int .i64 750, .int .i64 950, .int .i64 1, .int .i64 2], .int .i64 0]) rfl (fun u => rfl) ?_
  refine wpPure_step (.agg #[.int .i64 750, .int .i64 950, .int .i64 1, .int .i64 2]) rfl (fun u => rfl) ?_
  refine wpPure_step (.int .i64 0) rfl (fun u => rfl) ?_
  intro ks hks hall hH
  obtain ⟨k1, rfl⟩ : ∃ k1, ks = [some k1] := by
    match ks, hks with
    | [none], _ => exact absurd rfl (hall 0)
    | [some k1], _ => exact ⟨k1, rfl⟩
  obtain ⟨o1, ge1, lt1⟩ := hH.obj 0 k1 rfl
  rw [show ([Obj.cells #[.int .i64 0, .int .i64 0, .int .i64 0, .int .i64 0] 38])[0]? = some (.cells #[.int .i64 0, .int .i64 0, .int .i64 0, .int .i64 0] 38) from rfl] at o1
  clear hH hall hks
  show wpList _ _ _ _ _ _
  simp only [deco, ptrV]
  refine wpList_store_rowTo rfl 38 _ _ rfl rfl k1 #[.int .i64 750, .int .i64 950, .int .i64 1, .int .i64 2] rfl rfl 38 _ o1 (by kernel_rfl) rfl (by kernel_rfl) ?_
  have bx := setRow_heap V6_2 k1 _ #[.int .i64 750, .int .i64 950, .int .i64 1, .int .i64 2] _ _ o1
  have HB := below_setRow D2 ge1 #[.int .i64 750, .int .i64 950, .int .i64 1, .int .i64 2]
  generalize V6_2.setRow k1 #[.int .i64 750, .int .i64 950, .int .i64 1, .int .i64 2] = w6 at bx HB ⊢
  obtain ⟨kbx, hkbx⟩ : ∃ k, k = k1 := ⟨_, rfl⟩
  rw [← hkbx] at bx ⊢
  clear hkbx o1 ge1 lt1 D2
  replace bf := (HB.block _ (size_of_block bf)).trans bf
  replace hk := hk.later HB
  replace hO := own_below hO HB
  replace hB := below_then hB HB
  clear HB
  go_wp2_with fail
  refine wp_region_looseM [] [0] (.one 1 (.one 2 .done)) [6] [3, 4, 5] [7, 8] [some 12] [.cells #[.int .i64 0, .int .i64 0, .int .i64 0, .int .i64 0] 38] (by kernel_rfl) (by kernel_rfl) (by intro c a d v w h; cases d <;> exact h) (by intro c a d v w h; cases d <;> exact h) rfl (by intro r i hri; match r, hri with | 0, hri => cases hri; exact ⟨_, _, rfl, rfl, rfl, rfl, fun a u => by simp [execOp, go_sem, ptrV]⟩) ?_
  simp only [pick, List.filterMap_cons, List.filterMap_nil, List.getElem?_toArray, List.getElem?_cons_succ, List.getElem?_cons_zero]
  intro u7 hu7
  have tf := (hu7.block _ (size_of_block bf)).trans bf
  have ztf := size_of_block tf
  have c0 := Joins.cell_of_block tf 0
  have c1 := Joins.cell_of_block tf 1
  have c2 := Joins.cell_of_block tf 2
  have c3 := Joins.cell_of_block tf 3
  have c4 := Joins.cell_of_block tf 4
  have hcg : ∀ (g : Gr u7) b o, b < u7.heap.size → g.val.cell? ⟨b, o, none⟩ = u7.cell? ⟨b, o, none⟩ := fun g b o h => (bcell g.b).1 b o h
  iterate 1 (refine wpRel_step (fun K hK => ?_); go_simp; refine hK _ ?_; clear hK K)
  refine wpRel_nil fun V7_0 hb7 => ?_
  clear hcg tf ztf c0 c1 c2 c3 c4
  have D0 := below_then hu7 hb7
  clear hb7
  refine wpTr_step rfl rfl fun K hK => ?_
  go_simp
  refine (at_c 10 15 V7_0).mono ?_
  rintro e X ⟨rfl, hx⟩
  refine hK _ _ hx fun V7_1 hu => ?_
  clear hK K
  have D1 := below_then D0 (below_then hx hu)
  clear hx hu D0
  refine wpTr_step rfl rfl fun K hK => ?_
  go_simp
  refine (x_ends2 (hk.later D1)).mono ?_
  rintro e X ⟨rfl, hx⟩
  refine hK _ _ hx fun V7_2 hu => ?_
  clear hK K
  have D2 := below_then D1 (below_then hx hu)
  clear hx hu D1
  show wpPure _ _ _ _
  refine wpPure_step (.tuple #[.agg #[.int .i64 850, .int .i64 1050, .int .i64 3, .int .i64 2], .int .i64 0]) rfl (fun u => rfl) ?_
  refine wpPure_step (.agg #[.int .i64 850, .int .i64 1050, .int .i64 3, .int .i64 2]) rfl (fun u => rfl) ?_
  refine wpPure_step (.int .i64 0) rfl (fun u => rfl) ?_
  intro ks hks hall hH
  obtain ⟨k1, rfl⟩ : ∃ k1, ks = [some k1] := by
    match ks, hks with
    | [none], _ => exact absurd rfl (hall 0)
    | [some k1], _ => exact ⟨k1, rfl⟩
  obtain ⟨o1, ge1, lt1⟩ := hH.obj 0 k1 rfl
  rw [show ([Obj.cells #[.int .i64 0, .int .i64 0, .int .i64 0, .int .i64 0] 38])[0]? = some (.cells #[.int .i64 0, .int .i64 0, .int .i64 0, .int .i64 0] 38) from rfl] at o1
  clear hH hall hks
  show wpList _ _ _ _ _ _
  simp only [deco, ptrV]
  refine wpList_store_rowTo rfl 38 _ _ rfl rfl k1 #[.int .i64 850, .int .i64 1050, .int .i64 3, .int .i64 2] rfl rfl 38 _ o1 (by kernel_rfl) rfl (by kernel_rfl) ?_
  have by_ := setRow_heap V7_2 k1 _ #[.int .i64 850, .int .i64 1050, .int .i64 3, .int .i64 2] _ _ o1
  have HB := below_setRow D2 ge1 #[.int .i64 850, .int .i64 1050, .int .i64 3, .int .i64 2]
  generalize V7_2.setRow k1 #[.int .i64 850, .int .i64 1050, .int .i64 3, .int .i64 2] = w7 at by_ HB ⊢
  obtain ⟨kby_, hkby_⟩ : ∃ k, k = k1 := ⟨_, rfl⟩
  rw [← hkby_] at by_ ⊢
  clear hkby_ o1 ge1 lt1 D2
  replace bf := (HB.block _ (size_of_block bf)).trans bf
  replace bx := (HB.block _ (size_of_block bx)).trans bx
  replace hk := hk.later HB
  replace hO := own_below hO HB
  replace hB := below_then hB HB
  clear HB
  go_wp2_with fail
  refine wp_region_looseM [] [0] (.one 1 (.one 2 .done)) [6] [3, 4, 5] [7, 8] [some 14] [.cells #[.int .i64 0, .int .i64 0, .int .i64 0, .int .i64 0] 38] (by kernel_rfl) (by kernel_rfl) (by intro c a d v w h; cases d <;> exact h) (by intro c a d v w h; cases d <;> exact h) rfl (by intro r i hri; match r, hri with | 0, hri => cases hri; exact ⟨_, _, rfl, rfl, rfl, rfl, fun a u => by simp [execOp, go_sem, ptrV]⟩) ?_
  simp only [pick, List.filterMap_cons, List.filterMap_nil, List.getElem?_toArray, List.getElem?_cons_succ, List.getElem?_cons_zero]
  intro u8 hu8
  have tf := (hu8.block _ (size_of_block bf)).trans bf
  have ztf := size_of_block tf
  have c0 := Joins.cell_of_block tf 0
  have c1 := Joins.cell_of_block tf 1
  have c2 := Joins.cell_of_block tf 2
  have c3 := Joins.cell_of_block tf 3
  have c4 := Joins.cell_of_block tf 4
  have hcg : ∀ (g : Gr u8) b o, b < u8.heap.size → g.val.cell? ⟨b, o, none⟩ = u8.cell? ⟨b, o, none⟩ := fun g b o h => (bcell g.b).1 b o h
  iterate 1 (refine wpRel_step (fun K hK => ?_); go_simp; refine hK _ ?_; clear hK K)
  refine wpRel_nil fun V8_0 hb8 => ?_
  clear hcg tf ztf c0 c1 c2 c3 c4
  have D0 := below_then hu8 hb8
  clear hb8
  refine wpTr_step rfl rfl fun K hK => ?_
  go_simp
  refine (at_c 50 5 V8_0).mono ?_
  rintro e X ⟨rfl, hx⟩
  refine hK _ _ hx fun V8_1 hu => ?_
  clear hK K
  have D1 := below_then D0 (below_then hx hu)
  clear hx hu D0
  refine wpTr_step rfl rfl fun K hK => ?_
  go_simp
  refine (x_ends3 (hk.later D1)).mono ?_
  rintro e X ⟨rfl, hx⟩
  refine hK _ _ hx fun V8_2 hu => ?_
  clear hK K
  have D2 := below_then D1 (below_then hx hu)
  clear hx hu D1
  show wpPure _ _ _ _
  refine wpPure_step (.tuple #[.agg #[.int .i64 0, .int .i64 1070, .int .i64 0, .int .i64 2], .int .i64 0]) rfl (fun u => rfl) ?_
  refine wpPure_step (.agg #[.int .i64 0, .int .i64 1070, .int .i64 0, .int .i64 2]) rfl (fun u => rfl) ?_
  refine wpPure_step (.int .i64 0) rfl (fun u => rfl) ?_
  intro ks hks hall hH
  obtain ⟨k1, rfl⟩ : ∃ k1, ks = [some k1] := by
    match ks, hks with
    | [none], _ => exact absurd rfl (hall 0)
    | [some k1], _ => exact ⟨k1, rfl⟩
  obtain ⟨o1, ge1, lt1⟩ := hH.obj 0 k1 rfl
  rw [show ([Obj.cells #[.int .i64 0, .int .i64 0, .int .i64 0, .int .i64 0] 38])[0]? = some (.cells #[.int .i64 0, .int .i64 0, .int .i64 0, .int .i64 0] 38) from rfl] at o1
  clear hH hall hks
  show wpList _ _ _ _ _ _
  simp only [deco, ptrV]
  refine wpList_store_rowTo rfl 38 _ _ rfl rfl k1 #[.int .i64 0, .int .i64 1070, .int .i64 0, .int .i64 2] rfl rfl 38 _ o1 (by kernel_rfl) rfl (by kernel_rfl) ?_
  have bz := setRow_heap V8_2 k1 _ #[.int .i64 0, .int .i64 1070, .int .i64 0, .int .i64 2] _ _ o1
  have HB := below_setRow D2 ge1 #[.int .i64 0, .int .i64 1070, .int .i64 0, .int .i64 2]
  generalize V8_2.setRow k1 #[.int .i64 0, .int .i64 1070, .int .i64 0, .int .i64 2] = w8 at bz HB ⊢
  obtain ⟨kbz, hkbz⟩ : ∃ k, k = k1 := ⟨_, rfl⟩
  rw [← hkbz] at bz ⊢
  clear hkbz o1 ge1 lt1 D2
  replace bf := (HB.block _ (size_of_block bf)).trans bf
  replace bx := (HB.block _ (size_of_block bx)).trans bx
  replace by_ := (HB.block _ (size_of_block by_)).trans by_
  replace hk := hk.later HB
  replace hO := own_below hO HB
  replace hB := below_then hB HB
  clear HB
  have bx0 := Joins.cell_of_block bx 0
  have bx1 := Joins.cell_of_block bx 1
  have bx2 := Joins.cell_of_block bx 2
  have bx3 := Joins.cell_of_block bx 3
  have by_0 := Joins.cell_of_block by_ 0
  have by_1 := Joins.cell_of_block by_ 1
  have by_2 := Joins.cell_of_block by_ 2
  have by_3 := Joins.cell_of_block by_ 3
  have bz0 := Joins.cell_of_block bz 0
  have bz1 := Joins.cell_of_block bz 1
  have bz2 := Joins.cell_of_block bz 2
  have bz3 := Joins.cell_of_block bz 3
  go_wp2_with fail
  refine (at_c 10 14 _).mono ?_
  rintro e w9 ⟨rfl, hF9⟩
  replace bf := (hF9.block _ (size_of_block bf)).trans bf
  replace bx := (hF9.block _ (size_of_block bx)).trans bx
  replace by_ := (hF9.block _ (size_of_block by_)).trans by_
  replace bz := (hF9.block _ (size_of_block bz)).trans bz
  replace hk := hk.later hF9
  replace hO := own_below hO hF9
  replace hB := below_then hB hF9
  clear hF9
  clear bx0 bx1 bx2 bx3 by_0 by_1 by_2 by_3 bz0 bz1 bz2 bz3
  clear bx
  clear by_
  clear bz
  go_wp2_with fail
  refine (at_c 10 15 _).mono ?_
  rintro e w10 ⟨rfl, hF10⟩
  replace bf := (hF10.block _ (size_of_block bf)).trans bf
  replace hk := hk.later hF10
  replace hO := own_below hO hF10
  replace hB := below_then hB hF10
  clear hF10
  go_wp2_with fail
  refine (at_c 10 16 _).mono ?_
  rintro e w11 ⟨rfl, hF11⟩
  replace bf := (hF11.block _ (size_of_block bf)).trans bf
  replace hk := hk.later hF11
  replace hO := own_below hO hF11
  replace hB := below_then hB hF11
  clear hF11
  have hp := builtL sC_len w11 pathF 42 #[.int .i64 10, .int .i64 14, .int .i64 10, .int .i64 15, .int .i64 10, .int .i64 16] w11.heap.size 3 rfl (by simp [pathF]) rfl rfl
  have HB := below_alloc w11 (.cells #[.int .i64 10, .int .i64 14, .int .i64 10, .int .i64 15, .int .i64 10, .int .i64 16] 42)
  have c0 := Joins.cell_of_block bf 0
  have c1 := Joins.cell_of_block bf 1
  have c2 := Joins.cell_of_block bf 2
  have c3 := Joins.cell_of_block bf 3
  have c4 := Joins.cell_of_block bf 4
  replace c0 : (w11.alloc (.cells #[.int .i64 10, .int .i64 14, .int .i64 10, .int .i64 15, .int .i64 10, .int .i64 16] 42)).cell? ⟨w1.heap.size, 0, none⟩ = _ := Joins.cell_of_block ((HB.block _ (size_of_block bf)).trans bf) 0
  replace c1 : (w11.alloc (.cells #[.int .i64 10, .int .i64 14, .int .i64 10, .int .i64 15, .int .i64 10, .int .i64 16] 42)).cell? ⟨w1.heap.size, 1, none⟩ = _ := Joins.cell_of_block ((HB.block _ (size_of_block bf)).trans bf) 1
  replace c2 : (w11.alloc (.cells #[.int .i64 10, .int .i64 14, .int .i64 10, .int .i64 15, .int .i64 10, .int .i64 16] 42)).cell? ⟨w1.heap.size, 2, none⟩ = _ := Joins.cell_of_block ((HB.block _ (size_of_block bf)).trans bf) 2
  replace c3 : (w11.alloc (.cells #[.int .i64 10, .int .i64 14, .int .i64 10, .int .i64 15, .int .i64 10, .int .i64 16] 42)).cell? ⟨w1.heap.size, 3, none⟩ = _ := Joins.cell_of_block ((HB.block _ (size_of_block bf)).trans bf) 3
  replace c4 : (w11.alloc (.cells #[.int .i64 10, .int .i64 14, .int .i64 10, .int .i64 15, .int .i64 10, .int .i64 16] 42)).cell? ⟨w1.heap.size, 4, none⟩ = _ := Joins.cell_of_block ((HB.block _ (size_of_block bf)).trans bf) 4
  go_wp2_with fail
  generalize w11.alloc (.cells #[.int .i64 10, .int .i64 14, .int .i64 10, .int .i64 15, .int .i64 10, .int .i64 16] 42) = wp at hp HB c0 c1 c2 c3 c4 ⊢
  replace bf := (HB.block _ (size_of_block bf)).trans bf
  replace hk := hk.later HB
  replace hO := own_below hO HB
  replace hB := below_then hB HB
  clear HB
  refine (x_burnt hk hp).mono ?_
  rintro e w12 ⟨rfl, hF12⟩
  replace bf := (hF12.block _ (size_of_block bf)).trans bf
  replace hk := hk.later hF12
  replace hp := hp.later hF12
  replace hO := own_below hO hF12
  replace hB := below_then hB hF12
  clear hF12
  clear c0 c1 c2 c3 c4
  obtain ⟨bl, bm, -, HB⟩ := two_new' w12 (.cells #[.int .i64 0, .int .i64 0, .int .i64 0] 60) (.cells #[.int .i64 3, .int .i64 3, .int .i64 420] 60)
  have c0 := Joins.cell_of_block ((HB.block _ (size_of_block bf)).trans bf) 0
  have c1 := Joins.cell_of_block ((HB.block _ (size_of_block bf)).trans bf) 1
  have c2 := Joins.cell_of_block ((HB.block _ (size_of_block bf)).trans bf) 2
  have c3 := Joins.cell_of_block ((HB.block _ (size_of_block bf)).trans bf) 3
  have c4 := Joins.cell_of_block ((HB.block _ (size_of_block bf)).trans bf) 4
  go_wp2_with fail
  generalize (w12.alloc _).alloc _ = wb at bl bm HB c0 c1 c2 c3 c4 ⊢
  have hlm : w1.heap.size < w12.heap.size := size_of_block bf
  replace bf := (HB.block _ (size_of_block bf)).trans bf
  replace hk := hk.later HB
  replace hp := hp.later HB
  replace hO := own_below hO HB
  replace hB := below_then hB HB
  clear HB
  refine (x_surely hk hp).mono ?_
  rintro e w13 ⟨s1, rfl, hs1, hF13⟩
  replace bf := (hF13.block _ (size_of_block bf)).trans bf
  replace bl := (hF13.block _ (size_of_block bl)).trans bl
  replace bm := (hF13.block _ (size_of_block bm)).trans bm
  replace hk := hk.later hF13
  replace hp := hp.later hF13
  replace hO := own_below hO hF13
  replace hB := below_then hB hF13
  clear hF13
  clear c0 c1 c2 c3 c4
  have c0 := Joins.cell_of_block bf 0
  have c1 := Joins.cell_of_block bf 1
  have c2 := Joins.cell_of_block bf 2
  have c3 := Joins.cell_of_block bf 3
  have c4 := Joins.cell_of_block bf 4
  go_wp2_with fail
  refine (x_possibly hk hp).mono ?_
  rintro e w14 ⟨s2, rfl, hs2, hF14⟩
  replace bf := (hF14.block _ (size_of_block bf)).trans bf
  replace bl := (hF14.block _ (size_of_block bl)).trans bl
  replace bm := (hF14.block _ (size_of_block bm)).trans bm
  replace hk := hk.later hF14
  replace hp := hp.later hF14
  replace hO := own_below hO hF14
  replace hs1 := own_below hs1 hF14
  replace hB := below_then hB hF14
  clear hF14
  clear c0 c1 c2 c3 c4
  go_wp2_with fail
  refine wp_region_looseM [] [0] (.one 1 (.one 2 .done)) [] [3, 4, 5] [6, 7] [] [] (by kernel_rfl) (by kernel_rfl) (by intro c a d v w h; cases d <;> exact h) (by intro c a d v w h; cases d <;> exact h) rfl (fun r i h => by simp at h) ?_
  simp only [pick, List.filterMap_cons, List.filterMap_nil, List.getElem?_toArray, List.getElem?_cons_succ, List.getElem?_cons_zero]
  intro u15 hu15
  have tf := (hu15.block _ (size_of_block bf)).trans bf
  have ztf := size_of_block tf
  have c0 := Joins.cell_of_block tf 0
  have c1 := Joins.cell_of_block tf 1
  have c2 := Joins.cell_of_block tf 2
  have c3 := Joins.cell_of_block tf 3
  have c4 := Joins.cell_of_block tf 4
  have hcg : ∀ (g : Gr u15) b o, b < u15.heap.size → g.val.cell? ⟨b, o, none⟩ = u15.cell? ⟨b, o, none⟩ := fun g b o h => (bcell g.b).1 b o h
  iterate 1 (refine wpRel_step (fun K hK => ?_); go_simp; refine hK _ ?_; clear hK K)
  refine wpRel_nil fun V15_0 hb15 => ?_
  clear hcg tf ztf c0 c1 c2 c3 c4
  have D0 := below_then hu15 hb15
  clear hb15
  refine wpTr_step rfl rfl fun K hK => ?_
  go_simp
  refine (at_c 10 15 V15_0).mono ?_
  rintro e X ⟨rfl, hx⟩
  refine hK _ _ hx fun V15_1 hu => ?_
  clear hK K
  have D1 := below_then D0 (below_then hx hu)
  clear hx hu D0
  refine wpTr_step rfl rfl fun K hK => ?_
  go_simp
  refine (x_rests (hk.later D1)).mono ?_
  rintro e X ⟨s3, rfl, hs3, hx⟩
  refine hK _ _ hx fun V15_2 hu => ?_
  clear hK K
  replace hs3 := own_below hs3 hu
  have D2 := below_then D1 (below_then hx hu)
  clear hx hu D1
  show wpPure _ _ _ _
  refine wpPure_step (.tuple #[s3, .int .i64 0]) rfl (fun u => rfl) ?_
  refine wpPure_step (s3) rfl (fun u => rfl) ?_
  refine wpPure_step (.int .i64 0) rfl (fun u => rfl) ?_
  intro ks hks _ _
  obtain rfl : ks = [] := List.length_eq_zero_iff.1 hks
  clear hks
  show wpList _ _ _ _ _ _
  simp only [deco]
  replace bf := (D2.block _ (size_of_block bf)).trans bf
  replace bl := (D2.block _ (size_of_block bl)).trans bl
  replace bm := (D2.block _ (size_of_block bm)).trans bm
  replace hk := hk.later D2
  replace hp := hp.later D2
  replace hO := own_below hO D2
  replace hs1 := own_below hs1 D2
  replace hs2 := own_below hs2 D2
  replace hB := below_then hB D2
  clear D2
  go_wp2_with fail
  refine wp_region_looseM [] [0] (.one 1 (.one 2 (.one 3 .done))) [] [4, 5, 6, 7] [8, 9, 10] [] [] (by kernel_rfl) (by kernel_rfl) (by intro c a d v w h; cases d <;> exact h) (by intro c a d v w h; cases d <;> exact h) rfl (fun r i h => by simp at h) ?_
  simp only [pick, List.filterMap_cons, List.filterMap_nil, List.getElem?_toArray, List.getElem?_cons_succ, List.getElem?_cons_zero]
  intro u16 hu16
  have tf := (hu16.block _ (size_of_block bf)).trans bf
  have ztf := size_of_block tf
  have c0 := Joins.cell_of_block tf 0
  have c1 := Joins.cell_of_block tf 1
  have c2 := Joins.cell_of_block tf 2
  have c3 := Joins.cell_of_block tf 3
  have c4 := Joins.cell_of_block tf 4
  have hcg : ∀ (g : Gr u16) b o, b < u16.heap.size → g.val.cell? ⟨b, o, none⟩ = u16.cell? ⟨b, o, none⟩ := fun g b o h => (bcell g.b).1 b o h
  iterate 1 (refine wpRel_step (fun K hK => ?_); go_simp; refine hK _ ?_; clear hK K)
  refine wpRel_nil fun V16_0 hb16 => ?_
  clear hcg tf ztf c0 c1 c2 c3 c4
  have D0 := below_then hu16 hb16
  clear hb16
  refine wpTr_step rfl rfl fun K hK => ?_
  go_simp
  refine (at_c 10 12 V16_0).mono ?_
  rintro e X ⟨rfl, hx⟩
  refine hK _ _ hx fun V16_1 hu => ?_
  clear hK K
  have D1 := below_then D0 (below_then hx hu)
  clear hx hu D0
  refine wpTr_step rfl rfl fun K hK => ?_
  go_simp
  refine (at_c 10 15 V16_1).mono ?_
  rintro e X ⟨rfl, hx⟩
  refine hK _ _ hx fun V16_2 hu => ?_
  clear hK K
  have D2 := below_then D1 (below_then hx hu)
  clear hx hu D1
  refine wpTr_step rfl rfl fun K hK => ?_
  go_simp
  refine (x_needed (hk.later D2)).mono ?_
  rintro e X ⟨rfl, hx⟩
  refine hK _ _ hx fun V16_3 hu => ?_
  clear hK K
  have D3 := below_then D2 (below_then hx hu)
  clear hx hu D2
  show wpPure _ _ _ _
  refine wpPure_step (.tuple #[.int .i64 930, .bool true, .int .i64 0]) rfl (fun u => rfl) ?_
  refine wpPure_step (.int .i64 930) rfl (fun u => rfl) ?_
  refine wpPure_step (.bool true) rfl (fun u => rfl) ?_
  refine wpPure_step (.int .i64 0) rfl (fun u => rfl) ?_
  intro ks hks _ _
  obtain rfl : ks = [] := List.length_eq_zero_iff.1 hks
  clear hks
  show wpList _ _ _ _ _ _
  simp only [deco]
  replace bf := (D3.block _ (size_of_block bf)).trans bf
  replace bl := (D3.block _ (size_of_block bl)).trans bl
  replace bm := (D3.block _ (size_of_block bm)).trans bm
  replace hk := hk.later D3
  replace hp := hp.later D3
  replace hO := own_below hO D3
  replace hs1 := own_below hs1 D3
  replace hs2 := own_below hs2 D3
  replace hs3 := own_below hs3 D3
  replace hB := below_then hB D3
  clear D3
  go_wp2_with fail
  refine wp_region_looseM [3] [0, 1] (.one 2 (.one 4 (.one 5 .done))) [] [] [6, 7, 8] [] [] (by kernel_rfl) (by kernel_rfl) (by intro c a d v w h; cases d <;> exact h) (by intro c a d v w h; cases d <;> exact h) rfl (fun r i h => by simp at h) ?_
  simp only [pick, List.filterMap_cons, List.filterMap_nil, List.getElem?_toArray, List.getElem?_cons_succ, List.getElem?_cons_zero]
  refine wpPure_step (.agg #[.int .i64 600, .int .i64 650]) rfl (fun u => by first | rfl | kernel_rfl | simp [execOp, go_sem]) ?_
  intro u17 hu17
  have tf := (hu17.block _ (size_of_block bf)).trans bf
  have ztf := size_of_block tf
  have c0 := Joins.cell_of_block tf 0
  have c1 := Joins.cell_of_block tf 1
  have c2 := Joins.cell_of_block tf 2
  have c3 := Joins.cell_of_block tf 3
  have c4 := Joins.cell_of_block tf 4
  have hcg : ∀ (g : Gr u17) b o, b < u17.heap.size → g.val.cell? ⟨b, o, none⟩ = u17.cell? ⟨b, o, none⟩ := fun g b o h => (bcell g.b).1 b o h
  iterate 2 (refine wpRel_step (fun K hK => ?_); go_simp; refine hK _ ?_; clear hK K)
  refine wpRel_nil fun V17_0 hb17 => ?_
  clear hcg tf ztf c0 c1 c2 c3 c4
  have D0 := below_then hu17 hb17
  clear hb17
  refine wpTr_step rfl rfl fun K hK => ?_
  go_simp
  refine (at_c 10 6 V17_0).mono ?_
  rintro e X ⟨rfl, hx⟩
  refine hK _ _ hx fun V17_1 hu => ?_
  clear hK K
  have D1 := below_then D0 (below_then hx hu)
  clear hx hu D0
  refine wpTr_step rfl rfl fun K hK => ?_
  go_simp
  refine hK _ _ (Below.refl _ _) fun V17_2 hu => ?_
  clear hK K
  have D2 := below_then D1 hu
  clear hu D1
  refine wpTr_step rfl rfl fun K hK => ?_
  go_simp
  refine hK _ _ (below_alloc _ _) fun V17_3 hu => ?_
  clear hK K
  have yn := (hu.block _ (by simp)).trans (heap_alloc_new V17_2 (.cells #[.int .i64 4, .int .i64 10, .int .i64 6, .int .i64 600, .int .i64 650] 55))
  have D3 := below_then D2 (below_then (below_alloc V17_2 (.cells #[.int .i64 4, .int .i64 10, .int .i64 6, .int .i64 600, .int .i64 650] 55)) hu)
  clear hu D2
  show wpPure _ _ _ _
  intro ks hks _ _
  obtain rfl : ks = [] := List.length_eq_zero_iff.1 hks
  clear hks
  show wpList _ _ _ _ _ _
  simp only [deco]
  replace bf := (D3.block _ (size_of_block bf)).trans bf
  replace bl := (D3.block _ (size_of_block bl)).trans bl
  replace bm := (D3.block _ (size_of_block bm)).trans bm
  replace hk := hk.later D3
  replace hp := hp.later D3
  replace hO := own_below hO D3
  replace hs1 := own_below hs1 D3
  replace hs2 := own_below hs2 D3
  replace hs3 := own_below hs3 D3
  replace hB := below_then hB D3
  clear D3
  refine wpList_append_own _ rfl (.tmp 164) (.tmp 168) 22 rfl w.heap.size 55 i0 (.agg #[.int .i64 0, .int .i64 0, .int .i64 0, .int .i64 0, .int .i64 0]) 5 40 Try.underlying22 HI.out HI0.out HI1.out HI2.out rfl (by decide) _ _ _ rfl hO ⟨_, 0, none⟩ 1 1 #[.int .i64 4, .int .i64 10, .int .i64 6, .int .i64 600, .int .i64 650].toList rfl rfl ?c1 ?c2 ?c3 ?c4 ?c5 ?_
  case c1 =>
    intro j u hj
    have h9 := Joins.cell_of_block yn j
    rw [← Array.getElem?_toList, hj] at h9
    by_cases h0 : j = 0
    · subst h0; simpa [Addr.add] using h9
    · simpa [Addr.add, h0] using h9
  case c2 => intro u hu; simp at hu; rcases hu with rfl | rfl | rfl | rfl | rfl <;> rfl
  case c3 => decide
  case c4 => decide
  case c5 => exact hB.size
  intro v4 w4 hown4 hgrow _
  replace hown4 : w4.ownsRow w.heap.size 55 5 v4 4 (kiln4.ls.flatMap lkC) := hown4
  obtain ⟨A4, cap4, rfl⟩ := own_form hown4
  have bf4 := (hgrow.block _ (size_of_block bf) (Ne.symm (own_ne_block hO bf (by decide)))).trans bf
  have bl4 := (hgrow.block _ (size_of_block bl) (Ne.symm (own_ne_block hO bl (by decide)))).trans bl
  have bm4 := (hgrow.block _ (size_of_block bm) (Ne.symm (own_ne_block hO bm (by decide)))).trans bm
  have hs14 := hs1.kept hgrow (.inr (own_apart hO hs1 rfl (by decide)))
  have hs24 := hs2.kept hgrow (.inr (own_apart hO hs2 rfl (by decide)))
  have hs34 := hs3.kept hgrow (.inr (own_apart hO hs3 rfl (by decide)))
  have hB4 := below_own hB hB.size hO hgrow
  clear hgrow hk hp bf bl bm hs1 hs2 hs3 hB hO yn
  have f4 := Joins.unfrozen_of_block bf4 4
  have s4 := Joins.cell_of_block bf4 4
  have bf := Joins.block_setCell (i := 4) bf4 (.slice A4 4 cap4)
  have bl := (put_other (i := 4) (.slice A4 4 cap4) (show w12.heap.size ≠ w1.heap.size by omega)).trans bl4
  have bm := (put_other (i := 4) (.slice A4 4 cap4) (show w12.heap.size + 1 ≠ w1.heap.size by omega)).trans bm4
  have hs1 := own_setCell hs14 4 (.slice A4 4 cap4) (own_ne_block hs14 bf4 (by decide))
  have hs2 := own_setCell hs24 4 (.slice A4 4 cap4) (own_ne_block hs24 bf4 (by decide))
  have hs3 := own_setCell hs34 4 (.slice A4 4 cap4) (own_ne_block hs34 bf4 (by decide))
  have hO := own_setCell hown4 4 (.slice A4 4 cap4) (own_ne_block hown4 bf4 (by decide))
  have hB := below_set (i := 4) (v := .slice A4 4 cap4) hB4 hfg
  clear bf4 bl4 bm4 hs14 hs24 hs34 hown4 hB4
  obtain ⟨w5, hw5⟩ : ∃ W, W = w4.setCell ⟨w1.heap.size, 4, none⟩ (.slice A4 4 cap4) := ⟨_, rfl⟩
  rw [← hw5] at bf bl bm hs1 hs2 hs3 hO hB
  have hk : Lks w5 w5.heap.size (.slice A4 4 cap4) kiln4.ls := Sl.of_own lkC_len hO (by simp [kiln4])
  clear hO
  have c0 := Joins.cell_of_block bf 0
  have c1 := Joins.cell_of_block bf 1
  have c2 := Joins.cell_of_block bf 2
  have c3 := Joins.cell_of_block bf 3
  have c4 := Joins.cell_of_block bf 4
  rw [hw5] at c0 c1 c2 c3 c4
  have HW := Lib.hid hw5
  clear hw5
  show wpList _ _ _ _ _ _
  go_wp2_with fail
  rw [← HW.out]
  clear f4 s4 HW
  refine (x_clash4 hk).mono ?_
  rintro e w18 ⟨rfl, hF18⟩
  replace bf := (hF18.block _ (size_of_block bf)).trans bf
  replace bl := (hF18.block _ (size_of_block bl)).trans bl
  replace bm := (hF18.block _ (size_of_block bm)).trans bm
  replace hk := hk.later hF18
  replace hs1 := own_below hs1 hF18
  replace hs2 := own_below hs2 hF18
  replace hs3 := own_below hs3 hF18
  replace hB := below_then hB hF18
  clear hF18
  clear c0 c1 c2 c3 c4
  have c0 := Joins.cell_of_block bf 0
  have c1 := Joins.cell_of_block bf 1
  have c2 := Joins.cell_of_block bf 2
  have c3 := Joins.cell_of_block bf 3
  have c4 := Joins.cell_of_block bf 4
  go_wp2_with fail
  refine (x_susp4 hk).mono ?_
  rintro e w19 ⟨s4v, rfl, hs4v, hF19⟩
  replace bf := (hF19.block _ (size_of_block bf)).trans bf
  replace bl := (hF19.block _ (size_of_block bl)).trans bl
  replace bm := (hF19.block _ (size_of_block bm)).trans bm
  replace hk := hk.later hF19
  replace hs1 := own_below hs1 hF19
  replace hs2 := own_below hs2 hF19
  replace hs3 := own_below hs3 hF19
  replace hB := below_then hB hF19
  clear hF19
  clear c0 c1 c2 c3 c4
  have bl0 := Joins.cell_of_block bl 0
  have bl1 := Joins.cell_of_block bl 1
  have bl2 := Joins.cell_of_block bl 2
  have bm0 := Joins.cell_of_block bm 0
  have bm1 := Joins.cell_of_block bm 1
  have bm2 := Joins.cell_of_block bm 2
  go_wp2_with fail
  have hA := below_alloc w19 (.cells #[.int .i64 1, .int .i64 2] 36)
  refine (sameS_t (Sl.of_own spnC_len (own_below hs1 hA) (by simp)) (builtL spnC_len w19 [⟨1, 2⟩] 36 _ _ 1 rfl (by simp) rfl rfl)).mono ?_
  rintro e w20 ⟨rfl, hb⟩
  have HB := below_then hA hb
  replace bf := (HB.block _ (size_of_block bf)).trans bf
  replace bl := (HB.block _ (size_of_block bl)).trans bl
  replace bm := (HB.block _ (size_of_block bm)).trans bm
  replace hk := hk.later HB
  replace hs1 := own_below hs1 HB
  replace hs2 := own_below hs2 HB
  replace hs3 := own_below hs3 HB
  replace hs4v := own_below hs4v HB
  replace hB := below_then hB HB
  clear HB hA hb
  clear bl0 bl1 bl2
  clear bm0 bm1 bm2
  go_wp2_with fail
  have hA := below_alloc w20 (.cells #[.int .i64 1, .int .i64 2] 36)
  refine (sameS_t (Sl.of_own spnC_len (own_below hs2 hA) (by simp)) (builtL spnC_len w20 [⟨1, 2⟩] 36 _ _ 1 rfl (by simp) rfl rfl)).mono ?_
  rintro e w21 ⟨rfl, hb⟩
  have HB := below_then hA hb
  replace bf := (HB.block _ (size_of_block bf)).trans bf
  replace bl := (HB.block _ (size_of_block bl)).trans bl
  replace bm := (HB.block _ (size_of_block bm)).trans bm
  replace hk := hk.later HB
  replace hs1 := own_below hs1 HB
  replace hs2 := own_below hs2 HB
  replace hs3 := own_below hs3 HB
  replace hs4v := own_below hs4v HB
  replace hB := below_then hB HB
  clear HB hA hb
  go_wp2_with fail
  have hA := below_alloc w21 (.cells #[.int .i64 3] 3)
  refine (sameI_t (Ints.of_own (l := [3]) (own_below hs3 hA) (by simp)) (builtL nC_len w21 [3] 3 _ _ 1 rfl (by simp) rfl rfl)).mono ?_
  rintro e w22 ⟨rfl, hb⟩
  have HB := below_then hA hb
  replace bf := (HB.block _ (size_of_block bf)).trans bf
  replace bl := (HB.block _ (size_of_block bl)).trans bl
  replace bm := (HB.block _ (size_of_block bm)).trans bm
  replace hk := hk.later HB
  replace hs1 := own_below hs1 HB
  replace hs2 := own_below hs2 HB
  replace hs3 := own_below hs3 HB
  replace hs4v := own_below hs4v HB
  replace hB := below_then hB HB
  clear HB hA hb
  go_wp2_with fail
  have hA := below_alloc w22 (.cells #[.int .i64 4] 3)
  refine (sameI_t (Ints.of_own (l := [4]) (own_below hs4v hA) (by simp)) (builtL nC_len w22 [4] 3 _ _ 1 rfl (by simp) rfl rfl)).mono ?_
  rintro e w23 ⟨rfl, hb⟩
  have HB := below_then hA hb
  replace bf := (HB.block _ (size_of_block bf)).trans bf
  replace bl := (HB.block _ (size_of_block bl)).trans bl
  replace bm := (HB.block _ (size_of_block bm)).trans bm
  replace hk := hk.later HB
  replace hs1 := own_below hs1 HB
  replace hs2 := own_below hs2 HB
  replace hs3 := own_below hs3 HB
  replace hs4v := own_below hs4v HB
  replace hB := below_then hB HB
  clear HB hA hb
  go_wp2_with fail
  go_ret
  exact ⟨rfl, hB⟩
end Go.Proofs.Ytjpoacffnpgjdaa
