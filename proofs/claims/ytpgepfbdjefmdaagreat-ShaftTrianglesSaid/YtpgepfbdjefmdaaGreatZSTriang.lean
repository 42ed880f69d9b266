/- ShaftTriangles: the walk (written by tools/genstriang.py). -/
import Derived.Test.YtpgepfbdjefmdaaGreatJ27
namespace Go.Proofs.YtpgepfbdjefmdaaGreat
open Go Go.RowKit Go.Shelf
attribute [local go_sem] Oper.semAt_some Rel RelAt RelUpon

set_option maxRecDepth 100000 in
set_option maxHeartbeats 8000000 in
theorem STriang_no (rm pr : Int) (A1 : Option Addr) (n1 c1 : Nat) (A2 : Option Addr) (n2 c2 : Nat) (A3 : Option Addr) (n3 c3 : Nat) (a b c : Nat) (w : World) (h : fewB3 n1 n2 n3 = false) : Calls Tryz.prog 11 #[.agg #[.int .i64 rm, .int .i64 pr, .slice A1 n1 c1, .slice A2 n2 c2, .slice A3 n3 c3], .int .u8 a, .int .u8 b, .int .u8 c] w fun e w' => e = .returned (.bool true) ∧ Below w.heap.size w w' := by
  go_enter Tryz.func11, Tryz.ntmps11
  have bk := heap_alloc_new w (.cells #[.int .i64 rm, .int .i64 pr, .slice A1 n1 c1, .slice A2 n2 c2, .slice A3 n3 c3] 26)
  have HB := below_alloc w (.cells #[.int .i64 rm, .int .i64 pr, .slice A1 n1 c1, .slice A2 n2 c2, .slice A3 n3 c3] 26)
  have cbk0 := Joins.cell_of_block bk 0
  have cbk1 := Joins.cell_of_block bk 1
  have cbk2 := Joins.cell_of_block bk 2
  have cbk3 := Joins.cell_of_block bk 3
  have cbk4 := Joins.cell_of_block bk 4
  have zbk := size_of_block bk
  go_wp2_with fail
  generalize (w.alloc (.cells #[.int .i64 rm, .int .i64 pr, .slice A1 n1 c1, .slice A2 n2 c2, .slice A3 n3 c3] 26)) = w1 at bk HB cbk0 cbk1 cbk2 cbk3 cbk4 zbk ⊢
  have hB := HB
  clear HB
  refine (lfew_c rm pr A1 A2 A3 n1 c1 n2 c2 n3 c3 _).mono ?_
  rintro e w2 ⟨rfl, hF⟩
  clear cbk0 cbk1 cbk2 cbk3 cbk4 zbk
  replace bk := (hF.block _ (size_of_block bk)).trans bk
  replace hB := below_then hB hF
  clear hF
  rw [h]
  go_wp2_with fail
  refine (sanity_c _).mono ?_
  rintro e w3 ⟨rfl, hF⟩
  replace bk := (hF.block _ (size_of_block bk)).trans bk
  replace hB := below_then hB hF
  clear hF
  go_wp2_with fail
  go_ret
  exact ⟨rfl, hB⟩
set_option maxRecDepth 100000 in
set_option maxHeartbeats 8000000 in
theorem STriang_bad (k : Kl) (A1 A2 A3 : Option Addr) (c1 c2 c3 : Nat) (a b c : Nat) (w : World) (hk : Kiln w (.agg #[.int .i64 k.room, .int .i64 k.per, .slice A1 k.ls.length c1, .slice A2 k.ds.length c2, .slice A3 k.ws.length c3]) k) (hf : fewB3 k.ls.length k.ds.length k.ws.length = true) (hc : checkI k ≠ 0) : Calls Tryz.prog 11 #[.agg #[.int .i64 k.room, .int .i64 k.per, .slice A1 k.ls.length c1, .slice A2 k.ds.length c2, .slice A3 k.ws.length c3], .int .u8 a, .int .u8 b, .int .u8 c] w fun e w' => e = .returned (.bool true) ∧ Below w.heap.size w w' := by
  have d0 : (checkI k != 0) = true := by simpa using hc
  have HK := Lib.hid hk
  clear hk
  go_enter Tryz.func11, Tryz.ntmps11
  have bk := heap_alloc_new w (.cells #[.int .i64 k.room, .int .i64 k.per, .slice A1 k.ls.length c1, .slice A2 k.ds.length c2, .slice A3 k.ws.length c3] 26)
  have HB := below_alloc w (.cells #[.int .i64 k.room, .int .i64 k.per, .slice A1 k.ls.length c1, .slice A2 k.ds.length c2, .slice A3 k.ws.length c3] 26)
  have cbk0 := Joins.cell_of_block bk 0
  have cbk1 := Joins.cell_of_block bk 1
  have cbk2 := Joins.cell_of_block bk 2
  have cbk3 := Joins.cell_of_block bk 3
  have cbk4 := Joins.cell_of_block bk 4
  have zbk := size_of_block bk
  go_wp2_with fail
  generalize (w.alloc (.cells #[.int .i64 k.room, .int .i64 k.per, .slice A1 k.ls.length c1, .slice A2 k.ds.length c2, .slice A3 k.ws.length c3] 26)) = w1 at bk HB cbk0 cbk1 cbk2 cbk3 cbk4 zbk ⊢
  have hB := HB
  clear HB
  refine (lfew_c k.room k.per A1 A2 A3 k.ls.length c1 k.ds.length c2 k.ws.length c3 _).mono ?_
  rintro e w2 ⟨rfl, hF⟩
  clear cbk0 cbk1 cbk2 cbk3 cbk4 zbk
  replace bk := (hF.block _ (size_of_block bk)).trans bk
  replace hB := below_then hB hF
  clear hF
  rw [hf]
  have cbk0 := Joins.cell_of_block bk 0
  have cbk1 := Joins.cell_of_block bk 1
  have cbk2 := Joins.cell_of_block bk 2
  have cbk3 := Joins.cell_of_block bk 3
  have cbk4 := Joins.cell_of_block bk 4
  have zbk := size_of_block bk
  go_wp2_with fail
  refine (check_c k _ w2 (HK.out.later hB)).mono ?_
  rintro e w3 ⟨rfl, hF⟩
  clear cbk0 cbk1 cbk2 cbk3 cbk4 zbk
  replace bk := (hF.block _ (size_of_block bk)).trans bk
  replace hB := below_then hB hF
  clear hF
  go_wp2_with fail
  refine (sanity_c _).mono ?_
  rintro e w4 ⟨rfl, hF⟩
  replace bk := (hF.block _ (size_of_block bk)).trans bk
  replace hB := below_then hB hF
  clear hF
  go_wp2_with fail
  go_ret
  exact ⟨rfl, hB⟩
set_option maxRecDepth 100000 in
set_option maxHeartbeats 8000000 in
theorem STriang_cant (k : Kl) (A1 A2 A3 : Option Addr) (c1 c2 c3 : Nat) (a b c : Nat) (w : World) (hk : Kiln w (.agg #[.int .i64 k.room, .int .i64 k.per, .slice A1 k.ls.length c1, .slice A2 k.ds.length c2, .slice A3 k.ws.length c3]) k) (hf : fewB3 k.ls.length k.ds.length k.ws.length = true) (ha : a ≤ 255) (hb9 : b ≤ 255) (hc9 : c ≤ 255) (hc : checkI k = 0) (hcan : ¬ canB (tiesL k) = true) : Calls Tryz.prog 11 #[.agg #[.int .i64 k.room, .int .i64 k.per, .slice A1 k.ls.length c1, .slice A2 k.ds.length c2, .slice A3 k.ws.length c3], .int .u8 a, .int .u8 b, .int .u8 c] w fun e w' => e = .returned (.bool true) ∧ Below w.heap.size w w' := by
  obtain ⟨ha1, ha2, dz⟩ := mark_mod (k := k) a (by omega)
  obtain ⟨a', ha3⟩ : ∃ x, x = a % mN k := ⟨_, rfl⟩
  rw [← ha3] at ha1 ha2
  clear ha3
  obtain ⟨hb1, hb2, dz⟩ := mark_mod (k := k) b (by omega)
  obtain ⟨b', hb3⟩ : ∃ x, x = b % mN k := ⟨_, rfl⟩
  rw [← hb3] at hb1 hb2
  clear hb3
  obtain ⟨hc1, hc2, dz⟩ := mark_mod (k := k) c (by omega)
  obtain ⟨c', hc3⟩ : ∃ x, x = c % mN k := ⟨_, rfl⟩
  rw [← hc3] at hc1 hc2
  clear hc3
  have yX := fun W h => Above_f k (.agg #[.int .i64 k.room, .int .i64 k.per, .slice A1 k.ls.length c1, .slice A2 k.ds.length c2, .slice A3 k.ws.length c3]) a' b' W h
  rw [mostE_ok hc ha2 hb2, if_neg hcan] at yX
  have yY := fun W h => Above_f k (.agg #[.int .i64 k.room, .int .i64 k.per, .slice A1 k.ls.length c1, .slice A2 k.ds.length c2, .slice A3 k.ws.length c3]) b' c' W h
  rw [mostE_ok hc hb2 hc2, if_neg hcan] at yY
  have yZ := fun W h => Above_f k (.agg #[.int .i64 k.room, .int .i64 k.per, .slice A1 k.ls.length c1, .slice A2 k.ds.length c2, .slice A3 k.ws.length c3]) a' c' W h
  rw [mostE_ok hc ha2 hc2, if_neg hcan] at yZ
  have HX := Lib.hid yX
  clear yX
  have HY := Lib.hid yY
  clear yY
  have HZ := Lib.hid yZ
  clear yZ
  have HK := Lib.hid hk
  clear hk
  go_enter Tryz.func11, Tryz.ntmps11
  have bk := heap_alloc_new w (.cells #[.int .i64 k.room, .int .i64 k.per, .slice A1 k.ls.length c1, .slice A2 k.ds.length c2, .slice A3 k.ws.length c3] 26)
  have HB := below_alloc w (.cells #[.int .i64 k.room, .int .i64 k.per, .slice A1 k.ls.length c1, .slice A2 k.ds.length c2, .slice A3 k.ws.length c3] 26)
  have cbk0 := Joins.cell_of_block bk 0
  have cbk1 := Joins.cell_of_block bk 1
  have cbk2 := Joins.cell_of_block bk 2
  have cbk3 := Joins.cell_of_block bk 3
  have cbk4 := Joins.cell_of_block bk 4
  have zbk := size_of_block bk
  go_wp2_with fail
  generalize (w.alloc (.cells #[.int .i64 k.room, .int .i64 k.per, .slice A1 k.ls.length c1, .slice A2 k.ds.length c2, .slice A3 k.ws.length c3] 26)) = w1 at bk HB cbk0 cbk1 cbk2 cbk3 cbk4 zbk ⊢
  have hB := HB
  clear HB
  refine (lfew_c k.room k.per A1 A2 A3 k.ls.length c1 k.ds.length c2 k.ws.length c3 _).mono ?_
  rintro e w2 ⟨rfl, hF⟩
  clear cbk0 cbk1 cbk2 cbk3 cbk4 zbk
  replace bk := (hF.block _ (size_of_block bk)).trans bk
  replace hB := below_then hB hF
  clear hF
  rw [hf]
  have cbk0 := Joins.cell_of_block bk 0
  have cbk1 := Joins.cell_of_block bk 1
  have cbk2 := Joins.cell_of_block bk 2
  have cbk3 := Joins.cell_of_block bk 3
  have cbk4 := Joins.cell_of_block bk 4
  have zbk := size_of_block bk
  go_wp2_with fail
  refine (check_c k _ w2 (HK.out.later hB)).mono ?_
  rintro e w3 ⟨rfl, hF⟩
  clear cbk0 cbk1 cbk2 cbk3 cbk4 zbk
  replace bk := (hF.block _ (size_of_block bk)).trans bk
  replace hB := below_then hB hF
  clear hF
  have HR := Lib.hid (right_of_check hc)
  rw [hc]
  have d0 : ((0 : Int) != 0) = false := rfl
  have cbk0 := Joins.cell_of_block bk 0
  have cbk1 := Joins.cell_of_block bk 1
  have cbk2 := Joins.cell_of_block bk 2
  have cbk3 := Joins.cell_of_block bk 3
  have cbk4 := Joins.cell_of_block bk 4
  have zbk := size_of_block bk
  go_wp2_with fail
  refine (lmarks_c k A1 A2 A3 c1 c2 c3 _ HR.out).mono ?_
  rintro e w4 ⟨rfl, hF⟩
  clear cbk0 cbk1 cbk2 cbk3 cbk4 zbk
  replace bk := (hF.block _ (size_of_block bk)).trans bk
  replace hB := below_then hB hF
  clear hF
  go_wp2_with fail
  have szbk := size_of_block bk
  have szB := hB.size
  refine wp_region_looseM [1, 3, 5, 7] [0, 2, 4, 6, 8] (.one 9 .done) [13] [10, 11, 12] [14, 15] [some 10] [.cells #[.int .i64 0, .slice none 0 0, .slice none 0 0, .slice none 0 0] 54] (by kernel_rfl) (by kernel_rfl) (by intro c a d v w h; cases d <;> exact h) (by intro c a d v w h; cases d <;> exact h) rfl (by intro r i hri; match r, hri with | 0, hri => cases hri; exact ⟨_, _, rfl, rfl, rfl, rfl, fun a u => by simp [execOp, go_sem, ptrV]⟩) ?_
  simp only [pick, List.filterMap_cons, List.filterMap_nil, List.getElem?_toArray, List.getElem?_cons_succ, List.getElem?_cons_zero]
  refine wpPure_step (.int .u8 a) rfl (fun u => by first | rfl | kernel_rfl | simp [execOp, go_sem]) ?_
  refine wpPure_step (.int .i64 (marksN k)) rfl (fun u => by first | rfl | kernel_rfl | simp [execOp, go_sem]) ?_
  refine wpPure_step (.int .u8 b) rfl (fun u => by first | rfl | kernel_rfl | simp [execOp, go_sem]) ?_
  refine wpPure_step (.int .i64 (marksN k)) rfl (fun u => by first | rfl | kernel_rfl | simp [execOp, go_sem]) ?_
  intro u5 hu5
  replace bk := (hu5.block _ (size_of_block bk)).trans bk
  replace hB := below_then hB hu5
  have cbk0 := Joins.cell_of_block bk 0
  have cbk1 := Joins.cell_of_block bk 1
  have cbk2 := Joins.cell_of_block bk 2
  have cbk3 := Joins.cell_of_block bk 3
  have cbk4 := Joins.cell_of_block bk 4
  have zbk := size_of_block bk
  have hcg : ∀ (g : Gr u5) b o, b < u5.heap.size → g.val.cell? ⟨b, o, none⟩ = u5.cell? ⟨b, o, none⟩ := fun g b o h => (bcell g.b).1 b o h
  iterate 5 (first | (refine wpRel_step (fun K hK => ?_); go_simp; refine hK _ ?_; clear hK K))
  refine wpRel_nil fun V5_0 hb5 => ?_
  clear hcg cbk0 cbk1 cbk2 cbk3 cbk4 zbk
  replace bk := (hb5.block _ (size_of_block bk)).trans bk
  replace hB := below_then hB hb5
  clear hb5 hu5
  refine wpTr_step rfl rfl fun K hK => ?_
  go_simp
  refine (HX.out V5_0 (HK.out.later hB)).mono ?_
  rintro e X ⟨X0, Xc0, X1, Xc1, X2, Xc2, Xpp, Xtl, Xtd, rfl, _, hx⟩
  refine hK _ _ hx fun V5_1 hu => ?_
  clear hK K
  have hxu := below_then hx hu
  replace bk := (hxu.block _ (size_of_block bk)).trans bk
  replace hB := below_then hB hxu
  clear hx hu hxu
  show wpPure _ _ _ _
  refine wpPure_step (.tuple #[.agg #[.int .i64 0, .slice X0 Xpp.length Xc0, .slice X1 Xtl.length Xc1, .slice X2 Xtd.length Xc2], .int .i64 9]) rfl (fun u => by first | rfl | simp [execOp, go_sem]) ?_
  refine wpPure_step (.agg #[.int .i64 0, .slice X0 Xpp.length Xc0, .slice X1 Xtl.length Xc1, .slice X2 Xtd.length Xc2]) rfl (fun u => by first | rfl | simp [execOp, go_sem]) ?_
  refine wpPure_step (.int .i64 9) rfl (fun u => by first | rfl | simp [execOp, go_sem]) ?_
  intro ks hks hall hH
  obtain ⟨k1, rfl⟩ : ∃ k1, ks = [some k1] := by
    match ks, hks with
    | [none], _ => exact absurd rfl (hall 0)
    | [some k1], _ => exact ⟨k1, rfl⟩
  obtain ⟨o1, ge1, lt1⟩ := hH.obj 0 k1 rfl
  rw [show ([Obj.cells #[.int .i64 0, .slice none 0 0, .slice none 0 0, .slice none 0 0] 54])[0]? = some (.cells #[.int .i64 0, .slice none 0 0, .slice none 0 0, .slice none 0 0] 54) from rfl] at o1
  clear hH hall hks
  show wpList _ _ _ _ _ _
  simp only [deco, ptrV]
  refine wpList_store_rowTo rfl 54 _ _ rfl rfl k1 #[.int .i64 0, .slice X0 Xpp.length Xc0, .slice X1 Xtl.length Xc1, .slice X2 Xtd.length Xc2] rfl rfl 54 _ o1 (by kernel_rfl) (by kernel_rfl) (by kernel_rfl) ?_
  have bX := setRow_heap V5_1 k1 _ #[.int .i64 0, .slice X0 Xpp.length Xc0, .slice X1 Xtl.length Xc1, .slice X2 Xtd.length Xc2] _ _ o1
  have HS := below_setRow (Below.refl k1 V5_1) (Nat.le_refl _) #[.int .i64 0, .slice X0 Xpp.length Xc0, .slice X1 Xtl.length Xc1, .slice X2 Xtd.length Xc2]
  replace bk := (setRow_other _ _ _ #[.int .i64 0, .slice X0 Xpp.length Xc0, .slice X1 Xtl.length Xc1, .slice X2 Xtd.length Xc2] (show _ ≠ k1 by omega)).trans bk
  replace hB := below_setRow hB (show w.heap.size ≤ k1 by omega) #[.int .i64 0, .slice X0 Xpp.length Xc0, .slice X1 Xtl.length Xc1, .slice X2 Xtd.length Xc2]
  clear HS o1 ge1 lt1 szbk szB
  generalize V5_1.setRow k1 #[.int .i64 0, .slice X0 Xpp.length Xc0, .slice X1 Xtl.length Xc1, .slice X2 Xtd.length Xc2] = w6 at bX hB bk ⊢
  go_wp2_with fail
  have szbk := size_of_block bk
  have szbX := size_of_block bX
  have szB := hB.size
  refine wp_region_looseM [1, 3, 5, 7] [0, 2, 4, 6, 8] (.one 9 .done) [13] [10, 11, 12] [14, 15] [some 12] [.cells #[.int .i64 0, .slice none 0 0, .slice none 0 0, .slice none 0 0] 54] (by kernel_rfl) (by kernel_rfl) (by intro c a d v w h; cases d <;> exact h) (by intro c a d v w h; cases d <;> exact h) rfl (by intro r i hri; match r, hri with | 0, hri => cases hri; exact ⟨_, _, rfl, rfl, rfl, rfl, fun a u => by simp [execOp, go_sem, ptrV]⟩) ?_
  simp only [pick, List.filterMap_cons, List.filterMap_nil, List.getElem?_toArray, List.getElem?_cons_succ, List.getElem?_cons_zero]
  refine wpPure_step (.int .u8 b) rfl (fun u => by first | rfl | kernel_rfl | simp [execOp, go_sem]) ?_
  refine wpPure_step (.int .i64 (marksN k)) rfl (fun u => by first | rfl | kernel_rfl | simp [execOp, go_sem]) ?_
  refine wpPure_step (.int .u8 c) rfl (fun u => by first | rfl | kernel_rfl | simp [execOp, go_sem]) ?_
  refine wpPure_step (.int .i64 (marksN k)) rfl (fun u => by first | rfl | kernel_rfl | simp [execOp, go_sem]) ?_
  intro u7 hu7
  replace bk := (hu7.block _ (size_of_block bk)).trans bk
  replace bX := (hu7.block _ (size_of_block bX)).trans bX
  replace hB := below_then hB hu7
  have cbk0 := Joins.cell_of_block bk 0
  have cbk1 := Joins.cell_of_block bk 1
  have cbk2 := Joins.cell_of_block bk 2
  have cbk3 := Joins.cell_of_block bk 3
  have cbk4 := Joins.cell_of_block bk 4
  have zbk := size_of_block bk
  have hcg : ∀ (g : Gr u7) b o, b < u7.heap.size → g.val.cell? ⟨b, o, none⟩ = u7.cell? ⟨b, o, none⟩ := fun g b o h => (bcell g.b).1 b o h
  iterate 5 (first | (refine wpRel_step (fun K hK => ?_); go_simp; refine hK _ ?_; clear hK K))
  refine wpRel_nil fun V7_0 hb7 => ?_
  clear hcg cbk0 cbk1 cbk2 cbk3 cbk4 zbk
  replace bk := (hb7.block _ (size_of_block bk)).trans bk
  replace bX := (hb7.block _ (size_of_block bX)).trans bX
  replace hB := below_then hB hb7
  clear hb7 hu7
  refine wpTr_step rfl rfl fun K hK => ?_
  go_simp
  refine (HY.out V7_0 (HK.out.later hB)).mono ?_
  rintro e X ⟨Y0, Yc0, Y1, Yc1, Y2, Yc2, Ypp, Ytl, Ytd, rfl, _, hx⟩
  refine hK _ _ hx fun V7_1 hu => ?_
  clear hK K
  have hxu := below_then hx hu
  replace bk := (hxu.block _ (size_of_block bk)).trans bk
  replace bX := (hxu.block _ (size_of_block bX)).trans bX
  replace hB := below_then hB hxu
  clear hx hu hxu
  show wpPure _ _ _ _
  refine wpPure_step (.tuple #[.agg #[.int .i64 0, .slice Y0 Ypp.length Yc0, .slice Y1 Ytl.length Yc1, .slice Y2 Ytd.length Yc2], .int .i64 9]) rfl (fun u => by first | rfl | simp [execOp, go_sem]) ?_
  refine wpPure_step (.agg #[.int .i64 0, .slice Y0 Ypp.length Yc0, .slice Y1 Ytl.length Yc1, .slice Y2 Ytd.length Yc2]) rfl (fun u => by first | rfl | simp [execOp, go_sem]) ?_
  refine wpPure_step (.int .i64 9) rfl (fun u => by first | rfl | simp [execOp, go_sem]) ?_
  intro ks hks hall hH
  obtain ⟨k1, rfl⟩ : ∃ k1, ks = [some k1] := by
    match ks, hks with
    | [none], _ => exact absurd rfl (hall 0)
    | [some k1], _ => exact ⟨k1, rfl⟩
  obtain ⟨o1, ge1, lt1⟩ := hH.obj 0 k1 rfl
  rw [show ([Obj.cells #[.int .i64 0, .slice none 0 0, .slice none 0 0, .slice none 0 0] 54])[0]? = some (.cells #[.int .i64 0, .slice none 0 0, .slice none 0 0, .slice none 0 0] 54) from rfl] at o1
  clear hH hall hks
  show wpList _ _ _ _ _ _
  simp only [deco, ptrV]
  refine wpList_store_rowTo rfl 54 _ _ rfl rfl k1 #[.int .i64 0, .slice Y0 Ypp.length Yc0, .slice Y1 Ytl.length Yc1, .slice Y2 Ytd.length Yc2] rfl rfl 54 _ o1 (by kernel_rfl) (by kernel_rfl) (by kernel_rfl) ?_
  have bY := setRow_heap V7_1 k1 _ #[.int .i64 0, .slice Y0 Ypp.length Yc0, .slice Y1 Ytl.length Yc1, .slice Y2 Ytd.length Yc2] _ _ o1
  have HS := below_setRow (Below.refl k1 V7_1) (Nat.le_refl _) #[.int .i64 0, .slice Y0 Ypp.length Yc0, .slice Y1 Ytl.length Yc1, .slice Y2 Ytd.length Yc2]
  replace bk := (setRow_other _ _ _ #[.int .i64 0, .slice Y0 Ypp.length Yc0, .slice Y1 Ytl.length Yc1, .slice Y2 Ytd.length Yc2] (show _ ≠ k1 by omega)).trans bk
  replace bX := (setRow_other _ _ _ #[.int .i64 0, .slice Y0 Ypp.length Yc0, .slice Y1 Ytl.length Yc1, .slice Y2 Ytd.length Yc2] (show _ ≠ k1 by omega)).trans bX
  replace hB := below_setRow hB (show w.heap.size ≤ k1 by omega) #[.int .i64 0, .slice Y0 Ypp.length Yc0, .slice Y1 Ytl.length Yc1, .slice Y2 Ytd.length Yc2]
  clear HS o1 ge1 lt1 szbk szbX szB
  generalize V7_1.setRow k1 #[.int .i64 0, .slice Y0 Ypp.length Yc0, .slice Y1 Ytl.length Yc1, .slice Y2 Ytd.length Yc2] = w8 at bY hB bk bX ⊢
  go_wp2_with fail
  have szbk := size_of_block bk
  have szbX := size_of_block bX
  have szbY := size_of_block bY
  have szB := hB.size
  refine wp_region_looseM [1, 3, 5, 7] [0, 2, 4, 6, 8] (.one 9 .done) [13] [10, 11, 12] [14, 15] [some 14] [.cells #[.int .i64 0, .slice none 0 0, .slice none 0 0, .slice none 0 0] 54] (by kernel_rfl) (by kernel_rfl) (by intro c a d v w h; cases d <;> exact h) (by intro c a d v w h; cases d <;> exact h) rfl (by intro r i hri; match r, hri with | 0, hri => cases hri; exact ⟨_, _, rfl, rfl, rfl, rfl, fun a u => by simp [execOp, go_sem, ptrV]⟩) ?_
  simp only [pick, List.filterMap_cons, List.filterMap_nil, List.getElem?_toArray, List.getElem?_cons_succ, List.getElem?_cons_zero]
  refine wpPure_step (.int .u8 a) rfl (fun u => by first | rfl | kernel_rfl | simp [execOp, go_sem]) ?_
  refine wpPure_step (.int .i64 (marksN k)) rfl (fun u => by first | rfl | kernel_rfl | simp [execOp, go_sem]) ?_
  refine wpPure_step (.int .u8 c) rfl (fun u => by first | rfl | kernel_rfl | simp [execOp, go_sem]) ?_
  refine wpPure_step (.int .i64 (marksN k)) rfl (fun u => by first | rfl | kernel_rfl | simp [execOp, go_sem]) ?_
  intro u9 hu9
  replace bk := (hu9.block _ (size_of_block bk)).trans bk
  replace bX := (hu9.block _ (size_of_block bX)).trans bX
  replace bY := (hu9.block _ (size_of_block bY)).trans bY
  replace hB := below_then hB hu9
  have cbk0 := Joins.cell_of_block bk 0
  have cbk1 := Joins.cell_of_block bk 1
  have cbk2 := Joins.cell_of_block bk 2
  have cbk3 := Joins.cell_of_block bk 3
  have cbk4 := Joins.cell_of_block bk 4
  have zbk := size_of_block bk
  have hcg : ∀ (g : Gr u9) b o, b < u9.heap.size → g.val.cell? ⟨b, o, none⟩ = u9.cell? ⟨b, o, none⟩ := fun g b o h => (bcell g.b).1 b o h
  iterate 5 (first | (refine wpRel_step (fun K hK => ?_); go_simp; refine hK _ ?_; clear hK K))
  refine wpRel_nil fun V9_0 hb9 => ?_
  clear hcg cbk0 cbk1 cbk2 cbk3 cbk4 zbk
  replace bk := (hb9.block _ (size_of_block bk)).trans bk
  replace bX := (hb9.block _ (size_of_block bX)).trans bX
  replace bY := (hb9.block _ (size_of_block bY)).trans bY
  replace hB := below_then hB hb9
  clear hb9 hu9
  refine wpTr_step rfl rfl fun K hK => ?_
  go_simp
  refine (HZ.out V9_0 (HK.out.later hB)).mono ?_
  rintro e X ⟨Z0, Zc0, Z1, Zc1, Z2, Zc2, Zpp, Ztl, Ztd, rfl, _, hx⟩
  refine hK _ _ hx fun V9_1 hu => ?_
  clear hK K
  have hxu := below_then hx hu
  replace bk := (hxu.block _ (size_of_block bk)).trans bk
  replace bX := (hxu.block _ (size_of_block bX)).trans bX
  replace bY := (hxu.block _ (size_of_block bY)).trans bY
  replace hB := below_then hB hxu
  clear hx hu hxu
  show wpPure _ _ _ _
  refine wpPure_step (.tuple #[.agg #[.int .i64 0, .slice Z0 Zpp.length Zc0, .slice Z1 Ztl.length Zc1, .slice Z2 Ztd.length Zc2], .int .i64 9]) rfl (fun u => by first | rfl | simp [execOp, go_sem]) ?_
  refine wpPure_step (.agg #[.int .i64 0, .slice Z0 Zpp.length Zc0, .slice Z1 Ztl.length Zc1, .slice Z2 Ztd.length Zc2]) rfl (fun u => by first | rfl | simp [execOp, go_sem]) ?_
  refine wpPure_step (.int .i64 9) rfl (fun u => by first | rfl | simp [execOp, go_sem]) ?_
  intro ks hks hall hH
  obtain ⟨k1, rfl⟩ : ∃ k1, ks = [some k1] := by
    match ks, hks with
    | [none], _ => exact absurd rfl (hall 0)
    | [some k1], _ => exact ⟨k1, rfl⟩
  obtain ⟨o1, ge1, lt1⟩ := hH.obj 0 k1 rfl
  rw [show ([Obj.cells #[.int .i64 0, .slice none 0 0, .slice none 0 0, .slice none 0 0] 54])[0]? = some (.cells #[.int .i64 0, .slice none 0 0, .slice none 0 0, .slice none 0 0] 54) from rfl] at o1
  clear hH hall hks
  show wpList _ _ _ _ _ _
  simp only [deco, ptrV]
  refine wpList_store_rowTo rfl 54 _ _ rfl rfl k1 #[.int .i64 0, .slice Z0 Zpp.length Zc0, .slice Z1 Ztl.length Zc1, .slice Z2 Ztd.length Zc2] rfl rfl 54 _ o1 (by kernel_rfl) (by kernel_rfl) (by kernel_rfl) ?_
  have bZ := setRow_heap V9_1 k1 _ #[.int .i64 0, .slice Z0 Zpp.length Zc0, .slice Z1 Ztl.length Zc1, .slice Z2 Ztd.length Zc2] _ _ o1
  have HS := below_setRow (Below.refl k1 V9_1) (Nat.le_refl _) #[.int .i64 0, .slice Z0 Zpp.length Zc0, .slice Z1 Ztl.length Zc1, .slice Z2 Ztd.length Zc2]
  replace bk := (setRow_other _ _ _ #[.int .i64 0, .slice Z0 Zpp.length Zc0, .slice Z1 Ztl.length Zc1, .slice Z2 Ztd.length Zc2] (show _ ≠ k1 by omega)).trans bk
  replace bX := (setRow_other _ _ _ #[.int .i64 0, .slice Z0 Zpp.length Zc0, .slice Z1 Ztl.length Zc1, .slice Z2 Ztd.length Zc2] (show _ ≠ k1 by omega)).trans bX
  replace bY := (setRow_other _ _ _ #[.int .i64 0, .slice Z0 Zpp.length Zc0, .slice Z1 Ztl.length Zc1, .slice Z2 Ztd.length Zc2] (show _ ≠ k1 by omega)).trans bY
  replace hB := below_setRow hB (show w.heap.size ≤ k1 by omega) #[.int .i64 0, .slice Z0 Zpp.length Zc0, .slice Z1 Ztl.length Zc1, .slice Z2 Ztd.length Zc2]
  clear HS o1 ge1 lt1 szbk szbX szbY szB
  generalize V9_1.setRow k1 #[.int .i64 0, .slice Z0 Zpp.length Zc0, .slice Z1 Ztl.length Zc1, .slice Z2 Ztd.length Zc2] = w10 at bZ hB bk bX bY ⊢
  go_wp2_with fail
  refine (sanity_c _).mono ?_
  rintro e w11 ⟨rfl, hF⟩
  replace bk := (hF.block _ (size_of_block bk)).trans bk
  replace bX := (hF.block _ (size_of_block bX)).trans bX
  replace bY := (hF.block _ (size_of_block bY)).trans bY
  replace bZ := (hF.block _ (size_of_block bZ)).trans bZ
  replace hB := below_then hB hF
  clear hF
  go_wp2_with fail
  go_ret
  exact ⟨rfl, hB⟩
set_option maxRecDepth 100000 in
set_option maxHeartbeats 8000000 in
theorem STriang_can (k : Kl) (A1 A2 A3 : Option Addr) (c1 c2 c3 : Nat) (a b c : Nat) (w : World) (hk : Kiln w (.agg #[.int .i64 k.room, .int .i64 k.per, .slice A1 k.ls.length c1, .slice A2 k.ds.length c2, .slice A3 k.ws.length c3]) k) (hf : fewB3 k.ls.length k.ds.length k.ws.length = true) (ha : a ≤ 255) (hb9 : b ≤ 255) (hc9 : c ≤ 255) (hc : checkI k = 0) (hcan : canB (tiesL k) = true) : Calls Tryz.prog 11 #[.agg #[.int .i64 k.room, .int .i64 k.per, .slice A1 k.ls.length c1, .slice A2 k.ds.length c2, .slice A3 k.ws.length c3], .int .u8 a, .int .u8 b, .int .u8 c] w fun e w' => e = .returned (.bool true) ∧ Below w.heap.size w w' := by
  obtain ⟨ha1, ha2, dz⟩ := mark_mod (k := k) a (by omega)
  obtain ⟨a', ha3⟩ : ∃ x, x = a % mN k := ⟨_, rfl⟩
  rw [← ha3] at ha1 ha2
  clear ha3
  obtain ⟨hb1, hb2, dz⟩ := mark_mod (k := k) b (by omega)
  obtain ⟨b', hb3⟩ : ∃ x, x = b % mN k := ⟨_, rfl⟩
  rw [← hb3] at hb1 hb2
  clear hb3
  obtain ⟨hc1, hc2, dz⟩ := mark_mod (k := k) c (by omega)
  obtain ⟨c', hc3⟩ : ∃ x, x = c % mN k := ⟨_, rfl⟩
  rw [← hc3] at hc1 hc2
  clear hc3
  have yX := fun W h => Above_f k (.agg #[.int .i64 k.room, .int .i64 k.per, .slice A1 k.ls.length c1, .slice A2 k.ds.length c2, .slice A3 k.ws.length c3]) a' b' W h
  rw [mostE_ok hc ha2 hb2, if_pos hcan] at yX
  have yY := fun W h => Above_f k (.agg #[.int .i64 k.room, .int .i64 k.per, .slice A1 k.ls.length c1, .slice A2 k.ds.length c2, .slice A3 k.ws.length c3]) b' c' W h
  rw [mostE_ok hc hb2 hc2, if_pos hcan] at yY
  have yZ := fun W h => Above_f k (.agg #[.int .i64 k.room, .int .i64 k.per, .slice A1 k.ls.length c1, .slice A2 k.ds.length c2, .slice A3 k.ws.length c3]) a' c' W h
  rw [mostE_ok hc ha2 hc2, if_pos hcan] at yZ
  have hca := canB_true.1 hcan
  have hR0 := right_of_check hc
  have hln := tiesL_len hR0.small
  have HTRI := Lib.hid (tri_ok hca ha2 hb2 hc2)
  have rX := dst_rng (net_ok hR0) hca (net_reaches k ha2.1 ha2.2 _ hb2.1 hb2.2) (net_reaches k hb2.1 hb2.2 _ ha2.1 ha2.2)
  obtain ⟨MX, hMX⟩ : ∃ m, m = dst (tiesL k) a' b' := ⟨_, rfl⟩
  rw [← hMX] at HTRI rX yX
  clear hMX
  have HX := Lib.hid yX
  clear yX
  have rY := dst_rng (net_ok hR0) hca (net_reaches k hb2.1 hb2.2 _ hc2.1 hc2.2) (net_reaches k hc2.1 hc2.2 _ hb2.1 hb2.2)
  obtain ⟨MY, hMY⟩ : ∃ m, m = dst (tiesL k) b' c' := ⟨_, rfl⟩
  rw [← hMY] at HTRI rY yY
  clear hMY
  have HY := Lib.hid yY
  clear yY
  have rZ := dst_rng (net_ok hR0) hca (net_reaches k ha2.1 ha2.2 _ hc2.1 hc2.2) (net_reaches k hc2.1 hc2.2 _ ha2.1 ha2.2)
  obtain ⟨MZ, hMZ⟩ : ∃ m, m = dst (tiesL k) a' c' := ⟨_, rfl⟩
  rw [← hMZ] at HTRI rZ yZ
  clear hMZ
  have HZ := Lib.hid yZ
  clear yZ
  have htri : MZ ≤ MX + MY := HTRI.out
  clear HTRI
  have HTY := Lib.hid (fun W h => Ties_d k (.agg #[.int .i64 k.room, .int .i64 k.per, .slice A1 k.ls.length c1, .slice A2 k.ds.length c2, .slice A3 k.ws.length c3]) W h)
  have HTE := Lib.hid (show tiesE k = tiesL k from if_pos hc)
  have HTA := Lib.hid (fun (t : Tie) (ht : t ∈ tiesL k) W h => Above_f k (.agg #[.int .i64 k.room, .int .i64 k.per, .slice A1 k.ls.length c1, .slice A2 k.ds.length c2, .slice A3 k.ws.length c3]) t.frm t.too W h)
  have HTM := Lib.hid (fun (t : Tie) (ht : t ∈ tiesL k) => (show mostE k t.frm t.too = (dst (tiesL k) t.frm t.too, 0) by have hr := (net_ok hR0).rng t ht; rw [mostE_ok hc ⟨hr.1, hr.2.1⟩ ⟨hr.2.2.1, hr.2.2.2.1⟩, if_pos hcan]))
  have HTL := Lib.hid (fun (t : Tie) (ht : t ∈ tiesL k) => tie_ok hca ht)
  have HC0 := Lib.hid hc
  clear hR0 hca hcan
  have HK := Lib.hid hk
  clear hk
  go_enter Tryz.func11, Tryz.ntmps11
  have bk := heap_alloc_new w (.cells #[.int .i64 k.room, .int .i64 k.per, .slice A1 k.ls.length c1, .slice A2 k.ds.length c2, .slice A3 k.ws.length c3] 26)
  have HB := below_alloc w (.cells #[.int .i64 k.room, .int .i64 k.per, .slice A1 k.ls.length c1, .slice A2 k.ds.length c2, .slice A3 k.ws.length c3] 26)
  have cbk0 := Joins.cell_of_block bk 0
  have cbk1 := Joins.cell_of_block bk 1
  have cbk2 := Joins.cell_of_block bk 2
  have cbk3 := Joins.cell_of_block bk 3
  have cbk4 := Joins.cell_of_block bk 4
  have zbk := size_of_block bk
  go_wp2_with fail
  generalize (w.alloc (.cells #[.int .i64 k.room, .int .i64 k.per, .slice A1 k.ls.length c1, .slice A2 k.ds.length c2, .slice A3 k.ws.length c3] 26)) = w1 at bk HB cbk0 cbk1 cbk2 cbk3 cbk4 zbk ⊢
  have hB := HB
  clear HB
  refine (lfew_c k.room k.per A1 A2 A3 k.ls.length c1 k.ds.length c2 k.ws.length c3 _).mono ?_
  rintro e w2 ⟨rfl, hF⟩
  clear cbk0 cbk1 cbk2 cbk3 cbk4 zbk
  replace bk := (hF.block _ (size_of_block bk)).trans bk
  replace hB := below_then hB hF
  clear hF
  rw [hf]
  have cbk0 := Joins.cell_of_block bk 0
  have cbk1 := Joins.cell_of_block bk 1
  have cbk2 := Joins.cell_of_block bk 2
  have cbk3 := Joins.cell_of_block bk 3
  have cbk4 := Joins.cell_of_block bk 4
  have zbk := size_of_block bk
  go_wp2_with fail
  refine (check_c k _ w2 (HK.out.later hB)).mono ?_
  rintro e w3 ⟨rfl, hF⟩
  clear cbk0 cbk1 cbk2 cbk3 cbk4 zbk
  replace bk := (hF.block _ (size_of_block bk)).trans bk
  replace hB := below_then hB hF
  clear hF
  have HR := Lib.hid (right_of_check hc)
  rw [hc]
  have d0 : ((0 : Int) != 0) = false := rfl
  have cbk0 := Joins.cell_of_block bk 0
  have cbk1 := Joins.cell_of_block bk 1
  have cbk2 := Joins.cell_of_block bk 2
  have cbk3 := Joins.cell_of_block bk 3
  have cbk4 := Joins.cell_of_block bk 4
  have zbk := size_of_block bk
  go_wp2_with fail
  refine (lmarks_c k A1 A2 A3 c1 c2 c3 _ HR.out).mono ?_
  rintro e w4 ⟨rfl, hF⟩
  clear cbk0 cbk1 cbk2 cbk3 cbk4 zbk
  replace bk := (hF.block _ (size_of_block bk)).trans bk
  replace hB := below_then hB hF
  clear hF
  go_wp2_with fail
  have szbk := size_of_block bk
  have szB := hB.size
  refine wp_region_looseM [1, 3, 5, 7] [0, 2, 4, 6, 8] (.one 9 .done) [13] [10, 11, 12] [14, 15] [some 10] [.cells #[.int .i64 0, .slice none 0 0, .slice none 0 0, .slice none 0 0] 54] (by kernel_rfl) (by kernel_rfl) (by intro c a d v w h; cases d <;> exact h) (by intro c a d v w h; cases d <;> exact h) rfl (by intro r i hri; match r, hri with | 0, hri => cases hri; exact ⟨_, _, rfl, rfl, rfl, rfl, fun a u => by simp [execOp, go_sem, ptrV]⟩) ?_
  simp only [pick, List.filterMap_cons, List.filterMap_nil, List.getElem?_toArray, List.getElem?_cons_succ, List.getElem?_cons_zero]
  refine wpPure_step (.int .u8 a) rfl (fun u => by first | rfl | kernel_rfl | simp [execOp, go_sem]) ?_
  refine wpPure_step (.int .i64 (marksN k)) rfl (fun u => by first | rfl | kernel_rfl | simp [execOp, go_sem]) ?_
  refine wpPure_step (.int .u8 b) rfl (fun u => by first | rfl | kernel_rfl | simp [execOp, go_sem]) ?_
  refine wpPure_step (.int .i64 (marksN k)) rfl (fun u => by first | rfl | kernel_rfl | simp [execOp, go_sem]) ?_
  intro u5 hu5
  replace bk := (hu5.block _ (size_of_block bk)).trans bk
  replace hB := below_then hB hu5
  have cbk0 := Joins.cell_of_block bk 0
  have cbk1 := Joins.cell_of_block bk 1
  have cbk2 := Joins.cell_of_block bk 2
  have cbk3 := Joins.cell_of_block bk 3
  have cbk4 := Joins.cell_of_block bk 4
  have zbk := size_of_block bk
  have hcg : ∀ (g : Gr u5) b o, b < u5.heap.size → g.val.cell? ⟨b, o, none⟩ = u5.cell? ⟨b, o, none⟩ := fun g b o h => (bcell g.b).1 b o h
  iterate 5 (first | (refine wpRel_step (fun K hK => ?_); go_simp; refine hK _ ?_; clear hK K))
  refine wpRel_nil fun V5_0 hb5 => ?_
  clear hcg cbk0 cbk1 cbk2 cbk3 cbk4 zbk
  replace bk := (hb5.block _ (size_of_block bk)).trans bk
  replace hB := below_then hB hb5
  clear hb5 hu5
  refine wpTr_step rfl rfl fun K hK => ?_
  go_simp
  refine (HX.out V5_0 (HK.out.later hB)).mono ?_
  rintro e X ⟨X0, Xc0, X1, Xc1, X2, Xc2, Xpp, Xtl, Xtd, rfl, _, hx⟩
  refine hK _ _ hx fun V5_1 hu => ?_
  clear hK K
  have hxu := below_then hx hu
  replace bk := (hxu.block _ (size_of_block bk)).trans bk
  replace hB := below_then hB hxu
  clear hx hu hxu
  show wpPure _ _ _ _
  refine wpPure_step (.tuple #[.agg #[.int .i64 MX, .slice X0 Xpp.length Xc0, .slice X1 Xtl.length Xc1, .slice X2 Xtd.length Xc2], .int .i64 0]) rfl (fun u => by first | rfl | simp [execOp, go_sem]) ?_
  refine wpPure_step (.agg #[.int .i64 MX, .slice X0 Xpp.length Xc0, .slice X1 Xtl.length Xc1, .slice X2 Xtd.length Xc2]) rfl (fun u => by first | rfl | simp [execOp, go_sem]) ?_
  refine wpPure_step (.int .i64 0) rfl (fun u => by first | rfl | simp [execOp, go_sem]) ?_
  intro ks hks hall hH
  obtain ⟨k1, rfl⟩ : ∃ k1, ks = [some k1] := by
    match ks, hks with
    | [none], _ => exact absurd rfl (hall 0)
    | [some k1], _ => exact ⟨k1, rfl⟩
  obtain ⟨o1, ge1, lt1⟩ := hH.obj 0 k1 rfl
  rw [show ([Obj.cells #[.int .i64 0, .slice none 0 0, .slice none 0 0, .slice none 0 0] 54])[0]? = some (.cells #[.int .i64 0, .slice none 0 0, .slice none 0 0, .slice none 0 0] 54) from rfl] at o1
  clear hH hall hks
  show wpList _ _ _ _ _ _
  simp only [deco, ptrV]
  refine wpList_store_rowTo rfl 54 _ _ rfl rfl k1 #[.int .i64 MX, .slice X0 Xpp.length Xc0, .slice X1 Xtl.length Xc1, .slice X2 Xtd.length Xc2] rfl rfl 54 _ o1 (by kernel_rfl) (by kernel_rfl) (by kernel_rfl) ?_
  have bX := setRow_heap V5_1 k1 _ #[.int .i64 MX, .slice X0 Xpp.length Xc0, .slice X1 Xtl.length Xc1, .slice X2 Xtd.length Xc2] _ _ o1
  have HS := below_setRow (Below.refl k1 V5_1) (Nat.le_refl _) #[.int .i64 MX, .slice X0 Xpp.length Xc0, .slice X1 Xtl.length Xc1, .slice X2 Xtd.length Xc2]
  replace bk := (setRow_other _ _ _ #[.int .i64 MX, .slice X0 Xpp.length Xc0, .slice X1 Xtl.length Xc1, .slice X2 Xtd.length Xc2] (show _ ≠ k1 by omega)).trans bk
  replace hB := below_setRow hB (show w.heap.size ≤ k1 by omega) #[.int .i64 MX, .slice X0 Xpp.length Xc0, .slice X1 Xtl.length Xc1, .slice X2 Xtd.length Xc2]
  clear HS o1 ge1 lt1 szbk szB
  generalize V5_1.setRow k1 #[.int .i64 MX, .slice X0 Xpp.length Xc0, .slice X1 Xtl.length Xc1, .slice X2 Xtd.length Xc2] = w6 at bX hB bk ⊢
  go_wp2_with fail
  have szbk := size_of_block bk
  have szbX := size_of_block bX
  have szB := hB.size
  refine wp_region_looseM [1, 3, 5, 7] [0, 2, 4, 6, 8] (.one 9 .done) [13] [10, 11, 12] [14, 15] [some 12] [.cells #[.int .i64 0, .slice none 0 0, .slice none 0 0, .slice none 0 0] 54] (by kernel_rfl) (by kernel_rfl) (by intro c a d v w h; cases d <;> exact h) (by intro c a d v w h; cases d <;> exact h) rfl (by intro r i hri; match r, hri with | 0, hri => cases hri; exact ⟨_, _, rfl, rfl, rfl, rfl, fun a u => by simp [execOp, go_sem, ptrV]⟩) ?_
  simp only [pick, List.filterMap_cons, List.filterMap_nil, List.getElem?_toArray, List.getElem?_cons_succ, List.getElem?_cons_zero]
  refine wpPure_step (.int .u8 b) rfl (fun u => by first | rfl | kernel_rfl | simp [execOp, go_sem]) ?_
  refine wpPure_step (.int .i64 (marksN k)) rfl (fun u => by first | rfl | kernel_rfl | simp [execOp, go_sem]) ?_
  refine wpPure_step (.int .u8 c) rfl (fun u => by first | rfl | kernel_rfl | simp [execOp, go_sem]) ?_
  refine wpPure_step (.int .i64 (marksN k)) rfl (fun u => by first | rfl | kernel_rfl | simp [execOp, go_sem]) ?_
  intro u7 hu7
  replace bk := (hu7.block _ (size_of_block bk)).trans bk
  replace bX := (hu7.block _ (size_of_block bX)).trans bX
  replace hB := below_then hB hu7
  have cbk0 := Joins.cell_of_block bk 0
  have cbk1 := Joins.cell_of_block bk 1
  have cbk2 := Joins.cell_of_block bk 2
  have cbk3 := Joins.cell_of_block bk 3
  have cbk4 := Joins.cell_of_block bk 4
  have zbk := size_of_block bk
  have hcg : ∀ (g : Gr u7) b o, b < u7.heap.size → g.val.cell? ⟨b, o, none⟩ = u7.cell? ⟨b, o, none⟩ := fun g b o h => (bcell g.b).1 b o h
  iterate 5 (first | (refine wpRel_step (fun K hK => ?_); go_simp; refine hK _ ?_; clear hK K))
  refine wpRel_nil fun V7_0 hb7 => ?_
  clear hcg cbk0 cbk1 cbk2 cbk3 cbk4 zbk
  replace bk := (hb7.block _ (size_of_block bk)).trans bk
  replace bX := (hb7.block _ (size_of_block bX)).trans bX
  replace hB := below_then hB hb7
  clear hb7 hu7
  refine wpTr_step rfl rfl fun K hK => ?_
  go_simp
  refine (HY.out V7_0 (HK.out.later hB)).mono ?_
  rintro e X ⟨Y0, Yc0, Y1, Yc1, Y2, Yc2, Ypp, Ytl, Ytd, rfl, _, hx⟩
  refine hK _ _ hx fun V7_1 hu => ?_
  clear hK K
  have hxu := below_then hx hu
  replace bk := (hxu.block _ (size_of_block bk)).trans bk
  replace bX := (hxu.block _ (size_of_block bX)).trans bX
  replace hB := below_then hB hxu
  clear hx hu hxu
  show wpPure _ _ _ _
  refine wpPure_step (.tuple #[.agg #[.int .i64 MY, .slice Y0 Ypp.length Yc0, .slice Y1 Ytl.length Yc1, .slice Y2 Ytd.length Yc2], .int .i64 0]) rfl (fun u => by first | rfl | simp [execOp, go_sem]) ?_
  refine wpPure_step (.agg #[.int .i64 MY, .slice Y0 Ypp.length Yc0, .slice Y1 Ytl.length Yc1, .slice Y2 Ytd.length Yc2]) rfl (fun u => by first | rfl | simp [execOp, go_sem]) ?_
  refine wpPure_step (.int .i64 0) rfl (fun u => by first | rfl | simp [execOp, go_sem]) ?_
  intro ks hks hall hH
  obtain ⟨k1, rfl⟩ : ∃ k1, ks = [some k1] := by
    match ks, hks with
    | [none], _ => exact absurd rfl (hall 0)
    | [some k1], _ => exact ⟨k1, rfl⟩
  obtain ⟨o1, ge1, lt1⟩ := hH.obj 0 k1 rfl
  rw [show ([Obj.cells #[.int .i64 0, .slice none 0 0, .slice none 0 0, .slice none 0 0] 54])[0]? = some (.cells #[.int .i64 0, .slice none 0 0, .slice none 0 0, .slice none 0 0] 54) from rfl] at o1
  clear hH hall hks
  show wpList _ _ _ _ _ _
  simp only [deco, ptrV]
  refine wpList_store_rowTo rfl 54 _ _ rfl rfl k1 #[.int .i64 MY, .slice Y0 Ypp.length Yc0, .slice Y1 Ytl.length Yc1, .slice Y2 Ytd.length Yc2] rfl rfl 54 _ o1 (by kernel_rfl) (by kernel_rfl) (by kernel_rfl) ?_
  have bY := setRow_heap V7_1 k1 _ #[.int .i64 MY, .slice Y0 Ypp.length Yc0, .slice Y1 Ytl.length Yc1, .slice Y2 Ytd.length Yc2] _ _ o1
  have HS := below_setRow (Below.refl k1 V7_1) (Nat.le_refl _) #[.int .i64 MY, .slice Y0 Ypp.length Yc0, .slice Y1 Ytl.length Yc1, .slice Y2 Ytd.length Yc2]
  replace bk := (setRow_other _ _ _ #[.int .i64 MY, .slice Y0 Ypp.length Yc0, .slice Y1 Ytl.length Yc1, .slice Y2 Ytd.length Yc2] (show _ ≠ k1 by omega)).trans bk
  replace bX := (setRow_other _ _ _ #[.int .i64 MY, .slice Y0 Ypp.length Yc0, .slice Y1 Ytl.length Yc1, .slice Y2 Ytd.length Yc2] (show _ ≠ k1 by omega)).trans bX
  replace hB := below_setRow hB (show w.heap.size ≤ k1 by omega) #[.int .i64 MY, .slice Y0 Ypp.length Yc0, .slice Y1 Ytl.length Yc1, .slice Y2 Ytd.length Yc2]
  clear HS o1 ge1 lt1 szbk szbX szB
  generalize V7_1.setRow k1 #[.int .i64 MY, .slice Y0 Ypp.length Yc0, .slice Y1 Ytl.length Yc1, .slice Y2 Ytd.length Yc2] = w8 at bY hB bk bX ⊢
  go_wp2_with fail
  have szbk := size_of_block bk
  have szbX := size_of_block bX
  have szbY := size_of_block bY
  have szB := hB.size
  refine wp_region_looseM [1, 3, 5, 7] [0, 2, 4, 6, 8] (.one 9 .done) [13] [10, 11, 12] [14, 15] [some 14] [.cells #[.int .i64 0, .slice none 0 0, .slice none 0 0, .slice none 0 0] 54] (by kernel_rfl) (by kernel_rfl) (by intro c a d v w h; cases d <;> exact h) (by intro c a d v w h; cases d <;> exact h) rfl (by intro r i hri; match r, hri with | 0, hri => cases hri; exact ⟨_, _, rfl, rfl, rfl, rfl, fun a u => by simp [execOp, go_sem, ptrV]⟩) ?_
  simp only [pick, List.filterMap_cons, List.filterMap_nil, List.getElem?_toArray, List.getElem?_cons_succ, List.getElem?_cons_zero]
  refine wpPure_step (.int .u8 a) rfl (fun u => by first | rfl | kernel_rfl | simp [execOp, go_sem]) ?_
  refine wpPure_step (.int .i64 (marksN k)) rfl (fun u => by first | rfl | kernel_rfl | simp [execOp, go_sem]) ?_
  refine wpPure_step (.int .u8 c) rfl (fun u => by first | rfl | kernel_rfl | simp [execOp, go_sem]) ?_
  refine wpPure_step (.int .i64 (marksN k)) rfl (fun u => by first | rfl | kernel_rfl | simp [execOp, go_sem]) ?_
  intro u9 hu9
  replace bk := (hu9.block _ (size_of_block bk)).trans bk
  replace bX := (hu9.block _ (size_of_block bX)).trans bX
  replace bY := (hu9.block _ (size_of_block bY)).trans bY
  replace hB := below_then hB hu9
  have cbk0 := Joins.cell_of_block bk 0
  have cbk1 := Joins.cell_of_block bk 1
  have cbk2 := Joins.cell_of_block bk 2
  have cbk3 := Joins.cell_of_block bk 3
  have cbk4 := Joins.cell_of_block bk 4
  have zbk := size_of_block bk
  have hcg : ∀ (g : Gr u9) b o, b < u9.heap.size → g.val.cell? ⟨b, o, none⟩ = u9.cell? ⟨b, o, none⟩ := fun g b o h => (bcell g.b).1 b o h
  iterate 5 (first | (refine wpRel_step (fun K hK => ?_); go_simp; refine hK _ ?_; clear hK K))
  refine wpRel_nil fun V9_0 hb9 => ?_
  clear hcg cbk0 cbk1 cbk2 cbk3 cbk4 zbk
  replace bk := (hb9.block _ (size_of_block bk)).trans bk
  replace bX := (hb9.block _ (size_of_block bX)).trans bX
  replace bY := (hb9.block _ (size_of_block bY)).trans bY
  replace hB := below_then hB hb9
  clear hb9 hu9
  refine wpTr_step rfl rfl fun K hK => ?_
  go_simp
  refine (HZ.out V9_0 (HK.out.later hB)).mono ?_
  rintro e X ⟨Z0, Zc0, Z1, Zc1, Z2, Zc2, Zpp, Ztl, Ztd, rfl, _, hx⟩
  refine hK _ _ hx fun V9_1 hu => ?_
  clear hK K
  have hxu := below_then hx hu
  replace bk := (hxu.block _ (size_of_block bk)).trans bk
  replace bX := (hxu.block _ (size_of_block bX)).trans bX
  replace bY := (hxu.block _ (size_of_block bY)).trans bY
  replace hB := below_then hB hxu
  clear hx hu hxu
  show wpPure _ _ _ _
  refine wpPure_step (.tuple #[.agg #[.int .i64 MZ, .slice Z0 Zpp.length Zc0, .slice Z1 Ztl.length Zc1, .slice Z2 Ztd.length Zc2], .int .i64 0]) rfl (fun u => by first | rfl | simp [execOp, go_sem]) ?_
  refine wpPure_step (.agg #[.int .i64 MZ, .slice Z0 Zpp.length Zc0, .slice Z1 Ztl.length Zc1, .slice Z2 Ztd.length Zc2]) rfl (fun u => by first | rfl | simp [execOp, go_sem]) ?_
  refine wpPure_step (.int .i64 0) rfl (fun u => by first | rfl | simp [execOp, go_sem]) ?_
  intro ks hks hall hH
  obtain ⟨k1, rfl⟩ : ∃ k1, ks = [some k1] := by
    match ks, hks with
    | [none], _ => exact absurd rfl (hall 0)
    | [some k1], _ => exact ⟨k1, rfl⟩
  obtain ⟨o1, ge1, lt1⟩ := hH.obj 0 k1 rfl
  rw [show ([Obj.cells #[.int .i64 0, .slice none 0 0, .slice none 0 0, .slice none 0 0] 54])[0]? = some (.cells #[.int .i64 0, .slice none 0 0, .slice none 0 0, .slice none 0 0] 54) from rfl] at o1
  clear hH hall hks
  show wpList _ _ _ _ _ _
  simp only [deco, ptrV]
  refine wpList_store_rowTo rfl 54 _ _ rfl rfl k1 #[.int .i64 MZ, .slice Z0 Zpp.length Zc0, .slice Z1 Ztl.length Zc1, .slice Z2 Ztd.length Zc2] rfl rfl 54 _ o1 (by kernel_rfl) (by kernel_rfl) (by kernel_rfl) ?_
  have bZ := setRow_heap V9_1 k1 _ #[.int .i64 MZ, .slice Z0 Zpp.length Zc0, .slice Z1 Ztl.length Zc1, .slice Z2 Ztd.length Zc2] _ _ o1
  have HS := below_setRow (Below.refl k1 V9_1) (Nat.le_refl _) #[.int .i64 MZ, .slice Z0 Zpp.length Zc0, .slice Z1 Ztl.length Zc1, .slice Z2 Ztd.length Zc2]
  replace bk := (setRow_other _ _ _ #[.int .i64 MZ, .slice Z0 Zpp.length Zc0, .slice Z1 Ztl.length Zc1, .slice Z2 Ztd.length Zc2] (show _ ≠ k1 by omega)).trans bk
  replace bX := (setRow_other _ _ _ #[.int .i64 MZ, .slice Z0 Zpp.length Zc0, .slice Z1 Ztl.length Zc1, .slice Z2 Ztd.length Zc2] (show _ ≠ k1 by omega)).trans bX
  replace bY := (setRow_other _ _ _ #[.int .i64 MZ, .slice Z0 Zpp.length Zc0, .slice Z1 Ztl.length Zc1, .slice Z2 Ztd.length Zc2] (show _ ≠ k1 by omega)).trans bY
  replace hB := below_setRow hB (show w.heap.size ≤ k1 by omega) #[.int .i64 MZ, .slice Z0 Zpp.length Zc0, .slice Z1 Ztl.length Zc1, .slice Z2 Ztd.length Zc2]
  clear HS o1 ge1 lt1 szbk szbX szbY szB
  generalize V9_1.setRow k1 #[.int .i64 MZ, .slice Z0 Zpp.length Zc0, .slice Z1 Ztl.length Zc1, .slice Z2 Ztd.length Zc2] = w10 at bZ hB bk bX bY ⊢
  have cbk0 := Joins.cell_of_block bk 0
  have cbk1 := Joins.cell_of_block bk 1
  have cbk2 := Joins.cell_of_block bk 2
  have cbk3 := Joins.cell_of_block bk 3
  have cbk4 := Joins.cell_of_block bk 4
  have zbk := size_of_block bk
  go_wp2_with fail
  refine (HTY.out w10 (HK.out.later hB)).mono ?_
  rintro e w11 ⟨uT, rfl, hT, hF⟩
  clear cbk0 cbk1 cbk2 cbk3 cbk4 zbk
  replace bk := (hF.block _ (size_of_block bk)).trans bk
  replace bX := (hF.block _ (size_of_block bX)).trans bX
  replace bY := (hF.block _ (size_of_block bY)).trans bY
  replace bZ := (hF.block _ (size_of_block bZ)).trans bZ
  replace hB := below_then hB hF
  clear hF
  rw [HTE.out] at hT
  rw [HC0.out]
  obtain ⟨AT, cT, rfl⟩ := own_form hT
  have hTT := Sl.of_own tC_len hT (by omega)
  obtain ⟨AT', cT', hAT, _, _, hat⟩ := TiesAt.open_ hTT
  obtain ⟨rfl, rfl⟩ : AT = AT' ∧ cT = cT' := by simpa using hAT
  have HAT := Lib.hid hat
  clear hTT hAT hat
  clear hT
  go_wp2_with fail
  have BK' := Lib.hid bk
  have BX' := Lib.hid bX
  have BY' := Lib.hid bY
  have BZ' := Lib.hid bZ
  have HB0 := Lib.hid hB
  clear bk bX bY bZ hB
  go_loopw [92] (fun n wr => ∃ j : Nat, j ≤ (tiesL k).length ∧ n = .int .i64 j ∧ Below w11.heap.size w11 wr) (fun n _ => (tiesL k).length - (intOf n).toNat)
  case atStart => exact ⟨0, Nat.zero_le _, rfl, Below.refl _ _⟩
  case round =>
    obtain ⟨j, hj, rfl, hbw⟩ := hrel
    have hB := below_then HB0.out hbw
    have bk := (hbw.block _ (size_of_block BK'.out)).trans BK'.out
    have bX := (hbw.block _ (size_of_block BX'.out)).trans BX'.out
    have bY := (hbw.block _ (size_of_block BY'.out)).trans BY'.out
    have bZ := (hbw.block _ (size_of_block BZ'.out)).trans BZ'.out
    by_cases hlt : j < (tiesL k).length
    · obtain ⟨b9, off9, t9, rfl, hb9', hx9, c0, c1', c2', c3'⟩ := HAT.out j hlt
      have hxm := List.mem_of_getElem? hx9
      have HA9 := HTA.out t9 hxm
      rw [HTM.out t9 hxm] at HA9
      have hle := HTL.out t9 hxm
      obtain ⟨D, hD⟩ : ∃ d, d = dst (tiesL k) t9.frm t9.too := ⟨_, rfl⟩
      rw [← hD] at HA9 hle
      have HA8 := Lib.hid HA9
      clear hD HA9 hxm hx9
      replace c0 := (hbw.cell (p := ⟨b9, off9 + j * 4, none⟩) hb9').trans c0
      replace c1' := (hbw.cell (p := ⟨b9, off9 + j * 4 + 1, none⟩) hb9').trans c1'
      replace c2' := (hbw.cell (p := ⟨b9, off9 + j * 4 + 2, none⟩) hb9').trans c2'
      replace c3' := (hbw.cell (p := ⟨b9, off9 + j * 4 + 3, none⟩) hb9').trans c3'
      have hBr := Below.refl wr.heap.size wr
      have bt := heap_alloc_new wr (.cells #[.int .i64 t9.frm, .int .i64 t9.too, .int .i64 t9.most, .int .i64 t9.id] 99)
      have HB := below_alloc wr (.cells #[.int .i64 t9.frm, .int .i64 t9.too, .int .i64 t9.most, .int .i64 t9.id] 99)
      have cbk0 := Joins.cell_of_block ((HB.block _ (size_of_block bk)).trans bk) 0
      have cbk1 := Joins.cell_of_block ((HB.block _ (size_of_block bk)).trans bk) 1
      have cbk2 := Joins.cell_of_block ((HB.block _ (size_of_block bk)).trans bk) 2
      have cbk3 := Joins.cell_of_block ((HB.block _ (size_of_block bk)).trans bk) 3
      have cbk4 := Joins.cell_of_block ((HB.block _ (size_of_block bk)).trans bk) 4
      have zbk := size_of_block ((HB.block _ (size_of_block bk)).trans bk)
      have cbt0 := Joins.cell_of_block bt 0
      have cbt1 := Joins.cell_of_block bt 1
      have cbt2 := Joins.cell_of_block bt 2
      have cbt3 := Joins.cell_of_block bt 3
      have zbt := size_of_block bt
      go_wp2_with fail
      generalize (wr.alloc (.cells #[.int .i64 t9.frm, .int .i64 t9.too, .int .i64 t9.most, .int .i64 t9.id] 99)) = w101 at bt HB cbk0 cbk1 cbk2 cbk3 cbk4 zbk cbt0 cbt1 cbt2 cbt3 zbt ⊢
      replace bk := (HB.block _ (size_of_block bk)).trans bk
      replace bX := (HB.block _ (size_of_block bX)).trans bX
      replace bY := (HB.block _ (size_of_block bY)).trans bY
      replace bZ := (HB.block _ (size_of_block bZ)).trans bZ
      replace hBr := below_then hBr HB
      replace hB := below_then hB HB
      clear HB
      refine (HA8.out w101 (HK.out.later hB)).mono ?_
      rintro e w102 ⟨N0, Nc0, N1, Nc1, N2, Nc2, Npp, Ntl, Ntd, rfl, _, hF⟩
      clear cbk0 cbk1 cbk2 cbk3 cbk4 zbk cbt0 cbt1 cbt2 cbt3 zbt
      replace bk := (hF.block _ (size_of_block bk)).trans bk
      replace bX := (hF.block _ (size_of_block bX)).trans bX
      replace bY := (hF.block _ (size_of_block bY)).trans bY
      replace bZ := (hF.block _ (size_of_block bZ)).trans bZ
      replace bt := (hF.block _ (size_of_block bt)).trans bt
      replace hBr := below_then hBr hF
      replace hB := below_then hB hF
      clear hF
      have bn := heap_alloc_new w102 (.cells #[.int .i64 D, .slice N0 Npp.length Nc0, .slice N1 Ntl.length Nc1, .slice N2 Ntd.length Nc2] 54)
      have HB := below_alloc w102 (.cells #[.int .i64 D, .slice N0 Npp.length Nc0, .slice N1 Ntl.length Nc1, .slice N2 Ntd.length Nc2] 54)
      have cbt0 := Joins.cell_of_block ((HB.block _ (size_of_block bt)).trans bt) 0
      have cbt1 := Joins.cell_of_block ((HB.block _ (size_of_block bt)).trans bt) 1
      have cbt2 := Joins.cell_of_block ((HB.block _ (size_of_block bt)).trans bt) 2
      have cbt3 := Joins.cell_of_block ((HB.block _ (size_of_block bt)).trans bt) 3
      have zbt := size_of_block ((HB.block _ (size_of_block bt)).trans bt)
      have cbn0 := Joins.cell_of_block bn 0
      have zbn := size_of_block bn
      go_wp2_with fail
      generalize (w102.alloc (.cells #[.int .i64 D, .slice N0 Npp.length Nc0, .slice N1 Ntl.length Nc1, .slice N2 Ntd.length Nc2] 54)) = w103 at bn HB cbt0 cbt1 cbt2 cbt3 zbt cbn0 zbn ⊢
      replace bk := (HB.block _ (size_of_block bk)).trans bk
      replace bX := (HB.block _ (size_of_block bX)).trans bX
      replace bY := (HB.block _ (size_of_block bY)).trans bY
      replace bZ := (HB.block _ (size_of_block bZ)).trans bZ
      replace bt := (HB.block _ (size_of_block bt)).trans bt
      replace hBr := below_then hBr HB
      replace hB := below_then hB HB
      clear HB
      all_goals (try (exfalso; omega))
      go_roundw
      case rel => exact ⟨j + 1, by omega, by go_num, below_then hbw hBr⟩
      case measure => simp [intOf]; omega
    · obtain rfl : j = (tiesL k).length := by omega
      go_wp2_with fail
      refine (sanity_c _).mono ?_
      rintro e w101 ⟨rfl, hF⟩
      replace bk := (hF.block _ (size_of_block bk)).trans bk
      replace bX := (hF.block _ (size_of_block bX)).trans bX
      replace bY := (hF.block _ (size_of_block bY)).trans bY
      replace bZ := (hF.block _ (size_of_block bZ)).trans bZ
      replace hB := below_then hB hF
      clear hF
      have cbX0 := Joins.cell_of_block bX 0
      have zbX := size_of_block bX
      have cbY0 := Joins.cell_of_block bY 0
      have zbY := size_of_block bY
      have cbZ0 := Joins.cell_of_block bZ 0
      have zbZ := size_of_block bZ
      go_wp2_with fail
      all_goals (try (exfalso; omega))
      go_ret
      exact ⟨rfl, hB⟩
theorem ShaftTriangles_w (rm pr : Int) (A1 : Option Addr) (n1 c1 : Nat) (A2 : Option Addr) (n2 c2 : Nat) (A3 : Option Addr) (n3 c3 : Nat) (a b c : Nat) (w : World)
    (hk : (∃ k : Kl, k.room = rm ∧ k.per = pr ∧ k.ls.length = n1 ∧ k.ds.length = n2 ∧ k.ws.length = n3 ∧ Kiln w (.agg #[.int .i64 rm, .int .i64 pr, .slice A1 n1 c1, .slice A2 n2 c2, .slice A3 n3 c3]) k) ∨ 140737488355328 < n1 ∨ 140737488355328 < n2 ∨ 140737488355328 < n3) (ha : a ≤ 255) (hb : b ≤ 255) (hc : c ≤ 255) :
    Calls Tryz.prog 11 #[.agg #[.int .i64 rm, .int .i64 pr, .slice A1 n1 c1, .slice A2 n2 c2, .slice A3 n3 c3], .int .u8 a, .int .u8 b, .int .u8 c] w fun e w' => e = .returned (.bool true) ∧ Below w.heap.size w w' := by
  rcases kiln_arg hk with h | ⟨hf, k, rfl, rfl, rfl, rfl, rfl, hk⟩
  · exact STriang_no rm pr A1 n1 c1 A2 n2 c2 A3 n3 c3 a b c w h
  · by_cases h0 : checkI k = 0
    · by_cases hcan : canB (tiesL k) = true
      · exact STriang_can k A1 A2 A3 c1 c2 c3 a b c w hk hf ha hb hc h0 hcan
      · exact STriang_cant k A1 A2 A3 c1 c2 c3 a b c w hk hf ha hb hc h0 hcan
    · exact STriang_bad k A1 A2 A3 c1 c2 c3 a b c w hk hf h0
end Go.Proofs.YtpgepfbdjefmdaaGreat
