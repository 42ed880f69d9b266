/- ShaftEnds: the walk (written by tools/gensendsl.py). -/
import Derived.Test.YtpgepfbdjefmdaaGreatJ27
import Derived.Test.YtpgepfbdjefmdaaGreatZSRefH
namespace Go.Proofs.YtpgepfbdjefmdaaGreat
open Go Go.RowKit Go.Shelf
attribute [local go_sem] Oper.semAt_some Rel RelAt RelUpon

set_option maxRecDepth 100000 in
set_option maxHeartbeats 8000000 in
theorem SEnds_no (rm pr : Int) (A1 : Option Addr) (n1 c1 : Nat) (A2 : Option Addr) (n2 c2 : Nat) (A3 : Option Addr) (n3 c3 : Nat) (a b c : Int) (w : World) (h : fewB3 n1 n2 n3 = false) : Calls Tryz.prog 6 #[.agg #[.int .i64 rm, .int .i64 pr, .slice A1 n1 c1, .slice A2 n2 c2, .slice A3 n3 c3], .int .i64 a, .int .i64 b, .int .i64 c] w fun e w' => e = .returned (.bool true) ∧ Below w.heap.size w w' := by
  go_enter Tryz.func6, Tryz.ntmps6
  have bk := heap_alloc_new w (.cells #[.int .i64 rm, .int .i64 pr, .slice A1 n1 c1, .slice A2 n2 c2, .slice A3 n3 c3] 26)
  have HB := below_alloc w (.cells #[.int .i64 rm, .int .i64 pr, .slice A1 n1 c1, .slice A2 n2 c2, .slice A3 n3 c3] 26)
  have cbk0 := Joins.cell_of_block bk 0
  have cbk1 := Joins.cell_of_block bk 1
  have cbk2 := Joins.cell_of_block bk 2
  have cbk3 := Joins.cell_of_block bk 3
  have cbk4 := Joins.cell_of_block bk 4
  have zbk := size_of_block bk
  go_wp2_with fail
  generalize (w.alloc (.cells #[.int .i64 rm, .int .i64 pr, .slice A1 n1 c1, .slice A2 n2 c2, .slice A3 n3 c3] 26)) = w1 at bk HB cbk0 cbk1 cbk2 cbk3 cbk4 zbk ⊢
  have hB := HB
  clear HB
  refine (lfew_c rm pr A1 A2 A3 n1 c1 n2 c2 n3 c3 _).mono ?_
  rintro e w2 ⟨rfl, hF⟩
  clear cbk0 cbk1 cbk2 cbk3 cbk4 zbk
  replace bk := (hF.block _ (size_of_block bk)).trans bk
  replace hB := below_then hB hF
  clear hF
  rw [h]
  go_wp2_with fail
  refine (sanity_c _).mono ?_
  rintro e w3 ⟨rfl, hF⟩
  replace bk := (hF.block _ (size_of_block bk)).trans bk
  replace hB := below_then hB hF
  clear hF
  go_wp2_with fail
  go_ret
  exact ⟨rfl, hB⟩
set_option maxRecDepth 100000 in
set_option maxHeartbeats 8000000 in
theorem SEnds_few (k : Kl) (A1 A2 A3 : Option Addr) (c1 c2 c3 : Nat) (a b c : Int) (w : World) (hk : Kiln w (.agg #[.int .i64 k.room, .int .i64 k.per, .slice A1 k.ls.length c1, .slice A2 k.ds.length c2, .slice A3 k.ws.length c3]) k) (hf : fewB3 k.ls.length k.ds.length k.ws.length = true) : Calls Tryz.prog 6 #[.agg #[.int .i64 k.room, .int .i64 k.per, .slice A1 k.ls.length c1, .slice A2 k.ds.length c2, .slice A3 k.ws.length c3], .int .i64 a, .int .i64 b, .int .i64 c] w fun e w' => e = .returned (.bool true) ∧ Below w.heap.size w w' := by
  have y1 := fun v W h => Weight_c k v a W h
  have y2 := fun v W h => rWeight_c k v a W h
  obtain ⟨W1, h1⟩ : ∃ x, x = (weightE k a).1.1 := ⟨_, rfl⟩
  obtain ⟨W2, h2⟩ : ∃ x, x = (weightE k a).1.2 := ⟨_, rfl⟩
  obtain ⟨W3, h3⟩ : ∃ x, x = (weightE k a).2 := ⟨_, rfl⟩
  rw [← h1, ← h2, ← h3] at y1 y2
  have XW := Lib.hid y1
  have YW := Lib.hid y2
  clear y1 y2 h1 h2 h3
  have y1 := fun v W h => Run_c k v a b W h
  have y2 := fun v W h => rRun_c k v a b W h
  obtain ⟨R1, h1⟩ : ∃ x, x = (runE k a b).1.1 := ⟨_, rfl⟩
  obtain ⟨R2, h2⟩ : ∃ x, x = (runE k a b).1.2 := ⟨_, rfl⟩
  obtain ⟨R3, h3⟩ : ∃ x, x = (runE k a b).2 := ⟨_, rfl⟩
  rw [← h1, ← h2, ← h3] at y1 y2
  have XR := Lib.hid y1
  have YR := Lib.hid y2
  clear y1 y2 h1 h2 h3
  have y1 := fun v W h => Held_c k v c W h
  have y2 := fun v W h => rHeld_c k v c W h
  obtain ⟨H1, h1⟩ : ∃ x, x = (heldE k c).1.1 := ⟨_, rfl⟩
  obtain ⟨H2, h2⟩ : ∃ x, x = (heldE k c).1.2 := ⟨_, rfl⟩
  obtain ⟨H3, h3⟩ : ∃ x, x = (heldE k c).2 := ⟨_, rfl⟩
  rw [← h1, ← h2, ← h3] at y1 y2
  have XH := Lib.hid y1
  have YH := Lib.hid y2
  clear y1 y2 h1 h2 h3
  have y1 := fun v W h => Below_c k v a c W h
  have y2 := fun v W h => rBelow_c k v a c W h
  obtain ⟨B1, h1⟩ : ∃ x, x = (belowE k a c).1.1 := ⟨_, rfl⟩
  obtain ⟨B2, h2⟩ : ∃ x, x = (belowE k a c).1.2 := ⟨_, rfl⟩
  obtain ⟨B3, h3⟩ : ∃ x, x = (belowE k a c).2 := ⟨_, rfl⟩
  rw [← h1, ← h2, ← h3] at y1 y2
  have XB := Lib.hid y1
  have YB := Lib.hid y2
  clear y1 y2 h1 h2 h3
  have y1 := fun v W h => Feet_c k v a c W h
  have y2 := fun v W h => rFeet_c k v a c W h
  obtain ⟨F1, h1⟩ : ∃ x, x = (feetE k a c).1.1 := ⟨_, rfl⟩
  obtain ⟨F2, h2⟩ : ∃ x, x = (feetE k a c).1.2 := ⟨_, rfl⟩
  obtain ⟨F3, h3⟩ : ∃ x, x = (feetE k a c).2 := ⟨_, rfl⟩
  rw [← h1, ← h2, ← h3] at y1 y2
  have XF := Lib.hid y1
  have YF := Lib.hid y2
  clear y1 y2 h1 h2 h3
  have heqS := Tryz.eqSp1
  have HK := Lib.hid hk
  clear hk
  go_enter Tryz.func6, Tryz.ntmps6
  have bk := heap_alloc_new w (.cells #[.int .i64 k.room, .int .i64 k.per, .slice A1 k.ls.length c1, .slice A2 k.ds.length c2, .slice A3 k.ws.length c3] 26)
  have HB := below_alloc w (.cells #[.int .i64 k.room, .int .i64 k.per, .slice A1 k.ls.length c1, .slice A2 k.ds.length c2, .slice A3 k.ws.length c3] 26)
  have cbk0 := Joins.cell_of_block bk 0
  have cbk1 := Joins.cell_of_block bk 1
  have cbk2 := Joins.cell_of_block bk 2
  have cbk3 := Joins.cell_of_block bk 3
  have cbk4 := Joins.cell_of_block bk 4
  have zbk := size_of_block bk
  go_wp2_with fail
  generalize (w.alloc (.cells #[.int .i64 k.room, .int .i64 k.per, .slice A1 k.ls.length c1, .slice A2 k.ds.length c2, .slice A3 k.ws.length c3] 26)) = w1 at bk HB cbk0 cbk1 cbk2 cbk3 cbk4 zbk ⊢
  have hB := HB
  clear HB
  refine (lfew_c k.room k.per A1 A2 A3 k.ls.length c1 k.ds.length c2 k.ws.length c3 _).mono ?_
  rintro e w2 ⟨rfl, hF⟩
  clear cbk0 cbk1 cbk2 cbk3 cbk4 zbk
  replace bk := (hF.block _ (size_of_block bk)).trans bk
  replace hB := below_then hB hF
  clear hF
  rw [hf]
  have cbk0 := Joins.cell_of_block bk 0
  have cbk1 := Joins.cell_of_block bk 1
  have cbk2 := Joins.cell_of_block bk 2
  have cbk3 := Joins.cell_of_block bk 3
  have cbk4 := Joins.cell_of_block bk 4
  have zbk := size_of_block bk
  go_wp2_with fail
  refine (XW.out _ w2 (HK.out.later hB)).mono ?_
  rintro e w3 ⟨rfl, hF⟩
  clear cbk0 cbk1 cbk2 cbk3 cbk4 zbk
  replace bk := (hF.block _ (size_of_block bk)).trans bk
  replace hB := below_then hB hF
  clear hF
  have bx0 := heap_alloc_new w3 (.cells #[.int .i64 W1, .int .i64 W2] 63)
  have HB := below_alloc w3 (.cells #[.int .i64 W1, .int .i64 W2] 63)
  have cbk0 := Joins.cell_of_block ((HB.block _ (size_of_block bk)).trans bk) 0
  have cbk1 := Joins.cell_of_block ((HB.block _ (size_of_block bk)).trans bk) 1
  have cbk2 := Joins.cell_of_block ((HB.block _ (size_of_block bk)).trans bk) 2
  have cbk3 := Joins.cell_of_block ((HB.block _ (size_of_block bk)).trans bk) 3
  have cbk4 := Joins.cell_of_block ((HB.block _ (size_of_block bk)).trans bk) 4
  have zbk := size_of_block bk
  go_wp2_with fail
  generalize (w3.alloc (.cells #[.int .i64 W1, .int .i64 W2] 63)) = w4 at bx0 HB cbk0 cbk1 cbk2 cbk3 cbk4 ⊢
  replace bk := (HB.block _ (size_of_block bk)).trans bk
  replace hB := below_then hB HB
  clear HB
  refine (YW.out _ w4 (HK.out.later hB)).mono ?_
  rintro e w5 ⟨rfl, hF⟩
  clear cbk0 cbk1 cbk2 cbk3 cbk4 zbk
  replace bk := (hF.block _ (size_of_block bk)).trans bk
  replace bx0 := (hF.block _ (size_of_block bx0)).trans bx0
  replace hB := below_then hB hF
  clear hF
  have by0 := heap_alloc_new w5 (.cells #[.int .i64 W1, .int .i64 W2, .int .i64 W3] 67)
  have HB := below_alloc w5 (.cells #[.int .i64 W1, .int .i64 W2, .int .i64 W3] 67)
  have cbk0 := Joins.cell_of_block ((HB.block _ (size_of_block bk)).trans bk) 0
  have cbk1 := Joins.cell_of_block ((HB.block _ (size_of_block bk)).trans bk) 1
  have cbk2 := Joins.cell_of_block ((HB.block _ (size_of_block bk)).trans bk) 2
  have cbk3 := Joins.cell_of_block ((HB.block _ (size_of_block bk)).trans bk) 3
  have cbk4 := Joins.cell_of_block ((HB.block _ (size_of_block bk)).trans bk) 4
  have zbk := size_of_block bk
  go_wp2_with fail
  generalize (w5.alloc (.cells #[.int .i64 W1, .int .i64 W2, .int .i64 W3] 67)) = w6 at by0 HB cbk0 cbk1 cbk2 cbk3 cbk4 ⊢
  replace bk := (HB.block _ (size_of_block bk)).trans bk
  replace bx0 := (HB.block _ (size_of_block bx0)).trans bx0
  replace hB := below_then hB HB
  clear HB
  refine (XR.out _ w6 (HK.out.later hB)).mono ?_
  rintro e w7 ⟨rfl, hF⟩
  clear cbk0 cbk1 cbk2 cbk3 cbk4 zbk
  replace bk := (hF.block _ (size_of_block bk)).trans bk
  replace bx0 := (hF.block _ (size_of_block bx0)).trans bx0
  replace by0 := (hF.block _ (size_of_block by0)).trans by0
  replace hB := below_then hB hF
  clear hF
  have bx1 := heap_alloc_new w7 (.cells #[.int .i64 R1, .int .i64 R2] 63)
  have HB := below_alloc w7 (.cells #[.int .i64 R1, .int .i64 R2] 63)
  have cbk0 := Joins.cell_of_block ((HB.block _ (size_of_block bk)).trans bk) 0
  have cbk1 := Joins.cell_of_block ((HB.block _ (size_of_block bk)).trans bk) 1
  have cbk2 := Joins.cell_of_block ((HB.block _ (size_of_block bk)).trans bk) 2
  have cbk3 := Joins.cell_of_block ((HB.block _ (size_of_block bk)).trans bk) 3
  have cbk4 := Joins.cell_of_block ((HB.block _ (size_of_block bk)).trans bk) 4
  have zbk := size_of_block bk
  go_wp2_with fail
  generalize (w7.alloc (.cells #[.int .i64 R1, .int .i64 R2] 63)) = w8 at bx1 HB cbk0 cbk1 cbk2 cbk3 cbk4 ⊢
  replace bk := (HB.block _ (size_of_block bk)).trans bk
  replace bx0 := (HB.block _ (size_of_block bx0)).trans bx0
  replace by0 := (HB.block _ (size_of_block by0)).trans by0
  replace hB := below_then hB HB
  clear HB
  refine (YR.out _ w8 (HK.out.later hB)).mono ?_
  rintro e w9 ⟨rfl, hF⟩
  clear cbk0 cbk1 cbk2 cbk3 cbk4 zbk
  replace bk := (hF.block _ (size_of_block bk)).trans bk
  replace bx0 := (hF.block _ (size_of_block bx0)).trans bx0
  replace by0 := (hF.block _ (size_of_block by0)).trans by0
  replace bx1 := (hF.block _ (size_of_block bx1)).trans bx1
  replace hB := below_then hB hF
  clear hF
  have by1 := heap_alloc_new w9 (.cells #[.int .i64 R1, .int .i64 R2, .int .i64 R3] 67)
  have HB := below_alloc w9 (.cells #[.int .i64 R1, .int .i64 R2, .int .i64 R3] 67)
  have cbk0 := Joins.cell_of_block ((HB.block _ (size_of_block bk)).trans bk) 0
  have cbk1 := Joins.cell_of_block ((HB.block _ (size_of_block bk)).trans bk) 1
  have cbk2 := Joins.cell_of_block ((HB.block _ (size_of_block bk)).trans bk) 2
  have cbk3 := Joins.cell_of_block ((HB.block _ (size_of_block bk)).trans bk) 3
  have cbk4 := Joins.cell_of_block ((HB.block _ (size_of_block bk)).trans bk) 4
  have zbk := size_of_block bk
  go_wp2_with fail
  generalize (w9.alloc (.cells #[.int .i64 R1, .int .i64 R2, .int .i64 R3] 67)) = w10 at by1 HB cbk0 cbk1 cbk2 cbk3 cbk4 ⊢
  replace bk := (HB.block _ (size_of_block bk)).trans bk
  replace bx0 := (HB.block _ (size_of_block bx0)).trans bx0
  replace by0 := (HB.block _ (size_of_block by0)).trans by0
  replace bx1 := (HB.block _ (size_of_block bx1)).trans bx1
  replace hB := below_then hB HB
  clear HB
  refine (XH.out _ w10 (HK.out.later hB)).mono ?_
  rintro e w11 ⟨rfl, hF⟩
  clear cbk0 cbk1 cbk2 cbk3 cbk4 zbk
  replace bk := (hF.block _ (size_of_block bk)).trans bk
  replace bx0 := (hF.block _ (size_of_block bx0)).trans bx0
  replace by0 := (hF.block _ (size_of_block by0)).trans by0
  replace bx1 := (hF.block _ (size_of_block bx1)).trans bx1
  replace by1 := (hF.block _ (size_of_block by1)).trans by1
  replace hB := below_then hB hF
  clear hF
  have bx2 := heap_alloc_new w11 (.cells #[.int .i64 H1, .int .i64 H2] 63)
  have HB := below_alloc w11 (.cells #[.int .i64 H1, .int .i64 H2] 63)
  have cbk0 := Joins.cell_of_block ((HB.block _ (size_of_block bk)).trans bk) 0
  have cbk1 := Joins.cell_of_block ((HB.block _ (size_of_block bk)).trans bk) 1
  have cbk2 := Joins.cell_of_block ((HB.block _ (size_of_block bk)).trans bk) 2
  have cbk3 := Joins.cell_of_block ((HB.block _ (size_of_block bk)).trans bk) 3
  have cbk4 := Joins.cell_of_block ((HB.block _ (size_of_block bk)).trans bk) 4
  have zbk := size_of_block bk
  go_wp2_with fail
  generalize (w11.alloc (.cells #[.int .i64 H1, .int .i64 H2] 63)) = w12 at bx2 HB cbk0 cbk1 cbk2 cbk3 cbk4 ⊢
  replace bk := (HB.block _ (size_of_block bk)).trans bk
  replace bx0 := (HB.block _ (size_of_block bx0)).trans bx0
  replace by0 := (HB.block _ (size_of_block by0)).trans by0
  replace bx1 := (HB.block _ (size_of_block bx1)).trans bx1
  replace by1 := (HB.block _ (size_of_block by1)).trans by1
  replace hB := below_then hB HB
  clear HB
  refine (YH.out _ w12 (HK.out.later hB)).mono ?_
  rintro e w13 ⟨rfl, hF⟩
  clear cbk0 cbk1 cbk2 cbk3 cbk4 zbk
  replace bk := (hF.block _ (size_of_block bk)).trans bk
  replace bx0 := (hF.block _ (size_of_block bx0)).trans bx0
  replace by0 := (hF.block _ (size_of_block by0)).trans by0
  replace bx1 := (hF.block _ (size_of_block bx1)).trans bx1
  replace by1 := (hF.block _ (size_of_block by1)).trans by1
  replace bx2 := (hF.block _ (size_of_block bx2)).trans bx2
  replace hB := below_then hB hF
  clear hF
  have by2 := heap_alloc_new w13 (.cells #[.int .i64 H1, .int .i64 H2, .int .i64 H3] 67)
  have HB := below_alloc w13 (.cells #[.int .i64 H1, .int .i64 H2, .int .i64 H3] 67)
  have cbk0 := Joins.cell_of_block ((HB.block _ (size_of_block bk)).trans bk) 0
  have cbk1 := Joins.cell_of_block ((HB.block _ (size_of_block bk)).trans bk) 1
  have cbk2 := Joins.cell_of_block ((HB.block _ (size_of_block bk)).trans bk) 2
  have cbk3 := Joins.cell_of_block ((HB.block _ (size_of_block bk)).trans bk) 3
  have cbk4 := Joins.cell_of_block ((HB.block _ (size_of_block bk)).trans bk) 4
  have zbk := size_of_block bk
  go_wp2_with fail
  generalize (w13.alloc (.cells #[.int .i64 H1, .int .i64 H2, .int .i64 H3] 67)) = w14 at by2 HB cbk0 cbk1 cbk2 cbk3 cbk4 ⊢
  replace bk := (HB.block _ (size_of_block bk)).trans bk
  replace bx0 := (HB.block _ (size_of_block bx0)).trans bx0
  replace by0 := (HB.block _ (size_of_block by0)).trans by0
  replace bx1 := (HB.block _ (size_of_block bx1)).trans bx1
  replace by1 := (HB.block _ (size_of_block by1)).trans by1
  replace bx2 := (HB.block _ (size_of_block bx2)).trans bx2
  replace hB := below_then hB HB
  clear HB
  refine (XB.out _ w14 (HK.out.later hB)).mono ?_
  rintro e w15 ⟨rfl, hF⟩
  clear cbk0 cbk1 cbk2 cbk3 cbk4 zbk
  replace bk := (hF.block _ (size_of_block bk)).trans bk
  replace bx0 := (hF.block _ (size_of_block bx0)).trans bx0
  replace by0 := (hF.block _ (size_of_block by0)).trans by0
  replace bx1 := (hF.block _ (size_of_block bx1)).trans bx1
  replace by1 := (hF.block _ (size_of_block by1)).trans by1
  replace bx2 := (hF.block _ (size_of_block bx2)).trans bx2
  replace by2 := (hF.block _ (size_of_block by2)).trans by2
  replace hB := below_then hB hF
  clear hF
  have bx3 := heap_alloc_new w15 (.cells #[.int .i64 B1, .int .i64 B2] 63)
  have HB := below_alloc w15 (.cells #[.int .i64 B1, .int .i64 B2] 63)
  have cbk0 := Joins.cell_of_block ((HB.block _ (size_of_block bk)).trans bk) 0
  have cbk1 := Joins.cell_of_block ((HB.block _ (size_of_block bk)).trans bk) 1
  have cbk2 := Joins.cell_of_block ((HB.block _ (size_of_block bk)).trans bk) 2
  have cbk3 := Joins.cell_of_block ((HB.block _ (size_of_block bk)).trans bk) 3
  have cbk4 := Joins.cell_of_block ((HB.block _ (size_of_block bk)).trans bk) 4
  have zbk := size_of_block bk
  go_wp2_with fail
  generalize (w15.alloc (.cells #[.int .i64 B1, .int .i64 B2] 63)) = w16 at bx3 HB cbk0 cbk1 cbk2 cbk3 cbk4 ⊢
  replace bk := (HB.block _ (size_of_block bk)).trans bk
  replace bx0 := (HB.block _ (size_of_block bx0)).trans bx0
  replace by0 := (HB.block _ (size_of_block by0)).trans by0
  replace bx1 := (HB.block _ (size_of_block bx1)).trans bx1
  replace by1 := (HB.block _ (size_of_block by1)).trans by1
  replace bx2 := (HB.block _ (size_of_block bx2)).trans bx2
  replace by2 := (HB.block _ (size_of_block by2)).trans by2
  replace hB := below_then hB HB
  clear HB
  refine (YB.out _ w16 (HK.out.later hB)).mono ?_
  rintro e w17 ⟨rfl, hF⟩
  clear cbk0 cbk1 cbk2 cbk3 cbk4 zbk
  replace bk := (hF.block _ (size_of_block bk)).trans bk
  replace bx0 := (hF.block _ (size_of_block bx0)).trans bx0
  replace by0 := (hF.block _ (size_of_block by0)).trans by0
  replace bx1 := (hF.block _ (size_of_block bx1)).trans bx1
  replace by1 := (hF.block _ (size_of_block by1)).trans by1
  replace bx2 := (hF.block _ (size_of_block bx2)).trans bx2
  replace by2 := (hF.block _ (size_of_block by2)).trans by2
  replace bx3 := (hF.block _ (size_of_block bx3)).trans bx3
  replace hB := below_then hB hF
  clear hF
  have by3 := heap_alloc_new w17 (.cells #[.int .i64 B1, .int .i64 B2, .int .i64 B3] 67)
  have HB := below_alloc w17 (.cells #[.int .i64 B1, .int .i64 B2, .int .i64 B3] 67)
  have cbk0 := Joins.cell_of_block ((HB.block _ (size_of_block bk)).trans bk) 0
  have cbk1 := Joins.cell_of_block ((HB.block _ (size_of_block bk)).trans bk) 1
  have cbk2 := Joins.cell_of_block ((HB.block _ (size_of_block bk)).trans bk) 2
  have cbk3 := Joins.cell_of_block ((HB.block _ (size_of_block bk)).trans bk) 3
  have cbk4 := Joins.cell_of_block ((HB.block _ (size_of_block bk)).trans bk) 4
  have zbk := size_of_block bk
  go_wp2_with fail
  generalize (w17.alloc (.cells #[.int .i64 B1, .int .i64 B2, .int .i64 B3] 67)) = w18 at by3 HB cbk0 cbk1 cbk2 cbk3 cbk4 ⊢
  replace bk := (HB.block _ (size_of_block bk)).trans bk
  replace bx0 := (HB.block _ (size_of_block bx0)).trans bx0
  replace by0 := (HB.block _ (size_of_block by0)).trans by0
  replace bx1 := (HB.block _ (size_of_block bx1)).trans bx1
  replace by1 := (HB.block _ (size_of_block by1)).trans by1
  replace bx2 := (HB.block _ (size_of_block bx2)).trans bx2
  replace by2 := (HB.block _ (size_of_block by2)).trans by2
  replace bx3 := (HB.block _ (size_of_block bx3)).trans bx3
  replace hB := below_then hB HB
  clear HB
  refine (XF.out _ w18 (HK.out.later hB)).mono ?_
  rintro e w19 ⟨rfl, hF⟩
  clear cbk0 cbk1 cbk2 cbk3 cbk4 zbk
  replace bk := (hF.block _ (size_of_block bk)).trans bk
  replace bx0 := (hF.block _ (size_of_block bx0)).trans bx0
  replace by0 := (hF.block _ (size_of_block by0)).trans by0
  replace bx1 := (hF.block _ (size_of_block bx1)).trans bx1
  replace by1 := (hF.block _ (size_of_block by1)).trans by1
  replace bx2 := (hF.block _ (size_of_block bx2)).trans bx2
  replace by2 := (hF.block _ (size_of_block by2)).trans by2
  replace bx3 := (hF.block _ (size_of_block bx3)).trans bx3
  replace by3 := (hF.block _ (size_of_block by3)).trans by3
  replace hB := below_then hB hF
  clear hF
  have bx4 := heap_alloc_new w19 (.cells #[.int .i64 F1, .int .i64 F2] 63)
  have HB := below_alloc w19 (.cells #[.int .i64 F1, .int .i64 F2] 63)
  have cbk0 := Joins.cell_of_block ((HB.block _ (size_of_block bk)).trans bk) 0
  have cbk1 := Joins.cell_of_block ((HB.block _ (size_of_block bk)).trans bk) 1
  have cbk2 := Joins.cell_of_block ((HB.block _ (size_of_block bk)).trans bk) 2
  have cbk3 := Joins.cell_of_block ((HB.block _ (size_of_block bk)).trans bk) 3
  have cbk4 := Joins.cell_of_block ((HB.block _ (size_of_block bk)).trans bk) 4
  have zbk := size_of_block bk
  go_wp2_with fail
  generalize (w19.alloc (.cells #[.int .i64 F1, .int .i64 F2] 63)) = w20 at bx4 HB cbk0 cbk1 cbk2 cbk3 cbk4 ⊢
  replace bk := (HB.block _ (size_of_block bk)).trans bk
  replace bx0 := (HB.block _ (size_of_block bx0)).trans bx0
  replace by0 := (HB.block _ (size_of_block by0)).trans by0
  replace bx1 := (HB.block _ (size_of_block bx1)).trans bx1
  replace by1 := (HB.block _ (size_of_block by1)).trans by1
  replace bx2 := (HB.block _ (size_of_block bx2)).trans bx2
  replace by2 := (HB.block _ (size_of_block by2)).trans by2
  replace bx3 := (HB.block _ (size_of_block bx3)).trans bx3
  replace by3 := (HB.block _ (size_of_block by3)).trans by3
  replace hB := below_then hB HB
  clear HB
  refine (YF.out _ w20 (HK.out.later hB)).mono ?_
  rintro e w21 ⟨rfl, hF⟩
  clear cbk0 cbk1 cbk2 cbk3 cbk4 zbk
  replace bk := (hF.block _ (size_of_block bk)).trans bk
  replace bx0 := (hF.block _ (size_of_block bx0)).trans bx0
  replace by0 := (hF.block _ (size_of_block by0)).trans by0
  replace bx1 := (hF.block _ (size_of_block bx1)).trans bx1
  replace by1 := (hF.block _ (size_of_block by1)).trans by1
  replace bx2 := (hF.block _ (size_of_block bx2)).trans bx2
  replace by2 := (hF.block _ (size_of_block by2)).trans by2
  replace bx3 := (hF.block _ (size_of_block bx3)).trans bx3
  replace by3 := (hF.block _ (size_of_block by3)).trans by3
  replace bx4 := (hF.block _ (size_of_block bx4)).trans bx4
  replace hB := below_then hB hF
  clear hF
  have by4 := heap_alloc_new w21 (.cells #[.int .i64 F1, .int .i64 F2, .int .i64 F3] 67)
  have HB := below_alloc w21 (.cells #[.int .i64 F1, .int .i64 F2, .int .i64 F3] 67)
  go_wp2_with fail
  generalize (w21.alloc (.cells #[.int .i64 F1, .int .i64 F2, .int .i64 F3] 67)) = w22 at by4 HB  ⊢
  replace bk := (HB.block _ (size_of_block bk)).trans bk
  replace bx0 := (HB.block _ (size_of_block bx0)).trans bx0
  replace by0 := (HB.block _ (size_of_block by0)).trans by0
  replace bx1 := (HB.block _ (size_of_block bx1)).trans bx1
  replace by1 := (HB.block _ (size_of_block by1)).trans by1
  replace bx2 := (HB.block _ (size_of_block bx2)).trans bx2
  replace by2 := (HB.block _ (size_of_block by2)).trans by2
  replace bx3 := (HB.block _ (size_of_block bx3)).trans bx3
  replace by3 := (HB.block _ (size_of_block by3)).trans by3
  replace bx4 := (HB.block _ (size_of_block bx4)).trans bx4
  replace hB := below_then hB HB
  clear HB
  refine (sanity_c _).mono ?_
  rintro e w23 ⟨rfl, hF⟩
  replace bk := (hF.block _ (size_of_block bk)).trans bk
  replace bx0 := (hF.block _ (size_of_block bx0)).trans bx0
  replace by0 := (hF.block _ (size_of_block by0)).trans by0
  replace bx1 := (hF.block _ (size_of_block bx1)).trans bx1
  replace by1 := (hF.block _ (size_of_block by1)).trans by1
  replace bx2 := (hF.block _ (size_of_block bx2)).trans bx2
  replace by2 := (hF.block _ (size_of_block by2)).trans by2
  replace bx3 := (hF.block _ (size_of_block bx3)).trans bx3
  replace by3 := (hF.block _ (size_of_block by3)).trans by3
  replace bx4 := (hF.block _ (size_of_block bx4)).trans bx4
  replace by4 := (hF.block _ (size_of_block by4)).trans by4
  replace hB := below_then hB hF
  clear hF
  have cbx00 := Joins.cell_of_block bx0 0
  have cbx01 := Joins.cell_of_block bx0 1
  have zbx0 := size_of_block bx0
  have cby00 := Joins.cell_of_block by0 0
  have cby01 := Joins.cell_of_block by0 1
  have cby02 := Joins.cell_of_block by0 2
  have zby0 := size_of_block by0
  have cbx10 := Joins.cell_of_block bx1 0
  have cbx11 := Joins.cell_of_block bx1 1
  have zbx1 := size_of_block bx1
  have cby10 := Joins.cell_of_block by1 0
  have cby11 := Joins.cell_of_block by1 1
  have cby12 := Joins.cell_of_block by1 2
  have zby1 := size_of_block by1
  have cbx20 := Joins.cell_of_block bx2 0
  have cbx21 := Joins.cell_of_block bx2 1
  have zbx2 := size_of_block bx2
  have cby20 := Joins.cell_of_block by2 0
  have cby21 := Joins.cell_of_block by2 1
  have cby22 := Joins.cell_of_block by2 2
  have zby2 := size_of_block by2
  have cbx30 := Joins.cell_of_block bx3 0
  have cbx31 := Joins.cell_of_block bx3 1
  have zbx3 := size_of_block bx3
  have cby30 := Joins.cell_of_block by3 0
  have cby31 := Joins.cell_of_block by3 1
  have cby32 := Joins.cell_of_block by3 2
  have zby3 := size_of_block by3
  have cbx40 := Joins.cell_of_block bx4 0
  have cbx41 := Joins.cell_of_block bx4 1
  have zbx4 := size_of_block bx4
  have cby40 := Joins.cell_of_block by4 0
  have cby41 := Joins.cell_of_block by4 1
  have cby42 := Joins.cell_of_block by4 2
  have zby4 := size_of_block by4
  go_wp2_with fail
  go_ret
  exact ⟨rfl, hB⟩
theorem ShaftEnds_w (rm pr : Int) (A1 : Option Addr) (n1 c1 : Nat) (A2 : Option Addr) (n2 c2 : Nat) (A3 : Option Addr) (n3 c3 : Nat) (a b c : Int) (w : World)
    (hk : (∃ k : Kl, k.room = rm ∧ k.per = pr ∧ k.ls.length = n1 ∧ k.ds.length = n2 ∧ k.ws.length = n3 ∧ Kiln w (.agg #[.int .i64 rm, .int .i64 pr, .slice A1 n1 c1, .slice A2 n2 c2, .slice A3 n3 c3]) k) ∨ 140737488355328 < n1 ∨ 140737488355328 < n2 ∨ 140737488355328 < n3) :
    Calls Tryz.prog 6 #[.agg #[.int .i64 rm, .int .i64 pr, .slice A1 n1 c1, .slice A2 n2 c2, .slice A3 n3 c3], .int .i64 a, .int .i64 b, .int .i64 c] w fun e w' => e = .returned (.bool true) ∧ Below w.heap.size w w' := by
  rcases kiln_arg hk with h | ⟨hf, k, rfl, rfl, rfl, rfl, rfl, hk⟩
  · exact SEnds_no rm pr A1 n1 c1 A2 n2 c2 A3 n3 c3 a b c w h
  · exact SEnds_few k A1 A2 A3 c1 c2 c3 a b c w hk hf
end Go.Proofs.YtpgepfbdjefmdaaGreat
