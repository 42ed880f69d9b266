/- The reference's marked, Most (written by tools/gensrefmk.py). -/
import Derived.Test.YtnedcclmfokdnaaGreatZSRefE
import Derived.Test.YtnedcclmfokdnaaGreatJ8
import Derived.Test.YtnedcclmfokdnaaGreatZRefBE
namespace Go.Proofs.YtnedcclmfokdnaaGreat
open Go Go.RowKit Go.Shelf
attribute [local go_sem] Oper.semAt_some Rel RelAt RelUpon

theorem in_b (n lo hi : Int) (w : World) : Calls Tryz.prog 82 #[.int .i64 n, .int .i64 lo, .int .i64 hi] w fun e w' => e = .returned (.bool (inB n lo hi)) ∧ Below w.heap.size w w' :=
  (in_c n lo hi w).mono fun _ _ ⟨he, h⟩ => ⟨he, h ▸ Below.refl _ _⟩
set_option maxRecDepth 100000 in
set_option maxHeartbeats 4000000 in
theorem rmarked_bad (k : Kl) (v : Value) (f o : Int) (w : World) (hk : Kiln w v k) (hc : checkI k ≠ 0) : Calls Tryz.prog 97 #[v, .int .i64 f, .int .i64 o] w fun e w' => e = .returned (.int .i64 (marksI k f o)) ∧ Below w.heap.size w w' := by
  have HE := Lib.hid (show marksI k f o = checkI k by unfold marksI; rw [if_pos hc])
  have d0 : (checkI k != 0) = true := by simpa using hc
  clear hc
  obtain ⟨A1, c1, A2, c2, A3, c3, rfl⟩ := kilnForm hk
  have HK := Lib.hid hk
  clear hk
  go_enter Tryz.func97, Tryz.ntmps97
  have bk := heap_alloc_new w (.cells #[.int .i64 k.room, .int .i64 k.per, .slice A1 k.ls.length c1, .slice A2 k.ds.length c2, .slice A3 k.ws.length c3] 26)
  have HB := below_alloc w (.cells #[.int .i64 k.room, .int .i64 k.per, .slice A1 k.ls.length c1, .slice A2 k.ds.length c2, .slice A3 k.ws.length c3] 26)
  have cbk0 := Joins.cell_of_block bk 0
  have cbk1 := Joins.cell_of_block bk 1
  have cbk2 := Joins.cell_of_block bk 2
  have cbk3 := Joins.cell_of_block bk 3
  have cbk4 := Joins.cell_of_block bk 4
  have zbk := size_of_block bk
  go_wp2_with fail
  generalize (w.alloc (.cells #[.int .i64 k.room, .int .i64 k.per, .slice A1 k.ls.length c1, .slice A2 k.ds.length c2, .slice A3 k.ws.length c3] 26)) = w1 at bk HB cbk0 cbk1 cbk2 cbk3 cbk4 zbk ⊢
  have hB := HB
  clear HB
  refine (rcheck_c k _ w1 (HK.out.later hB)).mono ?_
  rintro e w2 ⟨rfl, hF⟩
  clear cbk0 cbk1 cbk2 cbk3 cbk4 zbk
  replace bk := (hF.block _ (size_of_block bk)).trans bk
  replace hB := below_then hB hF
  clear hF
  go_wp2_with fail
  go_ret
  exact ⟨by rw [HE.out]; rfl, hB⟩
set_option maxRecDepth 100000 in
set_option maxHeartbeats 4000000 in
theorem rmarked_a (k : Kl) (v : Value) (f o : Int) (w : World) (hk : Kiln w v k) (hc : checkI k = 0) (h1 : inB f 0 (k.ls.length + k.ds.length) = false) : Calls Tryz.prog 97 #[v, .int .i64 f, .int .i64 o] w fun e w' => e = .returned (.int .i64 (marksI k f o)) ∧ Below w.heap.size w w' := by
  have HE := Lib.hid (show marksI k f o = 1 by unfold marksI; rw [if_neg (show ¬ checkI k ≠ 0 by simp [hc])]; exact if_neg (fun h => by simp only [inB, Bool.and_eq_false_iff, decide_eq_false_iff_not] at h1; omega))
  have hR := right_of_check hc
  have n1 := hR.ls
  have n2 := hR.ds
  have yM := fun v W h => marks_c k v W h
  obtain ⟨N, hN⟩ : ∃ x, x = (k.ls.length : Int) + k.ds.length + 1 := ⟨_, rfl⟩
  rw [← hN] at yM
  have e9 : (k.ls.length : Int) + k.ds.length = N - 1 := by omega
  rw [e9] at h1
  have hN1 : 1 ≤ N ∧ N ≤ 41 := by omega
  have yA := fun W => in_b f 0 (N - 1) W
  rw [h1] at yA
  have YA := Lib.hid yA
  have YM := Lib.hid yM
  clear yA yM hN e9 h1 hR n1 n2
  obtain ⟨A1, c1, A2, c2, A3, c3, rfl⟩ := kilnForm hk
  have HK := Lib.hid hk
  clear hk
  go_enter Tryz.func97, Tryz.ntmps97
  have bk := heap_alloc_new w (.cells #[.int .i64 k.room, .int .i64 k.per, .slice A1 k.ls.length c1, .slice A2 k.ds.length c2, .slice A3 k.ws.length c3] 26)
  have HB := below_alloc w (.cells #[.int .i64 k.room, .int .i64 k.per, .slice A1 k.ls.length c1, .slice A2 k.ds.length c2, .slice A3 k.ws.length c3] 26)
  have cbk0 := Joins.cell_of_block bk 0
  have cbk1 := Joins.cell_of_block bk 1
  have cbk2 := Joins.cell_of_block bk 2
  have cbk3 := Joins.cell_of_block bk 3
  have cbk4 := Joins.cell_of_block bk 4
  have zbk := size_of_block bk
  go_wp2_with fail
  generalize (w.alloc (.cells #[.int .i64 k.room, .int .i64 k.per, .slice A1 k.ls.length c1, .slice A2 k.ds.length c2, .slice A3 k.ws.length c3] 26)) = w1 at bk HB cbk0 cbk1 cbk2 cbk3 cbk4 zbk ⊢
  have hB := HB
  clear HB
  refine (rcheck_c k _ w1 (HK.out.later hB)).mono ?_
  rintro e w2 ⟨rfl, hF⟩
  clear cbk0 cbk1 cbk2 cbk3 cbk4 zbk
  replace bk := (hF.block _ (size_of_block bk)).trans bk
  replace hB := below_then hB hF
  clear hF
  rw [hc]
  clear hc
  have cbk0 := Joins.cell_of_block bk 0
  have cbk1 := Joins.cell_of_block bk 1
  have cbk2 := Joins.cell_of_block bk 2
  have cbk3 := Joins.cell_of_block bk 3
  have cbk4 := Joins.cell_of_block bk 4
  have zbk := size_of_block bk
  go_wp2_with fail
  refine (YM.out _ w2 (HK.out.later hB)).mono ?_
  rintro e w3 ⟨rfl, hF⟩
  clear cbk0 cbk1 cbk2 cbk3 cbk4 zbk
  replace bk := (hF.block _ (size_of_block bk)).trans bk
  replace hB := below_then hB hF
  clear hF
  go_wp2_with fail
  refine (YA.out _).mono ?_
  rintro e w4 ⟨rfl, hF⟩
  replace bk := (hF.block _ (size_of_block bk)).trans bk
  replace hB := below_then hB hF
  clear hF
  go_wp2_with fail
  go_ret
  exact ⟨by rw [HE.out]; rfl, hB⟩
set_option maxRecDepth 100000 in
set_option maxHeartbeats 4000000 in
theorem rmarked_b (k : Kl) (v : Value) (f o : Int) (w : World) (hk : Kiln w v k) (hc : checkI k = 0) (h1 : inB f 0 (k.ls.length + k.ds.length) = true) (h2 : inB o 0 (k.ls.length + k.ds.length) = false) : Calls Tryz.prog 97 #[v, .int .i64 f, .int .i64 o] w fun e w' => e = .returned (.int .i64 (marksI k f o)) ∧ Below w.heap.size w w' := by
  have HE := Lib.hid (show marksI k f o = 1 by unfold marksI; rw [if_neg (show ¬ checkI k ≠ 0 by simp [hc])]; exact if_neg (fun h => by simp only [inB, Bool.and_eq_false_iff, decide_eq_false_iff_not] at h2; omega))
  have hR := right_of_check hc
  have n1 := hR.ls
  have n2 := hR.ds
  have yM := fun v W h => marks_c k v W h
  obtain ⟨N, hN⟩ : ∃ x, x = (k.ls.length : Int) + k.ds.length + 1 := ⟨_, rfl⟩
  rw [← hN] at yM
  have e9 : (k.ls.length : Int) + k.ds.length = N - 1 := by omega
  rw [e9] at h1 h2
  have hN1 : 1 ≤ N ∧ N ≤ 41 := by omega
  have yA := fun W => in_b f 0 (N - 1) W
  rw [h1] at yA
  have yB := fun W => in_b o 0 (N - 1) W
  rw [h2] at yB
  have YB := Lib.hid yB
  have YA := Lib.hid yA
  have YM := Lib.hid yM
  clear yA yM hN e9 h1 hR n1 n2 yB h2
  obtain ⟨A1, c1, A2, c2, A3, c3, rfl⟩ := kilnForm hk
  have HK := Lib.hid hk
  clear hk
  go_enter Tryz.func97, Tryz.ntmps97
  have bk := heap_alloc_new w (.cells #[.int .i64 k.room, .int .i64 k.per, .slice A1 k.ls.length c1, .slice A2 k.ds.length c2, .slice A3 k.ws.length c3] 26)
  have HB := below_alloc w (.cells #[.int .i64 k.room, .int .i64 k.per, .slice A1 k.ls.length c1, .slice A2 k.ds.length c2, .slice A3 k.ws.length c3] 26)
  have cbk0 := Joins.cell_of_block bk 0
  have cbk1 := Joins.cell_of_block bk 1
  have cbk2 := Joins.cell_of_block bk 2
  have cbk3 := Joins.cell_of_block bk 3
  have cbk4 := Joins.cell_of_block bk 4
  have zbk := size_of_block bk
  go_wp2_with fail
  generalize (w.alloc (.cells #[.int .i64 k.room, .int .i64 k.per, .slice A1 k.ls.length c1, .slice A2 k.ds.length c2, .slice A3 k.ws.length c3] 26)) = w1 at bk HB cbk0 cbk1 cbk2 cbk3 cbk4 zbk ⊢
  have hB := HB
  clear HB
  refine (rcheck_c k _ w1 (HK.out.later hB)).mono ?_
  rintro e w2 ⟨rfl, hF⟩
  clear cbk0 cbk1 cbk2 cbk3 cbk4 zbk
  replace bk := (hF.block _ (size_of_block bk)).trans bk
  replace hB := below_then hB hF
  clear hF
  rw [hc]
  clear hc
  have cbk0 := Joins.cell_of_block bk 0
  have cbk1 := Joins.cell_of_block bk 1
  have cbk2 := Joins.cell_of_block bk 2
  have cbk3 := Joins.cell_of_block bk 3
  have cbk4 := Joins.cell_of_block bk 4
  have zbk := size_of_block bk
  go_wp2_with fail
  refine (YM.out _ w2 (HK.out.later hB)).mono ?_
  rintro e w3 ⟨rfl, hF⟩
  clear cbk0 cbk1 cbk2 cbk3 cbk4 zbk
  replace bk := (hF.block _ (size_of_block bk)).trans bk
  replace hB := below_then hB hF
  clear hF
  go_wp2_with fail
  refine (YA.out _).mono ?_
  rintro e w4 ⟨rfl, hF⟩
  replace bk := (hF.block _ (size_of_block bk)).trans bk
  replace hB := below_then hB hF
  clear hF
  go_wp2_with fail
  refine (YB.out _).mono ?_
  rintro e w5 ⟨rfl, hF⟩
  replace bk := (hF.block _ (size_of_block bk)).trans bk
  replace hB := below_then hB hF
  clear hF
  go_wp2_with fail
  go_ret
  exact ⟨by rw [HE.out]; rfl, hB⟩
set_option maxRecDepth 100000 in
set_option maxHeartbeats 4000000 in
theorem rmarked_ok (k : Kl) (v : Value) (f o : Int) (w : World) (hk : Kiln w v k) (hc : checkI k = 0) (h1 : inB f 0 (k.ls.length + k.ds.length) = true) (h2 : inB o 0 (k.ls.length + k.ds.length) = true) : Calls Tryz.prog 97 #[v, .int .i64 f, .int .i64 o] w fun e w' => e = .returned (.int .i64 (marksI k f o)) ∧ Below w.heap.size w w' := by
  have HE := Lib.hid (show marksI k f o = 0 by unfold marksI; rw [if_neg (show ¬ checkI k ≠ 0 by simp [hc])]; exact if_pos ⟨by simpa [inB] using h1, by simpa [inB] using h2⟩)
  have hR := right_of_check hc
  have n1 := hR.ls
  have n2 := hR.ds
  have yM := fun v W h => marks_c k v W h
  obtain ⟨N, hN⟩ : ∃ x, x = (k.ls.length : Int) + k.ds.length + 1 := ⟨_, rfl⟩
  rw [← hN] at yM
  have e9 : (k.ls.length : Int) + k.ds.length = N - 1 := by omega
  rw [e9] at h1 h2
  have hN1 : 1 ≤ N ∧ N ≤ 41 := by omega
  have yA := fun W => in_b f 0 (N - 1) W
  rw [h1] at yA
  have yB := fun W => in_b o 0 (N - 1) W
  rw [h2] at yB
  have YB := Lib.hid yB
  have YA := Lib.hid yA
  have YM := Lib.hid yM
  clear yA yM hN e9 h1 hR n1 n2 yB h2
  obtain ⟨A1, c1, A2, c2, A3, c3, rfl⟩ := kilnForm hk
  have HK := Lib.hid hk
  clear hk
  go_enter Tryz.func97, Tryz.ntmps97
  have bk := heap_alloc_new w (.cells #[.int .i64 k.room, .int .i64 k.per, .slice A1 k.ls.length c1, .slice A2 k.ds.length c2, .slice A3 k.ws.length c3] 26)
  have HB := below_alloc w (.cells #[.int .i64 k.room, .int .i64 k.per, .slice A1 k.ls.length c1, .slice A2 k.ds.length c2, .slice A3 k.ws.length c3] 26)
  have cbk0 := Joins.cell_of_block bk 0
  have cbk1 := Joins.cell_of_block bk 1
  have cbk2 := Joins.cell_of_block bk 2
  have cbk3 := Joins.cell_of_block bk 3
  have cbk4 := Joins.cell_of_block bk 4
  have zbk := size_of_block bk
  go_wp2_with fail
  generalize (w.alloc (.cells #[.int .i64 k.room, .int .i64 k.per, .slice A1 k.ls.length c1, .slice A2 k.ds.length c2, .slice A3 k.ws.length c3] 26)) = w1 at bk HB cbk0 cbk1 cbk2 cbk3 cbk4 zbk ⊢
  have hB := HB
  clear HB
  refine (rcheck_c k _ w1 (HK.out.later hB)).mono ?_
  rintro e w2 ⟨rfl, hF⟩
  clear cbk0 cbk1 cbk2 cbk3 cbk4 zbk
  replace bk := (hF.block _ (size_of_block bk)).trans bk
  replace hB := below_then hB hF
  clear hF
  rw [hc]
  clear hc
  have cbk0 := Joins.cell_of_block bk 0
  have cbk1 := Joins.cell_of_block bk 1
  have cbk2 := Joins.cell_of_block bk 2
  have cbk3 := Joins.cell_of_block bk 3
  have cbk4 := Joins.cell_of_block bk 4
  have zbk := size_of_block bk
  go_wp2_with fail
  refine (YM.out _ w2 (HK.out.later hB)).mono ?_
  rintro e w3 ⟨rfl, hF⟩
  clear cbk0 cbk1 cbk2 cbk3 cbk4 zbk
  replace bk := (hF.block _ (size_of_block bk)).trans bk
  replace hB := below_then hB hF
  clear hF
  go_wp2_with fail
  refine (YA.out _).mono ?_
  rintro e w4 ⟨rfl, hF⟩
  replace bk := (hF.block _ (size_of_block bk)).trans bk
  replace hB := below_then hB hF
  clear hF
  go_wp2_with fail
  refine (YB.out _).mono ?_
  rintro e w5 ⟨rfl, hF⟩
  replace bk := (hF.block _ (size_of_block bk)).trans bk
  replace hB := below_then hB hF
  clear hF
  go_wp2_with fail
  go_ret
  exact ⟨by rw [HE.out]; rfl, hB⟩
theorem rmarked_c (k : Kl) (v : Value) (f o : Int) (w : World) (hk : Kiln w v k) : Calls Tryz.prog 97 #[v, .int .i64 f, .int .i64 o] w fun e w' => e = .returned (.int .i64 (marksI k f o)) ∧ Below w.heap.size w w' := by
  by_cases hc : checkI k = 0
  · cases h1 : inB f 0 (k.ls.length + k.ds.length)
    · exact rmarked_a k v f o w hk hc h1
    · cases h2 : inB o 0 (k.ls.length + k.ds.length)
      · exact rmarked_b k v f o w hk hc h1 h2
      · exact rmarked_ok k v f o w hk hc h1 h2
  · exact rmarked_bad k v f o w hk hc
set_option maxRecDepth 100000 in
set_option maxHeartbeats 4000000 in
theorem rMost_bad (k : Kl) (v : Value) (f o : Int) (w : World) (hk : Kiln w v k) (hc : marksI k f o ≠ 0) : Calls Tryz.prog 31 #[v, .int .i64 f, .int .i64 o] w fun e w' => e = .returned (.tuple #[.int .i64 (mostE k f o).1, .int .i64 (mostE k f o).2]) ∧ Below w.heap.size w w' := by
  have HE := Lib.hid (show mostE k f o = (0, marksI k f o) by unfold mostE; rw [if_pos hc])
  have yM := fun v W h => rmarked_c k v f o W h
  have d0 : (marksI k f o != 0) = true := by simpa using hc
  have YM := Lib.hid yM
  clear hc yM
  obtain ⟨A1, c1, A2, c2, A3, c3, rfl⟩ := kilnForm hk
  have HK := Lib.hid hk
  clear hk
  go_enter Tryz.func31, Tryz.ntmps31
  have bk := heap_alloc_new w (.cells #[.int .i64 k.room, .int .i64 k.per, .slice A1 k.ls.length c1, .slice A2 k.ds.length c2, .slice A3 k.ws.length c3] 26)
  have HB := below_alloc w (.cells #[.int .i64 k.room, .int .i64 k.per, .slice A1 k.ls.length c1, .slice A2 k.ds.length c2, .slice A3 k.ws.length c3] 26)
  have cbk0 := Joins.cell_of_block bk 0
  have cbk1 := Joins.cell_of_block bk 1
  have cbk2 := Joins.cell_of_block bk 2
  have cbk3 := Joins.cell_of_block bk 3
  have cbk4 := Joins.cell_of_block bk 4
  have zbk := size_of_block bk
  go_wp2_with fail
  generalize (w.alloc (.cells #[.int .i64 k.room, .int .i64 k.per, .slice A1 k.ls.length c1, .slice A2 k.ds.length c2, .slice A3 k.ws.length c3] 26)) = w1 at bk HB cbk0 cbk1 cbk2 cbk3 cbk4 zbk ⊢
  have hB := HB
  clear HB
  refine (YM.out _ w1 (HK.out.later hB)).mono ?_
  rintro e w2 ⟨rfl, hF⟩
  clear cbk0 cbk1 cbk2 cbk3 cbk4 zbk
  replace bk := (hF.block _ (size_of_block bk)).trans bk
  replace hB := below_then hB hF
  clear hF
  go_wp2_with fail
  refine bodyPost_ret (v := .tuple #[.int .i64 0, .int .i64 (marksI k f o)]) ?_ rfl ⟨by rw [HE.out], hB⟩
  simp [results, Tryz.results31, go_sem]
set_option maxRecDepth 100000 in
set_option maxHeartbeats 4000000 in
theorem rMost_cant (k : Kl) (v : Value) (f o : Int) (w : World) (hk : Kiln w v k) (hc : marksI k f o = 0) (hcan : canB (tiesL k) = false) : Calls Tryz.prog 31 #[v, .int .i64 f, .int .i64 o] w fun e w' => e = .returned (.tuple #[.int .i64 (mostE k f o).1, .int .i64 (mostE k f o).2]) ∧ Below w.heap.size w w' := by
  have hc0 : checkI k = 0 := by
    unfold marksI at hc
    split at hc
    · rename_i h; exact absurd hc h
    · rename_i h; simpa using h
  have hrg : (0 ≤ f ∧ f < mN k) ∧ 0 ≤ o ∧ o < mN k := by
    unfold marksI at hc
    rw [if_neg (by simp [hc0])] at hc
    split at hc
    · rename_i h; unfold mN; omega
    · cases hc
  obtain ⟨⟨hf0, hf1⟩, ho0, ho1⟩ := hrg
  obtain ⟨x, rfl⟩ := Int.eq_ofNat_of_zero_le hf0
  obtain ⟨y, rfl⟩ := Int.eq_ofNat_of_zero_le ho0
  have hx : x < mN k := by omega
  have hy : y < mN k := by omega
  have hR := right_of_check hc0
  have HR := Lib.hid hR
  have HE := Lib.hid (show mostE k x y = (0, 9) by unfold mostE; rw [if_neg (show ¬ marksI k x y ≠ 0 by simp [hc]), if_neg (by simp [hcan])])
  have yM := fun v W h => rmarked_c k v x y W h
  rw [hc] at yM
  have YM := Lib.hid yM
  have yT := fun u W h => rtable_d k u W hR h
  rw [hcan] at yT
  have YT := Lib.hid yT
  clear hc yM yT hc0 hf0 hf1 ho0 ho1 hR hcan
  obtain ⟨A1, c1, A2, c2, A3, c3, rfl⟩ := kilnForm hk
  have HK := Lib.hid hk
  clear hk
  go_enter Tryz.func31, Tryz.ntmps31
  have bk := heap_alloc_new w (.cells #[.int .i64 k.room, .int .i64 k.per, .slice A1 k.ls.length c1, .slice A2 k.ds.length c2, .slice A3 k.ws.length c3] 26)
  have HB := below_alloc w (.cells #[.int .i64 k.room, .int .i64 k.per, .slice A1 k.ls.length c1, .slice A2 k.ds.length c2, .slice A3 k.ws.length c3] 26)
  have cbk0 := Joins.cell_of_block bk 0
  have cbk1 := Joins.cell_of_block bk 1
  have cbk2 := Joins.cell_of_block bk 2
  have cbk3 := Joins.cell_of_block bk 3
  have cbk4 := Joins.cell_of_block bk 4
  have zbk := size_of_block bk
  go_wp2_with fail
  generalize (w.alloc (.cells #[.int .i64 k.room, .int .i64 k.per, .slice A1 k.ls.length c1, .slice A2 k.ds.length c2, .slice A3 k.ws.length c3] 26)) = w1 at bk HB cbk0 cbk1 cbk2 cbk3 cbk4 zbk ⊢
  have hB := HB
  clear HB
  refine (YM.out _ w1 (HK.out.later hB)).mono ?_
  rintro e w2 ⟨rfl, hF⟩
  clear cbk0 cbk1 cbk2 cbk3 cbk4 zbk
  replace bk := (hF.block _ (size_of_block bk)).trans bk
  replace hB := below_then hB hF
  clear hF
  go_wp2_with fail
  refine wp_region_looseM [] [0, 2] (.one 1 (.one 3 (.one 4 .done))) [] [5, 6, 7] [8, 9] [] [] (by kernel_rfl) (by kernel_rfl) (by intro c a d v w h; cases d <;> exact h) (by intro c a d v w h; cases d <;> exact h) rfl (fun r i h => by simp at h) ?_
  simp only [pick, List.filterMap_cons, List.filterMap_nil, List.getElem?_toArray, List.getElem?_cons_succ, List.getElem?_cons_zero]
  intro u3 hu3
  replace bk := (hu3.block _ (size_of_block bk)).trans bk
  replace hB := below_then hB hu3
  have cbk0 := Joins.cell_of_block bk 0
  have cbk1 := Joins.cell_of_block bk 1
  have cbk2 := Joins.cell_of_block bk 2
  have cbk3 := Joins.cell_of_block bk 3
  have cbk4 := Joins.cell_of_block bk 4
  have zbk := size_of_block bk
  have hcg : ∀ (g : Gr u3) b o, b < u3.heap.size → g.val.cell? ⟨b, o, none⟩ = u3.cell? ⟨b, o, none⟩ := fun g b o h => (bcell g.b).1 b o h
  iterate 2 (first | (refine wpRel_step (fun K hK => ?_); go_simp; refine hK _ ?_; clear hK K))
  refine wpRel_nil fun V3_0 hb3 => ?_
  clear hcg cbk0 cbk1 cbk2 cbk3 cbk4 zbk
  replace bk := (hb3.block _ (size_of_block bk)).trans bk
  replace hB := below_then hB hb3
  clear hb3 hu3
  refine wpTr_step rfl rfl fun K hK => ?_
  go_simp
  refine (marks_c k _ V3_0 (HK.out.later hB)).mono ?_
  rintro e X ⟨rfl, hxx⟩
  refine hK _ _ hxx fun V3_1 hu => ?_
  clear hK K
  have hxu := below_then hxx hu
  replace bk := (hxu.block _ (size_of_block bk)).trans bk
  replace hB := below_then hB hxu
  clear hxx hu hxu
  refine wpTr_step rfl rfl fun K hK => ?_
  go_simp
  refine (rties_c k _ V3_1 (HK.out.later hB) HR.out.small).mono ?_
  rintro e X ⟨u, rfl, hTT, hxx⟩
  refine hK _ _ hxx fun V3_2 hu => ?_
  clear hK K
  replace hTT := own_later hTT hu
  have hxu := below_then hxx hu
  replace bk := (hxu.block _ (size_of_block bk)).trans bk
  replace hB := below_then hB hxu
  clear hxx hu hxu
  refine wpTr_step rfl rfl fun K hK => ?_
  go_simp
  refine (YT.out u V3_2 (OwnTies.at_ hTT (by have := tiesL_len HR.out.small; omega))).mono ?_
  rintro e X ⟨g, cap, bs, cp, D, rfl, _, hxx⟩
  refine hK _ _ hxx fun V3_3 hu => ?_
  clear hK K
  have hxu := below_then hxx hu
  replace bk := (hxu.block _ (size_of_block bk)).trans bk
  replace hTT := own_later hTT hxu
  replace hB := below_then hB hxu
  clear hxx hu hxu
  show wpPure _ _ _ _
  refine wpPure_step (.tuple #[.slice (some ⟨g, 0, none⟩) (mN k) cap, .bool false]) rfl (fun u => by first | rfl | simp [execOp, go_sem]) ?_
  refine wpPure_step (.slice (some ⟨g, 0, none⟩) (mN k) cap) rfl (fun u => by first | rfl | simp [execOp, go_sem]) ?_
  refine wpPure_step (.bool false) rfl (fun u => by first | rfl | simp [execOp, go_sem]) ?_
  intro ks hks _ _
  obtain rfl : ks = [] := List.length_eq_zero_iff.1 hks
  clear hks
  show wpList _ _ _ _ _ _
  simp only [deco]
  go_wp2_with fail
  refine bodyPost_ret (v := .tuple #[.int .i64 0, .int .i64 9]) ?_ rfl ⟨by rw [HE.out], hB⟩
  simp [results, Tryz.results31, go_sem]
set_option maxRecDepth 100000 in
set_option maxHeartbeats 4000000 in
theorem rMost_can (k : Kl) (v : Value) (f o : Int) (w : World) (hk : Kiln w v k) (hc : marksI k f o = 0) (hcan : canB (tiesL k) = true) : Calls Tryz.prog 31 #[v, .int .i64 f, .int .i64 o] w fun e w' => e = .returned (.tuple #[.int .i64 (mostE k f o).1, .int .i64 (mostE k f o).2]) ∧ Below w.heap.size w w' := by
  have hc0 : checkI k = 0 := by
    unfold marksI at hc
    split at hc
    · rename_i h; exact absurd hc h
    · rename_i h; simpa using h
  have hrg : (0 ≤ f ∧ f < mN k) ∧ 0 ≤ o ∧ o < mN k := by
    unfold marksI at hc
    rw [if_neg (by simp [hc0])] at hc
    split at hc
    · rename_i h; unfold mN; omega
    · cases hc
  obtain ⟨⟨hf0, hf1⟩, ho0, ho1⟩ := hrg
  obtain ⟨x, rfl⟩ := Int.eq_ofNat_of_zero_le hf0
  obtain ⟨y, rfl⟩ := Int.eq_ofNat_of_zero_le ho0
  have hx : x < mN k := by omega
  have hy : y < mN k := by omega
  have hR := right_of_check hc0
  have HR := Lib.hid hR
  have HE := Lib.hid (show mostE k x y = (dst (tiesL k) x y, 0) by unfold mostE; rw [if_neg (show ¬ marksI k x y ≠ 0 by simp [hc]), if_pos hcan])
  have yM := fun v W h => rmarked_c k v x y W h
  rw [hc] at yM
  have YM := Lib.hid yM
  have yT := fun u W h => rtable_d k u W hR h
  rw [hcan] at yT
  have YT := Lib.hid yT
  clear hc yM yT hc0 hf0 hf1 ho0 ho1 hR hcan
  obtain ⟨A1, c1, A2, c2, A3, c3, rfl⟩ := kilnForm hk
  have HK := Lib.hid hk
  clear hk
  go_enter Tryz.func31, Tryz.ntmps31
  have bk := heap_alloc_new w (.cells #[.int .i64 k.room, .int .i64 k.per, .slice A1 k.ls.length c1, .slice A2 k.ds.length c2, .slice A3 k.ws.length c3] 26)
  have HB := below_alloc w (.cells #[.int .i64 k.room, .int .i64 k.per, .slice A1 k.ls.length c1, .slice A2 k.ds.length c2, .slice A3 k.ws.length c3] 26)
  have cbk0 := Joins.cell_of_block bk 0
  have cbk1 := Joins.cell_of_block bk 1
  have cbk2 := Joins.cell_of_block bk 2
  have cbk3 := Joins.cell_of_block bk 3
  have cbk4 := Joins.cell_of_block bk 4
  have zbk := size_of_block bk
  go_wp2_with fail
  generalize (w.alloc (.cells #[.int .i64 k.room, .int .i64 k.per, .slice A1 k.ls.length c1, .slice A2 k.ds.length c2, .slice A3 k.ws.length c3] 26)) = w1 at bk HB cbk0 cbk1 cbk2 cbk3 cbk4 zbk ⊢
  have hB := HB
  clear HB
  refine (YM.out _ w1 (HK.out.later hB)).mono ?_
  rintro e w2 ⟨rfl, hF⟩
  clear cbk0 cbk1 cbk2 cbk3 cbk4 zbk
  replace bk := (hF.block _ (size_of_block bk)).trans bk
  replace hB := below_then hB hF
  clear hF
  go_wp2_with fail
  refine wp_region_looseM [] [0, 2] (.one 1 (.one 3 (.one 4 .done))) [] [5, 6, 7] [8, 9] [] [] (by kernel_rfl) (by kernel_rfl) (by intro c a d v w h; cases d <;> exact h) (by intro c a d v w h; cases d <;> exact h) rfl (fun r i h => by simp at h) ?_
  simp only [pick, List.filterMap_cons, List.filterMap_nil, List.getElem?_toArray, List.getElem?_cons_succ, List.getElem?_cons_zero]
  intro u3 hu3
  replace bk := (hu3.block _ (size_of_block bk)).trans bk
  replace hB := below_then hB hu3
  have cbk0 := Joins.cell_of_block bk 0
  have cbk1 := Joins.cell_of_block bk 1
  have cbk2 := Joins.cell_of_block bk 2
  have cbk3 := Joins.cell_of_block bk 3
  have cbk4 := Joins.cell_of_block bk 4
  have zbk := size_of_block bk
  have hcg : ∀ (g : Gr u3) b o, b < u3.heap.size → g.val.cell? ⟨b, o, none⟩ = u3.cell? ⟨b, o, none⟩ := fun g b o h => (bcell g.b).1 b o h
  iterate 2 (first | (refine wpRel_step (fun K hK => ?_); go_simp; refine hK _ ?_; clear hK K))
  refine wpRel_nil fun V3_0 hb3 => ?_
  clear hcg cbk0 cbk1 cbk2 cbk3 cbk4 zbk
  replace bk := (hb3.block _ (size_of_block bk)).trans bk
  replace hB := below_then hB hb3
  clear hb3 hu3
  refine wpTr_step rfl rfl fun K hK => ?_
  go_simp
  refine (marks_c k _ V3_0 (HK.out.later hB)).mono ?_
  rintro e X ⟨rfl, hxx⟩
  refine hK _ _ hxx fun V3_1 hu => ?_
  clear hK K
  have hxu := below_then hxx hu
  replace bk := (hxu.block _ (size_of_block bk)).trans bk
  replace hB := below_then hB hxu
  clear hxx hu hxu
  refine wpTr_step rfl rfl fun K hK => ?_
  go_simp
  refine (rties_c k _ V3_1 (HK.out.later hB) HR.out.small).mono ?_
  rintro e X ⟨u, rfl, hTT, hxx⟩
  refine hK _ _ hxx fun V3_2 hu => ?_
  clear hK K
  replace hTT := own_later hTT hu
  have hxu := below_then hxx hu
  replace bk := (hxu.block _ (size_of_block bk)).trans bk
  replace hB := below_then hB hxu
  clear hxx hu hxu
  refine wpTr_step rfl rfl fun K hK => ?_
  go_simp
  refine (YT.out u V3_2 (OwnTies.at_ hTT (by have := tiesL_len HR.out.small; omega))).mono ?_
  rintro e X ⟨g, cap, bs, cp, D, rfl, ⟨hc1, hc2, hc3⟩, hxx⟩
  refine hK _ _ hxx fun V3_3 hu => ?_
  clear hK K
  obtain ⟨p1, p2, p3⟩ := hc1 x y hx hy
  have e1 := hc3 trivial x y hx hy
  replace p1 := (hu.cell (p := ⟨g, x, none⟩) hc2).trans p1
  replace p2 := (hu.cell (p := ⟨bs x, y, none⟩) p3).trans p2
  rw [e1] at p2
  have z1 := Nat.lt_of_lt_of_le hc2 hu.size
  have z2 := Nat.lt_of_lt_of_le p3 hu.size
  clear hc1 hc2 hc3 p3 e1
  have hxu := below_then hxx hu
  replace bk := (hxu.block _ (size_of_block bk)).trans bk
  replace hTT := own_later hTT hxu
  replace hB := below_then hB hxu
  clear hxx hu hxu
  show wpPure _ _ _ _
  refine wpPure_step (.tuple #[.slice (some ⟨g, 0, none⟩) (mN k) cap, .bool true]) rfl (fun u => by first | rfl | simp [execOp, go_sem]) ?_
  refine wpPure_step (.slice (some ⟨g, 0, none⟩) (mN k) cap) rfl (fun u => by first | rfl | simp [execOp, go_sem]) ?_
  refine wpPure_step (.bool true) rfl (fun u => by first | rfl | simp [execOp, go_sem]) ?_
  intro ks hks _ _
  obtain rfl : ks = [] := List.length_eq_zero_iff.1 hks
  clear hks
  show wpList _ _ _ _ _ _
  simp only [deco]
  go_wp2_with fail
  refine bodyPost_ret (v := .tuple #[.int .i64 (dst (tiesL k) x y), .int .i64 0]) ?_ rfl ⟨by rw [HE.out], hB⟩
  simp [results, Tryz.results31, go_sem]
theorem rMost_c (k : Kl) (v : Value) (f o : Int) (w : World) (hk : Kiln w v k) : Calls Tryz.prog 31 #[v, .int .i64 f, .int .i64 o] w fun e w' => e = .returned (.tuple #[.int .i64 (mostE k f o).1, .int .i64 (mostE k f o).2]) ∧ Below w.heap.size w w' := by
  by_cases hc : marksI k f o = 0
  · cases hcan : canB (tiesL k)
    · exact rMost_cant k v f o w hk hc hcan
    · exact rMost_can k v f o w hk hc hcan
  · exact rMost_bad k v f o w hk hc
end Go.Proofs.YtnedcclmfokdnaaGreat
