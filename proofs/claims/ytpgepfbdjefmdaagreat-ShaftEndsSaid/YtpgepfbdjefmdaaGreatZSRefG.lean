/- The reference's Run, Held, Below, Feet (written by tools/gensrefg.py). -/
import Derived.Test.YtpgepfbdjefmdaaGreatZSRefF
import Derived.Test.YtpgepfbdjefmdaaGreatJ25
import Derived.Test.YtpgepfbdjefmdaaGreatZRefBE
import Derived.Test.YtpgepfbdjefmdaaGreatZSRFootE
namespace Go.Proofs.YtpgepfbdjefmdaaGreat
open Go Go.RowKit Go.Shelf
attribute [local go_sem] Oper.semAt_some Rel RelAt RelUpon

theorem hour_b (n : Int) (w : World) : Calls Tryz.prog 107 #[.int .i64 n] w fun e w' => e = .returned (.bool (inB n 0 16384)) ∧ Below w.heap.size w w' :=
  (hour_c n w).mono fun _ _ ⟨he, h⟩ => ⟨he, h ▸ Below.refl _ _⟩
theorem rfoot_b (a p : Int) (w : World) (ha : -687865856 ≤ a ∧ a ≤ 687865856) (hp : 1 ≤ p ∧ p ≤ 65536) : Calls Tryz.prog 114 #[.int .i64 a, .int .i64 p] w fun e w' => e = .returned (.int .i64 (floorI a p)) ∧ Below w.heap.size w w' :=
  (rfoot_c a p w ha hp).mono fun _ _ ⟨he, h⟩ => ⟨he, h ▸ Below.refl _ _⟩
set_option maxRecDepth 100000 in
set_option maxHeartbeats 4000000 in
theorem rRun_bad (k : Kl) (v : Value) (f o : Int) (w : World) (hk : Kiln w v k) (hc : checkI k ≠ 0) : Calls Tryz.prog 38 #[v, .int .i64 f, .int .i64 o] w fun e w' => e = .returned (.agg #[.int .i64 (runE k f o).1.1, .int .i64 (runE k f o).1.2, .int .i64 (runE k f o).2]) ∧ Below w.heap.size w w' := by
  have HE := Lib.hid (show runE k f o = ((0, 0), checkI k) by unfold runE; rw [if_pos hc])
  have d0 : (checkI k != 0) = true := by simpa using hc
  clear hc
  obtain ⟨A1, c1, A2, c2, A3, c3, rfl⟩ := kilnForm hk
  have HK := Lib.hid hk
  clear hk
  go_enter Tryz.func38, Tryz.ntmps38
  obtain ⟨bk, br, -, HB⟩ := two_new' w (.cells #[.int .i64 k.room, .int .i64 k.per, .slice A1 k.ls.length c1, .slice A2 k.ds.length c2, .slice A3 k.ws.length c3] 26) (.cells #[.int .i64 0, .int .i64 0, .int .i64 0] 67)
  have cbk0 := Joins.cell_of_block bk 0
  have cbk1 := Joins.cell_of_block bk 1
  have cbk2 := Joins.cell_of_block bk 2
  have cbk3 := Joins.cell_of_block bk 3
  have cbk4 := Joins.cell_of_block bk 4
  have zbk := size_of_block bk
  go_wp2_with fail
  generalize ((w.alloc (.cells #[.int .i64 k.room, .int .i64 k.per, .slice A1 k.ls.length c1, .slice A2 k.ds.length c2, .slice A3 k.ws.length c3] 26)).alloc (.cells #[.int .i64 0, .int .i64 0, .int .i64 0] 67)) = w1 at bk br HB cbk0 cbk1 cbk2 cbk3 cbk4 zbk ⊢
  have hB := HB
  clear HB
  refine (rcheck_c k _ w1 (HK.out.later hB)).mono ?_
  rintro e w2 ⟨rfl, hF⟩
  clear cbk0 cbk1 cbk2 cbk3 cbk4 zbk
  replace bk := (hF.block _ (size_of_block bk)).trans bk
  replace br := (hF.block _ (size_of_block br)).trans br
  replace hB := below_then hB hF
  clear hF
  have HPP := Lib.hid (fun j : Nat => cell_setRow_same w2 (w.heap.size + 1) j _ #[.int .i64 0, .int .i64 0, .int .i64 (checkI k)] _ _ br)
  have HBF := Lib.hid (below_setRow hB (show w.heap.size ≤ w.heap.size + 1 by omega) #[.int .i64 0, .int .i64 0, .int .i64 (checkI k)])
  skip
  go_wp2_with (first | (refine wpList_store_rowTo rfl 67 _ _ rfl rfl (w.heap.size + 1) #[.int .i64 0, .int .i64 0, .int .i64 (checkI k)] rfl rfl 67 _ br (by kernel_rfl) rfl (by kernel_rfl) ?_))
  refine bodyPost_ret (v := .agg #[.int .i64 0, .int .i64 0, .int .i64 (checkI k)]) ?_ rfl ⟨by rw [HE.out], HBF.out⟩
  simp [results, Tryz.results38, go_sem, HPP.out]
set_option maxRecDepth 100000 in
set_option maxHeartbeats 4000000 in
theorem rRun_none (k : Kl) (v : Value) (f o : Int) (w : World) (hk : Kiln w v k) (hc : checkI k = 0) (h1 : (place k.ls f < 0 ∨ place k.ls o < 0) ∧ (place k.ds f < 0 ∨ place k.ds o < 0)) : Calls Tryz.prog 38 #[v, .int .i64 f, .int .i64 o] w fun e w' => e = .returned (.agg #[.int .i64 (runE k f o).1.1, .int .i64 (runE k f o).1.2, .int .i64 (runE k f o).2]) ∧ Below w.heap.size w w' := by
  have HE := Lib.hid (show runE k f o = ((0, 0), 5) by rw [run_ref hc, if_pos h1])
  have rgp := place_range k.ls f
  have yp := fun v W h => load_c k v f W h
  obtain ⟨p, hp⟩ : ∃ p, p = place k.ls f := ⟨_, rfl⟩
  have rgq := place_range k.ls o
  have yq := fun v W h => load_c k v o W h
  obtain ⟨q, hq⟩ : ∃ q, q = place k.ls o := ⟨_, rfl⟩
  have rgr := place_range k.ds f
  have yr := fun v W h => draw_c k v f W h
  obtain ⟨r, hr⟩ : ∃ r, r = place k.ds f := ⟨_, rfl⟩
  have rgs := place_range k.ds o
  have ys := fun v W h => draw_c k v o W h
  obtain ⟨s, hs⟩ : ∃ s, s = place k.ds o := ⟨_, rfl⟩
  rw [← hp] at yp rgp h1
  have Yp := Lib.hid yp
  clear yp
  rw [← hq] at yq rgq h1
  have Yq := Lib.hid yq
  clear yq
  rw [← hr] at yr rgr h1
  have Yr := Lib.hid yr
  clear yr
  rw [← hs] at ys rgs h1
  have Ys := Lib.hid ys
  clear ys
  clear hp hq hr hs
  obtain ⟨A1, c1, A2, c2, A3, c3, rfl⟩ := kilnForm hk
  have HK := Lib.hid hk
  clear hk
  go_enter Tryz.func38, Tryz.ntmps38
  obtain ⟨bk, br, -, HB⟩ := two_new' w (.cells #[.int .i64 k.room, .int .i64 k.per, .slice A1 k.ls.length c1, .slice A2 k.ds.length c2, .slice A3 k.ws.length c3] 26) (.cells #[.int .i64 0, .int .i64 0, .int .i64 0] 67)
  have cbk0 := Joins.cell_of_block bk 0
  have cbk1 := Joins.cell_of_block bk 1
  have cbk2 := Joins.cell_of_block bk 2
  have cbk3 := Joins.cell_of_block bk 3
  have cbk4 := Joins.cell_of_block bk 4
  have zbk := size_of_block bk
  go_wp2_with fail
  generalize ((w.alloc (.cells #[.int .i64 k.room, .int .i64 k.per, .slice A1 k.ls.length c1, .slice A2 k.ds.length c2, .slice A3 k.ws.length c3] 26)).alloc (.cells #[.int .i64 0, .int .i64 0, .int .i64 0] 67)) = w1 at bk br HB cbk0 cbk1 cbk2 cbk3 cbk4 zbk ⊢
  have hB := HB
  clear HB
  refine (rcheck_c k _ w1 (HK.out.later hB)).mono ?_
  rintro e w2 ⟨rfl, hF⟩
  clear cbk0 cbk1 cbk2 cbk3 cbk4 zbk
  replace bk := (hF.block _ (size_of_block bk)).trans bk
  replace br := (hF.block _ (size_of_block br)).trans br
  replace hB := below_then hB hF
  clear hF
  rw [hc]
  clear hc
  have cbk0 := Joins.cell_of_block bk 0
  have cbk1 := Joins.cell_of_block bk 1
  have cbk2 := Joins.cell_of_block bk 2
  have cbk3 := Joins.cell_of_block bk 3
  have cbk4 := Joins.cell_of_block bk 4
  have zbk := size_of_block bk
  go_wp2_with fail
  refine (Yp.out _ w2 (HK.out.later hB)).mono ?_
  rintro e w3 ⟨rfl, hF⟩
  clear cbk0 cbk1 cbk2 cbk3 cbk4 zbk
  replace bk := (hF.block _ (size_of_block bk)).trans bk
  replace br := (hF.block _ (size_of_block br)).trans br
  replace hB := below_then hB hF
  clear hF
  have cbk0 := Joins.cell_of_block bk 0
  have cbk1 := Joins.cell_of_block bk 1
  have cbk2 := Joins.cell_of_block bk 2
  have cbk3 := Joins.cell_of_block bk 3
  have cbk4 := Joins.cell_of_block bk 4
  have zbk := size_of_block bk
  go_wp2_with fail
  refine (Yq.out _ w3 (HK.out.later hB)).mono ?_
  rintro e w4 ⟨rfl, hF⟩
  clear cbk0 cbk1 cbk2 cbk3 cbk4 zbk
  replace bk := (hF.block _ (size_of_block bk)).trans bk
  replace br := (hF.block _ (size_of_block br)).trans br
  replace hB := below_then hB hF
  clear hF
  have cbk0 := Joins.cell_of_block bk 0
  have cbk1 := Joins.cell_of_block bk 1
  have cbk2 := Joins.cell_of_block bk 2
  have cbk3 := Joins.cell_of_block bk 3
  have cbk4 := Joins.cell_of_block bk 4
  have zbk := size_of_block bk
  go_wp2_with fail
  refine (Yr.out _ w4 (HK.out.later hB)).mono ?_
  rintro e w5 ⟨rfl, hF⟩
  clear cbk0 cbk1 cbk2 cbk3 cbk4 zbk
  replace bk := (hF.block _ (size_of_block bk)).trans bk
  replace br := (hF.block _ (size_of_block br)).trans br
  replace hB := below_then hB hF
  clear hF
  have cbk0 := Joins.cell_of_block bk 0
  have cbk1 := Joins.cell_of_block bk 1
  have cbk2 := Joins.cell_of_block bk 2
  have cbk3 := Joins.cell_of_block bk 3
  have cbk4 := Joins.cell_of_block bk 4
  have zbk := size_of_block bk
  go_wp2_with fail
  refine (Ys.out _ w5 (HK.out.later hB)).mono ?_
  rintro e w6 ⟨rfl, hF⟩
  clear cbk0 cbk1 cbk2 cbk3 cbk4 zbk
  replace bk := (hF.block _ (size_of_block bk)).trans bk
  replace br := (hF.block _ (size_of_block br)).trans br
  replace hB := below_then hB hF
  clear hF
  have HPP := Lib.hid (fun j : Nat => cell_setRow_same w6 (w.heap.size + 1) j _ #[.int .i64 0, .int .i64 0, .int .i64 5] _ _ br)
  have HBF := Lib.hid (below_setRow hB (show w.heap.size ≤ w.heap.size + 1 by omega) #[.int .i64 0, .int .i64 0, .int .i64 5])
  go_wp2_with (first | (refine wpList_store_rowTo rfl 67 _ _ rfl rfl (w.heap.size + 1) #[.int .i64 0, .int .i64 0, .int .i64 5] rfl rfl 67 _ br (by kernel_rfl) rfl (by kernel_rfl) ?_))
  all_goals (try (exfalso; omega))
  all_goals ((refine bodyPost_ret (v := .agg #[.int .i64 0, .int .i64 0, .int .i64 5]) ?_ rfl ⟨by rw [HE.out], HBF.out⟩); (simp [results, Tryz.results38, go_sem, HPP.out]))
set_option maxRecDepth 100000 in
set_option maxHeartbeats 4000000 in
theorem rRun_back (k : Kl) (v : Value) (f o : Int) (w : World) (hk : Kiln w v k) (hc : checkI k = 0) (h1 : ¬ ((place k.ls f < 0 ∨ place k.ls o < 0) ∧ (place k.ds f < 0 ∨ place k.ds o < 0))) (h2 : place k.ls o < place k.ls f ∨ place k.ds o < place k.ds f) : Calls Tryz.prog 38 #[v, .int .i64 f, .int .i64 o] w fun e w' => e = .returned (.agg #[.int .i64 (runE k f o).1.1, .int .i64 (runE k f o).1.2, .int .i64 (runE k f o).2]) ∧ Below w.heap.size w w' := by
  have HE := Lib.hid (show runE k f o = ((0, 0), 1) by rw [run_ref hc, if_neg h1, if_pos h2])
  have rgp := place_range k.ls f
  have yp := fun v W h => load_c k v f W h
  obtain ⟨p, hp⟩ : ∃ p, p = place k.ls f := ⟨_, rfl⟩
  have rgq := place_range k.ls o
  have yq := fun v W h => load_c k v o W h
  obtain ⟨q, hq⟩ : ∃ q, q = place k.ls o := ⟨_, rfl⟩
  have rgr := place_range k.ds f
  have yr := fun v W h => draw_c k v f W h
  obtain ⟨r, hr⟩ : ∃ r, r = place k.ds f := ⟨_, rfl⟩
  have rgs := place_range k.ds o
  have ys := fun v W h => draw_c k v o W h
  obtain ⟨s, hs⟩ : ∃ s, s = place k.ds o := ⟨_, rfl⟩
  rw [← hp] at yp rgp h1 h2
  have Yp := Lib.hid yp
  clear yp
  rw [← hq] at yq rgq h1 h2
  have Yq := Lib.hid yq
  clear yq
  rw [← hr] at yr rgr h1 h2
  have Yr := Lib.hid yr
  clear yr
  rw [← hs] at ys rgs h1 h2
  have Ys := Lib.hid ys
  clear ys
  clear hp hq hr hs
  obtain ⟨A1, c1, A2, c2, A3, c3, rfl⟩ := kilnForm hk
  have HK := Lib.hid hk
  clear hk
  go_enter Tryz.func38, Tryz.ntmps38
  obtain ⟨bk, br, -, HB⟩ := two_new' w (.cells #[.int .i64 k.room, .int .i64 k.per, .slice A1 k.ls.length c1, .slice A2 k.ds.length c2, .slice A3 k.ws.length c3] 26) (.cells #[.int .i64 0, .int .i64 0, .int .i64 0] 67)
  have cbk0 := Joins.cell_of_block bk 0
  have cbk1 := Joins.cell_of_block bk 1
  have cbk2 := Joins.cell_of_block bk 2
  have cbk3 := Joins.cell_of_block bk 3
  have cbk4 := Joins.cell_of_block bk 4
  have zbk := size_of_block bk
  go_wp2_with fail
  generalize ((w.alloc (.cells #[.int .i64 k.room, .int .i64 k.per, .slice A1 k.ls.length c1, .slice A2 k.ds.length c2, .slice A3 k.ws.length c3] 26)).alloc (.cells #[.int .i64 0, .int .i64 0, .int .i64 0] 67)) = w1 at bk br HB cbk0 cbk1 cbk2 cbk3 cbk4 zbk ⊢
  have hB := HB
  clear HB
  refine (rcheck_c k _ w1 (HK.out.later hB)).mono ?_
  rintro e w2 ⟨rfl, hF⟩
  clear cbk0 cbk1 cbk2 cbk3 cbk4 zbk
  replace bk := (hF.block _ (size_of_block bk)).trans bk
  replace br := (hF.block _ (size_of_block br)).trans br
  replace hB := below_then hB hF
  clear hF
  rw [hc]
  clear hc
  have cbk0 := Joins.cell_of_block bk 0
  have cbk1 := Joins.cell_of_block bk 1
  have cbk2 := Joins.cell_of_block bk 2
  have cbk3 := Joins.cell_of_block bk 3
  have cbk4 := Joins.cell_of_block bk 4
  have zbk := size_of_block bk
  go_wp2_with fail
  refine (Yp.out _ w2 (HK.out.later hB)).mono ?_
  rintro e w3 ⟨rfl, hF⟩
  clear cbk0 cbk1 cbk2 cbk3 cbk4 zbk
  replace bk := (hF.block _ (size_of_block bk)).trans bk
  replace br := (hF.block _ (size_of_block br)).trans br
  replace hB := below_then hB hF
  clear hF
  have cbk0 := Joins.cell_of_block bk 0
  have cbk1 := Joins.cell_of_block bk 1
  have cbk2 := Joins.cell_of_block bk 2
  have cbk3 := Joins.cell_of_block bk 3
  have cbk4 := Joins.cell_of_block bk 4
  have zbk := size_of_block bk
  go_wp2_with fail
  refine (Yq.out _ w3 (HK.out.later hB)).mono ?_
  rintro e w4 ⟨rfl, hF⟩
  clear cbk0 cbk1 cbk2 cbk3 cbk4 zbk
  replace bk := (hF.block _ (size_of_block bk)).trans bk
  replace br := (hF.block _ (size_of_block br)).trans br
  replace hB := below_then hB hF
  clear hF
  have cbk0 := Joins.cell_of_block bk 0
  have cbk1 := Joins.cell_of_block bk 1
  have cbk2 := Joins.cell_of_block bk 2
  have cbk3 := Joins.cell_of_block bk 3
  have cbk4 := Joins.cell_of_block bk 4
  have zbk := size_of_block bk
  go_wp2_with fail
  refine (Yr.out _ w4 (HK.out.later hB)).mono ?_
  rintro e w5 ⟨rfl, hF⟩
  clear cbk0 cbk1 cbk2 cbk3 cbk4 zbk
  replace bk := (hF.block _ (size_of_block bk)).trans bk
  replace br := (hF.block _ (size_of_block br)).trans br
  replace hB := below_then hB hF
  clear hF
  have cbk0 := Joins.cell_of_block bk 0
  have cbk1 := Joins.cell_of_block bk 1
  have cbk2 := Joins.cell_of_block bk 2
  have cbk3 := Joins.cell_of_block bk 3
  have cbk4 := Joins.cell_of_block bk 4
  have zbk := size_of_block bk
  go_wp2_with fail
  refine (Ys.out _ w5 (HK.out.later hB)).mono ?_
  rintro e w6 ⟨rfl, hF⟩
  clear cbk0 cbk1 cbk2 cbk3 cbk4 zbk
  replace bk := (hF.block _ (size_of_block bk)).trans bk
  replace br := (hF.block _ (size_of_block br)).trans br
  replace hB := below_then hB hF
  clear hF
  have HPP := Lib.hid (fun j : Nat => cell_setRow_same w6 (w.heap.size + 1) j _ #[.int .i64 0, .int .i64 0, .int .i64 1] _ _ br)
  have HBF := Lib.hid (below_setRow hB (show w.heap.size ≤ w.heap.size + 1 by omega) #[.int .i64 0, .int .i64 0, .int .i64 1])
  go_wp2_with (first | (refine wpList_store_rowTo rfl 67 _ _ rfl rfl (w.heap.size + 1) #[.int .i64 0, .int .i64 0, .int .i64 1] rfl rfl 67 _ br (by kernel_rfl) rfl (by kernel_rfl) ?_))
  all_goals (try (exfalso; omega))
  all_goals ((refine bodyPost_ret (v := .agg #[.int .i64 0, .int .i64 0, .int .i64 1]) ?_ rfl ⟨by rw [HE.out], HBF.out⟩); (simp [results, Tryz.results38, go_sem, HPP.out]))
set_option maxRecDepth 100000 in
set_option maxHeartbeats 4000000 in
theorem rRun_load (k : Kl) (v : Value) (f o : Int) (w : World) (hk : Kiln w v k) (hc : checkI k = 0) (h1 : ¬ ((place k.ls f < 0 ∨ place k.ls o < 0) ∧ (place k.ds f < 0 ∨ place k.ds o < 0))) (h2 : ¬ (place k.ls o < place k.ls f ∨ place k.ds o < place k.ds f)) (h3 : 0 ≤ place k.ls f) : Calls Tryz.prog 38 #[v, .int .i64 f, .int .i64 o] w fun e w' => e = .returned (.agg #[.int .i64 (runE k f o).1.1, .int .i64 (runE k f o).1.2, .int .i64 (runE k f o).2]) ∧ Below w.heap.size w w' := by
  have HE := Lib.hid (show runE k f o = betw k (place k.ls f) (place k.ls o + 1) by rw [run_ref hc, if_neg h1, if_neg h2, if_pos h3])
  have hR := right_of_check hc
  have HR := Lib.hid hR
  have hmn := mN_eq k
  have n1 := hR.ls
  have n2 := hR.ds
  have rgp := place_range k.ls f
  have yp := fun v W h => load_c k v f W h
  obtain ⟨p, hp⟩ : ∃ p, p = place k.ls f := ⟨_, rfl⟩
  have rgq := place_range k.ls o
  have yq := fun v W h => load_c k v o W h
  obtain ⟨q, hq⟩ : ∃ q, q = place k.ls o := ⟨_, rfl⟩
  have rgr := place_range k.ds f
  have yr := fun v W h => draw_c k v f W h
  obtain ⟨r, hr⟩ : ∃ r, r = place k.ds f := ⟨_, rfl⟩
  have rgs := place_range k.ds o
  have ys := fun v W h => draw_c k v o W h
  obtain ⟨s, hs⟩ : ∃ s, s = place k.ds o := ⟨_, rfl⟩
  rw [← hp] at yp rgp h1 h2 h3 HE
  have Yp := Lib.hid yp
  clear yp
  rw [← hq] at yq rgq h1 h2 HE
  have Yq := Lib.hid yq
  clear yq
  rw [← hr] at yr rgr h1 h2
  have Yr := Lib.hid yr
  clear yr
  rw [← hs] at ys rgs h1 h2
  have Ys := Lib.hid ys
  clear ys
  clear hp hq hr hs
  have hx1 : 0 ≤ p ∧ p < mN k := by unfold mN; omega
  have hx2 : 0 ≤ q + 1 ∧ q + 1 < mN k := by unfold mN; omega
  obtain ⟨A1, c1, A2, c2, A3, c3, rfl⟩ := kilnForm hk
  have HK := Lib.hid hk
  clear hk
  go_enter Tryz.func38, Tryz.ntmps38
  obtain ⟨bk, br, -, HB⟩ := two_new' w (.cells #[.int .i64 k.room, .int .i64 k.per, .slice A1 k.ls.length c1, .slice A2 k.ds.length c2, .slice A3 k.ws.length c3] 26) (.cells #[.int .i64 0, .int .i64 0, .int .i64 0] 67)
  have cbk0 := Joins.cell_of_block bk 0
  have cbk1 := Joins.cell_of_block bk 1
  have cbk2 := Joins.cell_of_block bk 2
  have cbk3 := Joins.cell_of_block bk 3
  have cbk4 := Joins.cell_of_block bk 4
  have zbk := size_of_block bk
  go_wp2_with fail
  generalize ((w.alloc (.cells #[.int .i64 k.room, .int .i64 k.per, .slice A1 k.ls.length c1, .slice A2 k.ds.length c2, .slice A3 k.ws.length c3] 26)).alloc (.cells #[.int .i64 0, .int .i64 0, .int .i64 0] 67)) = w1 at bk br HB cbk0 cbk1 cbk2 cbk3 cbk4 zbk ⊢
  have hB := HB
  clear HB
  refine (rcheck_c k _ w1 (HK.out.later hB)).mono ?_
  rintro e w2 ⟨rfl, hF⟩
  clear cbk0 cbk1 cbk2 cbk3 cbk4 zbk
  replace bk := (hF.block _ (size_of_block bk)).trans bk
  replace br := (hF.block _ (size_of_block br)).trans br
  replace hB := below_then hB hF
  clear hF
  rw [hc]
  clear hc
  have cbk0 := Joins.cell_of_block bk 0
  have cbk1 := Joins.cell_of_block bk 1
  have cbk2 := Joins.cell_of_block bk 2
  have cbk3 := Joins.cell_of_block bk 3
  have cbk4 := Joins.cell_of_block bk 4
  have zbk := size_of_block bk
  go_wp2_with fail
  refine (Yp.out _ w2 (HK.out.later hB)).mono ?_
  rintro e w3 ⟨rfl, hF⟩
  clear cbk0 cbk1 cbk2 cbk3 cbk4 zbk
  replace bk := (hF.block _ (size_of_block bk)).trans bk
  replace br := (hF.block _ (size_of_block br)).trans br
  replace hB := below_then hB hF
  clear hF
  have cbk0 := Joins.cell_of_block bk 0
  have cbk1 := Joins.cell_of_block bk 1
  have cbk2 := Joins.cell_of_block bk 2
  have cbk3 := Joins.cell_of_block bk 3
  have cbk4 := Joins.cell_of_block bk 4
  have zbk := size_of_block bk
  go_wp2_with fail
  refine (Yq.out _ w3 (HK.out.later hB)).mono ?_
  rintro e w4 ⟨rfl, hF⟩
  clear cbk0 cbk1 cbk2 cbk3 cbk4 zbk
  replace bk := (hF.block _ (size_of_block bk)).trans bk
  replace br := (hF.block _ (size_of_block br)).trans br
  replace hB := below_then hB hF
  clear hF
  have cbk0 := Joins.cell_of_block bk 0
  have cbk1 := Joins.cell_of_block bk 1
  have cbk2 := Joins.cell_of_block bk 2
  have cbk3 := Joins.cell_of_block bk 3
  have cbk4 := Joins.cell_of_block bk 4
  have zbk := size_of_block bk
  go_wp2_with fail
  refine (Yr.out _ w4 (HK.out.later hB)).mono ?_
  rintro e w5 ⟨rfl, hF⟩
  clear cbk0 cbk1 cbk2 cbk3 cbk4 zbk
  replace bk := (hF.block _ (size_of_block bk)).trans bk
  replace br := (hF.block _ (size_of_block br)).trans br
  replace hB := below_then hB hF
  clear hF
  have cbk0 := Joins.cell_of_block bk 0
  have cbk1 := Joins.cell_of_block bk 1
  have cbk2 := Joins.cell_of_block bk 2
  have cbk3 := Joins.cell_of_block bk 3
  have cbk4 := Joins.cell_of_block bk 4
  have zbk := size_of_block bk
  go_wp2_with fail
  refine (Ys.out _ w5 (HK.out.later hB)).mono ?_
  rintro e w6 ⟨rfl, hF⟩
  clear cbk0 cbk1 cbk2 cbk3 cbk4 zbk
  replace bk := (hF.block _ (size_of_block bk)).trans bk
  replace br := (hF.block _ (size_of_block br)).trans br
  replace hB := below_then hB hF
  clear hF
  have cbk0 := Joins.cell_of_block bk 0
  have cbk1 := Joins.cell_of_block bk 1
  have cbk2 := Joins.cell_of_block bk 2
  have cbk3 := Joins.cell_of_block bk 3
  have cbk4 := Joins.cell_of_block bk 4
  have zbk := size_of_block bk
  go_wp2_with fail
  all_goals (try (exfalso; omega))
  all_goals ((refine (rbetween_i k _ p (q + 1) w6 (HK.out.later hB) HR.out hx1 hx2).mono ?_); (rintro e w7 ⟨rfl, hF⟩); (clear cbk0 cbk1 cbk2 cbk3 cbk4 zbk); (replace bk := (hF.block _ (size_of_block bk)).trans bk); (replace br := (hF.block _ (size_of_block br)).trans br); (replace hB := below_then hB hF); (clear hF); (have HPP := Lib.hid (fun j : Nat => cell_setRow_same w7 (w.heap.size + 1) j _ #[.int .i64 (betw k p (q + 1)).1.1, .int .i64 (betw k p (q + 1)).1.2, .int .i64 (betw k p (q + 1)).2] _ _ br)); (have HBF := Lib.hid (below_setRow hB (show w.heap.size ≤ w.heap.size + 1 by omega) #[.int .i64 (betw k p (q + 1)).1.1, .int .i64 (betw k p (q + 1)).1.2, .int .i64 (betw k p (q + 1)).2])); (go_wp2_with (first | (refine wpList_store_rowTo rfl 67 _ _ rfl rfl (w.heap.size + 1) #[.int .i64 (betw k p (q + 1)).1.1, .int .i64 (betw k p (q + 1)).1.2, .int .i64 (betw k p (q + 1)).2] rfl rfl 67 _ br (by kernel_rfl) rfl (by kernel_rfl) ?_))); (refine bodyPost_ret (v := .agg #[.int .i64 (betw k p (q + 1)).1.1, .int .i64 (betw k p (q + 1)).1.2, .int .i64 (betw k p (q + 1)).2]) ?_ rfl ⟨by rw [HE.out], HBF.out⟩); (simp [results, Tryz.results38, go_sem, HPP.out]))
set_option maxRecDepth 100000 in
set_option maxHeartbeats 4000000 in
theorem rRun_draw (k : Kl) (v : Value) (f o : Int) (w : World) (hk : Kiln w v k) (hc : checkI k = 0) (h1 : ¬ ((place k.ls f < 0 ∨ place k.ls o < 0) ∧ (place k.ds f < 0 ∨ place k.ds o < 0))) (h2 : ¬ (place k.ls o < place k.ls f ∨ place k.ds o < place k.ds f)) (h3 : ¬ 0 ≤ place k.ls f) : Calls Tryz.prog 38 #[v, .int .i64 f, .int .i64 o] w fun e w' => e = .returned (.agg #[.int .i64 (runE k f o).1.1, .int .i64 (runE k f o).1.2, .int .i64 (runE k f o).2]) ∧ Below w.heap.size w w' := by
  have HE := Lib.hid (show runE k f o = betw k (markI k (place k.ds f)) (markI k (place k.ds o + 1)) by rw [run_ref hc, if_neg h1, if_neg h2, if_neg h3])
  have hR := right_of_check hc
  have HR := Lib.hid hR
  have hmn := mN_eq k
  have n1 := hR.ls
  have n2 := hR.ds
  have hld := fun h => load_only hR (id := o) h
  have rgp := place_range k.ls f
  have yp := fun v W h => load_c k v f W h
  obtain ⟨p, hp⟩ : ∃ p, p = place k.ls f := ⟨_, rfl⟩
  have rgq := place_range k.ls o
  have yq := fun v W h => load_c k v o W h
  obtain ⟨q, hq⟩ : ∃ q, q = place k.ls o := ⟨_, rfl⟩
  have rgr := place_range k.ds f
  have yr := fun v W h => draw_c k v f W h
  obtain ⟨r, hr⟩ : ∃ r, r = place k.ds f := ⟨_, rfl⟩
  have rgs := place_range k.ds o
  have ys := fun v W h => draw_c k v o W h
  obtain ⟨s, hs⟩ : ∃ s, s = place k.ds o := ⟨_, rfl⟩
  rw [← hp] at yp rgp h1 h2 h3
  have Yp := Lib.hid yp
  clear yp
  rw [← hq] at yq rgq h1 h2 hld
  have Yq := Lib.hid yq
  clear yq
  rw [← hr] at yr rgr h1 h2 HE
  have Yr := Lib.hid yr
  clear yr
  rw [← hs] at ys rgs h1 h2 HE hld
  have Ys := Lib.hid ys
  clear ys
  clear hp hq hr hs
  have hq0 : ¬ 0 ≤ q := fun h => by have := hld h; omega
  clear hld
  have hx1 := mark_rngN (k := k) (n := r) (by omega)
  have hx2 := mark_rngN (k := k) (n := s + 1) (by omega)
  have hw := Lib.hid (show IntKind.i64.wrap (s + 1) = s + 1 by rw [IntKind.wrap_i64]; omega)
  obtain ⟨A1, c1, A2, c2, A3, c3, rfl⟩ := kilnForm hk
  have HK := Lib.hid hk
  clear hk
  go_enter Tryz.func38, Tryz.ntmps38
  obtain ⟨bk, br, -, HB⟩ := two_new' w (.cells #[.int .i64 k.room, .int .i64 k.per, .slice A1 k.ls.length c1, .slice A2 k.ds.length c2, .slice A3 k.ws.length c3] 26) (.cells #[.int .i64 0, .int .i64 0, .int .i64 0] 67)
  have cbk0 := Joins.cell_of_block bk 0
  have cbk1 := Joins.cell_of_block bk 1
  have cbk2 := Joins.cell_of_block bk 2
  have cbk3 := Joins.cell_of_block bk 3
  have cbk4 := Joins.cell_of_block bk 4
  have zbk := size_of_block bk
  go_wp2_with fail
  generalize ((w.alloc (.cells #[.int .i64 k.room, .int .i64 k.per, .slice A1 k.ls.length c1, .slice A2 k.ds.length c2, .slice A3 k.ws.length c3] 26)).alloc (.cells #[.int .i64 0, .int .i64 0, .int .i64 0] 67)) = w1 at bk br HB cbk0 cbk1 cbk2 cbk3 cbk4 zbk ⊢
  have hB := HB
  clear HB
  refine (rcheck_c k _ w1 (HK.out.later hB)).mono ?_
  rintro e w2 ⟨rfl, hF⟩
  clear cbk0 cbk1 cbk2 cbk3 cbk4 zbk
  replace bk := (hF.block _ (size_of_block bk)).trans bk
  replace br := (hF.block _ (size_of_block br)).trans br
  replace hB := below_then hB hF
  clear hF
  rw [hc]
  clear hc
  have cbk0 := Joins.cell_of_block bk 0
  have cbk1 := Joins.cell_of_block bk 1
  have cbk2 := Joins.cell_of_block bk 2
  have cbk3 := Joins.cell_of_block bk 3
  have cbk4 := Joins.cell_of_block bk 4
  have zbk := size_of_block bk
  go_wp2_with fail
  refine (Yp.out _ w2 (HK.out.later hB)).mono ?_
  rintro e w3 ⟨rfl, hF⟩
  clear cbk0 cbk1 cbk2 cbk3 cbk4 zbk
  replace bk := (hF.block _ (size_of_block bk)).trans bk
  replace br := (hF.block _ (size_of_block br)).trans br
  replace hB := below_then hB hF
  clear hF
  have cbk0 := Joins.cell_of_block bk 0
  have cbk1 := Joins.cell_of_block bk 1
  have cbk2 := Joins.cell_of_block bk 2
  have cbk3 := Joins.cell_of_block bk 3
  have cbk4 := Joins.cell_of_block bk 4
  have zbk := size_of_block bk
  go_wp2_with fail
  refine (Yq.out _ w3 (HK.out.later hB)).mono ?_
  rintro e w4 ⟨rfl, hF⟩
  clear cbk0 cbk1 cbk2 cbk3 cbk4 zbk
  replace bk := (hF.block _ (size_of_block bk)).trans bk
  replace br := (hF.block _ (size_of_block br)).trans br
  replace hB := below_then hB hF
  clear hF
  have cbk0 := Joins.cell_of_block bk 0
  have cbk1 := Joins.cell_of_block bk 1
  have cbk2 := Joins.cell_of_block bk 2
  have cbk3 := Joins.cell_of_block bk 3
  have cbk4 := Joins.cell_of_block bk 4
  have zbk := size_of_block bk
  go_wp2_with fail
  refine (Yr.out _ w4 (HK.out.later hB)).mono ?_
  rintro e w5 ⟨rfl, hF⟩
  clear cbk0 cbk1 cbk2 cbk3 cbk4 zbk
  replace bk := (hF.block _ (size_of_block bk)).trans bk
  replace br := (hF.block _ (size_of_block br)).trans br
  replace hB := below_then hB hF
  clear hF
  have cbk0 := Joins.cell_of_block bk 0
  have cbk1 := Joins.cell_of_block bk 1
  have cbk2 := Joins.cell_of_block bk 2
  have cbk3 := Joins.cell_of_block bk 3
  have cbk4 := Joins.cell_of_block bk 4
  have zbk := size_of_block bk
  go_wp2_with fail
  refine (Ys.out _ w5 (HK.out.later hB)).mono ?_
  rintro e w6 ⟨rfl, hF⟩
  clear cbk0 cbk1 cbk2 cbk3 cbk4 zbk
  replace bk := (hF.block _ (size_of_block bk)).trans bk
  replace br := (hF.block _ (size_of_block br)).trans br
  replace hB := below_then hB hF
  clear hF
  go_wp2_with fail
  all_goals (try (exfalso; omega))
  refine wp_region_looseM [2, 5] [0, 1, 4, 6] (.one 3 (.one 7 (.one 8 .done))) [] [] [9] [] [] (by kernel_rfl) (by kernel_rfl) (by intro c a d v w h; cases d <;> exact h) (by intro c a d v w h; cases d <;> exact h) rfl (fun r i h => by simp at h) ?_
  simp only [pick, List.filterMap_cons, List.filterMap_nil, List.getElem?_toArray, List.getElem?_cons_succ, List.getElem?_cons_zero]
  refine wpPure_step (.int .i64 r) rfl (fun u => by first | rfl | kernel_rfl | simp [execOp, go_sem]) ?_
  refine wpPure_step (.int .i64 s) rfl (fun u => by first | rfl | kernel_rfl | simp [execOp, go_sem]) ?_
  intro u7 hu7
  replace bk := (hu7.block _ (size_of_block bk)).trans bk
  replace br := (hu7.block _ (size_of_block br)).trans br
  replace hB := below_then hB hu7
  have cbk0 := Joins.cell_of_block bk 0
  have cbk1 := Joins.cell_of_block bk 1
  have cbk2 := Joins.cell_of_block bk 2
  have cbk3 := Joins.cell_of_block bk 3
  have cbk4 := Joins.cell_of_block bk 4
  have zbk := size_of_block bk
  have hcg : ∀ (g : Gr u7) b o, b < u7.heap.size → g.val.cell? ⟨b, o, none⟩ = u7.cell? ⟨b, o, none⟩ := fun g b o h => (bcell g.b).1 b o h
  iterate 4 (first | (refine wpRel_step (fun K hK => ?_); go_simp; refine hK _ ?_; clear hK K))
  refine wpRel_nil fun V7_0 hb7 => ?_
  clear hcg cbk0 cbk1 cbk2 cbk3 cbk4 zbk
  replace bk := (hb7.block _ (size_of_block bk)).trans bk
  replace br := (hb7.block _ (size_of_block br)).trans br
  replace hB := below_then hB hb7
  clear hb7 hu7
  refine wpTr_step rfl rfl fun K hK => ?_
  go_simp
  refine (mark_c k _ r V7_0 (by omega) (by omega) (HK.out.later hB)).mono ?_
  rintro e X ⟨rfl, hx⟩
  refine hK _ _ hx fun V7_1 hu => ?_
  clear hK K
  have hxu := below_then hx hu
  replace bk := (hxu.block _ (size_of_block bk)).trans bk
  replace br := (hxu.block _ (size_of_block br)).trans br
  replace hB := below_then hB hxu
  clear hx hu hxu
  refine wpTr_step rfl rfl fun K hK => ?_
  go_simp
  try rw [hw.out]
  refine (mark_c k _ (s + 1) V7_1 (by omega) (by omega) (HK.out.later hB)).mono ?_
  rintro e X ⟨rfl, hx⟩
  refine hK _ _ hx fun V7_2 hu => ?_
  clear hK K
  have hxu := below_then hx hu
  replace bk := (hxu.block _ (size_of_block bk)).trans bk
  replace br := (hxu.block _ (size_of_block br)).trans br
  replace hB := below_then hB hxu
  clear hx hu hxu
  refine wpTr_step rfl rfl fun K hK => ?_
  go_simp
  refine (rbetween_i k _ (markI k r) (markI k (s + 1)) V7_2 (HK.out.later hB) HR.out hx1 hx2).mono ?_
  rintro e X ⟨rfl, hx⟩
  refine hK _ _ hx fun V7_3 hu => ?_
  clear hK K
  have hxu := below_then hx hu
  replace bk := (hxu.block _ (size_of_block bk)).trans bk
  replace br := (hxu.block _ (size_of_block br)).trans br
  replace hB := below_then hB hxu
  clear hx hu hxu
  show wpPure _ _ _ _
  intro ks hks _ _
  obtain rfl : ks = [] := List.length_eq_zero_iff.1 hks
  clear hks
  show wpList _ _ _ _ _ _
  simp only [deco]
  have HPP := Lib.hid (fun j : Nat => cell_setRow_same V7_3 (w.heap.size + 1) j _ #[.int .i64 (betw k (markI k r) (markI k (s + 1))).1.1, .int .i64 (betw k (markI k r) (markI k (s + 1))).1.2, .int .i64 (betw k (markI k r) (markI k (s + 1))).2] _ _ br)
  have HBF := Lib.hid (below_setRow hB (show w.heap.size ≤ w.heap.size + 1 by omega) #[.int .i64 (betw k (markI k r) (markI k (s + 1))).1.1, .int .i64 (betw k (markI k r) (markI k (s + 1))).1.2, .int .i64 (betw k (markI k r) (markI k (s + 1))).2])
  skip
  skip
  refine wpList_store_rowTo rfl 67 _ _ rfl rfl (w.heap.size + 1) #[.int .i64 (betw k (markI k r) (markI k (s + 1))).1.1, .int .i64 (betw k (markI k r) (markI k (s + 1))).1.2, .int .i64 (betw k (markI k r) (markI k (s + 1))).2] rfl rfl 67 _ br (by kernel_rfl) rfl (by kernel_rfl) ?_
  go_wp2_with fail
  refine bodyPost_ret (v := .agg #[.int .i64 (betw k (markI k r) (markI k (s + 1))).1.1, .int .i64 (betw k (markI k r) (markI k (s + 1))).1.2, .int .i64 (betw k (markI k r) (markI k (s + 1))).2]) ?_ rfl ⟨by rw [HE.out], HBF.out⟩
  simp [results, Tryz.results38, go_sem, HPP.out]
theorem rRun_c (k : Kl) (v : Value) (f o : Int) (w : World) (hk : Kiln w v k) : Calls Tryz.prog 38 #[v, .int .i64 f, .int .i64 o] w fun e w' => e = .returned (.agg #[.int .i64 (runE k f o).1.1, .int .i64 (runE k f o).1.2, .int .i64 (runE k f o).2]) ∧ Below w.heap.size w w' := by
  by_cases hc : checkI k = 0
  · by_cases h1 : (place k.ls f < 0 ∨ place k.ls o < 0) ∧ (place k.ds f < 0 ∨ place k.ds o < 0)
    · exact rRun_none k v f o w hk hc h1
    · by_cases h2 : place k.ls o < place k.ls f ∨ place k.ds o < place k.ds f
      · exact rRun_back k v f o w hk hc h1 h2
      · by_cases h3 : 0 ≤ place k.ls f
        · exact rRun_load k v f o w hk hc h1 h2 h3
        · exact rRun_draw k v f o w hk hc h1 h2 h3
  · exact rRun_bad k v f o w hk hc
set_option maxRecDepth 100000 in
set_option maxHeartbeats 4000000 in
theorem rHeld_bad (k : Kl) (v : Value) (h : Int) (w : World) (hk : Kiln w v k) (hc : checkI k ≠ 0) : Calls Tryz.prog 40 #[v, .int .i64 h] w fun e w' => e = .returned (.agg #[.int .i64 (heldE k h).1.1, .int .i64 (heldE k h).1.2, .int .i64 (heldE k h).2]) ∧ Below w.heap.size w w' := by
  have HE := Lib.hid (show heldE k h = ((0, 0), checkI k) by unfold heldE hourI; rw [if_pos hc, if_pos hc])
  have d0 : (checkI k != 0) = true := by simpa using hc
  clear hc
  obtain ⟨A1, c1, A2, c2, A3, c3, rfl⟩ := kilnForm hk
  have HK := Lib.hid hk
  clear hk
  go_enter Tryz.func40, Tryz.ntmps40
  obtain ⟨bk, br, -, HB⟩ := two_new' w (.cells #[.int .i64 k.room, .int .i64 k.per, .slice A1 k.ls.length c1, .slice A2 k.ds.length c2, .slice A3 k.ws.length c3] 26) (.cells #[.int .i64 0, .int .i64 0, .int .i64 0] 67)
  have cbk0 := Joins.cell_of_block bk 0
  have cbk1 := Joins.cell_of_block bk 1
  have cbk2 := Joins.cell_of_block bk 2
  have cbk3 := Joins.cell_of_block bk 3
  have cbk4 := Joins.cell_of_block bk 4
  have zbk := size_of_block bk
  go_wp2_with fail
  generalize ((w.alloc (.cells #[.int .i64 k.room, .int .i64 k.per, .slice A1 k.ls.length c1, .slice A2 k.ds.length c2, .slice A3 k.ws.length c3] 26)).alloc (.cells #[.int .i64 0, .int .i64 0, .int .i64 0] 67)) = w1 at bk br HB cbk0 cbk1 cbk2 cbk3 cbk4 zbk ⊢
  have hB := HB
  clear HB
  refine (rcheck_c k _ w1 (HK.out.later hB)).mono ?_
  rintro e w2 ⟨rfl, hF⟩
  clear cbk0 cbk1 cbk2 cbk3 cbk4 zbk
  replace bk := (hF.block _ (size_of_block bk)).trans bk
  replace br := (hF.block _ (size_of_block br)).trans br
  replace hB := below_then hB hF
  clear hF
  have HPP := Lib.hid (fun j : Nat => cell_setRow_same w2 (w.heap.size + 1) j _ #[.int .i64 0, .int .i64 0, .int .i64 (checkI k)] _ _ br)
  have HBF := Lib.hid (below_setRow hB (show w.heap.size ≤ w.heap.size + 1 by omega) #[.int .i64 0, .int .i64 0, .int .i64 (checkI k)])
  skip
  go_wp2_with (first | (refine wpList_store_rowTo rfl 67 _ _ rfl rfl (w.heap.size + 1) #[.int .i64 0, .int .i64 0, .int .i64 (checkI k)] rfl rfl 67 _ br (by kernel_rfl) rfl (by kernel_rfl) ?_))
  refine bodyPost_ret (v := .agg #[.int .i64 0, .int .i64 0, .int .i64 (checkI k)]) ?_ rfl ⟨by rw [HE.out], HBF.out⟩
  simp [results, Tryz.results40, go_sem, HPP.out]
set_option maxRecDepth 100000 in
set_option maxHeartbeats 4000000 in
theorem rHeld_out (k : Kl) (v : Value) (h : Int) (w : World) (hk : Kiln w v k) (hc : checkI k = 0) (hi : inB h 0 16384 = false) : Calls Tryz.prog 40 #[v, .int .i64 h] w fun e w' => e = .returned (.agg #[.int .i64 (heldE k h).1.1, .int .i64 (heldE k h).1.2, .int .i64 (heldE k h).2]) ∧ Below w.heap.size w w' := by
  have HE := Lib.hid (show heldE k h = ((0, 0), 1) by unfold heldE hourI; rw [if_neg (show ¬ checkI k ≠ 0 by simp [hc]), hi]; rfl)
  have yh := fun W => hour_b h W
  rw [hi] at yh
  have YH := Lib.hid yh
  clear yh hi
  obtain ⟨A1, c1, A2, c2, A3, c3, rfl⟩ := kilnForm hk
  have HK := Lib.hid hk
  clear hk
  go_enter Tryz.func40, Tryz.ntmps40
  obtain ⟨bk, br, -, HB⟩ := two_new' w (.cells #[.int .i64 k.room, .int .i64 k.per, .slice A1 k.ls.length c1, .slice A2 k.ds.length c2, .slice A3 k.ws.length c3] 26) (.cells #[.int .i64 0, .int .i64 0, .int .i64 0] 67)
  have cbk0 := Joins.cell_of_block bk 0
  have cbk1 := Joins.cell_of_block bk 1
  have cbk2 := Joins.cell_of_block bk 2
  have cbk3 := Joins.cell_of_block bk 3
  have cbk4 := Joins.cell_of_block bk 4
  have zbk := size_of_block bk
  go_wp2_with fail
  generalize ((w.alloc (.cells #[.int .i64 k.room, .int .i64 k.per, .slice A1 k.ls.length c1, .slice A2 k.ds.length c2, .slice A3 k.ws.length c3] 26)).alloc (.cells #[.int .i64 0, .int .i64 0, .int .i64 0] 67)) = w1 at bk br HB cbk0 cbk1 cbk2 cbk3 cbk4 zbk ⊢
  have hB := HB
  clear HB
  refine (rcheck_c k _ w1 (HK.out.later hB)).mono ?_
  rintro e w2 ⟨rfl, hF⟩
  clear cbk0 cbk1 cbk2 cbk3 cbk4 zbk
  replace bk := (hF.block _ (size_of_block bk)).trans bk
  replace br := (hF.block _ (size_of_block br)).trans br
  replace hB := below_then hB hF
  clear hF
  rw [hc]
  clear hc
  go_wp2_with fail
  refine (YH.out _).mono ?_
  rintro e w3 ⟨rfl, hF⟩
  replace bk := (hF.block _ (size_of_block bk)).trans bk
  replace br := (hF.block _ (size_of_block br)).trans br
  replace hB := below_then hB hF
  clear hF
  have HPP := Lib.hid (fun j : Nat => cell_setRow_same w3 (w.heap.size + 1) j _ #[.int .i64 0, .int .i64 0, .int .i64 1] _ _ br)
  have HBF := Lib.hid (below_setRow hB (show w.heap.size ≤ w.heap.size + 1 by omega) #[.int .i64 0, .int .i64 0, .int .i64 1])
  skip
  go_wp2_with (first | (refine wpList_store_rowTo rfl 67 _ _ rfl rfl (w.heap.size + 1) #[.int .i64 0, .int .i64 0, .int .i64 1] rfl rfl 67 _ br (by kernel_rfl) rfl (by kernel_rfl) ?_))
  refine bodyPost_ret (v := .agg #[.int .i64 0, .int .i64 0, .int .i64 1]) ?_ rfl ⟨by rw [HE.out], HBF.out⟩
  simp [results, Tryz.results40, go_sem, HPP.out]
set_option maxRecDepth 100000 in
set_option maxHeartbeats 4000000 in
theorem rHeld_in (k : Kl) (v : Value) (h : Int) (w : World) (hk : Kiln w v k) (hc : checkI k = 0) (hi : inB h 0 16384 = true) : Calls Tryz.prog 40 #[v, .int .i64 h] w fun e w' => e = .returned (.agg #[.int .i64 (heldE k h).1.1, .int .i64 (heldE k h).1.2, .int .i64 (heldE k h).2]) ∧ Below w.heap.size w w' := by
  have HE := Lib.hid (show heldE k h = betw k (drawnI k h) (chargedI k h) by unfold heldE hourI; rw [if_neg (show ¬ checkI k ≠ 0 by simp [hc]), hi]; rfl)
  have yh := fun W => hour_b h W
  rw [hi] at yh
  have YH := Lib.hid yh
  clear yh hi
  have hR := right_of_check hc
  have HR := Lib.hid hR
  have hmn := mN_eq k
  have n1 := hR.ls
  have n2 := hR.ds
  have hx1 := drawn_rng k h
  have hx2 := charged_rng k h
  rw [hmn] at hx1 hx2
  obtain ⟨A1, c1, A2, c2, A3, c3, rfl⟩ := kilnForm hk
  have HK := Lib.hid hk
  clear hk
  go_enter Tryz.func40, Tryz.ntmps40
  obtain ⟨bk, br, -, HB⟩ := two_new' w (.cells #[.int .i64 k.room, .int .i64 k.per, .slice A1 k.ls.length c1, .slice A2 k.ds.length c2, .slice A3 k.ws.length c3] 26) (.cells #[.int .i64 0, .int .i64 0, .int .i64 0] 67)
  have cbk0 := Joins.cell_of_block bk 0
  have cbk1 := Joins.cell_of_block bk 1
  have cbk2 := Joins.cell_of_block bk 2
  have cbk3 := Joins.cell_of_block bk 3
  have cbk4 := Joins.cell_of_block bk 4
  have zbk := size_of_block bk
  go_wp2_with fail
  generalize ((w.alloc (.cells #[.int .i64 k.room, .int .i64 k.per, .slice A1 k.ls.length c1, .slice A2 k.ds.length c2, .slice A3 k.ws.length c3] 26)).alloc (.cells #[.int .i64 0, .int .i64 0, .int .i64 0] 67)) = w1 at bk br HB cbk0 cbk1 cbk2 cbk3 cbk4 zbk ⊢
  have hB := HB
  clear HB
  refine (rcheck_c k _ w1 (HK.out.later hB)).mono ?_
  rintro e w2 ⟨rfl, hF⟩
  clear cbk0 cbk1 cbk2 cbk3 cbk4 zbk
  replace bk := (hF.block _ (size_of_block bk)).trans bk
  replace br := (hF.block _ (size_of_block br)).trans br
  replace hB := below_then hB hF
  clear hF
  rw [hc]
  clear hc
  go_wp2_with fail
  refine (YH.out _).mono ?_
  rintro e w3 ⟨rfl, hF⟩
  replace bk := (hF.block _ (size_of_block bk)).trans bk
  replace br := (hF.block _ (size_of_block br)).trans br
  replace hB := below_then hB hF
  clear hF
  go_wp2_with fail
  refine wp_region_looseM [2, 5] [0, 1, 4] (.one 3 (.one 6 (.one 7 .done))) [] [] [8] [] [] (by kernel_rfl) (by kernel_rfl) (by intro c a d v w h; cases d <;> exact h) (by intro c a d v w h; cases d <;> exact h) rfl (fun r i h => by simp at h) ?_
  simp only [pick, List.filterMap_cons, List.filterMap_nil, List.getElem?_toArray, List.getElem?_cons_succ, List.getElem?_cons_zero]
  refine wpPure_step (.int .i64 h) rfl (fun u => by first | rfl | kernel_rfl | simp [execOp, go_sem]) ?_
  refine wpPure_step (.int .i64 h) rfl (fun u => by first | rfl | kernel_rfl | simp [execOp, go_sem]) ?_
  intro u4 hu4
  replace bk := (hu4.block _ (size_of_block bk)).trans bk
  replace br := (hu4.block _ (size_of_block br)).trans br
  replace hB := below_then hB hu4
  have cbk0 := Joins.cell_of_block bk 0
  have cbk1 := Joins.cell_of_block bk 1
  have cbk2 := Joins.cell_of_block bk 2
  have cbk3 := Joins.cell_of_block bk 3
  have cbk4 := Joins.cell_of_block bk 4
  have zbk := size_of_block bk
  have hcg : ∀ (g : Gr u4) b o, b < u4.heap.size → g.val.cell? ⟨b, o, none⟩ = u4.cell? ⟨b, o, none⟩ := fun g b o h => (bcell g.b).1 b o h
  iterate 3 (first | (refine wpRel_step (fun K hK => ?_); go_simp; refine hK _ ?_; clear hK K))
  refine wpRel_nil fun V4_0 hb4 => ?_
  clear hcg cbk0 cbk1 cbk2 cbk3 cbk4 zbk
  replace bk := (hb4.block _ (size_of_block bk)).trans bk
  replace br := (hb4.block _ (size_of_block br)).trans br
  replace hB := below_then hB hb4
  clear hb4 hu4
  refine wpTr_step rfl rfl fun K hK => ?_
  go_simp
  refine (drawn_c k _ h V4_0 (HK.out.later hB)).mono ?_
  rintro e X ⟨rfl, hx⟩
  refine hK _ _ hx fun V4_1 hu => ?_
  clear hK K
  have hxu := below_then hx hu
  replace bk := (hxu.block _ (size_of_block bk)).trans bk
  replace br := (hxu.block _ (size_of_block br)).trans br
  replace hB := below_then hB hxu
  clear hx hu hxu
  refine wpTr_step rfl rfl fun K hK => ?_
  go_simp
  refine (charged_c k _ h V4_1 (HK.out.later hB)).mono ?_
  rintro e X ⟨rfl, hx⟩
  refine hK _ _ hx fun V4_2 hu => ?_
  clear hK K
  have hxu := below_then hx hu
  replace bk := (hxu.block _ (size_of_block bk)).trans bk
  replace br := (hxu.block _ (size_of_block br)).trans br
  replace hB := below_then hB hxu
  clear hx hu hxu
  refine wpTr_step rfl rfl fun K hK => ?_
  go_simp
  refine (rbetween_i k _ (drawnI k h) (chargedI k h) V4_2 (HK.out.later hB) HR.out hx1 hx2).mono ?_
  rintro e X ⟨rfl, hx⟩
  refine hK _ _ hx fun V4_3 hu => ?_
  clear hK K
  have hxu := below_then hx hu
  replace bk := (hxu.block _ (size_of_block bk)).trans bk
  replace br := (hxu.block _ (size_of_block br)).trans br
  replace hB := below_then hB hxu
  clear hx hu hxu
  show wpPure _ _ _ _
  intro ks hks _ _
  obtain rfl : ks = [] := List.length_eq_zero_iff.1 hks
  clear hks
  show wpList _ _ _ _ _ _
  simp only [deco]
  have HPP := Lib.hid (fun j : Nat => cell_setRow_same V4_3 (w.heap.size + 1) j _ #[.int .i64 (betw k (drawnI k h) (chargedI k h)).1.1, .int .i64 (betw k (drawnI k h) (chargedI k h)).1.2, .int .i64 (betw k (drawnI k h) (chargedI k h)).2] _ _ br)
  have HBF := Lib.hid (below_setRow hB (show w.heap.size ≤ w.heap.size + 1 by omega) #[.int .i64 (betw k (drawnI k h) (chargedI k h)).1.1, .int .i64 (betw k (drawnI k h) (chargedI k h)).1.2, .int .i64 (betw k (drawnI k h) (chargedI k h)).2])
  skip
  skip
  refine wpList_store_rowTo rfl 67 _ _ rfl rfl (w.heap.size + 1) #[.int .i64 (betw k (drawnI k h) (chargedI k h)).1.1, .int .i64 (betw k (drawnI k h) (chargedI k h)).1.2, .int .i64 (betw k (drawnI k h) (chargedI k h)).2] rfl rfl 67 _ br (by kernel_rfl) rfl (by kernel_rfl) ?_
  go_wp2_with fail
  refine bodyPost_ret (v := .agg #[.int .i64 (betw k (drawnI k h) (chargedI k h)).1.1, .int .i64 (betw k (drawnI k h) (chargedI k h)).1.2, .int .i64 (betw k (drawnI k h) (chargedI k h)).2]) ?_ rfl ⟨by rw [HE.out], HBF.out⟩
  simp [results, Tryz.results40, go_sem, HPP.out]
theorem rHeld_c (k : Kl) (v : Value) (h : Int) (w : World) (hk : Kiln w v k) : Calls Tryz.prog 40 #[v, .int .i64 h] w fun e w' => e = .returned (.agg #[.int .i64 (heldE k h).1.1, .int .i64 (heldE k h).1.2, .int .i64 (heldE k h).2]) ∧ Below w.heap.size w w' := by
  by_cases hc : checkI k = 0
  · cases hi : inB h 0 16384
    · exact rHeld_out k v h w hk hc hi
    · exact rHeld_in k v h w hk hc hi
  · exact rHeld_bad k v h w hk hc
end Go.Proofs.YtpgepfbdjefmdaaGreat
