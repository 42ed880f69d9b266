/- The reference's Below, Feet (written by tools/gensrefh.py). -/
import Derived.Test.YtpgepfbdjefmdaaGreatZSRefG
import Derived.Test.YtpgepfbdjefmdaaGreatZSLawNE
import Derived.Test.YtpgepfbdjefmdaaGreatZSLawTE
namespace Go.Proofs.YtpgepfbdjefmdaaGreat
open Go Go.RowKit Go.Shelf
attribute [local go_sem] Oper.semAt_some Rel RelAt RelUpon

theorem betw_zero {k : Kl} {a b : Int} (h : (betw k a b).2 ≠ 0) : (betw k a b).1 = (0, 0) := by
  unfold betw at h ⊢
  split
  · rename_i hc; rw [if_pos hc] at h; exact absurd rfl h
  · rfl
theorem below_zero {k : Kl} {id h : Int} (h0 : (belowE k id h).2 ≠ 0) : (belowE k id h).1 = (0, 0) := by
  unfold belowE at h0 ⊢
  split
  · rfl
  · rename_i h1
    rw [if_neg h1] at h0
    split
    · rfl
    · rename_i h2
      rw [if_neg h2] at h0
      split
      · rfl
      · rename_i h3
        rw [if_neg h3] at h0
        exact betw_zero h0
set_option maxRecDepth 100000 in
set_option maxHeartbeats 4000000 in
theorem rBelow_bad (k : Kl) (v : Value) (id h : Int) (w : World) (hk : Kiln w v k) (hc : checkI k ≠ 0) : Calls Tryz.prog 42 #[v, .int .i64 id, .int .i64 h] w fun e w' => e = .returned (.agg #[.int .i64 (belowE k id h).1.1, .int .i64 (belowE k id h).1.2, .int .i64 (belowE k id h).2]) ∧ Below w.heap.size w w' := by
  have HE := Lib.hid (show belowE k id h = ((0, 0), checkI k) by unfold belowE hourI; rw [if_pos hc, if_pos hc])
  have d0 : (checkI k != 0) = true := by simpa using hc
  clear hc
  obtain ⟨A1, c1, A2, c2, A3, c3, rfl⟩ := kilnForm hk
  have HK := Lib.hid hk
  clear hk
  go_enter Tryz.func42, Tryz.ntmps42
  obtain ⟨bk, br, -, HB⟩ := two_new' w (.cells #[.int .i64 k.room, .int .i64 k.per, .slice A1 k.ls.length c1, .slice A2 k.ds.length c2, .slice A3 k.ws.length c3] 26) (.cells #[.int .i64 0, .int .i64 0, .int .i64 0] 67)
  have cbk0 := Joins.cell_of_block bk 0
  have cbk1 := Joins.cell_of_block bk 1
  have cbk2 := Joins.cell_of_block bk 2
  have cbk3 := Joins.cell_of_block bk 3
  have cbk4 := Joins.cell_of_block bk 4
  have zbk := size_of_block bk
  go_wp2_with fail
  generalize ((w.alloc (.cells #[.int .i64 k.room, .int .i64 k.per, .slice A1 k.ls.length c1, .slice A2 k.ds.length c2, .slice A3 k.ws.length c3] 26)).alloc (.cells #[.int .i64 0, .int .i64 0, .int .i64 0] 67)) = w1 at bk br HB cbk0 cbk1 cbk2 cbk3 cbk4 zbk ⊢
  have hB := HB
  clear HB
  refine (rcheck_c k _ w1 (HK.out.later hB)).mono ?_
  rintro e w2 ⟨rfl, hF⟩
  clear cbk0 cbk1 cbk2 cbk3 cbk4 zbk
  replace bk := (hF.block _ (size_of_block bk)).trans bk
  replace br := (hF.block _ (size_of_block br)).trans br
  replace hB := below_then hB hF
  clear hF
  have HPP := Lib.hid (fun j : Nat => cell_setRow_same w2 (w.heap.size + 1) j _ #[.int .i64 0, .int .i64 0, .int .i64 (checkI k)] _ _ br)
  have HBF := Lib.hid (below_setRow hB (show w.heap.size ≤ w.heap.size + 1 by omega) #[.int .i64 0, .int .i64 0, .int .i64 (checkI k)])
  skip
  go_wp2_with (first | (refine wpList_store_rowTo rfl 67 _ _ rfl rfl (w.heap.size + 1) #[.int .i64 0, .int .i64 0, .int .i64 (checkI k)] rfl rfl 67 _ br (by kernel_rfl) rfl (by kernel_rfl) ?_))
  refine bodyPost_ret (v := .agg #[.int .i64 0, .int .i64 0, .int .i64 (checkI k)]) ?_ rfl ⟨by rw [HE.out], HBF.out⟩
  simp [results, Tryz.results42, go_sem, HPP.out]
set_option maxRecDepth 100000 in
set_option maxHeartbeats 4000000 in
theorem rBelow_out (k : Kl) (v : Value) (id h : Int) (w : World) (hk : Kiln w v k) (hc : checkI k = 0) (hi : inB h 0 16384 = false) : Calls Tryz.prog 42 #[v, .int .i64 id, .int .i64 h] w fun e w' => e = .returned (.agg #[.int .i64 (belowE k id h).1.1, .int .i64 (belowE k id h).1.2, .int .i64 (belowE k id h).2]) ∧ Below w.heap.size w w' := by
  have HE := Lib.hid (show belowE k id h = ((0, 0), 1) by unfold belowE hourI; rw [if_neg (show ¬ checkI k ≠ 0 by simp [hc]), hi]; rfl)
  have yh := fun W => hour_b h W
  rw [hi] at yh
  have YH := Lib.hid yh
  clear yh hi
  obtain ⟨A1, c1, A2, c2, A3, c3, rfl⟩ := kilnForm hk
  have HK := Lib.hid hk
  clear hk
  go_enter Tryz.func42, Tryz.ntmps42
  obtain ⟨bk, br, -, HB⟩ := two_new' w (.cells #[.int .i64 k.room, .int .i64 k.per, .slice A1 k.ls.length c1, .slice A2 k.ds.length c2, .slice A3 k.ws.length c3] 26) (.cells #[.int .i64 0, .int .i64 0, .int .i64 0] 67)
  have cbk0 := Joins.cell_of_block bk 0
  have cbk1 := Joins.cell_of_block bk 1
  have cbk2 := Joins.cell_of_block bk 2
  have cbk3 := Joins.cell_of_block bk 3
  have cbk4 := Joins.cell_of_block bk 4
  have zbk := size_of_block bk
  go_wp2_with fail
  generalize ((w.alloc (.cells #[.int .i64 k.room, .int .i64 k.per, .slice A1 k.ls.length c1, .slice A2 k.ds.length c2, .slice A3 k.ws.length c3] 26)).alloc (.cells #[.int .i64 0, .int .i64 0, .int .i64 0] 67)) = w1 at bk br HB cbk0 cbk1 cbk2 cbk3 cbk4 zbk ⊢
  have hB := HB
  clear HB
  refine (rcheck_c k _ w1 (HK.out.later hB)).mono ?_
  rintro e w2 ⟨rfl, hF⟩
  clear cbk0 cbk1 cbk2 cbk3 cbk4 zbk
  replace bk := (hF.block _ (size_of_block bk)).trans bk
  replace br := (hF.block _ (size_of_block br)).trans br
  replace hB := below_then hB hF
  clear hF
  rw [hc]
  clear hc
  go_wp2_with fail
  refine (YH.out _).mono ?_
  rintro e w3 ⟨rfl, hF⟩
  replace bk := (hF.block _ (size_of_block bk)).trans bk
  replace br := (hF.block _ (size_of_block br)).trans br
  replace hB := below_then hB hF
  clear hF
  have HPP := Lib.hid (fun j : Nat => cell_setRow_same w3 (w.heap.size + 1) j _ #[.int .i64 0, .int .i64 0, .int .i64 1] _ _ br)
  have HBF := Lib.hid (below_setRow hB (show w.heap.size ≤ w.heap.size + 1 by omega) #[.int .i64 0, .int .i64 0, .int .i64 1])
  skip
  go_wp2_with (first | (refine wpList_store_rowTo rfl 67 _ _ rfl rfl (w.heap.size + 1) #[.int .i64 0, .int .i64 0, .int .i64 1] rfl rfl 67 _ br (by kernel_rfl) rfl (by kernel_rfl) ?_))
  refine bodyPost_ret (v := .agg #[.int .i64 0, .int .i64 0, .int .i64 1]) ?_ rfl ⟨by rw [HE.out], HBF.out⟩
  simp [results, Tryz.results42, go_sem, HPP.out]
set_option maxRecDepth 100000 in
set_option maxHeartbeats 4000000 in
theorem rBelow_none (k : Kl) (v : Value) (id h : Int) (w : World) (hk : Kiln w v k) (hc : checkI k = 0) (hi : inB h 0 16384 = true) (h1 : place k.ls id < 0) : Calls Tryz.prog 42 #[v, .int .i64 id, .int .i64 h] w fun e w' => e = .returned (.agg #[.int .i64 (belowE k id h).1.1, .int .i64 (belowE k id h).1.2, .int .i64 (belowE k id h).2]) ∧ Below w.heap.size w w' := by
  have HE := Lib.hid (show belowE k id h = ((0, 0), 5) by unfold belowE hourI; rw [if_neg (show ¬ checkI k ≠ 0 by simp [hc]), hi]; exact if_pos h1)
  have yh := fun W => hour_b h W
  rw [hi] at yh
  have YH := Lib.hid yh
  clear yh hi
  have yl := fun v W h => load_c k v id W h
  obtain ⟨p, hp⟩ : ∃ p, p = place k.ls id := ⟨_, rfl⟩
  rw [← hp] at yl h1
  have YL := Lib.hid yl
  clear yl hp
  obtain ⟨A1, c1, A2, c2, A3, c3, rfl⟩ := kilnForm hk
  have HK := Lib.hid hk
  clear hk
  go_enter Tryz.func42, Tryz.ntmps42
  obtain ⟨bk, br, -, HB⟩ := two_new' w (.cells #[.int .i64 k.room, .int .i64 k.per, .slice A1 k.ls.length c1, .slice A2 k.ds.length c2, .slice A3 k.ws.length c3] 26) (.cells #[.int .i64 0, .int .i64 0, .int .i64 0] 67)
  have cbk0 := Joins.cell_of_block bk 0
  have cbk1 := Joins.cell_of_block bk 1
  have cbk2 := Joins.cell_of_block bk 2
  have cbk3 := Joins.cell_of_block bk 3
  have cbk4 := Joins.cell_of_block bk 4
  have zbk := size_of_block bk
  go_wp2_with fail
  generalize ((w.alloc (.cells #[.int .i64 k.room, .int .i64 k.per, .slice A1 k.ls.length c1, .slice A2 k.ds.length c2, .slice A3 k.ws.length c3] 26)).alloc (.cells #[.int .i64 0, .int .i64 0, .int .i64 0] 67)) = w1 at bk br HB cbk0 cbk1 cbk2 cbk3 cbk4 zbk ⊢
  have hB := HB
  clear HB
  refine (rcheck_c k _ w1 (HK.out.later hB)).mono ?_
  rintro e w2 ⟨rfl, hF⟩
  clear cbk0 cbk1 cbk2 cbk3 cbk4 zbk
  replace bk := (hF.block _ (size_of_block bk)).trans bk
  replace br := (hF.block _ (size_of_block br)).trans br
  replace hB := below_then hB hF
  clear hF
  rw [hc]
  clear hc
  go_wp2_with fail
  refine (YH.out _).mono ?_
  rintro e w3 ⟨rfl, hF⟩
  replace bk := (hF.block _ (size_of_block bk)).trans bk
  replace br := (hF.block _ (size_of_block br)).trans br
  replace hB := below_then hB hF
  clear hF
  have cbk0 := Joins.cell_of_block bk 0
  have cbk1 := Joins.cell_of_block bk 1
  have cbk2 := Joins.cell_of_block bk 2
  have cbk3 := Joins.cell_of_block bk 3
  have cbk4 := Joins.cell_of_block bk 4
  have zbk := size_of_block bk
  go_wp2_with fail
  refine (YL.out _ w3 (HK.out.later hB)).mono ?_
  rintro e w4 ⟨rfl, hF⟩
  clear cbk0 cbk1 cbk2 cbk3 cbk4 zbk
  replace bk := (hF.block _ (size_of_block bk)).trans bk
  replace br := (hF.block _ (size_of_block br)).trans br
  replace hB := below_then hB hF
  clear hF
  have HPP := Lib.hid (fun j : Nat => cell_setRow_same w4 (w.heap.size + 1) j _ #[.int .i64 0, .int .i64 0, .int .i64 5] _ _ br)
  have HBF := Lib.hid (below_setRow hB (show w.heap.size ≤ w.heap.size + 1 by omega) #[.int .i64 0, .int .i64 0, .int .i64 5])
  skip
  go_wp2_with (first | (refine wpList_store_rowTo rfl 67 _ _ rfl rfl (w.heap.size + 1) #[.int .i64 0, .int .i64 0, .int .i64 5] rfl rfl 67 _ br (by kernel_rfl) rfl (by kernel_rfl) ?_))
  refine bodyPost_ret (v := .agg #[.int .i64 0, .int .i64 0, .int .i64 5]) ?_ rfl ⟨by rw [HE.out], HBF.out⟩
  simp [results, Tryz.results42, go_sem, HPP.out]
set_option maxRecDepth 100000 in
set_option maxHeartbeats 4000000 in
theorem rBelow_late (k : Kl) (v : Value) (id h : Int) (w : World) (hk : Kiln w v k) (hc : checkI k = 0) (hi : inB h 0 16384 = true) (i : Nat) (x : Rec) (hx : k.ls[i]? = some x) (hid : x.id = id) (hh : h < x.hour) : Calls Tryz.prog 42 #[v, .int .i64 id, .int .i64 h] w fun e w' => e = .returned (.agg #[.int .i64 (belowE k id h).1.1, .int .i64 (belowE k id h).1.2, .int .i64 (belowE k id h).2]) ∧ Below w.heap.size w w' := by
  have hR := right_of_check hc
  have HE := Lib.hid (show belowE k id h = ((0, 0), 1) by rw [← hid]; simp only [inB, Bool.and_eq_true, decide_eq_true_eq] at hi; rw [below_ok hc hi.1 hi.2 hx, if_neg (by omega)])
  have yh := fun W => hour_b h W
  rw [hi] at yh
  have YH := Lib.hid yh
  clear yh hi
  have hil := List.getElem?_eq_some_iff.1 hx
  obtain ⟨hil, -⟩ := hil
  have hpi : place k.ls id = i := by rw [← hid]; exact place_at hR.noL hx
  have yl := fun v W h => load_c k v id W h
  rw [hpi] at yl
  have YL := Lib.hid yl
  have hmx : max (0 : Int) (i : Int) = i := by omega
  have HX := Lib.hid hx
  obtain ⟨m, hm⟩ : ∃ m, m = x.hour := ⟨_, rfl⟩
  rw [← hm] at hh
  clear yl hpi hx
  obtain ⟨A1, c1, A2, c2, A3, c3, rfl⟩ := kilnForm hk
  have HK := Lib.hid hk
  clear hk
  go_enter Tryz.func42, Tryz.ntmps42
  obtain ⟨bk, br, -, HB⟩ := two_new' w (.cells #[.int .i64 k.room, .int .i64 k.per, .slice A1 k.ls.length c1, .slice A2 k.ds.length c2, .slice A3 k.ws.length c3] 26) (.cells #[.int .i64 0, .int .i64 0, .int .i64 0] 67)
  have cbk0 := Joins.cell_of_block bk 0
  have cbk1 := Joins.cell_of_block bk 1
  have cbk2 := Joins.cell_of_block bk 2
  have cbk3 := Joins.cell_of_block bk 3
  have cbk4 := Joins.cell_of_block bk 4
  have zbk := size_of_block bk
  go_wp2_with fail
  generalize ((w.alloc (.cells #[.int .i64 k.room, .int .i64 k.per, .slice A1 k.ls.length c1, .slice A2 k.ds.length c2, .slice A3 k.ws.length c3] 26)).alloc (.cells #[.int .i64 0, .int .i64 0, .int .i64 0] 67)) = w1 at bk br HB cbk0 cbk1 cbk2 cbk3 cbk4 zbk ⊢
  have hB := HB
  clear HB
  refine (rcheck_c k _ w1 (HK.out.later hB)).mono ?_
  rintro e w2 ⟨rfl, hF⟩
  clear cbk0 cbk1 cbk2 cbk3 cbk4 zbk
  replace bk := (hF.block _ (size_of_block bk)).trans bk
  replace br := (hF.block _ (size_of_block br)).trans br
  replace hB := below_then hB hF
  clear hF
  rw [hc]
  clear hc
  go_wp2_with fail
  refine (YH.out _).mono ?_
  rintro e w3 ⟨rfl, hF⟩
  replace bk := (hF.block _ (size_of_block bk)).trans bk
  replace br := (hF.block _ (size_of_block br)).trans br
  replace hB := below_then hB hF
  clear hF
  have cbk0 := Joins.cell_of_block bk 0
  have cbk1 := Joins.cell_of_block bk 1
  have cbk2 := Joins.cell_of_block bk 2
  have cbk3 := Joins.cell_of_block bk 3
  have cbk4 := Joins.cell_of_block bk 4
  have zbk := size_of_block bk
  go_wp2_with fail
  refine (YL.out _ w3 (HK.out.later hB)).mono ?_
  rintro e w4 ⟨rfl, hF⟩
  clear cbk0 cbk1 cbk2 cbk3 cbk4 zbk
  replace bk := (hF.block _ (size_of_block bk)).trans bk
  replace br := (hF.block _ (size_of_block br)).trans br
  replace hB := below_then hB hF
  clear hF
  have hkW := HK.out.later hB
  obtain ⟨al, ad, aw, e9, hl, _, _⟩ := hkW
  obtain ⟨rfl, rfl, rfl⟩ : .slice A1 k.ls.length c1 = al ∧ .slice A2 k.ds.length c2 = ad ∧ .slice A3 k.ws.length c3 = aw := by simpa using e9
  obtain ⟨A1', c1', e8, _, hln, hat⟩ := hl.open_
  obtain ⟨rfl, rfl⟩ : A1 = A1' ∧ c1 = c1' := by simpa using e8
  obtain ⟨sb, so, y, rfl, _, hy, _, hat1, _⟩ := hat i hil
  obtain rfl : y = x := by rw [HX.out] at hy; simpa using hy.symm
  rw [← hm] at hat1
  clear hat hl e8 e9 hy hm
  have cbk0 := Joins.cell_of_block bk 0
  have cbk1 := Joins.cell_of_block bk 1
  have cbk2 := Joins.cell_of_block bk 2
  have cbk3 := Joins.cell_of_block bk 3
  have cbk4 := Joins.cell_of_block bk 4
  have zbk := size_of_block bk
  have HPP := Lib.hid (fun j : Nat => cell_setRow_same w4 (w.heap.size + 1) j _ #[.int .i64 0, .int .i64 0, .int .i64 1] _ _ br)
  have HBF := Lib.hid (below_setRow hB (show w.heap.size ≤ w.heap.size + 1 by omega) #[.int .i64 0, .int .i64 0, .int .i64 1])
  skip
  go_wp2_with (first | (refine wpList_store_rowTo rfl 67 _ _ rfl rfl (w.heap.size + 1) #[.int .i64 0, .int .i64 0, .int .i64 1] rfl rfl 67 _ br (by kernel_rfl) rfl (by kernel_rfl) ?_))
  all_goals (try (exfalso; omega))
  refine bodyPost_ret (v := .agg #[.int .i64 0, .int .i64 0, .int .i64 1]) ?_ rfl ⟨by rw [HE.out], HBF.out⟩
  simp [results, Tryz.results42, go_sem, HPP.out]
set_option maxRecDepth 100000 in
set_option maxHeartbeats 4000000 in
theorem rBelow_in (k : Kl) (v : Value) (id h : Int) (w : World) (hk : Kiln w v k) (hc : checkI k = 0) (hi : inB h 0 16384 = true) (i : Nat) (x : Rec) (hx : k.ls[i]? = some x) (hid : x.id = id) (hh : x.hour ≤ h) : Calls Tryz.prog 42 #[v, .int .i64 id, .int .i64 h] w fun e w' => e = .returned (.agg #[.int .i64 (belowE k id h).1.1, .int .i64 (belowE k id h).1.2, .int .i64 (belowE k id h).2]) ∧ Below w.heap.size w w' := by
  have HE := Lib.hid (show belowE k id h = betw k (drawnI k h) i by rw [← hid]; simp only [inB, Bool.and_eq_true, decide_eq_true_eq] at hi; rw [below_ok hc hi.1 hi.2 hx, if_pos hh])
  have yh := fun W => hour_b h W
  rw [hi] at yh
  have YH := Lib.hid yh
  clear yh hi
  have hR := right_of_check hc
  have HR := Lib.hid hR
  have hmn := mN_eq k
  have n1 := hR.ls
  have n2 := hR.ds
  have hx1 := drawn_rng k h
  rw [hmn] at hx1
  have hx2 : 0 ≤ (i : Int) ∧ (i : Int) < mN k := by have := (List.getElem?_eq_some_iff.1 hx).1; unfold mN; omega
  have hil := List.getElem?_eq_some_iff.1 hx
  obtain ⟨hil, -⟩ := hil
  have hpi : place k.ls id = i := by rw [← hid]; exact place_at hR.noL hx
  have yl := fun v W h => load_c k v id W h
  rw [hpi] at yl
  have YL := Lib.hid yl
  have hmx : max (0 : Int) (i : Int) = i := by omega
  have HX := Lib.hid hx
  obtain ⟨m, hm⟩ : ∃ m, m = x.hour := ⟨_, rfl⟩
  rw [← hm] at hh
  clear yl hpi hx
  obtain ⟨A1, c1, A2, c2, A3, c3, rfl⟩ := kilnForm hk
  have HK := Lib.hid hk
  clear hk
  go_enter Tryz.func42, Tryz.ntmps42
  obtain ⟨bk, br, -, HB⟩ := two_new' w (.cells #[.int .i64 k.room, .int .i64 k.per, .slice A1 k.ls.length c1, .slice A2 k.ds.length c2, .slice A3 k.ws.length c3] 26) (.cells #[.int .i64 0, .int .i64 0, .int .i64 0] 67)
  have cbk0 := Joins.cell_of_block bk 0
  have cbk1 := Joins.cell_of_block bk 1
  have cbk2 := Joins.cell_of_block bk 2
  have cbk3 := Joins.cell_of_block bk 3
  have cbk4 := Joins.cell_of_block bk 4
  have zbk := size_of_block bk
  go_wp2_with fail
  generalize ((w.alloc (.cells #[.int .i64 k.room, .int .i64 k.per, .slice A1 k.ls.length c1, .slice A2 k.ds.length c2, .slice A3 k.ws.length c3] 26)).alloc (.cells #[.int .i64 0, .int .i64 0, .int .i64 0] 67)) = w1 at bk br HB cbk0 cbk1 cbk2 cbk3 cbk4 zbk ⊢
  have hB := HB
  clear HB
  refine (rcheck_c k _ w1 (HK.out.later hB)).mono ?_
  rintro e w2 ⟨rfl, hF⟩
  clear cbk0 cbk1 cbk2 cbk3 cbk4 zbk
  replace bk := (hF.block _ (size_of_block bk)).trans bk
  replace br := (hF.block _ (size_of_block br)).trans br
  replace hB := below_then hB hF
  clear hF
  rw [hc]
  clear hc
  go_wp2_with fail
  refine (YH.out _).mono ?_
  rintro e w3 ⟨rfl, hF⟩
  replace bk := (hF.block _ (size_of_block bk)).trans bk
  replace br := (hF.block _ (size_of_block br)).trans br
  replace hB := below_then hB hF
  clear hF
  have cbk0 := Joins.cell_of_block bk 0
  have cbk1 := Joins.cell_of_block bk 1
  have cbk2 := Joins.cell_of_block bk 2
  have cbk3 := Joins.cell_of_block bk 3
  have cbk4 := Joins.cell_of_block bk 4
  have zbk := size_of_block bk
  go_wp2_with fail
  refine (YL.out _ w3 (HK.out.later hB)).mono ?_
  rintro e w4 ⟨rfl, hF⟩
  clear cbk0 cbk1 cbk2 cbk3 cbk4 zbk
  replace bk := (hF.block _ (size_of_block bk)).trans bk
  replace br := (hF.block _ (size_of_block br)).trans br
  replace hB := below_then hB hF
  clear hF
  have hkW := HK.out.later hB
  obtain ⟨al, ad, aw, e9, hl, _, _⟩ := hkW
  obtain ⟨rfl, rfl, rfl⟩ : .slice A1 k.ls.length c1 = al ∧ .slice A2 k.ds.length c2 = ad ∧ .slice A3 k.ws.length c3 = aw := by simpa using e9
  obtain ⟨A1', c1', e8, _, hln, hat⟩ := hl.open_
  obtain ⟨rfl, rfl⟩ : A1 = A1' ∧ c1 = c1' := by simpa using e8
  obtain ⟨sb, so, y, rfl, _, hy, _, hat1, _⟩ := hat i hil
  obtain rfl : y = x := by rw [HX.out] at hy; simpa using hy.symm
  rw [← hm] at hat1
  clear hat hl e8 e9 hy hm
  have cbk0 := Joins.cell_of_block bk 0
  have cbk1 := Joins.cell_of_block bk 1
  have cbk2 := Joins.cell_of_block bk 2
  have cbk3 := Joins.cell_of_block bk 3
  have cbk4 := Joins.cell_of_block bk 4
  have zbk := size_of_block bk
  go_wp2_with fail
  all_goals (try (exfalso; omega))
  clear hat1
  refine wp_region_looseM [2, 4] [0, 1] (.one 3 (.one 5 .done)) [] [] [6] [] [] (by kernel_rfl) (by kernel_rfl) (by intro c a d v w h; cases d <;> exact h) (by intro c a d v w h; cases d <;> exact h) rfl (fun r i h => by simp at h) ?_
  simp only [pick, List.filterMap_cons, List.filterMap_nil, List.getElem?_toArray, List.getElem?_cons_succ, List.getElem?_cons_zero]
  refine wpPure_step (.int .i64 h) rfl (fun u => by first | rfl | kernel_rfl | simp [execOp, go_sem]) ?_
  refine wpPure_step (.int .i64 i) rfl (fun u => by first | rfl | kernel_rfl | simp [execOp, go_sem]) ?_
  intro u5 hu5
  clear cbk0 cbk1 cbk2 cbk3 cbk4 zbk
  replace bk := (hu5.block _ (size_of_block bk)).trans bk
  replace br := (hu5.block _ (size_of_block br)).trans br
  replace hB := below_then hB hu5
  have cbk0 := Joins.cell_of_block bk 0
  have cbk1 := Joins.cell_of_block bk 1
  have cbk2 := Joins.cell_of_block bk 2
  have cbk3 := Joins.cell_of_block bk 3
  have cbk4 := Joins.cell_of_block bk 4
  have zbk := size_of_block bk
  have hcg : ∀ (g : Gr u5) b o, b < u5.heap.size → g.val.cell? ⟨b, o, none⟩ = u5.cell? ⟨b, o, none⟩ := fun g b o h => (bcell g.b).1 b o h
  iterate 2 (first | (refine wpRel_step (fun K hK => ?_); go_simp; refine hK _ ?_; clear hK K))
  refine wpRel_nil fun V5_0 hb5 => ?_
  clear hcg cbk0 cbk1 cbk2 cbk3 cbk4 zbk
  replace bk := (hb5.block _ (size_of_block bk)).trans bk
  replace br := (hb5.block _ (size_of_block br)).trans br
  replace hB := below_then hB hb5
  clear hb5 hu5
  refine wpTr_step rfl rfl fun K hK => ?_
  go_simp
  refine (drawn_c k _ h V5_0 (HK.out.later hB)).mono ?_
  rintro e X ⟨rfl, hx⟩
  refine hK _ _ hx fun V5_1 hu => ?_
  clear hK K
  have hxu := below_then hx hu
  replace bk := (hxu.block _ (size_of_block bk)).trans bk
  replace br := (hxu.block _ (size_of_block br)).trans br
  replace hB := below_then hB hxu
  clear hx hu hxu
  refine wpTr_step rfl rfl fun K hK => ?_
  go_simp
  refine (rbetween_i k _ (drawnI k h) ((i : Int)) V5_1 (HK.out.later hB) HR.out hx1 hx2).mono ?_
  rintro e X ⟨rfl, hx⟩
  refine hK _ _ hx fun V5_2 hu => ?_
  clear hK K
  have hxu := below_then hx hu
  replace bk := (hxu.block _ (size_of_block bk)).trans bk
  replace br := (hxu.block _ (size_of_block br)).trans br
  replace hB := below_then hB hxu
  clear hx hu hxu
  show wpPure _ _ _ _
  intro ks hks _ _
  obtain rfl : ks = [] := List.length_eq_zero_iff.1 hks
  clear hks
  show wpList _ _ _ _ _ _
  simp only [deco]
  have HPP := Lib.hid (fun j : Nat => cell_setRow_same V5_2 (w.heap.size + 1) j _ #[.int .i64 (betw k (drawnI k h) ((i : Int))).1.1, .int .i64 (betw k (drawnI k h) ((i : Int))).1.2, .int .i64 (betw k (drawnI k h) ((i : Int))).2] _ _ br)
  have HBF := Lib.hid (below_setRow hB (show w.heap.size ≤ w.heap.size + 1 by omega) #[.int .i64 (betw k (drawnI k h) ((i : Int))).1.1, .int .i64 (betw k (drawnI k h) ((i : Int))).1.2, .int .i64 (betw k (drawnI k h) ((i : Int))).2])
  skip
  skip
  refine wpList_store_rowTo rfl 67 _ _ rfl rfl (w.heap.size + 1) #[.int .i64 (betw k (drawnI k h) ((i : Int))).1.1, .int .i64 (betw k (drawnI k h) ((i : Int))).1.2, .int .i64 (betw k (drawnI k h) ((i : Int))).2] rfl rfl 67 _ br (by kernel_rfl) rfl (by kernel_rfl) ?_
  go_wp2_with fail
  refine bodyPost_ret (v := .agg #[.int .i64 (betw k (drawnI k h) ((i : Int))).1.1, .int .i64 (betw k (drawnI k h) ((i : Int))).1.2, .int .i64 (betw k (drawnI k h) ((i : Int))).2]) ?_ rfl ⟨by rw [HE.out], HBF.out⟩
  simp [results, Tryz.results42, go_sem, HPP.out]
theorem rBelow_c (k : Kl) (v : Value) (id h : Int) (w : World) (hk : Kiln w v k) : Calls Tryz.prog 42 #[v, .int .i64 id, .int .i64 h] w fun e w' => e = .returned (.agg #[.int .i64 (belowE k id h).1.1, .int .i64 (belowE k id h).1.2, .int .i64 (belowE k id h).2]) ∧ Below w.heap.size w w' := by
  by_cases hc : checkI k = 0
  · cases hi : inB h 0 16384
    · exact rBelow_out k v id h w hk hc hi
    · rcases place_cases k.ls id with ⟨h1, _⟩ | ⟨i, x, _, hx, hid, _⟩
      · exact rBelow_none k v id h w hk hc hi (by omega)
      · by_cases hh : x.hour ≤ h
        · exact rBelow_in k v id h w hk hc hi i x hx hid hh
        · exact rBelow_late k v id h w hk hc hi i x hx hid (by omega)
  · exact rBelow_bad k v id h w hk hc
set_option maxRecDepth 100000 in
set_option maxHeartbeats 4000000 in
theorem rFeet_err (k : Kl) (v : Value) (id h : Int) (w : World) (hk : Kiln w v k) (h0 : (belowE k id h).2 ≠ 0) : Calls Tryz.prog 44 #[v, .int .i64 id, .int .i64 h] w fun e w' => e = .returned (.agg #[.int .i64 (feetE k id h).1.1, .int .i64 (feetE k id h).1.2, .int .i64 (feetE k id h).2]) ∧ Below w.heap.size w w' := by
  have yB := fun v W h9 => rBelow_c k v id h W h9
  obtain ⟨a1, ha1⟩ : ∃ a, a = (belowE k id h).1.1 := ⟨_, rfl⟩
  obtain ⟨a2, ha2⟩ : ∃ a, a = (belowE k id h).1.2 := ⟨_, rfl⟩
  obtain ⟨ee, hee⟩ : ∃ a, a = (belowE k id h).2 := ⟨_, rfl⟩
  have HE := Lib.hid (show feetE k id h = ((a1, a2), ee) by unfold feetE; rw [if_pos h0, hee, ha1, ha2]; exact Prod.ext (by rw [below_zero h0]) rfl)
  have d0 : (ee != 0) = true := by rw [hee]; simpa using h0
  rw [← ha1, ← ha2, ← hee] at yB
  have YB := Lib.hid yB
  clear yB ha1 ha2 hee h0
  obtain ⟨A1, c1, A2, c2, A3, c3, rfl⟩ := kilnForm hk
  have HK := Lib.hid hk
  clear hk
  go_enter Tryz.func44, Tryz.ntmps44
  obtain ⟨bk, br, -, HB⟩ := two_new' w (.cells #[.int .i64 k.room, .int .i64 k.per, .slice A1 k.ls.length c1, .slice A2 k.ds.length c2, .slice A3 k.ws.length c3] 26) (.cells #[.int .i64 0, .int .i64 0, .int .i64 0] 67)
  have cbk0 := Joins.cell_of_block bk 0
  have cbk1 := Joins.cell_of_block bk 1
  have cbk2 := Joins.cell_of_block bk 2
  have cbk3 := Joins.cell_of_block bk 3
  have cbk4 := Joins.cell_of_block bk 4
  have zbk := size_of_block bk
  go_wp2_with fail
  generalize ((w.alloc (.cells #[.int .i64 k.room, .int .i64 k.per, .slice A1 k.ls.length c1, .slice A2 k.ds.length c2, .slice A3 k.ws.length c3] 26)).alloc (.cells #[.int .i64 0, .int .i64 0, .int .i64 0] 67)) = w1 at bk br HB cbk0 cbk1 cbk2 cbk3 cbk4 zbk ⊢
  have hB := HB
  clear HB
  refine (YB.out _ w1 (HK.out.later hB)).mono ?_
  rintro e w2 ⟨rfl, hF⟩
  clear cbk0 cbk1 cbk2 cbk3 cbk4 zbk
  replace bk := (hF.block _ (size_of_block bk)).trans bk
  replace br := (hF.block _ (size_of_block br)).trans br
  replace hB := below_then hB hF
  clear hF
  have b7 := heap_alloc_new w2 (.cells #[.int .i64 a1, .int .i64 a2, .int .i64 ee] 67)
  have HB := below_alloc w2 (.cells #[.int .i64 a1, .int .i64 a2, .int .i64 ee] 67)
  replace bk := (HB.block _ (size_of_block bk)).trans bk
  replace br := (HB.block _ (size_of_block br)).trans br
  replace hB := below_then hB HB
  clear HB
  have cb70 := Joins.cell_of_block b7 0
  have cb71 := Joins.cell_of_block b7 1
  have cb72 := Joins.cell_of_block b7 2
  have zb7 := size_of_block b7
  have HPP := Lib.hid (fun j : Nat => cell_setRow_same (w2.alloc (.cells #[.int .i64 a1, .int .i64 a2, .int .i64 ee] 67)) (w.heap.size + 1) j _ #[.int .i64 a1, .int .i64 a2, .int .i64 ee] _ _ br)
  have HBF := Lib.hid (below_setRow hB (show w.heap.size ≤ w.heap.size + 1 by omega) #[.int .i64 a1, .int .i64 a2, .int .i64 ee])
  skip
  go_wp2_with (first | (refine wpList_store_rowTo rfl 67 _ _ rfl rfl (w.heap.size + 1) #[.int .i64 a1, .int .i64 a2, .int .i64 ee] rfl rfl 67 _ br (by kernel_rfl) rfl (by kernel_rfl) ?_))
  refine bodyPost_ret (v := .agg #[.int .i64 a1, .int .i64 a2, .int .i64 ee]) ?_ rfl ⟨by rw [HE.out], HBF.out⟩
  simp [results, Tryz.results44, go_sem, HPP.out]
set_option maxRecDepth 100000 in
set_option maxHeartbeats 4000000 in
theorem rFeet_ok (k : Kl) (v : Value) (id h : Int) (w : World) (hk : Kiln w v k) (h0 : (belowE k id h).2 = 0) : Calls Tryz.prog 44 #[v, .int .i64 id, .int .i64 h] w fun e w' => e = .returned (.agg #[.int .i64 (feetE k id h).1.1, .int .i64 (feetE k id h).1.2, .int .i64 (feetE k id h).2]) ∧ Below w.heap.size w w' := by
  have yB := fun v W h9 => rBelow_c k v id h W h9
  obtain ⟨a1, ha1⟩ : ∃ a, a = (belowE k id h).1.1 := ⟨_, rfl⟩
  obtain ⟨a2, ha2⟩ : ∃ a, a = (belowE k id h).1.2 := ⟨_, rfl⟩
  obtain ⟨ee, hee⟩ : ∃ a, a = (belowE k id h).2 := ⟨_, rfl⟩
  have hs := below_small k id h h0
  obtain ⟨⟨hs1, hs2⟩, hs3⟩ := hs
  have HE := Lib.hid (show feetE k id h = ((floorI a1 k.per, floorI a2 k.per), 0) by unfold feetE; rw [if_neg (by rw [h0]; simp), ha1, ha2])
  rw [h0] at hee
  rw [← ha1, ← ha2, h0] at yB
  rw [← ha1] at hs1
  rw [← ha2] at hs2
  have YB := Lib.hid yB
  clear yB ha1 ha2 hee h0
  obtain ⟨A1, c1, A2, c2, A3, c3, rfl⟩ := kilnForm hk
  have HK := Lib.hid hk
  clear hk
  go_enter Tryz.func44, Tryz.ntmps44
  obtain ⟨bk, br, -, HB⟩ := two_new' w (.cells #[.int .i64 k.room, .int .i64 k.per, .slice A1 k.ls.length c1, .slice A2 k.ds.length c2, .slice A3 k.ws.length c3] 26) (.cells #[.int .i64 0, .int .i64 0, .int .i64 0] 67)
  have cbk0 := Joins.cell_of_block bk 0
  have cbk1 := Joins.cell_of_block bk 1
  have cbk2 := Joins.cell_of_block bk 2
  have cbk3 := Joins.cell_of_block bk 3
  have cbk4 := Joins.cell_of_block bk 4
  have zbk := size_of_block bk
  go_wp2_with fail
  generalize ((w.alloc (.cells #[.int .i64 k.room, .int .i64 k.per, .slice A1 k.ls.length c1, .slice A2 k.ds.length c2, .slice A3 k.ws.length c3] 26)).alloc (.cells #[.int .i64 0, .int .i64 0, .int .i64 0] 67)) = w1 at bk br HB cbk0 cbk1 cbk2 cbk3 cbk4 zbk ⊢
  have hB := HB
  clear HB
  refine (YB.out _ w1 (HK.out.later hB)).mono ?_
  rintro e w2 ⟨rfl, hF⟩
  clear cbk0 cbk1 cbk2 cbk3 cbk4 zbk
  replace bk := (hF.block _ (size_of_block bk)).trans bk
  replace br := (hF.block _ (size_of_block br)).trans br
  replace hB := below_then hB hF
  clear hF
  have b7 := heap_alloc_new w2 (.cells #[.int .i64 a1, .int .i64 a2, .int .i64 0] 67)
  have HB := below_alloc w2 (.cells #[.int .i64 a1, .int .i64 a2, .int .i64 0] 67)
  have cb70 := Joins.cell_of_block b7 0
  have cb71 := Joins.cell_of_block b7 1
  have cb72 := Joins.cell_of_block b7 2
  have zb7 := size_of_block b7
  go_wp2_with fail
  generalize (w2.alloc (.cells #[.int .i64 a1, .int .i64 a2, .int .i64 0] 67)) = w3 at b7 HB cb70 cb71 cb72 zb7 ⊢
  replace bk := (HB.block _ (size_of_block bk)).trans bk
  replace br := (HB.block _ (size_of_block br)).trans br
  replace hB := below_then hB HB
  clear HB
  refine wp_region_looseM [] [0, 1, 2, 3, 4, 6, 7, 8, 9, 10] (.one 5 (.one 11 .done)) [] [12, 13] [14] [] [] (by kernel_rfl) (by kernel_rfl) (by intro c a d v w h; cases d <;> exact h) (by intro c a d v w h; cases d <;> exact h) rfl (fun r i h => by simp at h) ?_
  simp only [pick, List.filterMap_cons, List.filterMap_nil, List.getElem?_toArray, List.getElem?_cons_succ, List.getElem?_cons_zero]
  intro u4 hu4
  clear cb70 cb71 cb72 zb7
  replace bk := (hu4.block _ (size_of_block bk)).trans bk
  replace br := (hu4.block _ (size_of_block br)).trans br
  replace b7 := (hu4.block _ (size_of_block b7)).trans b7
  replace hB := below_then hB hu4
  have cbk0 := Joins.cell_of_block bk 0
  have cbk1 := Joins.cell_of_block bk 1
  have cbk2 := Joins.cell_of_block bk 2
  have cbk3 := Joins.cell_of_block bk 3
  have cbk4 := Joins.cell_of_block bk 4
  have zbk := size_of_block bk
  have cb70 := Joins.cell_of_block b7 0
  have cb71 := Joins.cell_of_block b7 1
  have cb72 := Joins.cell_of_block b7 2
  have zb7 := size_of_block b7
  have hcg : ∀ (g : Gr u4) b o, b < u4.heap.size → g.val.cell? ⟨b, o, none⟩ = u4.cell? ⟨b, o, none⟩ := fun g b o h => (bcell g.b).1 b o h
  iterate 10 (first | (refine wpRel_step (fun K hK => ?_); go_simp; refine hK _ ?_; clear hK K))
  refine wpRel_nil fun V4_0 hb4 => ?_
  clear hcg cbk0 cbk1 cbk2 cbk3 cbk4 zbk cb70 cb71 cb72 zb7
  replace bk := (hb4.block _ (size_of_block bk)).trans bk
  replace br := (hb4.block _ (size_of_block br)).trans br
  replace b7 := (hb4.block _ (size_of_block b7)).trans b7
  replace hB := below_then hB hb4
  clear hb4 hu4
  refine wpTr_step rfl rfl fun K hK => ?_
  go_simp
  refine (rfoot_b a1 k.per V4_0 hs1 hs3).mono ?_
  rintro e X ⟨rfl, hx⟩
  refine hK _ _ hx fun V4_1 hu => ?_
  clear hK K
  have hxu := below_then hx hu
  replace bk := (hxu.block _ (size_of_block bk)).trans bk
  replace br := (hxu.block _ (size_of_block br)).trans br
  replace b7 := (hxu.block _ (size_of_block b7)).trans b7
  replace hB := below_then hB hxu
  clear hx hu hxu
  refine wpTr_step rfl rfl fun K hK => ?_
  go_simp
  refine (rfoot_b a2 k.per V4_1 hs2 hs3).mono ?_
  rintro e X ⟨rfl, hx⟩
  refine hK _ _ hx fun V4_2 hu => ?_
  clear hK K
  have hxu := below_then hx hu
  replace bk := (hxu.block _ (size_of_block bk)).trans bk
  replace br := (hxu.block _ (size_of_block br)).trans br
  replace b7 := (hxu.block _ (size_of_block b7)).trans b7
  replace hB := below_then hB hxu
  clear hx hu hxu
  show wpPure _ _ _ _
  refine wpPure_step (.agg #[.int .i64 (floorI a1 k.per), .int .i64 (floorI a2 k.per)]) rfl (fun u => by first | rfl | simp [execOp, go_sem]) ?_
  refine wpPure_step (.agg #[.int .i64 (floorI a1 k.per), .int .i64 (floorI a2 k.per), .int .i64 0]) rfl (fun u => by first | rfl | simp [execOp, go_sem]) ?_
  intro ks hks _ _
  obtain rfl : ks = [] := List.length_eq_zero_iff.1 hks
  clear hks
  show wpList _ _ _ _ _ _
  simp only [deco]
  have HPP := Lib.hid (fun j : Nat => cell_setRow_same V4_2 (w.heap.size + 1) j _ #[.int .i64 (floorI a1 k.per), .int .i64 (floorI a2 k.per), .int .i64 0] _ _ br)
  have HBF := Lib.hid (below_setRow hB (show w.heap.size ≤ w.heap.size + 1 by omega) #[.int .i64 (floorI a1 k.per), .int .i64 (floorI a2 k.per), .int .i64 0])
  skip
  skip
  refine wpList_store_rowTo rfl 67 _ _ rfl rfl (w.heap.size + 1) #[.int .i64 (floorI a1 k.per), .int .i64 (floorI a2 k.per), .int .i64 0] rfl rfl 67 _ br (by kernel_rfl) rfl (by kernel_rfl) ?_
  go_wp2_with fail
  refine bodyPost_ret (v := .agg #[.int .i64 (floorI a1 k.per), .int .i64 (floorI a2 k.per), .int .i64 0]) ?_ rfl ⟨by rw [HE.out], HBF.out⟩
  simp [results, Tryz.results44, go_sem, HPP.out]
theorem rFeet_c (k : Kl) (v : Value) (id h : Int) (w : World) (hk : Kiln w v k) : Calls Tryz.prog 44 #[v, .int .i64 id, .int .i64 h] w fun e w' => e = .returned (.agg #[.int .i64 (feetE k id h).1.1, .int .i64 (feetE k id h).1.2, .int .i64 (feetE k id h).2]) ∧ Below w.heap.size w w' := by
  by_cases h0 : (belowE k id h).2 = 0
  · exact rFeet_ok k v id h w hk h0
  · exact rFeet_err k v id h w hk h0
end Go.Proofs.YtpgepfbdjefmdaaGreat
