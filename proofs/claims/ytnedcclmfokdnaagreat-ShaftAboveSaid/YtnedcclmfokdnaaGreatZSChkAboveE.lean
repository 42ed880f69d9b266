import Derived.Test.YtnedcclmfokdnaaGreatJ25
import Derived.Test.YtnedcclmfokdnaaGreatZSHgtE
import Derived.Test.YtnedcclmfokdnaaGreatZShaftHE
import Derived.Test.YtnedcclmfokdnaaGreatZSHeightsE
import Derived.Test.YtnedcclmfokdnaaGreatZSFitsE
namespace Go.Proofs.YtnedcclmfokdnaaGreat
open Go Go.RowKit Go.Shelf
attribute [local go_sem] Oper.semAt_some Rel RelAt RelUpon
theorem walkR_parts (l : List Tie) (p : List Int) (frm : Int) : ∃ ea es eo, walkR l p frm = .tuple #[.int .i64 ea, .int .i64 es, .bool eo] ∧ (eo = true ∧ walkI l p frm 0 = some (ea, es) ∨ eo = false ∧ walkI l p frm 0 = none) := by
  unfold walkR
  rcases h : walkI l p frm 0 with _ | ⟨a, s⟩
  · exact ⟨0, 0, false, rfl, .inr ⟨rfl, rfl⟩⟩
  · exact ⟨a, s, true, rfl, .inl ⟨rfl, rfl⟩⟩
set_option maxRecDepth 100000 in
set_option maxHeartbeats 4000000 in
theorem CheckAbove_c (k : Kl) (v pv tv : Value) (fr to m : Int) (p tl td : List Int) (w : World) (hv : Kiln w v k) (hp : Ints w w.heap.size pv p) (ht : Truth w tv tl td) :
    ∃ t1 t2, tv = .agg #[t1, t2] ∧ Calls Tryz.prog 34 #[v, .int .i64 fr, .int .i64 to, .agg #[.int .i64 m, pv, t1, t2]] w fun e w' => e = .returned (.int .i64 (aboveC k fr to m p tl td)) ∧ Below w.heap.size w w' := by
  obtain ⟨Ap, cp, rfl⟩ := Sl.form1 hp
  obtain ⟨ta, tb, rfl, hta, htb⟩ := id ht
  obtain ⟨Aa, ca, rfl⟩ := Sl.form1 hta
  obtain ⟨Ab, cb, rfl⟩ := Sl.form1 htb
  refine ⟨_, _, rfl, ?_⟩
  clear hta htb
  have hnp : p.length ≤ 140737488355328 := by obtain ⟨_, _, _, _, h, _⟩ := hp; exact h
  obtain ⟨A1, c1, A2, c2, A3, c3, rfl⟩ := kilnForm hv
  obtain ⟨q0, q1, -, qb⟩ := two_new' w (.cells #[.int .i64 k.room, .int .i64 k.per, .slice A1 k.ls.length c1, .slice A2 k.ds.length c2, .slice A3 k.ws.length c3] 26) (.cells #[.int .i64 m, .slice Ap p.length cp, .slice Aa tl.length ca, .slice Ab td.length cb] 54)
  have HKB := Lib.hid hv.toB
  have hk := hv.later qb
  clear hv
  replace hp := hp.later qb
  replace ht := ht.later qb
  go_enter Tryz.func34, Tryz.ntmps34
  have y0 := Joins.cell_of_block q0 0
  have y1 := Joins.cell_of_block q0 1
  have y2 := Joins.cell_of_block q0 2
  have y3 := Joins.cell_of_block q0 3
  have y4 := Joins.cell_of_block q0 4
  go_wp2_with fail
  generalize (w.alloc _).alloc _ = W1 at q0 q1 qb hk hp ht ⊢
  refine (checkMarks_c k _ fr to W1 hk).mono ?_
  rintro e W2 ⟨rfl, hF⟩
  replace q0 := (hF.block _ (size_of_block q0)).trans q0
  replace q1 := (hF.block _ (size_of_block q1)).trans q1
  replace qb := below_then qb hF
  replace hk := hk.later hF
  replace hp := hp.later hF
  replace ht := ht.later hF
  clear hF y0 y1 y2 y3 y4
  by_cases hm0 : marksI k fr to = 0
  · have hc0 : checkI k = 0 := by
      unfold marksI at hm0
      split at hm0
      · rename_i h; exact absurd hm0 h
      · rename_i h; simpa using h
    have hrg : (0 ≤ fr ∧ fr < marksN k) ∧ 0 ≤ to ∧ to < marksN k := by
      unfold marksI at hm0
      rw [if_neg (by simp [hc0])] at hm0
      split at hm0
      · rename_i h; unfold marksN; omega
      · cases hm0
    have HR := Lib.hid (right_of_check hc0)
    have hlen := tiesL_len HR.out.small
    have hN1 := mN_le HR.out
    have hmn := mN_eq k
    by_cases h200 : 200 < p.length
    · have HCL := Lib.hid (show aboveC k fr to m p tl td = 2 by unfold aboveC; rw [if_neg (by simp [hm0]), if_pos h200])
      rw [hm0]
      have d0 : ((0 : Int) != 0) = false := rfl
      have y0 := Joins.cell_of_block q0 0
      have y1 := Joins.cell_of_block q0 1
      have y2 := Joins.cell_of_block q0 2
      have y3 := Joins.cell_of_block q0 3
      have y4 := Joins.cell_of_block q0 4
      have zq := size_of_block q0
      have h0 := Joins.cell_of_block q1 0
      have h1 := Joins.cell_of_block q1 1
      have h2 := Joins.cell_of_block q1 2
      have h3 := Joins.cell_of_block q1 3
      have zh := size_of_block q1
      go_wp2_with fail
      all_goals (try (exfalso; omega))
      go_ret
      exact ⟨ret_int HCL.out.symm, qb⟩
    · have HCL := Lib.hid (show aboveC k fr to m p tl td = if walkI (tiesL k) p fr 0 = some (to, m) ∧ fitsB k tl td = true ∧ hgt k.ls.length tl td to - hgt k.ls.length tl td fr = m then 0 else 8 by unfold aboveC; rw [if_neg (by simp [hm0]), if_neg h200])
      obtain ⟨ea, es, eo, hwr, hwi⟩ := walkR_parts (tiesL k) p fr
      have hwc := fun u W (h1 : TiesAt W W.heap.size u (tiesL k)) (h2 : Ints W W.heap.size (.slice Ap p.length cp) p) => walk_c (marksN k) u (.slice Ap p.length cp) (tiesL k) p fr W h1 h2 HR.out.small.ties (by omega) (by omega)
      rw [hwr] at hwc
      have HWC := Lib.hid hwc
      have HWI := Lib.hid hwi
      have HRG := Lib.hid hrg
      have HMN := Lib.hid hmn
      rw [hm0]
      have d0 : ((0 : Int) != 0) = false := rfl
      clear hwr hwc hwi hrg hmn hc0 hm0
      have y0 := Joins.cell_of_block q0 0
      have y1 := Joins.cell_of_block q0 1
      have y2 := Joins.cell_of_block q0 2
      have y3 := Joins.cell_of_block q0 3
      have y4 := Joins.cell_of_block q0 4
      have zq := size_of_block q0
      have h0 := Joins.cell_of_block q1 0
      have h1 := Joins.cell_of_block q1 1
      have h2 := Joins.cell_of_block q1 2
      have h3 := Joins.cell_of_block q1 3
      have zh := size_of_block q1
      go_wp2_with fail
      all_goals (try (exfalso; omega))
      clear y0 y1 y2 y3 y4 zq h0 h1 h2 h3 zh
      refine wp_region_looseM [2] [0, 3, 4] (.one 1 (.one 5 .done)) [] [6, 7, 8, 9] [10, 11, 12] [] [] (by kernel_rfl) (by kernel_rfl) (by intro c a d v w h; cases d <;> exact h) (by intro c a d v w h; cases d <;> exact h) rfl (fun r i h => by simp at h) ?_
      simp only [pick, List.filterMap_cons, List.filterMap_nil, List.getElem?_toArray, List.getElem?_cons_succ, List.getElem?_cons_zero]
      refine wpPure_step (.int .i64 fr) rfl (fun u => by first | rfl | kernel_rfl | simp [execOp, go_sem]) ?_
      intro u1 hu1
      replace q1 := (hu1.block _ (size_of_block q1)).trans q1
      replace q0 := (hu1.block _ (size_of_block q0)).trans q0
      replace hk := hk.later hu1
      replace hp := hp.later hu1
      replace ht := ht.later hu1
      replace qb := below_then qb hu1
      have cq00 := Joins.cell_of_block q0 0
      have cq01 := Joins.cell_of_block q0 1
      have cq02 := Joins.cell_of_block q0 2
      have cq03 := Joins.cell_of_block q0 3
      have cq04 := Joins.cell_of_block q0 4
      have zq0 := size_of_block q0
      have cq10 := Joins.cell_of_block q1 0
      have cq11 := Joins.cell_of_block q1 1
      have cq12 := Joins.cell_of_block q1 2
      have cq13 := Joins.cell_of_block q1 3
      have zq1 := size_of_block q1
      have hcg : ∀ (g : Gr u1) b o, b < u1.heap.size → g.val.cell? ⟨b, o, none⟩ = u1.cell? ⟨b, o, none⟩ := fun g b o h => (bcell g.b).1 b o h
      iterate 3 (refine wpRel_step (fun K hK => ?_); go_simp; refine hK _ ?_; clear hK K)
      refine wpRel_nil fun V1_0 hb1 => ?_
      clear hcg cq00 cq01 cq02 cq03 cq04 zq0 cq10 cq11 cq12 cq13 zq1
      replace q0 := (hb1.block _ (size_of_block q0)).trans q0
      replace q1 := (hb1.block _ (size_of_block q1)).trans q1
      replace hk := hk.later hb1
      replace hp := hp.later hb1
      replace ht := ht.later hb1
      replace qb := below_then qb hb1
      clear hb1 hu1
      refine wpTr_step rfl rfl fun K hK => ?_
      go_simp
      refine (netOf_c k _ V1_0 hk HR.out).mono ?_
      rintro e X ⟨u, rfl, hT, hx⟩
      refine hK _ _ hx fun V1_1 hu => ?_
      clear hK K
      have hxu := below_then hx hu
      replace hT := hT.later hu
      replace q0 := (hxu.block _ (size_of_block q0)).trans q0
      replace q1 := (hxu.block _ (size_of_block q1)).trans q1
      replace hk := hk.later hxu
      replace hp := hp.later hxu
      replace ht := ht.later hxu
      replace qb := below_then qb hxu
      clear hx hu hxu
      refine wpTr_step rfl rfl fun K hK => ?_
      go_simp
      refine (HWC.out u V1_1 hT hp).mono ?_
      rintro e X ⟨rfl, hx⟩
      refine hK _ _ hx fun V1_2 hu => ?_
      clear hK K
      have hxu := below_then hx hu
      replace q0 := (hxu.block _ (size_of_block q0)).trans q0
      replace q1 := (hxu.block _ (size_of_block q1)).trans q1
      replace hk := hk.later hxu
      replace hp := hp.later hxu
      replace ht := ht.later hxu
      replace qb := below_then qb hxu
      clear hx hu hxu
      show wpPure _ _ _ _
      refine wpPure_step (.tuple #[.int .i64 ea, .int .i64 es, .bool eo]) rfl (fun u => rfl) ?_
      refine wpPure_step (.int .i64 ea) rfl (fun u => rfl) ?_
      refine wpPure_step (.int .i64 es) rfl (fun u => rfl) ?_
      refine wpPure_step (.bool eo) rfl (fun u => rfl) ?_
      intro ks hks _ _
      obtain rfl : ks = [] := List.length_eq_zero_iff.1 hks
      clear hks
      show wpList _ _ _ _ _ _
      simp only [deco]
      clear hT
      generalize V1_2 = W5 at q0 q1 qb hk hp ht ⊢
      rcases HWI.out with ⟨rfl, hw1⟩ | ⟨rfl, hw1⟩
      · by_cases ha : ea = to
        · have ha2 := ha.symm
          clear ha
          subst ha2
          have d4 : (to != to) = false := by simp
          by_cases hb : es = m
          · have hb2 := hb.symm
            clear hb
            subst hb2
            have d5 : (m != m) = false := by simp
            have y0 := Joins.cell_of_block q0 0
            have y1 := Joins.cell_of_block q0 1
            have y2 := Joins.cell_of_block q0 2
            have y3 := Joins.cell_of_block q0 3
            have y4 := Joins.cell_of_block q0 4
            have zq := size_of_block q0
            have h0 := Joins.cell_of_block q1 0
            have h1 := Joins.cell_of_block q1 1
            have h2 := Joins.cell_of_block q1 2
            have h3 := Joins.cell_of_block q1 3
            have zh := size_of_block q1
            go_wp2_with fail
            refine (Fits_c k _ _ tl td W5 hk ht).mono ?_
            rintro e W6 ⟨rfl, hF⟩
            clear y0 y1 y2 y3 y4 zq h0 h1 h2 h3 zh
            replace q0 := (hF.block _ (size_of_block q0)).trans q0
            replace q1 := (hF.block _ (size_of_block q1)).trans q1
            replace qb := below_then qb hF
            replace hk := hk.later hF
            replace hp := hp.later hF
            replace ht := ht.later hF
            clear hF
            by_cases hf : fitsB k tl td = true
            · obtain ⟨hfe, hfb⟩ : fitsE k tl td = 0 ∧ True_ k tl td := by
                have h := hf
                unfold fitsB at h
                rw [Bool.and_eq_true, beq_iff_eq] at h
                exact ⟨h.1, (fitsB_iff.1 hf).2⟩
              rw [hf, hfe]
              have hhc := heightsOf_c k _ _ tl td W6 hk ht hfb.1 hfb.2.1 HR.out.ls HR.out.ds
              have HHC := Lib.hid hhc
              have HF := Lib.hid hf
              obtain ⟨x, rfl⟩ : ∃ x : Nat, fr = x := ⟨fr.toNat, by have := HRG.out; omega⟩
              obtain ⟨y, rfl⟩ : ∃ y : Nat, to = y := ⟨to.toNat, by have := HRG.out; omega⟩
              have hx : x < 41 := by have := HRG.out; have := HMN.out; omega
              have hy : y < 41 := by have := HRG.out; have := HMN.out; omega
              have hgx := hgtN_eq (k := k) (wtsB_iff.1 hfb.1).1 (wtsB_iff.1 hfb.2.1).1 (v := x) HRG.out.1.2
              have hgy := hgtN_eq (k := k) (wtsB_iff.1 hfb.1).1 (wtsB_iff.1 hfb.2.1).1 (v := y) HRG.out.2.2
              have rx := hgt_rng hfb.1 hfb.2.1 HR.out.ls HR.out.ds x
              have ry := hgt_rng hfb.1 hfb.2.1 HR.out.ls HR.out.ds y
              have HGX := Lib.hid hgx
              have HGY := Lib.hid hgy
              clear hhc hf hfe hfb hgx hgy
              have y0 := Joins.cell_of_block q0 0
              have y1 := Joins.cell_of_block q0 1
              have y2 := Joins.cell_of_block q0 2
              have y3 := Joins.cell_of_block q0 3
              have y4 := Joins.cell_of_block q0 4
              have zq := size_of_block q0
              have h0 := Joins.cell_of_block q1 0
              have h1 := Joins.cell_of_block q1 1
              have h2 := Joins.cell_of_block q1 2
              have h3 := Joins.cell_of_block q1 3
              have zh := size_of_block q1
              go_wp2_with fail
              refine HHC.out.mono ?_
              rintro e W7 ⟨rfl, hF⟩
              clear y0 y1 y2 y3 y4 zq h0 h1 h2 h3 zh
              replace q0 := (hF.block _ (size_of_block q0)).trans q0
              replace q1 := (hF.block _ (size_of_block q1)).trans q1
              replace qb := below_then qb hF
              replace hk := hk.later hF
              replace hp := hp.later hF
              replace ht := ht.later hF
              clear hF HHC
              obtain ⟨W8, hW8⟩ : ∃ W8, W8 = (W7.alloc (.cells #[.int .i64 0, .int .i64 0, .int .i64 0, .int .i64 0, .int .i64 0, .int .i64 0, .int .i64 0, .int .i64 0, .int .i64 0, .int .i64 0, .int .i64 0, .int .i64 0, .int .i64 0, .int .i64 0, .int .i64 0, .int .i64 0, .int .i64 0, .int .i64 0, .int .i64 0, .int .i64 0, .int .i64 0, .int .i64 0, .int .i64 0, .int .i64 0, .int .i64 0, .int .i64 0, .int .i64 0, .int .i64 0, .int .i64 0, .int .i64 0, .int .i64 0, .int .i64 0, .int .i64 0, .int .i64 0, .int .i64 0, .int .i64 0, .int .i64 0, .int .i64 0, .int .i64 0, .int .i64 0, .int .i64 0] 124)).setRow W7.heap.size (hgA (hgtN k.ls.length tl td)) := ⟨_, rfl⟩
              have b8 : Below W7.heap.size W7 W8 := by rw [hW8]; exact below_setRow (below_alloc _ _) (Nat.le_refl _) _
              have r8 : W8.heap[W7.heap.size]? = some (.cells (hgA (hgtN k.ls.length tl td)) 124) := by rw [hW8]; exact setRow_heap _ _ _ _ _ _ (heap_alloc_new W7 _)
              have HW8 := Lib.hid hW8
              replace q0 := (b8.block _ (size_of_block q0)).trans q0
              replace q1 := (b8.block _ (size_of_block q1)).trans q1
              replace qb := below_then qb b8
              replace hk := hk.later b8
              replace hp := hp.later b8
              replace ht := ht.later b8
              clear b8 hW8
              have v1 := (Joins.cell_of_block r8 x).trans (hgA_at _ hx)
              have v2 := (Joins.cell_of_block r8 y).trans (hgA_at _ hy)
              rw [HGX.out] at v1
              rw [HGY.out] at v2
              have z8 := size_of_block r8
              have hci := HCL.out
              generalize hgt k.ls.length tl td x = gx at v1 rx hci
              generalize hgt k.ls.length tl td y = gy at v2 ry hci
              have hx3 : (x : Int) < 41 := by omega
              have hy3 : (y : Int) < 41 := by omega
              have h0 := Joins.cell_of_block q1 0
              have h1 := Joins.cell_of_block q1 1
              have h2 := Joins.cell_of_block q1 2
              have h3 := Joins.cell_of_block q1 3
              have zh := size_of_block q1
              go_wp2_with (first | (refine wpList_store_rowTo rfl 124 _ _ rfl rfl W7.heap.size (hgA (hgtN k.ls.length tl td)) rfl rfl 124 _ (heap_alloc_new W7 _) (by kernel_rfl) (by rw [hgA_size]; kernel_rfl) (by rw [hgA_size]; kernel_rfl) ?_; rw [← HW8.out]))
              refine wp_region_grown (by kernel_rfl) (by kernel_rfl) fun hcg => ?_
              repeat (go_big_quiet_step (fail))
              refine wpQuiet_nil ?_
              intro _ hw'
              obtain ⟨g, hw''⟩ := hw'
              subst hw''
              replace qb := below_then qb g.b
              by_cases he : gy - gx = m
              · rw [if_pos ⟨hw1, HF.out, he⟩] at hci
                have HCC := Lib.hid hci
                have d6 : (gy - gx != m) = false := by simp [he]
                clear hci v1 v2
                go_wp2_with fail
                go_ret
                exact ⟨ret_int HCC.out.symm, qb⟩
              · rw [if_neg (fun h => he h.2.2)] at hci
                have HCC := Lib.hid hci
                have d6 : (gy - gx != m) = true := by simpa using he
                clear hci v1 v2
                go_wp2_with fail
                go_ret
                exact ⟨ret_int HCC.out.symm, qb⟩
            · have hff : fitsB k tl td = false := by simpa using hf
              have HCC := Lib.hid (show aboveC k fr to m p tl td = 8 by rw [HCL.out]; exact if_neg (by intro h; exact hf h.2.1))
              rw [hff]
              by_cases hfe : fitsE k tl td = 0
              · rw [hfe]
                go_wp2_with fail
                go_ret
                exact ⟨ret_int HCC.out.symm, qb⟩
              · have d6 : (fitsE k tl td != 0) = true := by simpa using hfe
                go_wp2_with fail
                go_ret
                exact ⟨ret_int HCC.out.symm, qb⟩
          · have d5 : (es != m) = true := by simpa using hb
            have HCC := Lib.hid (show aboveC k fr to m p tl td = 8 by rw [HCL.out]; exact if_neg (by rw [hw1]; simp [hb]))
            have y0 := Joins.cell_of_block q0 0
            have y1 := Joins.cell_of_block q0 1
            have y2 := Joins.cell_of_block q0 2
            have y3 := Joins.cell_of_block q0 3
            have y4 := Joins.cell_of_block q0 4
            have zq := size_of_block q0
            have h0 := Joins.cell_of_block q1 0
            have h1 := Joins.cell_of_block q1 1
            have h2 := Joins.cell_of_block q1 2
            have h3 := Joins.cell_of_block q1 3
            have zh := size_of_block q1
            go_wp2_with fail
            go_ret
            exact ⟨ret_int HCC.out.symm, qb⟩
        · have d4 : (ea != to) = true := by simpa using ha
          have HCC := Lib.hid (show aboveC k fr to m p tl td = 8 by rw [HCL.out]; exact if_neg (by rw [hw1]; simp [ha]))
          have y0 := Joins.cell_of_block q0 0
          have y1 := Joins.cell_of_block q0 1
          have y2 := Joins.cell_of_block q0 2
          have y3 := Joins.cell_of_block q0 3
          have y4 := Joins.cell_of_block q0 4
          have zq := size_of_block q0
          have h0 := Joins.cell_of_block q1 0
          have h1 := Joins.cell_of_block q1 1
          have h2 := Joins.cell_of_block q1 2
          have h3 := Joins.cell_of_block q1 3
          have zh := size_of_block q1
          go_wp2_with fail
          go_ret
          exact ⟨ret_int HCC.out.symm, qb⟩
      · have HCC := Lib.hid (show aboveC k fr to m p tl td = 8 by rw [HCL.out]; exact if_neg (by rw [hw1]; simp))
        have y0 := Joins.cell_of_block q0 0
        have y1 := Joins.cell_of_block q0 1
        have y2 := Joins.cell_of_block q0 2
        have y3 := Joins.cell_of_block q0 3
        have y4 := Joins.cell_of_block q0 4
        have zq := size_of_block q0
        have h0 := Joins.cell_of_block q1 0
        have h1 := Joins.cell_of_block q1 1
        have h2 := Joins.cell_of_block q1 2
        have h3 := Joins.cell_of_block q1 3
        have zh := size_of_block q1
        go_wp2_with fail
        go_ret
        exact ⟨ret_int HCC.out.symm, qb⟩
  · have d0 : (marksI k fr to != 0) = true := by simpa using hm0
    have HCL := Lib.hid (show aboveC k fr to m p tl td = marksI k fr to by unfold aboveC; rw [if_pos hm0])
    clear hm0
    go_wp2_with fail
    go_ret
    exact ⟨ret_int HCL.out.symm, qb⟩
end Go.Proofs.YtnedcclmfokdnaaGreat
