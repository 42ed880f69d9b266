/- The reference's Ties, SameTies (written by tools/gensrefl.py). -/
import Derived.Test.YtnedcclmfokdnaaGreatZSRefE
import Derived.Test.YtnedcclmfokdnaaGreatJ27
import Derived.Test.YtnedcclmfokdnaaGreatZPlanG
import Derived.Test.YtnedcclmfokdnaaGreatZSTiesDE
namespace Go.Proofs.YtnedcclmfokdnaaGreat
open Go Go.RowKit Go.Shelf
attribute [local go_sem] Oper.semAt_some Rel RelAt RelUpon

set_option maxRecDepth 100000 in
set_option maxHeartbeats 4000000 in
theorem rSame_c (l : List Tie) (v u : Value) (w : World) (hT : TiesAt w w.heap.size v l) (hU : TiesAt w w.heap.size u l) : Calls Tryz.prog 24 #[v, u] w fun e w' => e = .returned (.bool true) ∧ Below w.heap.size w w' := by
  obtain ⟨A, c, rfl, _, hln, hta⟩ := hT.open_
  obtain ⟨B, d, rfl, _, _, hua⟩ := hU.open_
  have HTA := Lib.hid hta
  have HUA := Lib.hid hua
  clear hta hua hT hU
  go_enter Tryz.func24, Tryz.ntmps24
  go_wp2_with fail
  go_loopw [5] (fun n9 wr => ∃ j : Nat, j ≤ l.length ∧ n9 = .int .i64 j ∧ Below w.heap.size w wr) (fun n9 _ => l.length - (intOf n9).toNat)
  case atStart => exact ⟨0, Nat.zero_le _, rfl, Below.refl _ _⟩
  case round =>
    obtain ⟨j, hj, rfl, hB⟩ := hrel
    by_cases hlt : j < l.length
    · obtain ⟨b1, o1, t, rfl, hb1, hx, a0, a1, a2, a3⟩ := HTA.out j hlt
      obtain ⟨b2, o2, t', rfl, hb2, hx2, e0, e1, e2, e3⟩ := HUA.out j hlt
      obtain rfl : t = t' := by rw [hx] at hx2; simpa using hx2
      obtain ⟨tf, tt, tm, ti⟩ := t
      simp only at a0 a1 a2 a3 e0 e1 e2 e3
      clear hx hx2
      replace a0 := (hB.cell (p := ⟨b1, o1 + j * 4, none⟩) hb1).trans a0
      replace a1 := (hB.cell (p := ⟨b1, o1 + j * 4 + 1, none⟩) hb1).trans a1
      replace a2 := (hB.cell (p := ⟨b1, o1 + j * 4 + 2, none⟩) hb1).trans a2
      replace a3 := (hB.cell (p := ⟨b1, o1 + j * 4 + 3, none⟩) hb1).trans a3
      replace e0 := (hB.cell (p := ⟨b2, o2 + j * 4, none⟩) hb2).trans e0
      replace e1 := (hB.cell (p := ⟨b2, o2 + j * 4 + 1, none⟩) hb2).trans e1
      replace e2 := (hB.cell (p := ⟨b2, o2 + j * 4 + 2, none⟩) hb2).trans e2
      replace e3 := (hB.cell (p := ⟨b2, o2 + j * 4 + 3, none⟩) hb2).trans e3
      replace hb1 := Nat.lt_of_lt_of_le hb1 hB.size
      replace hb2 := Nat.lt_of_lt_of_le hb2 hB.size
      go_wp2_with fail
      refine wp_region_looseM [0, 1, 4, 5] [2, 3, 6, 7, 8] .done [] [] [] [] [] (by kernel_rfl) (by kernel_rfl) (by intro c a d v w h; cases d <;> exact h) (by intro c a d v w h; cases d <;> exact h) rfl (fun r i h => by simp at h) ?_
      simp only [pick, List.filterMap_cons, List.filterMap_nil, List.getElem?_toArray, List.getElem?_cons_succ, List.getElem?_cons_zero]
      refine wpPure_step (.slice (some ⟨b1, o1, none⟩) l.length c) rfl (fun u => by first | rfl | kernel_rfl | simp [execOp, go_sem]) ?_
      refine wpPure_step (.int .i64 j) rfl (fun u => by first | rfl | kernel_rfl | simp [execOp, go_sem]) ?_
      refine wpPure_step (.slice (some ⟨b2, o2, none⟩) l.length d) rfl (fun u => by first | rfl | kernel_rfl | simp [execOp, go_sem]) ?_
      refine wpPure_step (.int .i64 j) rfl (fun u => by first | rfl | kernel_rfl | simp [execOp, go_sem]) ?_
      intro U hU
      replace a0 := (hU.cell (p := ⟨b1, o1 + j * 4, none⟩) hb1).trans a0
      replace a1 := (hU.cell (p := ⟨b1, o1 + j * 4 + 1, none⟩) hb1).trans a1
      replace a2 := (hU.cell (p := ⟨b1, o1 + j * 4 + 2, none⟩) hb1).trans a2
      replace a3 := (hU.cell (p := ⟨b1, o1 + j * 4 + 3, none⟩) hb1).trans a3
      replace e0 := (hU.cell (p := ⟨b2, o2 + j * 4, none⟩) hb2).trans e0
      replace e1 := (hU.cell (p := ⟨b2, o2 + j * 4 + 1, none⟩) hb2).trans e1
      replace e2 := (hU.cell (p := ⟨b2, o2 + j * 4 + 2, none⟩) hb2).trans e2
      replace e3 := (hU.cell (p := ⟨b2, o2 + j * 4 + 3, none⟩) hb2).trans e3
      replace hb1 := Nat.lt_of_lt_of_le hb1 hU.size
      replace hb2 := Nat.lt_of_lt_of_le hb2 hU.size
      replace hB := below_then hB hU
      have hcg : ∀ (g : Gr U) b o, b < U.heap.size → g.val.cell? ⟨b, o, none⟩ = U.cell? ⟨b, o, none⟩ := fun g b o h => (bcell g.b).1 b o h
      iterate 4 (first | (refine wpRel_step (fun K hK => ?_); go_simp; refine hK _ ?_; clear hK K))
      refine wpRel_val (.bool false) (by kernel_rfl) (fun g => by simp [execOp, go_sem, Tryz.neTie1]) ?_
      refine wpRel_nil fun V hV => ?_
      clear hcg a0 a1 a2 a3 e0 e1 e2 e3
      replace hB := below_then hB hV
      clear hV hU
      show wpPure _ _ _ _
      intro ks hks _ _
      obtain rfl : ks = [] := List.length_eq_zero_iff.1 hks
      clear hks
      show wpList _ _ _ _ _ _
      simp only [deco]
      go_wp2_with fail
      go_roundw
      case rel => exact ⟨j + 1, by omega, by go_num, hB⟩
      case measure => simp [intOf]; omega
    · obtain rfl : j = l.length := by omega
      go_wp2_with fail
      go_ret
      exact ⟨rfl, hB⟩
set_option maxRecDepth 100000 in
set_option maxHeartbeats 4000000 in
theorem rTies_c (k : Kl) (v : Value) (w : World) (hk : Kiln w v k) : Calls Tryz.prog 19 #[v] w fun e w' => (∃ A c, e = .returned (.agg #[.slice A (tiesE k).length c, .int .i64 (checkI k)]) ∧ TiesAt w' w'.heap.size (.slice A (tiesE k).length c) (tiesE k)) ∧ Below w.heap.size w w' := by
  obtain ⟨A1, c1, A2, c2, A3, c3, rfl⟩ := kilnForm hk
  have HK := Lib.hid hk
  clear hk
  by_cases hc : checkI k = 0
  · have HR := Lib.hid (right_of_check hc)
    have HTE := Lib.hid (show tiesE k = tiesL k from if_pos hc)
    have HCC := Lib.hid hc
    rw [HTE.out]
    go_enter Tryz.func19, Tryz.ntmps19
    obtain ⟨bk, br, -, HB⟩ := two_new' w (.cells #[.int .i64 k.room, .int .i64 k.per, .slice A1 k.ls.length c1, .slice A2 k.ds.length c2, .slice A3 k.ws.length c3] 26) (.cells #[.slice none 0 0, .int .i64 0] 37)
    have cbk0 := Joins.cell_of_block bk 0
    have cbk1 := Joins.cell_of_block bk 1
    have cbk2 := Joins.cell_of_block bk 2
    have cbk3 := Joins.cell_of_block bk 3
    have cbk4 := Joins.cell_of_block bk 4
    have zbk := size_of_block bk
    go_wp2_with fail
    generalize ((w.alloc (.cells #[.int .i64 k.room, .int .i64 k.per, .slice A1 k.ls.length c1, .slice A2 k.ds.length c2, .slice A3 k.ws.length c3] 26)).alloc (.cells #[.slice none 0 0, .int .i64 0] 37)) = w1 at bk br HB cbk0 cbk1 cbk2 cbk3 cbk4 zbk ⊢
    have hB := HB
    clear HB
    refine (rcheck_c k _ w1 (HK.out.later hB)).mono ?_
    rintro e w2 ⟨rfl, hF⟩
    clear cbk0 cbk1 cbk2 cbk3 cbk4 zbk
    replace bk := (hF.block _ (size_of_block bk)).trans bk
    replace br := (hF.block _ (size_of_block br)).trans br
    replace hB := below_then hB hF
    clear hF
    rw [hc]
    have cbk0 := Joins.cell_of_block bk 0
    have cbk1 := Joins.cell_of_block bk 1
    have cbk2 := Joins.cell_of_block bk 2
    have cbk3 := Joins.cell_of_block bk 3
    have cbk4 := Joins.cell_of_block bk 4
    have zbk := size_of_block bk
    go_wp2_with fail
    refine (rties_c k _ w2 (HK.out.later hB) HR.out.small).mono ?_
    rintro e w3 ⟨uu, rfl, hT, hF⟩
    clear cbk0 cbk1 cbk2 cbk3 cbk4 zbk
    replace bk := (hF.block _ (size_of_block bk)).trans bk
    replace br := (hF.block _ (size_of_block br)).trans br
    replace hB := below_then hB hF
    clear hF
    obtain ⟨AT, cT, rfl⟩ := own_form hT
    have HTF := Lib.hid (OwnTies.at_ (own_setRowX hT br (by decide) #[.slice AT (tiesL k).length cT, .int .i64 0]) (by have := tiesL_len HR.out.small; omega))
    have HPP := Lib.hid (fun jj : Nat => cell_setRow_same w3 (w.heap.size + 1) jj _ #[.slice AT (tiesL k).length cT, .int .i64 0] _ _ br)
    have HBF := Lib.hid (below_setRow hB (show w.heap.size ≤ w.heap.size + 1 by omega) #[.slice AT (tiesL k).length cT, .int .i64 0])
    go_wp2_with (first | (refine wpList_store_rowTo rfl 37 _ _ rfl rfl (w.heap.size + 1) #[.slice AT (tiesL k).length cT, .int .i64 0] rfl rfl 37 _ br (by kernel_rfl) rfl (by kernel_rfl) ?_))
    refine bodyPost_ret (v := .agg #[.slice AT (tiesL k).length cT, .int .i64 0]) ?_ rfl ⟨⟨AT, cT, by rw [HCC.out], by simpa using HTF.out⟩, HBF.out⟩
    simp [results, Tryz.results19, go_sem, HPP.out]
  · have HTE := Lib.hid (show tiesE k = [] from if_neg hc)
    rw [HTE.out]
    have d0 : (checkI k != 0) = true := by simpa using hc
    go_enter Tryz.func19, Tryz.ntmps19
    obtain ⟨bk, br, -, HB⟩ := two_new' w (.cells #[.int .i64 k.room, .int .i64 k.per, .slice A1 k.ls.length c1, .slice A2 k.ds.length c2, .slice A3 k.ws.length c3] 26) (.cells #[.slice none 0 0, .int .i64 0] 37)
    have cbk0 := Joins.cell_of_block bk 0
    have cbk1 := Joins.cell_of_block bk 1
    have cbk2 := Joins.cell_of_block bk 2
    have cbk3 := Joins.cell_of_block bk 3
    have cbk4 := Joins.cell_of_block bk 4
    have zbk := size_of_block bk
    go_wp2_with fail
    generalize ((w.alloc (.cells #[.int .i64 k.room, .int .i64 k.per, .slice A1 k.ls.length c1, .slice A2 k.ds.length c2, .slice A3 k.ws.length c3] 26)).alloc (.cells #[.slice none 0 0, .int .i64 0] 37)) = w1 at bk br HB cbk0 cbk1 cbk2 cbk3 cbk4 zbk ⊢
    have hB := HB
    clear HB
    refine (rcheck_c k _ w1 (HK.out.later hB)).mono ?_
    rintro e w2 ⟨rfl, hF⟩
    clear cbk0 cbk1 cbk2 cbk3 cbk4 zbk
    replace bk := (hF.block _ (size_of_block bk)).trans bk
    replace br := (hF.block _ (size_of_block br)).trans br
    replace hB := below_then hB hF
    clear hF
    have HPP := Lib.hid (fun jj : Nat => cell_setRow_same w2 (w.heap.size + 1) jj _ #[.slice none 0 0, .int .i64 (checkI k)] _ _ br)
    have HBF := Lib.hid (below_setRow hB (show w.heap.size ≤ w.heap.size + 1 by omega) #[.slice none 0 0, .int .i64 (checkI k)])
    go_wp2_with (first | (refine wpList_store_rowTo rfl 37 _ _ rfl rfl (w.heap.size + 1) #[.slice none 0 0, .int .i64 (checkI k)] rfl rfl 37 _ br (by kernel_rfl) rfl (by kernel_rfl) ?_))
    refine bodyPost_ret (v := .agg #[.slice none 0 0, .int .i64 (checkI k)]) ?_ rfl ⟨⟨none, 0, rfl, Sl.nil_⟩, HBF.out⟩
    simp [results, Tryz.results19, go_sem, HPP.out]
end Go.Proofs.YtnedcclmfokdnaaGreat
