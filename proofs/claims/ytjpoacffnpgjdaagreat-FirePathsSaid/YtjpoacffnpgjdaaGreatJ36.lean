/- Texts joined: FRefT. -/
import Derived.Test.YtjpoacffnpgjdaaGreatJ24
import Derived.Test.YtjpoacffnpgjdaaGreatJ21
/- The reference for fires: Burnt. -/
namespace Go.Proofs.YtjpoacffnpgjdaaGreat
open Go Go.RowKit Go.Shelf
attribute [local go_sem] Oper.semAt_some Rel RelAt RelUpon

set_option maxRecDepth 100000 in
set_option maxHeartbeats 4000000 in
theorem BurntR_c (f : Fi) (vl v1 : Value) (l : List Spt) (need : Int) (w : World) (hl : Lks w w.heap.size vl f.ls) (h1 : Spts w w.heap.size v1 l) :
    Calls Tryz.prog 39 #[fiV f vl, v1, .int .i64 need] w fun e w' => e = .returned (.agg #[.int .i64 (leastR f l need).hours, .int .i64 (leastR f l need).row, .int .i64 (leastR f l need).sum, .int .i64 (mostR f l need).hours, .int .i64 (mostR f l need).row, .int .i64 (mostR f l need).sum, .int .i64 (sunkE f l need)]) ∧ Below w.heap.size w w' := by
  obtain ⟨A, cap, rfl⟩ := hl.form
  obtain ⟨A1, cap1, rfl⟩ := h1.form
  have HK := Lib.hid hl
  have H1 := Lib.hid h1
  clear hl h1
  have x0 := fun W h h1 => sunk_r f (.slice A f.ls.length cap) (.slice A1 l.length cap1) l need W h h1
  obtain ⟨q0, q1, -, qb⟩ := two_new' w (.cells #[.int .i64 f.rise, .int .i64 f.fall, .int .i64 f.up, .int .i64 f.down, .slice A f.ls.length cap] 24) (.cells #[.int .i64 0, .int .i64 0, .int .i64 0, .int .i64 0, .int .i64 0, .int .i64 0, .int .i64 0] 78)
  have hk := HK.out.later qb
  have h1 := H1.out.later qb
  by_cases hE : sunkE f l need = 0
  · obtain ⟨hok, hag, hnr, hl2, -⟩ := snk_zero hE
    obtain ⟨e1, e2, -, -⟩ := snk_least hE
    have hsp := (path_zero (first2.1 (known_zero hE).2.1).1).2
    rw [e1, e2, hE]
    rw [hE] at x0
    have x1 := fun W h h1 => along_r f (.slice A f.ls.length cap) (.slice A1 l.length cap1) l false W h h1 hok.slope hok.look hsp (by omega)
    have x2 := fun W h h1 => along_r f (.slice A f.ls.length cap) (.slice A1 l.length cap1) l true W h h1 hok.slope hok.look hsp (by omega)
    rw [show l.map (endB false f f.ls) = lowsI f l from rfl] at x1
    rw [show l.map (endB true f f.ls) = highsI f l from rfl] at x2
    have hr1 : ∀ x ∈ lowsI f l, 0 ≤ x ∧ x ≤ 1500 := by
      intro x hx; obtain ⟨p, _, rfl⟩ := List.mem_map.1 hx; exact lo_range hok.slope hok.look p
    have hr2 : ∀ x ∈ highsI f l, 0 ≤ x ∧ x ≤ 1500 := by
      intro x hx; obtain ⟨p, _, rfl⟩ := List.mem_map.1 hx; exact hi_range hok.slope hok.look p
    have hll1 : (lowsI f l).length = l.length := by unfold lowsI; simp
    have hll2 : (highsI f l).length = l.length := by unfold highsI; simp
    generalize lowsI f l = L1 at x1 hll1 hr1 ⊢
    generalize highsI f l = L2 at x2 hll2 hr2 ⊢
    have HB1 := Lib.hid (fun u W h => BurnR2_c u L1 need W h (by omega) hr1 hnr)
    have HB2 := Lib.hid (fun u W h => BurnR2_c u L2 need W h (by omega) hr2 hnr)
    generalize burnI L1 need = B1 at HB1 ⊢
    generalize burnI L2 need = B2 at HB2 ⊢
    have HL1 := Lib.hid hll1
    have HL2 := Lib.hid hll2
    have H2 := Lib.hid hl2
    have X0 := Lib.hid x0
    have X1 := Lib.hid x1
    have X2 := Lib.hid x2
    have HK1 := Lib.hid hk
    have H11 := Lib.hid h1
    clear hE hok hag hnr hl2 hsp x0 x1 x2 hll1 hll2 hr1 hr2 hk h1 e1 e2
    unfold brnV at HB1 HB2
    unfold fiV at X0 X1 X2 ⊢
    go_enter Tryz.func39, Tryz.ntmps39
    go_wp2_with fail
    generalize (w.alloc _).alloc _ = W2 at q0 q1 qb HK1 H11 ⊢
    refine (X0.out W2 HK1.out H11.out).mono ?_
    rintro e W3 ⟨rfl, hF⟩
    have bf := (hF.block _ (size_of_block q0)).trans q0
    have br := (hF.block _ (size_of_block q1)).trans q1
    have hB := below_then qb hF
    have hk := HK1.out.later hF
    have h1 := H11.out.later hF
    clear hF q0 q1 qb
    go_wp2_with fail
    refine wp_region_looseM [] [0, 1, 3, 5, 6, 8] (.one 2 (.one 4 (.one 7 (.one 9 .done)))) [] [10] [11] [] [] (by kernel_rfl) (by kernel_rfl) (by intro c a d v w h; cases d <;> exact h) (by intro c a d v w h; cases d <;> exact h) rfl (fun r i h => by simp at h) ?_
    simp only [pick, List.filterMap_cons, List.filterMap_nil, List.getElem?_toArray, List.getElem?_cons_succ, List.getElem?_cons_zero]
    intro u hu
    have tf := (hu.block _ (size_of_block bf)).trans bf
    have ztf := size_of_block tf
    have k0 := Joins.cell_of_block tf 0
    have k1 := Joins.cell_of_block tf 1
    have k2 := Joins.cell_of_block tf 2
    have k3 := Joins.cell_of_block tf 3
    have k4 := Joins.cell_of_block tf 4
    have hcg : ∀ (g : Gr u) b o, b < u.heap.size → g.val.cell? ⟨b, o, none⟩ = u.cell? ⟨b, o, none⟩ := fun g b o h => (bcell g.b).1 b o h
    iterate 6 (refine wpRel_step (fun K hK => ?_); go_simp; refine hK _ ?_; clear hK K)
    refine wpRel_nil fun V0 hb0 => ?_
    clear hcg ztf k0 k1 k2 k3 k4 tf
    have D0 := below_then hu hb0
    clear hb0 hu
    refine wpTr_step rfl rfl fun K hK => ?_
    go_simp
    refine (X1.out V0 (hk.later D0) (h1.later D0)).mono ?_
    rintro e Y1 ⟨u1, rfl, ho1, hx1⟩
    have hi1 := Ints.of_own (l := L1) (by rw [HL1.out]; exact ho1) (by have := H2.out; have := HL1.out; omega)
    refine hK _ _ hx1 fun V1 hu1 => ?_
    clear hK K
    replace hi1 := hi1.later hu1
    have D1 := below_then D0 (below_then hx1 hu1)
    clear hx1 hu1 ho1 D0
    refine wpTr_step rfl rfl fun K hK => ?_
    go_simp
    refine (HB1.out u1 V1 hi1).mono ?_
    rintro e Y2 ⟨rfl, hx2⟩
    refine hK _ _ hx2 fun V2 hu2 => ?_
    clear hK K hi1
    have D2 := below_then D1 (below_then hx2 hu2)
    clear hx2 hu2 D1
    refine wpTr_step rfl rfl fun K hK => ?_
    go_simp
    refine (X2.out V2 (hk.later D2) (h1.later D2)).mono ?_
    rintro e Y3 ⟨u2, rfl, ho2, hx3⟩
    have hi2 := Ints.of_own (l := L2) (by rw [HL2.out]; exact ho2) (by have := H2.out; have := HL2.out; omega)
    refine hK _ _ hx3 fun V3 hu3 => ?_
    clear hK K
    replace hi2 := hi2.later hu3
    have D3 := below_then D2 (below_then hx3 hu3)
    clear hx3 hu3 ho2 D2
    refine wpTr_step rfl rfl fun K hK => ?_
    go_simp
    refine (HB2.out u2 V3 hi2).mono ?_
    rintro e Y4 ⟨rfl, hx4⟩
    refine hK _ _ hx4 fun V4 hu4 => ?_
    clear hK K hi2
    have D4 := below_then D3 (below_then hx4 hu4)
    clear hx4 hu4 D3
    show wpPure _ _ _ _
    refine wpPure_step (.agg #[.int .i64 B1.hours, .int .i64 B1.row, .int .i64 B1.sum, .int .i64 B2.hours, .int .i64 B2.row, .int .i64 B2.sum, .int .i64 0]) rfl (fun u => by kernel_rfl) ?_
    intro ks hks _ _
    obtain rfl : ks = [] := List.length_eq_zero_iff.1 hks
    clear hks
    show wpList _ _ _ _ _ _
    simp only [deco]
    replace br := (D4.block _ (size_of_block br)).trans br
    replace hB := below_then hB D4
    clear D4
    have HP := Lib.hid (fun j : Nat => cell_setRow_same V4 (w.heap.size + 1) j _ #[.int .i64 B1.hours, .int .i64 B1.row, .int .i64 B1.sum, .int .i64 B2.hours, .int .i64 B2.row, .int .i64 B2.sum, .int .i64 0] _ _ br)
    have BF := below_setRow hB (show w.heap.size ≤ w.heap.size + 1 by omega) #[.int .i64 B1.hours, .int .i64 B1.row, .int .i64 B1.sum, .int .i64 B2.hours, .int .i64 B2.row, .int .i64 B2.sum, .int .i64 0]
    refine wpList_store_rowTo rfl 78 _ _ rfl rfl (w.heap.size + 1) #[.int .i64 B1.hours, .int .i64 B1.row, .int .i64 B1.sum, .int .i64 B2.hours, .int .i64 B2.row, .int .i64 B2.sum, .int .i64 0] rfl rfl 78 _ br (by kernel_rfl) rfl (by kernel_rfl) ?_
    go_wp2_with fail
    refine bodyPost_ret (v := .agg #[.int .i64 B1.hours, .int .i64 B1.row, .int .i64 B1.sum, .int .i64 B2.hours, .int .i64 B2.row, .int .i64 B2.sum, .int .i64 0]) ?_ rfl ⟨rfl, BF⟩
    simp [results, Tryz.results39, go_sem, HP.out]
  · have hD1 : leastR f l need = ⟨0, 0, 0⟩ := by unfold leastR; rw [if_neg hE]
    have hD2 : mostR f l need = ⟨0, 0, 0⟩ := by unfold mostR; rw [if_neg hE]
    rw [hD1, hD2]
    have d1 : (sunkE f l need != 0) = true := by simpa using hE
    clear hD1 hD2 hE
    generalize sunkE f l need = E at x0 d1 ⊢
    have X0 := Lib.hid x0
    have HK1 := Lib.hid hk
    have H11 := Lib.hid h1
    clear x0 hk h1
    unfold fiV at X0 ⊢
    go_enter Tryz.func39, Tryz.ntmps39
    go_wp2_with fail
    generalize (w.alloc _).alloc _ = W2 at q0 q1 qb HK1 H11 ⊢
    refine (X0.out W2 HK1.out H11.out).mono ?_
    rintro e W3 ⟨rfl, hF⟩
    have br := (hF.block _ (size_of_block q1)).trans q1
    have hB := below_then qb hF
    clear hF q0 q1 qb
    have HP := Lib.hid (fun j : Nat => cell_setRow_same W3 (w.heap.size + 1) j _ #[.int .i64 0, .int .i64 0, .int .i64 0, .int .i64 0, .int .i64 0, .int .i64 0, .int .i64 E] _ _ br)
    have BF := below_setRow hB (show w.heap.size ≤ w.heap.size + 1 by omega) #[.int .i64 0, .int .i64 0, .int .i64 0, .int .i64 0, .int .i64 0, .int .i64 0, .int .i64 E]
    go_wp2_with (refine wpList_store_rowTo rfl 78 _ _ rfl rfl (w.heap.size + 1) #[.int .i64 0, .int .i64 0, .int .i64 0, .int .i64 0, .int .i64 0, .int .i64 0, .int .i64 E] rfl rfl 78 _ br (by kernel_rfl) rfl (by kernel_rfl) ?_)
    refine bodyPost_ret (v := .agg #[.int .i64 0, .int .i64 0, .int .i64 0, .int .i64 0, .int .i64 0, .int .i64 0, .int .i64 E]) ?_ rfl ⟨rfl, BF⟩
    simp [results, Tryz.results39, go_sem, HP.out]
end Go.Proofs.YtjpoacffnpgjdaaGreat
