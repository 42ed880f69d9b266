/- The reference for fires: Would (written by tools/genwouldr.py). -/
import Derived.Test.YtjpoacffnpgjdaaGreatZFRefX
import Derived.Test.YtjpoacffnpgjdaaGreatZFCatR
namespace Go.Proofs.YtjpoacffnpgjdaaGreat
open Go Go.RowKit Go.Shelf
attribute [local go_sem] Oper.semAt_some Rel RelAt RelUpon

set_option maxRecDepth 100000 in
set_option maxHeartbeats 4000000 in
theorem WouldR_c (f : Fi) (vl : Value) (x : Lk) (p : Spt) (w : World) (hl : Lks w w.heap.size vl f.ls) :
    Calls Tryz.prog 48 #[fiV f vl, lkV x, sV p] w fun e w' => e = .returned (.agg #[.int .i64 (wouldR f x p).lo, .int .i64 (wouldR f x p).hi, .int .i64 (wouldR f x p).low, .int .i64 (wouldR f x p).high, .int .i64 (wouldE f x p)]) ∧ Below w.heap.size w w' := by
  obtain ⟨A, cap, rfl⟩ := hl.form
  have HK := Lib.hid hl
  clear hl
  have x0 := fun W h => CheckR_c f (.slice A f.ls.length cap) W h
  have x1 := fun W => spot_r p W
  by_cases hE : fireI f = 0
  · have hok := fire_ok hE
    rw [hE] at x0
    cases hs : spotB p with
    | false =>
      have e1 : wouldE f x p = 1 := by unfold wouldE; rw [if_neg (by simp [hE]), if_pos hs]
      have e2 : wouldR f x p = ⟨0, 0, 0, 0⟩ := by unfold wouldR; rw [if_neg (by rw [e1]; decide)]
      rw [e1, e2]
      rw [hs] at x1
      clear e1 e2 hs hE hok
      have X0 := Lib.hid x0
      have X1 := Lib.hid x1
      clear x0 x1
      unfold sV at X1
      unfold fiV lkV sV
      go_enter Tryz.func48, Tryz.ntmps48
      obtain ⟨bf, bx, bp, br, -, HB⟩ := four_new w (.cells #[.int .i64 f.rise, .int .i64 f.fall, .int .i64 f.up, .int .i64 f.down, .slice A f.ls.length cap] 24) (.cells #[.int .i64 x.id, .int .i64 x.foot, .int .i64 x.hour, .int .i64 x.lo, .int .i64 x.hi] 90) (.cells #[.int .i64 p.foot, .int .i64 p.hour] 26) (.cells #[.int .i64 0, .int .i64 0, .int .i64 0, .int .i64 0, .int .i64 0] 60)
      go_wp2_with fail
      generalize ((((w.alloc (.cells #[.int .i64 f.rise, .int .i64 f.fall, .int .i64 f.up, .int .i64 f.down, .slice A f.ls.length cap] 24)).alloc (.cells #[.int .i64 x.id, .int .i64 x.foot, .int .i64 x.hour, .int .i64 x.lo, .int .i64 x.hi] 90)).alloc (.cells #[.int .i64 p.foot, .int .i64 p.hour] 26)).alloc (.cells #[.int .i64 0, .int .i64 0, .int .i64 0, .int .i64 0, .int .i64 0] 60)) = w1 at bf bx bp br HB  ⊢
      have hB := HB
      clear HB
      have hk := HK.out.later hB
      refine (X0.out w1 hk).mono ?_
      rintro e w2 ⟨rfl, hF⟩
      replace bf := (hF.block _ (size_of_block bf)).trans bf
      replace bx := (hF.block _ (size_of_block bx)).trans bx
      replace bp := (hF.block _ (size_of_block bp)).trans bp
      replace br := (hF.block _ (size_of_block br)).trans br
      replace hk := hk.later hF
      replace hB := below_then hB hF
      clear hF
      have cbp0 := Joins.cell_of_block bp 0
      have cbp1 := Joins.cell_of_block bp 1
      go_wp2_with fail
      refine (X1.out w2).mono ?_
      rintro e w3 ⟨rfl, hF⟩
      clear cbp0 cbp1
      replace bf := (hF.block _ (size_of_block bf)).trans bf
      replace bx := (hF.block _ (size_of_block bx)).trans bx
      replace bp := (hF.block _ (size_of_block bp)).trans bp
      replace br := (hF.block _ (size_of_block br)).trans br
      replace hk := hk.later hF
      replace hB := below_then hB hF
      clear hF
      have HP := Lib.hid (fun j : Nat => cell_setRow_same w3 (w.heap.size + 1 + 1 + 1) j _ #[.int .i64 0, .int .i64 0, .int .i64 0, .int .i64 0, .int .i64 1] _ _ br)
      have BF := below_setRow hB (show w.heap.size ≤ w.heap.size + 1 + 1 + 1 by omega) #[.int .i64 0, .int .i64 0, .int .i64 0, .int .i64 0, .int .i64 1]
      go_wp2_with (refine wpList_store_rowTo rfl 60 _ _ rfl rfl (w.heap.size + 1 + 1 + 1) #[.int .i64 0, .int .i64 0, .int .i64 0, .int .i64 0, .int .i64 1] rfl rfl 60 _ br (by kernel_rfl) rfl (by kernel_rfl) ?_)
      refine bodyPost_ret (v := .agg #[.int .i64 0, .int .i64 0, .int .i64 0, .int .i64 0, .int .i64 1]) ?_ rfl ⟨rfl, BF⟩
      simp [results, Tryz.results48, go_sem, HP.out]
    | true =>
      have e1 : wouldE f x p = endsE (moreF f x) p := by unfold wouldE; rw [if_neg (by simp [hE]), if_neg (by rw [hs]; simp)]
      have e2 : wouldR f x p = endsR (moreF f x) p := by unfold wouldR endsR; rw [e1]; rfl
      rw [e1, e2]
      rw [hs] at x1
      have hl24 : f.ls.length ≤ 24 := hok.len
      have x2 := fun W v h => EndsR_c (moreF f x) v p W h
      clear e1 e2 hs hE hok
      obtain ⟨R, hR⟩ : ∃ r, r = endsR (moreF f x) p := ⟨_, rfl⟩
      obtain ⟨E, hE2⟩ : ∃ r, r = endsE (moreF f x) p := ⟨_, rfl⟩
      rw [← hR, ← hE2] at x2 ⊢
      clear hR hE2
      dsimp only [fiV, moreF, withF] at x2
      unfold sV at x2
      have X2 := Lib.hid x2
      clear x2
      obtain ⟨i0, hi, hz0, hz1, hz2⟩ := info_parts Tryz.infoLookF
      have HI := Lib.hid hi
      have HI0 := Lib.hid hz0
      have HI1 := Lib.hid hz1
      have HI2 := Lib.hid hz2
      clear hi hz0 hz1 hz2
      have X0 := Lib.hid x0
      have X1 := Lib.hid x1
      clear x0 x1
      unfold sV at X1
      unfold fiV lkV sV
      go_enter Tryz.func48, Tryz.ntmps48
      obtain ⟨bf, bx, bp, br, -, HB⟩ := four_new w (.cells #[.int .i64 f.rise, .int .i64 f.fall, .int .i64 f.up, .int .i64 f.down, .slice A f.ls.length cap] 24) (.cells #[.int .i64 x.id, .int .i64 x.foot, .int .i64 x.hour, .int .i64 x.lo, .int .i64 x.hi] 90) (.cells #[.int .i64 p.foot, .int .i64 p.hour] 26) (.cells #[.int .i64 0, .int .i64 0, .int .i64 0, .int .i64 0, .int .i64 0] 60)
      go_wp2_with fail
      generalize ((((w.alloc (.cells #[.int .i64 f.rise, .int .i64 f.fall, .int .i64 f.up, .int .i64 f.down, .slice A f.ls.length cap] 24)).alloc (.cells #[.int .i64 x.id, .int .i64 x.foot, .int .i64 x.hour, .int .i64 x.lo, .int .i64 x.hi] 90)).alloc (.cells #[.int .i64 p.foot, .int .i64 p.hour] 26)).alloc (.cells #[.int .i64 0, .int .i64 0, .int .i64 0, .int .i64 0, .int .i64 0] 60)) = w1 at bf bx bp br HB  ⊢
      have hB := HB
      clear HB
      have hk := HK.out.later hB
      refine (X0.out w1 hk).mono ?_
      rintro e w2 ⟨rfl, hF⟩
      replace bf := (hF.block _ (size_of_block bf)).trans bf
      replace bx := (hF.block _ (size_of_block bx)).trans bx
      replace bp := (hF.block _ (size_of_block bp)).trans bp
      replace br := (hF.block _ (size_of_block br)).trans br
      replace hk := hk.later hF
      replace hB := below_then hB hF
      clear hF
      have cbp0 := Joins.cell_of_block bp 0
      have cbp1 := Joins.cell_of_block bp 1
      go_wp2_with fail
      refine (X1.out w2).mono ?_
      rintro e w3 ⟨rfl, hF⟩
      clear cbp0 cbp1
      replace bf := (hF.block _ (size_of_block bf)).trans bf
      replace bx := (hF.block _ (size_of_block bx)).trans bx
      replace bp := (hF.block _ (size_of_block bp)).trans bp
      replace br := (hF.block _ (size_of_block br)).trans br
      replace hk := hk.later hF
      replace hB := below_then hB hF
      clear hF
      have hF := below_alloc w3 (.cells #[.int .i64 f.rise, .int .i64 f.fall, .int .i64 f.up, .int .i64 f.down, .slice A f.ls.length cap] 24)
      have bm := heap_alloc_new w3 (.cells #[.int .i64 f.rise, .int .i64 f.fall, .int .i64 f.up, .int .i64 f.down, .slice A f.ls.length cap] 24)
      have cz0 := Joins.cell_of_block bf 0
      have cz1 := Joins.cell_of_block bf 1
      have cz2 := Joins.cell_of_block bf 2
      have cz3 := Joins.cell_of_block bf 3
      have cz4 := Joins.cell_of_block bf 4
      go_wp2_with fail
      clear cz0 cz1 cz2 cz3 cz4
      generalize w3.alloc (.cells #[.int .i64 f.rise, .int .i64 f.fall, .int .i64 f.up, .int .i64 f.down, .slice A f.ls.length cap] 24) = WA at hF bm ⊢
      have hnm := hB.size
      have hzr := size_of_block br
      replace bf := (hF.block _ (size_of_block bf)).trans bf
      replace bx := (hF.block _ (size_of_block bx)).trans bx
      replace bp := (hF.block _ (size_of_block bp)).trans bp
      replace br := (hF.block _ (size_of_block br)).trans br
      replace hk := hk.later hF
      replace hB := below_then hB hF
      clear hF
      have hgm := hB.size
      have cf4 := Joins.cell_of_block bf 4
      refine wp_region_looseM [] [1, 2, 4] (.alt (.one 0 (.alt (.one 3 (.one 5 .done)) (.one 5 (.one 3 .done)))) (.one 5 (.one 0 (.one 3 .done)))) [] [] [6, 7, 8] [] [] (by kernel_rfl) (by kernel_rfl) (by intro c a d v w h; cases d <;> exact h) (by intro c a d v w h; cases d <;> exact h) rfl (fun r i h => by simp at h) ?_
      simp only [pick, List.filterMap_cons, List.filterMap_nil, List.getElem?_toArray, List.getElem?_cons_succ, List.getElem?_cons_zero]
      intro u hu
      clear cf4
      have tf := (hu.block _ (size_of_block bf)).trans bf
      have tx := (hu.block _ (size_of_block bx)).trans bx
      have ztf := size_of_block tf
      have ztx := size_of_block tx
      have k4 := Joins.cell_of_block tf 4
      have l0 := Joins.cell_of_block tx 0
      have l1 := Joins.cell_of_block tx 1
      have l2 := Joins.cell_of_block tx 2
      have l3 := Joins.cell_of_block tx 3
      have l4 := Joins.cell_of_block tx 4
      have hcg : ∀ (g : Gr u) b o, b < u.heap.size → g.val.cell? ⟨b, o, none⟩ = u.cell? ⟨b, o, none⟩ := fun g b o h => (bcell g.b).1 b o h
      iterate 3 (refine wpRel_step (fun K hK => ?_); go_simp; refine hK _ ?_; clear hK K)
      refine wpRel_nil fun V0 hb0 => ?_
      clear hcg tf tx ztf ztx k4 l0 l1 l2 l3 l4
      have D0 := below_then hu hb0
      clear hb0 hu
      refine wpTr_alt ?_ ?_
      · refine wpTr_step rfl rfl fun K hK => ?_
        go_simp
        refine hK _ _ (below_alloc _ _) fun V1 hu1 => ?_
        clear hK K
        have y0 := (hu1.block _ (by simp)).trans (heap_alloc_new V0 (.cells #[] 90))
        have D1 := below_then D0 (below_then (below_alloc V0 (.cells #[] 90)) hu1)
        have hg0 : w.heap.size ≤ V0.heap.size := Nat.le_trans hB.size D0.size
        clear hu1
        refine wpTr_alt ?_ ?_
        · refine wpTr_step rfl rfl fun K hK => ?_
          obtain ⟨v3, W3, hr, h3, hb⟩ := append_cat (base := w.heap.size) HI.out HI0.out HI1.out HI2.out 22 (hk.later D1) (by omega) y0 hg0
          refine Lib.wp_append_run _ (.tmp 22) (.tmp 24) _ _ rfl _ _ rfl rfl _ _ hr ?_
          refine hK _ _ hb fun V2 hu2 => ?_
          clear hK K hr y0
          replace h3 := own_below h3 hu2
          have D2 := below_then D1 (below_then hb hu2)
          clear hb
          clear hu2
          refine wpTr_step rfl rfl fun K hK => ?_
          go_simp
          refine hK _ _ (below_alloc _ _) fun V3 hu3 => ?_
          clear hK K
          have y5 := (hu3.block _ (by simp)).trans (heap_alloc_new V2 (.cells #[.int .i64 x.id, .int .i64 x.foot, .int .i64 x.hour, .int .i64 x.lo, .int .i64 x.hi] 90))
          have D3 := below_then D2 (below_then (below_alloc V2 (.cells #[.int .i64 x.id, .int .i64 x.foot, .int .i64 x.hour, .int .i64 x.lo, .int .i64 x.hi] 90)) hu3)
          replace h3 := own_below h3 (below_then (below_alloc V2 (.cells #[.int .i64 x.id, .int .i64 x.foot, .int .i64 x.hour, .int .i64 x.lo, .int .i64 x.hi] 90)) hu3)
          clear hu3
          show wpPure _ _ _ _
          intro ks hks _ _
          obtain rfl : ks = [] := List.length_eq_zero_iff.1 hks
          clear hks
          show wpList _ _ _ _ _ _
          simp only [deco]
          have bp := (D3.block _ (size_of_block bp)).trans bp
          have br := (D3.block _ (size_of_block br)).trans br
          have bm := (D3.block _ (size_of_block bm)).trans bm
          have hB := below_then hB D3
          clear hk
          refine wpList_append_own _ rfl (.tmp 25) (.tmp 27) 22 rfl w.heap.size 90 i0 (.agg #[.int .i64 0, .int .i64 0, .int .i64 0, .int .i64 0, .int .i64 0]) 5 40 Tryz.underlying22 HI.out HI0.out HI1.out HI2.out rfl (by decide) _ _ _ rfl h3 ⟨_, 0, none⟩ 1 1 #[.int .i64 x.id, .int .i64 x.foot, .int .i64 x.hour, .int .i64 x.lo, .int .i64 x.hi].toList rfl rfl ?c1 ?c2 ?c3 ?c4 ?c5 ?_
          case c1 =>
            intro j u hj
            have h9 := Joins.cell_of_block y5 j
            rw [← Array.getElem?_toList, hj] at h9
            by_cases h0 : j = 0
            · subst h0; simpa [Addr.add] using h9
            · simpa [Addr.add, h0] using h9
          case c2 => intro u hu; simp at hu; rcases hu with rfl | rfl | rfl | rfl | rfl <;> rfl
          case c3 => unfold maxLen; omega
          case c4 => omega
          case c5 => exact hB.size
          intro v4 W4 hown4 hgrow _
          have bp4 := (hgrow.block _ (size_of_block bp) (Ne.symm (own_ne_block h3 bp (by decide)))).trans bp
          have br4 := (hgrow.block _ (size_of_block br) (Ne.symm (own_ne_block h3 br (by decide)))).trans br
          have bm4 := (hgrow.block _ (size_of_block bm) (Ne.symm (own_ne_block h3 bm (by decide)))).trans bm
          have hB4 := below_own hB hB.size h3 hgrow
          clear hgrow h3 hB bp br bm y5
          obtain ⟨A4, c4, rfl⟩ := own_form hown4
          have f4 := Joins.unfrozen_of_block bm4 4
          have s4 := Joins.cell_of_block bm4 4
          have bm5 := Joins.block_setCell (i := 4) bm4 (.slice A4 (f.ls.length + 1) c4)
          have bp5 := (put_other (i := 4) (.slice A4 (f.ls.length + 1) c4) (show w.heap.size + 1 + 1 ≠ w3.heap.size by omega)).trans bp4
          have br5 := (put_other (i := 4) (.slice A4 (f.ls.length + 1) c4) (show w.heap.size + 1 + 1 + 1 ≠ w3.heap.size by omega)).trans br4
          have hO5 := own_setCell hown4 4 (.slice A4 (f.ls.length + 1) c4) (own_ne_block hown4 bm4 (by decide))
          have hB5 := below_set (i := 4) (v := .slice A4 (f.ls.length + 1) c4) hB4 (show w.heap.size ≤ w3.heap.size by omega)
          clear hown4 bp4 br4 hB4
          have bm6 : (W4.setCell ⟨w3.heap.size, 4, none⟩ (.slice A4 (f.ls.length + 1) c4)).heap[w3.heap.size]? = some (.cells #[.int .i64 f.rise, .int .i64 f.fall, .int .i64 f.up, .int .i64 f.down, .slice A4 (f.ls.length + 1) c4] 24) := by simpa using bm5
          have m0 := Joins.cell_of_block bm6 0
          have m1 := Joins.cell_of_block bm6 1
          have m2 := Joins.cell_of_block bm6 2
          have m3 := Joins.cell_of_block bm6 3
          have m4 := Joins.cell_of_block bm6 4
          have g0 := Joins.cell_of_block bp5 0
          have g1 := Joins.cell_of_block bp5 1
          clear bm5 bm6
          show wpList _ _ _ _ _ _
          go_wp2_with fail
          clear f4 s4 bm4 m0 m1 m2 m3 m4 g0 g1
          generalize W4.setCell _ _ = W5 at bp5 br5 hO5 hB5 ⊢
          have hlk : Lks W5 W5.heap.size (.slice A4 (f.ls ++ [x]).length c4) (f.ls ++ [x]) := Sl.of_own (l := f.ls ++ [x]) lkC_len (by rw [List.length_append, List.flatMap_append]; simpa [lkC] using hO5) (by rw [List.length_append]; simp; omega)
          rw [show (f.ls ++ [x]).length = f.ls.length + 1 by simp] at hlk
          clear hO5
          refine (X2.out W5 _ hlk).mono ?_
          rintro e W6 ⟨rfl, hF⟩
          have br := (hF.block _ (size_of_block br5)).trans br5
          have hB := below_then hB5 hF
          clear hF bp5 br5 hB5 hlk
          have HP := Lib.hid (fun j : Nat => cell_setRow_same W6 (w.heap.size + 1 + 1 + 1) j _ #[.int .i64 R.lo, .int .i64 R.hi, .int .i64 R.low, .int .i64 R.high, .int .i64 E] _ _ br)
          have BF := below_setRow hB (show w.heap.size ≤ w.heap.size + 1 + 1 + 1 by omega) #[.int .i64 R.lo, .int .i64 R.hi, .int .i64 R.low, .int .i64 R.high, .int .i64 E]
          go_wp2_with (refine wpList_store_rowTo rfl 60 _ _ rfl rfl (w.heap.size + 1 + 1 + 1) #[.int .i64 R.lo, .int .i64 R.hi, .int .i64 R.low, .int .i64 R.high, .int .i64 E] rfl rfl 60 _ br (by kernel_rfl) rfl (by kernel_rfl) ?_)
          refine bodyPost_ret (v := .agg #[.int .i64 R.lo, .int .i64 R.hi, .int .i64 R.low, .int .i64 R.high, .int .i64 E]) ?_ rfl ⟨rfl, BF⟩
          simp [results, Tryz.results48, go_sem, HP.out]
        · refine wpTr_step rfl rfl fun K hK => ?_
          go_simp
          refine hK _ _ (below_alloc _ _) fun V2 hu2 => ?_
          clear hK K
          have y5 := (hu2.block _ (by simp)).trans (heap_alloc_new V1 (.cells #[.int .i64 x.id, .int .i64 x.foot, .int .i64 x.hour, .int .i64 x.lo, .int .i64 x.hi] 90))
          have D2 := below_then D1 (below_then (below_alloc V1 (.cells #[.int .i64 x.id, .int .i64 x.foot, .int .i64 x.hour, .int .i64 x.lo, .int .i64 x.hi] 90)) hu2)
          replace y0 := ((below_then (below_alloc V1 (.cells #[.int .i64 x.id, .int .i64 x.foot, .int .i64 x.hour, .int .i64 x.lo, .int .i64 x.hi] 90)) hu2).block _ (size_of_block y0)).trans y0
          clear hu2
          refine wpTr_step rfl rfl fun K hK => ?_
          obtain ⟨v3, W3, hr, h3, hb⟩ := append_cat (base := w.heap.size) HI.out HI0.out HI1.out HI2.out 22 (hk.later D2) (by omega) y0 hg0
          refine Lib.wp_append_run _ (.tmp 22) (.tmp 24) _ _ rfl _ _ rfl rfl _ _ hr ?_
          refine hK _ _ hb fun V3 hu3 => ?_
          clear hK K hr y0
          replace h3 := own_below h3 hu3
          have D3 := below_then D2 (below_then hb hu3)
          replace y5 := ((below_then hb hu3).block _ (size_of_block y5)).trans y5
          clear hb
          clear hu3
          show wpPure _ _ _ _
          intro ks hks _ _
          obtain rfl : ks = [] := List.length_eq_zero_iff.1 hks
          clear hks
          show wpList _ _ _ _ _ _
          simp only [deco]
          have bp := (D3.block _ (size_of_block bp)).trans bp
          have br := (D3.block _ (size_of_block br)).trans br
          have bm := (D3.block _ (size_of_block bm)).trans bm
          have hB := below_then hB D3
          clear hk
          refine wpList_append_own _ rfl (.tmp 25) (.tmp 27) 22 rfl w.heap.size 90 i0 (.agg #[.int .i64 0, .int .i64 0, .int .i64 0, .int .i64 0, .int .i64 0]) 5 40 Tryz.underlying22 HI.out HI0.out HI1.out HI2.out rfl (by decide) _ _ _ rfl h3 ⟨_, 0, none⟩ 1 1 #[.int .i64 x.id, .int .i64 x.foot, .int .i64 x.hour, .int .i64 x.lo, .int .i64 x.hi].toList rfl rfl ?c1 ?c2 ?c3 ?c4 ?c5 ?_
          case c1 =>
            intro j u hj
            have h9 := Joins.cell_of_block y5 j
            rw [← Array.getElem?_toList, hj] at h9
            by_cases h0 : j = 0
            · subst h0; simpa [Addr.add] using h9
            · simpa [Addr.add, h0] using h9
          case c2 => intro u hu; simp at hu; rcases hu with rfl | rfl | rfl | rfl | rfl <;> rfl
          case c3 => unfold maxLen; omega
          case c4 => omega
          case c5 => exact hB.size
          intro v4 W4 hown4 hgrow _
          have bp4 := (hgrow.block _ (size_of_block bp) (Ne.symm (own_ne_block h3 bp (by decide)))).trans bp
          have br4 := (hgrow.block _ (size_of_block br) (Ne.symm (own_ne_block h3 br (by decide)))).trans br
          have bm4 := (hgrow.block _ (size_of_block bm) (Ne.symm (own_ne_block h3 bm (by decide)))).trans bm
          have hB4 := below_own hB hB.size h3 hgrow
          clear hgrow h3 hB bp br bm y5
          obtain ⟨A4, c4, rfl⟩ := own_form hown4
          have f4 := Joins.unfrozen_of_block bm4 4
          have s4 := Joins.cell_of_block bm4 4
          have bm5 := Joins.block_setCell (i := 4) bm4 (.slice A4 (f.ls.length + 1) c4)
          have bp5 := (put_other (i := 4) (.slice A4 (f.ls.length + 1) c4) (show w.heap.size + 1 + 1 ≠ w3.heap.size by omega)).trans bp4
          have br5 := (put_other (i := 4) (.slice A4 (f.ls.length + 1) c4) (show w.heap.size + 1 + 1 + 1 ≠ w3.heap.size by omega)).trans br4
          have hO5 := own_setCell hown4 4 (.slice A4 (f.ls.length + 1) c4) (own_ne_block hown4 bm4 (by decide))
          have hB5 := below_set (i := 4) (v := .slice A4 (f.ls.length + 1) c4) hB4 (show w.heap.size ≤ w3.heap.size by omega)
          clear hown4 bp4 br4 hB4
          have bm6 : (W4.setCell ⟨w3.heap.size, 4, none⟩ (.slice A4 (f.ls.length + 1) c4)).heap[w3.heap.size]? = some (.cells #[.int .i64 f.rise, .int .i64 f.fall, .int .i64 f.up, .int .i64 f.down, .slice A4 (f.ls.length + 1) c4] 24) := by simpa using bm5
          have m0 := Joins.cell_of_block bm6 0
          have m1 := Joins.cell_of_block bm6 1
          have m2 := Joins.cell_of_block bm6 2
          have m3 := Joins.cell_of_block bm6 3
          have m4 := Joins.cell_of_block bm6 4
          have g0 := Joins.cell_of_block bp5 0
          have g1 := Joins.cell_of_block bp5 1
          clear bm5 bm6
          show wpList _ _ _ _ _ _
          go_wp2_with fail
          clear f4 s4 bm4 m0 m1 m2 m3 m4 g0 g1
          generalize W4.setCell _ _ = W5 at bp5 br5 hO5 hB5 ⊢
          have hlk : Lks W5 W5.heap.size (.slice A4 (f.ls ++ [x]).length c4) (f.ls ++ [x]) := Sl.of_own (l := f.ls ++ [x]) lkC_len (by rw [List.length_append, List.flatMap_append]; simpa [lkC] using hO5) (by rw [List.length_append]; simp; omega)
          rw [show (f.ls ++ [x]).length = f.ls.length + 1 by simp] at hlk
          clear hO5
          refine (X2.out W5 _ hlk).mono ?_
          rintro e W6 ⟨rfl, hF⟩
          have br := (hF.block _ (size_of_block br5)).trans br5
          have hB := below_then hB5 hF
          clear hF bp5 br5 hB5 hlk
          have HP := Lib.hid (fun j : Nat => cell_setRow_same W6 (w.heap.size + 1 + 1 + 1) j _ #[.int .i64 R.lo, .int .i64 R.hi, .int .i64 R.low, .int .i64 R.high, .int .i64 E] _ _ br)
          have BF := below_setRow hB (show w.heap.size ≤ w.heap.size + 1 + 1 + 1 by omega) #[.int .i64 R.lo, .int .i64 R.hi, .int .i64 R.low, .int .i64 R.high, .int .i64 E]
          go_wp2_with (refine wpList_store_rowTo rfl 60 _ _ rfl rfl (w.heap.size + 1 + 1 + 1) #[.int .i64 R.lo, .int .i64 R.hi, .int .i64 R.low, .int .i64 R.high, .int .i64 E] rfl rfl 60 _ br (by kernel_rfl) rfl (by kernel_rfl) ?_)
          refine bodyPost_ret (v := .agg #[.int .i64 R.lo, .int .i64 R.hi, .int .i64 R.low, .int .i64 R.high, .int .i64 E]) ?_ rfl ⟨rfl, BF⟩
          simp [results, Tryz.results48, go_sem, HP.out]
      · refine wpTr_step rfl rfl fun K hK => ?_
        go_simp
        refine hK _ _ (below_alloc _ _) fun V1 hu1 => ?_
        clear hK K
        have y5 := (hu1.block _ (by simp)).trans (heap_alloc_new V0 (.cells #[.int .i64 x.id, .int .i64 x.foot, .int .i64 x.hour, .int .i64 x.lo, .int .i64 x.hi] 90))
        have D1 := below_then D0 (below_then (below_alloc V0 (.cells #[.int .i64 x.id, .int .i64 x.foot, .int .i64 x.hour, .int .i64 x.lo, .int .i64 x.hi] 90)) hu1)
        clear hu1
        refine wpTr_step rfl rfl fun K hK => ?_
        go_simp
        refine hK _ _ (below_alloc _ _) fun V2 hu2 => ?_
        clear hK K
        have y0 := (hu2.block _ (by simp)).trans (heap_alloc_new V1 (.cells #[] 90))
        have D2 := below_then D1 (below_then (below_alloc V1 (.cells #[] 90)) hu2)
        have hg0 : w.heap.size ≤ V1.heap.size := Nat.le_trans hB.size D1.size
        replace y5 := ((below_then (below_alloc V1 (.cells #[] 90)) hu2).block _ (size_of_block y5)).trans y5
        clear hu2
        refine wpTr_step rfl rfl fun K hK => ?_
        obtain ⟨v3, W3, hr, h3, hb⟩ := append_cat (base := w.heap.size) HI.out HI0.out HI1.out HI2.out 22 (hk.later D2) (by omega) y0 hg0
        refine Lib.wp_append_run _ (.tmp 22) (.tmp 24) _ _ rfl _ _ rfl rfl _ _ hr ?_
        refine hK _ _ hb fun V3 hu3 => ?_
        clear hK K hr y0
        replace h3 := own_below h3 hu3
        have D3 := below_then D2 (below_then hb hu3)
        replace y5 := ((below_then hb hu3).block _ (size_of_block y5)).trans y5
        clear hb
        clear hu3
        show wpPure _ _ _ _
        intro ks hks _ _
        obtain rfl : ks = [] := List.length_eq_zero_iff.1 hks
        clear hks
        show wpList _ _ _ _ _ _
        simp only [deco]
        have bp := (D3.block _ (size_of_block bp)).trans bp
        have br := (D3.block _ (size_of_block br)).trans br
        have bm := (D3.block _ (size_of_block bm)).trans bm
        have hB := below_then hB D3
        clear hk
        refine wpList_append_own _ rfl (.tmp 25) (.tmp 27) 22 rfl w.heap.size 90 i0 (.agg #[.int .i64 0, .int .i64 0, .int .i64 0, .int .i64 0, .int .i64 0]) 5 40 Tryz.underlying22 HI.out HI0.out HI1.out HI2.out rfl (by decide) _ _ _ rfl h3 ⟨_, 0, none⟩ 1 1 #[.int .i64 x.id, .int .i64 x.foot, .int .i64 x.hour, .int .i64 x.lo, .int .i64 x.hi].toList rfl rfl ?c1 ?c2 ?c3 ?c4 ?c5 ?_
        case c1 =>
          intro j u hj
          have h9 := Joins.cell_of_block y5 j
          rw [← Array.getElem?_toList, hj] at h9
          by_cases h0 : j = 0
          · subst h0; simpa [Addr.add] using h9
          · simpa [Addr.add, h0] using h9
        case c2 => intro u hu; simp at hu; rcases hu with rfl | rfl | rfl | rfl | rfl <;> rfl
        case c3 => unfold maxLen; omega
        case c4 => omega
        case c5 => exact hB.size
        intro v4 W4 hown4 hgrow _
        have bp4 := (hgrow.block _ (size_of_block bp) (Ne.symm (own_ne_block h3 bp (by decide)))).trans bp
        have br4 := (hgrow.block _ (size_of_block br) (Ne.symm (own_ne_block h3 br (by decide)))).trans br
        have bm4 := (hgrow.block _ (size_of_block bm) (Ne.symm (own_ne_block h3 bm (by decide)))).trans bm
        have hB4 := below_own hB hB.size h3 hgrow
        clear hgrow h3 hB bp br bm y5
        obtain ⟨A4, c4, rfl⟩ := own_form hown4
        have f4 := Joins.unfrozen_of_block bm4 4
        have s4 := Joins.cell_of_block bm4 4
        have bm5 := Joins.block_setCell (i := 4) bm4 (.slice A4 (f.ls.length + 1) c4)
        have bp5 := (put_other (i := 4) (.slice A4 (f.ls.length + 1) c4) (show w.heap.size + 1 + 1 ≠ w3.heap.size by omega)).trans bp4
        have br5 := (put_other (i := 4) (.slice A4 (f.ls.length + 1) c4) (show w.heap.size + 1 + 1 + 1 ≠ w3.heap.size by omega)).trans br4
        have hO5 := own_setCell hown4 4 (.slice A4 (f.ls.length + 1) c4) (own_ne_block hown4 bm4 (by decide))
        have hB5 := below_set (i := 4) (v := .slice A4 (f.ls.length + 1) c4) hB4 (show w.heap.size ≤ w3.heap.size by omega)
        clear hown4 bp4 br4 hB4
        have bm6 : (W4.setCell ⟨w3.heap.size, 4, none⟩ (.slice A4 (f.ls.length + 1) c4)).heap[w3.heap.size]? = some (.cells #[.int .i64 f.rise, .int .i64 f.fall, .int .i64 f.up, .int .i64 f.down, .slice A4 (f.ls.length + 1) c4] 24) := by simpa using bm5
        have m0 := Joins.cell_of_block bm6 0
        have m1 := Joins.cell_of_block bm6 1
        have m2 := Joins.cell_of_block bm6 2
        have m3 := Joins.cell_of_block bm6 3
        have m4 := Joins.cell_of_block bm6 4
        have g0 := Joins.cell_of_block bp5 0
        have g1 := Joins.cell_of_block bp5 1
        clear bm5 bm6
        show wpList _ _ _ _ _ _
        go_wp2_with fail
        clear f4 s4 bm4 m0 m1 m2 m3 m4 g0 g1
        generalize W4.setCell _ _ = W5 at bp5 br5 hO5 hB5 ⊢
        have hlk : Lks W5 W5.heap.size (.slice A4 (f.ls ++ [x]).length c4) (f.ls ++ [x]) := Sl.of_own (l := f.ls ++ [x]) lkC_len (by rw [List.length_append, List.flatMap_append]; simpa [lkC] using hO5) (by rw [List.length_append]; simp; omega)
        rw [show (f.ls ++ [x]).length = f.ls.length + 1 by simp] at hlk
        clear hO5
        refine (X2.out W5 _ hlk).mono ?_
        rintro e W6 ⟨rfl, hF⟩
        have br := (hF.block _ (size_of_block br5)).trans br5
        have hB := below_then hB5 hF
        clear hF bp5 br5 hB5 hlk
        have HP := Lib.hid (fun j : Nat => cell_setRow_same W6 (w.heap.size + 1 + 1 + 1) j _ #[.int .i64 R.lo, .int .i64 R.hi, .int .i64 R.low, .int .i64 R.high, .int .i64 E] _ _ br)
        have BF := below_setRow hB (show w.heap.size ≤ w.heap.size + 1 + 1 + 1 by omega) #[.int .i64 R.lo, .int .i64 R.hi, .int .i64 R.low, .int .i64 R.high, .int .i64 E]
        go_wp2_with (refine wpList_store_rowTo rfl 60 _ _ rfl rfl (w.heap.size + 1 + 1 + 1) #[.int .i64 R.lo, .int .i64 R.hi, .int .i64 R.low, .int .i64 R.high, .int .i64 E] rfl rfl 60 _ br (by kernel_rfl) rfl (by kernel_rfl) ?_)
        refine bodyPost_ret (v := .agg #[.int .i64 R.lo, .int .i64 R.hi, .int .i64 R.low, .int .i64 R.high, .int .i64 E]) ?_ rfl ⟨rfl, BF⟩
        simp [results, Tryz.results48, go_sem, HP.out]
  · have e1 : wouldE f x p = fireI f := by unfold wouldE; rw [if_pos hE]
    have e2 : wouldR f x p = ⟨0, 0, 0, 0⟩ := by unfold wouldR; rw [if_neg (by rw [e1]; exact hE)]
    rw [e1, e2]
    have d1 : (fireI f != 0) = true := by simpa using hE
    clear e1 e2 hE
    generalize fireI f = E at x0 d1 ⊢
    have X0 := Lib.hid x0
    have X1 := Lib.hid x1
    clear x0 x1
    unfold sV at X1
    unfold fiV lkV sV
    go_enter Tryz.func48, Tryz.ntmps48
    obtain ⟨bf, bx, bp, br, -, HB⟩ := four_new w (.cells #[.int .i64 f.rise, .int .i64 f.fall, .int .i64 f.up, .int .i64 f.down, .slice A f.ls.length cap] 24) (.cells #[.int .i64 x.id, .int .i64 x.foot, .int .i64 x.hour, .int .i64 x.lo, .int .i64 x.hi] 90) (.cells #[.int .i64 p.foot, .int .i64 p.hour] 26) (.cells #[.int .i64 0, .int .i64 0, .int .i64 0, .int .i64 0, .int .i64 0] 60)
    go_wp2_with fail
    generalize ((((w.alloc (.cells #[.int .i64 f.rise, .int .i64 f.fall, .int .i64 f.up, .int .i64 f.down, .slice A f.ls.length cap] 24)).alloc (.cells #[.int .i64 x.id, .int .i64 x.foot, .int .i64 x.hour, .int .i64 x.lo, .int .i64 x.hi] 90)).alloc (.cells #[.int .i64 p.foot, .int .i64 p.hour] 26)).alloc (.cells #[.int .i64 0, .int .i64 0, .int .i64 0, .int .i64 0, .int .i64 0] 60)) = w1 at bf bx bp br HB  ⊢
    have hB := HB
    clear HB
    have hk := HK.out.later hB
    refine (X0.out w1 hk).mono ?_
    rintro e w2 ⟨rfl, hF⟩
    replace bf := (hF.block _ (size_of_block bf)).trans bf
    replace bx := (hF.block _ (size_of_block bx)).trans bx
    replace bp := (hF.block _ (size_of_block bp)).trans bp
    replace br := (hF.block _ (size_of_block br)).trans br
    replace hk := hk.later hF
    replace hB := below_then hB hF
    clear hF
    have HP := Lib.hid (fun j : Nat => cell_setRow_same w2 (w.heap.size + 1 + 1 + 1) j _ #[.int .i64 0, .int .i64 0, .int .i64 0, .int .i64 0, .int .i64 E] _ _ br)
    have BF := below_setRow hB (show w.heap.size ≤ w.heap.size + 1 + 1 + 1 by omega) #[.int .i64 0, .int .i64 0, .int .i64 0, .int .i64 0, .int .i64 E]
    go_wp2_with (refine wpList_store_rowTo rfl 60 _ _ rfl rfl (w.heap.size + 1 + 1 + 1) #[.int .i64 0, .int .i64 0, .int .i64 0, .int .i64 0, .int .i64 E] rfl rfl 60 _ br (by kernel_rfl) rfl (by kernel_rfl) ?_)
    refine bodyPost_ret (v := .agg #[.int .i64 0, .int .i64 0, .int .i64 0, .int .i64 0, .int .i64 E]) ?_ rfl ⟨rfl, BF⟩
    simp [results, Tryz.results48, go_sem, HP.out]
end Go.Proofs.YtjpoacffnpgjdaaGreat
