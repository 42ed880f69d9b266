/- The reference for fires: without, Without (written by tools/genwithr.py). -/
import Derived.Test.YtjpoacffnpgjdaaGreatZFRefAA
import Derived.Test.YtjpoacffnpgjdaaGreatZFRefAB
import Derived.Test.YtjpoacffnpgjdaaGreatJ4
namespace Go.Proofs.YtjpoacffnpgjdaaGreat
open Go Go.RowKit Go.Shelf
attribute [local go_sem] Oper.semAt_some Rel RelAt RelUpon

theorem but_snoc (l : List Lk) (x : Lk) (ids : List Int) : butL (l ++ [x]) ids = if ids.contains x.id then butL l ids else butL l ids ++ [x] := by
  unfold butL
  rw [List.filter_append, List.filter_cons, List.filter_nil]
  cases ids.contains x.id with
  | true => show List.filter _ l ++ [] = _; rw [List.append_nil]; rfl
  | false => rfl
theorem but_len (l : List Lk) (ids : List Int) : (butL l ids).length ≤ l.length := List.length_filter_le _ _
set_option maxRecDepth 100000 in
set_option maxHeartbeats 4000000 in
theorem without_r (f : Fi) (vl vi : Value) (ids : List Int) (w : World) (hl : Lks w w.heap.size vl f.ls) (hi : Ints w w.heap.size vi ids) (hlen : f.ls.length ≤ 5000) :
    Calls Tryz.prog 66 #[fiV f vl, vi] w fun e w' => ∃ u, e = .returned (fiV (withF f (butL f.ls ids)) u) ∧ Lks w' w'.heap.size u (butL f.ls ids) ∧ Below w.heap.size w w' := by
  obtain ⟨A, cap, rfl, _, hn, hat⟩ := Lks.open_ hl
  obtain ⟨Ai, ci, rfl⟩ := Sl.form hi
  have H := Lib.hid hat
  have HI9 := Lib.hid hi
  clear hat hl hi
  obtain ⟨i0, hi, hz0, hz1, hz2⟩ := info_parts Tryz.infoLookF
  have HI := Lib.hid hi
  have HI0 := Lib.hid hz0
  have HI1 := Lib.hid hz1
  have HI2 := Lib.hid hz2
  clear hi hz0 hz1 hz2
  obtain ⟨L9, hL9⟩ : ∃ L, L = butL f.ls ids := ⟨_, rfl⟩
  rw [← hL9]
  have HL9 := Lib.hid hL9
  clear hL9
  obtain ⟨q0, q1, q2, -, qb⟩ := three_new w (.cells #[.int .i64 f.rise, .int .i64 f.fall, .int .i64 f.up, .int .i64 f.down, .slice A f.ls.length cap] 24) (.cells #[.int .i64 0, .int .i64 0, .int .i64 0, .int .i64 0, .slice none 0 0] 24) (.cells #[.int .i64 f.rise, .int .i64 f.fall, .int .i64 f.up, .int .i64 f.down, .slice none 0 0] 24)
  unfold fiV
  go_enter Tryz.func66, Tryz.ntmps66
  go_wp2_with fail
  generalize ((w.alloc _).alloc _).alloc _ = W1 at q0 q1 q2 qb ⊢
  go_loopw [6] (fun i wr => ∃ (j : Nat) (Av : Option Addr) (cv : Nat), j ≤ f.ls.length ∧ i = .int .i64 j ∧ wr.heap[w.heap.size]? = some (.cells #[.int .i64 f.rise, .int .i64 f.fall, .int .i64 f.up, .int .i64 f.down, .slice A f.ls.length cap] 24) ∧ wr.heap[w.heap.size + 1]? = some (.cells #[.int .i64 0, .int .i64 0, .int .i64 0, .int .i64 0, .slice none 0 0] 24) ∧ wr.heap[w.heap.size + 1 + 1]? = some (.cells #[.int .i64 f.rise, .int .i64 f.fall, .int .i64 f.up, .int .i64 f.down, (.slice Av (butL (f.ls.take j) ids).length cv)] 24) ∧ wr.ownsRow w.heap.size 90 5 (.slice Av (butL (f.ls.take j) ids).length cv) (butL (f.ls.take j) ids).length ((butL (f.ls.take j) ids).flatMap lkC) ∧ Below w.heap.size w wr) (fun i _ => f.ls.length - (intOf i).toNat)
  case atStart => exact ⟨0, none, 0, Nat.zero_le _, rfl, q0, q1, by simpa [butL] using q2, by simpa [butL] using World.ownsRow_nil _ _ _ _, qb⟩
  case round =>
    clear q0 q1 q2 qb
    obtain ⟨j, Av, cv, hj, rfl, bf, br, bo, hO, hbw⟩ := hrel
    have cf4 := Joins.cell_of_block bf 4
    by_cases hlt : j < f.ls.length
    · obtain ⟨b, off, x, rfl, hb, hx0, y0, y1, y2, y3, y4⟩ := H.out j hlt
      have hx := Lib.hid hx0
      have hbl := but_len (f.ls.take j) ids
      have htl : (f.ls.take j).length = j := by rw [List.length_take]; omega
      rw [htl] at hbl
      have HB := Lib.hid (show butL (f.ls.take (j + 1)) ids = if ids.contains x.id then butL (f.ls.take j) ids else butL (f.ls.take j) ids ++ [x] by rw [take_snoc hx0, but_snoc])
      clear hx0 htl
      have bw : ∀ o, wr.cell? ⟨b, o, none⟩ = w.cell? ⟨b, o, none⟩ := fun o => hbw.cell (p := ⟨b, o, none⟩) hb
      have cx0 := (bw _).trans y0
      clear bw
      generalize butL (f.ls.take j) ids = L at *
      go_wp2_with fail
      refine (in_r _ ids x.id wr (HI9.out.later hbw)).mono ?_
      rintro e W2 ⟨rfl, hF⟩
      replace bf := (hF.block _ (size_of_block bf)).trans bf
      replace br := (hF.block _ (size_of_block br)).trans br
      replace bo := (hF.block _ (size_of_block bo)).trans bo
      replace hO := own_below hO hF
      replace hbw := below_then hbw hF
      clear hF cf4 cx0
      cases hc : ids.contains x.id with
      | true =>
        have HB2 : Hid (butL (f.ls.take (j + 1)) ids = L) := by show _ = _; rw [HB.out, hc]; rfl
        go_wp2_with fail
        go_roundw
        case rel => exact ⟨j + 1, Av, cv, by omega, by go_num, bf, br, by rw [HB2.out]; exact bo, by rw [HB2.out]; exact hO, hbw⟩
        case measure => simp [intOf]; omega
      | false =>
        have HB2 : Hid (butL (f.ls.take (j + 1)) ids = L ++ [x]) := by show _ = _; rw [HB.out, hc]; rfl
        clear hc HB
        have cf4 := Joins.cell_of_block bf 4
        have co4 := Joins.cell_of_block bo 4
        have zf := size_of_block bf
        have zo := size_of_block bo
        go_wp2_with fail
        refine wp_region_looseM [] [0, 1, 2, 3, 4, 5, 6] (.one 7 .done) [] [] [8, 9, 10] [] [] (by kernel_rfl) (by kernel_rfl) (by intro c a d v w h; cases d <;> exact h) (by intro c a d v w h; cases d <;> exact h) rfl (fun r i h => by simp at h) ?_
        simp only [pick, List.filterMap_cons, List.filterMap_nil, List.getElem?_toArray, List.getElem?_cons_succ, List.getElem?_cons_zero]
        intro u hu
        clear cf4 co4
        have tf := (hu.block _ zf).trans bf
        have to_ := (hu.block _ zo).trans bo
        have ztf := size_of_block tf
        have zto := size_of_block to_
        have cf4 := Joins.cell_of_block tf 4
        have co4 := Joins.cell_of_block to_ 4
        have hbu := below_then hbw hu
        have e0 := (hbu.cell (p := ⟨b, off + j * 5, none⟩) hb).trans y0
        have e1 := (hbu.cell (p := ⟨b, off + j * 5 + 1, none⟩) hb).trans y1
        have e2 := (hbu.cell (p := ⟨b, off + j * 5 + 2, none⟩) hb).trans y2
        have e3 := (hbu.cell (p := ⟨b, off + j * 5 + 3, none⟩) hb).trans y3
        have e4 := (hbu.cell (p := ⟨b, off + j * 5 + 4, none⟩) hb).trans y4
        have hzu : b < u.heap.size := Nat.lt_of_lt_of_le hb hbu.size
        have hcg : ∀ (g : Gr u) b o, b < u.heap.size → g.val.cell? ⟨b, o, none⟩ = u.cell? ⟨b, o, none⟩ := fun g b o h => (bcell g.b).1 b o h
        iterate 7 (refine wpRel_step (fun K hK => ?_); go_simp; refine hK _ ?_; clear hK K)
        refine wpRel_nil fun V0 hb0 => ?_
        clear hcg cf4 co4 e0 e1 e2 e3 e4 ztf zto tf to_ hzu hbu
        have D0 := below_then hu hb0
        refine wpTr_step rfl rfl fun K hK => ?_
        go_simp
        refine hK _ _ (below_alloc _ _) fun V1 hu1 => ?_
        clear hK K
        have yn := (hu1.block _ (by simp)).trans (heap_alloc_new V0 (.cells #[.int .i64 x.id, .int .i64 x.foot, .int .i64 x.hour, .int .i64 x.lo, .int .i64 x.hi] 90))
        have D1 := below_then D0 (below_then (below_alloc V0 (.cells #[.int .i64 x.id, .int .i64 x.foot, .int .i64 x.hour, .int .i64 x.lo, .int .i64 x.hi] 90)) hu1)
        have tf := (D1.block _ zf).trans bf
        have to_ := (D1.block _ zo).trans bo
        have tr := (D1.block _ (size_of_block br)).trans br
        have tO := own_below hO D1
        have tB := below_then hbw D1
        clear D0 D1 hu hb0 hu1 bf bo br hO hbw
        show wpPure _ _ _ _
        intro ks hks _ _
        obtain rfl : ks = [] := List.length_eq_zero_iff.1 hks
        clear hks
        show wpList _ _ _ _ _ _
        simp only [deco]
        refine wpList_append_own _ rfl (.tmp 35) (.tmp 41) 22 rfl w.heap.size 90 i0 (.agg #[.int .i64 0, .int .i64 0, .int .i64 0, .int .i64 0, .int .i64 0]) 5 40 Tryz.underlying22 HI.out HI0.out HI1.out HI2.out rfl (by decide) _ _ _ rfl tO ⟨_, 0, none⟩ 1 1 #[.int .i64 x.id, .int .i64 x.foot, .int .i64 x.hour, .int .i64 x.lo, .int .i64 x.hi].toList rfl rfl ?c1 ?c2 ?c3 ?c4 ?c5 ?_
        case c1 =>
          intro j u hj
          have h9 := Joins.cell_of_block yn j
          rw [← Array.getElem?_toList, hj] at h9
          by_cases h0 : j = 0
          · subst h0; simpa [Addr.add] using h9
          · simpa [Addr.add, h0] using h9
        case c2 => intro u hu; simp at hu; rcases hu with rfl | rfl | rfl | rfl | rfl <;> rfl
        case c3 => unfold maxLen; omega
        case c4 => omega
        case c5 => exact tB.size
        intro v4 W4 hown4 hgrow _
        have bf4 := (hgrow.block _ (size_of_block tf) (Ne.symm (own_ne_block tO tf (by decide)))).trans tf
        have bo4 := (hgrow.block _ (size_of_block to_) (Ne.symm (own_ne_block tO to_ (by decide)))).trans to_
        have br4 := (hgrow.block _ (size_of_block tr) (Ne.symm (own_ne_block tO tr (by decide)))).trans tr
        have hB4 := below_own tB tB.size tO hgrow
        clear hgrow tO tB tf to_ tr yn
        have f4 := Joins.unfrozen_of_block bo4 4
        have s4 := Joins.cell_of_block bo4 4
        have zo4 := size_of_block bo4
        have bo5 := Joins.block_setCell (i := 4) bo4 v4
        have bf5 := (put_other (i := 4) v4 (show w.heap.size ≠ w.heap.size + 1 + 1 by omega)).trans bf4
        have br5 := (put_other (i := 4) v4 (show w.heap.size + 1 ≠ w.heap.size + 1 + 1 by omega)).trans br4
        have hO5 := own_setCell hown4 4 v4 (own_ne_block hown4 bo4 (by decide))
        have hB5 := below_set (i := 4) (v := v4) hB4 (show w.heap.size ≤ w.heap.size + 1 + 1 by omega)
        obtain ⟨Ar, capr, rfl⟩ := own_form hown4
        clear hown4 bf4 bo4 br4 hB4
        show wpList _ _ _ _ _ _
        go_wp2_with fail
        go_roundw
        case rel =>
          refine ⟨j + 1, Ar, capr, by omega, by go_num, bf5, br5, ?_, ?_, hB5⟩
          · rw [HB2.out, List.length_append]; simpa using bo5
          · rw [HB2.out, List.flatMap_append, List.length_append]
            simpa [lkC] using hO5
        case measure => simp [intOf]; omega
    · obtain rfl : j = f.ls.length := by omega
      rw [List.take_length, ← HL9.out] at bo hO
      have hbl : L9.length ≤ f.ls.length := by rw [HL9.out]; exact but_len f.ls ids
      have hk9 : Lks wr wr.heap.size (.slice Av L9.length cv) L9 := Sl.of_own (l := L9) lkC_len hO (by omega)
      have e0 := Joins.cell_of_block bo 0
      have e1 := Joins.cell_of_block bo 1
      have e2 := Joins.cell_of_block bo 2
      have e3 := Joins.cell_of_block bo 3
      have e4 := Joins.cell_of_block bo 4
      have HP := Lib.hid (fun j : Nat => cell_setRow_same wr (w.heap.size + 1) j _ #[.int .i64 f.rise, .int .i64 f.fall, .int .i64 f.up, .int .i64 f.down, .slice Av L9.length cv] _ _ br)
      have BF := below_setRow hbw (show w.heap.size ≤ w.heap.size + 1 by omega) #[.int .i64 f.rise, .int .i64 f.fall, .int .i64 f.up, .int .i64 f.down, .slice Av L9.length cv]
      have hk10 : Lks (wr.setRow (w.heap.size + 1) #[.int .i64 f.rise, .int .i64 f.fall, .int .i64 f.up, .int .i64 f.down, .slice Av L9.length cv]) (wr.setRow (w.heap.size + 1) #[.int .i64 f.rise, .int .i64 f.fall, .int .i64 f.up, .int .i64 f.down, .slice Av L9.length cv]).heap.size (.slice Av L9.length cv) L9 := (lks_setRow hk9 br #[.int .i64 f.rise, .int .i64 f.fall, .int .i64 f.up, .int .i64 f.down, .slice Av L9.length cv]).more (Nat.le_of_eq (size_setRow _ _ _).symm)
      have HK9 := Lib.hid hk10
      clear hk10
      clear hk9 hO hbl
      go_wp2_with (refine wpList_store_rowTo rfl 24 _ _ rfl rfl (w.heap.size + 1) #[.int .i64 f.rise, .int .i64 f.fall, .int .i64 f.up, .int .i64 f.down, .slice Av L9.length cv] rfl rfl 24 _ br (by kernel_rfl) rfl (by kernel_rfl) ?_)
      refine bodyPost_ret (v := .agg #[.int .i64 f.rise, .int .i64 f.fall, .int .i64 f.up, .int .i64 f.down, .slice Av L9.length cv]) ?_ rfl ⟨_, rfl, HK9.out, BF⟩
      simp [results, Tryz.results66, go_sem, HP.out]
end Go.Proofs.YtjpoacffnpgjdaaGreat
