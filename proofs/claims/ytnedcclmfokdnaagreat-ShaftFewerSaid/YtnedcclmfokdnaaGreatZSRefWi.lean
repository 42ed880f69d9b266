/- The reference's without, Without (written by tools/gensrefwi.py). -/
import Derived.Test.YtnedcclmfokdnaaGreatZSCat
import Derived.Test.YtnedcclmfokdnaaGreatJ25
import Derived.Test.YtnedcclmfokdnaaGreatJ15
import Derived.Test.YtnedcclmfokdnaaGreatZSRFootE
namespace Go.Proofs.YtnedcclmfokdnaaGreat
open Go Go.RowKit Go.Shelf
attribute [local go_sem] Oper.semAt_some Rel RelAt RelUpon

/-- The weighings that are left. -/
def leftW (ids : List Int) (l : List Wg) : List Wg := l.filter fun g => !(decide (g.id ∈ ids))
theorem left_snoc (ids : List Int) (l : List Wg) (x : Wg) : leftW ids (l ++ [x]) = if x.id ∈ ids then leftW ids l else leftW ids l ++ [x] := by
  unfold leftW
  rw [List.filter_append, List.filter_cons, List.filter_nil]
  by_cases h : x.id ∈ ids
  · simp [h]
  · simp [h]
theorem left_len (ids : List Int) (l : List Wg) : (leftW ids l).length ≤ l.length := List.length_filter_le _ _
theorem less_ws (k : Kl) (ids : List Int) : (lessK k ids).ws = leftW ids k.ws := rfl
/-- A kiln whose weighings lie elsewhere. -/
theorem less_kiln {W : World} {k : Kl} {ids : List Int} {A1 A2 A3 : Option Addr} {c1 c2 c3 : Nat} {u : Value} (h : Kiln W (.agg #[.int .i64 k.room, .int .i64 k.per, .slice A1 k.ls.length c1, .slice A2 k.ds.length c2, .slice A3 k.ws.length c3]) k) (hu : Wgs W W.heap.size u (leftW ids k.ws)) :
    Kiln W (.agg #[.int .i64 k.room, .int .i64 k.per, .slice A1 k.ls.length c1, .slice A2 k.ds.length c2, u]) (lessK k ids) := by
  obtain ⟨al, ad, aw, e9, hl, hd, _⟩ := h
  obtain ⟨rfl, rfl, rfl⟩ : .slice A1 k.ls.length c1 = al ∧ .slice A2 k.ds.length c2 = ad ∧ .slice A3 k.ws.length c3 = aw := by simpa using e9
  exact ⟨_, _, _, rfl, hl, hd, hu⟩
set_option maxRecDepth 100000 in
set_option maxHeartbeats 8000000 in
theorem rwithout_d (k : Kl) (A1 A2 A3 : Option Addr) (c1 c2 c3 : Nat) (vi : Value) (ids : List Int) (w : World) (hk : Kiln w (.agg #[.int .i64 k.room, .int .i64 k.per, .slice A1 k.ls.length c1, .slice A2 k.ds.length c2, .slice A3 k.ws.length c3]) k) (hi : Ints w w.heap.size vi ids) (hlen : k.ws.length ≤ 5000) :
    Calls Tryz.prog 126 #[.agg #[.int .i64 k.room, .int .i64 k.per, .slice A1 k.ls.length c1, .slice A2 k.ds.length c2, .slice A3 k.ws.length c3], vi] w fun e w' => ∃ Av cv, e = .returned (.agg #[.int .i64 k.room, .int .i64 k.per, .slice A1 k.ls.length c1, .slice A2 k.ds.length c2, .slice Av (leftW ids k.ws).length cv]) ∧ w'.ownsRow w.heap.size 112 6 (.slice Av (leftW ids k.ws).length cv) (leftW ids k.ws).length ((leftW ids k.ws).flatMap wC) ∧ Below w.heap.size w w' := by
  obtain ⟨Ai, ci, rfl⟩ := Sl.form1 hi
  have HK := Lib.hid hk
  have HIn := Lib.hid hi
  clear hk hi
  obtain ⟨i0, hi, hz0, hz1, hz2⟩ := info_parts Tryz.infoFW
  have HI := Lib.hid hi
  have HI0 := Lib.hid hz0
  have HI1 := Lib.hid hz1
  have HI2 := Lib.hid hz2
  clear hi hz0 hz1 hz2
  obtain ⟨L9, hL9⟩ : ∃ L, L = leftW ids k.ws := ⟨_, rfl⟩
  have HL9 := Lib.hid hL9
  clear hL9
  go_enter Tryz.func126, Tryz.ntmps126
  obtain ⟨bk, br, bo, -, HB⟩ := three_new w (.cells #[.int .i64 k.room, .int .i64 k.per, .slice A1 k.ls.length c1, .slice A2 k.ds.length c2, .slice A3 k.ws.length c3] 26) (.cells #[.int .i64 0, .int .i64 0, .slice none 0 0, .slice none 0 0, .slice none 0 0] 26) (.cells #[.int .i64 k.room, .int .i64 k.per, .slice A1 k.ls.length c1, .slice A2 k.ds.length c2, .slice none 0 0] 26)
  have cbk0 := Joins.cell_of_block bk 0
  have cbk1 := Joins.cell_of_block bk 1
  have cbk2 := Joins.cell_of_block bk 2
  have cbk3 := Joins.cell_of_block bk 3
  have cbk4 := Joins.cell_of_block bk 4
  have zbk := size_of_block bk
  go_wp2_with fail
  generalize (((w.alloc (.cells #[.int .i64 k.room, .int .i64 k.per, .slice A1 k.ls.length c1, .slice A2 k.ds.length c2, .slice A3 k.ws.length c3] 26)).alloc (.cells #[.int .i64 0, .int .i64 0, .slice none 0 0, .slice none 0 0, .slice none 0 0] 26)).alloc (.cells #[.int .i64 k.room, .int .i64 k.per, .slice A1 k.ls.length c1, .slice A2 k.ds.length c2, .slice none 0 0] 26)) = w1 at bk br bo HB cbk0 cbk1 cbk2 cbk3 cbk4 zbk ⊢
  have hB := HB
  clear HB
  clear cbk0 cbk1 cbk2 cbk3 cbk4 zbk
  have BK := Lib.hid bk
  have BR := Lib.hid br
  have BO := Lib.hid bo
  clear bk br bo
  go_loopw [6] (fun i wr => ∃ (j : Nat) (Av : Option Addr) (cv : Nat), j ≤ k.ws.length ∧ i = .int .i64 j ∧ wr.heap[w.heap.size]? = some (.cells #[.int .i64 k.room, .int .i64 k.per, .slice A1 k.ls.length c1, .slice A2 k.ds.length c2, .slice A3 k.ws.length c3] 26) ∧ wr.heap[w.heap.size + 1]? = some (.cells #[.int .i64 0, .int .i64 0, .slice none 0 0, .slice none 0 0, .slice none 0 0] 26) ∧ wr.heap[w.heap.size + 1 + 1]? = some (.cells #[.int .i64 k.room, .int .i64 k.per, .slice A1 k.ls.length c1, .slice A2 k.ds.length c2, (.slice Av (leftW ids (k.ws.take j)).length cv)] 26) ∧ wr.ownsRow w.heap.size 112 6 (.slice Av (leftW ids (k.ws.take j)).length cv) (leftW ids (k.ws.take j)).length ((leftW ids (k.ws.take j)).flatMap wC) ∧ Below w.heap.size w wr) (fun i _ => k.ws.length - (intOf i).toNat)
  case atStart => exact ⟨0, none, 0, Nat.zero_le _, rfl, BK.out, BR.out, by simpa [leftW] using BO.out, by simpa [leftW] using World.ownsRow_nil _ _ _ _, hB⟩
  case round =>
    clear hB BK BR BO
    obtain ⟨j, Av, cv, hj, rfl, bk, br, bo, hO, hB⟩ := hrel
    by_cases hlt : j < k.ws.length
    · have hkW := HK.out.later hB
      obtain ⟨al, ad, aw, e9, _, _, hw⟩ := hkW
      obtain ⟨rfl, rfl, rfl⟩ : .slice A1 k.ls.length c1 = al ∧ .slice A2 k.ds.length c2 = ad ∧ .slice A3 k.ws.length c3 = aw := by simpa using e9
      obtain ⟨A', c', e8, _, hln, hat⟩ := hw.open_
      obtain ⟨rfl, rfl⟩ : A3 = A' ∧ c3 = c' := by simpa using e8
      obtain ⟨sb, so, x, rfl, hsb, hx, y0, y1, y2, y3, y4, y5⟩ := hat j hlt
      clear hat hw e8 e9
      have hbl := left_len ids (k.ws.take j)
      have htl : (k.ws.take j).length = j := by rw [List.length_take]; omega
      rw [htl] at hbl
      have HSN := Lib.hid (show leftW ids (k.ws.take (j + 1)) = if x.id ∈ ids then leftW ids (k.ws.take j) else leftW ids (k.ws.take j) ++ [x] by rw [take_snoc hx, left_snoc])
      clear htl hx
      generalize leftW ids (k.ws.take j) = L at *
      have cbk0 := Joins.cell_of_block bk 0
      have cbk1 := Joins.cell_of_block bk 1
      have cbk2 := Joins.cell_of_block bk 2
      have cbk3 := Joins.cell_of_block bk 3
      have cbk4 := Joins.cell_of_block bk 4
      have zbk := size_of_block bk
      go_wp2_with fail
      have hasc := fun (W : World) h => rhas_c (.slice Ai ids.length ci) ids x.id W h
      have HASC := Lib.hid hasc
      clear hasc
      refine (HASC.out _ (HIn.out.later hB)).mono ?_
      rintro e W2 ⟨rfl, rfl⟩
      clear cbk0 cbk1 cbk2 cbk3 cbk4 zbk
      by_cases hc : x.id ∈ ids
      · have HB2 : Hid (leftW ids (k.ws.take (j + 1)) = L) := Lib.hid (by rw [HSN.out, if_pos hc])
        have d0 : decide (x.id ∈ ids) = true := decide_eq_true hc
        rw [d0]
        clear hc HSN d0
        go_wp2_with fail
        go_roundw
        case rel => exact ⟨j + 1, Av, cv, by omega, by go_num, bk, br, by rw [HB2.out]; exact bo, by rw [HB2.out]; exact hO, hB⟩
        case measure => simp [intOf]; omega
      · have HB2 : Hid (leftW ids (k.ws.take (j + 1)) = L ++ [x]) := Lib.hid (by rw [HSN.out, if_neg hc])
        have d0 : decide (x.id ∈ ids) = false := decide_eq_false hc
        rw [d0]
        clear hc HSN d0
        go_wp2_with fail
        refine wp_region_looseM [] [0, 1, 2, 3, 4, 5, 6] (.one 7 .done) [] [] [8, 9, 10] [] [] (by kernel_rfl) (by kernel_rfl) (by intro c a d v w h; cases d <;> exact h) (by intro c a d v w h; cases d <;> exact h) rfl (fun r i h => by simp at h) ?_
        simp only [pick, List.filterMap_cons, List.filterMap_nil, List.getElem?_toArray, List.getElem?_cons_succ, List.getElem?_cons_zero]
        intro U hu
        replace bk := (hu.block _ (size_of_block bk)).trans bk
        replace br := (hu.block _ (size_of_block br)).trans br
        replace bo := (hu.block _ (size_of_block bo)).trans bo
        replace hO := own_later hO hu
        replace y0 := (hu.cell (p := ⟨sb, so + j * 6, none⟩) hsb).trans y0
        replace y1 := (hu.cell (p := ⟨sb, so + j * 6 + 1, none⟩) hsb).trans y1
        replace y2 := (hu.cell (p := ⟨sb, so + j * 6 + 2, none⟩) hsb).trans y2
        replace y3 := (hu.cell (p := ⟨sb, so + j * 6 + 3, none⟩) hsb).trans y3
        replace y4 := (hu.cell (p := ⟨sb, so + j * 6 + 4, none⟩) hsb).trans y4
        replace y5 := (hu.cell (p := ⟨sb, so + j * 6 + 5, none⟩) hsb).trans y5
        replace hsb := Nat.lt_of_lt_of_le hsb hu.size
        replace hB := below_then hB hu
        clear hu
        have cbk0 := Joins.cell_of_block bk 0
        have cbk1 := Joins.cell_of_block bk 1
        have cbk2 := Joins.cell_of_block bk 2
        have cbk3 := Joins.cell_of_block bk 3
        have cbk4 := Joins.cell_of_block bk 4
        have zbk := size_of_block bk
        have cbo0 := Joins.cell_of_block bo 0
        have cbo1 := Joins.cell_of_block bo 1
        have cbo2 := Joins.cell_of_block bo 2
        have cbo3 := Joins.cell_of_block bo 3
        have cbo4 := Joins.cell_of_block bo 4
        have zbo := size_of_block bo
        have hcg : ∀ (g : Gr U) b o, b < U.heap.size → g.val.cell? ⟨b, o, none⟩ = U.cell? ⟨b, o, none⟩ := fun g b o h => (bcell g.b).1 b o h
        iterate 7 (refine wpRel_step (fun K hK => ?_); go_simp; refine hK _ ?_; clear hK K)
        refine wpRel_nil fun V0 hb0 => ?_
        clear hcg y0 y1 y2 y3 y4 y5 hsb cbk0 cbk1 cbk2 cbk3 cbk4 zbk cbo0 cbo1 cbo2 cbo3 cbo4 zbo
        replace bk := (hb0.block _ (size_of_block bk)).trans bk
        replace br := (hb0.block _ (size_of_block br)).trans br
        replace bo := (hb0.block _ (size_of_block bo)).trans bo
        replace hO := own_later hO hb0
        replace hB := below_then hB hb0
        clear hb0
        refine wpTr_step rfl rfl fun K hK => ?_
        go_simp
        refine hK _ _ (below_alloc _ _) fun V1 hu1 => ?_
        clear hK K
        have yn := (hu1.block _ (by simp)).trans (heap_alloc_new V0 (.cells #[.int .i64 x.id, .int .i64 x.kind, .int .i64 x.frm, .int .i64 x.too, .int .i64 x.lo, .int .i64 x.hi] 112))
        have D1 := below_then (below_alloc V0 (.cells #[.int .i64 x.id, .int .i64 x.kind, .int .i64 x.frm, .int .i64 x.too, .int .i64 x.lo, .int .i64 x.hi] 112)) hu1
        replace bk := (D1.block _ (size_of_block bk)).trans bk
        replace br := (D1.block _ (size_of_block br)).trans br
        replace bo := (D1.block _ (size_of_block bo)).trans bo
        replace hO := own_later hO D1
        replace hB := below_then hB D1
        clear D1 hu1
        show wpPure _ _ _ _
        intro ks hks _ _
        obtain rfl : ks = [] := List.length_eq_zero_iff.1 hks
        clear hks
        show wpList _ _ _ _ _ _
        simp only [deco]
        refine wpList_append_own _ rfl _ _ 24 rfl w.heap.size 112 i0 (.agg #[.int .i64 0, .int .i64 0, .int .i64 0, .int .i64 0, .int .i64 0, .int .i64 0]) 6 48 Tryz.underlying24 HI.out HI0.out HI1.out HI2.out rfl (by decide) _ _ _ rfl hO ⟨V0.heap.size, 0, none⟩ 1 1 #[.int .i64 x.id, .int .i64 x.kind, .int .i64 x.frm, .int .i64 x.too, .int .i64 x.lo, .int .i64 x.hi].toList rfl rfl ?c1 ?c2 ?c3 ?c4 ?c5 ?_
        case c1 =>
          intro j u hj
          have h9 := Joins.cell_of_block yn j
          rw [← Array.getElem?_toList, hj] at h9
          by_cases h0 : j = 0
          · subst h0; simpa [Addr.add] using h9
          · simpa [Addr.add, h0] using h9
        case c2 => intro u hu; simp at hu; rcases hu with rfl | rfl | rfl | rfl | rfl | rfl <;> rfl
        case c3 => unfold maxLen; omega
        case c4 => omega
        case c5 => exact hB.size
        intro v4 w4 hown' hgrow _
        replace bk := (hgrow.block _ (size_of_block bk) (Ne.symm (own_ne_block hO bk (by decide)))).trans bk
        replace br := (hgrow.block _ (size_of_block br) (Ne.symm (own_ne_block hO br (by decide)))).trans br
        replace bo := (hgrow.block _ (size_of_block bo) (Ne.symm (own_ne_block hO bo (by decide)))).trans bo
        replace hB := below_own hB hB.size hO hgrow
        clear hgrow yn hO
        have f4 := Joins.unfrozen_of_block bo 4
        have s4 := Joins.cell_of_block bo 4
        have zo4 := size_of_block bo
        replace bk := (put_other (i := 4) v4 (show w.heap.size ≠ w.heap.size + 1 + 1 by omega)).trans bk
        replace br := (put_other (i := 4) v4 (show w.heap.size + 1 ≠ w.heap.size + 1 + 1 by omega)).trans br
        have hO := own_setCell hown' 4 v4 (own_ne_block hown' bo (by decide))
        replace hB := below_set (i := 4) (v := v4) hB (show w.heap.size ≤ w.heap.size + 1 + 1 by omega)
        replace bo := Joins.block_setCell (i := 4) bo v4
        obtain ⟨B4, e4, rfl⟩ := own_form hown'
        clear hown'
        show wpList _ _ _ _ _ _
        go_wp2_with fail
        go_roundw
        case rel =>
          refine ⟨j + 1, B4, e4, by omega, by go_num, bk, br, ?_, ?_, hB⟩
          · rw [HB2.out, List.length_append]; simpa using bo
          · rw [HB2.out, List.flatMap_append, List.length_append]
            simpa [wC] using hO
        case measure => simp [intOf]; omega
    · obtain rfl : j = k.ws.length := by omega
      rw [List.take_length, ← HL9.out] at bo hO
      have hbl : L9.length ≤ k.ws.length := by rw [HL9.out]; exact left_len ids k.ws
      have HPP := Lib.hid (fun jj : Nat => cell_setRow_same wr (w.heap.size + 1) jj _ #[.int .i64 k.room, .int .i64 k.per, .slice A1 k.ls.length c1, .slice A2 k.ds.length c2, .slice Av L9.length cv] _ _ br)
      have hBF := below_setRow hB (show w.heap.size ≤ w.heap.size + 1 by omega) #[.int .i64 k.room, .int .i64 k.per, .slice A1 k.ls.length c1, .slice A2 k.ds.length c2, .slice Av L9.length cv]
      have HOF := Lib.hid (own_setRowX hO br (by decide) #[.int .i64 k.room, .int .i64 k.per, .slice A1 k.ls.length c1, .slice A2 k.ds.length c2, .slice Av L9.length cv])
      have HBF := Lib.hid hBF
      clear hO hBF
      have cbk0 := Joins.cell_of_block bk 0
      have cbk1 := Joins.cell_of_block bk 1
      have cbk2 := Joins.cell_of_block bk 2
      have cbk3 := Joins.cell_of_block bk 3
      have cbk4 := Joins.cell_of_block bk 4
      have zbk := size_of_block bk
      have cbo0 := Joins.cell_of_block bo 0
      have cbo1 := Joins.cell_of_block bo 1
      have cbo2 := Joins.cell_of_block bo 2
      have cbo3 := Joins.cell_of_block bo 3
      have cbo4 := Joins.cell_of_block bo 4
      have zbo := size_of_block bo
      go_wp2_with (first | (refine wpList_store_rowTo rfl 26 _ _ rfl rfl (w.heap.size + 1) #[.int .i64 k.room, .int .i64 k.per, .slice A1 k.ls.length c1, .slice A2 k.ds.length c2, .slice Av L9.length cv] rfl rfl 26 _ br (by kernel_rfl) rfl (by kernel_rfl) ?_))
      all_goals (try (exfalso; omega))
      refine bodyPost_ret (v := .agg #[.int .i64 k.room, .int .i64 k.per, .slice A1 k.ls.length c1, .slice A2 k.ds.length c2, .slice Av L9.length cv]) ?_ rfl ⟨Av, cv, by rw [HL9.out], by have h9 := HOF.out; rw [HL9.out] at h9 ⊢; exact h9, HBF.out⟩
      simp [results, Tryz.results126, go_sem, HPP.out]
theorem rwithout_c (k : Kl) (v vi : Value) (ids : List Int) (w : World) (hk : Kiln w v k) (hi : Ints w w.heap.size vi ids) (hlen : k.ws.length ≤ 5000) :
    Calls Tryz.prog 126 #[v, vi] w fun e w' => ∃ u, e = .returned u ∧ Kiln w' u (lessK k ids) ∧ Below w.heap.size w w' := by
  obtain ⟨A1, c1, A2, c2, A3, c3, rfl⟩ := kilnForm hk
  refine (rwithout_d k A1 A2 A3 c1 c2 c3 vi ids w hk hi hlen).mono ?_
  rintro e w' ⟨Av, cv, rfl, ho, hb⟩
  exact ⟨_, rfl, less_kiln (hk.later hb) (Sl.of_own (l := leftW ids k.ws) wC_len ho (by have := left_len ids k.ws; omega)), hb⟩
/-- No kiln. -/
theorem no_kiln (W : World) : Kiln W (.agg #[.int .i64 0, .int .i64 0, .slice none 0 0, .slice none 0 0, .slice none 0 0]) ⟨0, 0, [], [], []⟩ := ⟨_, _, _, rfl, Sl.nil_, Sl.nil_, Sl.nil_⟩
set_option maxRecDepth 100000 in
set_option maxHeartbeats 4000000 in
theorem rWithout_bad (k : Kl) (v vi : Value) (ids : List Int) (w : World) (hk : Kiln w v k) (hi : Ints w w.heap.size vi ids) (hc : checkI k ≠ 0) : Calls Tryz.prog 59 #[v, vi] w fun e w' => ∃ r p A1 c1 n1 A2 c2 n2 A3 c3 n3, e = .returned (.agg #[.int .i64 r, .int .i64 p, .slice A1 n1 c1, .slice A2 n2 c2, .slice A3 n3 c3, .int .i64 (checkI k)]) ∧ Kiln w' (.agg #[.int .i64 r, .int .i64 p, .slice A1 n1 c1, .slice A2 n2 c2, .slice A3 n3 c3]) (if checkI k = 0 then lessK k ids else ⟨0, 0, [], [], []⟩) ∧ Below w.heap.size w w' := by
  rw [if_neg hc]
  have d0 : (checkI k != 0) = true := by simpa using hc
  clear hc
  obtain ⟨A1, c1, A2, c2, A3, c3, rfl⟩ := kilnForm hk
  obtain ⟨Ai, ci, rfl⟩ := Sl.form1 hi
  have HK := Lib.hid hk
  have HIn := Lib.hid hi
  clear hk hi
  go_enter Tryz.func59, Tryz.ntmps59
  obtain ⟨bk, br, -, HB⟩ := two_new' w (.cells #[.int .i64 k.room, .int .i64 k.per, .slice A1 k.ls.length c1, .slice A2 k.ds.length c2, .slice A3 k.ws.length c3] 26) (.cells #[.int .i64 0, .int .i64 0, .slice none 0 0, .slice none 0 0, .slice none 0 0, .int .i64 0] 92)
  have cbk0 := Joins.cell_of_block bk 0
  have cbk1 := Joins.cell_of_block bk 1
  have cbk2 := Joins.cell_of_block bk 2
  have cbk3 := Joins.cell_of_block bk 3
  have cbk4 := Joins.cell_of_block bk 4
  have zbk := size_of_block bk
  go_wp2_with fail
  generalize ((w.alloc (.cells #[.int .i64 k.room, .int .i64 k.per, .slice A1 k.ls.length c1, .slice A2 k.ds.length c2, .slice A3 k.ws.length c3] 26)).alloc (.cells #[.int .i64 0, .int .i64 0, .slice none 0 0, .slice none 0 0, .slice none 0 0, .int .i64 0] 92)) = w1 at bk br HB cbk0 cbk1 cbk2 cbk3 cbk4 zbk ⊢
  have hB := HB
  clear HB
  refine (rcheck_c k _ w1 (HK.out.later hB)).mono ?_
  rintro e w2 ⟨rfl, hF⟩
  clear cbk0 cbk1 cbk2 cbk3 cbk4 zbk
  replace bk := (hF.block _ (size_of_block bk)).trans bk
  replace br := (hF.block _ (size_of_block br)).trans br
  replace hB := below_then hB hF
  clear hF
  have HPP := Lib.hid (fun j : Nat => cell_setRow_same w2 (w.heap.size + 1) j _ #[.int .i64 0, .int .i64 0, .slice none 0 0, .slice none 0 0, .slice none 0 0, .int .i64 (checkI k)] _ _ br)
  have hBF := below_setRow hB (show w.heap.size ≤ w.heap.size + 1 by omega) #[.int .i64 0, .int .i64 0, .slice none 0 0, .slice none 0 0, .slice none 0 0, .int .i64 (checkI k)]
  have HKF := Lib.hid (no_kiln (w2.setRow (w.heap.size + 1) #[.int .i64 0, .int .i64 0, .slice none 0 0, .slice none 0 0, .slice none 0 0, .int .i64 (checkI k)]))
  have HBF := Lib.hid hBF
  clear hBF
  go_wp2_with (first | (refine wpList_store_rowTo rfl 92 _ _ rfl rfl (w.heap.size + 1) #[.int .i64 0, .int .i64 0, .slice none 0 0, .slice none 0 0, .slice none 0 0, .int .i64 (checkI k)] rfl rfl 92 _ br (by kernel_rfl) rfl (by kernel_rfl) ?_))
  all_goals (try (exfalso; omega))
  refine bodyPost_ret (v := .agg #[.int .i64 0, .int .i64 0, .slice none 0 0, .slice none 0 0, .slice none 0 0, .int .i64 (checkI k)]) ?_ rfl ⟨_, _, _, _, _, _, _, _, _, _, _, rfl, HKF.out, HBF.out⟩
  simp [results, Tryz.results59, go_sem, HPP.out]
set_option maxRecDepth 100000 in
set_option maxHeartbeats 4000000 in
theorem rWithout_ok (k : Kl) (v vi : Value) (ids : List Int) (w : World) (hk : Kiln w v k) (hi : Ints w w.heap.size vi ids) (hc : checkI k = 0) : Calls Tryz.prog 59 #[v, vi] w fun e w' => ∃ r p A1 c1 n1 A2 c2 n2 A3 c3 n3, e = .returned (.agg #[.int .i64 r, .int .i64 p, .slice A1 n1 c1, .slice A2 n2 c2, .slice A3 n3 c3, .int .i64 (checkI k)]) ∧ Kiln w' (.agg #[.int .i64 r, .int .i64 p, .slice A1 n1 c1, .slice A2 n2 c2, .slice A3 n3 c3]) (if checkI k = 0 then lessK k ids else ⟨0, 0, [], [], []⟩) ∧ Below w.heap.size w w' := by
  rw [if_pos hc, hc]
  have hR := right_of_check hc
  have n3 := hR.ws
  obtain ⟨A1, c1, A2, c2, A3, c3, rfl⟩ := kilnForm hk
  have YW := Lib.hid (fun u W h1 h2 => rwithout_d k A1 A2 A3 c1 c2 c3 u ids W h1 h2 (by omega))
  clear hR
  obtain ⟨Ai, ci, rfl⟩ := Sl.form1 hi
  have HK := Lib.hid hk
  have HIn := Lib.hid hi
  clear hk hi
  go_enter Tryz.func59, Tryz.ntmps59
  obtain ⟨bk, br, -, HB⟩ := two_new' w (.cells #[.int .i64 k.room, .int .i64 k.per, .slice A1 k.ls.length c1, .slice A2 k.ds.length c2, .slice A3 k.ws.length c3] 26) (.cells #[.int .i64 0, .int .i64 0, .slice none 0 0, .slice none 0 0, .slice none 0 0, .int .i64 0] 92)
  have cbk0 := Joins.cell_of_block bk 0
  have cbk1 := Joins.cell_of_block bk 1
  have cbk2 := Joins.cell_of_block bk 2
  have cbk3 := Joins.cell_of_block bk 3
  have cbk4 := Joins.cell_of_block bk 4
  have zbk := size_of_block bk
  go_wp2_with fail
  generalize ((w.alloc (.cells #[.int .i64 k.room, .int .i64 k.per, .slice A1 k.ls.length c1, .slice A2 k.ds.length c2, .slice A3 k.ws.length c3] 26)).alloc (.cells #[.int .i64 0, .int .i64 0, .slice none 0 0, .slice none 0 0, .slice none 0 0, .int .i64 0] 92)) = w1 at bk br HB cbk0 cbk1 cbk2 cbk3 cbk4 zbk ⊢
  have hB := HB
  clear HB
  refine (rcheck_c k _ w1 (HK.out.later hB)).mono ?_
  rintro e w2 ⟨rfl, hF⟩
  clear cbk0 cbk1 cbk2 cbk3 cbk4 zbk
  replace bk := (hF.block _ (size_of_block bk)).trans bk
  replace br := (hF.block _ (size_of_block br)).trans br
  replace hB := below_then hB hF
  clear hF
  rw [hc]
  clear hc
  have cbk0 := Joins.cell_of_block bk 0
  have cbk1 := Joins.cell_of_block bk 1
  have cbk2 := Joins.cell_of_block bk 2
  have cbk3 := Joins.cell_of_block bk 3
  have cbk4 := Joins.cell_of_block bk 4
  have zbk := size_of_block bk
  go_wp2_with fail
  refine (YW.out _ w2 (HK.out.later hB) (HIn.out.later hB)).mono ?_
  rintro e w3 ⟨Av, cv, rfl, hO, hF⟩
  clear cbk0 cbk1 cbk2 cbk3 cbk4 zbk
  replace bk := (hF.block _ (size_of_block bk)).trans bk
  replace br := (hF.block _ (size_of_block br)).trans br
  replace hB := below_then hB hF
  clear hF
  have hll := left_len ids k.ws
  obtain ⟨L9, hL9⟩ : ∃ L, L = leftW ids k.ws := ⟨_, rfl⟩
  rw [← hL9] at hO hll
  rw [← hL9]
  have HL9 := Lib.hid hL9
  clear hL9
  have HPP := Lib.hid (fun j : Nat => cell_setRow_same w3 (w.heap.size + 1) j _ #[.int .i64 k.room, .int .i64 k.per, .slice A1 k.ls.length c1, .slice A2 k.ds.length c2, .slice Av L9.length cv, .int .i64 0] _ _ br)
  have hBF := below_setRow hB (show w.heap.size ≤ w.heap.size + 1 by omega) #[.int .i64 k.room, .int .i64 k.per, .slice A1 k.ls.length c1, .slice A2 k.ds.length c2, .slice Av L9.length cv, .int .i64 0]
  have hw9 : Wgs (w3.setRow (w.heap.size + 1) #[.int .i64 k.room, .int .i64 k.per, .slice A1 k.ls.length c1, .slice A2 k.ds.length c2, .slice Av L9.length cv, .int .i64 0]) (w3.setRow (w.heap.size + 1) #[.int .i64 k.room, .int .i64 k.per, .slice A1 k.ls.length c1, .slice A2 k.ds.length c2, .slice Av L9.length cv, .int .i64 0]).heap.size (.slice Av L9.length cv) (leftW ids k.ws) := by rw [← HL9.out]; exact Sl.of_own (l := L9) wC_len (own_setRowX hO br (by decide) #[.int .i64 k.room, .int .i64 k.per, .slice A1 k.ls.length c1, .slice A2 k.ds.length c2, .slice Av L9.length cv, .int .i64 0]) (by omega)
  have HKF := Lib.hid (less_kiln (HK.out.later hBF) hw9)
  clear hO hw9
  have HBF := Lib.hid hBF
  clear hBF
  go_wp2_with (first | (refine wpList_store_rowTo rfl 92 _ _ rfl rfl (w.heap.size + 1) #[.int .i64 k.room, .int .i64 k.per, .slice A1 k.ls.length c1, .slice A2 k.ds.length c2, .slice Av L9.length cv, .int .i64 0] rfl rfl 92 _ br (by kernel_rfl) rfl (by kernel_rfl) ?_))
  all_goals (try (exfalso; omega))
  refine bodyPost_ret (v := .agg #[.int .i64 k.room, .int .i64 k.per, .slice A1 k.ls.length c1, .slice A2 k.ds.length c2, .slice Av L9.length cv, .int .i64 0]) ?_ rfl ⟨_, _, _, _, _, _, _, _, _, _, _, rfl, HKF.out, HBF.out⟩
  simp [results, Tryz.results59, go_sem, HPP.out]
theorem rWithout_c (k : Kl) (v vi : Value) (ids : List Int) (w : World) (hk : Kiln w v k) (hi : Ints w w.heap.size vi ids) : Calls Tryz.prog 59 #[v, vi] w fun e w' => ∃ r p A1 c1 n1 A2 c2 n2 A3 c3 n3, e = .returned (.agg #[.int .i64 r, .int .i64 p, .slice A1 n1 c1, .slice A2 n2 c2, .slice A3 n3 c3, .int .i64 (checkI k)]) ∧ Kiln w' (.agg #[.int .i64 r, .int .i64 p, .slice A1 n1 c1, .slice A2 n2 c2, .slice A3 n3 c3]) (if checkI k = 0 then lessK k ids else ⟨0, 0, [], [], []⟩) ∧ Below w.heap.size w w' := by
  by_cases hc : checkI k = 0
  · exact rWithout_ok k v vi ids w hk hi hc
  · exact rWithout_bad k v vi ids w hk hi hc
end Go.Proofs.YtnedcclmfokdnaaGreat
