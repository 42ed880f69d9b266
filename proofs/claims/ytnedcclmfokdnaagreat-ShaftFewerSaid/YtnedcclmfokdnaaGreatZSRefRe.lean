/- The reference's Rests, Suspects (written by tools/gensrefre.py). -/
import Derived.Test.YtnedcclmfokdnaaGreatZSRefWi
import Derived.Test.YtnedcclmfokdnaaGreatZSRefPut
import Derived.Test.YtnedcclmfokdnaaGreatZSRefMk
import Derived.Test.YtnedcclmfokdnaaGreatZSRefI
import Derived.Test.YtnedcclmfokdnaaGreatJ26
import Derived.Test.YtnedcclmfokdnaaGreatZSSpecE
import Derived.Test.YtnedcclmfokdnaaGreatZSLawNE
namespace Go.Proofs.YtnedcclmfokdnaaGreat
open Go Go.RowKit Go.Shelf
attribute [local go_sem] Oper.semAt_some Rel RelAt RelUpon

/-- What was put so far. -/
noncomputable def putL (k : Kl) (q : Kl → Bool) (j : Nat) : List Int := sortI (needL k q j)
theorem put_zero (k : Kl) (q : Kl → Bool) : putL k q 0 = [] := by unfold putL; rw [need_zero]; rfl
theorem put_snoc {k : Kl} {q : Kl → Bool} {j : Nat} {x : Wg} (hx : k.ws[j]? = some x) : putL k q (j + 1) = if q (lessK k [x.id]) then putI (putL k q j) x.id else putL k q j := by
  unfold putL
  rw [need_snoc hx]
  split
  · unfold sortI; rw [List.foldl_append]; rfl
  · rw [List.append_nil]
theorem foldput_len : ∀ (l acc : List Int), (l.foldl putI acc).length = acc.length + l.length
  | [], acc => rfl
  | x :: l, acc => by rw [List.foldl_cons, foldput_len l, putI_len, List.length_cons]; omega
theorem put_len (k : Kl) (q : Kl → Bool) (j : Nat) : (putL k q j).length ≤ j := by
  unfold putL sortI
  rw [foldput_len]
  have := lessN k q j
  simpa using this
set_option maxRecDepth 100000 in
set_option maxHeartbeats 4000000 in
theorem rRests_err (k : Kl) (v : Value) (fr tu : Int) (w : World) (hk : Kiln w v k) (h0 : (mostE k fr tu).2 ≠ 0) : Calls Tryz.prog 55 #[v, .int .i64 fr, .int .i64 tu] w fun e w' => ∃ u, e = .returned (.agg #[u, .int .i64 (mostE k fr tu).2]) ∧ w'.ownsRow w.heap.size 3 1 u (restsL k fr tu).length ((restsL k fr tu).map (Value.int .i64)) ∧ Below w.heap.size w w' := by
  have HNL := Lib.hid (show restsL k fr tu = [] by unfold restsL; rw [if_neg h0])
  have yM := fun v W h => rMost_c k v fr tu W h
  obtain ⟨M1, h9⟩ : ∃ x, x = (mostE k fr tu).1 := ⟨_, rfl⟩
  rw [← h9] at yM
  clear h9
  obtain ⟨M2, h9⟩ : ∃ x, x = (mostE k fr tu).2 := ⟨_, rfl⟩
  rw [← h9] at yM h0 ⊢
  clear h9
  have d0 : (M2 != 0) = true := by simpa using h0
  have HM := Lib.hid yM
  clear yM h0
  obtain ⟨A1, c1, A2, c2, A3, c3, rfl⟩ := kilnForm hk
  have HK := Lib.hid hk
  clear hk
  go_enter Tryz.func55, Tryz.ntmps55
  obtain ⟨bk, br, -, HB⟩ := two_new' w (.cells #[.int .i64 k.room, .int .i64 k.per, .slice A1 k.ls.length c1, .slice A2 k.ds.length c2, .slice A3 k.ws.length c3] 26) (.cells #[.slice none 0 0, .int .i64 0] 85)
  have cbk0 := Joins.cell_of_block bk 0
  have cbk1 := Joins.cell_of_block bk 1
  have cbk2 := Joins.cell_of_block bk 2
  have cbk3 := Joins.cell_of_block bk 3
  have cbk4 := Joins.cell_of_block bk 4
  have zbk := size_of_block bk
  go_wp2_with fail
  generalize ((w.alloc (.cells #[.int .i64 k.room, .int .i64 k.per, .slice A1 k.ls.length c1, .slice A2 k.ds.length c2, .slice A3 k.ws.length c3] 26)).alloc (.cells #[.slice none 0 0, .int .i64 0] 85)) = w1 at bk br HB cbk0 cbk1 cbk2 cbk3 cbk4 zbk ⊢
  have hB := HB
  clear HB
  refine (HM.out _ w1 (HK.out.later hB)).mono ?_
  rintro e w2 ⟨rfl, hF⟩
  clear cbk0 cbk1 cbk2 cbk3 cbk4 zbk
  replace bk := (hF.block _ (size_of_block bk)).trans bk
  replace br := (hF.block _ (size_of_block br)).trans br
  replace hB := below_then hB hF
  clear hF
  have HPP := Lib.hid (fun j : Nat => cell_setRow_same w2 (w.heap.size + 1) j _ #[.slice none 0 0, .int .i64 M2] _ _ br)
  have HBF := Lib.hid (below_setRow hB (show w.heap.size ≤ w.heap.size + 1 by omega) #[.slice none 0 0, .int .i64 M2])
  go_wp2_with (first | (refine wpList_store_rowTo rfl 85 _ _ rfl rfl (w.heap.size + 1) #[.slice none 0 0, .int .i64 M2] rfl rfl 85 _ br (by kernel_rfl) rfl (by kernel_rfl) ?_))
  all_goals (try (exfalso; omega))
  refine bodyPost_ret (v := .agg #[.slice none 0 0, .int .i64 M2]) ?_ rfl ⟨_, rfl, by rw [HNL.out]; exact World.ownsRow_nil _ _ _ _, HBF.out⟩
  simp [results, Tryz.results55, go_sem, HPP.out]
set_option maxRecDepth 100000 in
set_option maxHeartbeats 12000000 in
theorem rRests_ok (k : Kl) (v : Value) (fr tu : Int) (w : World) (hk : Kiln w v k) (h0 : (mostE k fr tu).2 = 0) : Calls Tryz.prog 55 #[v, .int .i64 fr, .int .i64 tu] w fun e w' => ∃ u, e = .returned (.agg #[u, .int .i64 (mostE k fr tu).2]) ∧ w'.ownsRow w.heap.size 3 1 u (restsL k fr tu).length ((restsL k fr tu).map (Value.int .i64)) ∧ Below w.heap.size w w' := by
  rw [h0]
  have HL9 : restsL k fr tu = putL k (otherB k fr tu) k.ws.length := by unfold restsL; rw [if_pos h0]; rfl
  obtain ⟨PF, hPF⟩ : ∃ f : Nat → List Int, f = putL k (otherB k fr tu) := ⟨_, rfl⟩
  have HZ := Lib.hid (show PF 0 = [] by rw [hPF]; exact put_zero _ _)
  have HSN := Lib.hid (show ∀ (j : Nat) x, k.ws[j]? = some x → PF (j + 1) = if (otherB k fr tu) (lessK k [x.id]) = true then putI (PF j) x.id else PF j from fun j x hx => by rw [hPF]; exact put_snoc hx)
  have HLN := Lib.hid (show ∀ j, (PF j).length ≤ j from fun j => by rw [hPF]; exact put_len _ _ _)
  have HF9 := Lib.hid (show restsL k fr tu = PF k.ws.length by rw [hPF]; exact HL9)
  clear hPF HL9
  obtain ⟨r1, r2, r3, r4, r5, r6⟩ := most_rng h0
  have hR := right_of_check r1
  have n3 := hR.ws
  have hq : ∀ id, mostE (lessK k [id]) fr tu = (dst (tiesL (lessK k [id])) fr tu, 0) := fun id => by rw [mostE_ok (less_check r1 [id]) r3 r4, if_pos (canB_true.2 (less_can r5 [id]))]
  have HQ := Lib.hid (show ∀ id, otherB k fr tu (lessK k [id]) = ((mostE (lessK k [id]) fr tu).1 != (mostE k fr tu).1) from fun id => by rw [hq id, r6]; unfold otherB; rw [Bool.eq_iff_iff]; simp)
  have yM := fun v W h => rMost_c k v fr tu W h
  rw [h0] at yM
  have HM := Lib.hid yM
  have HN := Lib.hid (fun id v W h => rMost_c (lessK k [id]) v fr tu W h)
  have HW9 := Lib.hid (fun id v vi W h hi => rwithout_c k v vi [id] W h hi (by omega))
  clear yM hq r1 r2 r3 r4 r5 r6 hR h0
  obtain ⟨M1, h9⟩ : ∃ x, x = (mostE k fr tu).1 := ⟨_, rfl⟩
  rw [← h9] at HM HQ
  clear h9
  obtain ⟨A1, c1, A2, c2, A3, c3, rfl⟩ := kilnForm hk
  have HK := Lib.hid hk
  clear hk
  go_enter Tryz.func55, Tryz.ntmps55
  obtain ⟨bk, br, -, HB⟩ := two_new' w (.cells #[.int .i64 k.room, .int .i64 k.per, .slice A1 k.ls.length c1, .slice A2 k.ds.length c2, .slice A3 k.ws.length c3] 26) (.cells #[.slice none 0 0, .int .i64 0] 85)
  have cbk0 := Joins.cell_of_block bk 0
  have cbk1 := Joins.cell_of_block bk 1
  have cbk2 := Joins.cell_of_block bk 2
  have cbk3 := Joins.cell_of_block bk 3
  have cbk4 := Joins.cell_of_block bk 4
  have zbk := size_of_block bk
  go_wp2_with fail
  generalize ((w.alloc (.cells #[.int .i64 k.room, .int .i64 k.per, .slice A1 k.ls.length c1, .slice A2 k.ds.length c2, .slice A3 k.ws.length c3] 26)).alloc (.cells #[.slice none 0 0, .int .i64 0] 85)) = w1 at bk br HB cbk0 cbk1 cbk2 cbk3 cbk4 zbk ⊢
  have hB := HB
  clear HB
  refine (HM.out _ w1 (HK.out.later hB)).mono ?_
  rintro e w2 ⟨rfl, hF⟩
  clear cbk0 cbk1 cbk2 cbk3 cbk4 zbk
  replace bk := (hF.block _ (size_of_block bk)).trans bk
  replace br := (hF.block _ (size_of_block br)).trans br
  replace hB := below_then hB hF
  clear hF
  have hbr0 := size_of_block br
  have bo0 := heap_alloc_new w2 (.cells #[.slice none 0 0, .int .i64 0] 85)
  have HB := below_alloc w2 (.cells #[.slice none 0 0, .int .i64 0] 85)
  go_wp2_with fail
  all_goals (try (exfalso; omega))
  generalize w2.alloc _ = wA at bo0 HB ⊢
  replace bk := (HB.block _ (size_of_block bk)).trans bk
  replace br := (HB.block _ (size_of_block br)).trans br
  replace hB := below_then hB HB
  have hob1 : w.heap.size + 1 < w2.heap.size := hbr0
  generalize w2.heap.size = ob at bo0 hob1 ⊢
  clear HB hbr0
  have BK := Lib.hid bk
  have BR := Lib.hid br
  clear bk br
  go_loopw [10] (fun i wr => ∃ (j : Nat) (Av : Option Addr) (cv : Nat), j ≤ k.ws.length ∧ i = .int .i64 j ∧ wr.heap[w.heap.size]? = some (.cells #[.int .i64 k.room, .int .i64 k.per, .slice A1 k.ls.length c1, .slice A2 k.ds.length c2, .slice A3 k.ws.length c3] 26) ∧ wr.heap[w.heap.size + 1]? = some (.cells #[.slice none 0 0, .int .i64 0] 85) ∧ wr.heap[ob]? = some (.cells #[.slice Av (PF j).length cv, .int .i64 0] 85) ∧ wr.ownsRow w.heap.size 3 1 (.slice Av (PF j).length cv) (PF j).length ((PF j).map (Value.int .i64)) ∧ Below w.heap.size w wr) (fun i _ => k.ws.length - (intOf i).toNat)
  case atStart => exact ⟨0, none, 0, Nat.zero_le _, rfl, BK.out, BR.out, by rw [HZ.out]; exact bo0, by rw [HZ.out]; exact World.ownsRow_nil _ _ _ _, hB⟩
  case round =>
    clear bo0 hB BK BR
    obtain ⟨j, Av, cv, hj, rfl, bk, br, bo, hO, hB⟩ := hrel
    by_cases hlt : j < k.ws.length
    · have hkW := HK.out.later hB
      obtain ⟨al, ad, aw, e9, _, _, hw⟩ := hkW
      obtain ⟨rfl, rfl, rfl⟩ : .slice A1 k.ls.length c1 = al ∧ .slice A2 k.ds.length c2 = ad ∧ .slice A3 k.ws.length c3 = aw := by simpa using e9
      obtain ⟨A', c', e8, _, hln, hat⟩ := hw.open_
      obtain ⟨rfl, rfl⟩ : A3 = A' ∧ c3 = c' := by simpa using e8
      obtain ⟨sb, so, x, rfl, -, hx, -, -, -, -, -, -⟩ := hat j hlt
      clear hat hw e8 e9 hln
      have hs9 := HSN.out j x hx
      have HX := Lib.hid hx
      clear hx
      have hl1 := HLN.out j
      obtain ⟨L1, hL1⟩ : ∃ l, l = PF j := ⟨_, rfl⟩
      rw [← hL1] at hO bo hs9 hl1
      clear hL1
      have hq9 := HQ.out x.id
      rw [hq9] at hs9
      obtain ⟨N1, h9⟩ : ∃ z, z = (mostE (lessK k [x.id]) fr tu).1 := ⟨_, rfl⟩
      have yN := fun v W h => HN.out x.id v W h
      rw [← h9] at hs9 yN
      clear h9 hq9
      obtain ⟨N2, h9⟩ : ∃ z, z = (mostE (lessK k [x.id]) fr tu).2 := ⟨_, rfl⟩
      rw [← h9] at yN
      clear h9
      have HN1 := Lib.hid yN
      have HS8 := Lib.hid hs9
      clear yN hs9
      have cbk0 := Joins.cell_of_block bk 0
      have cbk1 := Joins.cell_of_block bk 1
      have cbk2 := Joins.cell_of_block bk 2
      have cbk3 := Joins.cell_of_block bk 3
      have cbk4 := Joins.cell_of_block bk 4
      have zbk := size_of_block bk
      go_wp2_with fail
      clear cbk0 cbk1 cbk2 cbk3 cbk4 zbk
      have hkW := HK.out.later hB
      obtain ⟨al, ad, aw, e9, _, _, hw⟩ := hkW
      obtain ⟨rfl, rfl, rfl⟩ : .slice A1 k.ls.length c1 = al ∧ .slice A2 k.ds.length c2 = ad ∧ .slice (some ⟨sb, so, none⟩) k.ws.length c3 = aw := by simpa using e9
      obtain ⟨A', c', e8, _, hln, hat⟩ := hw.open_
      obtain ⟨rfl, rfl⟩ : (some ⟨sb, so, none⟩ : Option Addr) = A' ∧ c3 = c' := by simpa using e8
      obtain ⟨sb', so', y, hAA, hsb, hy, y0, _, _, _, _, _⟩ := hat j hlt
      obtain ⟨rfl, rfl⟩ : sb = sb' ∧ so = so' := by simpa using hAA
      obtain rfl : x = y := by rw [HX.out] at hy; simpa using hy
      clear hat hw e8 e9 hln hy hAA
      refine wp_region_looseM [3, 9, 10] [0, 1, 2, 4, 5, 6] (.one 7 (.one 8 (.one 11 .done))) [] [12, 13, 14] [15, 16] [] [] (by kernel_rfl) (by kernel_rfl) (by intro c a d v w h; cases d <;> exact h) (by intro c a d v w h; cases d <;> exact h) rfl (fun r i h => by simp at h) ?_
      simp only [pick, List.filterMap_cons, List.filterMap_nil, List.getElem?_toArray, List.getElem?_cons_succ, List.getElem?_cons_zero]
      refine wpPure_step (.int .i64 j) rfl (fun u => by first | rfl | kernel_rfl | simp [execOp, go_sem]) ?_
      refine wpPure_step (.int .i64 fr) rfl (fun u => by first | rfl | kernel_rfl | simp [execOp, go_sem]) ?_
      refine wpPure_step (.int .i64 tu) rfl (fun u => by first | rfl | kernel_rfl | simp [execOp, go_sem]) ?_
      intro u101 hu101
      replace bk := (hu101.block _ (size_of_block bk)).trans bk
      replace br := (hu101.block _ (size_of_block br)).trans br
      replace bo := (hu101.block _ (size_of_block bo)).trans bo
      replace hO := own_later hO hu101
      replace y0 := (hu101.cell (p := ⟨sb, so + j * 6, none⟩) hsb).trans y0
      replace hsb := Nat.lt_of_lt_of_le hsb hu101.size
      replace hB := below_then hB hu101
      have cbk0 := Joins.cell_of_block bk 0
      have cbk1 := Joins.cell_of_block bk 1
      have cbk2 := Joins.cell_of_block bk 2
      have cbk3 := Joins.cell_of_block bk 3
      have cbk4 := Joins.cell_of_block bk 4
      have zbk := size_of_block bk
      have hcg : ∀ (g : Gr u101) b o, b < u101.heap.size → g.val.cell? ⟨b, o, none⟩ = u101.cell? ⟨b, o, none⟩ := fun g b o h => (bcell g.b).1 b o h
      iterate 6 (first | (refine wpRel_step (fun K hK => ?_); go_simp; refine hK _ ?_; clear hK K))
      refine wpRel_nil fun V101_0 hb101 => ?_
      clear hcg cbk0 cbk1 cbk2 cbk3 cbk4 zbk
      replace bk := (hb101.block _ (size_of_block bk)).trans bk
      replace br := (hb101.block _ (size_of_block br)).trans br
      replace bo := (hb101.block _ (size_of_block bo)).trans bo
      replace hO := own_later hO hb101
      replace y0 := (hb101.cell (p := ⟨sb, so + j * 6, none⟩) hsb).trans y0
      replace hsb := Nat.lt_of_lt_of_le hsb hb101.size
      replace hB := below_then hB hb101
      clear hb101 hu101
      refine wpTr_step rfl rfl fun K hK => ?_
      go_simp
      refine hK _ _ (below_alloc _ _) fun V101_1 hu => ?_
      clear hK K
      have hlit := (builtL nC_len V101_0 [x.id] 3 #[.int .i64 x.id] V101_0.heap.size 1 rfl (by simp) rfl rfl).later hu
      have hxu := below_then (below_alloc V101_0 (.cells #[.int .i64 x.id] 3)) hu
      replace bk := (hxu.block _ (size_of_block bk)).trans bk
      replace br := (hxu.block _ (size_of_block br)).trans br
      replace bo := (hxu.block _ (size_of_block bo)).trans bo
      replace hO := own_later hO hxu
      replace y0 := (hxu.cell (p := ⟨sb, so + j * 6, none⟩) hsb).trans y0
      replace hsb := Nat.lt_of_lt_of_le hsb hxu.size
      replace hB := below_then hB hxu
      clear hu hxu
      refine wpTr_step rfl rfl fun K hK => ?_
      go_simp
      refine (HW9.out x.id _ _ V101_1 (HK.out.later hB) hlit).mono ?_
      rintro e X ⟨u8, rfl, hku, hx⟩
      refine hK _ _ hx fun V101_2 hu => ?_
      clear hK K
      replace hku := hku.later hu
      have hxu := below_then hx hu
      replace bk := (hxu.block _ (size_of_block bk)).trans bk
      replace br := (hxu.block _ (size_of_block br)).trans br
      replace bo := (hxu.block _ (size_of_block bo)).trans bo
      replace hlit := hlit.later hxu
      replace hO := own_later hO hxu
      replace y0 := (hxu.cell (p := ⟨sb, so + j * 6, none⟩) hsb).trans y0
      replace hsb := Nat.lt_of_lt_of_le hsb hxu.size
      replace hB := below_then hB hxu
      clear hx hu hxu
      refine wpTr_step rfl rfl fun K hK => ?_
      go_simp
      refine (HN1.out _ V101_2 hku).mono ?_
      rintro e X ⟨rfl, hx⟩
      refine hK _ _ hx fun V101_3 hu => ?_
      clear hK K
      have hxu := below_then hx hu
      replace bk := (hxu.block _ (size_of_block bk)).trans bk
      replace br := (hxu.block _ (size_of_block br)).trans br
      replace bo := (hxu.block _ (size_of_block bo)).trans bo
      replace hlit := hlit.later hxu
      replace hku := hku.later hxu
      replace hO := own_later hO hxu
      replace y0 := (hxu.cell (p := ⟨sb, so + j * 6, none⟩) hsb).trans y0
      replace hsb := Nat.lt_of_lt_of_le hsb hxu.size
      replace hB := below_then hB hxu
      clear hx hu hxu
      show wpPure _ _ _ _
      refine wpPure_step (.tuple #[.int .i64 N1, .int .i64 N2]) rfl (fun u => by first | rfl | simp [execOp, go_sem]) ?_
      refine wpPure_step (.int .i64 N1) rfl (fun u => by first | rfl | simp [execOp, go_sem]) ?_
      refine wpPure_step (.int .i64 N2) rfl (fun u => by first | rfl | simp [execOp, go_sem]) ?_
      intro ks hks _ _
      obtain rfl : ks = [] := List.length_eq_zero_iff.1 hks
      clear hks
      show wpList _ _ _ _ _ _
      simp only [deco]
      clear hlit hku y0 hsb
      rcases Bool.eq_false_or_eq_true (N1 != M1) with hbb | hbb
      · rw [hbb] at HS8
        have HN2 := Lib.hid (HS8.out.trans (if_pos rfl))
        go_wp2_with fail
        all_goals (try (exfalso; omega))
        have hkW := HK.out.later hB
        obtain ⟨al, ad, aw, e9, _, _, hw⟩ := hkW
        obtain ⟨rfl, rfl, rfl⟩ : .slice A1 k.ls.length c1 = al ∧ .slice A2 k.ds.length c2 = ad ∧ .slice (some ⟨sb, so, none⟩) k.ws.length c3 = aw := by simpa using e9
        obtain ⟨A', c', e8, _, hln, hat⟩ := hw.open_
        obtain ⟨rfl, rfl⟩ : (some ⟨sb, so, none⟩ : Option Addr) = A' ∧ c3 = c' := by simpa using e8
        obtain ⟨sb', so', y, hAA, hsb, hy, y0, _, _, _, _, _⟩ := hat j hlt
        obtain ⟨rfl, rfl⟩ : sb = sb' ∧ so = so' := by simpa using hAA
        obtain rfl : x = y := by rw [HX.out] at hy; simpa using hy
        clear hat hw e8 e9 hln hy hAA
        refine wp_region_looseM [4] [0, 1, 2, 3, 5, 6, 7] (.one 8 .done) [] [] [9, 10] [] [] (by kernel_rfl) (by kernel_rfl) (by intro c a d v w h; cases d <;> exact h) (by intro c a d v w h; cases d <;> exact h) rfl (fun r i h => by simp at h) ?_
        simp only [pick, List.filterMap_cons, List.filterMap_nil, List.getElem?_toArray, List.getElem?_cons_succ, List.getElem?_cons_zero]
        refine wpPure_step (.int .i64 j) rfl (fun u => by first | rfl | kernel_rfl | simp [execOp, go_sem]) ?_
        intro u102 hu102
        replace bk := (hu102.block _ (size_of_block bk)).trans bk
        replace br := (hu102.block _ (size_of_block br)).trans br
        replace bo := (hu102.block _ (size_of_block bo)).trans bo
        replace hO := own_later hO hu102
        replace y0 := (hu102.cell (p := ⟨sb, so + j * 6, none⟩) hsb).trans y0
        replace hsb := Nat.lt_of_lt_of_le hsb hu102.size
        replace hB := below_then hB hu102
        have cbk0 := Joins.cell_of_block bk 0
        have cbk1 := Joins.cell_of_block bk 1
        have cbk2 := Joins.cell_of_block bk 2
        have cbk3 := Joins.cell_of_block bk 3
        have cbk4 := Joins.cell_of_block bk 4
        have zbk := size_of_block bk
        have cbo0 := Joins.cell_of_block bo 0
        have cbo1 := Joins.cell_of_block bo 1
        have zbo := size_of_block bo
        have hcg : ∀ (g : Gr u102) b o, b < u102.heap.size → g.val.cell? ⟨b, o, none⟩ = u102.cell? ⟨b, o, none⟩ := fun g b o h => (bcell g.b).1 b o h
        iterate 7 (first | (refine wpRel_step (fun K hK => ?_); go_simp; refine hK _ ?_; clear hK K))
        refine wpRel_nil fun V102_0 hb102 => ?_
        clear hcg cbk0 cbk1 cbk2 cbk3 cbk4 zbk cbo0 cbo1 zbo
        replace bk := (hb102.block _ (size_of_block bk)).trans bk
        replace br := (hb102.block _ (size_of_block br)).trans br
        replace bo := (hb102.block _ (size_of_block bo)).trans bo
        replace hO := own_later hO hb102
        replace y0 := (hb102.cell (p := ⟨sb, so + j * 6, none⟩) hsb).trans y0
        replace hsb := Nat.lt_of_lt_of_le hsb hb102.size
        replace hB := below_then hB hb102
        clear hb102 hu102
        refine wpTr_step rfl rfl fun K hK => ?_
        go_simp
        have hBs := hB.size
        refine (rput_c _ L1 x.id w.heap.size V102_0 hO (by omega)).mono ?_
        rintro e X ⟨u9, rfl, hO9, hx⟩
        refine hK _ _ hx fun V102_1 hu => ?_
        clear hK K
        replace hO9 := own_later hO9 hu
        have hxu := below_then hx hu
        replace bk := (hxu.block _ (size_of_block bk)).trans bk
        replace br := (hxu.block _ (size_of_block br)).trans br
        replace bo := (hxu.block _ (size_of_block bo)).trans bo
        replace hO := own_later hO hxu
        replace y0 := (hxu.cell (p := ⟨sb, so + j * 6, none⟩) hsb).trans y0
        replace hsb := Nat.lt_of_lt_of_le hsb hxu.size
        replace hB := below_then hB hxu
        clear hx hu hxu
        show wpPure _ _ _ _
        intro ks hks _ _
        obtain rfl : ks = [] := List.length_eq_zero_iff.1 hks
        clear hks
        show wpList _ _ _ _ _ _
        simp only [deco]
        clear y0 hsb hO
        obtain ⟨B9, b9, rfl⟩ := own_form hO9
        skip
        have f4 := Joins.unfrozen_of_block bo 0
        have s4 := Joins.cell_of_block bo 0
        have zo4 := size_of_block bo
        go_wp2_with fail
        replace bk := (put_other (i := 0) (.slice B9 (putI L1 x.id).length b9) (show w.heap.size ≠ ob by omega)).trans bk
        replace br := (put_other (i := 0) (.slice B9 (putI L1 x.id).length b9) (show w.heap.size + 1 ≠ ob by omega)).trans br
        have hO := own_setCell hO9 0 (.slice B9 (putI L1 x.id).length b9) (own_ne_block hO9 bo (by decide))
        replace hB := below_set (i := 0) (v := .slice B9 (putI L1 x.id).length b9) hB (show w.heap.size ≤ ob by omega)
        replace bo := Joins.block_setCell (i := 0) bo (.slice B9 (putI L1 x.id).length b9)
        go_roundw
        case rel => exact ⟨j + 1, B9, b9, by omega, by go_num, bk, br, by rw [HN2.out]; simpa using bo, by rw [HN2.out]; exact own_less hO hBs, hB⟩
        case measure => simp [intOf]; omega
        skip
      · rw [hbb] at HS8
        have HN2 := Lib.hid (HS8.out.trans (if_neg Bool.false_ne_true))
        go_wp2_with fail
        go_roundw
        case rel => exact ⟨j + 1, Av, cv, by omega, by go_num, bk, br, by rw [HN2.out]; exact bo, by rw [HN2.out]; exact hO, hB⟩
        case measure => simp [intOf]; omega
    · obtain rfl : j = k.ws.length := by omega
      rw [← HF9.out] at hO bo
      obtain ⟨S9, hS9⟩ : ∃ l, l = restsL k fr tu := ⟨_, rfl⟩
      rw [← hS9] at hO bo
      have HS9 := Lib.hid hS9
      clear hS9 HF9
      have cbk0 := Joins.cell_of_block bk 0
      have cbk1 := Joins.cell_of_block bk 1
      have cbk2 := Joins.cell_of_block bk 2
      have cbk3 := Joins.cell_of_block bk 3
      have cbk4 := Joins.cell_of_block bk 4
      have zbk := size_of_block bk
      have cbo0 := Joins.cell_of_block bo 0
      have cbo1 := Joins.cell_of_block bo 1
      have zbo := size_of_block bo
      have HPP := Lib.hid (fun j : Nat => cell_setRow_same wr (w.heap.size + 1) j _ #[.slice Av S9.length cv, .int .i64 0] _ _ br)
      have HBF := Lib.hid (below_setRow hB (show w.heap.size ≤ w.heap.size + 1 by omega) #[.slice Av S9.length cv, .int .i64 0])
      have HO9 := Lib.hid (own_setRowX hO br (by decide) #[.slice Av S9.length cv, .int .i64 0])
      clear hO
      go_wp2_with (first | (refine wpList_store_rowTo rfl 85 _ _ rfl rfl (w.heap.size + 1) #[.slice Av S9.length cv, .int .i64 0] rfl rfl 85 _ br (by kernel_rfl) rfl (by kernel_rfl) ?_))
      all_goals (try (exfalso; omega))
      refine bodyPost_ret (v := .agg #[.slice Av S9.length cv, .int .i64 0]) ?_ rfl ⟨.slice Av S9.length cv, rfl, by have h9 := HO9.out; rw [HS9.out] at h9 ⊢; exact h9, HBF.out⟩
      simp [results, Tryz.results55, go_sem, HPP.out]
theorem rRests_c (k : Kl) (v : Value) (fr tu : Int) (w : World) (hk : Kiln w v k) : Calls Tryz.prog 55 #[v, .int .i64 fr, .int .i64 tu] w fun e w' => ∃ u, e = .returned (.agg #[u, .int .i64 (mostE k fr tu).2]) ∧ w'.ownsRow w.heap.size 3 1 u (restsL k fr tu).length ((restsL k fr tu).map (Value.int .i64)) ∧ Below w.heap.size w w' := by
  by_cases h0 : (mostE k fr tu).2 = 0
  · exact rRests_ok k v fr tu w hk h0
  · exact rRests_err k v fr tu w hk h0
set_option maxRecDepth 100000 in
set_option maxHeartbeats 4000000 in
theorem rSuspects_bad (k : Kl) (v : Value) (w : World) (hk : Kiln w v k) (hc : checkI k ≠ 0) : Calls Tryz.prog 57 #[v] w fun e w' => ∃ u, e = .returned (.agg #[u, .int .i64 (checkI k)]) ∧ w'.ownsRow w.heap.size 3 1 u (suspE k).length ((suspE k).map (Value.int .i64)) ∧ Below w.heap.size w w' := by
  have HNL := Lib.hid (show suspE k = [] by unfold suspE; rw [if_neg (fun h => hc h.1)])
  have d0 : (checkI k != 0) = true := by simpa using hc
  clear hc
  obtain ⟨A1, c1, A2, c2, A3, c3, rfl⟩ := kilnForm hk
  have HK := Lib.hid hk
  clear hk
  go_enter Tryz.func57, Tryz.ntmps57
  obtain ⟨bk, br, -, HB⟩ := two_new' w (.cells #[.int .i64 k.room, .int .i64 k.per, .slice A1 k.ls.length c1, .slice A2 k.ds.length c2, .slice A3 k.ws.length c3] 26) (.cells #[.slice none 0 0, .int .i64 0] 85)
  have cbk0 := Joins.cell_of_block bk 0
  have cbk1 := Joins.cell_of_block bk 1
  have cbk2 := Joins.cell_of_block bk 2
  have cbk3 := Joins.cell_of_block bk 3
  have cbk4 := Joins.cell_of_block bk 4
  have zbk := size_of_block bk
  go_wp2_with fail
  generalize ((w.alloc (.cells #[.int .i64 k.room, .int .i64 k.per, .slice A1 k.ls.length c1, .slice A2 k.ds.length c2, .slice A3 k.ws.length c3] 26)).alloc (.cells #[.slice none 0 0, .int .i64 0] 85)) = w1 at bk br HB cbk0 cbk1 cbk2 cbk3 cbk4 zbk ⊢
  have hB := HB
  clear HB
  refine (rcheck_c k _ w1 (HK.out.later hB)).mono ?_
  rintro e w2 ⟨rfl, hF⟩
  clear cbk0 cbk1 cbk2 cbk3 cbk4 zbk
  replace bk := (hF.block _ (size_of_block bk)).trans bk
  replace br := (hF.block _ (size_of_block br)).trans br
  replace hB := below_then hB hF
  clear hF
  have HPP := Lib.hid (fun j : Nat => cell_setRow_same w2 (w.heap.size + 1) j _ #[.slice none 0 0, .int .i64 (checkI k)] _ _ br)
  have HBF := Lib.hid (below_setRow hB (show w.heap.size ≤ w.heap.size + 1 by omega) #[.slice none 0 0, .int .i64 (checkI k)])
  go_wp2_with (first | (refine wpList_store_rowTo rfl 85 _ _ rfl rfl (w.heap.size + 1) #[.slice none 0 0, .int .i64 (checkI k)] rfl rfl 85 _ br (by kernel_rfl) rfl (by kernel_rfl) ?_))
  all_goals (try (exfalso; omega))
  refine bodyPost_ret (v := .agg #[.slice none 0 0, .int .i64 (checkI k)]) ?_ rfl ⟨_, rfl, by rw [HNL.out]; exact World.ownsRow_nil _ _ _ _, HBF.out⟩
  simp [results, Tryz.results57, go_sem, HPP.out]
set_option maxRecDepth 100000 in
set_option maxHeartbeats 4000000 in
theorem rSuspects_can (k : Kl) (v : Value) (w : World) (hk : Kiln w v k) (hc : checkI k = 0) (hcan : canB (tiesL k) = true) : Calls Tryz.prog 57 #[v] w fun e w' => ∃ u, e = .returned (.agg #[u, .int .i64 (checkI k)]) ∧ w'.ownsRow w.heap.size 3 1 u (suspE k).length ((suspE k).map (Value.int .i64)) ∧ Below w.heap.size w w' := by
  rw [hc]
  have HNL := Lib.hid (show suspE k = [] by unfold suspE; rw [if_neg (fun h => by rw [hcan] at h; cases h.2)])
  have hR := right_of_check hc
  have yN := fun v W h => rCan_c k v W h hR
  rw [hcan] at yN
  have YN := Lib.hid yN
  clear yN hR hcan
  obtain ⟨A1, c1, A2, c2, A3, c3, rfl⟩ := kilnForm hk
  have HK := Lib.hid hk
  clear hk
  go_enter Tryz.func57, Tryz.ntmps57
  obtain ⟨bk, br, -, HB⟩ := two_new' w (.cells #[.int .i64 k.room, .int .i64 k.per, .slice A1 k.ls.length c1, .slice A2 k.ds.length c2, .slice A3 k.ws.length c3] 26) (.cells #[.slice none 0 0, .int .i64 0] 85)
  have cbk0 := Joins.cell_of_block bk 0
  have cbk1 := Joins.cell_of_block bk 1
  have cbk2 := Joins.cell_of_block bk 2
  have cbk3 := Joins.cell_of_block bk 3
  have cbk4 := Joins.cell_of_block bk 4
  have zbk := size_of_block bk
  go_wp2_with fail
  generalize ((w.alloc (.cells #[.int .i64 k.room, .int .i64 k.per, .slice A1 k.ls.length c1, .slice A2 k.ds.length c2, .slice A3 k.ws.length c3] 26)).alloc (.cells #[.slice none 0 0, .int .i64 0] 85)) = w1 at bk br HB cbk0 cbk1 cbk2 cbk3 cbk4 zbk ⊢
  have hB := HB
  clear HB
  refine (rcheck_c k _ w1 (HK.out.later hB)).mono ?_
  rintro e w2 ⟨rfl, hF⟩
  clear cbk0 cbk1 cbk2 cbk3 cbk4 zbk
  replace bk := (hF.block _ (size_of_block bk)).trans bk
  replace br := (hF.block _ (size_of_block br)).trans br
  replace hB := below_then hB hF
  clear hF
  rw [hc]
  clear hc
  have bo := heap_alloc_new w2 (.cells #[.slice none 0 0, .int .i64 0] 85)
  have HB := below_alloc w2 (.cells #[.slice none 0 0, .int .i64 0] 85)
  have cbk0 := Joins.cell_of_block ((HB.block _ (size_of_block bk)).trans bk) 0
  have cbk1 := Joins.cell_of_block ((HB.block _ (size_of_block bk)).trans bk) 1
  have cbk2 := Joins.cell_of_block ((HB.block _ (size_of_block bk)).trans bk) 2
  have cbk3 := Joins.cell_of_block ((HB.block _ (size_of_block bk)).trans bk) 3
  have cbk4 := Joins.cell_of_block ((HB.block _ (size_of_block bk)).trans bk) 4
  have zbk := size_of_block bk
  go_wp2_with fail
  generalize (w2.alloc (.cells #[.slice none 0 0, .int .i64 0] 85)) = w3 at bo HB cbk0 cbk1 cbk2 cbk3 cbk4 ⊢
  replace bk := (HB.block _ (size_of_block bk)).trans bk
  replace br := (HB.block _ (size_of_block br)).trans br
  replace hB := below_then hB HB
  clear HB
  refine (YN.out _ w3 (HK.out.later hB)).mono ?_
  rintro e w4 ⟨rfl, hF⟩
  clear cbk0 cbk1 cbk2 cbk3 cbk4 zbk
  replace bk := (hF.block _ (size_of_block bk)).trans bk
  replace br := (hF.block _ (size_of_block br)).trans br
  replace bo := (hF.block _ (size_of_block bo)).trans bo
  replace hB := below_then hB hF
  clear hF
  have cbo0 := Joins.cell_of_block bo 0
  have cbo1 := Joins.cell_of_block bo 1
  have zbo := size_of_block bo
  have HPP := Lib.hid (fun j : Nat => cell_setRow_same w4 (w.heap.size + 1) j _ #[.slice none 0 0, .int .i64 0] _ _ br)
  have HBF := Lib.hid (below_setRow hB (show w.heap.size ≤ w.heap.size + 1 by omega) #[.slice none 0 0, .int .i64 0])
  go_wp2_with (first | (refine wpList_store_rowTo rfl 85 _ _ rfl rfl (w.heap.size + 1) #[.slice none 0 0, .int .i64 0] rfl rfl 85 _ br (by kernel_rfl) rfl (by kernel_rfl) ?_))
  all_goals (try (exfalso; omega))
  refine bodyPost_ret (v := .agg #[.slice none 0 0, .int .i64 0]) ?_ rfl ⟨_, rfl, by rw [HNL.out]; exact World.ownsRow_nil _ _ _ _, HBF.out⟩
  simp [results, Tryz.results57, go_sem, HPP.out]
set_option maxRecDepth 100000 in
set_option maxHeartbeats 12000000 in
theorem rSuspects_go (k : Kl) (v : Value) (w : World) (hk : Kiln w v k) (hc : checkI k = 0) (hcan : canB (tiesL k) = false) : Calls Tryz.prog 57 #[v] w fun e w' => ∃ u, e = .returned (.agg #[u, .int .i64 (checkI k)]) ∧ w'.ownsRow w.heap.size 3 1 u (suspE k).length ((suspE k).map (Value.int .i64)) ∧ Below w.heap.size w w' := by
  rw [hc]
  have HL9 : suspE k = putL k (fun k' => canB (tiesL k')) k.ws.length := by unfold suspE; rw [if_pos ⟨hc, hcan⟩]; rfl
  obtain ⟨PF, hPF⟩ : ∃ f : Nat → List Int, f = putL k (fun k' => canB (tiesL k')) := ⟨_, rfl⟩
  have HZ := Lib.hid (show PF 0 = [] by rw [hPF]; exact put_zero _ _)
  have HSN := Lib.hid (show ∀ (j : Nat) x, k.ws[j]? = some x → PF (j + 1) = if (fun k' => canB (tiesL k')) (lessK k [x.id]) = true then putI (PF j) x.id else PF j from fun j x hx => by rw [hPF]; exact put_snoc hx)
  have HLN := Lib.hid (show ∀ j, (PF j).length ≤ j from fun j => by rw [hPF]; exact put_len _ _ _)
  have HF9 := Lib.hid (show suspE k = PF k.ws.length by rw [hPF]; exact HL9)
  clear hPF HL9
  have hR := right_of_check hc
  have n3 := hR.ws
  have yN := fun v W h => rCan_c k v W h hR
  rw [hcan] at yN
  have YN := Lib.hid yN
  have HN := Lib.hid (fun id v W h => rCan_c (lessK k [id]) v W h (less_right hR [id]))
  have HW9 := Lib.hid (fun id v vi W h hi => rwithout_c k v vi [id] W h hi (by omega))
  clear yN hR hcan
  obtain ⟨A1, c1, A2, c2, A3, c3, rfl⟩ := kilnForm hk
  have HK := Lib.hid hk
  clear hk
  go_enter Tryz.func57, Tryz.ntmps57
  obtain ⟨bk, br, -, HB⟩ := two_new' w (.cells #[.int .i64 k.room, .int .i64 k.per, .slice A1 k.ls.length c1, .slice A2 k.ds.length c2, .slice A3 k.ws.length c3] 26) (.cells #[.slice none 0 0, .int .i64 0] 85)
  have cbk0 := Joins.cell_of_block bk 0
  have cbk1 := Joins.cell_of_block bk 1
  have cbk2 := Joins.cell_of_block bk 2
  have cbk3 := Joins.cell_of_block bk 3
  have cbk4 := Joins.cell_of_block bk 4
  have zbk := size_of_block bk
  go_wp2_with fail
  generalize ((w.alloc (.cells #[.int .i64 k.room, .int .i64 k.per, .slice A1 k.ls.length c1, .slice A2 k.ds.length c2, .slice A3 k.ws.length c3] 26)).alloc (.cells #[.slice none 0 0, .int .i64 0] 85)) = w1 at bk br HB cbk0 cbk1 cbk2 cbk3 cbk4 zbk ⊢
  have hB := HB
  clear HB
  refine (rcheck_c k _ w1 (HK.out.later hB)).mono ?_
  rintro e w2 ⟨rfl, hF⟩
  clear cbk0 cbk1 cbk2 cbk3 cbk4 zbk
  replace bk := (hF.block _ (size_of_block bk)).trans bk
  replace br := (hF.block _ (size_of_block br)).trans br
  replace hB := below_then hB hF
  clear hF
  rw [hc]
  clear hc
  have hbr0 := size_of_block br
  have bo0 := heap_alloc_new w2 (.cells #[.slice none 0 0, .int .i64 0] 85)
  have HB := below_alloc w2 (.cells #[.slice none 0 0, .int .i64 0] 85)
  skip
  have cbk0 := Joins.cell_of_block ((HB.block _ (size_of_block bk)).trans bk) 0
  have cbk1 := Joins.cell_of_block ((HB.block _ (size_of_block bk)).trans bk) 1
  have cbk2 := Joins.cell_of_block ((HB.block _ (size_of_block bk)).trans bk) 2
  have cbk3 := Joins.cell_of_block ((HB.block _ (size_of_block bk)).trans bk) 3
  have cbk4 := Joins.cell_of_block ((HB.block _ (size_of_block bk)).trans bk) 4
  have zbk := size_of_block bk
  go_wp2_with fail
  clear cbk0 cbk1 cbk2 cbk3 cbk4 zbk
  generalize w2.alloc _ = wA at bo0 HB ⊢
  replace bk := (HB.block _ (size_of_block bk)).trans bk
  replace br := (HB.block _ (size_of_block br)).trans br
  replace hB := below_then hB HB
  have hob1 : w.heap.size + 1 < w2.heap.size := hbr0
  generalize w2.heap.size = ob at bo0 hob1 ⊢
  clear HB hbr0
  refine (YN.out _ wA (HK.out.later hB)).mono ?_
  rintro e wB ⟨rfl, hF⟩
  replace bo0 := (hF.block _ (size_of_block bo0)).trans bo0
  replace bk := (hF.block _ (size_of_block bk)).trans bk
  replace br := (hF.block _ (size_of_block br)).trans br
  replace hB := below_then hB hF
  clear hF
  go_wp2_with fail
  have BK := Lib.hid bk
  have BR := Lib.hid br
  clear bk br
  go_loopw [6] (fun i wr => ∃ (j : Nat) (Av : Option Addr) (cv : Nat), j ≤ k.ws.length ∧ i = .int .i64 j ∧ wr.heap[w.heap.size]? = some (.cells #[.int .i64 k.room, .int .i64 k.per, .slice A1 k.ls.length c1, .slice A2 k.ds.length c2, .slice A3 k.ws.length c3] 26) ∧ wr.heap[w.heap.size + 1]? = some (.cells #[.slice none 0 0, .int .i64 0] 85) ∧ wr.heap[ob]? = some (.cells #[.slice Av (PF j).length cv, .int .i64 0] 85) ∧ wr.ownsRow w.heap.size 3 1 (.slice Av (PF j).length cv) (PF j).length ((PF j).map (Value.int .i64)) ∧ Below w.heap.size w wr) (fun i _ => k.ws.length - (intOf i).toNat)
  case atStart => exact ⟨0, none, 0, Nat.zero_le _, rfl, BK.out, BR.out, by rw [HZ.out]; exact bo0, by rw [HZ.out]; exact World.ownsRow_nil _ _ _ _, hB⟩
  case round =>
    clear bo0 hB BK BR
    obtain ⟨j, Av, cv, hj, rfl, bk, br, bo, hO, hB⟩ := hrel
    by_cases hlt : j < k.ws.length
    · have hkW := HK.out.later hB
      obtain ⟨al, ad, aw, e9, _, _, hw⟩ := hkW
      obtain ⟨rfl, rfl, rfl⟩ : .slice A1 k.ls.length c1 = al ∧ .slice A2 k.ds.length c2 = ad ∧ .slice A3 k.ws.length c3 = aw := by simpa using e9
      obtain ⟨A', c', e8, _, hln, hat⟩ := hw.open_
      obtain ⟨rfl, rfl⟩ : A3 = A' ∧ c3 = c' := by simpa using e8
      obtain ⟨sb, so, x, rfl, -, hx, -, -, -, -, -, -⟩ := hat j hlt
      clear hat hw e8 e9 hln
      have hs9 := HSN.out j x hx
      have HX := Lib.hid hx
      clear hx
      have hl1 := HLN.out j
      obtain ⟨L1, hL1⟩ : ∃ l, l = PF j := ⟨_, rfl⟩
      rw [← hL1] at hO bo hs9 hl1
      clear hL1
      have yN := fun v W h => HN.out x.id v W h
      have hs8 : PF (j + 1) = if canB (tiesL (lessK k [x.id])) = true then putI L1 x.id else L1 := hs9
      clear hs9
      obtain ⟨cb, h9⟩ : ∃ z, z = canB (tiesL (lessK k [x.id])) := ⟨_, rfl⟩
      rw [← h9] at hs8 yN
      clear h9
      have HN1 := Lib.hid yN
      have HS8 := Lib.hid hs8
      clear yN hs8
      have cbk0 := Joins.cell_of_block bk 0
      have cbk1 := Joins.cell_of_block bk 1
      have cbk2 := Joins.cell_of_block bk 2
      have cbk3 := Joins.cell_of_block bk 3
      have cbk4 := Joins.cell_of_block bk 4
      have zbk := size_of_block bk
      go_wp2_with fail
      clear cbk0 cbk1 cbk2 cbk3 cbk4 zbk
      have hkW := HK.out.later hB
      obtain ⟨al, ad, aw, e9, _, _, hw⟩ := hkW
      obtain ⟨rfl, rfl, rfl⟩ : .slice A1 k.ls.length c1 = al ∧ .slice A2 k.ds.length c2 = ad ∧ .slice (some ⟨sb, so, none⟩) k.ws.length c3 = aw := by simpa using e9
      obtain ⟨A', c', e8, _, hln, hat⟩ := hw.open_
      obtain ⟨rfl, rfl⟩ : (some ⟨sb, so, none⟩ : Option Addr) = A' ∧ c3 = c' := by simpa using e8
      obtain ⟨sb', so', y, hAA, hsb, hy, y0, _, _, _, _, _⟩ := hat j hlt
      obtain ⟨rfl, rfl⟩ : sb = sb' ∧ so = so' := by simpa using hAA
      obtain rfl : x = y := by rw [HX.out] at hy; simpa using hy
      clear hat hw e8 e9 hln hy hAA
      refine wp_region_looseM [3] [0, 1, 2, 4, 5, 6] (.one 7 (.one 8 (.one 9 .done))) [] [] [10] [] [] (by kernel_rfl) (by kernel_rfl) (by intro c a d v w h; cases d <;> exact h) (by intro c a d v w h; cases d <;> exact h) rfl (fun r i h => by simp at h) ?_
      simp only [pick, List.filterMap_cons, List.filterMap_nil, List.getElem?_toArray, List.getElem?_cons_succ, List.getElem?_cons_zero]
      refine wpPure_step (.int .i64 j) rfl (fun u => by first | rfl | kernel_rfl | simp [execOp, go_sem]) ?_
      intro u101 hu101
      replace bk := (hu101.block _ (size_of_block bk)).trans bk
      replace br := (hu101.block _ (size_of_block br)).trans br
      replace bo := (hu101.block _ (size_of_block bo)).trans bo
      replace hO := own_later hO hu101
      replace y0 := (hu101.cell (p := ⟨sb, so + j * 6, none⟩) hsb).trans y0
      replace hsb := Nat.lt_of_lt_of_le hsb hu101.size
      replace hB := below_then hB hu101
      have cbk0 := Joins.cell_of_block bk 0
      have cbk1 := Joins.cell_of_block bk 1
      have cbk2 := Joins.cell_of_block bk 2
      have cbk3 := Joins.cell_of_block bk 3
      have cbk4 := Joins.cell_of_block bk 4
      have zbk := size_of_block bk
      have hcg : ∀ (g : Gr u101) b o, b < u101.heap.size → g.val.cell? ⟨b, o, none⟩ = u101.cell? ⟨b, o, none⟩ := fun g b o h => (bcell g.b).1 b o h
      iterate 6 (first | (refine wpRel_step (fun K hK => ?_); go_simp; refine hK _ ?_; clear hK K))
      refine wpRel_nil fun V101_0 hb101 => ?_
      clear hcg cbk0 cbk1 cbk2 cbk3 cbk4 zbk
      replace bk := (hb101.block _ (size_of_block bk)).trans bk
      replace br := (hb101.block _ (size_of_block br)).trans br
      replace bo := (hb101.block _ (size_of_block bo)).trans bo
      replace hO := own_later hO hb101
      replace y0 := (hb101.cell (p := ⟨sb, so + j * 6, none⟩) hsb).trans y0
      replace hsb := Nat.lt_of_lt_of_le hsb hb101.size
      replace hB := below_then hB hb101
      clear hb101 hu101
      refine wpTr_step rfl rfl fun K hK => ?_
      go_simp
      refine hK _ _ (below_alloc _ _) fun V101_1 hu => ?_
      clear hK K
      have hlit := (builtL nC_len V101_0 [x.id] 3 #[.int .i64 x.id] V101_0.heap.size 1 rfl (by simp) rfl rfl).later hu
      have hxu := below_then (below_alloc V101_0 (.cells #[.int .i64 x.id] 3)) hu
      replace bk := (hxu.block _ (size_of_block bk)).trans bk
      replace br := (hxu.block _ (size_of_block br)).trans br
      replace bo := (hxu.block _ (size_of_block bo)).trans bo
      replace hO := own_later hO hxu
      replace y0 := (hxu.cell (p := ⟨sb, so + j * 6, none⟩) hsb).trans y0
      replace hsb := Nat.lt_of_lt_of_le hsb hxu.size
      replace hB := below_then hB hxu
      clear hu hxu
      refine wpTr_step rfl rfl fun K hK => ?_
      go_simp
      refine (HW9.out x.id _ _ V101_1 (HK.out.later hB) hlit).mono ?_
      rintro e X ⟨u8, rfl, hku, hx⟩
      refine hK _ _ hx fun V101_2 hu => ?_
      clear hK K
      replace hku := hku.later hu
      have hxu := below_then hx hu
      replace bk := (hxu.block _ (size_of_block bk)).trans bk
      replace br := (hxu.block _ (size_of_block br)).trans br
      replace bo := (hxu.block _ (size_of_block bo)).trans bo
      replace hlit := hlit.later hxu
      replace hO := own_later hO hxu
      replace y0 := (hxu.cell (p := ⟨sb, so + j * 6, none⟩) hsb).trans y0
      replace hsb := Nat.lt_of_lt_of_le hsb hxu.size
      replace hB := below_then hB hxu
      clear hx hu hxu
      refine wpTr_step rfl rfl fun K hK => ?_
      go_simp
      refine (HN1.out _ V101_2 hku).mono ?_
      rintro e X ⟨rfl, hx⟩
      refine hK _ _ hx fun V101_3 hu => ?_
      clear hK K
      have hxu := below_then hx hu
      replace bk := (hxu.block _ (size_of_block bk)).trans bk
      replace br := (hxu.block _ (size_of_block br)).trans br
      replace bo := (hxu.block _ (size_of_block bo)).trans bo
      replace hlit := hlit.later hxu
      replace hku := hku.later hxu
      replace hO := own_later hO hxu
      replace y0 := (hxu.cell (p := ⟨sb, so + j * 6, none⟩) hsb).trans y0
      replace hsb := Nat.lt_of_lt_of_le hsb hxu.size
      replace hB := below_then hB hxu
      clear hx hu hxu
      show wpPure _ _ _ _
      intro ks hks _ _
      obtain rfl : ks = [] := List.length_eq_zero_iff.1 hks
      clear hks
      show wpList _ _ _ _ _ _
      simp only [deco]
      clear hlit hku y0 hsb
      rcases Bool.eq_false_or_eq_true (cb) with hbb | hbb
      · rw [hbb] at HS8
        subst hbb
        have HN2 := Lib.hid (HS8.out.trans (if_pos rfl))
        go_wp2_with fail
        all_goals (try (exfalso; omega))
        have hkW := HK.out.later hB
        obtain ⟨al, ad, aw, e9, _, _, hw⟩ := hkW
        obtain ⟨rfl, rfl, rfl⟩ : .slice A1 k.ls.length c1 = al ∧ .slice A2 k.ds.length c2 = ad ∧ .slice (some ⟨sb, so, none⟩) k.ws.length c3 = aw := by simpa using e9
        obtain ⟨A', c', e8, _, hln, hat⟩ := hw.open_
        obtain ⟨rfl, rfl⟩ : (some ⟨sb, so, none⟩ : Option Addr) = A' ∧ c3 = c' := by simpa using e8
        obtain ⟨sb', so', y, hAA, hsb, hy, y0, _, _, _, _, _⟩ := hat j hlt
        obtain ⟨rfl, rfl⟩ : sb = sb' ∧ so = so' := by simpa using hAA
        obtain rfl : x = y := by rw [HX.out] at hy; simpa using hy
        clear hat hw e8 e9 hln hy hAA
        refine wp_region_looseM [4] [0, 1, 2, 3, 5, 6, 7] (.one 8 .done) [] [] [9, 10] [] [] (by kernel_rfl) (by kernel_rfl) (by intro c a d v w h; cases d <;> exact h) (by intro c a d v w h; cases d <;> exact h) rfl (fun r i h => by simp at h) ?_
        simp only [pick, List.filterMap_cons, List.filterMap_nil, List.getElem?_toArray, List.getElem?_cons_succ, List.getElem?_cons_zero]
        refine wpPure_step (.int .i64 j) rfl (fun u => by first | rfl | kernel_rfl | simp [execOp, go_sem]) ?_
        intro u102 hu102
        replace bk := (hu102.block _ (size_of_block bk)).trans bk
        replace br := (hu102.block _ (size_of_block br)).trans br
        replace bo := (hu102.block _ (size_of_block bo)).trans bo
        replace hO := own_later hO hu102
        replace y0 := (hu102.cell (p := ⟨sb, so + j * 6, none⟩) hsb).trans y0
        replace hsb := Nat.lt_of_lt_of_le hsb hu102.size
        replace hB := below_then hB hu102
        have cbk0 := Joins.cell_of_block bk 0
        have cbk1 := Joins.cell_of_block bk 1
        have cbk2 := Joins.cell_of_block bk 2
        have cbk3 := Joins.cell_of_block bk 3
        have cbk4 := Joins.cell_of_block bk 4
        have zbk := size_of_block bk
        have cbo0 := Joins.cell_of_block bo 0
        have cbo1 := Joins.cell_of_block bo 1
        have zbo := size_of_block bo
        have hcg : ∀ (g : Gr u102) b o, b < u102.heap.size → g.val.cell? ⟨b, o, none⟩ = u102.cell? ⟨b, o, none⟩ := fun g b o h => (bcell g.b).1 b o h
        iterate 7 (first | (refine wpRel_step (fun K hK => ?_); go_simp; refine hK _ ?_; clear hK K))
        refine wpRel_nil fun V102_0 hb102 => ?_
        clear hcg cbk0 cbk1 cbk2 cbk3 cbk4 zbk cbo0 cbo1 zbo
        replace bk := (hb102.block _ (size_of_block bk)).trans bk
        replace br := (hb102.block _ (size_of_block br)).trans br
        replace bo := (hb102.block _ (size_of_block bo)).trans bo
        replace hO := own_later hO hb102
        replace y0 := (hb102.cell (p := ⟨sb, so + j * 6, none⟩) hsb).trans y0
        replace hsb := Nat.lt_of_lt_of_le hsb hb102.size
        replace hB := below_then hB hb102
        clear hb102 hu102
        refine wpTr_step rfl rfl fun K hK => ?_
        go_simp
        have hBs := hB.size
        refine (rput_c _ L1 x.id w.heap.size V102_0 hO (by omega)).mono ?_
        rintro e X ⟨u9, rfl, hO9, hx⟩
        refine hK _ _ hx fun V102_1 hu => ?_
        clear hK K
        replace hO9 := own_later hO9 hu
        have hxu := below_then hx hu
        replace bk := (hxu.block _ (size_of_block bk)).trans bk
        replace br := (hxu.block _ (size_of_block br)).trans br
        replace bo := (hxu.block _ (size_of_block bo)).trans bo
        replace hO := own_later hO hxu
        replace y0 := (hxu.cell (p := ⟨sb, so + j * 6, none⟩) hsb).trans y0
        replace hsb := Nat.lt_of_lt_of_le hsb hxu.size
        replace hB := below_then hB hxu
        clear hx hu hxu
        show wpPure _ _ _ _
        intro ks hks _ _
        obtain rfl : ks = [] := List.length_eq_zero_iff.1 hks
        clear hks
        show wpList _ _ _ _ _ _
        simp only [deco]
        clear y0 hsb hO
        obtain ⟨B9, b9, rfl⟩ := own_form hO9
        skip
        have f4 := Joins.unfrozen_of_block bo 0
        have s4 := Joins.cell_of_block bo 0
        have zo4 := size_of_block bo
        go_wp2_with fail
        replace bk := (put_other (i := 0) (.slice B9 (putI L1 x.id).length b9) (show w.heap.size ≠ ob by omega)).trans bk
        replace br := (put_other (i := 0) (.slice B9 (putI L1 x.id).length b9) (show w.heap.size + 1 ≠ ob by omega)).trans br
        have hO := own_setCell hO9 0 (.slice B9 (putI L1 x.id).length b9) (own_ne_block hO9 bo (by decide))
        replace hB := below_set (i := 0) (v := .slice B9 (putI L1 x.id).length b9) hB (show w.heap.size ≤ ob by omega)
        replace bo := Joins.block_setCell (i := 0) bo (.slice B9 (putI L1 x.id).length b9)
        go_roundw
        case rel => exact ⟨j + 1, B9, b9, by omega, by go_num, bk, br, by rw [HN2.out]; simpa using bo, by rw [HN2.out]; exact own_less hO hBs, hB⟩
        case measure => simp [intOf]; omega
        skip
      · rw [hbb] at HS8
        subst hbb
        have HN2 := Lib.hid (HS8.out.trans (if_neg Bool.false_ne_true))
        go_wp2_with fail
        go_roundw
        case rel => exact ⟨j + 1, Av, cv, by omega, by go_num, bk, br, by rw [HN2.out]; exact bo, by rw [HN2.out]; exact hO, hB⟩
        case measure => simp [intOf]; omega
    · obtain rfl : j = k.ws.length := by omega
      rw [← HF9.out] at hO bo
      obtain ⟨S9, hS9⟩ : ∃ l, l = suspE k := ⟨_, rfl⟩
      rw [← hS9] at hO bo
      have HS9 := Lib.hid hS9
      clear hS9 HF9
      have cbk0 := Joins.cell_of_block bk 0
      have cbk1 := Joins.cell_of_block bk 1
      have cbk2 := Joins.cell_of_block bk 2
      have cbk3 := Joins.cell_of_block bk 3
      have cbk4 := Joins.cell_of_block bk 4
      have zbk := size_of_block bk
      have cbo0 := Joins.cell_of_block bo 0
      have cbo1 := Joins.cell_of_block bo 1
      have zbo := size_of_block bo
      have HPP := Lib.hid (fun j : Nat => cell_setRow_same wr (w.heap.size + 1) j _ #[.slice Av S9.length cv, .int .i64 0] _ _ br)
      have HBF := Lib.hid (below_setRow hB (show w.heap.size ≤ w.heap.size + 1 by omega) #[.slice Av S9.length cv, .int .i64 0])
      have HO9 := Lib.hid (own_setRowX hO br (by decide) #[.slice Av S9.length cv, .int .i64 0])
      clear hO
      go_wp2_with (first | (refine wpList_store_rowTo rfl 85 _ _ rfl rfl (w.heap.size + 1) #[.slice Av S9.length cv, .int .i64 0] rfl rfl 85 _ br (by kernel_rfl) rfl (by kernel_rfl) ?_))
      all_goals (try (exfalso; omega))
      refine bodyPost_ret (v := .agg #[.slice Av S9.length cv, .int .i64 0]) ?_ rfl ⟨.slice Av S9.length cv, rfl, by have h9 := HO9.out; rw [HS9.out] at h9 ⊢; exact h9, HBF.out⟩
      simp [results, Tryz.results57, go_sem, HPP.out]
theorem rSuspects_c (k : Kl) (v : Value) (w : World) (hk : Kiln w v k) : Calls Tryz.prog 57 #[v] w fun e w' => ∃ u, e = .returned (.agg #[u, .int .i64 (checkI k)]) ∧ w'.ownsRow w.heap.size 3 1 u (suspE k).length ((suspE k).map (Value.int .i64)) ∧ Below w.heap.size w w' := by
  by_cases hc : checkI k = 0
  · cases hcan : canB (tiesL k)
    · exact rSuspects_go k v w hk hc hcan
    · exact rSuspects_can k v w hk hc hcan
  · exact rSuspects_bad k v w hk hc
end Go.Proofs.YtnedcclmfokdnaaGreat
