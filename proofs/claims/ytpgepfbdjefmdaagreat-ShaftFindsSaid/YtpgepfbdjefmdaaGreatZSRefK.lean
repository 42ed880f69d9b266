/- The reference's kept, Fits (written by tools/gensrefk.py). -/
import Derived.Test.YtpgepfbdjefmdaaGreatZSRefJ
import Derived.Test.YtpgepfbdjefmdaaGreatZSHgtE
namespace Go.Proofs.YtpgepfbdjefmdaaGreat
open Go Go.RowKit Go.Shelf
attribute [local go_sem] Oper.semAt_some Rel RelAt RelUpon

/-- What kept answers. -/
def keptV (l : List Tie) (h : Int → Int) : Array Value := match badAt l h with | some i => #[.int .i64 i, .bool false, .int .i64 0] | none => #[.int .i64 0, .bool true, .int .i64 0]
set_option maxRecDepth 100000 in
set_option maxHeartbeats 4000000 in
theorem rkept_c (l : List Tie) (h : Int → Int) (n : Nat) (v u : Value) (hs : List Int) (w : World) (hT : TiesAt w w.heap.size v l) (hI : Ints w w.heap.size u hs) (ok : NetOk l (n : Nat)) (hl : hs.length = n) (hat : ∀ x : Nat, x < n → hs[x]? = some (h (x : Int)))
    (hr : ∀ x : Nat, x < n → 0 ≤ h (x : Int) ∧ h (x : Int) ≤ 687865856) : Calls Tryz.prog 75 #[v, u] w fun e w' => e = .returned (.agg (keptV l h)) ∧ Below w.heap.size w w' := by
  obtain ⟨A, c, rfl, _, hln, hta⟩ := hT.open_
  obtain ⟨B, d, rfl, _, hlh, hia⟩ := Ints.open_ hI
  subst hl
  have HTA := Lib.hid hta
  have HIA := Lib.hid hia
  have HAT := Lib.hid hat
  have HR := Lib.hid hr
  have OK := Lib.hid ok.rng
  clear hta hia hT hI hat hr ok
  have b0 := heap_alloc_new w (.cells #[.int .i64 0, .bool false, .int .i64 0] 42)
  have hb0 := below_alloc w (.cells #[.int .i64 0, .bool false, .int .i64 0] 42)
  go_enter Tryz.func75, Tryz.ntmps75
  go_wp2_with fail
  generalize w.alloc _ = W1 at b0 hb0 ⊢
  have B0 := Lib.hid b0
  have HB0 := Lib.hid hb0
  clear b0 hb0
  go_loopw [5] (fun n9 wr => ∃ j : Nat, j ≤ l.length ∧ n9 = .int .i64 j ∧ Hid (∀ (i : Nat) (s : Tie), i < j → l[i]? = some s → h s.too - h s.frm ≤ s.most) ∧ Below W1.heap.size W1 wr) (fun n9 _ => l.length - (intOf n9).toNat)
  case atStart => exact ⟨0, Nat.zero_le _, rfl, fun i s hi => absurd hi (Nat.not_lt_zero i), Below.refl _ _⟩
  case round =>
    obtain ⟨j, hj, rfl, hq, hbw⟩ := hrel
    have br := (hbw.block _ (size_of_block B0.out)).trans B0.out
    have hB := below_then HB0.out hbw
    by_cases hlt : j < l.length
    · obtain ⟨b, off, t, rfl, hb, hx, c0, c1', c2', _⟩ := HTA.out j hlt
      have hrg := OK.out t (List.mem_of_getElem? hx)
      have HX := Lib.hid hx
      obtain ⟨x, hxe⟩ := Int.eq_ofNat_of_zero_le hrg.1
      obtain ⟨z, hze⟩ := Int.eq_ofNat_of_zero_le hrg.2.2.1
      have hxn : x < hs.length := by omega
      have hzn : z < hs.length := by omega
      obtain ⟨b1, off1, q1, rfl, hb1, hy1, cx⟩ := HIA.out x hxn
      obtain ⟨b2, off2, q2, hbe, hb2, hy2, cz⟩ := HIA.out z hzn
      obtain ⟨rfl, rfl⟩ : b1 = b2 ∧ off1 = off2 := by simpa using hbe
      have e1 : q1 = h (x : Int) := by have := HAT.out x hxn; rw [hy1] at this; simpa using this
      have e2 : q2 = h (z : Int) := by have := HAT.out z hzn; rw [hy2] at this; simpa using this
      have r1 := HR.out x hxn
      have r2 := HR.out z hzn
      rw [← e1] at r1
      rw [← e2] at r2
      have hm := hrg.2.2.2.2
      have HV := Lib.hid (show h t.too - h t.frm = q2 - q1 by rw [hxe, hze, e1, e2])
      rw [hxe] at c0
      rw [hze] at c1'
      replace c0 := (hB.cell (p := ⟨b, off + j * 4, none⟩) hb).trans c0
      replace c1' := (hB.cell (p := ⟨b, off + j * 4 + 1, none⟩) hb).trans c1'
      replace c2' := (hB.cell (p := ⟨b, off + j * 4 + 2, none⟩) hb).trans c2'
      replace cx := (hB.cell (p := ⟨b1, off1 + x, none⟩) hb1).trans cx
      replace cz := (hB.cell (p := ⟨b1, off1 + z, none⟩) hb1).trans cz
      have hzb := Nat.lt_of_lt_of_le hb hB.size
      have hzb1 := Nat.lt_of_lt_of_le hb1 hB.size
      obtain ⟨m, hme⟩ : ∃ m, m = t.most := ⟨_, rfl⟩
      rw [← hme] at c2' hm
      have HME := Lib.hid hme
      have hw := IntKind.wrap_i64 (q2 - q1)
      replace hw : IntKind.i64.wrap (q2 - q1) = q2 - q1 := by rw [hw]; omega
      have HW := Lib.hid hw
      clear hx hrg hxe hze hy1 hy2 e1 e2 hbe hme hw hb hb1 hb2
      go_wp2_with fail
      refine wp_region_looseM [0, 1, 2, 8, 9, 10, 17, 18] [3, 4, 5, 6, 7, 11, 12, 13, 14, 15, 16, 19, 20, 21, 22] .done [] [] [] [] [] (by kernel_rfl) (by kernel_rfl) (by intro c a d v w h; cases d <;> exact h) (by intro c a d v w h; cases d <;> exact h) rfl (fun r i h => by simp at h) ?_
      simp only [pick, List.filterMap_cons, List.filterMap_nil, List.getElem?_toArray, List.getElem?_cons_succ, List.getElem?_cons_zero]
      refine wpPure_step (.slice (some ⟨b1, off1, none⟩) hs.length d) rfl (fun u => by first | rfl | kernel_rfl | simp [execOp, go_sem]) ?_
      refine wpPure_step (.slice (some ⟨b, off, none⟩) l.length c) rfl (fun u => by first | rfl | kernel_rfl | simp [execOp, go_sem]) ?_
      refine wpPure_step (.int .i64 j) rfl (fun u => by first | rfl | kernel_rfl | simp [execOp, go_sem]) ?_
      refine wpPure_step (.slice (some ⟨b1, off1, none⟩) hs.length d) rfl (fun u => by first | rfl | kernel_rfl | simp [execOp, go_sem]) ?_
      refine wpPure_step (.slice (some ⟨b, off, none⟩) l.length c) rfl (fun u => by first | rfl | kernel_rfl | simp [execOp, go_sem]) ?_
      refine wpPure_step (.int .i64 j) rfl (fun u => by first | rfl | kernel_rfl | simp [execOp, go_sem]) ?_
      refine wpPure_step (.slice (some ⟨b, off, none⟩) l.length c) rfl (fun u => by first | rfl | kernel_rfl | simp [execOp, go_sem]) ?_
      refine wpPure_step (.int .i64 j) rfl (fun u => by first | rfl | kernel_rfl | simp [execOp, go_sem]) ?_
      intro U hU
      replace c0 := (hU.cell (p := ⟨b, off + j * 4, none⟩) hzb).trans c0
      replace c1' := (hU.cell (p := ⟨b, off + j * 4 + 1, none⟩) hzb).trans c1'
      replace c2' := (hU.cell (p := ⟨b, off + j * 4 + 2, none⟩) hzb).trans c2'
      replace cx := (hU.cell (p := ⟨b1, off1 + x, none⟩) hzb1).trans cx
      replace cz := (hU.cell (p := ⟨b1, off1 + z, none⟩) hzb1).trans cz
      replace hzb := Nat.lt_of_lt_of_le hzb hU.size
      replace hzb1 := Nat.lt_of_lt_of_le hzb1 hU.size
      replace br := (hU.block _ (size_of_block br)).trans br
      replace hB := below_then hB hU
      replace hbw := below_grown hbw hbw.size hU
      have hcg : ∀ (g : Gr U) b o, b < U.heap.size → g.val.cell? ⟨b, o, none⟩ = U.cell? ⟨b, o, none⟩ := fun g b o h => (bcell g.b).1 b o h
      iterate 15 (first | (refine wpRel_step (fun K hK => ?_); go_simp; refine hK _ ?_; clear hK K))
      refine wpRel_nil fun V hV => ?_
      clear hcg c0 c1' c2' cx cz
      replace br := (hV.block _ (size_of_block br)).trans br
      replace hB := below_then hB hV
      replace hbw := below_grown hbw hbw.size hV
      clear hV hU
      show wpPure _ _ _ _
      intro ks hks _ _
      obtain rfl : ks = [] := List.length_eq_zero_iff.1 hks
      clear hks
      show wpList _ _ _ _ _ _
      simp only [deco]
      rw [HW.out]
      by_cases hbad : m < q2 - q1
      · rw [show decide (m < q2 - q1) = true from decide_eq_true hbad]
        have HE := Lib.hid (show keptV l h = #[.int .i64 j, .bool false, .int .i64 0] by unfold keptV; rw [badAt_some HX.out (by rw [HV.out, ← HME.out]; exact hbad) (fun i s hi hs => hq.out i s hi hs)])
        clear hbad
        have HPP := Lib.hid (fun jj : Nat => cell_setRow_same V (w.heap.size) jj _ #[.int .i64 j, .bool false, .int .i64 0] _ _ br)
        have HBF := Lib.hid (below_setRow hB (show w.heap.size ≤ w.heap.size by omega) #[.int .i64 j, .bool false, .int .i64 0])
        go_wp2_with (first | (refine wpList_store_rowTo rfl 42 _ _ rfl rfl (w.heap.size) #[.int .i64 j, .bool false, .int .i64 0] rfl rfl 42 _ br (by kernel_rfl) rfl (by kernel_rfl) ?_))
        refine bodyPost_ret (v := .agg #[.int .i64 j, .bool false, .int .i64 0]) ?_ rfl ⟨by rw [HE.out], HBF.out⟩
        simp [results, Tryz.results75, go_sem, HPP.out]
      · rw [show decide (m < q2 - q1) = false from decide_eq_false hbad]
        have HQ := Lib.hid (show ∀ (i : Nat) (s : Tie), i < j + 1 → l[i]? = some s → h s.too - h s.frm ≤ s.most from fun i s hi hs => by
          by_cases hij : i < j
          · exact hq.out i s hij hs
          · obtain rfl : i = j := by omega
            rw [HX.out] at hs
            obtain rfl : t = s := by simpa using hs
            rw [HV.out, ← HME.out]; omega)
        clear hbad br hB
        go_wp2_with fail
        go_roundw
        case rel => exact ⟨j + 1, by omega, by go_num, HQ, hbw⟩
        case measure => simp [intOf]; omega
    · obtain rfl : j = l.length := by omega
      have HE := Lib.hid (show keptV l h = #[.int .i64 0, .bool true, .int .i64 0] by unfold keptV; rw [badAt_none.2 (fun t ht => by obtain ⟨i, hi⟩ := List.getElem?_of_mem ht; exact hq.out i t (List.getElem?_eq_some_iff.1 hi).1 hi)])
      have HPP := Lib.hid (fun jj : Nat => cell_setRow_same wr (w.heap.size) jj _ #[.int .i64 0, .bool true, .int .i64 0] _ _ br)
      have HBF := Lib.hid (below_setRow hB (show w.heap.size ≤ w.heap.size by omega) #[.int .i64 0, .bool true, .int .i64 0])
      go_wp2_with (first | (refine wpList_store_rowTo rfl 42 _ _ rfl rfl (w.heap.size) #[.int .i64 0, .bool true, .int .i64 0] rfl rfl 42 _ br (by kernel_rfl) rfl (by kernel_rfl) ?_))
      refine bodyPost_ret (v := .agg #[.int .i64 0, .bool true, .int .i64 0]) ?_ rfl ⟨by rw [HE.out], HBF.out⟩
      simp [results, Tryz.results75, go_sem, HPP.out]
set_option maxRecDepth 100000 in
set_option maxHeartbeats 4000000 in
theorem rFits_bad (k : Kl) (v t : Value) (tl td : List Int) (w : World) (hk : Kiln w v k) (ht : Truth w t tl td) (hc : checkI k ≠ 0) : Calls Tryz.prog 21 #[v, t] w fun e w' => e = .returned (.agg #[.int .i64 (fitsN k tl td), .bool (fitsB k tl td), .int .i64 (fitsE k tl td)]) ∧ Below w.heap.size w w' := by
  have e0 : fitsE k tl td = checkI k := by unfold fitsE; rw [if_pos hc]
  have HE := Lib.hid (show fitsN k tl td = 0 ∧ fitsB k tl td = false by unfold fitsN fitsB; rw [e0]; simp [hc])
  have HE0 := Lib.hid e0
  have d0 : (checkI k != 0) = true := by simpa using hc
  clear hc e0
  obtain ⟨A1, c1, A2, c2, A3, c3, rfl⟩ := kilnForm hk
  have HK := Lib.hid hk
  have HT := Lib.hid ht
  obtain ⟨a, b, rfl, ha, hb⟩ := ht
  obtain ⟨B1, d1, rfl⟩ := Sl.form1 ha
  obtain ⟨B2, d2, rfl⟩ := Sl.form1 hb
  clear hk ha hb
  go_enter Tryz.func21, Tryz.ntmps21
  obtain ⟨bk, bt, br, hsz, HB⟩ := three_new w (.cells #[.int .i64 k.room, .int .i64 k.per, .slice A1 k.ls.length c1, .slice A2 k.ds.length c2, .slice A3 k.ws.length c3] 26) (.cells #[.slice B1 tl.length d1, .slice B2 td.length d2] 29) (.cells #[.int .i64 0, .bool false, .int .i64 0] 42)
  have cbk0 := Joins.cell_of_block bk 0
  have cbk1 := Joins.cell_of_block bk 1
  have cbk2 := Joins.cell_of_block bk 2
  have cbk3 := Joins.cell_of_block bk 3
  have cbk4 := Joins.cell_of_block bk 4
  have zbk := size_of_block bk
  go_wp2_with fail
  clear cbk0 cbk1 cbk2 cbk3 cbk4 zbk
  generalize (((w.alloc (.cells #[.int .i64 k.room, .int .i64 k.per, .slice A1 k.ls.length c1, .slice A2 k.ds.length c2, .slice A3 k.ws.length c3] 26)).alloc (.cells #[.slice B1 tl.length d1, .slice B2 td.length d2] 29)).alloc (.cells #[.int .i64 0, .bool false, .int .i64 0] 42)) = w1 at bk bt br hsz HB ⊢
  have hB := HB
  clear HB hsz
  refine (rcheck_c k _ w1 (HK.out.later hB)).mono ?_
  rintro e w2 ⟨rfl, hF⟩
  replace bk := (hF.block _ (size_of_block bk)).trans bk
  replace bt := (hF.block _ (size_of_block bt)).trans bt
  replace br := (hF.block _ (size_of_block br)).trans br
  replace hB := below_then hB hF
  clear hF
  have HPP := Lib.hid (fun jj : Nat => cell_setRow_same w2 (w.heap.size + 1 + 1) jj _ #[.int .i64 0, .bool false, .int .i64 (checkI k)] _ _ br)
  have HBF := Lib.hid (below_setRow hB (show w.heap.size ≤ w.heap.size + 1 + 1 by omega) #[.int .i64 0, .bool false, .int .i64 (checkI k)])
  go_wp2_with (first | (refine wpList_store_rowTo rfl 42 _ _ rfl rfl (w.heap.size + 1 + 1) #[.int .i64 0, .bool false, .int .i64 (checkI k)] rfl rfl 42 _ br (by kernel_rfl) rfl (by kernel_rfl) ?_))
  refine bodyPost_ret (v := .agg #[.int .i64 0, .bool false, .int .i64 (checkI k)]) ?_ rfl ⟨by rw [HE.out.1, HE.out.2, HE0.out], HBF.out⟩
  simp [results, Tryz.results21, go_sem, HPP.out]
set_option maxRecDepth 100000 in
set_option maxHeartbeats 4000000 in
theorem rFits_no (k : Kl) (v t : Value) (tl td : List Int) (w : World) (hk : Kiln w v k) (ht : Truth w t tl td) (hc : checkI k = 0) (hw : (wtsB tl k.ls.length && wtsB td k.ds.length) = false) : Calls Tryz.prog 21 #[v, t] w fun e w' => e = .returned (.agg #[.int .i64 (fitsN k tl td), .bool (fitsB k tl td), .int .i64 (fitsE k tl td)]) ∧ Below w.heap.size w w' := by
  have e0 : fitsE k tl td = 1 := by unfold fitsE; rw [if_neg (show ¬ checkI k ≠ 0 by simp [hc]), if_pos (Bool.and_eq_false_iff.1 hw)]
  have HE := Lib.hid (show fitsN k tl td = 0 ∧ fitsB k tl td = false by unfold fitsN fitsB; rw [e0]; simp)
  have HE0 := Lib.hid e0
  have yW := fun v t W h1 h2 => rweights_c k v t tl td W h1 h2
  rw [hw] at yW
  have YW := Lib.hid yW
  clear e0 yW hw
  obtain ⟨A1, c1, A2, c2, A3, c3, rfl⟩ := kilnForm hk
  have HK := Lib.hid hk
  have HT := Lib.hid ht
  obtain ⟨a, b, rfl, ha, hb⟩ := ht
  obtain ⟨B1, d1, rfl⟩ := Sl.form1 ha
  obtain ⟨B2, d2, rfl⟩ := Sl.form1 hb
  clear hk ha hb
  go_enter Tryz.func21, Tryz.ntmps21
  obtain ⟨bk, bt, br, hsz, HB⟩ := three_new w (.cells #[.int .i64 k.room, .int .i64 k.per, .slice A1 k.ls.length c1, .slice A2 k.ds.length c2, .slice A3 k.ws.length c3] 26) (.cells #[.slice B1 tl.length d1, .slice B2 td.length d2] 29) (.cells #[.int .i64 0, .bool false, .int .i64 0] 42)
  have cbk0 := Joins.cell_of_block bk 0
  have cbk1 := Joins.cell_of_block bk 1
  have cbk2 := Joins.cell_of_block bk 2
  have cbk3 := Joins.cell_of_block bk 3
  have cbk4 := Joins.cell_of_block bk 4
  have zbk := size_of_block bk
  go_wp2_with fail
  clear cbk0 cbk1 cbk2 cbk3 cbk4 zbk
  generalize (((w.alloc (.cells #[.int .i64 k.room, .int .i64 k.per, .slice A1 k.ls.length c1, .slice A2 k.ds.length c2, .slice A3 k.ws.length c3] 26)).alloc (.cells #[.slice B1 tl.length d1, .slice B2 td.length d2] 29)).alloc (.cells #[.int .i64 0, .bool false, .int .i64 0] 42)) = w1 at bk bt br hsz HB ⊢
  have hB := HB
  clear HB hsz
  refine (rcheck_c k _ w1 (HK.out.later hB)).mono ?_
  rintro e w2 ⟨rfl, hF⟩
  replace bk := (hF.block _ (size_of_block bk)).trans bk
  replace bt := (hF.block _ (size_of_block bt)).trans bt
  replace br := (hF.block _ (size_of_block br)).trans br
  replace hB := below_then hB hF
  clear hF
  rw [hc]
  clear hc
  have cbk0 := Joins.cell_of_block bk 0
  have cbk1 := Joins.cell_of_block bk 1
  have cbk2 := Joins.cell_of_block bk 2
  have cbk3 := Joins.cell_of_block bk 3
  have cbk4 := Joins.cell_of_block bk 4
  have zbk := size_of_block bk
  have cbt0 := Joins.cell_of_block bt 0
  have cbt1 := Joins.cell_of_block bt 1
  have zbt := size_of_block bt
  go_wp2_with fail
  refine (YW.out _ _ w2 (HK.out.later hB) (HT.out.later hB)).mono ?_
  rintro e w3 ⟨rfl, hF⟩
  clear cbk0 cbk1 cbk2 cbk3 cbk4 zbk cbt0 cbt1 zbt
  replace bk := (hF.block _ (size_of_block bk)).trans bk
  replace bt := (hF.block _ (size_of_block bt)).trans bt
  replace br := (hF.block _ (size_of_block br)).trans br
  replace hB := below_then hB hF
  clear hF
  have HPP := Lib.hid (fun jj : Nat => cell_setRow_same w3 (w.heap.size + 1 + 1) jj _ #[.int .i64 0, .bool false, .int .i64 1] _ _ br)
  have HBF := Lib.hid (below_setRow hB (show w.heap.size ≤ w.heap.size + 1 + 1 by omega) #[.int .i64 0, .bool false, .int .i64 1])
  go_wp2_with (first | (refine wpList_store_rowTo rfl 42 _ _ rfl rfl (w.heap.size + 1 + 1) #[.int .i64 0, .bool false, .int .i64 1] rfl rfl 42 _ br (by kernel_rfl) rfl (by kernel_rfl) ?_))
  refine bodyPost_ret (v := .agg #[.int .i64 0, .bool false, .int .i64 1]) ?_ rfl ⟨by rw [HE.out.1, HE.out.2, HE0.out], HBF.out⟩
  simp [results, Tryz.results21, go_sem, HPP.out]
set_option maxRecDepth 100000 in
set_option maxHeartbeats 4000000 in
theorem rFits_ok (k : Kl) (v t : Value) (tl td : List Int) (w : World) (hk : Kiln w v k) (ht : Truth w t tl td) (hc : checkI k = 0) (hw : (wtsB tl k.ls.length && wtsB td k.ds.length) = true) : Calls Tryz.prog 21 #[v, t] w fun e w' => e = .returned (.agg #[.int .i64 (fitsN k tl td), .bool (fitsB k tl td), .int .i64 (fitsE k tl td)]) ∧ Below w.heap.size w w' := by
  obtain ⟨h1, h2⟩ : wtsB tl k.ls.length = true ∧ wtsB td k.ds.length = true := by simpa using hw
  have hR := right_of_check hc
  have e0 : fitsE k tl td = 0 := fitsE_zero.2 ⟨hc, h1, h2⟩
  obtain ⟨i, b9, hkv, HE⟩ : ∃ (i : Int) (b9 : Bool), keptV (tiesL k) (hgt k.ls.length tl td) = #[.int .i64 i, .bool b9, .int .i64 0] ∧ Hid (fitsN k tl td = i ∧ fitsB k tl td = b9) := by
    unfold keptV fitsN fitsB
    rw [e0]
    cases hb : badAt (tiesL k) (hgt k.ls.length tl td) with
    | some i => exact ⟨i, false, rfl, Lib.hid ⟨rfl, rfl⟩⟩
    | none => exact ⟨0, true, rfl, Lib.hid ⟨rfl, rfl⟩⟩
  have HE0 := Lib.hid e0
  have hmn := mN_eq k
  have hok : NetOk (tiesL k) (mN k : Nat) := by rw [← hmn]; exact net_ok hR
  have l1 := (wtsB_iff.1 h1).1
  have l2 := (wtsB_iff.1 h2).1
  have n1 := hR.ls
  have n2 := hR.ds
  have yK := fun v u W a b => rkept_c (tiesL k) (hgt k.ls.length tl td) (mN k) v u (hL tl td tl.length td.length) W a b hok (by rw [hL_len]; unfold mN; omega) (fun x hx => by rw [hL_at tl td (by unfold mN at hx; omega), l1]) (fun x _ => by have := hgt_rng h1 h2 (by omega) (by omega) (x : Int); omega)
  rw [hkv] at yK
  have YK := Lib.hid yK
  have yH := fun v W a => rheights_c tl td v W a (by rw [l1]; exact h1) (by rw [l2]; exact h2) (by omega) (by omega)
  have YH := Lib.hid yH
  have hlen := hL_len tl td tl.length td.length
  have HLN := Lib.hid (show (hL tl td tl.length td.length).length ≤ 100 by omega)
  have HR := Lib.hid hR
  have yW := fun v t W h1 h2 => rweights_c k v t tl td W h1 h2
  rw [hw] at yW
  have YW := Lib.hid yW
  clear e0 yW hw h1 h2 hkv yK yH hok hR hlen l1 l2
  obtain ⟨A1, c1, A2, c2, A3, c3, rfl⟩ := kilnForm hk
  have HK := Lib.hid hk
  have HT := Lib.hid ht
  obtain ⟨a, b, rfl, ha, hb⟩ := ht
  obtain ⟨B1, d1, rfl⟩ := Sl.form1 ha
  obtain ⟨B2, d2, rfl⟩ := Sl.form1 hb
  clear hk ha hb
  go_enter Tryz.func21, Tryz.ntmps21
  obtain ⟨bk, bt, br, hsz, HB⟩ := three_new w (.cells #[.int .i64 k.room, .int .i64 k.per, .slice A1 k.ls.length c1, .slice A2 k.ds.length c2, .slice A3 k.ws.length c3] 26) (.cells #[.slice B1 tl.length d1, .slice B2 td.length d2] 29) (.cells #[.int .i64 0, .bool false, .int .i64 0] 42)
  have cbk0 := Joins.cell_of_block bk 0
  have cbk1 := Joins.cell_of_block bk 1
  have cbk2 := Joins.cell_of_block bk 2
  have cbk3 := Joins.cell_of_block bk 3
  have cbk4 := Joins.cell_of_block bk 4
  have zbk := size_of_block bk
  go_wp2_with fail
  clear cbk0 cbk1 cbk2 cbk3 cbk4 zbk
  generalize (((w.alloc (.cells #[.int .i64 k.room, .int .i64 k.per, .slice A1 k.ls.length c1, .slice A2 k.ds.length c2, .slice A3 k.ws.length c3] 26)).alloc (.cells #[.slice B1 tl.length d1, .slice B2 td.length d2] 29)).alloc (.cells #[.int .i64 0, .bool false, .int .i64 0] 42)) = w1 at bk bt br hsz HB ⊢
  have hB := HB
  clear HB hsz
  refine (rcheck_c k _ w1 (HK.out.later hB)).mono ?_
  rintro e w2 ⟨rfl, hF⟩
  replace bk := (hF.block _ (size_of_block bk)).trans bk
  replace bt := (hF.block _ (size_of_block bt)).trans bt
  replace br := (hF.block _ (size_of_block br)).trans br
  replace hB := below_then hB hF
  clear hF
  rw [hc]
  clear hc
  have cbk0 := Joins.cell_of_block bk 0
  have cbk1 := Joins.cell_of_block bk 1
  have cbk2 := Joins.cell_of_block bk 2
  have cbk3 := Joins.cell_of_block bk 3
  have cbk4 := Joins.cell_of_block bk 4
  have zbk := size_of_block bk
  have cbt0 := Joins.cell_of_block bt 0
  have cbt1 := Joins.cell_of_block bt 1
  have zbt := size_of_block bt
  go_wp2_with fail
  refine (YW.out _ _ w2 (HK.out.later hB) (HT.out.later hB)).mono ?_
  rintro e w3 ⟨rfl, hF⟩
  clear cbk0 cbk1 cbk2 cbk3 cbk4 zbk cbt0 cbt1 zbt
  replace bk := (hF.block _ (size_of_block bk)).trans bk
  replace bt := (hF.block _ (size_of_block bt)).trans bt
  replace br := (hF.block _ (size_of_block br)).trans br
  replace hB := below_then hB hF
  clear hF
  go_wp2_with fail
  refine wp_region_looseM [] [0, 2] (.one 1 (.one 3 (.one 4 .done))) [] [] [5] [] [] (by kernel_rfl) (by kernel_rfl) (by intro c a d v w h; cases d <;> exact h) (by intro c a d v w h; cases d <;> exact h) rfl (fun r i h => by simp at h) ?_
  simp only [pick, List.filterMap_cons, List.filterMap_nil, List.getElem?_toArray, List.getElem?_cons_succ, List.getElem?_cons_zero]
  intro u4 hu4
  replace bk := (hu4.block _ (size_of_block bk)).trans bk
  replace bt := (hu4.block _ (size_of_block bt)).trans bt
  replace br := (hu4.block _ (size_of_block br)).trans br
  replace hB := below_then hB hu4
  have cbk0 := Joins.cell_of_block bk 0
  have cbk1 := Joins.cell_of_block bk 1
  have cbk2 := Joins.cell_of_block bk 2
  have cbk3 := Joins.cell_of_block bk 3
  have cbk4 := Joins.cell_of_block bk 4
  have zbk := size_of_block bk
  have cbt0 := Joins.cell_of_block bt 0
  have cbt1 := Joins.cell_of_block bt 1
  have zbt := size_of_block bt
  have hcg : ∀ (g : Gr u4) b o, b < u4.heap.size → g.val.cell? ⟨b, o, none⟩ = u4.cell? ⟨b, o, none⟩ := fun g b o h => (bcell g.b).1 b o h
  iterate 2 (first | (refine wpRel_step (fun K hK => ?_); go_simp; refine hK _ ?_; clear hK K))
  refine wpRel_nil fun V4_0 hb4 => ?_
  clear hcg cbk0 cbk1 cbk2 cbk3 cbk4 zbk cbt0 cbt1 zbt
  replace bk := (hb4.block _ (size_of_block bk)).trans bk
  replace bt := (hb4.block _ (size_of_block bt)).trans bt
  replace br := (hb4.block _ (size_of_block br)).trans br
  replace hB := below_then hB hb4
  clear hb4 hu4
  refine wpTr_step rfl rfl fun K hK => ?_
  go_simp
  refine (rties_c k _ V4_0 (HK.out.later hB) HR.out.small).mono ?_
  rintro e X ⟨u, rfl, hTT, hx⟩
  refine hK _ _ hx fun V4_1 hu => ?_
  clear hK K
  replace hTT := own_later hTT hu
  have hxu := below_then hx hu
  replace bk := (hxu.block _ (size_of_block bk)).trans bk
  replace bt := (hxu.block _ (size_of_block bt)).trans bt
  replace br := (hxu.block _ (size_of_block br)).trans br
  replace hB := below_then hB hxu
  clear hx hu hxu
  refine wpTr_step rfl rfl fun K hK => ?_
  go_simp
  refine (YH.out _ V4_1 (HT.out.later hB)).mono ?_
  rintro e X ⟨hv9, rfl, hHH, hx⟩
  refine hK _ _ hx fun V4_2 hu => ?_
  clear hK K
  replace hHH := own_later hHH hu
  have hxu := below_then hx hu
  replace bk := (hxu.block _ (size_of_block bk)).trans bk
  replace bt := (hxu.block _ (size_of_block bt)).trans bt
  replace br := (hxu.block _ (size_of_block br)).trans br
  replace hTT := own_later hTT hxu
  replace hB := below_then hB hxu
  clear hx hu hxu
  refine wpTr_step rfl rfl fun K hK => ?_
  go_simp
  refine (YK.out u hv9 V4_2 (OwnTies.at_ hTT (by have := tiesL_len HR.out.small; omega)) (Ints.of_own hHH (by have := HLN.out; omega))).mono ?_
  rintro e X ⟨rfl, hx⟩
  refine hK _ _ hx fun V4_3 hu => ?_
  clear hK K
  have hxu := below_then hx hu
  replace bk := (hxu.block _ (size_of_block bk)).trans bk
  replace bt := (hxu.block _ (size_of_block bt)).trans bt
  replace br := (hxu.block _ (size_of_block br)).trans br
  replace hTT := own_later hTT hxu
  replace hHH := own_later hHH hxu
  replace hB := below_then hB hxu
  clear hx hu hxu
  show wpPure _ _ _ _
  intro ks hks _ _
  obtain rfl : ks = [] := List.length_eq_zero_iff.1 hks
  clear hks
  show wpList _ _ _ _ _ _
  simp only [deco]
  have HPP := Lib.hid (fun jj : Nat => cell_setRow_same V4_3 (w.heap.size + 1 + 1) jj _ #[.int .i64 i, .bool b9, .int .i64 0] _ _ br)
  have HBF := Lib.hid (below_setRow hB (show w.heap.size ≤ w.heap.size + 1 + 1 by omega) #[.int .i64 i, .bool b9, .int .i64 0])
  skip
  refine wpList_store_rowTo rfl 42 _ _ rfl rfl (w.heap.size + 1 + 1) #[.int .i64 i, .bool b9, .int .i64 0] rfl rfl 42 _ br (by kernel_rfl) rfl (by kernel_rfl) ?_
  go_wp2_with fail
  refine bodyPost_ret (v := .agg #[.int .i64 i, .bool b9, .int .i64 0]) ?_ rfl ⟨by rw [HE.out.1, HE.out.2, HE0.out], HBF.out⟩
  simp [results, Tryz.results21, go_sem, HPP.out]
theorem rFits_c (k : Kl) (v t : Value) (tl td : List Int) (w : World) (hk : Kiln w v k) (ht : Truth w t tl td) : Calls Tryz.prog 21 #[v, t] w fun e w' => e = .returned (.agg #[.int .i64 (fitsN k tl td), .bool (fitsB k tl td), .int .i64 (fitsE k tl td)]) ∧ Below w.heap.size w w' := by
  by_cases hc : checkI k = 0
  · cases hw : wtsB tl k.ls.length && wtsB td k.ds.length
    · exact rFits_no k v t tl td w hk ht hc hw
    · exact rFits_ok k v t tl td w hk ht hc hw
  · exact rFits_bad k v t tl td w hk ht hc
end Go.Proofs.YtpgepfbdjefmdaaGreat
