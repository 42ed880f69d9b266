/- Texts joined: STruth SAre SFits. -/
import Derived.Test.YtnedcclmfokdnaaGreatJ20
import Derived.Test.YtnedcclmfokdnaaGreatJ21
import Derived.Test.YtnedcclmfokdnaaGreatJ13
namespace Go.Proofs.YtnedcclmfokdnaaGreat
open Go Go.RowKit Go.Shelf
attribute [local go_sem] Oper.semAt_some Rel RelAt RelUpon
set_option maxRecDepth 100000 in
set_option maxHeartbeats 4000000 in
theorem weightsD_c (A : Option Addr) (n c bs : Nat) (f : Nat → Int) (w : World) (hb : bs ≤ 1000) (hbn : bs + n ≤ 40) (hf : ∀ i, i < 41 → -1152921504606846976 ≤ f i ∧ f i ≤ 1152921504606846976) :
    Calls Tryz.prog 151 #[.agg #[.slice A n c, .int .i64 bs], .agg (hgA f)] w fun e w' => ∃ u, e = .returned u ∧ w'.ownsRow w.heap.size 3 1 u (wtF bs n f n).length ((wtF bs n f n).map (Value.int .i64)) ∧ Below w.heap.size w w' := by
  obtain ⟨i0, hi, hz0, hz1, hz2⟩ := info_parts Tryz.infoIntW
  obtain ⟨q0, q1, qs, qb⟩ := two_new' w (.cells #[.slice A n c, .int .i64 bs] 134) (.cells (hgA f) 124)
  obtain ⟨w1, hmk, hown1, hg1⟩ := run_make_full (P := Tryz.prog) ((w.alloc (.cells #[.slice A n c, .int .i64 bs] 134)).alloc (.cells (hgA f) 124)) (w.heap.size + 1 + 1) 27 3 i0 (.int .i64 0) 1 Tryz.underlying27 hi hz0 hz1 .i64 .i64 n (by rw [hz2]; omega) (by unfold maxLen; omega) (by rw [qs]; omega)
  simp only [Nat.mul_one, World.size_alloc] at hmk hown1
  rw [show (Value.int .i64 0).cells = #[.int .i64 0] from rfl, toList_madeCells_one] at hown1
  have hO : w1.ownsRow (w.heap.size + 1 + 1) 3 1 (.slice (some ⟨w.heap.size + 1 + 1, 0, none⟩) n n) n ((wtF bs n f 0).map (Value.int .i64)) := by rw [wtF_zero, List.map_replicate]; exact hown1
  have y0 := (hg1.block _ (size_of_block q0) (fun e => by cases e)).trans q0
  have y1 := (hg1.block _ (size_of_block q1) (fun e => by cases e)).trans q1
  have hB : Below w.heap.size w w1 := qb.grown hg1 (by omega) (fun k e => by cases e)
  have HO := Lib.hid hO
  have HF := Lib.hid hf
  have HB := Lib.hid hB
  have Y0 := Lib.hid y0
  have Y1 := Lib.hid y1
  have c0 := Joins.cell_of_block y0 0
  clear hown1 hO hg1 hi hz0 hz1 hz2 hf y0 y1 hB qs qb
  have d0 := Joins.cell_of_block q0 0
  have zq := size_of_block q0
  go_enter Tryz.func151, Tryz.ntmps151
  go_wp2_with fail
  clear d0 zq q0 q1
  go_loopw [15] (fun i wr => ∃ j : Nat, i = .int .i64 j ∧ j ≤ n ∧ wr.ownsRow (w.heap.size + 1 + 1) 3 1 (.slice (some ⟨w.heap.size + 1 + 1, 0, none⟩) n n) n ((wtF bs n f j).map (Value.int .i64)) ∧ wr.heap[w.heap.size]? = some (.cells #[.slice A n c, .int .i64 bs] 134) ∧ wr.heap[w.heap.size + 1]? = some (.cells (hgA f) 124) ∧ Below w.heap.size w wr) (fun i _ => (n - intOf i).toNat)
  case atStart => exact ⟨0, rfl, by omega, HO.out, Y0.out, Y1.out, HB.out⟩
  case round =>
    clear c0
    obtain ⟨j, rfl, hj, hO, y0, y1, hbw⟩ := hrel
    have c0 := Joins.cell_of_block y0 0
    have c1 := Joins.cell_of_block y0 1
    by_cases hlt : j < n
    · have hP := fun W => partD_n (.slice A n c) bs j W hb (by omega)
      have ma : markN bs j < 41 := by unfold markN; split <;> omega
      have mc : markN bs (j + 1) < 41 := by unfold markN; split <;> omega
      have hnx := wtF_next bs n f hlt
      have ba := HF.out _ ma
      have bb := HF.out _ mc
      have HNX := Lib.hid hnx
      clear hnx
      generalize markN bs j = ma0 at hP ma ba HNX
      generalize markN bs (j + 1) = mb0 at hP mc bb HNX
      go_wp2_with fail
      refine (hP _).mono ?_
      rintro e W2 ⟨rfl, hb2⟩
      have p0 := heap_alloc_new W2 (.cells #[.int .i64 ma0, .int .i64 mb0] 160)
      have pb := below_alloc W2 (.cells #[.int .i64 ma0, .int .i64 mb0] 160)
      have B2 := below_then hb2 pb
      replace y0 := (B2.block _ (size_of_block y0)).trans y0
      replace y1 := (B2.block _ (size_of_block y1)).trans y1
      replace hO := own_later hO B2
      replace hbw := below_then hbw B2
      clear hP hb2 B2 pb c0 c1
      go_wp2_with fail
      generalize W2.alloc _ = W3 at p0 y0 y1 hO hbw ⊢
      have c0 := Joins.cell_of_block p0 0
      have c1 := Joins.cell_of_block p0 1
      have e0 := (Joins.cell_of_block y1 ma0).trans (hgA_at _ ma)
      have e1 := (Joins.cell_of_block y1 mb0).trans (hgA_at _ mc)
      have zp := size_of_block p0
      have zb := size_of_block y1
      refine wp_region_grown_tail 12 (by kernel_rfl) (by kernel_rfl) fun hcg => ?_
      simp only [List.take_succ_cons, List.take_zero, List.drop_succ_cons, List.drop_zero]
      repeat (go_big_quiet_step (fail))
      refine wpQuiet_nil ?_
      intro _ hw'
      obtain ⟨g, hw''⟩ := hw'
      subst hw''
      replace y0 := (g.b.block _ (size_of_block y0)).trans y0
      replace y1 := (g.b.block _ zb).trans y1
      replace hO := own_later hO g.b
      replace hbw := below_then hbw g.b
      generalize g.val = W4 at y0 y1 hO hbw ⊢
      clear hcg c0 c1 e0 e1 zb zp p0
      have cj : W4.cell? ⟨w.heap.size + 1 + 1, j, none⟩ = ((wtF bs n f j).map (Value.int .i64))[j]? := hO.cellAt j (by omega)
      rw [List.getElem?_map, List.getElem?_eq_getElem (by rw [wtF_len]; exact hlt)] at cj
      have fj := hO.frozenAt j
      obtain ⟨hO2, hg2⟩ := hO.stored j (.int .i64 (f mb0 - f ma0))
      rw [map_set_int, HNX.out] at hO2
      have r0 := (put_other (b := w.heap.size + 1 + 1) (i := j) (k := w.heap.size) (.int .i64 (f mb0 - f ma0)) (by omega)).trans y0
      have r1 := (put_other (b := w.heap.size + 1 + 1) (i := j) (k := w.heap.size + 1) (.int .i64 (f mb0 - f ma0)) (by omega)).trans y1
      have hbw3 : Below w.heap.size w (W4.setCell ⟨w.heap.size + 1 + 1, j, none⟩ (.int .i64 (f mb0 - f ma0))) := hbw.setCell (p := ⟨w.heap.size + 1 + 1, j, none⟩) (by simp; omega) _
      have HO2 := Lib.hid hO2
      have HBW := Lib.hid hbw3
      clear hO hO2 hg2 hbw hbw3 y0 y1
      go_wp2_with fail
      go_roundw
      case rel => exact ⟨j + 1, by push_cast; rfl, by omega, HO2.out, r0, r1, HBW.out⟩
      case measure => simp [intOf]; omega
    · obtain rfl : j = n := by omega
      go_wp2_with fail
      go_ret
      exact ⟨_, rfl, by rw [wtF_len]; exact Joins.ownsRow_le hO (by omega), hbw⟩
theorem wtF_loads (n : Nat) (f : Nat → Int) (g : Int → Int) (h : ∀ i : Nat, i ≤ n → f i = g i) : wtF 0 n f n = wtL n g := by
  unfold wtF wtL
  apply List.map_congr_left
  intro i hi
  have hi := List.mem_range.1 hi
  have e1 : markN 0 (i + 1) = i + 1 := by unfold markN; rw [if_neg (by omega)]; omega
  have e2 : markN 0 i = i := by unfold markN; split <;> omega
  rw [if_pos hi, e1, e2, h _ (by omega), h _ (by omega)]
  push_cast; rfl
theorem wtF_draws (k : Kl) (f : Nat → Int) (g : Int → Int) (h : ∀ i : Nat, (i : Int) < marksN k → f i = g i) : wtF k.ls.length k.ds.length f k.ds.length = wtD k g := by
  unfold wtF wtD
  apply List.map_congr_left
  intro i hi
  have hi := List.mem_range.1 hi
  have key : ∀ c : Nat, c ≤ k.ds.length → f (markN k.ls.length c) = g (markI k c) := fun c hc => by
    have e : markI k c = (markN k.ls.length c : Nat) := by rw [← markN_eq]; rfl
    rw [e]
    refine h _ ?_
    rw [← e]
    exact (mark_rng k (by omega) (by omega)).2
  rw [if_pos hi, key _ (by omega), key _ (by omega)]
  push_cast; rfl
set_option maxRecDepth 100000 in
set_option maxHeartbeats 4000000 in
theorem truthOf_c (k : Kl) (v : Value) (f : Nat → Int) (w : World) (hv : Kiln w v k) (hl : k.ls.length ≤ 20) (hd : k.ds.length ≤ 20) (hf : ∀ i, i < 41 → -1152921504606846976 ≤ f i ∧ f i ≤ 1152921504606846976) :
    Calls Tryz.prog 89 #[v, .agg (hgA f)] w fun e w' => ∃ u, e = .returned u ∧ OwnTruth w' w.heap.size u (wtF 0 k.ls.length f k.ls.length) (wtF k.ls.length k.ds.length f k.ds.length) ∧ Below w.heap.size w w' := by
  obtain ⟨A1, c1, A2, c2, A3, c3, rfl⟩ := kilnForm hv
  obtain ⟨q0, q1, q2, -, qb⟩ := three_new w (.cells #[.int .i64 k.room, .int .i64 k.per, .slice A1 k.ls.length c1, .slice A2 k.ds.length c2, .slice A3 k.ws.length c3] 26) (.cells (hgA f) 124) (.cells #[.slice none 0 0, .slice none 0 0] 29)
  have HF := Lib.hid hf
  clear hv hf
  go_enter Tryz.func89, Tryz.ntmps89
  go_wp2_with fail
  generalize ((w.alloc _).alloc _).alloc _ = W1 at q0 q1 q2 qb ⊢
  refine wp_region_looseM [] [0, 2, 4, 6] (.one 1 (.one 3 (.one 5 (.one 7 .done)))) [] [] [8, 9] [] [] (by kernel_rfl) (by kernel_rfl) (by intro c a d v w h; cases d <;> exact h) (by intro c a d v w h; cases d <;> exact h) rfl (fun r i h => by simp at h) ?_
  simp only [pick, List.filterMap_cons, List.filterMap_nil, List.getElem?_toArray, List.getElem?_cons_succ, List.getElem?_cons_zero]
  intro u1 hu1
  replace q0 := (hu1.block _ (size_of_block q0)).trans q0
  replace q2 := (hu1.block _ (size_of_block q2)).trans q2
  replace q1 := (hu1.block _ (size_of_block q1)).trans q1
  replace qb := below_then qb hu1
  have cq00 := Joins.cell_of_block q0 0
  have cq01 := Joins.cell_of_block q0 1
  have cq02 := Joins.cell_of_block q0 2
  have cq03 := Joins.cell_of_block q0 3
  have cq04 := Joins.cell_of_block q0 4
  have zq0 := size_of_block q0
  have hcg : ∀ (g : Gr u1) b o, b < u1.heap.size → g.val.cell? ⟨b, o, none⟩ = u1.cell? ⟨b, o, none⟩ := fun g b o h => (bcell g.b).1 b o h
  iterate 4 (first | (refine wpRel_load_row rfl 124 _ rfl _ rfl _ (hgA f) _ _ q1 Tryz.underlying124 rfl (by rw [hgA_size]; kernel_rfl) ?_; try simp only [Act.put, List.setIfInBounds_toArray, List.set_cons_zero, List.set_cons_succ]) | (refine wpRel_step (fun K hK => ?_); go_simp; refine hK _ ?_; clear hK K))
  refine wpRel_nil fun V1_0 hb1 => ?_
  clear hcg cq00 cq01 cq02 cq03 cq04 zq0
  replace q0 := (hb1.block _ (size_of_block q0)).trans q0
  replace q1 := (hb1.block _ (size_of_block q1)).trans q1
  replace q2 := (hb1.block _ (size_of_block q2)).trans q2
  replace qb := below_then qb hb1
  clear hb1 hu1
  refine wpTr_step rfl rfl fun K hK => ?_
  go_simp
  refine (loadsV _ _ _ _ _ _ _ V1_0).mono ?_
  rintro e X ⟨rfl, hx⟩
  refine hK _ _ hx fun V1_1 hu => ?_
  clear hK K
  have hxu := below_then hx hu
  replace q0 := (hxu.block _ (size_of_block q0)).trans q0
  replace q1 := (hxu.block _ (size_of_block q1)).trans q1
  replace q2 := (hxu.block _ (size_of_block q2)).trans q2
  replace qb := below_then qb hxu
  clear hx hu hxu
  have BB1 := qb.size
  refine wpTr_step rfl rfl fun K hK => ?_
  go_simp
  refine (weightsL_c A1 k.ls.length c1 0 f V1_1 (by omega) (by omega) HF.out).mono ?_
  rintro e X ⟨ul, rfl, hO, hx⟩
  refine hK _ _ hx fun V1_2 hu => ?_
  clear hK K
  replace hO := own_below hO hu
  have hxu := below_then hx hu
  replace q0 := (hxu.block _ (size_of_block q0)).trans q0
  replace q1 := (hxu.block _ (size_of_block q1)).trans q1
  replace q2 := (hxu.block _ (size_of_block q2)).trans q2
  replace qb := below_then qb hxu
  clear hx hu hxu
  refine wpTr_step rfl rfl fun K hK => ?_
  go_simp
  refine (drawsV _ _ _ _ _ _ _ _ _ V1_2).mono ?_
  rintro e X ⟨rfl, hx⟩
  refine hK _ _ hx fun V1_3 hu => ?_
  clear hK K
  have hxu := below_then hx hu
  replace q0 := (hxu.block _ (size_of_block q0)).trans q0
  replace q1 := (hxu.block _ (size_of_block q1)).trans q1
  replace q2 := (hxu.block _ (size_of_block q2)).trans q2
  replace hO := own_below hO hxu
  replace qb := below_then qb hxu
  clear hx hu hxu
  have BB3 := qb.size
  refine wpTr_step rfl rfl fun K hK => ?_
  go_simp
  refine (weightsD_c A2 k.ds.length c2 k.ls.length f V1_3 (by omega) (by omega) HF.out).mono ?_
  rintro e X ⟨ud, rfl, hP, hx⟩
  refine hK _ _ hx fun V1_4 hu => ?_
  clear hK K
  replace hP := own_below hP hu
  have hxu := below_then hx hu
  replace q0 := (hxu.block _ (size_of_block q0)).trans q0
  replace q1 := (hxu.block _ (size_of_block q1)).trans q1
  replace q2 := (hxu.block _ (size_of_block q2)).trans q2
  replace hO := own_below hO hxu
  replace qb := below_then qb hxu
  clear hx hu hxu
  show wpPure _ _ _ _
  intro ks hks _ _
  obtain rfl : ks = [] := List.length_eq_zero_iff.1 hks
  clear hks
  show wpList _ _ _ _ _ _
  simp only [deco]
  obtain ⟨Aa, ca, rfl⟩ := own_form hO
  obtain ⟨Ab, cb, rfl⟩ := own_form hP
  have hne := own_ne_block hO q2 (by decide)
  have hnf := own_ne_block hP q2 (by decide)
  generalize hL1 : wtF 0 k.ls.length f k.ls.length = L1 at hO hne
  generalize hL2 : wtF k.ls.length k.ds.length f k.ds.length = L2 at hP hnf
  have n1 : L1.length ≤ 20 := by rw [← hL1, wtF_len]; exact hl
  have n2 : L2.length ≤ 20 := by rw [← hL2, wtF_len]; exact hd
  have HL1 := Lib.hid hL1
  have HL2 := Lib.hid hL2
  have hO2 := own_setCell (own_setCell hO 0 (.slice Aa L1.length ca) hne) 1 (.slice Ab L2.length cb) hne
  have hP2 := own_setCell (own_setCell hP 0 (.slice Aa L1.length ca) hnf) 1 (.slice Ab L2.length cb) hnf
  have HO := Lib.hid (Joins.ownsRow_le hO2 (show w.heap.size ≤ V1_1.heap.size from BB1))
  have HP := Lib.hid (Joins.ownsRow_le hP2 (show w.heap.size ≤ V1_3.heap.size from BB3))
  have HPP := Lib.hid (put2 (.slice Aa L1.length ca) (.slice Ab L2.length cb) q2)
  have e0 := Joins.cell_of_block q2 0
  have e1 := Joins.cell_of_block q2 1
  have f0 := Joins.unfrozen_of_block q2 0
  have f1 := Joins.unfrozen_of_block q2 1
  clear hO hO2 hne hP hP2 hnf hL1 hL2 n1 n2
  go_wp2_with fail
  refine bodyPost_ret (v := .agg #[.slice Aa L1.length ca, .slice Ab L2.length cb]) ?_ rfl ⟨_, rfl, by rw [HL1.out, HL2.out]; exact ⟨_, _, rfl, HO.out, HP.out⟩, below_set (below_set qb (by omega)) (by omega)⟩
  simp [results, Tryz.results89, go_sem, HPP.out.1, HPP.out.2]
end Go.Proofs.YtnedcclmfokdnaaGreat
namespace Go.Proofs.YtnedcclmfokdnaaGreat
open Go Go.RowKit Go.Shelf
end Go.Proofs.YtnedcclmfokdnaaGreat
namespace Go.Proofs.YtnedcclmfokdnaaGreat
open Go Go.RowKit Go.Shelf
attribute [local go_sem] Oper.semAt_some
end Go.Proofs.YtnedcclmfokdnaaGreat
