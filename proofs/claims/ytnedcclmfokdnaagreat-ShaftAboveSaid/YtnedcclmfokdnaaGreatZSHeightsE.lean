import Derived.Test.YtnedcclmfokdnaaGreatJ15
import Derived.Test.YtnedcclmfokdnaaGreatZSPileDE
namespace Go.Proofs.YtnedcclmfokdnaaGreat
open Go Go.RowKit Go.Shelf
theorem four_newS (w : World) (o0 o1 o2 o3 : Obj) : ((((w.alloc o0).alloc o1).alloc o2).alloc o3).heap[w.heap.size]? = some o0 ∧ ((((w.alloc o0).alloc o1).alloc o2).alloc o3).heap[w.heap.size + 1]? = some o1 ∧ ((((w.alloc o0).alloc o1).alloc o2).alloc o3).heap[w.heap.size + 1 + 1]? = some o2 ∧
    ((((w.alloc o0).alloc o1).alloc o2).alloc o3).heap[w.heap.size + 1 + 1 + 1]? = some o3 ∧ ((((w.alloc o0).alloc o1).alloc o2).alloc o3).heap.size = w.heap.size + 4 ∧ Below w.heap.size w ((((w.alloc o0).alloc o1).alloc o2).alloc o3) := by
  obtain ⟨a, b, c, d, e⟩ := three_new w o0 o1 o2
  have h := below_alloc (((w.alloc o0).alloc o1).alloc o2) o3
  have hs : (((w.alloc o0).alloc o1).alloc o2).heap.size = w.heap.size + 1 + 1 + 1 := by rw [d]
  refine ⟨(h.block _ (by omega)).trans a, (h.block _ (by omega)).trans b, (h.block _ (by omega)).trans c, ?_, by simp, below_then e h⟩
  rw [← hs]; exact heap_alloc_new _ _
def hgtN (n : Nat) (tl td : List Int) : Nat → Int := pileF n td (pileF 0 tl (fun _ => 0) tl.length) td.length
theorem hgtN_eq {k : Kl} {tl td : List Int} (h1 : tl.length = k.ls.length) (h2 : td.length = k.ds.length) {v : Nat} (hv : (v : Int) < marksN k) : hgtN k.ls.length tl td v = hgt k.ls.length tl td v := by
  unfold marksN at hv
  unfold hgtN pileF hgt
  by_cases h : v ≤ k.ls.length
  · have e1 : ¬ (k.ls.length < v ∧ v ≤ k.ls.length + td.length) := by omega
    have e2 : (v : Int) ≤ (k.ls.length : Int) := by omega
    rw [if_neg e1, if_pos e2, Int.toNat_natCast]
    by_cases h0 : v = 0
    · subst h0
      have e3 : ¬ (0 < 0 ∧ 0 ≤ 0 + tl.length) := by omega
      rw [if_neg e3]; rfl
    · have e3 : 0 < v ∧ v ≤ 0 + tl.length := by omega
      rw [if_pos e3, Nat.sub_zero]
  · have e1 : k.ls.length < v ∧ v ≤ k.ls.length + td.length := by omega
    have e2 : ¬ (v : Int) ≤ (k.ls.length : Int) := by omega
    rw [if_pos e1, if_neg e2, show ((v : Int) - (k.ls.length : Int)).toNat = v - k.ls.length by omega]
set_option maxRecDepth 100000 in
set_option maxHeartbeats 4000000 in
theorem heightsOf_c (k : Kl) (v t : Value) (tl td : List Int) (w : World) (hv : Kiln w v k) (ht : Truth w t tl td) (h1 : wtsB tl k.ls.length = true) (h2 : wtsB td k.ds.length = true) (hl : k.ls.length ≤ 20) (hd : k.ds.length ≤ 20) :
    Calls Tryz.prog 73 #[v, t] w fun e w' => e = .returned (.agg (hgA (hgtN k.ls.length tl td))) ∧ Below w.heap.size w w' := by
  obtain ⟨A1, c1, A2, c2, A3, c3, rfl⟩ := kilnForm hv
  obtain ⟨a, b, rfl, ha, hb⟩ := ht
  obtain ⟨Aa, ca, rfl⟩ := Sl.form1 ha
  obtain ⟨Ab, cb, rfl⟩ := Sl.form1 hb
  obtain ⟨q0, q1, q2, q3, qs, qb⟩ := four_newS w (.cells #[.int .i64 k.room, .int .i64 k.per, .slice A1 k.ls.length c1, .slice A2 k.ds.length c2, .slice A3 k.ws.length c3] 26) (.cells #[.slice Aa k.ls.length ca, .slice Ab k.ds.length cb] 29) (.cells zeroH 124) (.cells zeroH 124)
  obtain ⟨w1, w2⟩ := wtsB_iff.1 h1
  obtain ⟨w3, w4⟩ := wtsB_iff.1 h2
  have HA := Lib.hid (show Ints w w.heap.size (.slice Aa k.ls.length ca) tl by rw [← w1]; exact ha)
  have HB := Lib.hid (show Ints w w.heap.size (.slice Ab k.ds.length cb) td by rw [← w3]; exact hb)
  have HW2 := Lib.hid w2
  have HW4 := Lib.hid w4
  clear ha hb hv h1 h2 w2 w4
  unfold zeroH at q0 q1 q2 q3 qs qb
  go_enter Tryz.func73, Tryz.ntmps73
  go_wp2_with fail
  generalize (((w.alloc _).alloc _).alloc _).alloc _ = W1 at q0 q1 q2 q3 qs qb ⊢
  have q3z : W1.heap[w.heap.size + 1 + 1 + 1]? = some (.cells (hgA (fun _ => 0)) 124) := by rw [← zeroH_eq]; exact q3
  have q2z : W1.heap[w.heap.size + 1 + 1]? = some (.cells (hgA (fun _ => 0)) 124) := by rw [← zeroH_eq]; exact q2
  have c0 := Joins.cell_of_block q0 0
  have c1' := Joins.cell_of_block q0 1
  have c2' := Joins.cell_of_block q0 2
  have c3' := Joins.cell_of_block q0 3
  have c4 := Joins.cell_of_block q0 4
  have d0 := Joins.cell_of_block q1 0
  clear q2 q3
  refine wp_region_grown_tail 4 (by kernel_rfl) (by kernel_rfl) fun hcg => ?_
  simp only [List.take_succ_cons, List.take_zero, List.drop_succ_cons, List.drop_zero]
  repeat (go_big_quiet_step ((go_at_call 77; exact Calls.grown (loadsV _ _ _ _ _ _ _ _))))
  refine wpQuiet_nil ?_
  intro _ hw'
  obtain ⟨g, hw''⟩ := hw'
  subst hw''
  have q0g := (g.b.block _ (size_of_block q0)).trans q0
  have q1g := (g.b.block _ (size_of_block q1)).trans q1
  have q2g := (g.b.block _ (size_of_block q2z)).trans q2z
  have q3g := (g.b.block _ (size_of_block q3z)).trans q3z
  have qbg := below_then qb g.b
  generalize g.val = W2 at q0g q1g q2g q3g qbg ⊢
  clear hcg c0 c1' c2' c3' c4 d0 q0 q1 q2z q3z qs
  have hP := pileL_c A1 k.ls.length c1 0 (w.heap.size + 1 + 1 + 1) w.heap.size (fun _ => 0) (.slice Aa k.ls.length ca) tl W2 (by omega) (by omega) rfl HW2.out (HA.out.below qbg) (by omega) q3g
  have HP := Lib.hid hP
  clear hP
  go_wp2_with fail
  refine HP.out.mono ?_
  rintro e W3 ⟨⟨u, rfl⟩, q3, hb3⟩
  replace q0 := (hb3.block _ (by omega)).trans q0g
  replace q1 := (hb3.block _ (by omega)).trans q1g
  have q2 := (hb3.block _ (by omega)).trans q2g
  replace qb := qbg.trans (hb3.mono (by omega))
  clear HP hb3 q0g q1g q2g q3g qbg
  have c0 := Joins.cell_of_block q0 0
  have c1' := Joins.cell_of_block q0 1
  have c2' := Joins.cell_of_block q0 2
  have c3' := Joins.cell_of_block q0 3
  have c4 := Joins.cell_of_block q0 4
  have d1 := Joins.cell_of_block q1 1
  have z0 := size_of_block q0
  have z1 := size_of_block q1
  go_wp2_with fail
  refine wp_region_grown_tail 4 (by kernel_rfl) (by kernel_rfl) fun hcg => ?_
  simp only [List.take_succ_cons, List.take_zero, List.drop_succ_cons, List.drop_zero]
  repeat (go_big_quiet_step ((go_at_call 79; exact Calls.grown (drawsV _ _ _ _ _ _ _ _ _ _))))
  refine wpQuiet_nil ?_
  intro _ hw'
  obtain ⟨g, hw''⟩ := hw'
  subst hw''
  have q2g := (g.b.block _ (size_of_block q2)).trans q2
  have q3g := (g.b.block _ (size_of_block q3)).trans q3
  have qbg := below_then qb g.b
  generalize g.val = W4 at q2g q3g qbg ⊢
  clear hcg c0 c1' c2' c3' c4 d1 q0 q1 q2 q3 z0 z1
  have hf0 : pileF 0 tl (fun _ => 0) tl.length 0 = 0 := by unfold pileF; rw [if_neg (by omega)]
  have hP := pileD_c A2 k.ds.length c2 k.ls.length (w.heap.size + 1 + 1 + 1) w.heap.size _ (.slice Ab k.ds.length cb) td W4 (by omega) (by omega) hf0 HW4.out (HB.out.below qbg) (by omega) q3g
  have HP := Lib.hid hP
  clear hP hf0
  go_wp2_with fail
  refine HP.out.mono ?_
  rintro e W5 ⟨⟨u2, rfl⟩, q3, hb5⟩
  have q2 := (hb5.block _ (by omega)).trans q2g
  replace qb := qbg.trans (hb5.mono (by omega))
  clear HP hb5 q2g q3g qbg
  have HE : Hid (pileF k.ls.length td (pileF 0 tl (fun _ => 0) tl.length) td.length = hgtN k.ls.length tl td) := rfl
  rw [HE.out] at q3
  generalize hgtN k.ls.length tl td = F at q3 HE
  have HV := Lib.hid (run_loadVar_row (P := Tryz.prog) (W5.setRow (w.heap.size + 1 + 1) (hgA F)) (w.heap.size + 1 + 1) 124 124 (hgA F) (0, 0) _ (setRow_heap _ _ _ _ _ _ q2) Tryz.underlying124 rfl (by rw [hgA_size]; kernel_rfl))
  have hBF := Lib.hid (below_setRow qb (show w.heap.size ≤ w.heap.size + 1 + 1 by omega) (hgA F))
  go_wp2_with (first | (refine wpList_load_row rfl 124 _ rfl (w.heap.size + 1 + 1 + 1) rfl 124 (hgA F) (0, 0) _ q3 Tryz.underlying124 rfl (by rw [hgA_size]; kernel_rfl) ?_) | (refine wpList_store_rowTo rfl 124 _ _ rfl rfl (w.heap.size + 1 + 1) (hgA F) rfl rfl 124 _ q2 (by kernel_rfl) (by rw [hgA_size]; kernel_rfl) (by rw [hgA_size]; kernel_rfl) ?_))
  refine bodyPost_ret (v := .agg (hgA F)) ?_ rfl ⟨by rw [← HE.out]; rfl, hBF.out⟩
  simp [results, Tryz.results73, asAddr, Act.put, HV.out]
end Go.Proofs.YtnedcclmfokdnaaGreat
