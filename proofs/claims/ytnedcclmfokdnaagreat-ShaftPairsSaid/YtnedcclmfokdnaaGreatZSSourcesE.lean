import Derived.Test.YtnedcclmfokdnaaGreatJ25
import Derived.Test.YtnedcclmfokdnaaGreatZSSpecE
import Derived.Test.YtnedcclmfokdnaaGreatZSMetE
namespace Go.Proofs.YtnedcclmfokdnaaGreat
open Go Go.RowKit Go.Shelf
attribute [local go_sem] Oper.semAt_some Rel RelAt RelUpon
set_option maxRecDepth 100000 in
set_option maxHeartbeats 4000000 in
theorem Sinks_c (k : Kl) (v : Value) (id : Int) (w : World) (hv : Kiln w v k) :
    Calls Tryz.prog 51 #[v, .int .i64 id] w fun e w' => ∃ u1 u2, e = .returned (.tuple #[u1, u2, .int .i64 (sinkE k id)]) ∧
      (w'.ownsRow w.heap.size 3 1 u1 (sinkS k id).length ((sinkS k id).map (Value.int .i64)) ∧ w'.ownsRow w.heap.size 3 1 u2 (sinkM k id).length ((sinkM k id).map (Value.int .i64))) ∧ Below w.heap.size w w' := by
  obtain ⟨A1, c1, A2, c2, A3, c3, rfl⟩ := kilnForm hv
  have q0 := heap_alloc_new w (.cells #[.int .i64 k.room, .int .i64 k.per, .slice A1 k.ls.length c1, .slice A2 k.ds.length c2, .slice A3 k.ws.length c3] 26)
  have qb := below_alloc w (.cells #[.int .i64 k.room, .int .i64 k.per, .slice A1 k.ls.length c1, .slice A2 k.ds.length c2, .slice A3 k.ws.length c3] 26)
  have hk := hv.later qb
  clear hv
  go_enter Tryz.func51, Tryz.ntmps51
  have y0 := Joins.cell_of_block q0 0
  have y1 := Joins.cell_of_block q0 1
  have y2 := Joins.cell_of_block q0 2
  have y3 := Joins.cell_of_block q0 3
  have y4 := Joins.cell_of_block q0 4
  go_wp2_with fail
  generalize w.alloc _ = W1 at q0 qb hk ⊢
  refine (check_c k _ W1 hk).mono ?_
  rintro e W2 ⟨rfl, hF⟩
  replace q0 := (hF.block _ (size_of_block q0)).trans q0
  replace qb := below_then qb hF
  replace hk := hk.later hF
  clear hF y0 y1 y2 y3 y4
  by_cases h0 : checkI k = 0
  · have d0 : (checkI k != 0) = false := by rw [h0]; rfl
    have HR := Lib.hid (right_of_check h0)
    have HMC := Lib.hid (fun W hW => metD_c k A1 A2 A3 c1 c2 c3 id W hW HR.out)
    clear h0
    obtain ⟨E0, hE0⟩ : ∃ x, x = sinkE k id := ⟨_, rfl⟩
    obtain ⟨S0, hS0⟩ : ∃ x, x = sinkS k id := ⟨_, rfl⟩
    obtain ⟨M0, hM0⟩ : ∃ x, x = sinkM k id := ⟨_, rfl⟩
    rw [← hE0, ← hS0, ← hM0] at HMC
    have HE0 := Lib.hid hE0
    have HS0 := Lib.hid hS0
    have HM0 := Lib.hid hM0
    clear hE0 hS0 hM0
    have y0 := Joins.cell_of_block q0 0
    have y1 := Joins.cell_of_block q0 1
    have y2 := Joins.cell_of_block q0 2
    have y3 := Joins.cell_of_block q0 3
    have y4 := Joins.cell_of_block q0 4
    go_wp2_with fail
    refine wp_region_looseM [5] [0, 1, 3] (.one 2 (.one 4 (.one 6 .done))) [] [7, 8, 9] [10, 11, 12] [] [] (by kernel_rfl) (by kernel_rfl) (by intro c a d v w h; cases d <;> exact h) (by intro c a d v w h; cases d <;> exact h) rfl (fun r i h => by simp at h) ?_
    simp only [pick, List.filterMap_cons, List.filterMap_nil, List.getElem?_toArray, List.getElem?_cons_succ, List.getElem?_cons_zero]
    refine wpPure_step (.int .i64 id) rfl (fun u => by first | rfl | kernel_rfl | simp [execOp, go_sem]) ?_
    intro u1 hu1
    replace q0 := (hu1.block _ (size_of_block q0)).trans q0
    replace hk := hk.later hu1
    replace qb := below_then qb hu1
    have cq00 := Joins.cell_of_block q0 0
    have cq01 := Joins.cell_of_block q0 1
    have cq02 := Joins.cell_of_block q0 2
    have cq03 := Joins.cell_of_block q0 3
    have cq04 := Joins.cell_of_block q0 4
    have zq0 := size_of_block q0
    have hcg : ∀ (g : Gr u1) b o, b < u1.heap.size → g.val.cell? ⟨b, o, none⟩ = u1.cell? ⟨b, o, none⟩ := fun g b o h => (bcell g.b).1 b o h
    iterate 3 (refine wpRel_step (fun K hK => ?_); go_simp; refine hK _ ?_; clear hK K)
    refine wpRel_nil fun V1_0 hb1 => ?_
    clear hcg cq00 cq01 cq02 cq03 cq04 zq0
    replace q0 := (hb1.block _ (size_of_block q0)).trans q0
    replace hk := hk.later hb1
    replace qb := below_then qb hb1
    clear hb1 hu1
    refine wpTr_step rfl rfl fun K hK => ?_
    go_simp
    refine (drawsV _ _ _ _ _ _ _ _ _ V1_0).mono ?_
    rintro e X ⟨rfl, hx⟩
    refine hK _ _ hx fun V1_1 hu => ?_
    clear hK K
    have hxu := below_then hx hu
    replace q0 := (hxu.block _ (size_of_block q0)).trans q0
    replace hk := hk.later hxu
    replace qb := below_then qb hxu
    clear hx hu hxu
    refine wpTr_step rfl rfl fun K hK => ?_
    go_simp
    refine (loadsV _ _ _ _ _ _ _ V1_1).mono ?_
    rintro e X ⟨rfl, hx⟩
    refine hK _ _ hx fun V1_2 hu => ?_
    clear hK K
    have hxu := below_then hx hu
    replace q0 := (hxu.block _ (size_of_block q0)).trans q0
    replace hk := hk.later hxu
    replace qb := below_then qb hxu
    clear hx hu hxu
    refine wpTr_step rfl rfl fun K hK => ?_
    go_simp
    refine (HMC.out V1_2 hk).mono ?_
    rintro e X ⟨u1, u2, rfl, ⟨hO1, hO2⟩, hx⟩
    replace hO1 := own_less hO1 qb.size
    replace hO2 := own_less hO2 qb.size
    refine hK _ _ hx fun V1_3 hu => ?_
    clear hK K
    have hxu := below_then hx hu
    replace hO1 := own_later hO1 hu
    replace hO2 := own_later hO2 hu
    replace q0 := (hxu.block _ (size_of_block q0)).trans q0
    replace hk := hk.later hxu
    replace qb := below_then qb hxu
    clear hx hu hxu
    show wpPure _ _ _ _
    refine wpPure_step (u1) rfl (fun u => rfl) ?_
    refine wpPure_step (u2) rfl (fun u => rfl) ?_
    refine wpPure_step (.int .i64 E0) rfl (fun u => rfl) ?_
    intro ks hks _ _
    obtain rfl : ks = [] := List.length_eq_zero_iff.1 hks
    clear hks
    show wpList _ _ _ _ _ _
    simp only [deco]
    clear hk q0
    go_wp2_with fail
    refine bodyPost_ret (v := .tuple #[u1, u2, .int .i64 E0]) ?_ rfl ⟨u1, u2, by rw [HE0.out], ⟨by rw [← HS0.out]; exact hO1, by rw [← HM0.out]; exact hO2⟩, qb⟩
    simp [results, Tryz.results51, go_sem]
  · have d0 : (checkI k != 0) = true := by simpa using h0
    have HEE := Lib.hid (show sinkE k id = checkI k by unfold sinkE pairE; rw [if_pos h0, if_pos h0])
    have HSS := Lib.hid (show sinkS k id = [] ∧ sinkM k id = [] by unfold sinkS sinkM; rw [HEE.out, if_neg h0, if_neg h0]; exact ⟨rfl, rfl⟩)
    clear h0 hk
    go_wp2_with fail
    refine bodyPost_ret (v := .tuple #[.slice none 0 0, .slice none 0 0, .int .i64 (checkI k)]) ?_ rfl ⟨_, _, by rw [HEE.out], ⟨by rw [HSS.out.1]; exact World.ownsRow_nil _ _ _ _, by rw [HSS.out.2]; exact World.ownsRow_nil _ _ _ _⟩, qb⟩
    simp [results, Tryz.results51, go_sem]
end Go.Proofs.YtnedcclmfokdnaaGreat
