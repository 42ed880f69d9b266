import Derived.Test.YtnedcclmfokdnaaGreatJ26
import Derived.Test.YtnedcclmfokdnaaGreatZSSpecE
import Derived.Test.YtnedcclmfokdnaaGreatZSNeededE
namespace Go.Proofs.YtnedcclmfokdnaaGreat
open Go Go.RowKit Go.Shelf
attribute [local go_sem] Oper.semAt_some Rel RelAt RelUpon
set_option maxRecDepth 100000 in
set_option maxHeartbeats 8000000 in
theorem Suspects_c (k : Kl) (v : Value) (w : World) (hv : Kiln w v k) :
    Calls Tryz.prog 56 #[v] w fun e w' => ∃ u, e = .returned (.tuple #[u, .int .i64 (checkI k)]) ∧ w'.ownsRow w.heap.size 3 1 u (suspE k).length ((suspE k).map (Value.int .i64)) ∧ Below w.heap.size w w' := by
  obtain ⟨A1, c1, A2, c2, A3, c3, rfl⟩ := kilnForm hv
  have q0 := heap_alloc_new w (.cells #[.int .i64 k.room, .int .i64 k.per, .slice A1 k.ls.length c1, .slice A2 k.ds.length c2, .slice A3 k.ws.length c3] 26)
  have qb := below_alloc w (.cells #[.int .i64 k.room, .int .i64 k.per, .slice A1 k.ls.length c1, .slice A2 k.ds.length c2, .slice A3 k.ws.length c3] 26)
  have hk := hv.later qb
  clear hv
  go_enter Tryz.func56, Tryz.ntmps56
  have y0 := Joins.cell_of_block q0 0
  have y1 := Joins.cell_of_block q0 1
  have y2 := Joins.cell_of_block q0 2
  have y3 := Joins.cell_of_block q0 3
  have y4 := Joins.cell_of_block q0 4
  go_wp2_with fail
  generalize w.alloc _ = W1 at q0 qb hk ⊢
  refine (check_c k _ W1 hk).mono ?_
  rintro e W2 ⟨rfl, hF⟩
  replace q0 := (hF.block _ (size_of_block q0)).trans q0
  replace qb := below_then qb hF
  replace hk := hk.later hF
  clear hF y0 y1 y2 y3 y4
  by_cases h0 : checkI k = 0
  · have d0 : ((0 : Int) != 0) = false := rfl
    have HR := Lib.hid (right_of_check h0)
    have HC0 := Lib.hid h0
    rw [h0]
    clear h0
    have y0 := Joins.cell_of_block q0 0
    have y1 := Joins.cell_of_block q0 1
    have y2 := Joins.cell_of_block q0 2
    have y3 := Joins.cell_of_block q0 3
    have y4 := Joins.cell_of_block q0 4
    go_wp2_with fail
    refine (netOf_d k _ W2 hk HR.out).mono ?_
    rintro e W3 ⟨u, rfl, ⟨hT, _⟩, hF⟩
    replace q0 := (hF.block _ (size_of_block q0)).trans q0
    replace qb := below_then qb hF
    replace hk := hk.later hF
    clear hF y0 y1 y2 y3 y4
    have HAG := Lib.hid (agreesK_c k u W3 HR.out hT)
    clear hT
    go_wp2_with fail
    refine HAG.out.mono ?_
    rintro e W4 ⟨rfl, hF⟩
    replace q0 := (hF.block _ (size_of_block q0)).trans q0
    replace qb := below_then qb hF
    replace hk := hk.later hF
    clear hF HAG
    by_cases hcc : canB (tiesL k) = true
    · have HLE := Lib.hid (show suspE k = [] by unfold suspE; rw [if_neg (by rw [hcc]; simp)])
      rw [hcc]
      clear hcc hk
      go_wp2_with fail
      refine bodyPost_ret (v := .tuple #[.slice none 0 0, .int .i64 0]) ?_ rfl ⟨_, by rw [HC0.out], by rw [HLE.out]; exact World.ownsRow_nil _ _ _ _, qb⟩
      simp [results, Tryz.results56, go_sem]
    · have hcf : canB (tiesL k) = false := by simpa using hcc
      have HLE := Lib.hid (show suspE k = sortI (needL k (fun k' => canB (tiesL k')) k.ws.length) by unfold suspE; rw [if_pos ⟨HC0.out, hcf⟩])
      rw [hcf]
      have HN := Lib.hid (needed0_c k (.agg #[.int .i64 k.room, .int .i64 k.per, .slice A1 k.ls.length c1, .slice A2 k.ds.length c2, .slice A3 k.ws.length c3]) 128 (fun k' => canB (tiesL k')) W4 hk HR.out (enters_of Tryz.func128 (by kernel_rfl) rfl) fun W u g _ _ hT => agreesK_c (lessK k [g.id]) u W (less_right HR.out _) hT)
      clear hcc hcf hk
      have y0 := Joins.cell_of_block q0 0
      have y1 := Joins.cell_of_block q0 1
      have y2 := Joins.cell_of_block q0 2
      have y3 := Joins.cell_of_block q0 3
      have y4 := Joins.cell_of_block q0 4
      go_wp2_with fail
      refine HN.out.mono ?_
      rintro e W9 ⟨u9, rfl, ho9, hb9⟩
      have qb9 := below_then qb hb9
      have ho := own_less ho9 qb.size
      clear HN hb9 ho9 qb q0 y0 y1 y2 y3 y4
      go_wp2_with fail
      refine bodyPost_ret (v := .tuple #[u9, .int .i64 0]) ?_ rfl ⟨u9, by rw [HC0.out], by rw [HLE.out]; exact ho, qb9⟩
      simp [results, Tryz.results56, go_sem]
  · have d0 : (checkI k != 0) = true := by simpa using h0
    have HLE := Lib.hid (show suspE k = [] by unfold suspE; rw [if_neg (fun h => h0 h.1)])
    clear h0 hk
    go_wp2_with fail
    refine bodyPost_ret (v := .tuple #[.slice none 0 0, .int .i64 (checkI k)]) ?_ rfl ⟨_, rfl, by rw [HLE.out]; exact World.ownsRow_nil _ _ _ _, qb⟩
    simp [results, Tryz.results56, go_sem]
end Go.Proofs.YtnedcclmfokdnaaGreat
