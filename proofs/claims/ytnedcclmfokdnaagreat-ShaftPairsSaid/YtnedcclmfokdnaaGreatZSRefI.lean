/- The reference's Can, heights, weights (written by tools/gensrefi.py). -/
import Derived.Test.YtnedcclmfokdnaaGreatZSRefE
import Derived.Test.YtnedcclmfokdnaaGreatJ27
import Derived.Test.YtnedcclmfokdnaaGreatZSHgtE
import Derived.Test.YtnedcclmfokdnaaGreatZRefBE
namespace Go.Proofs.YtnedcclmfokdnaaGreat
open Go Go.RowKit Go.Shelf
attribute [local go_sem] Oper.semAt_some Rel RelAt RelUpon

/-- The heights as the reference lists them. -/
def hL (tl td : List Int) (i j : Nat) : List Int := (List.range (i + 1)).map (fun v => (tl.take v).sum) ++ (List.range j).map (fun v => (td.take (v + 1)).sum)
theorem hL_len (tl td : List Int) (i j : Nat) : (hL tl td i j).length = i + 1 + j := by simp [hL]
theorem hL_zero (tl td : List Int) : hL tl td 0 0 = [0] := by simp [hL]
theorem hL_load (tl td : List Int) (i : Nat) : hL tl td (i + 1) 0 = hL tl td i 0 ++ [(tl.take (i + 1)).sum] := by
  unfold hL; rw [List.range_succ (n := i + 1)]; simp
theorem hL_draw (tl td : List Int) (i j : Nat) : hL tl td i (j + 1) = hL tl td i j ++ [(td.take (j + 1)).sum] := by
  unfold hL; rw [List.range_succ (n := j)]; simp
theorem hL_at (tl td : List Int) {v : Nat} (h : v < tl.length + 1 + td.length) : (hL tl td tl.length td.length)[v]? = some (hgt tl.length tl td (v : Int)) := by
  unfold hL
  by_cases hv : v < tl.length + 1
  · rw [List.getElem?_append_left (by simpa using hv), List.getElem?_map, List.getElem?_range hv, hgt_load (by omega)]; rfl
  · rw [List.getElem?_append_right (by simp; omega), List.getElem?_map, List.length_map, List.length_range, List.getElem?_range (by omega)]
    unfold hgt
    rw [if_neg (by omega), show ((v : Int) - (tl.length : Int)).toNat = v - (tl.length + 1) + 1 by omega]; rfl
set_option maxRecDepth 100000 in
set_option maxHeartbeats 4000000 in
theorem rCan_c (k : Kl) (v : Value) (w : World) (hk : Kiln w v k) (hR : Right k) : Calls Tryz.prog 29 #[v] w fun e w' => e = .returned (.bool (canB (tiesL k))) ∧ Below w.heap.size w w' := by
  obtain ⟨A1, c1, A2, c2, A3, c3, rfl⟩ := kilnForm hk
  have HK := Lib.hid hk
  clear hk
  go_enter Tryz.func29, Tryz.ntmps29
  have bk := heap_alloc_new w (.cells #[.int .i64 k.room, .int .i64 k.per, .slice A1 k.ls.length c1, .slice A2 k.ds.length c2, .slice A3 k.ws.length c3] 26)
  have HB := below_alloc w (.cells #[.int .i64 k.room, .int .i64 k.per, .slice A1 k.ls.length c1, .slice A2 k.ds.length c2, .slice A3 k.ws.length c3] 26)
  have cbk0 := Joins.cell_of_block bk 0
  have cbk1 := Joins.cell_of_block bk 1
  have cbk2 := Joins.cell_of_block bk 2
  have cbk3 := Joins.cell_of_block bk 3
  have cbk4 := Joins.cell_of_block bk 4
  have zbk := size_of_block bk
  go_wp2_with fail
  generalize (w.alloc (.cells #[.int .i64 k.room, .int .i64 k.per, .slice A1 k.ls.length c1, .slice A2 k.ds.length c2, .slice A3 k.ws.length c3] 26)) = w1 at bk HB cbk0 cbk1 cbk2 cbk3 cbk4 zbk ⊢
  have hB := HB
  clear HB
  clear cbk0 cbk1 cbk2 cbk3 cbk4 zbk
  refine wp_region_looseM [] [0, 2] (.one 1 (.one 3 (.one 4 .done))) [] [5, 6, 7] [8, 9] [] [] (by kernel_rfl) (by kernel_rfl) (by intro c a d v w h; cases d <;> exact h) (by intro c a d v w h; cases d <;> exact h) rfl (fun r i h => by simp at h) ?_
  simp only [pick, List.filterMap_cons, List.filterMap_nil, List.getElem?_toArray, List.getElem?_cons_succ, List.getElem?_cons_zero]
  intro u2 hu2
  replace bk := (hu2.block _ (size_of_block bk)).trans bk
  replace hB := below_then hB hu2
  have cbk0 := Joins.cell_of_block bk 0
  have cbk1 := Joins.cell_of_block bk 1
  have cbk2 := Joins.cell_of_block bk 2
  have cbk3 := Joins.cell_of_block bk 3
  have cbk4 := Joins.cell_of_block bk 4
  have zbk := size_of_block bk
  have hcg : ∀ (g : Gr u2) b o, b < u2.heap.size → g.val.cell? ⟨b, o, none⟩ = u2.cell? ⟨b, o, none⟩ := fun g b o h => (bcell g.b).1 b o h
  iterate 2 (first | (refine wpRel_step (fun K hK => ?_); go_simp; refine hK _ ?_; clear hK K))
  refine wpRel_nil fun V2_0 hb2 => ?_
  clear hcg cbk0 cbk1 cbk2 cbk3 cbk4 zbk
  replace bk := (hb2.block _ (size_of_block bk)).trans bk
  replace hB := below_then hB hb2
  clear hb2 hu2
  refine wpTr_step rfl rfl fun K hK => ?_
  go_simp
  refine (marks_c k _ V2_0 (HK.out.later hB)).mono ?_
  rintro e X ⟨rfl, hx⟩
  refine hK _ _ hx fun V2_1 hu => ?_
  clear hK K
  have hxu := below_then hx hu
  replace bk := (hxu.block _ (size_of_block bk)).trans bk
  replace hB := below_then hB hxu
  clear hx hu hxu
  refine wpTr_step rfl rfl fun K hK => ?_
  go_simp
  refine (rties_c k _ V2_1 (HK.out.later hB) hR.small).mono ?_
  rintro e X ⟨u, rfl, hTT, hx⟩
  refine hK _ _ hx fun V2_2 hu => ?_
  clear hK K
  replace hTT := own_later hTT hu
  have hxu := below_then hx hu
  replace bk := (hxu.block _ (size_of_block bk)).trans bk
  replace hB := below_then hB hxu
  clear hx hu hxu
  refine wpTr_step rfl rfl fun K hK => ?_
  go_simp
  refine (rtable_d k u V2_2 hR (OwnTies.at_ hTT (by have := tiesL_len hR.small; omega))).mono ?_
  rintro e X ⟨g, cap, bs, cp, D, rfl, _, hx⟩
  refine hK _ _ hx fun V2_3 hu => ?_
  clear hK K
  have hxu := below_then hx hu
  replace bk := (hxu.block _ (size_of_block bk)).trans bk
  replace hTT := own_later hTT hxu
  replace hB := below_then hB hxu
  clear hx hu hxu
  show wpPure _ _ _ _
  refine wpPure_step (.tuple #[.slice (some ⟨g, 0, none⟩) (mN k) cap, .bool (canB (tiesL k))]) rfl (fun u => by first | rfl | simp [execOp, go_sem]) ?_
  refine wpPure_step (.slice (some ⟨g, 0, none⟩) (mN k) cap) rfl (fun u => by first | rfl | simp [execOp, go_sem]) ?_
  refine wpPure_step (.bool (canB (tiesL k))) rfl (fun u => by first | rfl | simp [execOp, go_sem]) ?_
  intro ks hks _ _
  obtain rfl : ks = [] := List.length_eq_zero_iff.1 hks
  clear hks
  show wpList _ _ _ _ _ _
  simp only [deco]
  go_wp2_with fail
  go_ret
  exact ⟨rfl, hB⟩
set_option maxRecDepth 100000 in
set_option maxHeartbeats 4000000 in
theorem rheights_c (tl td : List Int) (v : Value) (w : World) (ht : Truth w v tl td) (h1 : wtsB tl tl.length = true) (h2 : wtsB td td.length = true) (l1 : tl.length ≤ 20) (l2 : td.length ≤ 20) : Calls Tryz.prog 76 #[v] w fun e w' => ∃ x, e = .returned x ∧ w'.ownsRow w.heap.size 3 1 x (hL tl td tl.length td.length).length ((hL tl td tl.length td.length).map (Value.int .i64)) ∧ Below w.heap.size w w' := by
  obtain ⟨a, b, rfl, ha, hb⟩ := ht
  obtain ⟨A1, c1, rfl, _, _, hat1⟩ := Ints.open_ ha
  obtain ⟨A2, c2, rfl, _, _, hat2⟩ := Ints.open_ hb
  have HA1 := Lib.hid hat1
  have HA2 := Lib.hid hat2
  have HS1 := Lib.hid (sum_take_rng h1 l1)
  have HS2 := Lib.hid (sum_take_rng h2 l2)
  obtain ⟨i0, hi, hz0, hz1, hz2⟩ := info_parts Tryz.infoIntT
  have HI := Lib.hid hi
  have HI0 := Lib.hid hz0
  have HI1 := Lib.hid hz1
  have HI2 := Lib.hid hz2
  clear hi hz0 hz1 hz2 ha hb hat1 hat2 h1 h2
  have q0 := heap_alloc_new w (.cells #[.slice A1 tl.length c1, .slice A2 td.length c2] 29)
  have qb := below_alloc w (.cells #[.slice A1 tl.length c1, .slice A2 td.length c2] 29)
  have hsz1 : (w.alloc (.cells #[.slice A1 tl.length c1, .slice A2 td.length c2] 29)).heap.size = w.heap.size + 1 := by simp
  go_enter Tryz.func76, Tryz.ntmps76
  go_wp2_with fail
  obtain ⟨W1, hW1⟩ : ∃ x, x = w.alloc (.cells #[.slice A1 tl.length c1, .slice A2 td.length c2] 29) := ⟨_, rfl⟩
  rw [← hW1] at q0 qb hsz1 ⊢
  clear hW1
  have Q0 := Lib.hid q0
  have QB := Lib.hid qb
  clear q0 qb
  have hin := own_of_block (base := W1.heap.size) (s := 1) (xs := [.int .i64 0]) 1 (heap_alloc_new W1 (.cells #[.int .i64 0] 3)) (Nat.le_refl _) (by unfold maxLen; omega) rfl rfl
  have hbw0 := below_alloc W1 (.cells #[.int .i64 0] 3)
  have HO0 := Lib.hid hin
  clear hin
  go_loopw [3, 4, 5] (fun u h n wr => ∃ j : Nat, j ≤ tl.length ∧ n = .int .i64 j ∧ h = .int .i64 ((tl.take j).sum) ∧ wr.ownsRow W1.heap.size 3 1 u (hL tl td j 0).length ((hL tl td j 0).map (Value.int .i64)) ∧ Below W1.heap.size W1 wr) (fun _ _ n _ => tl.length - (intOf n).toNat)
  case atStart => exact ⟨0, Nat.zero_le _, rfl, rfl, by rw [hL_zero, hsz1] at *; first | exact HO0.out | (simpa [hsz1] using HO0.out), hbw0⟩
  case round =>
    obtain ⟨j, hj, rfl, rfl, hO, hbw⟩ := hrel
    have q0 := (hbw.block _ (show w.heap.size < W1.heap.size by omega)).trans Q0.out
    have qb := below_then QB.out hbw
    have z0 := Joins.cell_of_block q0 0
    have z1 := Joins.cell_of_block q0 1
    have zq := size_of_block q0
    by_cases hlt : j < tl.length
    · obtain ⟨b, off, x, rfl, hb, hx, c0⟩ := HA1.out j hlt
      have hS := HS1.out j
      have hS2 := HS1.out (j + 1)
      rw [sum_take_succ hx] at hS2
      have HSN := Lib.hid (sum_take_succ hx)
      have HSJ := Lib.hid (HS1.out j)
      replace c0 := (qb.cell (p := ⟨b, off + j, none⟩) hb).trans c0
      clear hx
      obtain ⟨s, hs⟩ : ∃ s, s = (tl.take j).sum := ⟨_, rfl⟩
      rw [← hs] at hS hS2 HSN ⊢
      clear hs HSJ
      have hbs := hbw.size
      have hl := hL_len tl td j 0
      go_wp2_with (at_builtin; refine wpList_append_own _ rfl _ _ 27 rfl W1.heap.size 3 i0 (.int .i64 0) 1 8 Tryz.underlying27 HI.out HI0.out HI1.out HI2.out rfl (by decide) _ _ _ rfl (hO.alloc _) ⟨wr.heap.size, 0, none⟩ 1 1 [.int .i64 (s + x)] rfl rfl (cell_one_new _ _ _) (one_oneCell rfl) ?c3 ?c4 ?c5 ?_)
      case c3 => unfold maxLen; omega
      case c4 => omega
      case c5 => simp; omega
      intro v' w2 hown' hgrow _
      have hB2 := below_append hbw hbs hO hgrow
      clear hgrow hO hbs c0 z0 z1 zq q0 qb
      go_wp2_with fail
      go_roundw
      case rel => exact ⟨j + 1, by omega, by go_num, by rw [HSN.out], by rw [hL_len, hL_load, HSN.out, List.map_append, hsz1]; exact hown', hB2⟩
      case measure => simp [intOf]; omega
    · obtain rfl : j = tl.length := by omega
      have HO1 := Lib.hid hO
      have HB1 := Lib.hid hbw
      go_wp2_with fail
      clear hO hbw q0 qb z0 z1 zq
      go_loopw [3, 4, 6] (fun u h n wr => ∃ j : Nat, j ≤ td.length ∧ n = .int .i64 j ∧ h = .int .i64 ((td.take j).sum) ∧ wr.ownsRow W1.heap.size 3 1 u (hL tl td tl.length j).length ((hL tl td tl.length j).map (Value.int .i64)) ∧ Below W1.heap.size W1 wr) (fun _ _ n _ => td.length - (intOf n).toNat)
      case atStart => exact ⟨0, Nat.zero_le _, rfl, rfl, HO1.out, HB1.out⟩
      case round =>
        obtain ⟨j, hj, rfl, rfl, hO, hbw⟩ := hrel
        have q0 := (hbw.block _ (show w.heap.size < W1.heap.size by omega)).trans Q0.out
        have qb := below_then QB.out hbw
        have z0 := Joins.cell_of_block q0 0
        have z1 := Joins.cell_of_block q0 1
        have zq := size_of_block q0
        by_cases hlt : j < td.length
        · obtain ⟨b, off, x, rfl, hb, hx, c0⟩ := HA2.out j hlt
          have hS := HS2.out j
          have hS2 := HS2.out (j + 1)
          rw [sum_take_succ hx] at hS2
          have HSN := Lib.hid (sum_take_succ hx)
          have HSJ := Lib.hid (HS2.out j)
          replace c0 := (qb.cell (p := ⟨b, off + j, none⟩) hb).trans c0
          clear hx
          obtain ⟨s, hs⟩ : ∃ s, s = (td.take j).sum := ⟨_, rfl⟩
          rw [← hs] at hS hS2 HSN ⊢
          clear hs HSJ
          have hbs := hbw.size
          have hl := hL_len tl td tl.length j
          go_wp2_with (at_builtin; refine wpList_append_own _ rfl _ _ 27 rfl W1.heap.size 3 i0 (.int .i64 0) 1 8 Tryz.underlying27 HI.out HI0.out HI1.out HI2.out rfl (by decide) _ _ _ rfl (hO.alloc _) ⟨wr.heap.size, 0, none⟩ 1 1 [.int .i64 (s + x)] rfl rfl (cell_one_new _ _ _) (one_oneCell rfl) ?c3 ?c4 ?c5 ?_)
          case c3 => unfold maxLen; omega
          case c4 => omega
          case c5 => simp; omega
          intro v' w2 hown' hgrow _
          have hB2 := below_append hbw hbs hO hgrow
          clear hgrow hO hbs c0 z0 z1 zq q0 qb
          go_wp2_with fail
          go_roundw
          case rel => exact ⟨j + 1, by omega, by go_num, by rw [HSN.out], by rw [hL_len, hL_draw, HSN.out, List.map_append, hsz1]; exact hown', hB2⟩
          case measure => simp [intOf]; omega
        · obtain rfl : j = td.length := by omega
          go_wp2_with fail
          go_ret
          exact ⟨_, rfl, own_less hO (by omega), qb⟩
end Go.Proofs.YtnedcclmfokdnaaGreat
