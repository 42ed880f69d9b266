/- The reference's Can, heights, weights (written by tools/gensrefi.py). -/
import Derived.Test.YtnedcclmfokdnaaGreatZSRefE
import Derived.Test.YtnedcclmfokdnaaGreatJ27
import Derived.Test.YtnedcclmfokdnaaGreatZSHgtE
import Derived.Test.YtnedcclmfokdnaaGreatZRefBE
import Derived.Test.YtnedcclmfokdnaaGreatJ22
import Derived.Test.YtnedcclmfokdnaaGreatZSAreE
namespace Go.Proofs.YtnedcclmfokdnaaGreat
open Go Go.RowKit Go.Shelf
attribute [local go_sem] Oper.semAt_some Rel RelAt RelUpon

/-- The heights as the reference lists them. -/
def hL (tl td : List Int) (i j : Nat) : List Int := (List.range (i + 1)).map (fun v => (tl.take v).sum) ++ (List.range j).map (fun v => (td.take (v + 1)).sum)
theorem hL_len (tl td : List Int) (i j : Nat) : (hL tl td i j).length = i + 1 + j := by simp [hL]
theorem hL_zero (tl td : List Int) : hL tl td 0 0 = [0] := by simp [hL]
theorem hL_load (tl td : List Int) (i : Nat) : hL tl td (i + 1) 0 = hL tl td i 0 ++ [(tl.take (i + 1)).sum] := by
  unfold hL; rw [List.range_succ (n := i + 1)]; simp
theorem hL_draw (tl td : List Int) (i j : Nat) : hL tl td i (j + 1) = hL tl td i j ++ [(td.take (j + 1)).sum] := by
  unfold hL; rw [List.range_succ (n := j)]; simp
theorem hL_at (tl td : List Int) {v : Nat} (h : v < tl.length + 1 + td.length) : (hL tl td tl.length td.length)[v]? = some (hgt tl.length tl td (v : Int)) := by
  unfold hL
  by_cases hv : v < tl.length + 1
  · rw [List.getElem?_append_left (by simpa using hv), List.getElem?_map, List.getElem?_range hv, hgt_load (by omega)]; rfl
  · rw [List.getElem?_append_right (by simp; omega), List.getElem?_map, List.length_map, List.length_range, List.getElem?_range (by omega)]
    unfold hgt
    rw [if_neg (by omega), show ((v : Int) - (tl.length : Int)).toNat = v - (tl.length + 1) + 1 by omega]; rfl
set_option maxRecDepth 100000 in
set_option maxHeartbeats 4000000 in
theorem rCan_c (k : Kl) (v : Value) (w : World) (hk : Kiln w v k) (hR : Right k) : Calls Tryz.prog 29 #[v] w fun e w' => e = .returned (.bool (canB (tiesL k))) ∧ Below w.heap.size w w' := by
  obtain ⟨A1, c1, A2, c2, A3, c3, rfl⟩ := kilnForm hk
  have HK := Lib.hid hk
  clear hk
  go_enter Tryz.func29, Tryz.ntmps29
  have bk := heap_alloc_new w (.cells #[.int .i64 k.room, .int .i64 k.per, .slice A1 k.ls.length c1, .slice A2 k.ds.length c2, .slice A3 k.ws.length c3] 26)
  have HB := below_alloc w (.cells #[.int .i64 k.room, .int .i64 k.per, .slice A1 k.ls.length c1, .slice A2 k.ds.length c2, .slice A3 k.ws.length c3] 26)
  have cbk0 := Joins.cell_of_block bk 0
  have cbk1 := Joins.cell_of_block bk 1
  have cbk2 := Joins.cell_of_block bk 2
  have cbk3 := Joins.cell_of_block bk 3
  have cbk4 := Joins.cell_of_block bk 4
  have zbk := size_of_block bk
  go_wp2_with fail
  generalize (w.alloc (.cells #[.int .i64 k.room, .int .i64 k.per, .slice A1 k.ls.length c1, .slice A2 k.ds.length c2, .slice A3 k.ws.length c3] 26)) = w1 at bk HB cbk0 cbk1 cbk2 cbk3 cbk4 zbk ⊢
  have hB := HB
  clear HB
  clear cbk0 cbk1 cbk2 cbk3 cbk4 zbk
  refine wp_region_looseM [] [0, 2] (.one 1 (.one 3 (.one 4 .done))) [] [5, 6, 7] [8, 9] [] [] (by kernel_rfl) (by kernel_rfl) (by intro c a d v w h; cases d <;> exact h) (by intro c a d v w h; cases d <;> exact h) rfl (fun r i h => by simp at h) ?_
  simp only [pick, List.filterMap_cons, List.filterMap_nil, List.getElem?_toArray, List.getElem?_cons_succ, List.getElem?_cons_zero]
  intro u2 hu2
  replace bk := (hu2.block _ (size_of_block bk)).trans bk
  replace hB := below_then hB hu2
  have cbk0 := Joins.cell_of_block bk 0
  have cbk1 := Joins.cell_of_block bk 1
  have cbk2 := Joins.cell_of_block bk 2
  have cbk3 := Joins.cell_of_block bk 3
  have cbk4 := Joins.cell_of_block bk 4
  have zbk := size_of_block bk
  have hcg : ∀ (g : Gr u2) b o, b < u2.heap.size → g.val.cell? ⟨b, o, none⟩ = u2.cell? ⟨b, o, none⟩ := fun g b o h => (bcell g.b).1 b o h
  iterate 2 (first | (refine wpRel_step (fun K hK => ?_); go_simp; refine hK _ ?_; clear hK K))
  refine wpRel_nil fun V2_0 hb2 => ?_
  clear hcg cbk0 cbk1 cbk2 cbk3 cbk4 zbk
  replace bk := (hb2.block _ (size_of_block bk)).trans bk
  replace hB := below_then hB hb2
  clear hb2 hu2
  refine wpTr_step rfl rfl fun K hK => ?_
  go_simp
  refine (marks_c k _ V2_0 (HK.out.later hB)).mono ?_
  rintro e X ⟨rfl, hx⟩
  refine hK _ _ hx fun V2_1 hu => ?_
  clear hK K
  have hxu := below_then hx hu
  replace bk := (hxu.block _ (size_of_block bk)).trans bk
  replace hB := below_then hB hxu
  clear hx hu hxu
  refine wpTr_step rfl rfl fun K hK => ?_
  go_simp
  refine (rties_c k _ V2_1 (HK.out.later hB) hR.small).mono ?_
  rintro e X ⟨u, rfl, hTT, hx⟩
  refine hK _ _ hx fun V2_2 hu => ?_
  clear hK K
  replace hTT := own_later hTT hu
  have hxu := below_then hx hu
  replace bk := (hxu.block _ (size_of_block bk)).trans bk
  replace hB := below_then hB hxu
  clear hx hu hxu
  refine wpTr_step rfl rfl fun K hK => ?_
  go_simp
  refine (rtable_d k u V2_2 hR (OwnTies.at_ hTT (by have := tiesL_len hR.small; omega))).mono ?_
  rintro e X ⟨g, cap, bs, cp, D, rfl, _, hx⟩
  refine hK _ _ hx fun V2_3 hu => ?_
  clear hK K
  have hxu := below_then hx hu
  replace bk := (hxu.block _ (size_of_block bk)).trans bk
  replace hTT := own_later hTT hxu
  replace hB := below_then hB hxu
  clear hx hu hxu
  show wpPure _ _ _ _
  refine wpPure_step (.tuple #[.slice (some ⟨g, 0, none⟩) (mN k) cap, .bool (canB (tiesL k))]) rfl (fun u => by first | rfl | simp [execOp, go_sem]) ?_
  refine wpPure_step (.slice (some ⟨g, 0, none⟩) (mN k) cap) rfl (fun u => by first | rfl | simp [execOp, go_sem]) ?_
  refine wpPure_step (.bool (canB (tiesL k))) rfl (fun u => by first | rfl | simp [execOp, go_sem]) ?_
  intro ks hks _ _
  obtain rfl : ks = [] := List.length_eq_zero_iff.1 hks
  clear hks
  show wpList _ _ _ _ _ _
  simp only [deco]
  go_wp2_with fail
  go_ret
  exact ⟨rfl, hB⟩
set_option maxRecDepth 100000 in
set_option maxHeartbeats 4000000 in
theorem rheights_c (tl td : List Int) (v : Value) (w : World) (ht : Truth w v tl td) (h1 : wtsB tl tl.length = true) (h2 : wtsB td td.length = true) (l1 : tl.length ≤ 20) (l2 : td.length ≤ 20) : Calls Tryz.prog 76 #[v] w fun e w' => ∃ x, e = .returned x ∧ w'.ownsRow w.heap.size 3 1 x (hL tl td tl.length td.length).length ((hL tl td tl.length td.length).map (Value.int .i64)) ∧ Below w.heap.size w w' := by
  obtain ⟨a, b, rfl, ha, hb⟩ := ht
  obtain ⟨A1, c1, rfl, _, _, hat1⟩ := Ints.open_ ha
  obtain ⟨A2, c2, rfl, _, _, hat2⟩ := Ints.open_ hb
  have HA1 := Lib.hid hat1
  have HA2 := Lib.hid hat2
  have HS1 := Lib.hid (sum_take_rng h1 l1)
  have HS2 := Lib.hid (sum_take_rng h2 l2)
  obtain ⟨i0, hi, hz0, hz1, hz2⟩ := info_parts Tryz.infoIntT
  have HI := Lib.hid hi
  have HI0 := Lib.hid hz0
  have HI1 := Lib.hid hz1
  have HI2 := Lib.hid hz2
  clear hi hz0 hz1 hz2 ha hb hat1 hat2 h1 h2
  have q0 := heap_alloc_new w (.cells #[.slice A1 tl.length c1, .slice A2 td.length c2] 29)
  have qb := below_alloc w (.cells #[.slice A1 tl.length c1, .slice A2 td.length c2] 29)
  have hsz1 : (w.alloc (.cells #[.slice A1 tl.length c1, .slice A2 td.length c2] 29)).heap.size = w.heap.size + 1 := by simp
  go_enter Tryz.func76, Tryz.ntmps76
  go_wp2_with fail
  obtain ⟨W1, hW1⟩ : ∃ x, x = w.alloc (.cells #[.slice A1 tl.length c1, .slice A2 td.length c2] 29) := ⟨_, rfl⟩
  rw [← hW1] at q0 qb hsz1 ⊢
  clear hW1
  have Q0 := Lib.hid q0
  have QB := Lib.hid qb
  clear q0 qb
  have hin := own_of_block (base := W1.heap.size) (s := 1) (xs := [.int .i64 0]) 1 (heap_alloc_new W1 (.cells #[.int .i64 0] 3)) (Nat.le_refl _) (by unfold maxLen; omega) rfl rfl
  have hbw0 := below_alloc W1 (.cells #[.int .i64 0] 3)
  have HO0 := Lib.hid hin
  clear hin
  go_loopw [3, 4, 5] (fun u h n wr => ∃ j : Nat, j ≤ tl.length ∧ n = .int .i64 j ∧ h = .int .i64 ((tl.take j).sum) ∧ wr.ownsRow W1.heap.size 3 1 u (hL tl td j 0).length ((hL tl td j 0).map (Value.int .i64)) ∧ Below W1.heap.size W1 wr) (fun _ _ n _ => tl.length - (intOf n).toNat)
  case atStart => exact ⟨0, Nat.zero_le _, rfl, rfl, by rw [hL_zero, hsz1] at *; first | exact HO0.out | (simpa [hsz1] using HO0.out), hbw0⟩
  case round =>
    obtain ⟨j, hj, rfl, rfl, hO, hbw⟩ := hrel
    have q0 := (hbw.block _ (show w.heap.size < W1.heap.size by omega)).trans Q0.out
    have qb := below_then QB.out hbw
    have z0 := Joins.cell_of_block q0 0
    have z1 := Joins.cell_of_block q0 1
    have zq := size_of_block q0
    by_cases hlt : j < tl.length
    · obtain ⟨b, off, x, rfl, hb, hx, c0⟩ := HA1.out j hlt
      have hS := HS1.out j
      have hS2 := HS1.out (j + 1)
      rw [sum_take_succ hx] at hS2
      have HSN := Lib.hid (sum_take_succ hx)
      have HSJ := Lib.hid (HS1.out j)
      replace c0 := (qb.cell (p := ⟨b, off + j, none⟩) hb).trans c0
      clear hx
      obtain ⟨s, hs⟩ : ∃ s, s = (tl.take j).sum := ⟨_, rfl⟩
      rw [← hs] at hS hS2 HSN ⊢
      clear hs HSJ
      have hbs := hbw.size
      have hl := hL_len tl td j 0
      go_wp2_with (at_builtin; refine wpList_append_own _ rfl _ _ 27 rfl W1.heap.size 3 i0 (.int .i64 0) 1 8 Tryz.underlying27 HI.out HI0.out HI1.out HI2.out rfl (by decide) _ _ _ rfl (hO.alloc _) ⟨wr.heap.size, 0, none⟩ 1 1 [.int .i64 (s + x)] rfl rfl (cell_one_new _ _ _) (one_oneCell rfl) ?c3 ?c4 ?c5 ?_)
      case c3 => unfold maxLen; omega
      case c4 => omega
      case c5 => simp; omega
      intro v' w2 hown' hgrow _
      have hB2 := below_append hbw hbs hO hgrow
      clear hgrow hO hbs c0 z0 z1 zq q0 qb
      go_wp2_with fail
      go_roundw
      case rel => exact ⟨j + 1, by omega, by go_num, by rw [HSN.out], by rw [hL_len, hL_load, HSN.out, List.map_append, hsz1]; exact hown', hB2⟩
      case measure => simp [intOf]; omega
    · obtain rfl : j = tl.length := by omega
      have HO1 := Lib.hid hO
      have HB1 := Lib.hid hbw
      go_wp2_with fail
      clear hO hbw q0 qb z0 z1 zq
      go_loopw [3, 4, 6] (fun u h n wr => ∃ j : Nat, j ≤ td.length ∧ n = .int .i64 j ∧ h = .int .i64 ((td.take j).sum) ∧ wr.ownsRow W1.heap.size 3 1 u (hL tl td tl.length j).length ((hL tl td tl.length j).map (Value.int .i64)) ∧ Below W1.heap.size W1 wr) (fun _ _ n _ => td.length - (intOf n).toNat)
      case atStart => exact ⟨0, Nat.zero_le _, rfl, rfl, HO1.out, HB1.out⟩
      case round =>
        obtain ⟨j, hj, rfl, rfl, hO, hbw⟩ := hrel
        have q0 := (hbw.block _ (show w.heap.size < W1.heap.size by omega)).trans Q0.out
        have qb := below_then QB.out hbw
        have z0 := Joins.cell_of_block q0 0
        have z1 := Joins.cell_of_block q0 1
        have zq := size_of_block q0
        by_cases hlt : j < td.length
        · obtain ⟨b, off, x, rfl, hb, hx, c0⟩ := HA2.out j hlt
          have hS := HS2.out j
          have hS2 := HS2.out (j + 1)
          rw [sum_take_succ hx] at hS2
          have HSN := Lib.hid (sum_take_succ hx)
          have HSJ := Lib.hid (HS2.out j)
          replace c0 := (qb.cell (p := ⟨b, off + j, none⟩) hb).trans c0
          clear hx
          obtain ⟨s, hs⟩ : ∃ s, s = (td.take j).sum := ⟨_, rfl⟩
          rw [← hs] at hS hS2 HSN ⊢
          clear hs HSJ
          have hbs := hbw.size
          have hl := hL_len tl td tl.length j
          go_wp2_with (at_builtin; refine wpList_append_own _ rfl _ _ 27 rfl W1.heap.size 3 i0 (.int .i64 0) 1 8 Tryz.underlying27 HI.out HI0.out HI1.out HI2.out rfl (by decide) _ _ _ rfl (hO.alloc _) ⟨wr.heap.size, 0, none⟩ 1 1 [.int .i64 (s + x)] rfl rfl (cell_one_new _ _ _) (one_oneCell rfl) ?c3 ?c4 ?c5 ?_)
          case c3 => unfold maxLen; omega
          case c4 => omega
          case c5 => simp; omega
          intro v' w2 hown' hgrow _
          have hB2 := below_append hbw hbs hO hgrow
          clear hgrow hO hbs c0 z0 z1 zq q0 qb
          go_wp2_with fail
          go_roundw
          case rel => exact ⟨j + 1, by omega, by go_num, by rw [HSN.out], by rw [hL_len, hL_draw, HSN.out, List.map_append, hsz1]; exact hown', hB2⟩
          case measure => simp [intOf]; omega
        · obtain rfl : j = td.length := by omega
          go_wp2_with fail
          go_ret
          exact ⟨_, rfl, own_less hO (by omega), qb⟩
end Go.Proofs.YtnedcclmfokdnaaGreat

/- The reference's weights (written by tools/gensrefj.py). -/
namespace Go.Proofs.YtnedcclmfokdnaaGreat
open Go Go.RowKit Go.Shelf
attribute [local go_sem] Oper.semAt_some Rel RelAt RelUpon

set_option maxRecDepth 100000 in
set_option maxHeartbeats 4000000 in
theorem rweights_c (k : Kl) (v t : Value) (tl td : List Int) (w : World) (hk : Kiln w v k) (ht : Truth w t tl td) : Calls Tryz.prog 74 #[v, t] w fun e w' => e = .returned (.bool (wtsB tl k.ls.length && wtsB td k.ds.length)) ∧ Below w.heap.size w w' := by
  obtain ⟨A1, c1, A2, c2, A3, c3, rfl⟩ := kilnForm hk
  obtain ⟨a, b, rfl, ha, hb⟩ := ht
  obtain ⟨B1, d1, rfl, _, _, hat1⟩ := Ints.open_ ha
  obtain ⟨B2, d2, rfl, _, _, hat2⟩ := Ints.open_ hb
  have HA1 := Lib.hid hat1
  have HA2 := Lib.hid hat2
  clear hk ha hb hat1 hat2
  obtain ⟨n1, hn1⟩ : ∃ n, n = k.ls.length := ⟨_, rfl⟩
  obtain ⟨n2, hn2⟩ : ∃ n, n = k.ds.length := ⟨_, rfl⟩
  rw [← hn1, ← hn2]
  clear hn1 hn2
  obtain ⟨bk, bt, -, hB⟩ := two_new' w (.cells #[.int .i64 k.room, .int .i64 k.per, .slice A1 n1 c1, .slice A2 n2 c2, .slice A3 k.ws.length c3] 26) (.cells #[.slice B1 tl.length d1, .slice B2 td.length d2] 29)
  have x0 := Joins.cell_of_block bk 0
  have x1 := Joins.cell_of_block bk 1
  have x2 := Joins.cell_of_block bk 2
  have x3 := Joins.cell_of_block bk 3
  have zk := size_of_block bk
  have y0 := Joins.cell_of_block bt 0
  have y1 := Joins.cell_of_block bt 1
  have zt := size_of_block bt
  clear bk bt
  by_cases e1 : tl.length = n1
  · by_cases e2 : td.length = n2
    · subst e1 e2
      have HE := Lib.hid (show (wtsB tl tl.length && wtsB td td.length) = (tl.all wtB && td.all wtB) by unfold wtsB wtB; simp)
      go_enter Tryz.func74, Tryz.ntmps74
      go_wp2_with fail
      generalize (w.alloc _).alloc _ = W1 at hB x0 x1 x2 x3 zk y0 y1 zt ⊢
      go_loopw [5] (fun n wr => ∃ j : Nat, j ≤ tl.length ∧ n = .int .i64 j ∧ Hid ((tl.take j).all wtB = true) ∧ W1 = wr) (fun n _ => tl.length - (intOf n).toNat)
      case atStart => exact ⟨0, Nat.zero_le _, rfl, rfl, rfl⟩
      case round =>
        obtain ⟨j, hj, rfl, hq, rfl⟩ := hrel
        by_cases hlt : j < tl.length
        · obtain ⟨b, off, x, rfl, hb0, hx0, c0⟩ := HA1.out j hlt
          have hx := Lib.hid hx0
          replace c0 := (hB.cell (p := ⟨b, off + j, none⟩) hb0).trans c0
          clear hx0
          have HS := Lib.hid (show Calls Tryz.prog 82 #[.int .i64 x, .int .i64 0, .int .i64 16777216] W1 fun e w' => e = .returned (.bool (wtB x)) ∧ W1 = w' from in_c x 0 16777216 W1)
          rcases Bool.eq_false_or_eq_true (wtB x) with hs | hs
          · rw [hs] at HS
            go_wp2_with fail
            refine HS.out.mono ?_
            rintro e w1 ⟨rfl, rfl⟩
            have hy := Lib.hid (all_takeW_yes hx.out hs hq.out)
            go_wp2_with fail
            go_roundw
            case rel => exact ⟨j + 1, by omega, by go_num, hy, trivial⟩
            case measure => simp [intOf]; omega
          · rw [hs] at HS
            go_wp2_with fail
            refine HS.out.mono ?_
            rintro e w1 ⟨rfl, rfl⟩
            have hy := Lib.hid (all_takeW_no hx.out hs)
            go_wp2_with fail
            go_ret
            exact ⟨by rw [HE.out, hy.out]; rfl, hB⟩
        · obtain rfl : j = tl.length := by omega
          rw [List.take_length] at hq
          go_wp2_with fail
          go_loopw [6] (fun n wr => ∃ j : Nat, j ≤ td.length ∧ n = .int .i64 j ∧ Hid ((td.take j).all wtB = true) ∧ W1 = wr) (fun n _ => td.length - (intOf n).toNat)
          case atStart => exact ⟨0, Nat.zero_le _, rfl, rfl, rfl⟩
          case round =>
            obtain ⟨j, hj, rfl, hq2, rfl⟩ := hrel
            by_cases hlt : j < td.length
            · obtain ⟨b, off, x, rfl, hb0, hx0, c0⟩ := HA2.out j hlt
              have hx := Lib.hid hx0
              replace c0 := (hB.cell (p := ⟨b, off + j, none⟩) hb0).trans c0
              clear hx0
              have HS := Lib.hid (show Calls Tryz.prog 82 #[.int .i64 x, .int .i64 0, .int .i64 16777216] W1 fun e w' => e = .returned (.bool (wtB x)) ∧ W1 = w' from in_c x 0 16777216 W1)
              rcases Bool.eq_false_or_eq_true (wtB x) with hs | hs
              · rw [hs] at HS
                go_wp2_with fail
                refine HS.out.mono ?_
                rintro e w1 ⟨rfl, rfl⟩
                have hy := Lib.hid (all_takeW_yes hx.out hs hq2.out)
                go_wp2_with fail
                go_roundw
                case rel => exact ⟨j + 1, by omega, by go_num, hy, trivial⟩
                case measure => simp [intOf]; omega
              · rw [hs] at HS
                go_wp2_with fail
                refine HS.out.mono ?_
                rintro e w1 ⟨rfl, rfl⟩
                have hy := Lib.hid (all_takeW_no hx.out hs)
                go_wp2_with fail
                go_ret
                exact ⟨by rw [HE.out, hq.out, hy.out]; rfl, hB⟩
            · obtain rfl : j = td.length := by omega
              rw [List.take_length] at hq2
              go_wp2_with fail
              go_ret
              exact ⟨by rw [HE.out, hq.out, hq2.out]; rfl, hB⟩
    · have HE := Lib.hid (show (wtsB tl n1 && wtsB td n2) = false by unfold wtsB; simp [e2])
      have d2 : ((td.length : Int) != (n2 : Int)) = true := by simp only [bne_iff_ne, ne_eq]; omega
      subst e1
      go_enter Tryz.func74, Tryz.ntmps74
      go_wp2_with fail
      all_goals (try (exfalso; omega))
      go_ret
      exact ⟨by rw [HE.out]; rfl, hB⟩
  · have HE := Lib.hid (show (wtsB tl n1 && wtsB td n2) = false by unfold wtsB; simp [e1])
    have d1 : ((tl.length : Int) != (n1 : Int)) = true := by simp only [bne_iff_ne, ne_eq]; omega
    go_enter Tryz.func74, Tryz.ntmps74
    go_wp2_with fail
    all_goals (try (exfalso; omega))
    go_ret
    exact ⟨by rw [HE.out]; rfl, hB⟩
end Go.Proofs.YtnedcclmfokdnaaGreat

/- The reference's kept, Fits (written by tools/gensrefk.py). -/
namespace Go.Proofs.YtnedcclmfokdnaaGreat
open Go Go.RowKit Go.Shelf
attribute [local go_sem] Oper.semAt_some Rel RelAt RelUpon

/-- What kept answers. -/
def keptV (l : List Tie) (h : Int → Int) : Array Value := match badAt l h with | some i => #[.int .i64 i, .bool false, .int .i64 0] | none => #[.int .i64 0, .bool true, .int .i64 0]
set_option maxRecDepth 100000 in
set_option maxHeartbeats 4000000 in
theorem rkept_c (l : List Tie) (h : Int → Int) (n : Nat) (v u : Value) (hs : List Int) (w : World) (hT : TiesAt w w.heap.size v l) (hI : Ints w w.heap.size u hs) (ok : NetOk l (n : Nat)) (hl : hs.length = n) (hat : ∀ x : Nat, x < n → hs[x]? = some (h (x : Int)))
    (hr : ∀ x : Nat, x < n → 0 ≤ h (x : Int) ∧ h (x : Int) ≤ 687865856) : Calls Tryz.prog 75 #[v, u] w fun e w' => e = .returned (.agg (keptV l h)) ∧ Below w.heap.size w w' := by
  obtain ⟨A, c, rfl, _, hln, hta⟩ := hT.open_
  obtain ⟨B, d, rfl, _, hlh, hia⟩ := Ints.open_ hI
  subst hl
  have HTA := Lib.hid hta
  have HIA := Lib.hid hia
  have HAT := Lib.hid hat
  have HR := Lib.hid hr
  have OK := Lib.hid ok.rng
  clear hta hia hT hI hat hr ok
  have b0 := heap_alloc_new w (.cells #[.int .i64 0, .bool false, .int .i64 0] 42)
  have hb0 := below_alloc w (.cells #[.int .i64 0, .bool false, .int .i64 0] 42)
  go_enter Tryz.func75, Tryz.ntmps75
  go_wp2_with fail
  generalize w.alloc _ = W1 at b0 hb0 ⊢
  have B0 := Lib.hid b0
  have HB0 := Lib.hid hb0
  clear b0 hb0
  go_loopw [5] (fun n9 wr => ∃ j : Nat, j ≤ l.length ∧ n9 = .int .i64 j ∧ Hid (∀ (i : Nat) (s : Tie), i < j → l[i]? = some s → h s.too - h s.frm ≤ s.most) ∧ Below W1.heap.size W1 wr) (fun n9 _ => l.length - (intOf n9).toNat)
  case atStart => exact ⟨0, Nat.zero_le _, rfl, fun i s hi => absurd hi (Nat.not_lt_zero i), Below.refl _ _⟩
  case round =>
    obtain ⟨j, hj, rfl, hq, hbw⟩ := hrel
    have br := (hbw.block _ (size_of_block B0.out)).trans B0.out
    have hB := below_then HB0.out hbw
    by_cases hlt : j < l.length
    · obtain ⟨b, off, t, rfl, hb, hx, c0, c1', c2', _⟩ := HTA.out j hlt
      have hrg := OK.out t (List.mem_of_getElem? hx)
      have HX := Lib.hid hx
      obtain ⟨x, hxe⟩ := Int.eq_ofNat_of_zero_le hrg.1
      obtain ⟨z, hze⟩ := Int.eq_ofNat_of_zero_le hrg.2.2.1
      have hxn : x < hs.length := by omega
      have hzn : z < hs.length := by omega
      obtain ⟨b1, off1, q1, rfl, hb1, hy1, cx⟩ := HIA.out x hxn
      obtain ⟨b2, off2, q2, hbe, hb2, hy2, cz⟩ := HIA.out z hzn
      obtain ⟨rfl, rfl⟩ : b1 = b2 ∧ off1 = off2 := by simpa using hbe
      have e1 : q1 = h (x : Int) := by have := HAT.out x hxn; rw [hy1] at this; simpa using this
      have e2 : q2 = h (z : Int) := by have := HAT.out z hzn; rw [hy2] at this; simpa using this
      have r1 := HR.out x hxn
      have r2 := HR.out z hzn
      rw [← e1] at r1
      rw [← e2] at r2
      have hm := hrg.2.2.2.2
      have HV := Lib.hid (show h t.too - h t.frm = q2 - q1 by rw [hxe, hze, e1, e2])
      rw [hxe] at c0
      rw [hze] at c1'
      replace c0 := (hB.cell (p := ⟨b, off + j * 4, none⟩) hb).trans c0
      replace c1' := (hB.cell (p := ⟨b, off + j * 4 + 1, none⟩) hb).trans c1'
      replace c2' := (hB.cell (p := ⟨b, off + j * 4 + 2, none⟩) hb).trans c2'
      replace cx := (hB.cell (p := ⟨b1, off1 + x, none⟩) hb1).trans cx
      replace cz := (hB.cell (p := ⟨b1, off1 + z, none⟩) hb1).trans cz
      have hzb := Nat.lt_of_lt_of_le hb hB.size
      have hzb1 := Nat.lt_of_lt_of_le hb1 hB.size
      obtain ⟨m, hme⟩ : ∃ m, m = t.most := ⟨_, rfl⟩
      rw [← hme] at c2' hm
      have HME := Lib.hid hme
      have hw := IntKind.wrap_i64 (q2 - q1)
      replace hw : IntKind.i64.wrap (q2 - q1) = q2 - q1 := by rw [hw]; omega
      have HW := Lib.hid hw
      clear hx hrg hxe hze hy1 hy2 e1 e2 hbe hme hw hb hb1 hb2
      go_wp2_with fail
      refine wp_region_looseM [0, 1, 2, 8, 9, 10, 17, 18] [3, 4, 5, 6, 7, 11, 12, 13, 14, 15, 16, 19, 20, 21, 22] .done [] [] [] [] [] (by kernel_rfl) (by kernel_rfl) (by intro c a d v w h; cases d <;> exact h) (by intro c a d v w h; cases d <;> exact h) rfl (fun r i h => by simp at h) ?_
      simp only [pick, List.filterMap_cons, List.filterMap_nil, List.getElem?_toArray, List.getElem?_cons_succ, List.getElem?_cons_zero]
      refine wpPure_step (.slice (some ⟨b1, off1, none⟩) hs.length d) rfl (fun u => by first | rfl | kernel_rfl | simp [execOp, go_sem]) ?_
      refine wpPure_step (.slice (some ⟨b, off, none⟩) l.length c) rfl (fun u => by first | rfl | kernel_rfl | simp [execOp, go_sem]) ?_
      refine wpPure_step (.int .i64 j) rfl (fun u => by first | rfl | kernel_rfl | simp [execOp, go_sem]) ?_
      refine wpPure_step (.slice (some ⟨b1, off1, none⟩) hs.length d) rfl (fun u => by first | rfl | kernel_rfl | simp [execOp, go_sem]) ?_
      refine wpPure_step (.slice (some ⟨b, off, none⟩) l.length c) rfl (fun u => by first | rfl | kernel_rfl | simp [execOp, go_sem]) ?_
      refine wpPure_step (.int .i64 j) rfl (fun u => by first | rfl | kernel_rfl | simp [execOp, go_sem]) ?_
      refine wpPure_step (.slice (some ⟨b, off, none⟩) l.length c) rfl (fun u => by first | rfl | kernel_rfl | simp [execOp, go_sem]) ?_
      refine wpPure_step (.int .i64 j) rfl (fun u => by first | rfl | kernel_rfl | simp [execOp, go_sem]) ?_
      intro U hU
      replace c0 := (hU.cell (p := ⟨b, off + j * 4, none⟩) hzb).trans c0
      replace c1' := (hU.cell (p := ⟨b, off + j * 4 + 1, none⟩) hzb).trans c1'
      replace c2' := (hU.cell (p := ⟨b, off + j * 4 + 2, none⟩) hzb).trans c2'
      replace cx := (hU.cell (p := ⟨b1, off1 + x, none⟩) hzb1).trans cx
      replace cz := (hU.cell (p := ⟨b1, off1 + z, none⟩) hzb1).trans cz
      replace hzb := Nat.lt_of_lt_of_le hzb hU.size
      replace hzb1 := Nat.lt_of_lt_of_le hzb1 hU.size
      replace br := (hU.block _ (size_of_block br)).trans br
      replace hB := below_then hB hU
      replace hbw := below_grown hbw hbw.size hU
      have hcg : ∀ (g : Gr U) b o, b < U.heap.size → g.val.cell? ⟨b, o, none⟩ = U.cell? ⟨b, o, none⟩ := fun g b o h => (bcell g.b).1 b o h
      iterate 15 (first | (refine wpRel_step (fun K hK => ?_); go_simp; refine hK _ ?_; clear hK K))
      refine wpRel_nil fun V hV => ?_
      clear hcg c0 c1' c2' cx cz
      replace br := (hV.block _ (size_of_block br)).trans br
      replace hB := below_then hB hV
      replace hbw := below_grown hbw hbw.size hV
      clear hV hU
      show wpPure _ _ _ _
      intro ks hks _ _
      obtain rfl : ks = [] := List.length_eq_zero_iff.1 hks
      clear hks
      show wpList _ _ _ _ _ _
      simp only [deco]
      rw [HW.out]
      by_cases hbad : m < q2 - q1
      · rw [show decide (m < q2 - q1) = true from decide_eq_true hbad]
        have HE := Lib.hid (show keptV l h = #[.int .i64 j, .bool false, .int .i64 0] by unfold keptV; rw [badAt_some HX.out (by rw [HV.out, ← HME.out]; exact hbad) (fun i s hi hs => hq.out i s hi hs)])
        clear hbad
        have HPP := Lib.hid (fun jj : Nat => cell_setRow_same V (w.heap.size) jj _ #[.int .i64 j, .bool false, .int .i64 0] _ _ br)
        have HBF := Lib.hid (below_setRow hB (show w.heap.size ≤ w.heap.size by omega) #[.int .i64 j, .bool false, .int .i64 0])
        go_wp2_with (first | (refine wpList_store_rowTo rfl 42 _ _ rfl rfl (w.heap.size) #[.int .i64 j, .bool false, .int .i64 0] rfl rfl 42 _ br (by kernel_rfl) rfl (by kernel_rfl) ?_))
        refine bodyPost_ret (v := .agg #[.int .i64 j, .bool false, .int .i64 0]) ?_ rfl ⟨by rw [HE.out], HBF.out⟩
        simp [results, Tryz.results75, go_sem, HPP.out]
      · rw [show decide (m < q2 - q1) = false from decide_eq_false hbad]
        have HQ := Lib.hid (show ∀ (i : Nat) (s : Tie), i < j + 1 → l[i]? = some s → h s.too - h s.frm ≤ s.most from fun i s hi hs => by
          by_cases hij : i < j
          · exact hq.out i s hij hs
          · obtain rfl : i = j := by omega
            rw [HX.out] at hs
            obtain rfl : t = s := by simpa using hs
            rw [HV.out, ← HME.out]; omega)
        clear hbad br hB
        go_wp2_with fail
        go_roundw
        case rel => exact ⟨j + 1, by omega, by go_num, HQ, hbw⟩
        case measure => simp [intOf]; omega
    · obtain rfl : j = l.length := by omega
      have HE := Lib.hid (show keptV l h = #[.int .i64 0, .bool true, .int .i64 0] by unfold keptV; rw [badAt_none.2 (fun t ht => by obtain ⟨i, hi⟩ := List.getElem?_of_mem ht; exact hq.out i t (List.getElem?_eq_some_iff.1 hi).1 hi)])
      have HPP := Lib.hid (fun jj : Nat => cell_setRow_same wr (w.heap.size) jj _ #[.int .i64 0, .bool true, .int .i64 0] _ _ br)
      have HBF := Lib.hid (below_setRow hB (show w.heap.size ≤ w.heap.size by omega) #[.int .i64 0, .bool true, .int .i64 0])
      go_wp2_with (first | (refine wpList_store_rowTo rfl 42 _ _ rfl rfl (w.heap.size) #[.int .i64 0, .bool true, .int .i64 0] rfl rfl 42 _ br (by kernel_rfl) rfl (by kernel_rfl) ?_))
      refine bodyPost_ret (v := .agg #[.int .i64 0, .bool true, .int .i64 0]) ?_ rfl ⟨by rw [HE.out], HBF.out⟩
      simp [results, Tryz.results75, go_sem, HPP.out]
set_option maxRecDepth 100000 in
set_option maxHeartbeats 4000000 in
theorem rFits_bad (k : Kl) (v t : Value) (tl td : List Int) (w : World) (hk : Kiln w v k) (ht : Truth w t tl td) (hc : checkI k ≠ 0) : Calls Tryz.prog 21 #[v, t] w fun e w' => e = .returned (.agg #[.int .i64 (fitsN k tl td), .bool (fitsB k tl td), .int .i64 (fitsE k tl td)]) ∧ Below w.heap.size w w' := by
  have e0 : fitsE k tl td = checkI k := by unfold fitsE; rw [if_pos hc]
  have HE := Lib.hid (show fitsN k tl td = 0 ∧ fitsB k tl td = false by unfold fitsN fitsB; rw [e0]; simp [hc])
  have HE0 := Lib.hid e0
  have d0 : (checkI k != 0) = true := by simpa using hc
  clear hc e0
  obtain ⟨A1, c1, A2, c2, A3, c3, rfl⟩ := kilnForm hk
  have HK := Lib.hid hk
  have HT := Lib.hid ht
  obtain ⟨a, b, rfl, ha, hb⟩ := ht
  obtain ⟨B1, d1, rfl⟩ := Sl.form1 ha
  obtain ⟨B2, d2, rfl⟩ := Sl.form1 hb
  clear hk ha hb
  go_enter Tryz.func21, Tryz.ntmps21
  obtain ⟨bk, bt, br, hsz, HB⟩ := three_new w (.cells #[.int .i64 k.room, .int .i64 k.per, .slice A1 k.ls.length c1, .slice A2 k.ds.length c2, .slice A3 k.ws.length c3] 26) (.cells #[.slice B1 tl.length d1, .slice B2 td.length d2] 29) (.cells #[.int .i64 0, .bool false, .int .i64 0] 42)
  have cbk0 := Joins.cell_of_block bk 0
  have cbk1 := Joins.cell_of_block bk 1
  have cbk2 := Joins.cell_of_block bk 2
  have cbk3 := Joins.cell_of_block bk 3
  have cbk4 := Joins.cell_of_block bk 4
  have zbk := size_of_block bk
  go_wp2_with fail
  clear cbk0 cbk1 cbk2 cbk3 cbk4 zbk
  generalize (((w.alloc (.cells #[.int .i64 k.room, .int .i64 k.per, .slice A1 k.ls.length c1, .slice A2 k.ds.length c2, .slice A3 k.ws.length c3] 26)).alloc (.cells #[.slice B1 tl.length d1, .slice B2 td.length d2] 29)).alloc (.cells #[.int .i64 0, .bool false, .int .i64 0] 42)) = w1 at bk bt br hsz HB ⊢
  have hB := HB
  clear HB hsz
  refine (rcheck_c k _ w1 (HK.out.later hB)).mono ?_
  rintro e w2 ⟨rfl, hF⟩
  replace bk := (hF.block _ (size_of_block bk)).trans bk
  replace bt := (hF.block _ (size_of_block bt)).trans bt
  replace br := (hF.block _ (size_of_block br)).trans br
  replace hB := below_then hB hF
  clear hF
  have HPP := Lib.hid (fun jj : Nat => cell_setRow_same w2 (w.heap.size + 1 + 1) jj _ #[.int .i64 0, .bool false, .int .i64 (checkI k)] _ _ br)
  have HBF := Lib.hid (below_setRow hB (show w.heap.size ≤ w.heap.size + 1 + 1 by omega) #[.int .i64 0, .bool false, .int .i64 (checkI k)])
  go_wp2_with (first | (refine wpList_store_rowTo rfl 42 _ _ rfl rfl (w.heap.size + 1 + 1) #[.int .i64 0, .bool false, .int .i64 (checkI k)] rfl rfl 42 _ br (by kernel_rfl) rfl (by kernel_rfl) ?_))
  refine bodyPost_ret (v := .agg #[.int .i64 0, .bool false, .int .i64 (checkI k)]) ?_ rfl ⟨by rw [HE.out.1, HE.out.2, HE0.out], HBF.out⟩
  simp [results, Tryz.results21, go_sem, HPP.out]
set_option maxRecDepth 100000 in
set_option maxHeartbeats 4000000 in
theorem rFits_no (k : Kl) (v t : Value) (tl td : List Int) (w : World) (hk : Kiln w v k) (ht : Truth w t tl td) (hc : checkI k = 0) (hw : (wtsB tl k.ls.length && wtsB td k.ds.length) = false) : Calls Tryz.prog 21 #[v, t] w fun e w' => e = .returned (.agg #[.int .i64 (fitsN k tl td), .bool (fitsB k tl td), .int .i64 (fitsE k tl td)]) ∧ Below w.heap.size w w' := by
  have e0 : fitsE k tl td = 1 := by unfold fitsE; rw [if_neg (show ¬ checkI k ≠ 0 by simp [hc]), if_pos (Bool.and_eq_false_iff.1 hw)]
  have HE := Lib.hid (show fitsN k tl td = 0 ∧ fitsB k tl td = false by unfold fitsN fitsB; rw [e0]; simp)
  have HE0 := Lib.hid e0
  have yW := fun v t W h1 h2 => rweights_c k v t tl td W h1 h2
  rw [hw] at yW
  have YW := Lib.hid yW
  clear e0 yW hw
  obtain ⟨A1, c1, A2, c2, A3, c3, rfl⟩ := kilnForm hk
  have HK := Lib.hid hk
  have HT := Lib.hid ht
  obtain ⟨a, b, rfl, ha, hb⟩ := ht
  obtain ⟨B1, d1, rfl⟩ := Sl.form1 ha
  obtain ⟨B2, d2, rfl⟩ := Sl.form1 hb
  clear hk ha hb
  go_enter Tryz.func21, Tryz.ntmps21
  obtain ⟨bk, bt, br, hsz, HB⟩ := three_new w (.cells #[.int .i64 k.room, .int .i64 k.per, .slice A1 k.ls.length c1, .slice A2 k.ds.length c2, .slice A3 k.ws.length c3] 26) (.cells #[.slice B1 tl.length d1, .slice B2 td.length d2] 29) (.cells #[.int .i64 0, .bool false, .int .i64 0] 42)
  have cbk0 := Joins.cell_of_block bk 0
  have cbk1 := Joins.cell_of_block bk 1
  have cbk2 := Joins.cell_of_block bk 2
  have cbk3 := Joins.cell_of_block bk 3
  have cbk4 := Joins.cell_of_block bk 4
  have zbk := size_of_block bk
  go_wp2_with fail
  clear cbk0 cbk1 cbk2 cbk3 cbk4 zbk
  generalize (((w.alloc (.cells #[.int .i64 k.room, .int .i64 k.per, .slice A1 k.ls.length c1, .slice A2 k.ds.length c2, .slice A3 k.ws.length c3] 26)).alloc (.cells #[.slice B1 tl.length d1, .slice B2 td.length d2] 29)).alloc (.cells #[.int .i64 0, .bool false, .int .i64 0] 42)) = w1 at bk bt br hsz HB ⊢
  have hB := HB
  clear HB hsz
  refine (rcheck_c k _ w1 (HK.out.later hB)).mono ?_
  rintro e w2 ⟨rfl, hF⟩
  replace bk := (hF.block _ (size_of_block bk)).trans bk
  replace bt := (hF.block _ (size_of_block bt)).trans bt
  replace br := (hF.block _ (size_of_block br)).trans br
  replace hB := below_then hB hF
  clear hF
  rw [hc]
  clear hc
  have cbk0 := Joins.cell_of_block bk 0
  have cbk1 := Joins.cell_of_block bk 1
  have cbk2 := Joins.cell_of_block bk 2
  have cbk3 := Joins.cell_of_block bk 3
  have cbk4 := Joins.cell_of_block bk 4
  have zbk := size_of_block bk
  have cbt0 := Joins.cell_of_block bt 0
  have cbt1 := Joins.cell_of_block bt 1
  have zbt := size_of_block bt
  go_wp2_with fail
  refine (YW.out _ _ w2 (HK.out.later hB) (HT.out.later hB)).mono ?_
  rintro e w3 ⟨rfl, hF⟩
  clear cbk0 cbk1 cbk2 cbk3 cbk4 zbk cbt0 cbt1 zbt
  replace bk := (hF.block _ (size_of_block bk)).trans bk
  replace bt := (hF.block _ (size_of_block bt)).trans bt
  replace br := (hF.block _ (size_of_block br)).trans br
  replace hB := below_then hB hF
  clear hF
  have HPP := Lib.hid (fun jj : Nat => cell_setRow_same w3 (w.heap.size + 1 + 1) jj _ #[.int .i64 0, .bool false, .int .i64 1] _ _ br)
  have HBF := Lib.hid (below_setRow hB (show w.heap.size ≤ w.heap.size + 1 + 1 by omega) #[.int .i64 0, .bool false, .int .i64 1])
  go_wp2_with (first | (refine wpList_store_rowTo rfl 42 _ _ rfl rfl (w.heap.size + 1 + 1) #[.int .i64 0, .bool false, .int .i64 1] rfl rfl 42 _ br (by kernel_rfl) rfl (by kernel_rfl) ?_))
  refine bodyPost_ret (v := .agg #[.int .i64 0, .bool false, .int .i64 1]) ?_ rfl ⟨by rw [HE.out.1, HE.out.2, HE0.out], HBF.out⟩
  simp [results, Tryz.results21, go_sem, HPP.out]
set_option maxRecDepth 100000 in
set_option maxHeartbeats 4000000 in
theorem rFits_ok (k : Kl) (v t : Value) (tl td : List Int) (w : World) (hk : Kiln w v k) (ht : Truth w t tl td) (hc : checkI k = 0) (hw : (wtsB tl k.ls.length && wtsB td k.ds.length) = true) : Calls Tryz.prog 21 #[v, t] w fun e w' => e = .returned (.agg #[.int .i64 (fitsN k tl td), .bool (fitsB k tl td), .int .i64 (fitsE k tl td)]) ∧ Below w.heap.size w w' := by
  obtain ⟨h1, h2⟩ : wtsB tl k.ls.length = true ∧ wtsB td k.ds.length = true := by simpa using hw
  have hR := right_of_check hc
  have e0 : fitsE k tl td = 0 := fitsE_zero.2 ⟨hc, h1, h2⟩
  obtain ⟨i, b9, hkv, HE⟩ : ∃ (i : Int) (b9 : Bool), keptV (tiesL k) (hgt k.ls.length tl td) = #[.int .i64 i, .bool b9, .int .i64 0] ∧ Hid (fitsN k tl td = i ∧ fitsB k tl td = b9) := by
    unfold keptV fitsN fitsB
    rw [e0]
    cases hb : badAt (tiesL k) (hgt k.ls.length tl td) with
    | some i => exact ⟨i, false, rfl, Lib.hid ⟨rfl, rfl⟩⟩
    | none => exact ⟨0, true, rfl, Lib.hid ⟨rfl, rfl⟩⟩
  have HE0 := Lib.hid e0
  have hmn := mN_eq k
  have hok : NetOk (tiesL k) (mN k : Nat) := by rw [← hmn]; exact net_ok hR
  have l1 := (wtsB_iff.1 h1).1
  have l2 := (wtsB_iff.1 h2).1
  have n1 := hR.ls
  have n2 := hR.ds
  have yK := fun v u W a b => rkept_c (tiesL k) (hgt k.ls.length tl td) (mN k) v u (hL tl td tl.length td.length) W a b hok (by rw [hL_len]; unfold mN; omega) (fun x hx => by rw [hL_at tl td (by unfold mN at hx; omega), l1]) (fun x _ => by have := hgt_rng h1 h2 (by omega) (by omega) (x : Int); omega)
  rw [hkv] at yK
  have YK := Lib.hid yK
  have yH := fun v W a => rheights_c tl td v W a (by rw [l1]; exact h1) (by rw [l2]; exact h2) (by omega) (by omega)
  have YH := Lib.hid yH
  have hlen := hL_len tl td tl.length td.length
  have HLN := Lib.hid (show (hL tl td tl.length td.length).length ≤ 100 by omega)
  have HR := Lib.hid hR
  have yW := fun v t W h1 h2 => rweights_c k v t tl td W h1 h2
  rw [hw] at yW
  have YW := Lib.hid yW
  clear e0 yW hw h1 h2 hkv yK yH hok hR hlen l1 l2
  obtain ⟨A1, c1, A2, c2, A3, c3, rfl⟩ := kilnForm hk
  have HK := Lib.hid hk
  have HT := Lib.hid ht
  obtain ⟨a, b, rfl, ha, hb⟩ := ht
  obtain ⟨B1, d1, rfl⟩ := Sl.form1 ha
  obtain ⟨B2, d2, rfl⟩ := Sl.form1 hb
  clear hk ha hb
  go_enter Tryz.func21, Tryz.ntmps21
  obtain ⟨bk, bt, br, hsz, HB⟩ := three_new w (.cells #[.int .i64 k.room, .int .i64 k.per, .slice A1 k.ls.length c1, .slice A2 k.ds.length c2, .slice A3 k.ws.length c3] 26) (.cells #[.slice B1 tl.length d1, .slice B2 td.length d2] 29) (.cells #[.int .i64 0, .bool false, .int .i64 0] 42)
  have cbk0 := Joins.cell_of_block bk 0
  have cbk1 := Joins.cell_of_block bk 1
  have cbk2 := Joins.cell_of_block bk 2
  have cbk3 := Joins.cell_of_block bk 3
  have cbk4 := Joins.cell_of_block bk 4
  have zbk := size_of_block bk
  go_wp2_with fail
  clear cbk0 cbk1 cbk2 cbk3 cbk4 zbk
  generalize (((w.alloc (.cells #[.int .i64 k.room, .int .i64 k.per, .slice A1 k.ls.length c1, .slice A2 k.ds.length c2, .slice A3 k.ws.length c3] 26)).alloc (.cells #[.slice B1 tl.length d1, .slice B2 td.length d2] 29)).alloc (.cells #[.int .i64 0, .bool false, .int .i64 0] 42)) = w1 at bk bt br hsz HB ⊢
  have hB := HB
  clear HB hsz
  refine (rcheck_c k _ w1 (HK.out.later hB)).mono ?_
  rintro e w2 ⟨rfl, hF⟩
  replace bk := (hF.block _ (size_of_block bk)).trans bk
  replace bt := (hF.block _ (size_of_block bt)).trans bt
  replace br := (hF.block _ (size_of_block br)).trans br
  replace hB := below_then hB hF
  clear hF
  rw [hc]
  clear hc
  have cbk0 := Joins.cell_of_block bk 0
  have cbk1 := Joins.cell_of_block bk 1
  have cbk2 := Joins.cell_of_block bk 2
  have cbk3 := Joins.cell_of_block bk 3
  have cbk4 := Joins.cell_of_block bk 4
  have zbk := size_of_block bk
  have cbt0 := Joins.cell_of_block bt 0
  have cbt1 := Joins.cell_of_block bt 1
  have zbt := size_of_block bt
  go_wp2_with fail
  refine (YW.out _ _ w2 (HK.out.later hB) (HT.out.later hB)).mono ?_
  rintro e w3 ⟨rfl, hF⟩
  clear cbk0 cbk1 cbk2 cbk3 cbk4 zbk cbt0 cbt1 zbt
  replace bk := (hF.block _ (size_of_block bk)).trans bk
  replace bt := (hF.block _ (size_of_block bt)).trans bt
  replace br := (hF.block _ (size_of_block br)).trans br
  replace hB := below_then hB hF
  clear hF
  go_wp2_with fail
  refine wp_region_looseM [] [0, 2] (.one 1 (.one 3 (.one 4 .done))) [] [] [5] [] [] (by kernel_rfl) (by kernel_rfl) (by intro c a d v w h; cases d <;> exact h) (by intro c a d v w h; cases d <;> exact h) rfl (fun r i h => by simp at h) ?_
  simp only [pick, List.filterMap_cons, List.filterMap_nil, List.getElem?_toArray, List.getElem?_cons_succ, List.getElem?_cons_zero]
  intro u4 hu4
  replace bk := (hu4.block _ (size_of_block bk)).trans bk
  replace bt := (hu4.block _ (size_of_block bt)).trans bt
  replace br := (hu4.block _ (size_of_block br)).trans br
  replace hB := below_then hB hu4
  have cbk0 := Joins.cell_of_block bk 0
  have cbk1 := Joins.cell_of_block bk 1
  have cbk2 := Joins.cell_of_block bk 2
  have cbk3 := Joins.cell_of_block bk 3
  have cbk4 := Joins.cell_of_block bk 4
  have zbk := size_of_block bk
  have cbt0 := Joins.cell_of_block bt 0
  have cbt1 := Joins.cell_of_block bt 1
  have zbt := size_of_block bt
  have hcg : ∀ (g : Gr u4) b o, b < u4.heap.size → g.val.cell? ⟨b, o, none⟩ = u4.cell? ⟨b, o, none⟩ := fun g b o h => (bcell g.b).1 b o h
  iterate 2 (first | (refine wpRel_step (fun K hK => ?_); go_simp; refine hK _ ?_; clear hK K))
  refine wpRel_nil fun V4_0 hb4 => ?_
  clear hcg cbk0 cbk1 cbk2 cbk3 cbk4 zbk cbt0 cbt1 zbt
  replace bk := (hb4.block _ (size_of_block bk)).trans bk
  replace bt := (hb4.block _ (size_of_block bt)).trans bt
  replace br := (hb4.block _ (size_of_block br)).trans br
  replace hB := below_then hB hb4
  clear hb4 hu4
  refine wpTr_step rfl rfl fun K hK => ?_
  go_simp
  refine (rties_c k _ V4_0 (HK.out.later hB) HR.out.small).mono ?_
  rintro e X ⟨u, rfl, hTT, hx⟩
  refine hK _ _ hx fun V4_1 hu => ?_
  clear hK K
  replace hTT := own_later hTT hu
  have hxu := below_then hx hu
  replace bk := (hxu.block _ (size_of_block bk)).trans bk
  replace bt := (hxu.block _ (size_of_block bt)).trans bt
  replace br := (hxu.block _ (size_of_block br)).trans br
  replace hB := below_then hB hxu
  clear hx hu hxu
  refine wpTr_step rfl rfl fun K hK => ?_
  go_simp
  refine (YH.out _ V4_1 (HT.out.later hB)).mono ?_
  rintro e X ⟨hv9, rfl, hHH, hx⟩
  refine hK _ _ hx fun V4_2 hu => ?_
  clear hK K
  replace hHH := own_later hHH hu
  have hxu := below_then hx hu
  replace bk := (hxu.block _ (size_of_block bk)).trans bk
  replace bt := (hxu.block _ (size_of_block bt)).trans bt
  replace br := (hxu.block _ (size_of_block br)).trans br
  replace hTT := own_later hTT hxu
  replace hB := below_then hB hxu
  clear hx hu hxu
  refine wpTr_step rfl rfl fun K hK => ?_
  go_simp
  refine (YK.out u hv9 V4_2 (OwnTies.at_ hTT (by have := tiesL_len HR.out.small; omega)) (Ints.of_own hHH (by have := HLN.out; omega))).mono ?_
  rintro e X ⟨rfl, hx⟩
  refine hK _ _ hx fun V4_3 hu => ?_
  clear hK K
  have hxu := below_then hx hu
  replace bk := (hxu.block _ (size_of_block bk)).trans bk
  replace bt := (hxu.block _ (size_of_block bt)).trans bt
  replace br := (hxu.block _ (size_of_block br)).trans br
  replace hTT := own_later hTT hxu
  replace hHH := own_later hHH hxu
  replace hB := below_then hB hxu
  clear hx hu hxu
  show wpPure _ _ _ _
  intro ks hks _ _
  obtain rfl : ks = [] := List.length_eq_zero_iff.1 hks
  clear hks
  show wpList _ _ _ _ _ _
  simp only [deco]
  have HPP := Lib.hid (fun jj : Nat => cell_setRow_same V4_3 (w.heap.size + 1 + 1) jj _ #[.int .i64 i, .bool b9, .int .i64 0] _ _ br)
  have HBF := Lib.hid (below_setRow hB (show w.heap.size ≤ w.heap.size + 1 + 1 by omega) #[.int .i64 i, .bool b9, .int .i64 0])
  skip
  refine wpList_store_rowTo rfl 42 _ _ rfl rfl (w.heap.size + 1 + 1) #[.int .i64 i, .bool b9, .int .i64 0] rfl rfl 42 _ br (by kernel_rfl) rfl (by kernel_rfl) ?_
  go_wp2_with fail
  refine bodyPost_ret (v := .agg #[.int .i64 i, .bool b9, .int .i64 0]) ?_ rfl ⟨by rw [HE.out.1, HE.out.2, HE0.out], HBF.out⟩
  simp [results, Tryz.results21, go_sem, HPP.out]
theorem rFits_c (k : Kl) (v t : Value) (tl td : List Int) (w : World) (hk : Kiln w v k) (ht : Truth w t tl td) : Calls Tryz.prog 21 #[v, t] w fun e w' => e = .returned (.agg #[.int .i64 (fitsN k tl td), .bool (fitsB k tl td), .int .i64 (fitsE k tl td)]) ∧ Below w.heap.size w w' := by
  by_cases hc : checkI k = 0
  · cases hw : wtsB tl k.ls.length && wtsB td k.ds.length
    · exact rFits_no k v t tl td w hk ht hc hw
    · exact rFits_ok k v t tl td w hk ht hc hw
  · exact rFits_bad k v t tl td w hk ht hc
end Go.Proofs.YtnedcclmfokdnaaGreat
