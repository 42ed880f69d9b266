/- Texts joined: STook STakg SChkClash SAbove SChkAbove SWithout1 SLawM SLawN SLawT SMet SWithout SEx SSources SRFoot. -/
import Derived.Test.YtnedcclmfokdnaaGreatJ24
import Derived.Test.YtnedcclmfokdnaaGreatJ5
import Derived.Test.YtnedcclmfokdnaaGreatJ15
import Derived.Test.YtnedcclmfokdnaaGreatJ8
namespace Go.Proofs.YtnedcclmfokdnaaGreat
open Go Go.RowKit Go.Shelf
attribute [local go_sem] Oper.semAt_some Rel RelAt RelUpon
theorem ptsK {k : Kl} {i j : Int} (hi : 0 ≤ i ∧ i < k.ls.length) (hj : 0 ≤ j ∧ j < k.ds.length) : PtsOk (tiesL k) (marksN k) (loadP i) (drawP k j) := by
  have m1 := mark_rng k hj.1 (by omega)
  have m2 := mark_rng k (show 0 ≤ j + 1 by omega) (by omega)
  have hn : marksN k = 1 + k.ls.length + k.ds.length := rfl
  exact ⟨⟨hi.1, by unfold loadP; simp only; omega⟩, ⟨by unfold loadP; simp only; omega, by unfold loadP; simp only; omega⟩, m1, m2, net_reaches k (by unfold loadP; simp only; omega) (by unfold loadP; simp only; omega), net_reaches k m2.1 m2.2⟩
set_option maxRecDepth 100000 in
set_option maxHeartbeats 4000000 in
theorem Took_c (k : Kl) (v : Value) (d ld : Int) (w : World) (hv : Kiln w v k) :
    Calls Tryz.prog 45 #[v, .int .i64 d, .int .i64 ld] w fun e w' => e = .returned (.tuple #[.agg #[.int .i64 (tookE k d ld).1.1, .int .i64 (tookE k d ld).1.2], .int .i64 (tookE k d ld).2]) ∧ Below w.heap.size w w' := by
  obtain ⟨A1, c1, A2, c2, A3, c3, rfl⟩ := kilnForm hv
  obtain ⟨q0, q1, -, qb⟩ := two_new' w (.cells #[.int .i64 k.room, .int .i64 k.per, .slice A1 k.ls.length c1, .slice A2 k.ds.length c2, .slice A3 k.ws.length c3] 26) (.cells #[.int .i64 0, .int .i64 0] 63)
  have HKB := Lib.hid hv.toB
  have hk := hv.later qb
  clear hv
  have HTC := Lib.hid (fun W hW => taking_c k (.agg #[.int .i64 k.room, .int .i64 k.per, .slice A1 k.ls.length c1, .slice A2 k.ds.length c2, .slice A3 k.ws.length c3]) d ld W hW)
  go_enter Tryz.func45, Tryz.ntmps45
  have y0 := Joins.cell_of_block q0 0
  have y1 := Joins.cell_of_block q0 1
  have y2 := Joins.cell_of_block q0 2
  have y3 := Joins.cell_of_block q0 3
  have y4 := Joins.cell_of_block q0 4
  go_wp2_with fail
  generalize (w.alloc _).alloc _ = W1 at q0 q1 qb hk ⊢
  refine (HTC.out W1 hk).mono ?_
  rintro e W4 ⟨o, rfl, ⟨ho1, ho2⟩, hF⟩
  replace q0 := (hF.block _ (size_of_block q0)).trans q0
  replace q1 := (hF.block _ (size_of_block q1)).trans q1
  replace qb := below_then qb hF
  clear hF y0 y1 y2 y3 y4 hk HTC
  have BQ := size_of_block q1
  by_cases hE0 : (tookE k d ld).2 = 0
  · obtain ⟨A, cap, rfl, hT⟩ := ho1 hE0
    obtain ⟨hc0, hpl, hcc⟩ := took_zero.1 hE0
    have hR := right_of_check hc0
    have HE := Lib.hid (show tookE k d ld = ((leastZ (tiesL k) (loadP (place k.ls ld)) (drawP k (place k.ds d)), mostZ (tiesL k) (loadP (place k.ls ld)) (drawP k (place k.ds d))), 0) by unfold tookE; rw [if_neg (by simp [hc0]), if_neg hpl, if_pos hcc])
    have ra := place_range k.ls ld
    have rb := place_range k.ds d
    obtain ⟨i, hi⟩ : ∃ i, i = place k.ls ld := ⟨_, rfl⟩
    obtain ⟨j, hj⟩ : ∃ j, j = place k.ds d := ⟨_, rfl⟩
    rw [← hi, ← hj] at HE
    rw [← hi, ← hj] at hpl ⊢
    rw [← hi] at ra
    rw [← hj] at rb
    have hpt := ptsK (k := k) (i := i) (j := j) ⟨by omega, by omega⟩ ⟨by omega, by omega⟩
    have hmn := mN_eq k
    have hok : NetOk (tiesL k) (mN k : Nat) := by rw [← hmn]; exact net_ok hR
    have hre : Reaches (tiesL k) (mN k : Nat) 0 := by rw [← hmn]; exact net_reaches k (by omega) (by rw [hmn]; unfold mN; omega)
    rw [hmn] at hpt ⊢
    have hln := tiesL_len hR.small
    have HL := Lib.hid (fun W h => least_c (tiesL k) (.slice A (tiesL k).length cap) (mN k) (loadP i) (drawP k j) W h hok hpt (canB_true.1 hcc) (by omega))
    have HM := Lib.hid (fun W h => most_c (tiesL k) A cap (mN k) (loadP i) (drawP k j) W h hok (by unfold mN; omega) hre hpt (by omega))
    unfold ovV at HL HM ⊢
    rw [hE0]
    have d0 : ((0 : Int) != 0) = false := rfl
    clear ho1 ho2 hc0 hpl hcc hR ra rb hpt hmn hok hre hln hE0 hi hj
    obtain ⟨W5, hW5⟩ : ∃ W5, W5 = (W4.alloc (.cells #[.int .i64 0, .slice none 0 0, .int .i64 0, .int .i64 0, .int .i64 0, .int .i64 0, .int .i64 0, .int .i64 0, .int .i64 0, .int .i64 0] 173)).setRow W4.heap.size (ovA ((mN k : Nat) : Int) (.slice A (tiesL k).length cap) (loadP i) (drawP k j)) := ⟨_, rfl⟩
    have pb : Below W4.heap.size W4 W5 := by rw [hW5]; exact below_setRow (below_alloc _ _) (Nat.le_refl _) _
    have p0 : W5.heap[W4.heap.size]? = some (.cells (ovA ((mN k : Nat) : Int) (.slice A (tiesL k).length cap) (loadP i) (drawP k j)) 173) := by rw [hW5]; exact setRow_heap _ _ _ _ _ _ (heap_alloc_new W4 _)
    have HW5 := Lib.hid hW5
    replace q0 := (pb.block _ (size_of_block q0)).trans q0
    replace q1 := (pb.block _ (size_of_block q1)).trans q1
    replace qb := below_then qb pb
    replace hT := hT.later pb
    clear pb hW5
    go_wp2_with (first | (refine wpList_store_rowTo rfl 173 _ _ rfl rfl W4.heap.size (ovA ((mN k : Nat) : Int) (.slice A (tiesL k).length cap) (loadP i) (drawP k j)) rfl rfl 173 _ (heap_alloc_new W4 _) (by kernel_rfl) rfl (by kernel_rfl) ?_; rw [← HW5.out]) | (refine wpList_load_row rfl 173 _ rfl W4.heap.size rfl 173 (ovA ((mN k : Nat) : Int) (.slice A (tiesL k).length cap) (loadP i) (drawP k j)) (0, 0) _ p0 Tryz.underlying173 rfl (by kernel_rfl) ?_))
    refine (HL.out W5 hT).mono ?_
    rintro e W6 ⟨M, rfl, ⟨_, htk, _⟩, hF⟩
    clear htk
    replace q0 := (hF.block _ (size_of_block q0)).trans q0
    replace q1 := (hF.block _ (size_of_block q1)).trans q1
    replace p0 := (hF.block _ (size_of_block p0)).trans p0
    replace qb := below_then qb hF
    replace hT := hT.later hF
    clear hF HL HW5
    obtain ⟨W7, hW7⟩ : ∃ W7, W7 = (W6.alloc (.cells #[.int .i64 0, .int .i64 0, .int .i64 0, .int .i64 0, .int .i64 0, .int .i64 0, .int .i64 0, .int .i64 0, .int .i64 0, .int .i64 0, .int .i64 0, .int .i64 0, .int .i64 0, .int .i64 0, .int .i64 0, .int .i64 0, .int .i64 0, .int .i64 0, .int .i64 0, .int .i64 0, .int .i64 0, .int .i64 0, .int .i64 0, .int .i64 0, .int .i64 0, .int .i64 0, .int .i64 0, .int .i64 0, .int .i64 0, .int .i64 0, .int .i64 0, .int .i64 0, .int .i64 0, .int .i64 0, .int .i64 0, .int .i64 0, .int .i64 0, .int .i64 0, .int .i64 0, .int .i64 0, .int .i64 0] 124)).setRow W6.heap.size (hgA (halfN (mN k) M)) := ⟨_, rfl⟩
    have pb : Below W6.heap.size W6 W7 := by rw [hW7]; exact below_setRow (below_alloc _ _) (Nat.le_refl _) _
    have p1 : W7.heap[W6.heap.size]? = some (.cells (hgA (halfN (mN k) M)) 124) := by rw [hW7]; exact setRow_heap _ _ _ _ _ _ (heap_alloc_new W6 _)
    have HW7 := Lib.hid hW7
    replace q0 := (pb.block _ (size_of_block q0)).trans q0
    replace q1 := (pb.block _ (size_of_block q1)).trans q1
    replace p0 := (pb.block _ (size_of_block p0)).trans p0
    replace qb := below_then qb pb
    replace hT := hT.later pb
    clear pb hW7
    go_wp2_with (first | (refine wpList_store_rowTo rfl 124 _ _ rfl rfl W6.heap.size (hgA (halfN (mN k) M)) rfl rfl 124 _ (heap_alloc_new W6 _) (by kernel_rfl) (by rw [hgA_size]; kernel_rfl) (by rw [hgA_size]; kernel_rfl) ?_; rw [← HW7.out]) | (refine wpList_load_row rfl 173 _ rfl W4.heap.size rfl 173 (ovA ((mN k : Nat) : Int) (.slice A (tiesL k).length cap) (loadP i) (drawP k j)) (0, 0) _ p0 Tryz.underlying173 rfl (by kernel_rfl) ?_))
    refine (HM.out W7 hT).mono ?_
    rintro e W8 ⟨rfl, hF⟩
    replace q1 := (hF.block _ (size_of_block q1)).trans q1
    replace qb := below_then qb hF
    clear hF HM HW7 hT p0 p1 q0
    generalize leastZ (tiesL k) (loadP i) (drawP k j) = lz at HE ⊢
    generalize mostZ (tiesL k) (loadP i) (drawP k j) = mz at HE ⊢
    have e0 := Joins.cell_of_block q1 0
    have e1 := Joins.cell_of_block q1 1
    have f0 := Joins.unfrozen_of_block q1 0
    have f1 := Joins.unfrozen_of_block q1 1
    have zbx := size_of_block q1
    have HPP := Lib.hid (put2 (.int .i64 (lz)) (.int .i64 (mz)) q1)
    go_wp2_with fail
    refine bodyPost_ret (v := .tuple #[.agg #[.int .i64 (lz), .int .i64 (mz)], .int .i64 (0)]) ?_ rfl ⟨by rw [HE.out], below_set (below_set qb (by omega)) (by omega)⟩
    simp [results, Tryz.results45, go_sem, HPP.out.1, HPP.out.2]
  · have HEE := Lib.hid (show tookE k d ld = ((0, 0), (tookE k d ld).2) by
      unfold tookE at hE0 ⊢
      split
      · rfl
      · split
        · rfl
        · split
          · rename_i h1 h2 h3; rw [if_neg h1, if_neg h2, if_pos h3] at hE0; exact absurd rfl hE0
          · rfl)
    obtain rfl := ho2 hE0
    obtain ⟨E, hE⟩ : ∃ E, E = (tookE k d ld).2 := ⟨_, rfl⟩
    rw [← hE] at hE0 HEE ⊢
    have d0 : (E != 0) = true := by simpa using hE0
    clear ho1 ho2 hE0 hE
    obtain ⟨W5, hW5⟩ : ∃ W5, W5 = (W4.alloc (.cells #[.int .i64 0, .slice none 0 0, .int .i64 0, .int .i64 0, .int .i64 0, .int .i64 0, .int .i64 0, .int .i64 0, .int .i64 0, .int .i64 0] 173)).setRow W4.heap.size (#[.int .i64 0, .slice none 0 0, .int .i64 0, .int .i64 0, .int .i64 0, .int .i64 0, .int .i64 0, .int .i64 0, .int .i64 0, .int .i64 0]) := ⟨_, rfl⟩
    have pb : Below W4.heap.size W4 W5 := by rw [hW5]; exact below_setRow (below_alloc _ _) (Nat.le_refl _) _
    have p0 : W5.heap[W4.heap.size]? = some (.cells (#[.int .i64 0, .slice none 0 0, .int .i64 0, .int .i64 0, .int .i64 0, .int .i64 0, .int .i64 0, .int .i64 0, .int .i64 0, .int .i64 0]) 173) := by rw [hW5]; exact setRow_heap _ _ _ _ _ _ (heap_alloc_new W4 _)
    have HW5 := Lib.hid hW5
    replace q0 := (pb.block _ (size_of_block q0)).trans q0
    replace q1 := (pb.block _ (size_of_block q1)).trans q1
    replace qb := below_then qb pb
    clear pb hW5
    have e0 := Joins.cell_of_block q1 0
    have e1 := Joins.cell_of_block q1 1
    have f0 := Joins.unfrozen_of_block q1 0
    have f1 := Joins.unfrozen_of_block q1 1
    have zbx := size_of_block q1
    have HPP := Lib.hid (put2 (.int .i64 (0)) (.int .i64 (0)) q1)
    go_wp2_with (first | (refine wpList_store_rowTo rfl 173 _ _ rfl rfl W4.heap.size (#[.int .i64 0, .slice none 0 0, .int .i64 0, .int .i64 0, .int .i64 0, .int .i64 0, .int .i64 0, .int .i64 0, .int .i64 0, .int .i64 0]) rfl rfl 173 _ (heap_alloc_new W4 _) (by kernel_rfl) rfl (by kernel_rfl) ?_; rw [← HW5.out]))
    refine bodyPost_ret (v := .tuple #[.agg #[.int .i64 (0), .int .i64 (0)], .int .i64 (E)]) ?_ rfl ⟨by rw [HEE.out], below_set (below_set qb (by omega)) (by omega)⟩
    simp [results, Tryz.results45, go_sem, HPP.out.1, HPP.out.2]
end Go.Proofs.YtnedcclmfokdnaaGreat
namespace Go.Proofs.YtnedcclmfokdnaaGreat
open Go Go.RowKit Go.Shelf
attribute [local go_sem] Oper.semAt_some Rel RelAt RelUpon
end Go.Proofs.YtnedcclmfokdnaaGreat
namespace Go.Proofs.YtnedcclmfokdnaaGreat
open Go Go.RowKit Go.Shelf
attribute [local go_sem] Oper.semAt_some Rel RelAt RelUpon
end Go.Proofs.YtnedcclmfokdnaaGreat
namespace Go.Proofs.YtnedcclmfokdnaaGreat
open Go Go.RowKit Go.Shelf
attribute [local go_sem] Oper.semAt_some Rel RelAt RelUpon
def AboveIs (k : Kl) (fr to : Int) (m : Int) (pp tl td : List Int) : Prop := ∃ (M B : Int → Int) (n : Nat), Settled (tiesL k) (marksN k) fr M B ∧ (n : Int) < marksN k ∧ backOk (tiesL k) B n to ∧ back (tiesL k) B n to = fr ∧ backSum (tiesL k) B n to = M to ∧
  pp = idxI (tiesL k) B n to ∧ m = M to ∧ tl = wtL k.ls.length M ∧ td = wtD k M
set_option maxRecDepth 100000 in
set_option maxHeartbeats 4000000 in
theorem Above_c (k : Kl) (v : Value) (fr to : Int) (w : World) (hv : Kiln w v k) :
    Calls Tryz.prog 30 #[v, .int .i64 fr, .int .i64 to] w fun e w' => ∃ m pv t1 t2 pp tl td, e = .returned (.tuple #[.agg #[.int .i64 m, pv, t1, t2], .int .i64 (mostE k fr to).2]) ∧ (w'.ownsRow w.heap.size 3 1 pv pp.length (pp.map (Value.int .i64)) ∧ OwnTruth w' w.heap.size (.agg #[t1, t2]) tl td) ∧
      (((mostE k fr to).2 = 0 → AboveIs k fr to m pp tl td) ∧ ((mostE k fr to).2 ≠ 0 → m = 0 ∧ pp = [] ∧ tl = [] ∧ td = [])) ∧ Below w.heap.size w w' := by
  obtain ⟨A1, c1, A2, c2, A3, c3, rfl⟩ := kilnForm hv
  obtain ⟨q0, q1, -, qb⟩ := two_new' w (.cells #[.int .i64 k.room, .int .i64 k.per, .slice A1 k.ls.length c1, .slice A2 k.ds.length c2, .slice A3 k.ws.length c3] 26) (.cells #[.int .i64 0, .slice none 0 0, .slice none 0 0, .slice none 0 0] 54)
  have HKB := Lib.hid hv.toB
  have hk := hv.later qb
  clear hv
  go_enter Tryz.func30, Tryz.ntmps30
  have y0 := Joins.cell_of_block q0 0
  have y1 := Joins.cell_of_block q0 1
  have y2 := Joins.cell_of_block q0 2
  have y3 := Joins.cell_of_block q0 3
  have y4 := Joins.cell_of_block q0 4
  go_wp2_with fail
  generalize (w.alloc _).alloc _ = W1 at q0 q1 qb hk ⊢
  refine (checkMarks_c k _ fr to W1 hk).mono ?_
  rintro e W2 ⟨rfl, hF⟩
  replace q0 := (hF.block _ (size_of_block q0)).trans q0
  replace q1 := (hF.block _ (size_of_block q1)).trans q1
  replace qb := below_then qb hF
  replace hk := hk.later hF
  clear hF y0 y1 y2 y3 y4
  by_cases h0 : marksI k fr to = 0
  · have hc0 : checkI k = 0 := by
      unfold marksI at h0
      split at h0
      · rename_i h; exact absurd h0 h
      · rename_i h; simpa using h
    have hrg : (0 ≤ fr ∧ fr < marksN k) ∧ 0 ≤ to ∧ to < marksN k := by
      unfold marksI at h0
      rw [if_neg (by simp [hc0])] at h0
      split at h0
      · rename_i h; unfold marksN; omega
      · cases h0
    have hR := right_of_check hc0
    have hmn := mN_eq k
    have hN1 := mN_le hR
    obtain ⟨x, rfl⟩ : ∃ x : Nat, fr = x := ⟨fr.toNat, by omega⟩
    obtain ⟨y, rfl⟩ : ∃ y : Nat, to = y := ⟨to.toNat, by omega⟩
    have hx : x < mN k := by omega
    have hy : y < mN k := by omega
    have HR := Lib.hid hR
    have HME := Lib.hid (show (mostE k x y).2 = if canB (tiesL k) = true then 0 else 9 by unfold mostE; rw [if_neg (by simp [h0])]; split <;> rfl)
    have d0 : ((0 : Int) != 0) = false := rfl
    rw [h0]
    have HMN := Lib.hid hmn
    clear hc0 hrg hR hmn h0
    have y0 := Joins.cell_of_block q0 0
    have y1 := Joins.cell_of_block q0 1
    have y2 := Joins.cell_of_block q0 2
    have y3 := Joins.cell_of_block q0 3
    have y4 := Joins.cell_of_block q0 4
    have zq := size_of_block q0
    go_wp2_with fail
    have hws := size_of_block q1
    refine (netOf_d k _ W2 hk HR.out).mono ?_
    rintro e W3 ⟨u, rfl, ⟨hT, hge⟩, hF⟩
    obtain ⟨A, cap, rfl⟩ := Sl.form1 hT
    replace q0 := (hF.block _ (size_of_block q0)).trans q0
    replace q1 := (hF.block _ (size_of_block q1)).trans q1
    replace qb := below_then qb hF
    replace hk := hk.later hF
    clear hF hge y0 y1 y2 y3 y4 zq
    have nb := below_alloc W3 (.cells #[.int .i64 (marksN k), .slice A (tiesL k).length cap] 145)
    have r0 := heap_alloc_new W3 (.cells #[.int .i64 (marksN k), .slice A (tiesL k).length cap] 145)
    replace q0 := (nb.block _ (size_of_block q0)).trans q0
    replace q1 := (nb.block _ (size_of_block q1)).trans q1
    replace qb := below_then qb nb
    replace hT := hT.later nb
    replace hk := hk.later nb
    clear nb
    go_wp2_with fail
    refine (spreadK_c k A cap x _ HR.out hx hT).mono ?_
    rintro e W4 ⟨M, B, loose, rfl, hres, hF⟩
    replace q0 := (hF.block _ (size_of_block q0)).trans q0
    replace q1 := (hF.block _ (size_of_block q1)).trans q1
    replace r0 := (hF.block _ (size_of_block r0)).trans r0
    replace qb := below_then qb hF
    replace hT := hT.later hF
    replace hk := hk.later hF
    clear hF
    obtain ⟨W5, hW5⟩ : ∃ W5, W5 = (W4.alloc (.cells Tryz.zeroCells142 142)).setRow W4.heap.size (sprA x (mN k) M B) := ⟨_, rfl⟩
    have b5 : Below W4.heap.size W4 W5 := by rw [hW5]; exact below_setRow (below_alloc _ _) (Nat.le_refl _) _
    have r5 : W5.heap[W4.heap.size]? = some (.cells (sprA x (mN k) M B) 142) := by rw [hW5]; exact setRow_heap _ _ _ _ _ _ (heap_alloc_new W4 _)
    have HW5 := Lib.hid hW5
    replace q0 := (b5.block _ (size_of_block q0)).trans q0
    replace q1 := (b5.block _ (size_of_block q1)).trans q1
    replace r0 := (b5.block _ (size_of_block r0)).trans r0
    replace qb := below_then qb b5
    replace hT := hT.later b5
    replace hk := hk.later b5
    clear b5 hW5
    rcases hres with ⟨rfl, hs, hcc⟩ | ⟨_, hl, hcc⟩
    · have HCL := Lib.hid (show (mostE k x y).2 = 0 by rw [HME.out, if_pos hcc])
      have hok : NetOk (tiesL k) (mN k : Nat) := by rw [← HMN.out]; exact net_ok HR.out
      have hs2 := hs
      rw [HMN.out] at hs2
      have hpc := fun W h => path_c (tiesL k) (.slice A (tiesL k).length cap) (mN k) x y M B W h hok hy hs2
      rw [← HMN.out] at hpc
      have HPC := Lib.hid hpc
      have htr := fun W hW => truthOf_c k (.agg #[.int .i64 k.room, .int .i64 k.per, .slice A1 k.ls.length c1, .slice A2 k.ds.length c2, .slice A3 k.ws.length c3]) (halfN (mN k) M) W hW HR.out.ls HR.out.ds (half_rng HMN.out hs)
      rw [half_loads (show k.ls.length < mN k by unfold mN; omega), half_draws k HMN.out] at htr
      have HTR := Lib.hid htr
      have hy3 : (y : Int) < 41 := by omega
      have HSE := Lib.hid hs
      have HSB := Lib.hid (half_sub (x : Int) (mN k) M B)
      clear hs hs2 hok hpc htr hcc
      go_wp2_with (first | (refine wpList_store_rowTo rfl 142 _ _ rfl rfl W4.heap.size (sprA x (mN k) M B) rfl rfl 142 _ (heap_alloc_new W4 _) (by kernel_rfl) (by rw [sprA_size]; kernel_rfl) (by rw [sprA_size]; kernel_rfl) ?_; rw [← HW5.out]))
      refine wp_region_looseM [0, 6] [1, 2, 3, 4, 5, 8, 9, 10] (.one 7 (.one 11 .done)) [] [12] [13, 14] [] [] (by kernel_rfl) (by kernel_rfl) (by intro c a d v w h; cases d <;> exact h) (by intro c a d v w h; cases d <;> exact h) rfl (fun r i h => by simp at h) ?_
      simp only [pick, List.filterMap_cons, List.filterMap_nil, List.getElem?_toArray, List.getElem?_cons_succ, List.getElem?_cons_zero]
      refine wpPure_step (.int .i64 y) rfl (fun u => by first | rfl | kernel_rfl | simp [execOp, go_sem]) ?_
      refine wpPure_step (.int .i64 y) rfl (fun u => by first | rfl | kernel_rfl | simp [execOp, go_sem]) ?_
      intro u1 hu1
      replace r5 := (hu1.block _ (size_of_block r5)).trans r5
      replace q1 := (hu1.block _ (size_of_block q1)).trans q1
      replace q0 := (hu1.block _ (size_of_block q0)).trans q0
      replace r0 := (hu1.block _ (size_of_block r0)).trans r0
      replace hk := hk.later hu1
      replace hT := hT.later hu1
      replace qb := below_then qb hu1
      have cq00 := Joins.cell_of_block q0 0
      have cq01 := Joins.cell_of_block q0 1
      have cq02 := Joins.cell_of_block q0 2
      have cq03 := Joins.cell_of_block q0 3
      have cq04 := Joins.cell_of_block q0 4
      have zq0 := size_of_block q0
      have cr00 := Joins.cell_of_block r0 0
      have cr01 := Joins.cell_of_block r0 1
      have zr0 := size_of_block r0
      have hcg : ∀ (g : Gr u1) b o, b < u1.heap.size → g.val.cell? ⟨b, o, none⟩ = u1.cell? ⟨b, o, none⟩ := fun g b o h => (bcell g.b).1 b o h
      have m1 := (Joins.cell_of_block r5 (1 + y)).trans (sprA_most hy hN1)
      have zr5 := size_of_block r5
      iterate 8 (first | (refine wpRel_load_row rfl 142 _ rfl W4.heap.size rfl _ (sprA x (mN k) M B) _ _ r5 Tryz.underlying142 rfl (by rw [sprA_size]; kernel_rfl) ?_; try simp only [Act.put, List.setIfInBounds_toArray, List.set_cons_zero, List.set_cons_succ]) | (refine wpRel_load_part rfl 124 _ rfl W4.heap.size 1 rfl _ (sprA x (mN k) M B) (hgA (halfN (mN k) M)) _ _ r5 HSB.out Tryz.underlying124 rfl (by rw [hgA_size]; kernel_rfl) ?_; try simp only [Act.put, List.setIfInBounds_toArray, List.set_cons_zero, List.set_cons_succ]) | (refine wpRel_step (fun K hK => ?_); go_simp; refine hK _ ?_; clear hK K))
      refine wpRel_nil fun V1_0 hb1 => ?_
      clear m1 zr5
      clear hcg cq00 cq01 cq02 cq03 cq04 zq0 cr00 cr01 zr0
      replace q0 := (hb1.block _ (size_of_block q0)).trans q0
      replace q1 := (hb1.block _ (size_of_block q1)).trans q1
      replace r0 := (hb1.block _ (size_of_block r0)).trans r0
      replace r5 := (hb1.block _ (size_of_block r5)).trans r5
      replace hk := hk.later hb1
      replace hT := hT.later hb1
      replace qb := below_then qb hb1
      clear hb1 hu1
      refine wpTr_step rfl rfl fun K hK => ?_
      go_simp
      refine (HPC.out V1_0 hT).mono ?_
      rintro e X ⟨xp, n, rfl, hn1, hn2, hn3, hn4, hO, hx⟩
      replace hO := Joins.ownsRow_le hO qb.size
      refine hK _ _ hx fun V1_1 hu => ?_
      clear hK K
      have hxu := below_then hx hu
      replace hO := own_below hO hu
      replace q0 := (hxu.block _ (size_of_block q0)).trans q0
      replace q1 := (hxu.block _ (size_of_block q1)).trans q1
      replace r0 := (hxu.block _ (size_of_block r0)).trans r0
      replace r5 := (hxu.block _ (size_of_block r5)).trans r5
      replace hk := hk.later hxu
      replace hT := hT.later hxu
      replace qb := below_then qb hxu
      clear hx hu hxu
      refine wpTr_step rfl rfl fun K hK => ?_
      go_simp
      refine (HTR.out V1_1 hk).mono ?_
      rintro e X ⟨ut, rfl, hOT, hx⟩
      replace hOT := hOT.more qb.size
      refine hK _ _ hx fun V1_2 hu => ?_
      clear hK K
      have hxu := below_then hx hu
      replace hO := own_below hO hxu
      replace hOT := hOT.later hu
      replace q0 := (hxu.block _ (size_of_block q0)).trans q0
      replace q1 := (hxu.block _ (size_of_block q1)).trans q1
      replace r0 := (hxu.block _ (size_of_block r0)).trans r0
      replace r5 := (hxu.block _ (size_of_block r5)).trans r5
      replace hk := hk.later hxu
      replace hT := hT.later hxu
      replace qb := below_then qb hxu
      clear hx hu hxu
      obtain ⟨Ap, cp, rfl⟩ := own_form hO
      obtain ⟨Aa, ca, Ab, cb, rfl⟩ := hOT.form
      show wpPure _ _ _ _
      refine wpPure_step (.agg #[.int .i64 (M y), .slice Ap (idxI (tiesL k) B n y).length cp, .slice Aa (wtL k.ls.length M).length ca, .slice Ab (wtD k M).length cb]) rfl (fun u => by simp [execOp, go_sem]) ?_
      intro ks hks _ _
      obtain rfl : ks = [] := List.length_eq_zero_iff.1 hks
      clear hks
      show wpList _ _ _ _ _ _
      simp only [deco]
      have hne := own_ne_block hO q1 (by decide)
      have HO := Lib.hid (own_setCell (own_setCell (own_setCell (own_setCell hO 0 (.int .i64 (M y)) hne) 1 (.slice Ap (idxI (tiesL k) B n y).length cp) hne) 2 (.slice Aa (wtL k.ls.length M).length ca) hne) 3 (.slice Ab (wtD k M).length cb) hne)
      have k0 := Joins.block_setCell (i := 0) q1 (.int .i64 (M y))
      have k1 := Joins.block_setCell (i := 1) k0 (.slice Ap (idxI (tiesL k) B n y).length cp)
      have k2 := Joins.block_setCell (i := 2) k1 (.slice Aa (wtL k.ls.length M).length ca)
      have k3 := Joins.block_setCell (i := 3) k2 (.slice Ab (wtD k M).length cb)
      have HOT := Lib.hid ((((hOT.setCell q1 (by decide) 0 (.int .i64 (M y))).setCell k0 (by decide) 1 (.slice Ap (idxI (tiesL k) B n y).length cp)).setCell k1 (by decide) 2 (.slice Aa (wtL k.ls.length M).length ca)).setCell k2 (by decide) 3 (.slice Ab (wtD k M).length cb))
      have H0 := Lib.hid (Joins.cell_of_block k3 0)
      have H1 := Lib.hid (Joins.cell_of_block k3 1)
      have H2 := Lib.hid (Joins.cell_of_block k3 2)
      have H3 := Lib.hid (Joins.cell_of_block k3 3)
      have HBF := Lib.hid (below_set (v := .slice Ab (wtD k M).length cb) (i := 3) (below_set (v := .slice Aa (wtL k.ls.length M).length ca) (i := 2) (below_set (v := .slice Ap (idxI (tiesL k) B n y).length cp) (i := 1) (below_set (v := .int .i64 (M y)) (i := 0) qb (show w.heap.size ≤ w.heap.size + 1 by omega)) (show w.heap.size ≤ w.heap.size + 1 by omega)) (show w.heap.size ≤ w.heap.size + 1 by omega)) (show w.heap.size ≤ w.heap.size + 1 by omega))
      clear k0 k1 k2 k3 hne hO hOT
      have e0 := Joins.cell_of_block q1 0
      have f0 := Joins.unfrozen_of_block q1 0
      have e1 := Joins.cell_of_block q1 1
      have f1 := Joins.unfrozen_of_block q1 1
      have e2 := Joins.cell_of_block q1 2
      have f2 := Joins.unfrozen_of_block q1 2
      have e3 := Joins.cell_of_block q1 3
      have f3 := Joins.unfrozen_of_block q1 3
      have z1 := size_of_block q1
      clear q1 q0 r0 r5
      have HAB : Hid (AboveIs k x y (M y) (idxI (tiesL k) B n y) (wtL k.ls.length M) (wtD k M)) := ⟨M, B, n, HSE.out, hn1, hn2, hn3, hn4, rfl, rfl, rfl, rfl⟩
      clear hn1 hn2 hn3 hn4
      go_wp2_with fail
      refine bodyPost_ret (v := .tuple #[.agg #[.int .i64 (M y), .slice Ap (idxI (tiesL k) B n y).length cp, .slice Aa (wtL k.ls.length M).length ca, .slice Ab (wtD k M).length cb], .int .i64 0]) ?_ rfl ⟨M y, _, _, _, idxI (tiesL k) B n y, wtL k.ls.length M, wtD k M, by rw [HCL.out], ⟨HO.out, HOT.out⟩, ⟨fun _ => HAB.out, fun h => absurd HCL.out h⟩, HBF.out⟩
      simp [results, Tryz.results30, go_sem, H0.out, H1.out, H2.out, H3.out]
    · have HCL := Lib.hid (show (mostE k x y).2 = 9 by rw [HME.out, if_neg (by simp [hcc])])
      have d5 : (loose != -1) = true := by simpa using hl
      clear hcc hl
      have HV := Lib.hid (run_loadVar_row (P := Tryz.prog) _ (w.heap.size + 1) 54 54 #[.int .i64 0, .slice none 0 0, .slice none 0 0, .slice none 0 0] (0, 0) _ (setRow_heap _ _ _ _ _ _ q1) Tryz.underlying54 rfl (by kernel_rfl))
      have hBF := Lib.hid (below_setRow qb (show w.heap.size ≤ w.heap.size + 1 by omega) #[.int .i64 0, .slice none 0 0, .slice none 0 0, .slice none 0 0])
      go_wp2_with (first | (refine wpList_store_rowTo rfl 142 _ _ rfl rfl W4.heap.size (sprA x (mN k) M B) rfl rfl 142 _ (heap_alloc_new W4 _) (by kernel_rfl) (by rw [sprA_size]; kernel_rfl) (by rw [sprA_size]; kernel_rfl) ?_; rw [← HW5.out]) | (refine wpList_store_rowTo rfl 54 _ _ rfl rfl (w.heap.size + 1) #[.int .i64 0, .slice none 0 0, .slice none 0 0, .slice none 0 0] rfl rfl 54 _ q1 (by kernel_rfl) rfl (by kernel_rfl) ?_))
      refine bodyPost_ret (v := .tuple #[.agg #[.int .i64 0, .slice none 0 0, .slice none 0 0, .slice none 0 0], .int .i64 (9)]) ?_ rfl ⟨0, _, _, _, [], [], [], by rw [HCL.out], ⟨World.ownsRow_nil _ _ _ _, OwnTruth.nil_ _ _⟩, ⟨fun h => absurd (HCL.out ▸ h) (by decide), fun _ => ⟨rfl, rfl, rfl, rfl⟩⟩, hBF.out⟩
      simp [results, Tryz.results30, asAddr, HV.out]
  · have d0 : (marksI k fr to != 0) = true := by simpa using h0
    have HCL := Lib.hid (show (mostE k fr to).2 = marksI k fr to by unfold mostE; rw [if_pos h0])
    have HNE := Lib.hid h0
    clear h0
    have HV := Lib.hid (run_loadVar_row (P := Tryz.prog) _ (w.heap.size + 1) 54 54 #[.int .i64 0, .slice none 0 0, .slice none 0 0, .slice none 0 0] (0, 0) _ (setRow_heap _ _ _ _ _ _ q1) Tryz.underlying54 rfl (by kernel_rfl))
    have hBF := Lib.hid (below_setRow qb (show w.heap.size ≤ w.heap.size + 1 by omega) #[.int .i64 0, .slice none 0 0, .slice none 0 0, .slice none 0 0])
    go_wp2_with (first | (refine wpList_store_rowTo rfl 54 _ _ rfl rfl (w.heap.size + 1) #[.int .i64 0, .slice none 0 0, .slice none 0 0, .slice none 0 0] rfl rfl 54 _ q1 (by kernel_rfl) rfl (by kernel_rfl) ?_))
    refine bodyPost_ret (v := .tuple #[.agg #[.int .i64 0, .slice none 0 0, .slice none 0 0, .slice none 0 0], .int .i64 (marksI k fr to)]) ?_ rfl ⟨0, _, _, _, [], [], [], by rw [HCL.out], ⟨World.ownsRow_nil _ _ _ _, OwnTruth.nil_ _ _⟩, ⟨fun h => absurd (HCL.out ▸ h) HNE.out, fun _ => ⟨rfl, rfl, rfl, rfl⟩⟩, hBF.out⟩
    simp [results, Tryz.results30, asAddr, HV.out]
end Go.Proofs.YtnedcclmfokdnaaGreat
namespace Go.Proofs.YtnedcclmfokdnaaGreat
open Go Go.RowKit Go.Shelf
attribute [local go_sem] Oper.semAt_some Rel RelAt RelUpon
end Go.Proofs.YtnedcclmfokdnaaGreat
namespace Go.Proofs.YtnedcclmfokdnaaGreat
open Go Go.RowKit Go.Shelf
attribute [local go_sem] Oper.semAt_some Rel RelAt RelUpon
set_option maxRecDepth 100000 in
set_option maxHeartbeats 4000000 in
theorem without1_c (x : Wg) (g : Nat) (A : Option Addr) (cap : Nat) (ids : List Int) (w : World) (hg : w.heap[g]? = some (.cells #[.slice A ids.length cap] 27)) (hi : Ints w w.heap.size (.slice A ids.length cap) ids) :
    Calls Tryz.prog 169 #[.agg #[.int .i64 x.id, .int .i64 x.kind, .int .i64 x.frm, .int .i64 x.too, .int .i64 x.lo, .int .i64 x.hi], .pointer (some ⟨g, 0, none⟩)] w fun e w' => e = .returned (.bool (decide (x.id ∈ ids))) ∧ Below w.heap.size w w' := by
  have qb := below_alloc w (.cells #[.int .i64 x.id, .int .i64 x.kind, .int .i64 x.frm, .int .i64 x.too, .int .i64 x.lo, .int .i64 x.hi] 112)
  have hc := fun W (h : Ints W W.heap.size (.slice A ids.length cap) ids) => containsInts_c (.slice A ids.length cap) ids x.id W h
  have HC := Lib.hid hc
  have hj := hi.later qb
  have c0 := Joins.cell_of_block hg 0
  have zg := size_of_block hg
  have HE : Hid (ids.contains x.id = decide (x.id ∈ ids)) := by
    show ids.contains x.id = decide (x.id ∈ ids)
    rw [Bool.eq_iff_iff]; simp
  clear hi hc
  go_enter Tryz.func169, Tryz.ntmps169
  go_wp2_with fail
  refine (HC.out _ hj).mono ?_
  rintro e W2 ⟨rfl, hF⟩
  rw [HE.out]
  replace qb := below_then qb hF
  clear hF hj
  go_wp2_with fail
  go_ret
  exact ⟨rfl, qb⟩
end Go.Proofs.YtnedcclmfokdnaaGreat
namespace Go.Proofs.YtnedcclmfokdnaaGreat
open Go.RowKit
theorem Right.zero {k : Kl} (h : Right k) : checkI k = 0 := check_end h.room h.per h.ls h.ds h.ws h.ok
theorem above_facts {k : Kl} {fr to m : Int} {pp tl td : List Int} (hR : Right k) (hf : 0 ≤ fr ∧ fr < marksN k) (ht : 0 ≤ to ∧ to < marksN k) (h : AboveIs k fr to m pp tl td) :
    walkI (tiesL k) pp fr 0 = some (to, m) ∧ pp.length ≤ 41 ∧ True_ k tl td ∧ hgt k.ls.length tl td to - hgt k.ls.length tl td fr = m := by
  obtain ⟨M, B, n, hS, hn, ho, hb, hs, rfl, rfl, rfl, rfl⟩ := h
  have hok := net_ok hR
  refine ⟨?_, ?_, true_wt hR hS.keeps, ?_⟩
  · have := idxI_walk hS.byAt n to 0 ho
    rw [hb, hs, Int.zero_add] at this
    exact this
  · rw [idxI_len n to ho]; have := hok.le; omega
  · rw [hgt_wt k M ht.1 ht.2, hgt_wt k M hf.1 hf.2, hS.zero]; omega
theorem true_can {k : Kl} {tl td : List Int} (h : True_ k tl td) : Can (tiesL k) := ⟨_, h.2.2⟩
theorem fits_can {k : Kl} {tl td : List Int} (h : fitsB k tl td = true) : Can (tiesL k) := true_can (fitsB_iff.1 h).2
theorem walk_true {k : Kl} {a b m : Int} {p tl td : List Int} (h1 : walkI (tiesL k) p a 0 = some (b, m)) (h2 : True_ k tl td) (h3 : hgt k.ls.length tl td b - hgt k.ls.length tl td a = m) : dst (tiesL k) a b = m := by
  obtain ⟨q, q1, q2, q3, _⟩ := walk_chain p a 0 b m h1
  rw [dst_keeps h2.2.2 q1 q2 (by omega), h3]
theorem clash_cant {k : Kl} {p : List Int} (h : clashI k p = 0) : ¬ Can (tiesL k) := by
  unfold clashI at h
  split at h
  · rename_i h1; exact absurd h h1
  · split at h
    · omega
    · unfold circleI at h
      cases h0 : p[0]? with
      | none => rw [h0] at h; simp at h
      | some x =>
        rw [h0] at h
        cases h1 : tieAt (tiesL k) x with
        | none => simp only [h1] at h; omega
        | some t =>
          simp only [h1] at h
          cases h2 : walkI (tiesL k) p t.frm 0 with
          | none => simp only [h2] at h; omega
          | some r =>
            obtain ⟨a, s⟩ := r
            simp only [h2] at h
            split at h
            · rename_i hc
              rw [hc.1] at h2
              obtain ⟨c, hc2⟩ := walk_circle h2 hc.2
              exact can_circle hc2
            · omega
theorem above_ok {k : Kl} {a b m : Int} {p tl td : List Int} (h : aboveC k a b m p tl td = 0) : Can (tiesL k) ∧ dst (tiesL k) a b = m := by
  unfold aboveC at h
  split at h
  · rename_i h1; exact absurd h h1
  · split at h
    · omega
    · split at h
      · rename_i h3
        exact ⟨fits_can h3.2.1, walk_true h3.1 (fitsB_iff.1 h3.2.1).2 h3.2.2⟩
      · omega
theorem above_most {k : Kl} {fr to m : Int} {pp tl td : List Int} (hc : checkI k = 0) (hf : 0 ≤ fr ∧ fr < marksN k) (ht : 0 ≤ to ∧ to < marksN k) (h : AboveIs k fr to m pp tl td) : m = dst (tiesL k) fr to := by
  obtain ⟨h1, h2, h3, h4⟩ := above_facts (right_of_check hc) hf ht h
  exact (walk_true h1 h3 h4).symm
theorem marks_ok {k : Kl} {a b : Int} (hc : checkI k = 0) (ha : 0 ≤ a ∧ a < marksN k) (hb : 0 ≤ b ∧ b < marksN k) : marksI k a b = 0 := by
  unfold marksN at ha hb
  unfold marksI
  rw [if_neg (by simp [hc]), if_pos (by omega)]
theorem mostE_ok {k : Kl} {a b : Int} (hc : checkI k = 0) (ha : 0 ≤ a ∧ a < marksN k) (hb : 0 ≤ b ∧ b < marksN k) : mostE k a b = if canB (tiesL k) = true then (dst (tiesL k) a b, 0) else (0, 9) := by
  unfold mostE
  rw [if_neg (by rw [marks_ok hc ha hb]; simp)]
theorem tri_ok {k : Kl} {a b c : Int} (hca : Can (tiesL k)) (ha : 0 ≤ a ∧ a < marksN k) (hb : 0 ≤ b ∧ b < marksN k) (hc : 0 ≤ c ∧ c < marksN k) : dst (tiesL k) a c ≤ dst (tiesL k) a b + dst (tiesL k) b c :=
  dst_tri hca (net_reaches k ha.1 ha.2 b hb.1 hb.2) (net_reaches k hb.1 hb.2 c hc.1 hc.2)
theorem tie_ok {k : Kl} (hca : Can (tiesL k)) {t : Tie} (ht : t ∈ tiesL k) : dst (tiesL k) t.frm t.too ≤ t.most := by
  have := dst_le hca (p := [t]) (x := t.frm) (y := t.too) (fun u hu => by rw [List.mem_singleton] at hu; exact hu ▸ ht) ⟨rfl, rfl⟩
  simpa [sumT] using this
theorem betw_has {l : List Tie} {n a b x : Int} (ok : NetOk l n) (hc : Can l) (ha : Reaches l n a) (hb : Reaches l n b) (h1 : x ≤ dst l a b) (h2 : -(dst l b a) ≤ x) : ∃ g, Keeps l g ∧ g b - g a = x := by
  refine ⟨fun v => min (dst l a v) (dst l b v + x), keeps_min (dst_heights ok hc ha) (keeps_add (dst_heights ok hc hb) x), ?_⟩
  show min (dst l a b) (dst l b b + x) - min (dst l a a) (dst l b a + x) = x
  rw [dst_self hc, dst_self hc]
  omega
theorem true_between {k : Kl} {tl td : List Int} (h : True_ k tl td) {a b : Int} (ha : 0 ≤ a ∧ a < marksN k) (hb : 0 ≤ b ∧ b < marksN k) :
    -(dst (tiesL k) b a) ≤ hgt k.ls.length tl td b - hgt k.ls.length tl td a ∧ hgt k.ls.length tl td b - hgt k.ls.length tl td a ≤ dst (tiesL k) a b := by
  have h1 := dst_ge (net_reaches k ha.1 ha.2 b hb.1 hb.2) h.2.2
  have h2 := dst_ge (net_reaches k hb.1 hb.2 a ha.1 ha.2) h.2.2
  omega
theorem loadP_own (i : Int) : (loadP i).own = i + 1 := rfl
theorem loadP_ahead (i : Int) : (loadP i).ahead = i := rfl
theorem pts_ok {k : Kl} {i j : Nat} (hi : i < k.ls.length) (hj : j < k.ds.length) : PtsOk (tiesL k) (marksN k) (loadP i) (drawP k j) := by
  have m1 := mark_rng k (show (0 : Int) ≤ (j : Int) by omega) (by omega)
  have m2 := mark_rng k (show (0 : Int) ≤ (j : Int) + 1 by omega) (by omega)
  have hn : marksN k = 1 + k.ls.length + k.ds.length := rfl
  exact ⟨⟨by rw [loadP_ahead]; omega, by rw [loadP_ahead]; omega⟩, ⟨by rw [loadP_own]; omega, by rw [loadP_own]; omega⟩, m1, m2, net_reaches k (by rw [loadP_own]; omega) (by rw [loadP_own]; omega), net_reaches k m2.1 m2.2⟩
end Go.Proofs.YtnedcclmfokdnaaGreat
namespace Go.Proofs.YtnedcclmfokdnaaGreat
open Go.RowKit
theorem ahead_nodup {l : List Int} (h : l.Nodup) {a : Nat} (ha : a < l.length) : aheadB l a = true := by
  refine firstB_yes (List.getElem?_eq_getElem ha) fun m z hm hz e => ?_
  obtain ⟨hl, rfl⟩ := List.getElem?_eq_some_iff.1 hz
  rw [List.nodup_iff_pairwise_ne, List.pairwise_iff_getElem] at h
  exact h m a hl ha hm e
theorem right_mk {k : Kl} (h1 : inB k.room 0 16777216 = true) (h2 : inB k.per 1 65536 = true) (h3 : k.ls.length ≤ 20) (h4 : k.ds.length ≤ 20) (h5 : k.ws.length ≤ 20)
    (hl : ∀ (i : Nat) (x : Rec), k.ls[i]? = some x → recordB x.id x.hour x.lo x.hi (behind k.ls i) = true) (hd : ∀ (i : Nat) (x : Rec), k.ds[i]? = some x → recordB x.id x.hour x.lo x.hi (behind k.ds i) = true)
    (hw : ∀ x ∈ k.ws, weighB k x = true) (hn : (allIds k).Nodup) : Right k := by
  refine ⟨h1, h2, h3, h4, h5, fun i hi => ?_⟩
  have ha := ahead_nodup hn hi
  rw [allIds_len] at hi
  by_cases c1 : i < k.ls.length
  · exact errAt_ok (okAt_load c1 (List.getElem?_eq_getElem c1)) (hl _ _ (List.getElem?_eq_getElem c1)) ha
  · by_cases c2 : i < k.ls.length + k.ds.length
    · have hx := List.getElem?_eq_getElem (l := k.ds) (i := i - k.ls.length) (by omega)
      exact errAt_ok (okAt_draw c1 c2 hx) (hd _ _ hx) ha
    · have hx := List.getElem?_eq_getElem (l := k.ws) (i := i - k.ls.length - k.ds.length) (by omega)
      exact errAt_ok (okAt_weigh c1 c2 hx) (hw _ (List.mem_of_getElem? hx)) ha
theorem Right.wB {k : Kl} (h : Right k) {g : Wg} (hg : g ∈ k.ws) : weighB k g = true := by
  obtain ⟨i, hi⟩ := List.getElem?_of_mem hg
  exact h.weigh hi
theorem less_ids (k : Kl) (ids : List Int) : (allIds (lessK k ids)).Sublist (allIds k) := by
  unfold allIds lessK
  exact ((List.Sublist.refl _).append (List.filter_sublist.map _))
theorem less_weigh (k : Kl) (ids : List Int) (g : Wg) : weighB (lessK k ids) g = weighB k g := rfl
theorem less_right {k : Kl} (h : Right k) (ids : List Int) : Right (lessK k ids) := by
  refine right_mk h.room h.per h.ls h.ds ?_ (fun i x hx => h.load hx) (fun i x hx => h.draw hx) (fun x hx => ?_) (h.ids.sublist (less_ids k ids))
  · have : (lessK k ids).ws.length ≤ k.ws.length := List.length_filter_le _ _
    have := h.ws
    omega
  · rw [less_weigh]; exact h.wB (List.mem_filter.1 hx).1
theorem wg_mem {k : Kl} {t : Tie} : t ∈ (List.range k.ws.length).flatMap (wgTies k) ↔ ∃ g ∈ k.ws, t ∈ bothT (endsI k g).1 (endsI k g).2 g.lo g.hi g.id := by
  simp only [List.mem_flatMap, List.mem_range]
  constructor
  · rintro ⟨i, hi, ht⟩
    unfold wgTies at ht
    rw [List.getElem?_eq_getElem hi] at ht
    exact ⟨_, List.getElem_mem hi, ht⟩
  · rintro ⟨g, hg, ht⟩
    obtain ⟨i, hi⟩ := List.getElem?_of_mem hg
    exact ⟨i, (List.getElem?_eq_some_iff.1 hi).1, by unfold wgTies; rw [hi]; exact ht⟩
def otherT (k : Kl) : List Tie := (List.range k.ls.length).flatMap (loadTies k) ++ (List.range k.ds.length).flatMap (drawTies k) ++ (List.range k.ds.length).flatMap (stockTies k) ++ (List.range k.ls.length).flatMap (roomTies k)
theorem ties_mem {k : Kl} {t : Tie} : t ∈ tiesL k ↔ t ∈ otherT k ∨ ∃ g ∈ k.ws, t ∈ bothT (endsI k g).1 (endsI k g).2 g.lo g.hi g.id := by
  rw [← wg_mem]
  unfold tiesL otherT
  simp only [List.mem_append]
  constructor
  · rintro ((((h | h) | h) | h) | h)
    · exact .inl (.inl (.inl (.inl h)))
    · exact .inl (.inl (.inl (.inr h)))
    · exact .inr h
    · exact .inl (.inl (.inr h))
    · exact .inl (.inr h)
  · rintro ((((h | h) | h) | h) | h)
    · exact .inl (.inl (.inl (.inl h)))
    · exact .inl (.inl (.inl (.inr h)))
    · exact .inl (.inr h)
    · exact .inr h
    · exact .inl (.inl (.inr h))
structure Alike (k m : Kl) : Prop where
  room : m.room = k.room
  ls : m.ls = k.ls
  ds : m.ds = k.ds
theorem Alike.ends {k m : Kl} (h : Alike k m) (g : Wg) : endsI m g = endsI k g := by unfold endsI markI chargedI drawnI markI; rw [h.ls, h.ds]
theorem Alike.other {k m : Kl} (h : Alike k m) : otherT m = otherT k := by
  obtain ⟨r, p, l, d, w⟩ := m
  obtain ⟨r2, p2, l2, d2, w2⟩ := k
  obtain ⟨rfl, rfl, rfl⟩ := h
  rfl
theorem Alike.marks {k m : Kl} (h : Alike k m) : marksN m = marksN k := by unfold marksN; rw [h.ls, h.ds]
theorem Alike.sub {k m : Kl} (h : Alike k m) (hw : ∀ g ∈ k.ws, g ∈ m.ws) : ∀ t ∈ tiesL k, t ∈ tiesL m := fun t ht => by
  rw [ties_mem] at ht ⊢
  rw [h.other]
  rcases ht with h1 | ⟨g, hg, h1⟩
  · exact .inl h1
  · exact .inr ⟨g, hw g hg, by rw [h.ends]; exact h1⟩
theorem less_alike (k : Kl) (ids : List Int) : Alike (lessK k ids) k := ⟨rfl, rfl, rfl⟩
theorem less_sub (k : Kl) (ids : List Int) : ∀ t ∈ tiesL (lessK k ids), t ∈ tiesL k := (less_alike k ids).sub fun _ hg => (List.mem_filter.1 hg).1
theorem less_can {k : Kl} (h : Can (tiesL k)) (ids : List Int) : Can (tiesL (lessK k ids)) := can_sub (less_sub k ids) h
theorem mem_put {l : List Int} {n x : Int} : x ∈ putI l n ↔ x = n ∨ x ∈ l := by
  induction l with
  | nil => simp [putI]
  | cons y l ih =>
    unfold putI
    split
    · simp only [List.mem_cons, ih]
      constructor
      · rintro (h | h | h)
        · exact .inr (.inl h)
        · exact .inl h
        · exact .inr (.inr h)
      · rintro (h | h | h)
        · exact .inr (.inl h)
        · exact .inl h
        · exact .inr (.inr h)
    · simp
end Go.Proofs.YtnedcclmfokdnaaGreat
namespace Go.Proofs.YtnedcclmfokdnaaGreat
open Go.RowKit
theorem loadP_mark (i : Int) : (⟨markB 0 i, markB 0 (i + 1)⟩ : Pt) = loadP i := by rw [markB_zero, markB_zero]; rfl
end Go.Proofs.YtnedcclmfokdnaaGreat
namespace Go.Proofs.YtnedcclmfokdnaaGreat
open Go Go.RowKit Go.Shelf
attribute [local go_sem] Oper.semAt_some Rel RelAt RelUpon
theorem source_is {k : Kl} (hc : checkI k = 0) (id : Int) : sourceE k id = if place k.ds id < 0 then 5 else if canB (tiesL k) = true then 0 else 9 := by
  unfold sourceE pairE
  rw [if_neg (by simp [hc] : ¬ checkI k ≠ 0)]
  by_cases h : place k.ds id < 0
  · rw [if_pos h, if_pos h]; rfl
  · rw [if_neg h, if_neg h]; rfl
theorem sureL_snoc {l : List Tie} {rs : List Rec} {bs : Int} {p : Pt} {j : Nat} {x : Rec} (hx : rs[j]? = some x) : sureL l rs bs p (j + 1) = sureL l rs bs p j ++ if 0 < leastZ l ⟨markB bs j, markB bs ((j : Int) + 1)⟩ p then [x.id] else [] := by
  unfold sureL; rw [flat_range_snoc, hx]
theorem someL_snoc {l : List Tie} {rs : List Rec} {bs : Int} {p : Pt} {j : Nat} {x : Rec} (hx : rs[j]? = some x) : someL l rs bs p (j + 1) = someL l rs bs p j ++ if 0 < mostZ l ⟨markB bs j, markB bs ((j : Int) + 1)⟩ p then [x.id] else [] := by
  unfold someL; rw [flat_range_snoc, hx]
theorem sureL_len (l : List Tie) (rs : List Rec) (bs : Int) (p : Pt) (j : Nat) : (sureL l rs bs p j).length ≤ j := by
  induction j with
  | zero => simp [sureL]
  | succ j ih =>
    unfold sureL at ih ⊢
    rw [flat_range_snoc, List.length_append]
    refine Nat.add_le_add ih ?_
    split
    · split <;> simp
    · simp
theorem someL_len (l : List Tie) (rs : List Rec) (bs : Int) (p : Pt) (j : Nat) : (someL l rs bs p j).length ≤ j := by
  induction j with
  | zero => simp [someL]
  | succ j ih =>
    unfold someL at ih ⊢
    rw [flat_range_snoc, List.length_append]
    refine Nat.add_le_add ih ?_
    split
    · split <;> simp
    · simp
theorem own_setRowX {w : World} {B g sz n : Nat} {e t : TypeId} {v : Value} {xs : List Value} {cs0 : Array Value} (h : w.ownsRow B e sz v n xs) (hg : w.heap[g]? = some (.cells cs0 t)) (ht : e ≠ t) (cs : Array Value) : (w.setRow g cs).ownsRow B e sz v n xs := by
  refine ⟨h.1, h.2.imp id fun ⟨g', cap, cur, e1, h2, h3, r⟩ => ⟨g', cap, cur, e1, h2, ?_, r⟩⟩
  rw [setRow_other _ _ _ _ (by rintro rfl; rw [h3] at hg; cases hg; exact ht rfl)]
  exact h3
theorem own_less {w : World} {B B' sz n : Nat} {e : TypeId} {v : Value} {xs : List Value} (h : w.ownsRow B e sz v n xs) (hb : B' ≤ B) : w.ownsRow B' e sz v n xs :=
  ⟨h.1, h.2.imp id fun ⟨g', cap, cur, e1, h2, r⟩ => ⟨g', cap, cur, e1, Nat.le_trans hb h2, r⟩⟩
@[reducible] def Apart (u v : Value) : Prop := ∀ g, u.ownBlock = some g → v.ownBlock ≠ some g
theorem apart_symm {u v : Value} (h : Apart u v) : Apart v u := fun g hg e => h g e hg
theorem app_apart {W w2 : World} {B n1 n2 : Nat} {o : Obj} {e : TypeId} {u1 u2 v' : Value} {xs1 xs2 : List Value} (_ : W.ownsRow B e 1 u1 n1 xs1) (hO2 : W.ownsRow B e 1 u2 n2 xs2) (hD : Apart u1 u2) (hg : (W.alloc o).grownBy w2 u1.ownBlock)
    (hat : v'.ownBlock = u1.ownBlock ∨ v'.ownBlock = some (W.heap.size + 1)) : w2.ownsRow B e 1 u2 n2 xs2 ∧ Apart v' u2 := by
  refine ⟨(hO2.alloc o).kept hg ?_, fun g h1 h2 => ?_⟩
  · cases h : u1.ownBlock with
    | none => cases h3 : u2.ownBlock with
      | none => exact .inl rfl
      | some x => exact .inr (by simp)
    | some x => exact .inr (hD x h)
  · rcases hat with h | h
    · exact hD g (h ▸ h1) h2
    · have := (hO2.lt g h2).2
      rw [h1, Option.some.injEq] at h
      omega
theorem reach_some {l : List Tie} {N : Nat} {a b : Pt} {F : Nat → Int} {r : Bool} (h : (r = true ∧ ∃ M B, F = halfN N M ∧ Settled (l ++ moreT a b 1) N 0 M B) ∨ (r = false ∧ ¬ CanZ l a b 1)) : Hid (r = true ↔ 0 < mostZ l a b) := by
  show r = true ↔ 0 < mostZ l a b
  rw [mostZ_pos]
  rcases h with ⟨rfl, M, _, _, hs⟩ | ⟨rfl, h⟩
  · exact ⟨fun _ => ⟨M, hs.keeps⟩, fun _ => rfl⟩
  · exact ⟨fun h2 => (by cases h2), fun h2 => absurd h2 h⟩
set_option maxRecDepth 100000 in
set_option maxHeartbeats 8000000 in
theorem metL_c (k : Kl) (A1 A2 A3 : Option Addr) (c1 c2 c3 : Nat) (id : Int) (w : World) (hv : Kiln w (.agg #[.int .i64 k.room, .int .i64 k.per, .slice A1 k.ls.length c1, .slice A2 k.ds.length c2, .slice A3 k.ws.length c3]) k) (hR : Right k) :
    Calls Tryz.prog 122 #[.agg #[.int .i64 k.room, .int .i64 k.per, .slice A1 k.ls.length c1, .slice A2 k.ds.length c2, .slice A3 k.ws.length c3], .agg #[.slice A1 k.ls.length c1, .int .i64 0], .agg #[.slice A2 k.ds.length c2, .int .i64 k.ls.length], .int .i64 id] w fun e w' => ∃ u1 u2, e = .returned (.tuple #[u1, u2, .int .i64 (sourceE k id)]) ∧
      (w'.ownsRow w.heap.size 3 1 u1 (sourceS k id).length ((sourceS k id).map (Value.int .i64)) ∧ w'.ownsRow w.heap.size 3 1 u2 (sourceM k id).length ((sourceM k id).map (Value.int .i64))) ∧ Below w.heap.size w w' := by
  obtain ⟨q0, q1, q2, -, qb⟩ := three_new w (.cells #[.int .i64 k.room, .int .i64 k.per, .slice A1 k.ls.length c1, .slice A2 k.ds.length c2, .slice A3 k.ws.length c3] 26) (.cells #[.slice A1 k.ls.length c1, .int .i64 0] 130) (.cells #[.slice A2 k.ds.length c2, .int .i64 k.ls.length] 134)
  have hk := hv.later qb
  clear hv
  have HR := Lib.hid hR
  have n1 := hR.ls
  have n2 := hR.ds
  have HE := Lib.hid (source_is hR.zero id)
  have HN := Lib.hid hR.noD
  clear hR
  have hln := fun W (hk : Kiln W (.agg #[.int .i64 k.room, .int .i64 k.per, .slice A1 k.ls.length c1, .slice A2 k.ds.length c2, .slice A3 k.ws.length c3]) k) => (show Recs W W.heap.size (.slice A1 k.ls.length c1) k.ls ∧ Recs W W.heap.size (.slice A2 k.ds.length c2) k.ds by
    obtain ⟨al, ad, aw, e9, hl, hd, _⟩ := hk
    obtain ⟨rfl, rfl, rfl⟩ : .slice A1 k.ls.length c1 = al ∧ .slice A2 k.ds.length c2 = ad ∧ .slice A3 k.ws.length c3 = aw := by simpa using e9
    exact ⟨hl, hd⟩)
  have HLN := Lib.hid hln
  clear hln
  go_enter Tryz.func122, Tryz.ntmps122
  have x0 := Joins.cell_of_block q2 0
  have x1 := Joins.cell_of_block q2 1
  go_wp2_with fail
  generalize ((w.alloc _).alloc _).alloc _ = W1 at q0 q1 q2 x0 x1 qb hk ⊢
  have hpc := Lib.hid (partsD_c k.ds (.slice A2 k.ds.length c2) k.ls.length W1 (HLN.out W1 hk).2 (by omega) HN.out)
  refine hpc.out.mono ?_
  rintro e W4 ⟨r, rfl, hm, hF⟩
  replace q0 := (hF.block _ (size_of_block q0)).trans q0
  replace q1 := (hF.block _ (size_of_block q1)).trans q1
  replace qb := below_then qb hF
  replace hk := hk.later hF
  have HM := Lib.hid hm
  have HLK := Lib.hid (lookup_place k.ds k.ls.length id)
  clear hF hpc hm x0 x1 q2
  rcases place_cases k.ds id with ⟨e1, _⟩ | ⟨p, xp, e1, hxp, _, hp, _⟩
  · rw [e1, if_pos (by omega)] at HLK
    have HEE := Lib.hid (show sourceE k id = 5 by rw [HE.out, if_pos (by rw [e1]; omega)])
    have HSS := Lib.hid (show sourceS k id = [] ∧ sourceM k id = [] by unfold sourceS sourceM; rw [HEE.out]; exact ⟨rfl, rfl⟩)
    clear e1
    have hz0 := heap_alloc_new W4 (.cells #[.int .i64 0, .int .i64 0] 160)
    obtain ⟨W5, hW5⟩ : ∃ W5, W5 = (W4.alloc (.cells #[.int .i64 0, .int .i64 0] 160)).setRow W4.heap.size (#[.int .i64 0, .int .i64 0]) := ⟨_, rfl⟩
    have pb : Below W4.heap.size W4 W5 := by rw [hW5]; exact below_setRow (below_alloc _ _) (Nat.le_refl _) _
    have p0 : W5.heap[W4.heap.size]? = some (.cells (#[.int .i64 0, .int .i64 0]) 160) := by rw [hW5]; exact setRow_heap _ _ _ _ _ _ (heap_alloc_new W4 _)
    have HW5 := Lib.hid hW5
    replace q0 := (pb.block _ (size_of_block q0)).trans q0
    replace q1 := (pb.block _ (size_of_block q1)).trans q1
    replace qb := below_then qb pb
    replace hk := hk.later pb
    clear pb hW5
    go_wp2_with (first | (at_lookup; refine wpList_lookup_i rfl (.tmp 24) (.tmp 25) 168 true rfl Tryz.underlying168 Tryz.underlying3 (.agg #[.int .i64 0, .int .i64 0]) Tryz.zeroPart rfl id rfl HM.out (.tuple #[.agg #[.int .i64 0, .int .i64 0], .bool false]) (by rw [HLK.out]; rfl) ?_) | (refine wpList_store_rowTo rfl 160 _ _ rfl rfl W4.heap.size #[.int .i64 0, .int .i64 0] rfl rfl 160 _ hz0 (by kernel_rfl) rfl (by kernel_rfl) ?_; rw [← HW5.out]))
    refine bodyPost_ret (v := .tuple #[.slice none 0 0, .slice none 0 0, .int .i64 (5)]) ?_ rfl ⟨_, _, by rw [HEE.out], ⟨by rw [HSS.out.1]; exact World.ownsRow_nil _ _ _ _, by rw [HSS.out.2]; exact World.ownsRow_nil _ _ _ _⟩, qb⟩
    simp [results, Tryz.results122, go_sem]
  · rw [e1, if_neg (by omega)] at HLK
    have hpv2 : partV k.ls.length p = .agg #[.int .i64 (markB k.ls.length p), .int .i64 (markB k.ls.length ((p : Int) + 1))] := rfl
    rw [hpv2] at HLK
    have hxj := (List.getElem?_eq_some_iff.1 hxp).1
    have HPT := Lib.hid (fun (i : Nat) (hi : i < k.ls.length) => (show PtsOk (tiesL k) (marksN k) ⟨markB 0 i, markB 0 ((i : Int) + 1)⟩ ⟨markB k.ls.length p, markB k.ls.length ((p : Int) + 1)⟩ by rw [loadP_mark]; exact pts_ok hi hp))
    have HE2 := Lib.hid (show sourceE k id = if canB (tiesL k) = true then 0 else 9 by rw [HE.out, if_neg (by rw [e1]; omega)])
    have HP := Lib.hid e1
    clear e1 HE hxp
    have hz0 := heap_alloc_new W4 (.cells #[.int .i64 0, .int .i64 0] 160)
    obtain ⟨W5, hW5⟩ : ∃ W5, W5 = (W4.alloc (.cells #[.int .i64 0, .int .i64 0] 160)).setRow W4.heap.size (#[.int .i64 (markB k.ls.length p), .int .i64 (markB k.ls.length ((p : Int) + 1))]) := ⟨_, rfl⟩
    have pb : Below W4.heap.size W4 W5 := by rw [hW5]; exact below_setRow (below_alloc _ _) (Nat.le_refl _) _
    have p0 : W5.heap[W4.heap.size]? = some (.cells (#[.int .i64 (markB k.ls.length p), .int .i64 (markB k.ls.length ((p : Int) + 1))]) 160) := by rw [hW5]; exact setRow_heap _ _ _ _ _ _ (heap_alloc_new W4 _)
    have HW5 := Lib.hid hW5
    replace q0 := (pb.block _ (size_of_block q0)).trans q0
    replace q1 := (pb.block _ (size_of_block q1)).trans q1
    replace qb := below_then qb pb
    replace hk := hk.later pb
    clear pb hW5
    have y0 := Joins.cell_of_block q0 0
    have y1 := Joins.cell_of_block q0 1
    have y2 := Joins.cell_of_block q0 2
    have y3 := Joins.cell_of_block q0 3
    have y4 := Joins.cell_of_block q0 4
    have zq := size_of_block q0
    go_wp2_with (first | (at_lookup; refine wpList_lookup_i rfl (.tmp 24) (.tmp 25) 168 true rfl Tryz.underlying168 Tryz.underlying3 (.agg #[.int .i64 0, .int .i64 0]) Tryz.zeroPart rfl id rfl HM.out (.tuple #[.agg #[.int .i64 (markB k.ls.length p), .int .i64 (markB k.ls.length ((p : Int) + 1))], .bool true]) (by rw [HLK.out]; rfl) ?_) | (refine wpList_store_rowTo rfl 160 _ _ rfl rfl W4.heap.size #[.int .i64 (markB k.ls.length p), .int .i64 (markB k.ls.length ((p : Int) + 1))] rfl rfl 160 _ hz0 (by kernel_rfl) rfl (by kernel_rfl) ?_; rw [← HW5.out]))
    clear y0 y1 y2 y3 y4 zq hz0 HW5 HM HLK
    refine (netOf_d k _ W5 hk HR.out).mono ?_
    rintro e W9 ⟨u, rfl, ⟨hT, _⟩, hF⟩
    obtain ⟨A, cap, rfl⟩ := Sl.form1 hT
    replace q1 := (hF.block _ (size_of_block q1)).trans q1
    replace p0 := (hF.block _ (size_of_block p0)).trans p0
    replace qb := below_then qb hF
    have hre := (HLN.out W9 (hk.later hF)).1
    clear hF q0 hk HLN
    have nb := below_alloc W9 (.cells #[.int .i64 (marksN k), .slice A (tiesL k).length cap] 145)
    have r0 := heap_alloc_new W9 (.cells #[.int .i64 (marksN k), .slice A (tiesL k).length cap] 145)
    replace q1 := (nb.block _ (size_of_block q1)).trans q1
    replace p0 := (nb.block _ (size_of_block p0)).trans p0
    replace qb := below_then qb nb
    replace hT := hT.later nb
    replace hre := hre.later nb
    clear nb
    go_wp2_with fail
    generalize W9.alloc _ = W10 at r0 q1 p0 qb hT hre ⊢
    refine (agreesK_c k (.slice A (tiesL k).length cap) W10 HR.out hT).mono ?_
    rintro e W11 ⟨rfl, hF⟩
    replace q1 := (hF.block _ (size_of_block q1)).trans q1
    replace p0 := (hF.block _ (size_of_block p0)).trans p0
    replace r0 := (hF.block _ (size_of_block r0)).trans r0
    replace qb := below_then qb hF
    replace hT := hT.later hF
    replace hre := hre.later hF
    clear hF
    by_cases hcc : canB (tiesL k) = true
    · have HCC := Lib.hid hcc
      rw [hcc]
      have HEE := Lib.hid (show sourceE k id = 0 by rw [HE2.out, if_pos hcc])
      have HSS := Lib.hid (show sourceS k id = sureL (tiesL k) k.ls 0 ⟨markB k.ls.length p, markB k.ls.length ((p : Int) + 1)⟩ k.ls.length ∧ sourceM k id = someL (tiesL k) k.ls 0 ⟨markB k.ls.length p, markB k.ls.length ((p : Int) + 1)⟩ k.ls.length by unfold sourceS sourceM; rw [if_pos HEE.out, if_pos HEE.out, HP.out]; exact ⟨rfl, rfl⟩)
      clear hcc
      have hmn := mN_eq k
      have hok : NetOk (tiesL k) (mN k : Nat) := by rw [← hmn]; exact net_ok HR.out
      have hrea : Reaches (tiesL k) (mN k : Nat) 0 := by rw [← hmn]; exact net_reaches k (by omega) (by rw [hmn]; unfold mN; omega)
      have hlen := tiesL_len HR.out.small
      have hn0 : 0 < mN k := by unfold mN; omega
      have hT2 := hT
      have hre2 := hre
      have HT := Lib.hid hT2
      have HRE := Lib.hid hre2
      rw [hmn] at r0 HPT
      have HOK := Lib.hid hok
      have HREA := Lib.hid hrea
      obtain ⟨i0, hi, hz0, hz1, hz2⟩ := info_parts Tryz.infoIntT
      have HI := Lib.hid hi
      have HI0 := Lib.hid hz0
      have HI1 := Lib.hid hz1
      have HI2 := Lib.hid hz2
      have Q1 := Lib.hid q1
      have P0 := Lib.hid p0
      have R0 := Lib.hid r0
      have hs1 := size_of_block q1
      have hs2 := size_of_block p0
      have hs3 := size_of_block r0
      have HQB := Lib.hid qb
      have hwB : w.heap.size ≤ W11.heap.size := qb.size
      obtain ⟨g1, hg1⟩ : ∃ g, g = w.heap.size + 1 := ⟨_, rfl⟩
      obtain ⟨g2, hg2⟩ : ∃ g, g = W4.heap.size := ⟨_, rfl⟩
      obtain ⟨g3, hg3⟩ : ∃ g, g = W9.heap.size := ⟨_, rfl⟩
      have x1 := Joins.cell_of_block q1 0
      have zq1 := size_of_block q1
      go_wp2_with fail
      clear x1 zq1 hok hrea hT hre hT2 hre2 hi hz0 hz1 hz2 hmn
      go_loopw [14, 15, 39] (fun u1 u2 n wr => ∃ j : Nat, j ≤ k.ls.length ∧ n = .int .i64 j ∧ wr.ownsRow W11.heap.size 3 1 u1 (sureL (tiesL k) k.ls 0 ⟨markB k.ls.length p, markB k.ls.length ((p : Int) + 1)⟩ j).length ((sureL (tiesL k) k.ls 0 ⟨markB k.ls.length p, markB k.ls.length ((p : Int) + 1)⟩ j).map (Value.int .i64)) ∧ wr.ownsRow W11.heap.size 3 1 u2 (someL (tiesL k) k.ls 0 ⟨markB k.ls.length p, markB k.ls.length ((p : Int) + 1)⟩ j).length ((someL (tiesL k) k.ls 0 ⟨markB k.ls.length p, markB k.ls.length ((p : Int) + 1)⟩ j).map (Value.int .i64)) ∧ Hid (∀ g, u1.ownBlock = some g → u2.ownBlock ≠ some g) ∧ Below W11.heap.size W11 wr) (fun _ _ n _ => k.ls.length - (intOf n).toNat)
      case atStart => exact ⟨0, Nat.zero_le _, rfl, World.ownsRow_nil _ _ _ _, World.ownsRow_nil _ _ _ _, Lib.hid (fun g h => by cases h), Below.refl _ _⟩
      case round =>
        clear q1 p0 r0
        obtain ⟨j, hj, rfl, hO1, hO2, hD, hbw⟩ := hrel
        have q1 := (hbw.block _ hs1).trans Q1.out
        have p0 := (hbw.block _ hs2).trans P0.out
        have r0 := (hbw.block _ hs3).trans R0.out
        have hT : TiesAt wr wr.heap.size (.slice A (tiesL k).length cap) (tiesL k) := (HT.out.below hbw).more (by have := hbw.size; omega)
        have hRec : Recs wr wr.heap.size (.slice A1 k.ls.length c1) k.ls := (HRE.out.below hbw).more (by have := hbw.size; omega)
        have hsz := hbw.size
        by_cases hlt : j < k.ls.length
        · obtain ⟨x, hx⟩ : ∃ x, k.ls[j]? = some x := ⟨_, List.getElem?_eq_getElem hlt⟩
          have hpt := HPT.out j hlt
          have HSN := Lib.hid (sureL_snoc (l := tiesL k) (bs := 0) (p := ⟨markB k.ls.length p, markB k.ls.length ((p : Int) + 1)⟩) hx)
          have HMN := Lib.hid (someL_snoc (l := tiesL k) (bs := 0) (p := ⟨markB k.ls.length p, markB k.ls.length ((p : Int) + 1)⟩) hx)
          have HX := Lib.hid hx
          have hlc := fun W h => least_c (tiesL k) (.slice A (tiesL k).length cap) (mN k) ⟨markB 0 (j : Int), markB 0 ((j : Int) + 1)⟩ ⟨markB k.ls.length p, markB k.ls.length ((p : Int) + 1)⟩ W h HOK.out hpt (canB_true.1 HCC.out) (by omega)
          have hrc := fun W h => reaches_c (tiesL k) (.slice A (tiesL k).length cap) (mN k) ⟨markB 0 (j : Int), markB 0 ((j : Int) + 1)⟩ ⟨markB k.ls.length p, markB k.ls.length ((p : Int) + 1)⟩ 1 W h (ov_net HOK.out hpt ⟨by omega, by omega⟩) hn0 (reaches_more HREA.out) ⟨by omega, by omega⟩ (by omega)
          have hov := fun W => overlap_c ((mN k : Nat) : Int) A (tiesL k).length cap ⟨markB 0 (j : Int), markB 0 ((j : Int) + 1)⟩ ⟨markB k.ls.length p, markB k.ls.length ((p : Int) + 1)⟩ W
          simp only [pV, ovV, ovA] at hlc hrc hov
          have HLC := Lib.hid hlc
          have HRC := Lib.hid hrc
          have HOV := Lib.hid hov
          clear hx hlc hrc hov hpt
          go_wp2_with fail
          refine wp_region_looseM [2] [0, 1, 4] (.one 3 (.one 5 .done)) [6] [] [7] [some 17] [.cells #[.int .i64 0, .slice none 0 0, .int .i64 0, .int .i64 0, .int .i64 0, .int .i64 0, .int .i64 0, .int .i64 0, .int .i64 0, .int .i64 0] 173] (by kernel_rfl) (by kernel_rfl) (by intro c a d v w h; cases d <;> exact h) (by intro c a d v w h; cases d <;> exact h) rfl (by intro r i hri; match r, hri with | 0, hri => cases hri; exact ⟨_, _, rfl, rfl, rfl, rfl, fun a u => by simp [execOp, go_sem, ptrV]⟩) ?_
          simp only [pick, List.filterMap_cons, List.filterMap_nil, List.getElem?_toArray, List.getElem?_cons_succ, List.getElem?_cons_zero]
          refine wpPure_step (.int .i64 j) rfl (fun u => by first | rfl | kernel_rfl | simp [execOp, go_sem]) ?_
          intro u1 hu1
          replace r0 := (hu1.block _ (size_of_block r0)).trans r0
          replace q1 := (hu1.block _ (size_of_block q1)).trans q1
          replace p0 := (hu1.block _ (size_of_block p0)).trans p0
          replace hT := hT.later hu1
          replace hRec := hRec.later hu1
          replace hO1 := own_below hO1 hu1
          replace hO2 := own_below hO2 hu1
          replace hbw := below_then hbw hu1
          have cq10 := Joins.cell_of_block q1 0
          have cq11 := Joins.cell_of_block q1 1
          have zq1 := size_of_block q1
          have cr00 := Joins.cell_of_block r0 0
          have cr01 := Joins.cell_of_block r0 1
          have zr0 := size_of_block r0
          have cp00 := Joins.cell_of_block p0 0
          have cp01 := Joins.cell_of_block p0 1
          have zp0 := size_of_block p0
          have hcg : ∀ (g : Gr u1) b o, b < u1.heap.size → g.val.cell? ⟨b, o, none⟩ = u1.cell? ⟨b, o, none⟩ := fun g b o h => (bcell g.b).1 b o h
          iterate 3 (refine wpRel_step (fun K hK => ?_); go_simp; refine hK _ ?_; clear hK K)
          refine wpRel_nil fun V1_0 hb1 => ?_
          clear hcg cq10 cq11 zq1 cr00 cr01 zr0 cp00 cp01 zp0
          replace p0 := (hb1.block _ (size_of_block p0)).trans p0
          replace q1 := (hb1.block _ (size_of_block q1)).trans q1
          replace r0 := (hb1.block _ (size_of_block r0)).trans r0
          replace hT := hT.later hb1
          replace hRec := hRec.later hb1
          replace hO1 := own_below hO1 hb1
          replace hO2 := own_below hO2 hb1
          replace hbw := below_then hbw hb1
          clear hb1 hu1
          refine wpTr_step rfl rfl fun K hK => ?_
          go_simp
          refine (partL_c (.slice A1 k.ls.length c1) 0 j V1_0 (by omega) (by omega)).mono ?_
          rintro e X ⟨rfl, hx⟩
          refine hK _ _ hx fun V1_1 hu => ?_
          clear hK K
          have hxu := below_then hx hu
          replace p0 := (hxu.block _ (size_of_block p0)).trans p0
          replace q1 := (hxu.block _ (size_of_block q1)).trans q1
          replace r0 := (hxu.block _ (size_of_block r0)).trans r0
          replace hT := hT.later hxu
          replace hRec := hRec.later hxu
          replace hO1 := own_below hO1 hxu
          replace hO2 := own_below hO2 hxu
          replace hbw := below_then hbw hxu
          clear hx hu hxu
          refine wpTr_step rfl rfl fun K hK => ?_
          go_simp
          refine (HOV.out V1_1).mono ?_
          rintro e X ⟨rfl, hx⟩
          refine hK _ _ hx fun V1_2 hu => ?_
          clear hK K
          have hxu := below_then hx hu
          replace p0 := (hxu.block _ (size_of_block p0)).trans p0
          replace q1 := (hxu.block _ (size_of_block q1)).trans q1
          replace r0 := (hxu.block _ (size_of_block r0)).trans r0
          replace hT := hT.later hxu
          replace hRec := hRec.later hxu
          replace hO1 := own_below hO1 hxu
          replace hO2 := own_below hO2 hxu
          replace hbw := below_then hbw hxu
          clear hx hu hxu
          show wpPure _ _ _ _
          intro ks hks hall hH
          obtain ⟨k1, rfl⟩ : ∃ k1, ks = [some k1] := by
            match ks, hks with
            | [none], _ => exact absurd rfl (hall 0)
            | [some k1], _ => exact ⟨k1, rfl⟩
          obtain ⟨o1, ge1, lt1⟩ := hH.obj 0 k1 rfl
          rw [show ([Obj.cells #[.int .i64 0, .slice none 0 0, .int .i64 0, .int .i64 0, .int .i64 0, .int .i64 0, .int .i64 0, .int .i64 0, .int .i64 0, .int .i64 0] 173])[0]? = some (.cells #[.int .i64 0, .slice none 0 0, .int .i64 0, .int .i64 0, .int .i64 0, .int .i64 0, .int .i64 0, .int .i64 0, .int .i64 0, .int .i64 0] 173) from rfl] at o1
          clear hH hall hks
          show wpList _ _ _ _ _ _
          simp only [deco, ptrV]
          refine wpList_store_rowTo rfl 173 _ _ rfl rfl k1 #[.int .i64 ((mN k : Nat) : Int), .slice A (tiesL k).length cap, .int .i64 (markB 0 (j : Int)), .int .i64 (markB 0 ((j : Int) + 1)), .int .i64 (markB 0 (j : Int)), .int .i64 (markB k.ls.length ((p : Int) + 1)), .int .i64 (markB k.ls.length p), .int .i64 (markB 0 ((j : Int) + 1)), .int .i64 (markB k.ls.length p), .int .i64 (markB k.ls.length ((p : Int) + 1))] rfl rfl 173 _ o1 (by kernel_rfl) (by kernel_rfl) (by kernel_rfl) ?_
          have r5 : (V1_2.setRow k1 #[.int .i64 ((mN k : Nat) : Int), .slice A (tiesL k).length cap, .int .i64 (markB 0 (j : Int)), .int .i64 (markB 0 ((j : Int) + 1)), .int .i64 (markB 0 (j : Int)), .int .i64 (markB k.ls.length ((p : Int) + 1)), .int .i64 (markB k.ls.length p), .int .i64 (markB 0 ((j : Int) + 1)), .int .i64 (markB k.ls.length p), .int .i64 (markB k.ls.length ((p : Int) + 1))]).heap[k1]? = some (.cells #[.int .i64 ((mN k : Nat) : Int), .slice A (tiesL k).length cap, .int .i64 (markB 0 (j : Int)), .int .i64 (markB 0 ((j : Int) + 1)), .int .i64 (markB 0 (j : Int)), .int .i64 (markB k.ls.length ((p : Int) + 1)), .int .i64 (markB k.ls.length p), .int .i64 (markB 0 ((j : Int) + 1)), .int .i64 (markB k.ls.length p), .int .i64 (markB k.ls.length ((p : Int) + 1))] 173) := setRow_heap _ _ _ _ _ _ o1
          replace hO1 := own_setRowX hO1 o1 (by decide) #[.int .i64 ((mN k : Nat) : Int), .slice A (tiesL k).length cap, .int .i64 (markB 0 (j : Int)), .int .i64 (markB 0 ((j : Int) + 1)), .int .i64 (markB 0 (j : Int)), .int .i64 (markB k.ls.length ((p : Int) + 1)), .int .i64 (markB k.ls.length p), .int .i64 (markB 0 ((j : Int) + 1)), .int .i64 (markB k.ls.length p), .int .i64 (markB k.ls.length ((p : Int) + 1))]
          replace hO2 := own_setRowX hO2 o1 (by decide) #[.int .i64 ((mN k : Nat) : Int), .slice A (tiesL k).length cap, .int .i64 (markB 0 (j : Int)), .int .i64 (markB 0 ((j : Int) + 1)), .int .i64 (markB 0 (j : Int)), .int .i64 (markB k.ls.length ((p : Int) + 1)), .int .i64 (markB k.ls.length p), .int .i64 (markB 0 ((j : Int) + 1)), .int .i64 (markB k.ls.length p), .int .i64 (markB k.ls.length ((p : Int) + 1))]
          replace hbw := below_setRow hbw (show W11.heap.size ≤ k1 by omega) #[.int .i64 ((mN k : Nat) : Int), .slice A (tiesL k).length cap, .int .i64 (markB 0 (j : Int)), .int .i64 (markB 0 ((j : Int) + 1)), .int .i64 (markB 0 (j : Int)), .int .i64 (markB k.ls.length ((p : Int) + 1)), .int .i64 (markB k.ls.length p), .int .i64 (markB 0 ((j : Int) + 1)), .int .i64 (markB k.ls.length p), .int .i64 (markB k.ls.length ((p : Int) + 1))]
          clear o1 ge1 lt1 q1 r0 p0 hT hRec
          generalize V1_2.setRow k1 #[.int .i64 ((mN k : Nat) : Int), .slice A (tiesL k).length cap, .int .i64 (markB 0 (j : Int)), .int .i64 (markB 0 ((j : Int) + 1)), .int .i64 (markB 0 (j : Int)), .int .i64 (markB k.ls.length ((p : Int) + 1)), .int .i64 (markB k.ls.length p), .int .i64 (markB 0 ((j : Int) + 1)), .int .i64 (markB k.ls.length p), .int .i64 (markB k.ls.length ((p : Int) + 1))] = W5a at r5 hO1 hO2 hbw ⊢
          have hT : TiesAt W5a W5a.heap.size (.slice A (tiesL k).length cap) (tiesL k) := (HT.out.below hbw).more (by have := hbw.size; omega)
          go_wp2_with (first | (refine wpList_load_row rfl 173 _ rfl k1 rfl 173 #[.int .i64 ((mN k : Nat) : Int), .slice A (tiesL k).length cap, .int .i64 (markB 0 (j : Int)), .int .i64 (markB 0 ((j : Int) + 1)), .int .i64 (markB 0 (j : Int)), .int .i64 (markB k.ls.length ((p : Int) + 1)), .int .i64 (markB k.ls.length p), .int .i64 (markB 0 ((j : Int) + 1)), .int .i64 (markB k.ls.length p), .int .i64 (markB k.ls.length ((p : Int) + 1))] (0, 0) _ r5 Tryz.underlying173 rfl (by kernel_rfl) ?_))
          refine (HLC.out W5a hT).mono ?_
          rintro e W6 ⟨M, rfl, ⟨_, _, _⟩, hF⟩
          replace r5 := (hF.block _ (size_of_block r5)).trans r5
          replace hO1 := own_later hO1 hF
          replace hO2 := own_later hO2 hF
          replace hbw := below_grown hbw (by have := hbw.size; omega) hF
          clear hF hT HLC
          obtain ⟨W7, hW7⟩ : ∃ W7, W7 = (W6.alloc (.cells #[.int .i64 0, .int .i64 0, .int .i64 0, .int .i64 0, .int .i64 0, .int .i64 0, .int .i64 0, .int .i64 0, .int .i64 0, .int .i64 0, .int .i64 0, .int .i64 0, .int .i64 0, .int .i64 0, .int .i64 0, .int .i64 0, .int .i64 0, .int .i64 0, .int .i64 0, .int .i64 0, .int .i64 0, .int .i64 0, .int .i64 0, .int .i64 0, .int .i64 0, .int .i64 0, .int .i64 0, .int .i64 0, .int .i64 0, .int .i64 0, .int .i64 0, .int .i64 0, .int .i64 0, .int .i64 0, .int .i64 0, .int .i64 0, .int .i64 0, .int .i64 0, .int .i64 0, .int .i64 0, .int .i64 0] 124)).setRow W6.heap.size (hgA (halfN (mN k) M)) := ⟨_, rfl⟩
          have pb : Below W6.heap.size W6 W7 := by rw [hW7]; exact below_setRow (below_alloc _ _) (Nat.le_refl _) _
          have HW7 := Lib.hid hW7
          replace r5 := (pb.block _ (size_of_block r5)).trans r5
          replace hO1 := own_later hO1 pb
          replace hO2 := own_later hO2 pb
          replace hbw := below_grown hbw (by have := hbw.size; omega) pb
          clear pb hW7
          obtain ⟨z, hz⟩ : ∃ z, z = leastZ (tiesL k) ⟨markB 0 (j : Int), markB 0 ((j : Int) + 1)⟩ ⟨markB k.ls.length p, markB k.ls.length ((p : Int) + 1)⟩ := ⟨_, rfl⟩
          rw [← hz] at HSN ⊢
          clear hz
          by_cases hp0 : 0 < z
          · rw [if_pos hp0] at HSN
            have q1 := (hbw.block _ hs1).trans Q1.out
            have hRec : Recs W7 W7.heap.size (.slice A1 k.ls.length c1) k.ls := (HRE.out.below hbw).more (by have := hbw.size; omega)
            have y0 := Joins.cell_of_block q1 0
            have y1 := Joins.cell_of_block q1 1
            have yz := size_of_block q1
            go_wp2_with (first | (refine wpList_store_rowTo rfl 124 _ _ rfl rfl W6.heap.size (hgA (halfN (mN k) M)) rfl rfl 124 _ (heap_alloc_new W6 _) (by kernel_rfl) (by rw [hgA_size]; kernel_rfl) (by rw [hgA_size]; kernel_rfl) ?_; rw [← HW7.out]))
            all_goals (try (exfalso; omega))
            refine (atL_c k.ls (.slice A1 k.ls.length c1) 0 j x W7 hRec HX.out).mono ?_
            rintro e W8 ⟨rfl, hF⟩
            replace r5 := (hF.block _ (size_of_block r5)).trans r5
            replace hO1 := own_later hO1 hF
            replace hO2 := own_later hO2 hF
            replace hbw := below_grown hbw (by have := hbw.size; omega) hF
            clear hF hRec q1 y0 y1 yz
            have hOld := hO1
            have hbs := hbw.size
            have hll := sureL_len (tiesL k) k.ls 0 ⟨markB k.ls.length p, markB k.ls.length ((p : Int) + 1)⟩ j
            have hfl := Tryz.fieldID
            go_wp2_with (at_builtin; refine wpList_append_own_at _ rfl _ _ 27 rfl W11.heap.size 3 i0 (.int .i64 0) 1 8 Tryz.underlying27 HI.out HI0.out HI1.out HI2.out rfl (by decide) _ _ _ rfl (hO1.alloc _) ⟨W8.heap.size, 0, none⟩ 1 1 [.int .i64 x.id] rfl rfl (cell_one_new _ _ _) (one_oneCell rfl) ?c3 ?c4 ?c5 ?_)
            case c3 => unfold maxLen; omega
            case c4 => omega
            case c5 => simp; omega
            intro v1 W8' hown' hgrow _ hat
            obtain ⟨hk2, hD2⟩ := app_apart hO1 hO2 hD.out hgrow hat
            replace hbw := below_append hbw (by omega) hO1 hgrow
            replace hO1 : W8'.ownsRow W11.heap.size 3 1 v1 (sureL (tiesL k) k.ls 0 ⟨markB k.ls.length p, markB k.ls.length ((p : Int) + 1)⟩ j ++ [x.id]).length ((sureL (tiesL k) k.ls 0 ⟨markB k.ls.length p, markB k.ls.length ((p : Int) + 1)⟩ j ++ [x.id]).map (Value.int .i64)) := by rw [List.length_append, List.map_append]; exact hown'
            replace hO2 := hk2
            replace hD := Lib.hid hD2
            replace r5 := (hgrow.block _ (by have := size_of_block r5; simp; omega) (Ne.symm (own_ne_block (hOld.alloc _) (show (W8.alloc (.cells #[.int .i64 x.id] 3)).heap[k1]? = some _ from ((below_alloc W8 _).block _ (size_of_block r5)).trans r5) (by decide)))).trans (((below_alloc W8 (.cells #[.int .i64 x.id] 3)).block _ (size_of_block r5)).trans r5)
            clear hOld hown' hgrow hat hk2 hD2 hbs hll hfl
            have hT : TiesAt W8' W8'.heap.size (.slice A (tiesL k).length cap) (tiesL k) := (HT.out.below hbw).more (by have := hbw.size; omega)
            go_wp2_with (first | (refine wpList_load_row rfl 173 _ rfl k1 rfl 173 #[.int .i64 ((mN k : Nat) : Int), .slice A (tiesL k).length cap, .int .i64 (markB 0 (j : Int)), .int .i64 (markB 0 ((j : Int) + 1)), .int .i64 (markB 0 (j : Int)), .int .i64 (markB k.ls.length ((p : Int) + 1)), .int .i64 (markB k.ls.length p), .int .i64 (markB 0 ((j : Int) + 1)), .int .i64 (markB k.ls.length p), .int .i64 (markB k.ls.length ((p : Int) + 1))] (0, 0) _ r5 Tryz.underlying173 rfl (by kernel_rfl) ?_))
            all_goals (try (exfalso; omega))
            refine (HRC.out W8' hT).mono ?_
            rintro e Wa ⟨F, r, rfl, hres, hF⟩
            replace hO1 := own_later hO1 hF
            replace hO2 := own_later hO2 hF
            replace hbw := below_grown hbw (by have := hbw.size; omega) hF
            clear hF hT HRC r5
            obtain ⟨Wb, hWb⟩ : ∃ Wb, Wb = (Wa.alloc (.cells #[.int .i64 0, .int .i64 0, .int .i64 0, .int .i64 0, .int .i64 0, .int .i64 0, .int .i64 0, .int .i64 0, .int .i64 0, .int .i64 0, .int .i64 0, .int .i64 0, .int .i64 0, .int .i64 0, .int .i64 0, .int .i64 0, .int .i64 0, .int .i64 0, .int .i64 0, .int .i64 0, .int .i64 0, .int .i64 0, .int .i64 0, .int .i64 0, .int .i64 0, .int .i64 0, .int .i64 0, .int .i64 0, .int .i64 0, .int .i64 0, .int .i64 0, .int .i64 0, .int .i64 0, .int .i64 0, .int .i64 0, .int .i64 0, .int .i64 0, .int .i64 0, .int .i64 0, .int .i64 0, .int .i64 0] 124)).setRow Wa.heap.size (hgA F) := ⟨_, rfl⟩
            have pb : Below Wa.heap.size Wa Wb := by rw [hWb]; exact below_setRow (below_alloc _ _) (Nat.le_refl _) _
            have HWb := Lib.hid hWb
            replace hO1 := own_later hO1 pb
            replace hO2 := own_later hO2 pb
            replace hbw := below_grown hbw (by have := hbw.size; omega) pb
            clear pb hWb
            have hmr : Hid ((r = true ↔ 0 < mostZ (tiesL k) ⟨markB 0 (j : Int), markB 0 ((j : Int) + 1)⟩ ⟨markB k.ls.length p, markB k.ls.length ((p : Int) + 1)⟩)) := reach_some hres
            clear hres
            cases r with
            | true =>
              rw [if_pos (hmr.out.1 rfl)] at HMN
              clear hmr
              have q1 := (hbw.block _ hs1).trans Q1.out
              have hRec : Recs Wb Wb.heap.size (.slice A1 k.ls.length c1) k.ls := (HRE.out.below hbw).more (by have := hbw.size; omega)
              have y0 := Joins.cell_of_block q1 0
              have y1 := Joins.cell_of_block q1 1
              have yz := size_of_block q1
              go_wp2_with (first | (refine wpList_store_rowTo rfl 124 _ _ rfl rfl Wa.heap.size (hgA (F)) rfl rfl 124 _ (heap_alloc_new Wa _) (by kernel_rfl) (by rw [hgA_size]; kernel_rfl) (by rw [hgA_size]; kernel_rfl) ?_; rw [← HWb.out]))
              all_goals (try (exfalso; omega))
              refine (atL_c k.ls (.slice A1 k.ls.length c1) 0 j x Wb hRec HX.out).mono ?_
              rintro e Wc ⟨rfl, hF⟩
              replace hO1 := own_later hO1 hF
              replace hO2 := own_later hO2 hF
              replace hbw := below_grown hbw (by have := hbw.size; omega) hF
              clear hF hRec q1 y0 y1 yz
              have hbs := hbw.size
              have hll := someL_len (tiesL k) k.ls 0 ⟨markB k.ls.length p, markB k.ls.length ((p : Int) + 1)⟩ j
              have hfl := Tryz.fieldID
              go_wp2_with (at_builtin; refine wpList_append_own_at _ rfl _ _ 27 rfl W11.heap.size 3 i0 (.int .i64 0) 1 8 Tryz.underlying27 HI.out HI0.out HI1.out HI2.out rfl (by decide) _ _ _ rfl (hO2.alloc _) ⟨Wc.heap.size, 0, none⟩ 1 1 [.int .i64 x.id] rfl rfl (cell_one_new _ _ _) (one_oneCell rfl) ?c3 ?c4 ?c5 ?_)
              case c3 => unfold maxLen; omega
              case c4 => omega
              case c5 => simp; omega
              intro v2 Wc' hown' hgrow _ hat
              obtain ⟨hk2, hD2⟩ := app_apart hO2 hO1 (apart_symm hD.out) hgrow hat
              replace hbw := below_append hbw (by omega) hO2 hgrow
              replace hO2 : Wc'.ownsRow W11.heap.size 3 1 v2 (someL (tiesL k) k.ls 0 ⟨markB k.ls.length p, markB k.ls.length ((p : Int) + 1)⟩ j ++ [x.id]).length ((someL (tiesL k) k.ls 0 ⟨markB k.ls.length p, markB k.ls.length ((p : Int) + 1)⟩ j ++ [x.id]).map (Value.int .i64)) := by rw [List.length_append, List.map_append]; exact hown'
              replace hO1 := hk2
              replace hD := Lib.hid (apart_symm hD2)
              clear hown' hgrow hat hk2 hD2 hbs hll hfl
              go_wp2_with fail
              go_roundw
              case rel => exact ⟨j + 1, by omega, by go_num, by rw [HSN.out]; exact hO1, by rw [HMN.out]; exact hO2, hD, hbw⟩
              case measure => simp [intOf]; omega
            | false =>
              rw [if_neg (fun h => absurd (hmr.out.2 h) (by decide))] at HMN
              clear hmr
              go_wp2_with (first | (refine wpList_store_rowTo rfl 124 _ _ rfl rfl Wa.heap.size (hgA (F)) rfl rfl 124 _ (heap_alloc_new Wa _) (by kernel_rfl) (by rw [hgA_size]; kernel_rfl) (by rw [hgA_size]; kernel_rfl) ?_; rw [← HWb.out]))
              go_roundw
              case rel => exact ⟨j + 1, by omega, by go_num, by rw [HSN.out]; exact hO1, by rw [HMN.out, List.append_nil]; exact hO2, hD, hbw⟩
              case measure => simp [intOf]; omega
          · rw [if_neg hp0] at HSN
            have hT : TiesAt W7 W7.heap.size (.slice A (tiesL k).length cap) (tiesL k) := (HT.out.below hbw).more (by have := hbw.size; omega)
            go_wp2_with (first | (refine wpList_store_rowTo rfl 124 _ _ rfl rfl W6.heap.size (hgA (halfN (mN k) M)) rfl rfl 124 _ (heap_alloc_new W6 _) (by kernel_rfl) (by rw [hgA_size]; kernel_rfl) (by rw [hgA_size]; kernel_rfl) ?_; rw [← HW7.out]) | (refine wpList_load_row rfl 173 _ rfl k1 rfl 173 #[.int .i64 ((mN k : Nat) : Int), .slice A (tiesL k).length cap, .int .i64 (markB 0 (j : Int)), .int .i64 (markB 0 ((j : Int) + 1)), .int .i64 (markB 0 (j : Int)), .int .i64 (markB k.ls.length ((p : Int) + 1)), .int .i64 (markB k.ls.length p), .int .i64 (markB 0 ((j : Int) + 1)), .int .i64 (markB k.ls.length p), .int .i64 (markB k.ls.length ((p : Int) + 1))] (0, 0) _ r5 Tryz.underlying173 rfl (by kernel_rfl) ?_))
            all_goals (try (exfalso; omega))
            refine (HRC.out W7 hT).mono ?_
            rintro e Wa ⟨F, r, rfl, hres, hF⟩
            replace hO1 := own_later hO1 hF
            replace hO2 := own_later hO2 hF
            replace hbw := below_grown hbw (by have := hbw.size; omega) hF
            clear hF hT HRC r5
            obtain ⟨Wb, hWb⟩ : ∃ Wb, Wb = (Wa.alloc (.cells #[.int .i64 0, .int .i64 0, .int .i64 0, .int .i64 0, .int .i64 0, .int .i64 0, .int .i64 0, .int .i64 0, .int .i64 0, .int .i64 0, .int .i64 0, .int .i64 0, .int .i64 0, .int .i64 0, .int .i64 0, .int .i64 0, .int .i64 0, .int .i64 0, .int .i64 0, .int .i64 0, .int .i64 0, .int .i64 0, .int .i64 0, .int .i64 0, .int .i64 0, .int .i64 0, .int .i64 0, .int .i64 0, .int .i64 0, .int .i64 0, .int .i64 0, .int .i64 0, .int .i64 0, .int .i64 0, .int .i64 0, .int .i64 0, .int .i64 0, .int .i64 0, .int .i64 0, .int .i64 0, .int .i64 0] 124)).setRow Wa.heap.size (hgA F) := ⟨_, rfl⟩
            have pb : Below Wa.heap.size Wa Wb := by rw [hWb]; exact below_setRow (below_alloc _ _) (Nat.le_refl _) _
            have HWb := Lib.hid hWb
            replace hO1 := own_later hO1 pb
            replace hO2 := own_later hO2 pb
            replace hbw := below_grown hbw (by have := hbw.size; omega) pb
            clear pb hWb
            have hmr : Hid ((r = true ↔ 0 < mostZ (tiesL k) ⟨markB 0 (j : Int), markB 0 ((j : Int) + 1)⟩ ⟨markB k.ls.length p, markB k.ls.length ((p : Int) + 1)⟩)) := reach_some hres
            clear hres
            cases r with
            | true =>
              rw [if_pos (hmr.out.1 rfl)] at HMN
              clear hmr
              have q1 := (hbw.block _ hs1).trans Q1.out
              have hRec : Recs Wb Wb.heap.size (.slice A1 k.ls.length c1) k.ls := (HRE.out.below hbw).more (by have := hbw.size; omega)
              have y0 := Joins.cell_of_block q1 0
              have y1 := Joins.cell_of_block q1 1
              have yz := size_of_block q1
              go_wp2_with (first | (refine wpList_store_rowTo rfl 124 _ _ rfl rfl Wa.heap.size (hgA (F)) rfl rfl 124 _ (heap_alloc_new Wa _) (by kernel_rfl) (by rw [hgA_size]; kernel_rfl) (by rw [hgA_size]; kernel_rfl) ?_; rw [← HWb.out]))
              all_goals (try (exfalso; omega))
              refine (atL_c k.ls (.slice A1 k.ls.length c1) 0 j x Wb hRec HX.out).mono ?_
              rintro e Wc ⟨rfl, hF⟩
              replace hO1 := own_later hO1 hF
              replace hO2 := own_later hO2 hF
              replace hbw := below_grown hbw (by have := hbw.size; omega) hF
              clear hF hRec q1 y0 y1 yz
              have hbs := hbw.size
              have hll := someL_len (tiesL k) k.ls 0 ⟨markB k.ls.length p, markB k.ls.length ((p : Int) + 1)⟩ j
              have hfl := Tryz.fieldID
              go_wp2_with (at_builtin; refine wpList_append_own_at _ rfl _ _ 27 rfl W11.heap.size 3 i0 (.int .i64 0) 1 8 Tryz.underlying27 HI.out HI0.out HI1.out HI2.out rfl (by decide) _ _ _ rfl (hO2.alloc _) ⟨Wc.heap.size, 0, none⟩ 1 1 [.int .i64 x.id] rfl rfl (cell_one_new _ _ _) (one_oneCell rfl) ?c3 ?c4 ?c5 ?_)
              case c3 => unfold maxLen; omega
              case c4 => omega
              case c5 => simp; omega
              intro v2 Wc' hown' hgrow _ hat
              obtain ⟨hk2, hD2⟩ := app_apart hO2 hO1 (apart_symm hD.out) hgrow hat
              replace hbw := below_append hbw (by omega) hO2 hgrow
              replace hO2 : Wc'.ownsRow W11.heap.size 3 1 v2 (someL (tiesL k) k.ls 0 ⟨markB k.ls.length p, markB k.ls.length ((p : Int) + 1)⟩ j ++ [x.id]).length ((someL (tiesL k) k.ls 0 ⟨markB k.ls.length p, markB k.ls.length ((p : Int) + 1)⟩ j ++ [x.id]).map (Value.int .i64)) := by rw [List.length_append, List.map_append]; exact hown'
              replace hO1 := hk2
              replace hD := Lib.hid (apart_symm hD2)
              clear hown' hgrow hat hk2 hD2 hbs hll hfl
              go_wp2_with fail
              go_roundw
              case rel => exact ⟨j + 1, by omega, by go_num, by rw [HSN.out, List.append_nil]; exact hO1, by rw [HMN.out]; exact hO2, hD, hbw⟩
              case measure => simp [intOf]; omega
            | false =>
              rw [if_neg (fun h => absurd (hmr.out.2 h) (by decide))] at HMN
              clear hmr
              go_wp2_with (first | (refine wpList_store_rowTo rfl 124 _ _ rfl rfl Wa.heap.size (hgA (F)) rfl rfl 124 _ (heap_alloc_new Wa _) (by kernel_rfl) (by rw [hgA_size]; kernel_rfl) (by rw [hgA_size]; kernel_rfl) ?_; rw [← HWb.out]))
              go_roundw
              case rel => exact ⟨j + 1, by omega, by go_num, by rw [HSN.out, List.append_nil]; exact hO1, by rw [HMN.out, List.append_nil]; exact hO2, hD, hbw⟩
              case measure => simp [intOf]; omega
        · obtain rfl : j = k.ls.length := by omega
          go_wp2_with fail
          refine bodyPost_ret (v := .tuple #[u14, u15, .int .i64 0]) ?_ rfl ⟨u14, u15, by rw [HEE.out], ⟨by rw [HSS.out.1]; exact own_less hO1 hwB, by rw [HSS.out.2]; exact own_less hO2 hwB⟩, below_then HQB.out hbw⟩
          simp [results, Tryz.results122, go_sem]
    · have hcf : canB (tiesL k) = false := by simpa using hcc
      rw [hcf]
      have HEE := Lib.hid (show sourceE k id = 9 by rw [HE2.out, if_neg hcc])
      have HSS := Lib.hid (show sourceS k id = [] ∧ sourceM k id = [] by unfold sourceS sourceM; rw [HEE.out]; exact ⟨rfl, rfl⟩)
      clear hcc hcf hT hre
      go_wp2_with fail
      refine bodyPost_ret (v := .tuple #[.slice none 0 0, .slice none 0 0, .int .i64 (9)]) ?_ rfl ⟨_, _, by rw [HEE.out], ⟨by rw [HSS.out.1]; exact World.ownsRow_nil _ _ _ _, by rw [HSS.out.2]; exact World.ownsRow_nil _ _ _ _⟩, qb⟩
      simp [results, Tryz.results122, go_sem]
end Go.Proofs.YtnedcclmfokdnaaGreat
namespace Go.Proofs.YtnedcclmfokdnaaGreat
open Go Go.RowKit Go.Shelf
attribute [local go_sem] Oper.semAt_some Rel RelAt RelUpon
set_option maxRecDepth 100000 in
set_option maxHeartbeats 8000000 in
theorem without_d (k : Kl) (v u : Value) (ids : List Int) (w : World) (hv : Kiln w v k) (hu : Ints w w.heap.size u ids) (hR : Right k) :
    Calls Tryz.prog 129 #[v, u] w fun e w' => ∃ vl vd vw, e = .returned (.agg #[.int .i64 k.room, .int .i64 k.per, vl, vd, vw]) ∧ (Kiln w' (.agg #[.int .i64 k.room, .int .i64 k.per, vl, vd, vw]) (lessK k ids) ∧
      ∀ g, g < w.heap.size → vl.ownBlock ≠ some g ∧ vd.ownBlock ≠ some g ∧ vw.ownBlock ≠ some g) ∧ Below w.heap.size w w' := by
  obtain ⟨A1, c1, A2, c2, A3, c3, rfl⟩ := kilnForm hv
  obtain ⟨Ai, ci, rfl⟩ := Sl.form1 hu
  obtain ⟨q0, q1, q2, -, qb⟩ := three_new w (.cells #[.int .i64 k.room, .int .i64 k.per, .slice A1 k.ls.length c1, .slice A2 k.ds.length c2, .slice A3 k.ws.length c3] 26) (.cells #[.slice Ai ids.length ci] 27) (.cells #[.int .i64 0, .int .i64 0, .slice none 0 0, .slice none 0 0, .slice none 0 0] 26)
  have HKB := Lib.hid hv.toB
  have HU := Lib.hid hu
  have n1 := hR.ls
  have n2 := hR.ds
  have n3 := hR.ws
  have hparts := fun W (hk : Kiln W (.agg #[.int .i64 k.room, .int .i64 k.per, .slice A1 k.ls.length c1, .slice A2 k.ds.length c2, .slice A3 k.ws.length c3]) k) => (show Recs W W.heap.size (.slice A1 k.ls.length c1) k.ls ∧ Recs W W.heap.size (.slice A2 k.ds.length c2) k.ds ∧ Wgs W W.heap.size (.slice A3 k.ws.length c3) k.ws by
    obtain ⟨al, ad, aw, e9, hl, hd, hw⟩ := hk
    obtain ⟨rfl, rfl, rfl⟩ : .slice A1 k.ls.length c1 = al ∧ .slice A2 k.ds.length c2 = ad ∧ .slice A3 k.ws.length c3 = aw := by simpa using e9
    exact ⟨hl, hd, hw⟩)
  have HP := Lib.hid hparts
  clear hv hu hR hparts
  go_enter Tryz.func129, Tryz.ntmps129
  have y0 := Joins.cell_of_block q0 0
  have y1 := Joins.cell_of_block q0 1
  have y2 := Joins.cell_of_block q0 2
  have y3 := Joins.cell_of_block q0 3
  have y4 := Joins.cell_of_block q0 4
  go_wp2_with fail
  generalize ((w.alloc _).alloc _).alloc _ = W1 at q0 q1 q2 y0 y1 y2 y3 y4 qb ⊢
  clear y0 y1 y2 y3 y4
  refine (clone_cL (.slice A1 k.ls.length c1) k.ls W1 (HP.out W1 ((HKB.out.below qb).kiln qb.size)).1 (by omega)).mono ?_
  rintro e W2 ⟨uL, rfl, hoL, hF⟩
  obtain ⟨AL, cL, rfl⟩ := own_form hoL
  replace hoL := own_less hoL qb.size
  replace q0 := (hF.block _ (size_of_block q0)).trans q0
  replace q1 := (hF.block _ (size_of_block q1)).trans q1
  replace q2 := (hF.block _ (size_of_block q2)).trans q2
  replace qb := below_then qb hF
  clear hF
  have y3 := Joins.cell_of_block q0 3
  have f2 := Joins.unfrozen_of_block q0 2
  have y2 := Joins.cell_of_block q0 2
  have zq := size_of_block q0
  go_wp2_with fail
  clear y2 y3 f2 zq
  have P0 := Joins.block_setCell (i := 2) q0 (.slice AL k.ls.length cL)
  have P1 := (put_other (i := 2) (.slice AL k.ls.length cL) (show w.heap.size + 1 ≠ w.heap.size by omega)).trans q1
  have P2 := (put_other (i := 2) (.slice AL k.ls.length cL) (show w.heap.size + 1 + 1 ≠ w.heap.size by omega)).trans q2
  have PB := below_set (i := 2) (v := .slice AL k.ls.length cL) qb (Nat.le_refl w.heap.size)
  replace hoL := own_setCell hoL 2 (.slice AL k.ls.length cL) (own_ne_block hoL q0 (by decide))
  clear q0 q1 q2 qb
  generalize W2.setCell ⟨w.heap.size, 2, none⟩ (.slice AL k.ls.length cL) = W3 at P0 P1 P2 PB hoL ⊢
  have q0 := P0
  have q1 := P1
  have q2 := P2
  have qb := PB
  clear P0 P1 P2 PB
  refine (clone_cD (.slice A2 k.ds.length c2) k.ds W3 (HP.out W3 ((HKB.out.below qb).kiln qb.size)).2.1 (by omega)).mono ?_
  rintro e W4 ⟨uD, rfl, hoD, hF⟩
  obtain ⟨AD, cD, rfl⟩ := own_form hoD
  replace hoD := own_less hoD qb.size
  replace hoL := own_later hoL hF
  replace q0 := (hF.block _ (size_of_block q0)).trans q0
  replace q1 := (hF.block _ (size_of_block q1)).trans q1
  replace q2 := (hF.block _ (size_of_block q2)).trans q2
  replace qb := below_then qb hF
  clear hF
  have y4 := Joins.cell_of_block q0 4
  have f3 := Joins.unfrozen_of_block q0 3
  have y3 := Joins.cell_of_block q0 3
  have zq := size_of_block q0
  go_wp2_with fail
  clear y3 y4 f3 zq
  have P0 := Joins.block_setCell (i := 3) q0 (.slice AD k.ds.length cD)
  have P1 := (put_other (i := 3) (.slice AD k.ds.length cD) (show w.heap.size + 1 ≠ w.heap.size by omega)).trans q1
  have P2 := (put_other (i := 3) (.slice AD k.ds.length cD) (show w.heap.size + 1 + 1 ≠ w.heap.size by omega)).trans q2
  have PB := below_set (i := 3) (v := .slice AD k.ds.length cD) qb (Nat.le_refl w.heap.size)
  replace hoL := own_setCell hoL 3 (.slice AD k.ds.length cD) (own_ne_block hoL q0 (by decide))
  replace hoD := own_setCell hoD 3 (.slice AD k.ds.length cD) (own_ne_block hoD q0 (by decide))
  clear q0 q1 q2 qb
  generalize W4.setCell ⟨w.heap.size, 3, none⟩ (.slice AD k.ds.length cD) = W5 at P0 P1 P2 PB hoL hoD ⊢
  have q0 := P0
  have q1 := P1
  have q2 := P2
  have qb := PB
  clear P0 P1 P2 PB
  refine (clone_cW (.slice A3 k.ws.length c3) k.ws W5 (HP.out W5 ((HKB.out.below qb).kiln qb.size)).2.2 (by omega)).mono ?_
  rintro e W6 ⟨uW, rfl, hoW, hF⟩
  have hDel : Calls Tryz.prog 167 #[uW, .func (.func 169) #[] #[.pointer (some ⟨w.heap.size + 1, 0, none⟩)]] W6 fun e w' => ∃ A7 n7 cap7, e = .returned (.slice A7 n7 cap7) ∧ ((A7 = none ∧ n7 = 0 ∧ k.ws = []) ∨ ∃ g, A7 = some ⟨g, 0, none⟩ ∧ W5.heap.size ≤ g ∧ n7 = (lessK k ids).ws.length ∧ n7 ≤ cap7 ∧ RowAt wC 6 w' g 112 (lessK k ids).ws) ∧ Below W5.heap.size W5 w' := by
    rcases hoW.2 with ⟨rfl, h0⟩ | ⟨g, c, cur, rfl, hg, _⟩
    · exact (deleteNil_cW none 0 _ W6).mono fun e w' ⟨he, hw⟩ => ⟨_, _, _, he, .inl ⟨rfl, rfl, List.length_eq_zero_iff.1 h0⟩, by rw [hw]; exact hF⟩
    · obtain ⟨hr, hg2, hc⟩ := RowAt.of_own hoW
      refine (delete_cW g c k.ws (fun x => decide (x.id ∈ ids)) 169 (.pointer (some ⟨w.heap.size + 1, 0, none⟩)) W5 W6 hr hc (by omega) hF hg2 (enters_of Tryz.func169 (by kernel_rfl) rfl) fun x W hW => without1_c x (w.heap.size + 1) Ai ci ids W ((hW.block _ (size_of_block q1)).trans q1) (HU.out.later (below_then qb hW))).mono ?_
      rintro e w' ⟨he, h1, h2⟩
      exact ⟨_, _, _, he, .inr ⟨g, rfl, hg2, rfl, Nat.le_trans (List.length_filter_le _ _) hc, h1⟩, h2⟩
  have HDEL := Lib.hid hDel
  have z6 := hF.size
  have zq0 := size_of_block q0
  have zq1 := size_of_block q1
  have zq2 := size_of_block q2
  clear hDel
  go_wp2_with fail
  refine HDEL.out.mono ?_
  rintro e W7 ⟨A7, n7, cap7, rfl, hres, hb7⟩
  clear HDEL hF hoW
  have hwl : W5.heap.size ≤ W7.heap.size := hb7.size
  have hw5 := qb.size
  replace hoL := own_later hoL hb7
  replace hoD := own_later hoD hb7
  replace q0 := (hb7.block _ (size_of_block q0)).trans q0
  replace q1 := (hb7.block _ (size_of_block q1)).trans q1
  replace q2 := (hb7.block _ (size_of_block q2)).trans q2
  replace qb := below_then qb hb7
  clear hb7
  have f4 := Joins.unfrozen_of_block q0 4
  have y0 := Joins.cell_of_block q0 0
  have y1 := Joins.cell_of_block q0 1
  have y2 := Joins.cell_of_block q0 2
  have y3 := Joins.cell_of_block q0 3
  have y4 := Joins.cell_of_block q0 4
  have P0 := Joins.block_setCell (i := 4) q0 (.slice A7 n7 cap7)
  have P2 := (put_other (i := 4) (.slice A7 n7 cap7) (show w.heap.size + 1 + 1 ≠ w.heap.size by omega)).trans q2
  have BP := below_set (i := 4) (v := .slice A7 n7 cap7) qb (Nat.le_refl w.heap.size)
  have oL := own_setRowX (own_setCell hoL 4 (.slice A7 n7 cap7) (own_ne_block hoL q0 (by decide))) P2 (by decide) #[.int .i64 k.room, .int .i64 k.per, .slice AL k.ls.length cL, .slice AD k.ds.length cD, .slice A7 n7 cap7]
  have oD := own_setRowX (own_setCell hoD 4 (.slice A7 n7 cap7) (own_ne_block hoD q0 (by decide))) P2 (by decide) #[.int .i64 k.room, .int .i64 k.per, .slice AL k.ls.length cL, .slice AD k.ds.length cD, .slice A7 n7 cap7]
  have HQQ : Hid (Kiln ((W7.setCell ⟨w.heap.size, 4, none⟩ (.slice A7 n7 cap7)).setRow (w.heap.size + 1 + 1) #[.int .i64 k.room, .int .i64 k.per, .slice AL k.ls.length cL, .slice AD k.ds.length cD, .slice A7 n7 cap7]) (.agg #[.int .i64 k.room, .int .i64 k.per, .slice AL k.ls.length cL, .slice AD k.ds.length cD, .slice A7 n7 cap7]) (lessK k ids)) := by
    refine ⟨_, _, _, rfl, Sl.of_own rC_len oL (show k.ls.length ≤ _ by omega), Sl.of_own rC_len oD (show k.ds.length ≤ _ by omega), ?_⟩
    rcases hres with ⟨rfl, rfl, h0⟩ | ⟨g, rfl, hg, rfl, hc, hr⟩
    · have e0 : (lessK k ids).ws = [] := by unfold lessK; simp [h0]
      rw [e0]; exact ⟨none, cap7, rfl, Nat.zero_le _, Nat.zero_le _, fun h => absurd h (by simp)⟩
    · refine RowAt.sl (t := 112) ?_ wC_len hc (by have : (lessK k ids).ws.length ≤ k.ws.length := List.length_filter_le _ _; omega)
      obtain ⟨cur, k1, k2⟩ := hr
      exact ⟨cur, (setRow_other _ _ _ _ (by omega)).trans ((put_other _ (by omega)).trans k1), k2⟩
  have HFR : Hid (∀ g, g < w.heap.size → (Value.slice AL k.ls.length cL).ownBlock ≠ some g ∧ (Value.slice AD k.ds.length cD).ownBlock ≠ some g ∧ (Value.slice A7 n7 cap7).ownBlock ≠ some g) := by
    intro g hg
    refine ⟨fun h => by have := (oL.lt g h).1; omega, fun h => by have := (oD.lt g h).1; omega, fun h => ?_⟩
    rcases hres with ⟨rfl, _, _⟩ | ⟨g', rfl, hg', _⟩
    · cases h
    · simp [Value.ownBlock] at h; omega
  have HPP := Lib.hid (fun j : Nat => cell_setRow_same (W7.setCell ⟨w.heap.size, 4, none⟩ (.slice A7 n7 cap7)) (w.heap.size + 1 + 1) j _ #[.int .i64 k.room, .int .i64 k.per, .slice AL k.ls.length cL, .slice AD k.ds.length cD, .slice A7 n7 cap7] _ _ P2)
  have HBF := Lib.hid (below_setRow BP (show w.heap.size ≤ w.heap.size + 1 + 1 by omega) #[.int .i64 k.room, .int .i64 k.per, .slice AL k.ls.length cL, .slice AD k.ds.length cD, .slice A7 n7 cap7])
  have x0 := Joins.cell_of_block P0 0
  have x1 := Joins.cell_of_block P0 1
  have x2 := Joins.cell_of_block P0 2
  have x3 := Joins.cell_of_block P0 3
  have x4 := Joins.cell_of_block P0 4
  clear hres hoL hoD oL oD P0 BP q1 q2 qb HKB HU HP z6 zq0 zq1 zq2 hwl hw5
  have zq := size_of_block q0
  clear q0
  go_wp2_with (refine wpList_store_rowTo rfl 26 _ _ rfl rfl (w.heap.size + 1 + 1) #[.int .i64 k.room, .int .i64 k.per, .slice AL k.ls.length cL, .slice AD k.ds.length cD, .slice A7 n7 cap7] rfl rfl 26 _ P2 (by kernel_rfl) rfl (by kernel_rfl) ?_)
  refine bodyPost_ret (v := .agg #[.int .i64 k.room, .int .i64 k.per, .slice AL k.ls.length cL, .slice AD k.ds.length cD, .slice A7 n7 cap7]) ?_ rfl ⟨_, _, _, rfl, ⟨HQQ.out, HFR.out⟩, HBF.out⟩
  simp [results, Tryz.results129, go_sem, HPP.out]
theorem without_c (k : Kl) (v u : Value) (ids : List Int) (w : World) (hv : Kiln w v k) (hu : Ints w w.heap.size u ids) (hR : Right k) :
    Calls Tryz.prog 129 #[v, u] w fun e w' => ∃ x, e = .returned x ∧ Kiln w' x (lessK k ids) ∧ Below w.heap.size w w' :=
  (without_d k v u ids w hv hu hR).mono fun _ _ ⟨_, _, _, he, h, hb⟩ => ⟨_, he, h.1, hb⟩
end Go.Proofs.YtnedcclmfokdnaaGreat
namespace Go.Proofs.YtnedcclmfokdnaaGreat
open Go.RowKit
def hl (hs : List Int) (v : Int) : Int := hs.getD v.toNat 0
def keepsB (l : List Tie) (hs : List Int) : Bool := l.all fun t => decide (hl hs t.too - hl hs t.frm ≤ t.most)
theorem keeps_of {l : List Tie} {hs : List Int} (h : keepsB l hs = true) : Keeps l (hl hs) := fun t ht => by
  have := List.all_eq_true.1 h t ht
  simpa using this
theorem dst_by {l : List Tie} {ps hs : List Int} {a b s : Int} (h1 : walkI l ps a 0 = some (b, s)) (h2 : keepsB l hs = true) (h3 : hl hs b - hl hs a = s) : dst l a b = s := by
  obtain ⟨p, p1, p2, p3, _⟩ := walk_chain ps a 0 b s h1
  rw [dst_keeps (keeps_of h2) p1 p2 (by omega), h3]
theorem can_by {l : List Tie} (hs : List Int) (h : keepsB l hs = true) : Can l := ⟨hl hs, keeps_of h⟩
theorem cant_by {l : List Tie} (ps : List Int) {a s : Int} (h : walkI l ps a 0 = some (a, s)) (hs : s < 0) : ¬ Can l := by
  obtain ⟨c, hc⟩ := walk_circle h hs
  exact can_circle hc
def exK : Kl := ⟨100, 10, [⟨1, 0, 20, 30⟩, ⟨2, 2, 10, 15⟩, ⟨3, 5, 20, 40⟩], [⟨11, 4, 15, 18⟩, ⟨12, 8, 20, 25⟩], [⟨21, 1, 1, 2, 36, 40⟩, ⟨22, 3, 6, 0, 50, 55⟩]⟩
def exC : Kl := ⟨100, 10, [⟨1, 0, 20, 30⟩, ⟨2, 2, 10, 15⟩, ⟨3, 5, 20, 40⟩], [⟨11, 4, 15, 18⟩, ⟨12, 8, 20, 25⟩], [⟨21, 1, 1, 2, 36, 40⟩, ⟨22, 3, 6, 0, 50, 55⟩, ⟨23, 1, 1, 1, 31, 33⟩]⟩
def exT : List Tie := [⟨0, 1, 30, 1⟩, ⟨1, 0, (-20), 1⟩, ⟨1, 2, 15, 2⟩, ⟨2, 1, (-10), 2⟩, ⟨2, 3, 40, 3⟩, ⟨3, 2, (-20), 3⟩, ⟨0, 4, 18, 11⟩, ⟨4, 0, (-15), 11⟩, ⟨4, 5, 25, 12⟩, ⟨5, 4, (-20), 12⟩, ⟨0, 2, 40, 21⟩, ⟨2, 0, (-36), 21⟩, ⟨4, 3, 55, 22⟩, ⟨3, 4, (-50), 22⟩, ⟨2, 4, 0, 0⟩, ⟨3, 5, 0, 0⟩, ⟨0, 1, 100, 0⟩, ⟨0, 2, 100, 0⟩, ⟨4, 3, 100, 0⟩]
theorem ex_ties : tiesL exK = exT := by kernel_rfl
theorem ex_check : checkI exK = 0 := by kernel_rfl
theorem exc_check : checkI exC = 0 := by kernel_rfl
theorem ex_can : Can exT := can_by [0, 30, 40, 73, 18, 43] (by kernel_rfl)
theorem ex_canB : canB (tiesL exK) = true := by rw [ex_ties, canB_true]; exact ex_can
theorem ex_dst_0_1 : dst exT 0 1 = 30 := dst_by (ps := [0]) (hs := [0, 30, 40, 73, 18, 43]) (by kernel_rfl) (by kernel_rfl) (by kernel_rfl)
theorem ex_dst_1_0 : dst exT 1 0 = -21 := dst_by (ps := [2, 11]) (hs := [-21, 0, 15, 52, -3, 22]) (by kernel_rfl) (by kernel_rfl) (by kernel_rfl)
theorem ex_betw_0_1 : betw exK 0 1 = ((21, 30), 0) := by
  unfold betw; rw [if_pos ex_canB, ex_ties, ex_dst_0_1, ex_dst_1_0]; rfl
theorem ex_weight1 : weightE exK 1 = ((21, 30), 0) := by
  have h : weightE exK 1 = betw exK 0 1 := by kernel_rfl
  rw [h, ex_betw_0_1]
theorem ex_dst_2_3 : dst exT 2 3 = 37 := dst_by (ps := [11, 6, 12]) (hs := [-36, -10, 0, 37, -18, 7]) (by kernel_rfl) (by kernel_rfl) (by kernel_rfl)
theorem ex_dst_3_2 : dst exT 3 2 = -25 := dst_by (ps := [13, 7, 10]) (hs := [-65, -35, -25, 0, -50, -25]) (by kernel_rfl) (by kernel_rfl) (by kernel_rfl)
theorem ex_betw_2_3 : betw exK 2 3 = ((25, 37), 0) := by
  unfold betw; rw [if_pos ex_canB, ex_ties, ex_dst_2_3, ex_dst_3_2]; rfl
theorem ex_weight3 : weightE exK 3 = ((25, 37), 0) := by
  have h : weightE exK 3 = betw exK 2 3 := by kernel_rfl
  rw [h, ex_betw_2_3]
theorem ex_dst_4_2 : dst exT 4 2 = 25 := dst_by (ps := [7, 10]) (hs := [-15, 15, 25, 55, 0, 25]) (by kernel_rfl) (by kernel_rfl) (by kernel_rfl)
theorem ex_dst_2_4 : dst exT 2 4 = -18 := dst_by (ps := [11, 6]) (hs := [-36, -10, 0, 37, -18, 7]) (by kernel_rfl) (by kernel_rfl) (by kernel_rfl)
theorem ex_betw_4_2 : betw exK 4 2 = ((18, 25), 0) := by
  unfold betw; rw [if_pos ex_canB, ex_ties, ex_dst_4_2, ex_dst_2_4]; rfl
theorem ex_held : heldE exK 4 = ((18, 25), 0) := by
  have h : heldE exK 4 = betw exK 4 2 := by kernel_rfl
  rw [h, ex_betw_4_2]
theorem ex_below : belowE exK 3 6 = ((18, 25), 0) := by
  have h : belowE exK 3 6 = betw exK 4 2 := by kernel_rfl
  rw [h, ex_betw_4_2]
theorem ex_feet : feetE exK 3 6 = ((1, 2), 0) := by
  unfold feetE; rw [ex_below]; kernel_rfl
theorem ex_dst_5_0 : dst exT 5 0 = -35 := dst_by (ps := [9, 7]) (hs := [-35, -5, 5, 35, -20, 0]) (by kernel_rfl) (by kernel_rfl) (by kernel_rfl)
theorem ex_dst_1_4 : dst exT 1 4 = -3 := dst_by (ps := [2, 11, 6]) (hs := [-21, 0, 15, 52, -3, 22]) (by kernel_rfl) (by kernel_rfl) (by kernel_rfl)
theorem ex_dst_5_4 : dst exT 5 4 = -20 := dst_by (ps := [9]) (hs := [-35, -5, 5, 35, -20, 0]) (by kernel_rfl) (by kernel_rfl) (by kernel_rfl)
theorem ex_least_0_1 : leastZ exT (loadP 0) (drawP exK 1) = 3 := by
  have h : leastZ exT (loadP 0) (drawP exK 1) = max 0 (min (min (-(dst exT 1 0)) (-(dst exT 5 0))) (min (-(dst exT 1 4)) (-(dst exT 5 4)))) := rfl
  rw [h, ex_dst_1_0, ex_dst_5_0, ex_dst_1_4, ex_dst_5_4]; rfl
theorem ex_some_0_1 : CanZ exT (loadP 0) (drawP exK 1) 1 := can_by [0, 30, 40, 73, 18, 43] (by kernel_rfl)
theorem ex_dst_2_1 : dst exT 2 1 = -10 := dst_by (ps := [3]) (hs := [-36, -10, 0, 37, -18, 7]) (by kernel_rfl) (by kernel_rfl) (by kernel_rfl)
theorem ex_dst_5_1 : dst exT 5 1 = -5 := dst_by (ps := [9, 7, 0]) (hs := [-35, -5, 5, 35, -20, 0]) (by kernel_rfl) (by kernel_rfl) (by kernel_rfl)
theorem ex_least_1_1 : leastZ exT (loadP 1) (drawP exK 1) = 5 := by
  have h : leastZ exT (loadP 1) (drawP exK 1) = max 0 (min (min (-(dst exT 2 1)) (-(dst exT 5 1))) (min (-(dst exT 2 4)) (-(dst exT 5 4)))) := rfl
  rw [h, ex_dst_2_1, ex_dst_5_1, ex_dst_2_4, ex_dst_5_4]; rfl
theorem ex_some_1_1 : CanZ exT (loadP 1) (drawP exK 1) 1 := can_by [0, 30, 40, 73, 18, 43] (by kernel_rfl)
theorem ex_most_1_1 : mostZ exT (loadP 1) (drawP exK 1) = 15 := mostZ_of ⟨by omega, .inr (can_by [0, 25, 40, 73, 18, 43] (by kernel_rfl)), .inr (cant_by [19, 2] (a := 2) (s := -1) (by kernel_rfl) (by omega))⟩
theorem ex_took_2 : tookE exK 12 2 = ((5, 15), 0) := by
  have h : tookE exK 12 2 = if canB (tiesL exK) = true then ((leastZ (tiesL exK) (loadP 1) (drawP exK 1), mostZ (tiesL exK) (loadP 1) (drawP exK 1)), 0) else ((0, 0), 9) := by kernel_rfl
  rw [h, if_pos ex_canB, ex_ties, ex_least_1_1, ex_most_1_1]
theorem ex_dst_5_2 : dst exT 5 2 = 5 := dst_by (ps := [9, 7, 10]) (hs := [-35, -5, 5, 35, -20, 0]) (by kernel_rfl) (by kernel_rfl) (by kernel_rfl)
theorem ex_dst_3_4 : dst exT 3 4 = -50 := dst_by (ps := [13]) (hs := [-65, -35, -25, 0, -50, -25]) (by kernel_rfl) (by kernel_rfl) (by kernel_rfl)
theorem ex_least_2_1 : leastZ exT (loadP 2) (drawP exK 1) = 0 := by
  have h : leastZ exT (loadP 2) (drawP exK 1) = max 0 (min (min (-(dst exT 3 2)) (-(dst exT 5 2))) (min (-(dst exT 3 4)) (-(dst exT 5 4)))) := rfl
  rw [h, ex_dst_3_2, ex_dst_5_2, ex_dst_3_4, ex_dst_5_4]; rfl
theorem ex_some_2_1 : CanZ exT (loadP 2) (drawP exK 1) 1 := can_by [0, 30, 40, 73, 18, 43] (by kernel_rfl)
theorem ex_most_2_1 : mostZ exT (loadP 2) (drawP exK 1) = 7 := mostZ_of ⟨by omega, .inr (can_by [0, 26, 36, 73, 18, 43] (by kernel_rfl)), .inr (cant_by [11, 6, 8, 20] (a := 2) (s := -1) (by kernel_rfl) (by omega))⟩
theorem ex_took_3 : tookE exK 12 3 = ((0, 7), 0) := by
  have h : tookE exK 12 3 = if canB (tiesL exK) = true then ((leastZ (tiesL exK) (loadP 2) (drawP exK 1), mostZ (tiesL exK) (loadP 2) (drawP exK 1)), 0) else ((0, 0), 9) := by kernel_rfl
  rw [h, if_pos ex_canB, ex_ties, ex_least_2_1, ex_most_2_1]
theorem ex_sourceE : sourceE exK 12 = 0 := by
  have h : sourceE exK 12 = if canB (tiesL exK) = true then 0 else 9 := by kernel_rfl
  rw [h, if_pos ex_canB]
theorem ex_sourceS : sourceS exK 12 = [1, 2] := by
  unfold sourceS
  rw [if_pos ex_sourceE, ex_ties]
  have h : sureL exT exK.ls 0 (drawP exK (place exK.ds 12)) exK.ls.length = (if 0 < leastZ exT (loadP 0) (drawP exK 1) then [1] else []) ++ ((if 0 < leastZ exT (loadP 1) (drawP exK 1) then [2] else []) ++ ((if 0 < leastZ exT (loadP 2) (drawP exK 1) then [3] else []) ++ [])) := by kernel_rfl
  rw [h, ex_least_0_1, ex_least_1_1, ex_least_2_1]
  rfl
theorem ex_sourceM : sourceM exK 12 = [1, 2, 3] := by
  unfold sourceM
  rw [if_pos ex_sourceE, ex_ties]
  have h : someL exT exK.ls 0 (drawP exK (place exK.ds 12)) exK.ls.length = (if 0 < mostZ exT (loadP 0) (drawP exK 1) then [1] else []) ++ ((if 0 < mostZ exT (loadP 1) (drawP exK 1) then [2] else []) ++ ((if 0 < mostZ exT (loadP 2) (drawP exK 1) then [3] else []) ++ [])) := by kernel_rfl
  rw [h, if_pos (mostZ_pos.2 ex_some_0_1), if_pos (mostZ_pos.2 ex_some_1_1), if_pos (mostZ_pos.2 ex_some_2_1)]
  rfl
theorem ex_dst_0_3 : dst exT 0 3 = 73 := dst_by (ps := [6, 12]) (hs := [0, 30, 40, 73, 18, 43]) (by kernel_rfl) (by kernel_rfl) (by kernel_rfl)
theorem ex_mostE : mostE exK 0 3 = (73, 0) := by
  have h : mostE exK 0 3 = if canB (tiesL exK) = true then (dst (tiesL exK) 0 3, 0) else (0, 9) := by kernel_rfl
  rw [h, if_pos ex_canB, ex_ties, ex_dst_0_3]
theorem ex_less_21 : dst (tiesL (lessK exK [21])) 0 3 = 73 := by
  have h : tiesL (lessK exK [21]) = [⟨0, 1, 30, 1⟩, ⟨1, 0, (-20), 1⟩, ⟨1, 2, 15, 2⟩, ⟨2, 1, (-10), 2⟩, ⟨2, 3, 40, 3⟩, ⟨3, 2, (-20), 3⟩, ⟨0, 4, 18, 11⟩, ⟨4, 0, (-15), 11⟩, ⟨4, 5, 25, 12⟩, ⟨5, 4, (-20), 12⟩, ⟨4, 3, 55, 22⟩, ⟨3, 4, (-50), 22⟩, ⟨2, 4, 0, 0⟩, ⟨3, 5, 0, 0⟩, ⟨0, 1, 100, 0⟩, ⟨0, 2, 100, 0⟩, ⟨4, 3, 100, 0⟩] := by kernel_rfl
  rw [h]
  exact dst_by (ps := [6, 10]) (hs := [0, 30, 45, 73, 18, 43]) (by kernel_rfl) (by kernel_rfl) (by kernel_rfl)
theorem ex_other_21 : otherB exK 0 3 (lessK exK [21]) = false := by
  unfold otherB; rw [ex_less_21, ex_ties, ex_dst_0_3]; simp
theorem ex_less_22 : dst (tiesL (lessK exK [22])) 0 3 = 80 := by
  have h : tiesL (lessK exK [22]) = [⟨0, 1, 30, 1⟩, ⟨1, 0, (-20), 1⟩, ⟨1, 2, 15, 2⟩, ⟨2, 1, (-10), 2⟩, ⟨2, 3, 40, 3⟩, ⟨3, 2, (-20), 3⟩, ⟨0, 4, 18, 11⟩, ⟨4, 0, (-15), 11⟩, ⟨4, 5, 25, 12⟩, ⟨5, 4, (-20), 12⟩, ⟨0, 2, 40, 21⟩, ⟨2, 0, (-36), 21⟩, ⟨2, 4, 0, 0⟩, ⟨3, 5, 0, 0⟩, ⟨0, 1, 100, 0⟩, ⟨0, 2, 100, 0⟩, ⟨4, 3, 100, 0⟩] := by kernel_rfl
  rw [h]
  exact dst_by (ps := [10, 4]) (hs := [0, 30, 40, 80, 18, 43]) (by kernel_rfl) (by kernel_rfl) (by kernel_rfl)
theorem ex_other_22 : otherB exK 0 3 (lessK exK [22]) = true := by
  unfold otherB; rw [ex_less_22, ex_ties, ex_dst_0_3]; simp
theorem ex_rests : restsL exK 0 3 = [22] := by
  unfold restsL
  rw [ex_mostE, if_pos rfl]
  have h : needL exK (otherB exK 0 3) exK.ws.length = [⟨21, 1, 1, 2, 36, 40⟩, (⟨22, 3, 6, 0, 50, 55⟩ : Wg)].filterMap fun g => if otherB exK 0 3 (lessK exK [g.id]) then some g.id else none := rfl
  rw [h]
  simp only [List.filterMap_cons, List.filterMap_nil, ex_other_21, ex_other_22, if_true, Bool.false_eq_true, if_false]
  rfl
theorem exc_cant : ¬ Can (tiesL exC) := cant_by [15, 0] (a := 1) (s := -1) (by kernel_rfl) (by omega)
theorem exc_canB : canB (tiesL exC) = false := canB_false.2 exc_cant
theorem exc_find : findE exC = 9 := by unfold findE; rw [if_neg (by rw [exc_check]; simp), exc_canB]; rfl
theorem exc_clash : clashB exC = true := by unfold clashB; rw [exc_canB, exc_check]; rfl
end Go.Proofs.YtnedcclmfokdnaaGreat
namespace Go.Proofs.YtnedcclmfokdnaaGreat
open Go Go.RowKit Go.Shelf
attribute [local go_sem] Oper.semAt_some Rel RelAt RelUpon
set_option maxRecDepth 100000 in
set_option maxHeartbeats 4000000 in
theorem Sources_c (k : Kl) (v : Value) (id : Int) (w : World) (hv : Kiln w v k) :
    Calls Tryz.prog 49 #[v, .int .i64 id] w fun e w' => ∃ u1 u2, e = .returned (.tuple #[u1, u2, .int .i64 (sourceE k id)]) ∧
      (w'.ownsRow w.heap.size 3 1 u1 (sourceS k id).length ((sourceS k id).map (Value.int .i64)) ∧ w'.ownsRow w.heap.size 3 1 u2 (sourceM k id).length ((sourceM k id).map (Value.int .i64))) ∧ Below w.heap.size w w' := by
  obtain ⟨A1, c1, A2, c2, A3, c3, rfl⟩ := kilnForm hv
  have q0 := heap_alloc_new w (.cells #[.int .i64 k.room, .int .i64 k.per, .slice A1 k.ls.length c1, .slice A2 k.ds.length c2, .slice A3 k.ws.length c3] 26)
  have qb := below_alloc w (.cells #[.int .i64 k.room, .int .i64 k.per, .slice A1 k.ls.length c1, .slice A2 k.ds.length c2, .slice A3 k.ws.length c3] 26)
  have hk := hv.later qb
  clear hv
  go_enter Tryz.func49, Tryz.ntmps49
  have y0 := Joins.cell_of_block q0 0
  have y1 := Joins.cell_of_block q0 1
  have y2 := Joins.cell_of_block q0 2
  have y3 := Joins.cell_of_block q0 3
  have y4 := Joins.cell_of_block q0 4
  go_wp2_with fail
  generalize w.alloc _ = W1 at q0 qb hk ⊢
  refine (check_c k _ W1 hk).mono ?_
  rintro e W2 ⟨rfl, hF⟩
  replace q0 := (hF.block _ (size_of_block q0)).trans q0
  replace qb := below_then qb hF
  replace hk := hk.later hF
  clear hF y0 y1 y2 y3 y4
  by_cases h0 : checkI k = 0
  · have d0 : (checkI k != 0) = false := by rw [h0]; rfl
    have HR := Lib.hid (right_of_check h0)
    have HMC := Lib.hid (fun W hW => metL_c k A1 A2 A3 c1 c2 c3 id W hW HR.out)
    clear h0
    obtain ⟨E0, hE0⟩ : ∃ x, x = sourceE k id := ⟨_, rfl⟩
    obtain ⟨S0, hS0⟩ : ∃ x, x = sourceS k id := ⟨_, rfl⟩
    obtain ⟨M0, hM0⟩ : ∃ x, x = sourceM k id := ⟨_, rfl⟩
    rw [← hE0, ← hS0, ← hM0] at HMC
    have HE0 := Lib.hid hE0
    have HS0 := Lib.hid hS0
    have HM0 := Lib.hid hM0
    clear hE0 hS0 hM0
    have y0 := Joins.cell_of_block q0 0
    have y1 := Joins.cell_of_block q0 1
    have y2 := Joins.cell_of_block q0 2
    have y3 := Joins.cell_of_block q0 3
    have y4 := Joins.cell_of_block q0 4
    go_wp2_with fail
    refine wp_region_looseM [5] [0, 1, 3] (.one 2 (.one 4 (.one 6 .done))) [] [7, 8, 9] [10, 11, 12] [] [] (by kernel_rfl) (by kernel_rfl) (by intro c a d v w h; cases d <;> exact h) (by intro c a d v w h; cases d <;> exact h) rfl (fun r i h => by simp at h) ?_
    simp only [pick, List.filterMap_cons, List.filterMap_nil, List.getElem?_toArray, List.getElem?_cons_succ, List.getElem?_cons_zero]
    refine wpPure_step (.int .i64 id) rfl (fun u => by first | rfl | kernel_rfl | simp [execOp, go_sem]) ?_
    intro u1 hu1
    replace q0 := (hu1.block _ (size_of_block q0)).trans q0
    replace hk := hk.later hu1
    replace qb := below_then qb hu1
    have cq00 := Joins.cell_of_block q0 0
    have cq01 := Joins.cell_of_block q0 1
    have cq02 := Joins.cell_of_block q0 2
    have cq03 := Joins.cell_of_block q0 3
    have cq04 := Joins.cell_of_block q0 4
    have zq0 := size_of_block q0
    have hcg : ∀ (g : Gr u1) b o, b < u1.heap.size → g.val.cell? ⟨b, o, none⟩ = u1.cell? ⟨b, o, none⟩ := fun g b o h => (bcell g.b).1 b o h
    iterate 3 (refine wpRel_step (fun K hK => ?_); go_simp; refine hK _ ?_; clear hK K)
    refine wpRel_nil fun V1_0 hb1 => ?_
    clear hcg cq00 cq01 cq02 cq03 cq04 zq0
    replace q0 := (hb1.block _ (size_of_block q0)).trans q0
    replace hk := hk.later hb1
    replace qb := below_then qb hb1
    clear hb1 hu1
    refine wpTr_step rfl rfl fun K hK => ?_
    go_simp
    refine (loadsV _ _ _ _ _ _ _ V1_0).mono ?_
    rintro e X ⟨rfl, hx⟩
    refine hK _ _ hx fun V1_1 hu => ?_
    clear hK K
    have hxu := below_then hx hu
    replace q0 := (hxu.block _ (size_of_block q0)).trans q0
    replace hk := hk.later hxu
    replace qb := below_then qb hxu
    clear hx hu hxu
    refine wpTr_step rfl rfl fun K hK => ?_
    go_simp
    refine (drawsV _ _ _ _ _ _ _ _ _ V1_1).mono ?_
    rintro e X ⟨rfl, hx⟩
    refine hK _ _ hx fun V1_2 hu => ?_
    clear hK K
    have hxu := below_then hx hu
    replace q0 := (hxu.block _ (size_of_block q0)).trans q0
    replace hk := hk.later hxu
    replace qb := below_then qb hxu
    clear hx hu hxu
    refine wpTr_step rfl rfl fun K hK => ?_
    go_simp
    refine (HMC.out V1_2 hk).mono ?_
    rintro e X ⟨u1, u2, rfl, ⟨hO1, hO2⟩, hx⟩
    replace hO1 := own_less hO1 qb.size
    replace hO2 := own_less hO2 qb.size
    refine hK _ _ hx fun V1_3 hu => ?_
    clear hK K
    have hxu := below_then hx hu
    replace hO1 := own_later hO1 hu
    replace hO2 := own_later hO2 hu
    replace q0 := (hxu.block _ (size_of_block q0)).trans q0
    replace hk := hk.later hxu
    replace qb := below_then qb hxu
    clear hx hu hxu
    show wpPure _ _ _ _
    refine wpPure_step (u1) rfl (fun u => rfl) ?_
    refine wpPure_step (u2) rfl (fun u => rfl) ?_
    refine wpPure_step (.int .i64 E0) rfl (fun u => rfl) ?_
    intro ks hks _ _
    obtain rfl : ks = [] := List.length_eq_zero_iff.1 hks
    clear hks
    show wpList _ _ _ _ _ _
    simp only [deco]
    clear hk q0
    go_wp2_with fail
    refine bodyPost_ret (v := .tuple #[u1, u2, .int .i64 E0]) ?_ rfl ⟨u1, u2, by rw [HE0.out], ⟨by rw [← HS0.out]; exact hO1, by rw [← HM0.out]; exact hO2⟩, qb⟩
    simp [results, Tryz.results49, go_sem]
  · have d0 : (checkI k != 0) = true := by simpa using h0
    have HEE := Lib.hid (show sourceE k id = checkI k by unfold sourceE pairE; rw [if_pos h0, if_pos h0])
    have HSS := Lib.hid (show sourceS k id = [] ∧ sourceM k id = [] by unfold sourceS sourceM; rw [HEE.out, if_neg h0, if_neg h0]; exact ⟨rfl, rfl⟩)
    clear h0 hk
    go_wp2_with fail
    refine bodyPost_ret (v := .tuple #[.slice none 0 0, .slice none 0 0, .int .i64 (checkI k)]) ?_ rfl ⟨_, _, by rw [HEE.out], ⟨by rw [HSS.out.1]; exact World.ownsRow_nil _ _ _ _, by rw [HSS.out.2]; exact World.ownsRow_nil _ _ _ _⟩, qb⟩
    simp [results, Tryz.results49, go_sem]
end Go.Proofs.YtnedcclmfokdnaaGreat
namespace Go.Proofs.YtnedcclmfokdnaaGreat
open Go Go.RowKit Go.Shelf
attribute [local go_sem] Oper.semAt_some Rel RelAt RelUpon
end Go.Proofs.YtnedcclmfokdnaaGreat
